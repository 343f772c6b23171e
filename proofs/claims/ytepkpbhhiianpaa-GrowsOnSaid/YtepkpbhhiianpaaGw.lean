/- Growths and swaps of tables: how they begin, their steps. -/
import Derived.Test.YtepkpbhhiianpaaWs
import Derived.Deep.Cut
import Derived.Deep.CutBlock
import Derived.Deep.RegionHeld3
namespace Go.Proofs.Ytepkpbhhiianpaa
open Go.RowKit Go.Maps
set_option linter.unusedVariables false
/-- The cells of either. -/
def gwC (s : Value) (o n : Int) : List Value := [s, .int .i64 o, .int .i64 n]
section
variable {G : Nat → Prop} {w W : World} {A : Ad} {V : Wv} {q b : Nat} {o n : Int} {a : Option Addr} {l c : Nat}
theorem gnoteW (h : WdG G w A V) (hM : V.M.length ≤ 1048576) (k r b c d v : Int) :
    Calls Try.prog 84 #[.pointer (some ⟨A.p, 0, none⟩), .int .u8 k, .int .i64 r, .agg #[.int .i64 b, .int .i64 c, .int .i64 d], .int .i64 v] w fun e w' => e = .returned (.tuple #[]) ∧ WdG G w' A (V.note (V.cnt, V.h, k, r, b, c, d, v)) ∧ Kp G w w' := by
  obtain ⟨S, h1, h2, h3⟩ := h
  exact (wnote h1 hM k r b c d v).mono fun e w' ⟨he, hp⟩ => ⟨he, WdG.post h2 h3 hp⟩
/-- A block's type, and how many cells it has. -/
def Shp (w : World) (q : Nat) (t : TypeId) : Prop := w.shape? q = some (t, 3)
theorem Shp.lt {t : TypeId} (h : Shp w q t) : q < w.heap.size := by
  rcases Nat.lt_or_ge q w.heap.size with hl | hl
  · exact hl
  · unfold Shp World.shape? at h
    rw [Array.getElem?_eq_none hl] at h
    simp at h
theorem Shp.keep {t : TypeId} {T : Nat → Prop} (h : Shp w q t) (hk : Keeps T w W) (hT : ¬ T q) : Shp W q t := by
  have hl := h.lt
  unfold Shp World.shape? at *
  rw [hk.block q hl hT]
  exact h
theorem Shp.new {t : TypeId} (h : Shp w q t) (hb : Below w.heap.size w W) : Shp W q t := h.keep (T := fun _ => False) (Keeps.of_new hb) (fun s => s)
theorem Shp.set {t : TypeId} (h : Shp w q t) (p : Addr) (u : Value) : Shp (w.setCell p u) q t := by
  unfold Shp World.shape? at *
  cases hq : w.heap[q]? with
  | none => rw [hq] at h; simp at h
  | some o =>
    rw [hq] at h
    cases o with
    | cells c el fr =>
      simp at h
      obtain ⟨h1, h2⟩ := h
      unfold World.setCell
      simp only [Array.getElem?_modify]
      by_cases hpq : p.block = q
      · by_cases hs : p.spot.isSome
        · simp [hpq, hq, hs, h1, h2]
        · simp [hpq, hq, hs, h1, h2]
      · simp [hpq, hq, h1, h2]
    | _ => simp at h
theorem shp_new {n : Nat} {C : Array Value} {t : TypeId} (hn : n = W.heap.size) (hC : C.size = 3) : Shp (W.alloc (.cells C t)) n t := by
  subst hn
  unfold Shp World.shape?
  rw [heap_alloc_new]
  simp [hC]
theorem part_g (h : Shp w q 110) : (partAt ⟨q, 0, none⟩ 3 40).run Try.prog w = .ok ⟨q, 3, some 40⟩ w := by
  have e1 : byteOfCell Try.prog Try.prog.depth 110 0 = some 0 := by kernel_rfl
  have e2 : Try.prog.cellsOf 110 = 3 := by kernel_rfl
  have e3 : Try.prog.bytesOf 110 = 48 := by kernel_rfl
  unfold Shp at h
  simp [partAt, byteOf, noView, viewAt, h, e1, e2, e3]
theorem part_s (h : Shp w q 102) : (partAt ⟨q, 0, none⟩ 3 40).run Try.prog w = .ok ⟨q, 3, some 40⟩ w := by
  have e1 : byteOfCell Try.prog Try.prog.depth 102 0 = some 0 := by kernel_rfl
  have e2 : Try.prog.cellsOf 102 = 3 := by kernel_rfl
  have e3 : Try.prog.bytesOf 102 = 48 := by kernel_rfl
  unfold Shp at h
  simp [partAt, byteOf, noView, viewAt, h, e1, e2, e3]
theorem gcov_t (h : Ob w q (gwC (.slice a 0 c) o n)) : Calls Try.prog 45 #[.pointer (some ⟨q, 0, none⟩)] w fun e w' => e = .returned (.bool true) ∧ w = w' := by
  have c0 := h.at_ 0 _ rfl
  clear h
  go_enter Try.func45, Try.ntmps45
  go_wp2_with fail
  go_ret
  exact ⟨rfl, rfl⟩
theorem gcov_f (h : Ob w q (gwC (.slice a l c) o n)) (hl : ((l : Int) == 0) = false) : Calls Try.prog 45 #[.pointer (some ⟨q, 0, none⟩)] w fun e w' => e = .returned (.bool false) ∧ w = w' := by
  have c0 := h.at_ 0 _ rfl
  have hl0 : 0 < l := by simp at hl; omega
  clear h
  go_enter Try.func45, Try.ntmps45
  go_wp2_with fail
  go_ret
  exact ⟨rfl, rfl⟩
theorem scov_t (h : Ob w q (gwC (.slice a 0 c) o n)) : Calls Try.prog 43 #[.pointer (some ⟨q, 0, none⟩)] w fun e w' => e = .returned (.bool true) ∧ w = w' := by
  have c0 := h.at_ 0 _ rfl
  clear h
  go_enter Try.func43, Try.ntmps43
  go_wp2_with fail
  go_ret
  exact ⟨rfl, rfl⟩
theorem scov_f (h : Ob w q (gwC (.slice a l c) o n)) (hl : ((l : Int) == 0) = false) : Calls Try.prog 43 #[.pointer (some ⟨q, 0, none⟩)] w fun e w' => e = .returned (.bool false) ∧ w = w' := by
  have c0 := h.at_ 0 _ rfl
  have hl0 : 0 < l := by simp at hl; omega
  clear h
  go_enter Try.func43, Try.ntmps43
  go_wp2_with fail
  go_ret
  exact ⟨rfl, rfl⟩
theorem gov_nil (w : World) : Calls Try.prog 23 #[.pointer none] w fun e w' => e = .returned (.bool true) ∧ w = w' := by
  go_enter Try.func23, Try.ntmps23
  go_wp2_with fail
  go_ret
  exact ⟨rfl, rfl⟩
theorem sov_nil (w : World) : Calls Try.prog 19 #[.pointer none] w fun e w' => e = .returned (.bool true) ∧ w = w' := by
  go_enter Try.func19, Try.ntmps19
  go_wp2_with fail
  go_ret
  exact ⟨rfl, rfl⟩
theorem gov_t (h : Ob w q (gwC (.slice a 0 c) o n)) : Calls Try.prog 23 #[.pointer (some ⟨q, 0, none⟩)] w fun e w' => e = .returned (.bool true) ∧ w = w' := by
  have C := Lib.hid (gcov_t h)
  clear h
  go_enter Try.func23, Try.ntmps23
  go_wp2_with (go_at_call 45; ((with_reducible refine C.out.mono ?_); rintro e w2 ⟨rfl, rfl⟩))
  go_ret
  exact ⟨rfl, rfl⟩
theorem gov_f (h : Ob w q (gwC (.slice a l c) o n)) (hl : ((l : Int) == 0) = false) : Calls Try.prog 23 #[.pointer (some ⟨q, 0, none⟩)] w fun e w' => e = .returned (.bool false) ∧ w = w' := by
  have C := Lib.hid (gcov_f h hl)
  clear h
  go_enter Try.func23, Try.ntmps23
  go_wp2_with (go_at_call 45; ((with_reducible refine C.out.mono ?_); rintro e w2 ⟨rfl, rfl⟩))
  go_ret
  exact ⟨rfl, rfl⟩
theorem sov_t (h : Ob w q (gwC (.slice a 0 c) o n)) : Calls Try.prog 19 #[.pointer (some ⟨q, 0, none⟩)] w fun e w' => e = .returned (.bool true) ∧ w = w' := by
  have C := Lib.hid (scov_t h)
  clear h
  go_enter Try.func19, Try.ntmps19
  go_wp2_with (go_at_call 43; ((with_reducible refine C.out.mono ?_); rintro e w2 ⟨rfl, rfl⟩))
  go_ret
  exact ⟨rfl, rfl⟩
theorem sov_f (h : Ob w q (gwC (.slice a l c) o n)) (hl : ((l : Int) == 0) = false) : Calls Try.prog 19 #[.pointer (some ⟨q, 0, none⟩)] w fun e w' => e = .returned (.bool false) ∧ w = w' := by
  have C := Lib.hid (scov_f h hl)
  clear h
  go_enter Try.func19, Try.ntmps19
  go_wp2_with (go_at_call 43; ((with_reducible refine C.out.mono ?_); rintro e w2 ⟨rfl, rfl⟩))
  go_ret
  exact ⟨rfl, rfl⟩
theorem gdo0 (h : WdG G w A V) (hc : V.cnt < 1000000000) :
    Calls Try.prog 121 #[.pointer (some ⟨q, 0, none⟩), .pointer (some ⟨A.p, 0, none⟩), .int .i64 0] w fun e w' => e = .returned (.tuple #[]) ∧ WdG G w' A (V.acc (upd V.f 3 0) 2 3 (V.f 3) 0) ∧ Kp G w w' := by
  have c0 := h.box.c0
  have CS := Lib.hid (gstore h (a := 3) (v := 0) ⟨by decide, by decide⟩ ⟨by decide, by decide⟩ hc)
  generalize V.acc (upd V.f 3 0) 2 3 (V.f 3) 0 = V' at *
  generalize V.f 3 = v at *
  clear h
  go_enter Try.func121, Try.ntmps121
  go_wp2_with (go_at_call 10; ((with_reducible refine CS.out.mono ?_); rintro e w2 ⟨rfl, hT, K2⟩; have HT := Lib.hid hT; have HK := Lib.hid K2; clear hT K2))
  go_end0
  exact ⟨rfl, HT.out, HK.out⟩
set_option maxHeartbeats 1000000 in
set_option maxRecDepth 100000 in
theorem gdo1 {t : Int} (h : WdG G w A V) (hq : G q) (c1 : w.cell? ⟨q, 1, none⟩ = some (.int .i64 o)) (c2 : w.cell? ⟨q, 2, none⟩ = some (.int .i64 n)) (hc : V.cnt < 1000000000) (ht : wordf o n = t) (hu : isU t) :
    Calls Try.prog 121 #[.pointer (some ⟨q, 0, none⟩), .pointer (some ⟨A.p, 0, none⟩), .int .i64 1] w fun e w' => e = .returned (.tuple #[]) ∧ WdG G w' A (V.acc (upd V.f 2 t) 2 2 (V.f 2) t) ∧ Kp G w w' := by
  have hd := h.new (Below.refl w.heap.size w).drew
  have p0 := hd.box.c0
  have t1 : w.drew.cell? ⟨q, 1, none⟩ = some (.int .i64 o) := c1
  have t2 : w.drew.cell? ⟨q, 2, none⟩ = some (.int .i64 n) := c2
  have cw := fun W => wordw8 o n W
  rw [ht] at cw
  have CW := Lib.hid cw
  have CS := Lib.hid (gstore hd (a := 2) (v := t) ⟨by decide, by decide⟩ hu hc)
  have HQ := Lib.hid hq
  generalize V.acc (upd V.f 2 t) 2 2 (V.f 2) t = V' at *
  generalize V.f 2 = v at *
  clear hd h cw ht c1 c2 hq
  go_enter Try.func121, Try.ntmps121
  go_wp2_with fail
  go_region_held3 (fun X => X.cell? ⟨A.p, 0, none⟩ = some (.pointer (some ⟨A.pc, 0, none⟩)) ∧ X.cell? ⟨q, 1, none⟩ = some (.int .i64 o) ∧ X.cell? ⟨q, 2, none⟩ = some (.int .i64 n))
    (first | exact ⟨by assumption, by assumption, by assumption⟩)
    (first
      | (go_at_call 58; ((with_reducible refine (CW.out _).mono ?_); rintro e w2 ⟨rfl, rfl⟩))
      | (go_at_call 10; ((with_reducible refine CS.out.mono ?_); rintro e w3 ⟨rfl, hT, K2⟩; replace p0 := hT.box.c0; replace t1 := K2.cell (p := ⟨q, 1, none⟩) (fun n => n HQ.out) t1; replace t2 := K2.cell (p := ⟨q, 2, none⟩) (fun n => n HQ.out) t2; have HT := Lib.hid hT; have HK := Lib.hid K2; clear hT K2)))
  clear p0 t1 t2
  go_wp2_with fail
  go_end0
  exact ⟨rfl, HT.out, Kp.to (Keeps.drew (Keeps.refl _ _)) HK.out⟩
set_option maxHeartbeats 1000000 in
set_option maxRecDepth 100000 in
theorem sdo2 {t : Int} (h : WdG G w A V) (hq : G q) (c1 : w.cell? ⟨q, 1, none⟩ = some (.int .i64 o)) (c2 : w.cell? ⟨q, 2, none⟩ = some (.int .i64 n)) (hc : V.cnt < 1000000000) (ht : wordf n 0 = t) (hu : isU t) :
    Calls Try.prog 118 #[.pointer (some ⟨q, 0, none⟩), .pointer (some ⟨A.p, 0, none⟩), .int .i64 2] w fun e w' => e = .returned (.tuple #[]) ∧ WdG G w' A (V.acc (upd V.f 2 t) 2 2 (V.f 2) t) ∧ Kp G w w' := by
  have hd := h.new (Below.refl w.heap.size w).drew
  have p0 := hd.box.c0
  have t1 : w.drew.cell? ⟨q, 1, none⟩ = some (.int .i64 o) := c1
  have t2 : w.drew.cell? ⟨q, 2, none⟩ = some (.int .i64 n) := c2
  have cw := fun W => wordw8 n 0 W
  rw [ht] at cw
  have CW := Lib.hid cw
  have CS := Lib.hid (gstore hd (a := 2) (v := t) ⟨by decide, by decide⟩ hu hc)
  have HQ := Lib.hid hq
  generalize V.acc (upd V.f 2 t) 2 2 (V.f 2) t = V' at *
  generalize V.f 2 = v at *
  clear hd h cw ht c1 c2 hq
  go_enter Try.func118, Try.ntmps118
  go_wp2_with fail
  go_region_held3 (fun X => X.cell? ⟨A.p, 0, none⟩ = some (.pointer (some ⟨A.pc, 0, none⟩)) ∧ X.cell? ⟨q, 1, none⟩ = some (.int .i64 o) ∧ X.cell? ⟨q, 2, none⟩ = some (.int .i64 n))
    (first | exact ⟨by assumption, by assumption, by assumption⟩)
    (first
      | (go_at_call 58; ((with_reducible refine (CW.out _).mono ?_); rintro e w2 ⟨rfl, rfl⟩))
      | (go_at_call 10; ((with_reducible refine CS.out.mono ?_); rintro e w3 ⟨rfl, hT, K2⟩; replace p0 := hT.box.c0; replace t1 := K2.cell (p := ⟨q, 1, none⟩) (fun n => n HQ.out) t1; replace t2 := K2.cell (p := ⟨q, 2, none⟩) (fun n => n HQ.out) t2; have HT := Lib.hid hT; have HK := Lib.hid K2; clear hT K2)))
  clear p0 t1 t2
  go_wp2_with fail
  go_end0
  exact ⟨rfl, HT.out, Kp.to (Keeps.drew (Keeps.refl _ _)) HK.out⟩
theorem gkind (w : World) : Calls Try.prog 128 #[.agg #[]] w fun e w' => e = .returned (.int .u8 4) ∧ Below w.heap.size w w' := by
  go_enter Try.func128, Try.ntmps128
  go_wp2_with fail
  go_ret
  exact ⟨rfl, (Below.refl _ _).alloc (Nat.le_refl _) _⟩
theorem skind (w : World) : Calls Try.prog 127 #[.agg #[]] w fun e w' => e = .returned (.int .u8 5) ∧ Below w.heap.size w w' := by
  go_enter Try.func127, Try.ntmps127
  go_wp2_with fail
  go_ret
  exact ⟨rfl, (Below.refl _ _).alloc (Nat.le_refl _) _⟩
set_option maxHeartbeats 2000000 in
set_option maxRecDepth 100000 in
theorem gcstep1 {t : Int} (h : Opw G w A V q (gwC (.slice (some ⟨b, 1, none⟩) 1 1) o n)) (hs : Shp w q 110) (cb : w.cell? ⟨b, 1, none⟩ = some (.int .i64 1)) (hc : V.cnt < 1000000000) (hM : V.M.length ≤ 1048576) (ht : wordf o n = t) (hu : isU t) :
    Calls Try.prog 120 #[.pointer (some ⟨q, 0, none⟩), .pointer (some ⟨A.p, 0, none⟩)] w fun e w' => e = .returned (.bool true) ∧ Opw G w' A ((V.acc (upd V.f 2 t) 2 2 (V.f 2) t).note (V.cnt + 1, V.h, 4, 0, 0, 0, 0, n)) q (gwC (.slice (some ⟨b, 1, none⟩) 0 0) o n) ∧ Shp w' q 110 ∧ Kp G w w' := by
  have C1 := Lib.hid (gcov_f h.ob (by decide))
  have hG : ¬ G q := by obtain ⟨S, h1, h2, h3, h4, h5, h6⟩ := h; exact h5
  have HG := Lib.hid hG
  have C2 := Lib.hid (gdo1 h.wdG (.inr rfl) (h.ob.at_ 1 _ rfl) (h.ob.at_ 2 _ rfl) hc ht hu)
  have c0 := h.ob.at_ 0 _ rfl
  obtain ⟨N, hN⟩ : ∃ N, (V.acc (upd V.f 2 t) 2 2 (V.f 2) t).note (V.cnt + 1, V.h, 4, 0, 0, 0, 0, n) = N := ⟨_, rfl⟩
  obtain ⟨V1, hV1⟩ : ∃ V1, V.acc (upd V.f 2 t) 2 2 (V.f 2) t = V1 := ⟨_, rfl⟩
  have HM1 := Lib.hid (show V1.M.length ≤ 1048576 by rw [← hV1]; exact hM)
  have HN := Lib.hid (show V1.note (V1.cnt, V1.h, 4, 0, 0, 0, 0, n) = N by rw [← hV1]; exact hN)
  have HO := Lib.hid h.ob
  have HS := Lib.hid hs
  rw [hV1] at C2
  rw [hN]
  clear h hM hN hV1 ht hu hc hs hG
  go_enter Try.func120, Try.ntmps120
  go_upto_region 4 with (first
    | (go_at_call 45; ((with_reducible refine C1.out.mono ?_); rintro e w2 ⟨rfl, rfl⟩))
    | (go_at_call 121; ((with_reducible refine C2.out.mono ?_); rintro e w3 ⟨rfl, h3, k3⟩; have o3 := HO.out.keep k3 (fun n => n (.inr rfl)); have S3 := Lib.hid (HS.out.keep k3 (fun n => n (.inr rfl))); have H3 := Lib.hid (Opw.of h3 o3 HG.out); have K3 := Lib.hid (k3.less (G' := G) (fun j g => .inl g)); replace c0 := o3.at_ 0 _ rfl; have f0 := o3.fz 0 (by simp [gwC]); clear cb h3 k3 o3)))
  go_upto_region 5 with fail
  obtain ⟨h4, k4⟩ := H3.out.set 0 (.slice (some ⟨b, 1, none⟩) 0 0) (by simp [gwC]) (C' := gwC (.slice (some ⟨b, 1, none⟩) 0 0) o n) rfl
  have s4 := S3.out.set ⟨q, 0, none⟩ (.slice (some ⟨b, 1, none⟩) 0 0)
  generalize World.setCell _ _ _ = w4 at *
  have C5 := Lib.hid (gcov_t h4.ob)
  have K4 := Lib.hid (Kp.to K3.out k4)
  have hd := (Below.refl w4.heap.size w4).drew
  have HD := Lib.hid hd
  have HK := Lib.hid (fun X (hb : Below w4.heap.size w4 X) => And.intro (h4.new hb) (s4.new hb))
  have c2 : w4.drew.cell? ⟨q, 2, none⟩ = some (.int .i64 n) := (h4.new hd).ob.at_ 2 _ rfl
  have pt := part_g (s4.new hd)
  clear c0 f0 k4 h4 hd s4
  go_upto_region 6 with (go_at_call 45; ((with_reducible refine C5.out.mono ?_); rintro e w2 ⟨rfl, rfl⟩))
  go_region_held3 (fun X => X.cell? ⟨q, 2, none⟩ = some (.int .i64 n) ∧ (partAt ⟨q, 0, none⟩ 3 40).run Try.prog X = .ok ⟨q, 3, some 40⟩ X)
    (first | exact ⟨by assumption, by assumption⟩)
    (first
      | (go_at_call 128; ((with_reducible refine (gkind _).mono ?_); rintro e w6 ⟨rfl, hb6⟩; have H6 := Lib.hid (HK.out _ (below_then HD.out hb6)); have K6 := Lib.hid (show Below w4.heap.size w4 w6 from below_then HD.out hb6); replace c2 := H6.out.1.ob.at_ 2 _ rfl; clear pt; have pt := part_g H6.out.2; have CN := Lib.hid (gnoteW H6.out.1.wdG HM1.out 4 0 0 0 0 n); clear hb6))
      | (go_at_call 84; ((with_reducible refine CN.out.mono ?_); rintro e w7 ⟨rfl, h7, k7⟩; have o7 := H6.out.1.ob.keep k7 (fun n => n (.inr rfl)); replace c2 := o7.at_ 2 _ rfl; have H7 := Lib.hid (Opw.of h7 o7 HG.out); have S7 := Lib.hid (H6.out.2.keep k7 (fun n => n (.inr rfl))); clear pt; have pt := part_g S7.out; have K7 := Lib.hid (Kp.to (Kp.to K4.out (Kp.of K6.out)) (k7.less (G' := G) (fun j g => .inl g))); clear h7 k7 o7)))
  all_goals
    have h8 := H7.out
    rw [HN.out] at h8
    have H8 := Lib.hid h8
    have C8 := Lib.hid (gcov_t h8.ob)
    clear h8 c2 pt
    go_wp2_with (go_at_call 45; ((with_reducible refine C8.out.mono ?_); rintro e w9 ⟨rfl, rfl⟩))
    go_ret
    exact ⟨rfl, H8.out, S7.out, K7.out⟩
set_option maxHeartbeats 2000000 in
set_option maxRecDepth 100000 in
theorem scstep1 {t : Int} (h : Opw G w A V q (gwC (.slice (some ⟨b, 0, none⟩) 1 1) o n)) (hs : Shp w q 102) (cb : w.cell? ⟨b, 0, none⟩ = some (.int .i64 2)) (hc : V.cnt < 1000000000) (hM : V.M.length ≤ 1048576) (ht : wordf n 0 = t) (hu : isU t) :
    Calls Try.prog 117 #[.pointer (some ⟨q, 0, none⟩), .pointer (some ⟨A.p, 0, none⟩)] w fun e w' => e = .returned (.bool true) ∧ Opw G w' A ((V.acc (upd V.f 2 t) 2 2 (V.f 2) t).note (V.cnt + 1, V.h, 5, 0, 0, 0, 0, n)) q (gwC (.slice (some ⟨b, 0, none⟩) 0 0) o n) ∧ Shp w' q 102 ∧ Kp G w w' := by
  have C1 := Lib.hid (scov_f h.ob (by decide))
  have hG : ¬ G q := by obtain ⟨S, h1, h2, h3, h4, h5, h6⟩ := h; exact h5
  have HG := Lib.hid hG
  have C2 := Lib.hid (sdo2 h.wdG (.inr rfl) (h.ob.at_ 1 _ rfl) (h.ob.at_ 2 _ rfl) hc ht hu)
  have c0 := h.ob.at_ 0 _ rfl
  obtain ⟨N, hN⟩ : ∃ N, (V.acc (upd V.f 2 t) 2 2 (V.f 2) t).note (V.cnt + 1, V.h, 5, 0, 0, 0, 0, n) = N := ⟨_, rfl⟩
  obtain ⟨V1, hV1⟩ : ∃ V1, V.acc (upd V.f 2 t) 2 2 (V.f 2) t = V1 := ⟨_, rfl⟩
  have HM1 := Lib.hid (show V1.M.length ≤ 1048576 by rw [← hV1]; exact hM)
  have HN := Lib.hid (show V1.note (V1.cnt, V1.h, 5, 0, 0, 0, 0, n) = N by rw [← hV1]; exact hN)
  have HO := Lib.hid h.ob
  have HS := Lib.hid hs
  rw [hV1] at C2
  rw [hN]
  clear h hM hN hV1 ht hu hc hs hG
  go_enter Try.func117, Try.ntmps117
  go_upto_region 4 with (first
    | (go_at_call 43; ((with_reducible refine C1.out.mono ?_); rintro e w2 ⟨rfl, rfl⟩))
    | (go_at_call 118; ((with_reducible refine C2.out.mono ?_); rintro e w3 ⟨rfl, h3, k3⟩; have o3 := HO.out.keep k3 (fun n => n (.inr rfl)); have S3 := Lib.hid (HS.out.keep k3 (fun n => n (.inr rfl))); have H3 := Lib.hid (Opw.of h3 o3 HG.out); have K3 := Lib.hid (k3.less (G' := G) (fun j g => .inl g)); replace c0 := o3.at_ 0 _ rfl; have f0 := o3.fz 0 (by simp [gwC]); clear cb h3 k3 o3)))
  go_upto_region 5 with fail
  obtain ⟨h4, k4⟩ := H3.out.set 0 (.slice (some ⟨b, 0, none⟩) 0 0) (by simp [gwC]) (C' := gwC (.slice (some ⟨b, 0, none⟩) 0 0) o n) rfl
  have s4 := S3.out.set ⟨q, 0, none⟩ (.slice (some ⟨b, 0, none⟩) 0 0)
  generalize World.setCell _ _ _ = w4 at *
  have C5 := Lib.hid (scov_t h4.ob)
  have K4 := Lib.hid (Kp.to K3.out k4)
  have hd := (Below.refl w4.heap.size w4).drew
  have HD := Lib.hid hd
  have HK := Lib.hid (fun X (hb : Below w4.heap.size w4 X) => And.intro (h4.new hb) (s4.new hb))
  have c2 : w4.drew.cell? ⟨q, 2, none⟩ = some (.int .i64 n) := (h4.new hd).ob.at_ 2 _ rfl
  have pt := part_s (s4.new hd)
  clear c0 f0 k4 h4 hd s4
  go_upto_region 6 with (go_at_call 43; ((with_reducible refine C5.out.mono ?_); rintro e w2 ⟨rfl, rfl⟩))
  go_region_held3 (fun X => X.cell? ⟨q, 2, none⟩ = some (.int .i64 n) ∧ (partAt ⟨q, 0, none⟩ 3 40).run Try.prog X = .ok ⟨q, 3, some 40⟩ X)
    (first | exact ⟨by assumption, by assumption⟩)
    (first
      | (go_at_call 127; ((with_reducible refine (skind _).mono ?_); rintro e w6 ⟨rfl, hb6⟩; have H6 := Lib.hid (HK.out _ (below_then HD.out hb6)); have K6 := Lib.hid (show Below w4.heap.size w4 w6 from below_then HD.out hb6); replace c2 := H6.out.1.ob.at_ 2 _ rfl; clear pt; have pt := part_s H6.out.2; have CN := Lib.hid (gnoteW H6.out.1.wdG HM1.out 5 0 0 0 0 n); clear hb6))
      | (go_at_call 84; ((with_reducible refine CN.out.mono ?_); rintro e w7 ⟨rfl, h7, k7⟩; have o7 := H6.out.1.ob.keep k7 (fun n => n (.inr rfl)); replace c2 := o7.at_ 2 _ rfl; have H7 := Lib.hid (Opw.of h7 o7 HG.out); have S7 := Lib.hid (H6.out.2.keep k7 (fun n => n (.inr rfl))); clear pt; have pt := part_s S7.out; have K7 := Lib.hid (Kp.to (Kp.to K4.out (Kp.of K6.out)) (k7.less (G' := G) (fun j g => .inl g))); clear h7 k7 o7)))
  all_goals
    have h8 := H7.out
    rw [HN.out] at h8
    have H8 := Lib.hid h8
    have C8 := Lib.hid (scov_t h8.ob)
    clear h8 c2 pt
    go_wp2_with (go_at_call 43; ((with_reducible refine C8.out.mono ?_); rintro e w9 ⟨rfl, rfl⟩))
    go_ret
    exact ⟨rfl, H8.out, S7.out, K7.out⟩
set_option maxHeartbeats 2000000 in
set_option maxRecDepth 100000 in
theorem gcstep2 (h : Opw G w A V q (gwC (.slice (some ⟨b, 0, none⟩) 2 2) o n)) (hs : Shp w q 110) (cb : w.cell? ⟨b, 0, none⟩ = some (.int .i64 0)) (hc : V.cnt < 1000000000) :
    Calls Try.prog 120 #[.pointer (some ⟨q, 0, none⟩), .pointer (some ⟨A.p, 0, none⟩)] w fun e w' => e = .returned (.bool false) ∧ Opw G w' A (V.acc (upd V.f 3 0) 2 3 (V.f 3) 0) q (gwC (.slice (some ⟨b, 1, none⟩) 1 1) o n) ∧ Shp w' q 110 ∧ Kp G w w' := by
  have C1 := Lib.hid (gcov_f h.ob (by decide))
  have hG : ¬ G q := by obtain ⟨S, h1, h2, h3, h4, h5, h6⟩ := h; exact h5
  have HG := Lib.hid hG
  have HS := Lib.hid hs
  have HO := Lib.hid h.ob
  have C2 := Lib.hid (gdo0 (q := q) h.wdG hc)
  have c0 := h.ob.at_ 0 _ rfl
  generalize V.acc (upd V.f 3 0) 2 3 (V.f 3) 0 = V1 at *
  clear h hc hs hG
  go_enter Try.func120, Try.ntmps120
  go_upto_region 4 with (first
    | (go_at_call 45; ((with_reducible refine C1.out.mono ?_); rintro e w2 ⟨rfl, rfl⟩))
    | (go_at_call 121; ((with_reducible refine C2.out.mono ?_); rintro e w3 ⟨rfl, h3, k3⟩; have o3 := HO.out.keep k3 (fun n => n (.inr rfl)); have S3 := Lib.hid (HS.out.keep k3 (fun n => n (.inr rfl))); have H3 := Lib.hid (Opw.of h3 o3 HG.out); have K3 := Lib.hid (k3.less (G' := G) (fun j g => .inl g)); replace c0 := o3.at_ 0 _ rfl; have f0 := o3.fz 0 (by simp [gwC]); clear cb h3 k3 o3)))
  go_upto_region 5 with fail
  obtain ⟨h4, k4⟩ := H3.out.set 0 (.slice (some ⟨b, 1, none⟩) 1 1) (by simp [gwC]) (C' := gwC (.slice (some ⟨b, 1, none⟩) 1 1) o n) rfl
  have S4 := Lib.hid (S3.out.set ⟨q, 0, none⟩ (.slice (some ⟨b, 1, none⟩) 1 1))
  generalize World.setCell _ _ _ = w4 at *
  have C5 := Lib.hid (gcov_f h4.ob (by decide))
  have K4 := Lib.hid (Kp.to K3.out k4)
  have H4 := Lib.hid h4
  clear c0 f0 k4 h4
  go_wp2_with (go_at_call 45; ((with_reducible refine C5.out.mono ?_); rintro e w2 ⟨rfl, rfl⟩))
  go_ret
  exact ⟨rfl, H4.out, S4.out, K4.out⟩
end
end Go.Proofs.Ytepkpbhhiianpaa
