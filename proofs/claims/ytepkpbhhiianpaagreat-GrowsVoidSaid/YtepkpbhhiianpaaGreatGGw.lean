/- Growths and swaps of tables: how they begin, their steps. -/
import Derived.Test.YtepkpbhhiianpaaGreatWs
import Derived.Deep.Cut
import Derived.Deep.CutBlock
import Derived.Deep.RegionHeld3
import Derived.LoopTactic
import Derived.Test.YtepkpbhhiianpaaGreatGPo
import Derived.Test.YtepkpbhhiianpaaGreatGPw
import Derived.Test.YtepkpbhhiianpaaGreatGBg
namespace Go.Proofs.YtepkpbhhiianpaaGreat
open Go.RowKit Go.Maps
set_option linter.unusedVariables false
/-- The cells of either. -/
def gwC (s : Value) (o n : Int) : List Value := [s, .int .i64 o, .int .i64 n]
section
variable {G : Nat → Prop} {w W : World} {A : Ad} {V : Wv} {q b : Nat} {o n : Int} {a : Option Addr} {l c : Nat}
theorem gnoteW (h : WdG G w A V) (hM : V.M.length ≤ 1048576) (k r b c d v : Int) :
    Calls Tryz.prog 123 #[.pointer (some ⟨A.p, 0, none⟩), .int .u8 k, .int .i64 r, .agg #[.int .i64 b, .int .i64 c, .int .i64 d], .int .i64 v] w fun e w' => e = .returned (.tuple #[]) ∧ WdG G w' A (V.note (V.cnt, V.h, k, r, b, c, d, v)) ∧ Kp G w w' := by
  obtain ⟨S, h1, h2, h3⟩ := h
  exact (wnote h1 hM k r b c d v).mono fun e w' ⟨he, hp⟩ => ⟨he, WdG.post h2 h3 hp⟩
/-- A block's type, and how many cells it has. -/
def Shp (w : World) (q : Nat) (t : TypeId) : Prop := w.shape? q = some (t, 3)
theorem Shp.lt {t : TypeId} (h : Shp w q t) : q < w.heap.size := by
  rcases Nat.lt_or_ge q w.heap.size with hl | hl
  · exact hl
  · unfold Shp World.shape? at h
    rw [Array.getElem?_eq_none hl] at h
    simp at h
theorem Shp.keep {t : TypeId} {T : Nat → Prop} (h : Shp w q t) (hk : Keeps T w W) (hT : ¬ T q) : Shp W q t := by
  have hl := h.lt
  unfold Shp World.shape? at *
  rw [hk.block q hl hT]
  exact h
theorem Shp.new {t : TypeId} (h : Shp w q t) (hb : Below w.heap.size w W) : Shp W q t := h.keep (T := fun _ => False) (Keeps.of_new hb) (fun s => s)
theorem Shp.set {t : TypeId} (h : Shp w q t) (p : Addr) (u : Value) : Shp (w.setCell p u) q t := by
  unfold Shp World.shape? at *
  cases hq : w.heap[q]? with
  | none => rw [hq] at h; simp at h
  | some o =>
    rw [hq] at h
    cases o with
    | cells c el fr =>
      simp at h
      obtain ⟨h1, h2⟩ := h
      unfold World.setCell
      simp only [Array.getElem?_modify]
      by_cases hpq : p.block = q
      · by_cases hs : p.spot.isSome
        · simp [hpq, hq, hs, h1, h2]
        · simp [hpq, hq, hs, h1, h2]
      · simp [hpq, hq, h1, h2]
    | _ => simp at h
theorem shp_new {n : Nat} {C : Array Value} {t : TypeId} (hn : n = W.heap.size) (hC : C.size = 3) : Shp (W.alloc (.cells C t)) n t := by
  subst hn
  unfold Shp World.shape?
  rw [heap_alloc_new]
  simp [hC]
theorem part_g (h : Shp w q 84) : (partAt ⟨q, 0, none⟩ 3 40).run Tryz.prog w = .ok ⟨q, 3, some 40⟩ w := by
  have e1 : byteOfCell Tryz.prog Tryz.prog.depth 84 0 = some 0 := by kernel_rfl
  have e2 : Tryz.prog.cellsOf 84 = 3 := by kernel_rfl
  have e3 : Tryz.prog.bytesOf 84 = 48 := by kernel_rfl
  unfold Shp at h
  simp [partAt, byteOf, noView, viewAt, h, e1, e2, e3]
theorem part_s (h : Shp w q 90) : (partAt ⟨q, 0, none⟩ 3 40).run Tryz.prog w = .ok ⟨q, 3, some 40⟩ w := by
  have e1 : byteOfCell Tryz.prog Tryz.prog.depth 90 0 = some 0 := by kernel_rfl
  have e2 : Tryz.prog.cellsOf 90 = 3 := by kernel_rfl
  have e3 : Tryz.prog.bytesOf 90 = 48 := by kernel_rfl
  unfold Shp at h
  simp [partAt, byteOf, noView, viewAt, h, e1, e2, e3]
theorem gcov_t (h : Ob w q (gwC (.slice a 0 c) o n)) : Calls Tryz.prog 76 #[.pointer (some ⟨q, 0, none⟩)] w fun e w' => e = .returned (.bool true) ∧ w = w' := by
  have c0 := h.at_ 0 _ rfl
  clear h
  go_enter Tryz.func76, Tryz.ntmps76
  go_wp2_with fail
  go_ret
  exact ⟨rfl, rfl⟩
theorem gcov_f (h : Ob w q (gwC (.slice a l c) o n)) (hl : ((l : Int) == 0) = false) : Calls Tryz.prog 76 #[.pointer (some ⟨q, 0, none⟩)] w fun e w' => e = .returned (.bool false) ∧ w = w' := by
  have c0 := h.at_ 0 _ rfl
  have hl0 : 0 < l := by simp at hl; omega
  clear h
  go_enter Tryz.func76, Tryz.ntmps76
  go_wp2_with fail
  go_ret
  exact ⟨rfl, rfl⟩
theorem scov_t (h : Ob w q (gwC (.slice a 0 c) o n)) : Calls Tryz.prog 77 #[.pointer (some ⟨q, 0, none⟩)] w fun e w' => e = .returned (.bool true) ∧ w = w' := by
  have c0 := h.at_ 0 _ rfl
  clear h
  go_enter Tryz.func77, Tryz.ntmps77
  go_wp2_with fail
  go_ret
  exact ⟨rfl, rfl⟩
theorem scov_f (h : Ob w q (gwC (.slice a l c) o n)) (hl : ((l : Int) == 0) = false) : Calls Tryz.prog 77 #[.pointer (some ⟨q, 0, none⟩)] w fun e w' => e = .returned (.bool false) ∧ w = w' := by
  have c0 := h.at_ 0 _ rfl
  have hl0 : 0 < l := by simp at hl; omega
  clear h
  go_enter Tryz.func77, Tryz.ntmps77
  go_wp2_with fail
  go_ret
  exact ⟨rfl, rfl⟩
theorem gov_nil (w : World) : Calls Tryz.prog 25 #[.pointer none] w fun e w' => e = .returned (.bool true) ∧ w = w' := by
  go_enter Tryz.func25, Tryz.ntmps25
  go_wp2_with fail
  go_ret
  exact ⟨rfl, rfl⟩
theorem sov_nil (w : World) : Calls Tryz.prog 28 #[.pointer none] w fun e w' => e = .returned (.bool true) ∧ w = w' := by
  go_enter Tryz.func28, Tryz.ntmps28
  go_wp2_with fail
  go_ret
  exact ⟨rfl, rfl⟩
theorem gov_t (h : Ob w q (gwC (.slice a 0 c) o n)) : Calls Tryz.prog 25 #[.pointer (some ⟨q, 0, none⟩)] w fun e w' => e = .returned (.bool true) ∧ w = w' := by
  have C := Lib.hid (gcov_t h)
  clear h
  go_enter Tryz.func25, Tryz.ntmps25
  go_wp2_with (go_at_call 76; ((with_reducible refine C.out.mono ?_); rintro e w2 ⟨rfl, rfl⟩))
  go_ret
  exact ⟨rfl, rfl⟩
theorem gov_f (h : Ob w q (gwC (.slice a l c) o n)) (hl : ((l : Int) == 0) = false) : Calls Tryz.prog 25 #[.pointer (some ⟨q, 0, none⟩)] w fun e w' => e = .returned (.bool false) ∧ w = w' := by
  have C := Lib.hid (gcov_f h hl)
  clear h
  go_enter Tryz.func25, Tryz.ntmps25
  go_wp2_with (go_at_call 76; ((with_reducible refine C.out.mono ?_); rintro e w2 ⟨rfl, rfl⟩))
  go_ret
  exact ⟨rfl, rfl⟩
theorem sov_t (h : Ob w q (gwC (.slice a 0 c) o n)) : Calls Tryz.prog 28 #[.pointer (some ⟨q, 0, none⟩)] w fun e w' => e = .returned (.bool true) ∧ w = w' := by
  have C := Lib.hid (scov_t h)
  clear h
  go_enter Tryz.func28, Tryz.ntmps28
  go_wp2_with (go_at_call 77; ((with_reducible refine C.out.mono ?_); rintro e w2 ⟨rfl, rfl⟩))
  go_ret
  exact ⟨rfl, rfl⟩
theorem sov_f (h : Ob w q (gwC (.slice a l c) o n)) (hl : ((l : Int) == 0) = false) : Calls Tryz.prog 28 #[.pointer (some ⟨q, 0, none⟩)] w fun e w' => e = .returned (.bool false) ∧ w = w' := by
  have C := Lib.hid (scov_f h hl)
  clear h
  go_enter Tryz.func28, Tryz.ntmps28
  go_wp2_with (go_at_call 77; ((with_reducible refine C.out.mono ?_); rintro e w2 ⟨rfl, rfl⟩))
  go_ret
  exact ⟨rfl, rfl⟩
theorem gdo0 (h : WdG G w A V) (hc : V.cnt < 1000000000) :
    Calls Tryz.prog 122 #[.pointer (some ⟨q, 0, none⟩), .pointer (some ⟨A.p, 0, none⟩), .int .i64 0] w fun e w' => e = .returned (.tuple #[]) ∧ WdG G w' A (V.acc (upd V.f 3 0) 2 3 (V.f 3) 0) ∧ Kp G w w' := by
  have c0 := h.box.c0
  have CS := Lib.hid (gstore h (a := 3) (v := 0) ⟨by decide, by decide⟩ ⟨by decide, by decide⟩ hc)
  generalize V.acc (upd V.f 3 0) 2 3 (V.f 3) 0 = V' at *
  generalize V.f 3 = v at *
  clear h
  go_enter Tryz.func122, Tryz.ntmps122
  go_wp2_with (go_at_call 47; ((with_reducible refine CS.out.mono ?_); rintro e w2 ⟨rfl, hT, K2⟩; have HT := Lib.hid hT; have HK := Lib.hid K2; clear hT K2))
  go_end0
  exact ⟨rfl, HT.out, HK.out⟩
set_option maxHeartbeats 1000000 in
set_option maxRecDepth 100000 in
theorem gdo1 {t : Int} (h : WdG G w A V) (hq : G q) (c1 : w.cell? ⟨q, 1, none⟩ = some (.int .i64 o)) (c2 : w.cell? ⟨q, 2, none⟩ = some (.int .i64 n)) (hc : V.cnt < 1000000000) (ht : wordf o n = t) (hu : isU t) :
    Calls Tryz.prog 122 #[.pointer (some ⟨q, 0, none⟩), .pointer (some ⟨A.p, 0, none⟩), .int .i64 1] w fun e w' => e = .returned (.tuple #[]) ∧ WdG G w' A (V.acc (upd V.f 2 t) 2 2 (V.f 2) t) ∧ Kp G w w' := by
  have hd := h.new (Below.refl w.heap.size w).drew
  have p0 := hd.box.c0
  have t1 : w.drew.cell? ⟨q, 1, none⟩ = some (.int .i64 o) := c1
  have t2 : w.drew.cell? ⟨q, 2, none⟩ = some (.int .i64 n) := c2
  have cw := fun W => wordw8 o n W
  rw [ht] at cw
  have CW := Lib.hid cw
  have CS := Lib.hid (gstore hd (a := 2) (v := t) ⟨by decide, by decide⟩ hu hc)
  have HQ := Lib.hid hq
  generalize V.acc (upd V.f 2 t) 2 2 (V.f 2) t = V' at *
  generalize V.f 2 = v at *
  clear hd h cw ht c1 c2 hq
  go_enter Tryz.func122, Tryz.ntmps122
  go_wp2_with fail
  go_region_held3 (fun X => X.cell? ⟨A.p, 0, none⟩ = some (.pointer (some ⟨A.pc, 0, none⟩)) ∧ X.cell? ⟨q, 1, none⟩ = some (.int .i64 o) ∧ X.cell? ⟨q, 2, none⟩ = some (.int .i64 n))
    (first | exact ⟨by assumption, by assumption, by assumption⟩)
    (first
      | (go_at_call 103; ((with_reducible refine (CW.out _).mono ?_); rintro e w2 ⟨rfl, rfl⟩))
      | (go_at_call 47; ((with_reducible refine CS.out.mono ?_); rintro e w3 ⟨rfl, hT, K2⟩; replace p0 := hT.box.c0; replace t1 := K2.cell (p := ⟨q, 1, none⟩) (fun n => n HQ.out) t1; replace t2 := K2.cell (p := ⟨q, 2, none⟩) (fun n => n HQ.out) t2; have HT := Lib.hid hT; have HK := Lib.hid K2; clear hT K2)))
  clear p0 t1 t2
  go_wp2_with fail
  go_end0
  exact ⟨rfl, HT.out, Kp.to (Keeps.drew (Keeps.refl _ _)) HK.out⟩
set_option maxHeartbeats 1000000 in
set_option maxRecDepth 100000 in
theorem sdo2 {t : Int} (h : WdG G w A V) (hq : G q) (c1 : w.cell? ⟨q, 1, none⟩ = some (.int .i64 o)) (c2 : w.cell? ⟨q, 2, none⟩ = some (.int .i64 n)) (hc : V.cnt < 1000000000) (ht : wordf n 0 = t) (hu : isU t) :
    Calls Tryz.prog 124 #[.pointer (some ⟨q, 0, none⟩), .pointer (some ⟨A.p, 0, none⟩), .int .i64 2] w fun e w' => e = .returned (.tuple #[]) ∧ WdG G w' A (V.acc (upd V.f 2 t) 2 2 (V.f 2) t) ∧ Kp G w w' := by
  have hd := h.new (Below.refl w.heap.size w).drew
  have p0 := hd.box.c0
  have t1 : w.drew.cell? ⟨q, 1, none⟩ = some (.int .i64 o) := c1
  have t2 : w.drew.cell? ⟨q, 2, none⟩ = some (.int .i64 n) := c2
  have cw := fun W => wordw8 n 0 W
  rw [ht] at cw
  have CW := Lib.hid cw
  have CS := Lib.hid (gstore hd (a := 2) (v := t) ⟨by decide, by decide⟩ hu hc)
  have HQ := Lib.hid hq
  generalize V.acc (upd V.f 2 t) 2 2 (V.f 2) t = V' at *
  generalize V.f 2 = v at *
  clear hd h cw ht c1 c2 hq
  go_enter Tryz.func124, Tryz.ntmps124
  go_wp2_with fail
  go_region_held3 (fun X => X.cell? ⟨A.p, 0, none⟩ = some (.pointer (some ⟨A.pc, 0, none⟩)) ∧ X.cell? ⟨q, 1, none⟩ = some (.int .i64 o) ∧ X.cell? ⟨q, 2, none⟩ = some (.int .i64 n))
    (first | exact ⟨by assumption, by assumption, by assumption⟩)
    (first
      | (go_at_call 103; ((with_reducible refine (CW.out _).mono ?_); rintro e w2 ⟨rfl, rfl⟩))
      | (go_at_call 47; ((with_reducible refine CS.out.mono ?_); rintro e w3 ⟨rfl, hT, K2⟩; replace p0 := hT.box.c0; replace t1 := K2.cell (p := ⟨q, 1, none⟩) (fun n => n HQ.out) t1; replace t2 := K2.cell (p := ⟨q, 2, none⟩) (fun n => n HQ.out) t2; have HT := Lib.hid hT; have HK := Lib.hid K2; clear hT K2)))
  clear p0 t1 t2
  go_wp2_with fail
  go_end0
  exact ⟨rfl, HT.out, Kp.to (Keeps.drew (Keeps.refl _ _)) HK.out⟩
theorem gkind (w : World) : Calls Tryz.prog 224 #[.agg #[]] w fun e w' => e = .returned (.int .u8 4) ∧ Below w.heap.size w w' := by
  go_enter Tryz.func224, Tryz.ntmps224
  go_wp2_with fail
  go_ret
  exact ⟨rfl, (Below.refl _ _).alloc (Nat.le_refl _) _⟩
theorem skind (w : World) : Calls Tryz.prog 225 #[.agg #[]] w fun e w' => e = .returned (.int .u8 5) ∧ Below w.heap.size w w' := by
  go_enter Tryz.func225, Tryz.ntmps225
  go_wp2_with fail
  go_ret
  exact ⟨rfl, (Below.refl _ _).alloc (Nat.le_refl _) _⟩
set_option maxHeartbeats 2000000 in
set_option maxRecDepth 100000 in
theorem gcstep1 {t : Int} (h : Opw G w A V q (gwC (.slice (some ⟨b, 1, none⟩) 1 1) o n)) (hs : Shp w q 84) (cb : w.cell? ⟨b, 1, none⟩ = some (.int .i64 1)) (hc : V.cnt < 1000000000) (hM : V.M.length ≤ 1048576) (ht : wordf o n = t) (hu : isU t) :
    Calls Tryz.prog 80 #[.pointer (some ⟨q, 0, none⟩), .pointer (some ⟨A.p, 0, none⟩)] w fun e w' => e = .returned (.bool true) ∧ Opw G w' A ((V.acc (upd V.f 2 t) 2 2 (V.f 2) t).note (V.cnt + 1, V.h, 4, 0, 0, 0, 0, n)) q (gwC (.slice (some ⟨b, 1, none⟩) 0 0) o n) ∧ Shp w' q 84 ∧ Kp G w w' := by
  have C1 := Lib.hid (gcov_f h.ob (by decide))
  have hG : ¬ G q := by obtain ⟨S, h1, h2, h3, h4, h5, h6⟩ := h; exact h5
  have HG := Lib.hid hG
  have C2 := Lib.hid (gdo1 h.wdG (.inr rfl) (h.ob.at_ 1 _ rfl) (h.ob.at_ 2 _ rfl) hc ht hu)
  have c0 := h.ob.at_ 0 _ rfl
  obtain ⟨N, hN⟩ : ∃ N, (V.acc (upd V.f 2 t) 2 2 (V.f 2) t).note (V.cnt + 1, V.h, 4, 0, 0, 0, 0, n) = N := ⟨_, rfl⟩
  obtain ⟨V1, hV1⟩ : ∃ V1, V.acc (upd V.f 2 t) 2 2 (V.f 2) t = V1 := ⟨_, rfl⟩
  have HM1 := Lib.hid (show V1.M.length ≤ 1048576 by rw [← hV1]; exact hM)
  have HN := Lib.hid (show V1.note (V1.cnt, V1.h, 4, 0, 0, 0, 0, n) = N by rw [← hV1]; exact hN)
  have HO := Lib.hid h.ob
  have HS := Lib.hid hs
  rw [hV1] at C2
  rw [hN]
  clear h hM hN hV1 ht hu hc hs hG
  go_enter Tryz.func80, Tryz.ntmps80
  go_upto_region 4 with (first
    | (go_at_call 76; ((with_reducible refine C1.out.mono ?_); rintro e w2 ⟨rfl, rfl⟩))
    | (go_at_call 122; ((with_reducible refine C2.out.mono ?_); rintro e w3 ⟨rfl, h3, k3⟩; have o3 := HO.out.keep k3 (fun n => n (.inr rfl)); have S3 := Lib.hid (HS.out.keep k3 (fun n => n (.inr rfl))); have H3 := Lib.hid (Opw.of h3 o3 HG.out); have K3 := Lib.hid (k3.less (G' := G) (fun j g => .inl g)); replace c0 := o3.at_ 0 _ rfl; have f0 := o3.fz 0 (by simp [gwC]); clear cb h3 k3 o3)))
  go_upto_region 5 with fail
  obtain ⟨h4, k4⟩ := H3.out.set 0 (.slice (some ⟨b, 1, none⟩) 0 0) (by simp [gwC]) (C' := gwC (.slice (some ⟨b, 1, none⟩) 0 0) o n) rfl
  have s4 := S3.out.set ⟨q, 0, none⟩ (.slice (some ⟨b, 1, none⟩) 0 0)
  generalize World.setCell _ _ _ = w4 at *
  have C5 := Lib.hid (gcov_t h4.ob)
  have K4 := Lib.hid (Kp.to K3.out k4)
  have hd := (Below.refl w4.heap.size w4).drew
  have HD := Lib.hid hd
  have HK := Lib.hid (fun X (hb : Below w4.heap.size w4 X) => And.intro (h4.new hb) (s4.new hb))
  have c2 : w4.drew.cell? ⟨q, 2, none⟩ = some (.int .i64 n) := (h4.new hd).ob.at_ 2 _ rfl
  have pt := part_g (s4.new hd)
  clear c0 f0 k4 h4 hd s4
  go_upto_region 6 with (go_at_call 76; ((with_reducible refine C5.out.mono ?_); rintro e w2 ⟨rfl, rfl⟩))
  go_region_held3 (fun X => X.cell? ⟨q, 2, none⟩ = some (.int .i64 n) ∧ (partAt ⟨q, 0, none⟩ 3 40).run Tryz.prog X = .ok ⟨q, 3, some 40⟩ X)
    (first | exact ⟨by assumption, by assumption⟩)
    (first
      | (go_at_call 224; ((with_reducible refine (gkind _).mono ?_); rintro e w6 ⟨rfl, hb6⟩; have H6 := Lib.hid (HK.out _ (below_then HD.out hb6)); have K6 := Lib.hid (show Below w4.heap.size w4 w6 from below_then HD.out hb6); replace c2 := H6.out.1.ob.at_ 2 _ rfl; clear pt; have pt := part_g H6.out.2; have CN := Lib.hid (gnoteW H6.out.1.wdG HM1.out 4 0 0 0 0 n); clear hb6))
      | (go_at_call 123; ((with_reducible refine CN.out.mono ?_); rintro e w7 ⟨rfl, h7, k7⟩; have o7 := H6.out.1.ob.keep k7 (fun n => n (.inr rfl)); replace c2 := o7.at_ 2 _ rfl; have H7 := Lib.hid (Opw.of h7 o7 HG.out); have S7 := Lib.hid (H6.out.2.keep k7 (fun n => n (.inr rfl))); clear pt; have pt := part_g S7.out; have K7 := Lib.hid (Kp.to (Kp.to K4.out (Kp.of K6.out)) (k7.less (G' := G) (fun j g => .inl g))); clear h7 k7 o7)))
  all_goals
    have h8 := H7.out
    rw [HN.out] at h8
    have H8 := Lib.hid h8
    have C8 := Lib.hid (gcov_t h8.ob)
    clear h8 c2 pt
    go_wp2_with (go_at_call 76; ((with_reducible refine C8.out.mono ?_); rintro e w9 ⟨rfl, rfl⟩))
    go_ret
    exact ⟨rfl, H8.out, S7.out, K7.out⟩
set_option maxHeartbeats 2000000 in
set_option maxRecDepth 100000 in
theorem scstep1 {t : Int} (h : Opw G w A V q (gwC (.slice (some ⟨b, 0, none⟩) 1 1) o n)) (hs : Shp w q 90) (cb : w.cell? ⟨b, 0, none⟩ = some (.int .i64 2)) (hc : V.cnt < 1000000000) (hM : V.M.length ≤ 1048576) (ht : wordf n 0 = t) (hu : isU t) :
    Calls Tryz.prog 81 #[.pointer (some ⟨q, 0, none⟩), .pointer (some ⟨A.p, 0, none⟩)] w fun e w' => e = .returned (.bool true) ∧ Opw G w' A ((V.acc (upd V.f 2 t) 2 2 (V.f 2) t).note (V.cnt + 1, V.h, 5, 0, 0, 0, 0, n)) q (gwC (.slice (some ⟨b, 0, none⟩) 0 0) o n) ∧ Shp w' q 90 ∧ Kp G w w' := by
  have C1 := Lib.hid (scov_f h.ob (by decide))
  have hG : ¬ G q := by obtain ⟨S, h1, h2, h3, h4, h5, h6⟩ := h; exact h5
  have HG := Lib.hid hG
  have C2 := Lib.hid (sdo2 h.wdG (.inr rfl) (h.ob.at_ 1 _ rfl) (h.ob.at_ 2 _ rfl) hc ht hu)
  have c0 := h.ob.at_ 0 _ rfl
  obtain ⟨N, hN⟩ : ∃ N, (V.acc (upd V.f 2 t) 2 2 (V.f 2) t).note (V.cnt + 1, V.h, 5, 0, 0, 0, 0, n) = N := ⟨_, rfl⟩
  obtain ⟨V1, hV1⟩ : ∃ V1, V.acc (upd V.f 2 t) 2 2 (V.f 2) t = V1 := ⟨_, rfl⟩
  have HM1 := Lib.hid (show V1.M.length ≤ 1048576 by rw [← hV1]; exact hM)
  have HN := Lib.hid (show V1.note (V1.cnt, V1.h, 5, 0, 0, 0, 0, n) = N by rw [← hV1]; exact hN)
  have HO := Lib.hid h.ob
  have HS := Lib.hid hs
  rw [hV1] at C2
  rw [hN]
  clear h hM hN hV1 ht hu hc hs hG
  go_enter Tryz.func81, Tryz.ntmps81
  go_upto_region 4 with (first
    | (go_at_call 77; ((with_reducible refine C1.out.mono ?_); rintro e w2 ⟨rfl, rfl⟩))
    | (go_at_call 124; ((with_reducible refine C2.out.mono ?_); rintro e w3 ⟨rfl, h3, k3⟩; have o3 := HO.out.keep k3 (fun n => n (.inr rfl)); have S3 := Lib.hid (HS.out.keep k3 (fun n => n (.inr rfl))); have H3 := Lib.hid (Opw.of h3 o3 HG.out); have K3 := Lib.hid (k3.less (G' := G) (fun j g => .inl g)); replace c0 := o3.at_ 0 _ rfl; have f0 := o3.fz 0 (by simp [gwC]); clear cb h3 k3 o3)))
  go_upto_region 5 with fail
  obtain ⟨h4, k4⟩ := H3.out.set 0 (.slice (some ⟨b, 0, none⟩) 0 0) (by simp [gwC]) (C' := gwC (.slice (some ⟨b, 0, none⟩) 0 0) o n) rfl
  have s4 := S3.out.set ⟨q, 0, none⟩ (.slice (some ⟨b, 0, none⟩) 0 0)
  generalize World.setCell _ _ _ = w4 at *
  have C5 := Lib.hid (scov_t h4.ob)
  have K4 := Lib.hid (Kp.to K3.out k4)
  have hd := (Below.refl w4.heap.size w4).drew
  have HD := Lib.hid hd
  have HK := Lib.hid (fun X (hb : Below w4.heap.size w4 X) => And.intro (h4.new hb) (s4.new hb))
  have c2 : w4.drew.cell? ⟨q, 2, none⟩ = some (.int .i64 n) := (h4.new hd).ob.at_ 2 _ rfl
  have pt := part_s (s4.new hd)
  clear c0 f0 k4 h4 hd s4
  go_upto_region 6 with (go_at_call 77; ((with_reducible refine C5.out.mono ?_); rintro e w2 ⟨rfl, rfl⟩))
  go_region_held3 (fun X => X.cell? ⟨q, 2, none⟩ = some (.int .i64 n) ∧ (partAt ⟨q, 0, none⟩ 3 40).run Tryz.prog X = .ok ⟨q, 3, some 40⟩ X)
    (first | exact ⟨by assumption, by assumption⟩)
    (first
      | (go_at_call 225; ((with_reducible refine (skind _).mono ?_); rintro e w6 ⟨rfl, hb6⟩; have H6 := Lib.hid (HK.out _ (below_then HD.out hb6)); have K6 := Lib.hid (show Below w4.heap.size w4 w6 from below_then HD.out hb6); replace c2 := H6.out.1.ob.at_ 2 _ rfl; clear pt; have pt := part_s H6.out.2; have CN := Lib.hid (gnoteW H6.out.1.wdG HM1.out 5 0 0 0 0 n); clear hb6))
      | (go_at_call 123; ((with_reducible refine CN.out.mono ?_); rintro e w7 ⟨rfl, h7, k7⟩; have o7 := H6.out.1.ob.keep k7 (fun n => n (.inr rfl)); replace c2 := o7.at_ 2 _ rfl; have H7 := Lib.hid (Opw.of h7 o7 HG.out); have S7 := Lib.hid (H6.out.2.keep k7 (fun n => n (.inr rfl))); clear pt; have pt := part_s S7.out; have K7 := Lib.hid (Kp.to (Kp.to K4.out (Kp.of K6.out)) (k7.less (G' := G) (fun j g => .inl g))); clear h7 k7 o7)))
  all_goals
    have h8 := H7.out
    rw [HN.out] at h8
    have H8 := Lib.hid h8
    have C8 := Lib.hid (scov_t h8.ob)
    clear h8 c2 pt
    go_wp2_with (go_at_call 77; ((with_reducible refine C8.out.mono ?_); rintro e w9 ⟨rfl, rfl⟩))
    go_ret
    exact ⟨rfl, H8.out, S7.out, K7.out⟩
set_option maxHeartbeats 2000000 in
set_option maxRecDepth 100000 in
theorem gcstep2 (h : Opw G w A V q (gwC (.slice (some ⟨b, 0, none⟩) 2 2) o n)) (hs : Shp w q 84) (cb : w.cell? ⟨b, 0, none⟩ = some (.int .i64 0)) (hc : V.cnt < 1000000000) :
    Calls Tryz.prog 80 #[.pointer (some ⟨q, 0, none⟩), .pointer (some ⟨A.p, 0, none⟩)] w fun e w' => e = .returned (.bool false) ∧ Opw G w' A (V.acc (upd V.f 3 0) 2 3 (V.f 3) 0) q (gwC (.slice (some ⟨b, 1, none⟩) 1 1) o n) ∧ Shp w' q 84 ∧ Kp G w w' := by
  have C1 := Lib.hid (gcov_f h.ob (by decide))
  have hG : ¬ G q := by obtain ⟨S, h1, h2, h3, h4, h5, h6⟩ := h; exact h5
  have HG := Lib.hid hG
  have HS := Lib.hid hs
  have HO := Lib.hid h.ob
  have C2 := Lib.hid (gdo0 (q := q) h.wdG hc)
  have c0 := h.ob.at_ 0 _ rfl
  generalize V.acc (upd V.f 3 0) 2 3 (V.f 3) 0 = V1 at *
  clear h hc hs hG
  go_enter Tryz.func80, Tryz.ntmps80
  go_upto_region 4 with (first
    | (go_at_call 76; ((with_reducible refine C1.out.mono ?_); rintro e w2 ⟨rfl, rfl⟩))
    | (go_at_call 122; ((with_reducible refine C2.out.mono ?_); rintro e w3 ⟨rfl, h3, k3⟩; have o3 := HO.out.keep k3 (fun n => n (.inr rfl)); have S3 := Lib.hid (HS.out.keep k3 (fun n => n (.inr rfl))); have H3 := Lib.hid (Opw.of h3 o3 HG.out); have K3 := Lib.hid (k3.less (G' := G) (fun j g => .inl g)); replace c0 := o3.at_ 0 _ rfl; have f0 := o3.fz 0 (by simp [gwC]); clear cb h3 k3 o3)))
  go_upto_region 5 with fail
  obtain ⟨h4, k4⟩ := H3.out.set 0 (.slice (some ⟨b, 1, none⟩) 1 1) (by simp [gwC]) (C' := gwC (.slice (some ⟨b, 1, none⟩) 1 1) o n) rfl
  have S4 := Lib.hid (S3.out.set ⟨q, 0, none⟩ (.slice (some ⟨b, 1, none⟩) 1 1))
  generalize World.setCell _ _ _ = w4 at *
  have C5 := Lib.hid (gcov_f h4.ob (by decide))
  have K4 := Lib.hid (Kp.to K3.out k4)
  have H4 := Lib.hid h4
  clear c0 f0 k4 h4
  go_wp2_with (go_at_call 76; ((with_reducible refine C5.out.mono ?_); rintro e w2 ⟨rfl, rfl⟩))
  go_ret
  exact ⟨rfl, H4.out, S4.out, K4.out⟩
end
end Go.Proofs.YtepkpbhhiianpaaGreat
/- Next: Growths and swaps of tables: New, Step, Run. -/
namespace Go.Proofs.YtepkpbhhiianpaaGreat
open Go.RowKit Go.Maps
set_option linter.unusedVariables false
theorem gw_at {W : World} {C : Array Value} {T : TypeId} {L : List Value} {n : Nat} (hn : n = W.heap.size) (hL : L = C.toList) : Ob (W.alloc (.cells C T)) n L := by
  subst hn
  exact ob_new hL
theorem gw_bs {a w : World} {o : Obj} (h : Below a.heap.size a w) : Below a.heap.size a (w.alloc o) := h.alloc h.size o
/-- A new one that is over. -/
def NwG0 (T : TypeId) (w : World) (e : Ending) (w' : World) : Prop := ∃ q, e = .returned (.pointer (some ⟨q, 0, none⟩)) ∧ Ob w' q (gwC (.slice none 0 0) 0 0) ∧ Shp w' q T ∧ w.heap.size ≤ q ∧ Below w.heap.size w w'
/-- A new one, of so many acts. -/
def NwG1 (T : TypeId) (w : World) (k : Nat) (L : List Value) (o n : Int) (e : Ending) (w' : World) : Prop := ∃ q b, e = .returned (.pointer (some ⟨q, 0, none⟩)) ∧ Ob w' q (gwC (.slice (some ⟨b, 0, none⟩) k k) o n) ∧ Ob w' b L ∧ Shp w' q T ∧ w.heap.size ≤ q ∧ w.heap.size ≤ b ∧ q ≠ b ∧ Below w.heap.size w w'
theorem nw_g0 {w w1 : World} {T : TypeId} (hb : Below w.heap.size w w1) : NwG0 T w (.returned (.pointer (some ⟨w1.heap.size, 0, none⟩))) (w1.alloc (.cells #[.slice none 0 0, .int .i64 0, .int .i64 0] T)) :=
  ⟨_, rfl, gw_at rfl rfl, shp_new rfl rfl, hb.size, below_then hb (gw_bs (Below.refl _ _))⟩
theorem nw_g1 {w w1 : World} {k : Nat} {L : List Value} {C : Array Value} {o n : Int} {T1 T2 : TypeId} (hb : Below w.heap.size w w1) (hL : L = C.toList) : NwG1 T2 w k L o n (.returned (.pointer (some ⟨w1.heap.size + 1, 0, none⟩))) ((w1.alloc (.cells C T1)).alloc (.cells #[.slice (some ⟨w1.heap.size, 0, none⟩) k k, .int .i64 o, .int .i64 n] T2)) := by
  have h1 : Below (w1.alloc (.cells C T1)).heap.size (w1.alloc (.cells C T1)) ((w1.alloc (.cells C T1)).alloc (.cells #[.slice (some ⟨w1.heap.size, 0, none⟩) k k, .int .i64 o, .int .i64 n] T2)) := gw_bs (Below.refl _ _)
  have hs := hb.size
  exact ⟨_, w1.heap.size, rfl, gw_at (by simp) rfl, (gw_at rfl hL).new h1, shp_new (by simp) rfl, by omega, hs, by omega, below_then hb (gw_bs (gw_bs (Below.refl _ _)))⟩
theorem newGrow_no (t : Int) (w : World) (ht : isU t) (hn : asN t ≠ 0 ∨ asO t = 12) : Calls Tryz.prog 23 #[.int .u64 t] w (NwG0 84 w) := by
  have CA := Lib.hid (fun W => asw t W ht.1 (by have := ht.2; omega))
  have hr := as_range t
  clear ht
  generalize asO t = o at *
  generalize asN t = n at *
  by_cases c : n = 0
  · subst c
    have e1 : ((0 : Int) != 0) = false := by simp
    have ho : o = 12 := by omega
    subst ho
    clear hn hr
    go_enter Tryz.func23, Tryz.ntmps23
    go_wp2_with (go_at_call 74; ((with_reducible refine (CA.out _).mono ?_); rintro e w1 ⟨rfl, K1⟩; have HK := Lib.hid K1; clear K1))
    go_ret
    obtain ⟨q, he, r⟩ := nw_g0 HK.out
    exact ⟨q, he, r⟩
  · have e1 : (n != 0) = true := by simp [c]
    clear hn hr c
    go_enter Tryz.func23, Tryz.ntmps23
    go_wp2_with (go_at_call 74; ((with_reducible refine (CA.out _).mono ?_); rintro e w1 ⟨rfl, K1⟩; have HK := Lib.hid K1; clear K1))
    go_ret
    obtain ⟨q, he, r⟩ := nw_g0 HK.out
    exact ⟨q, he, r⟩
theorem newGrow (t : Int) (w : World) (ht : isU t) {o : Int} (hn : asN t = 0) (ho : asO t = o) (h12 : o ≠ 12) : Calls Tryz.prog 23 #[.int .u64 t] w (NwG1 84 w 2 [.int .i64 0, .int .i64 1] o (o + 1)) := by
  have CA := Lib.hid (fun W => asw t W ht.1 (by have := ht.2; omega))
  have hr := as_range t
  rw [hn, ho] at CA
  have hr1 : 1 ≤ o ∧ o ≤ 12 := by omega
  have e1 : (o == 12) = false := by simp [h12]
  clear ht hn ho hr h12
  go_enter Tryz.func23, Tryz.ntmps23
  go_wp2_with (go_at_call 74; ((with_reducible refine (CA.out _).mono ?_); rintro e w1 ⟨rfl, K1⟩; have HK := Lib.hid K1; clear K1))
  go_ret
  obtain ⟨q, b, he, r⟩ := nw_g1 HK.out rfl
  exact ⟨q, b, he, r⟩
theorem newSwap_no (t : Int) (w : World) (ht : isU t) (hn : asN t = 0) : Calls Tryz.prog 26 #[.int .u64 t] w (NwG0 90 w) := by
  have CA := Lib.hid (fun W => asw t W ht.1 (by have := ht.2; omega))
  rw [hn] at CA
  clear ht hn
  generalize asO t = o at *
  go_enter Tryz.func26, Tryz.ntmps26
  go_wp2_with (go_at_call 74; ((with_reducible refine (CA.out _).mono ?_); rintro e w1 ⟨rfl, K1⟩; have HK := Lib.hid K1; clear K1))
  go_ret
  obtain ⟨q, he, r⟩ := nw_g0 HK.out
  exact ⟨q, he, r⟩
theorem newSwap (t : Int) (w : World) (ht : isU t) {o n : Int} (hn : asN t = n) (ho : asO t = o) (h0 : n ≠ 0) : Calls Tryz.prog 26 #[.int .u64 t] w (NwG1 90 w 1 [.int .i64 2] o n) := by
  have CA := Lib.hid (fun W => asw t W ht.1 (by have := ht.2; omega))
  rw [hn, ho] at CA
  have e1 : (n == 0) = false := by simp [h0]
  clear ht hn ho h0
  go_enter Tryz.func26, Tryz.ntmps26
  go_wp2_with (go_at_call 74; ((with_reducible refine (CA.out _).mono ?_); rintro e w1 ⟨rfl, K1⟩; have HK := Lib.hid K1; clear K1))
  go_ret
  obtain ⟨q, b, he, r⟩ := nw_g1 HK.out rfl
  exact ⟨q, b, he, r⟩
section
variable {G : Nat → Prop} {w W : World} {A : Ad} {V : Wv} {q b : Nat} {o n : Int} {a : Option Addr} {l c : Nat} {r : Bool} {P : World → Prop} {x : Value}
theorem gst_nil (w : World) (x : Value) : Calls Tryz.prog 30 #[.pointer none, x] w fun e w' => e = .returned (.bool true) ∧ w = w' := by
  go_enter Tryz.func30, Tryz.ntmps30
  go_wp2_with fail
  go_ret
  exact ⟨rfl, rfl⟩
theorem sst_nil (w : World) (x : Value) : Calls Tryz.prog 31 #[.pointer none, x] w fun e w' => e = .returned (.bool true) ∧ w = w' := by
  go_enter Tryz.func31, Tryz.ntmps31
  go_wp2_with fail
  go_ret
  exact ⟨rfl, rfl⟩
theorem gst (h : Calls Tryz.prog 80 #[.pointer (some ⟨q, 0, none⟩), x] w fun e w' => e = .returned (.bool r) ∧ P w') : Calls Tryz.prog 30 #[.pointer (some ⟨q, 0, none⟩), x] w fun e w' => e = .returned (.bool r) ∧ P w' := by
  have C := Lib.hid h
  clear h
  go_enter Tryz.func30, Tryz.ntmps30
  go_wp2_with (go_at_call 80; ((with_reducible refine C.out.mono ?_); rintro e w2 ⟨rfl, hp⟩; have HP := Lib.hid hp; clear hp))
  go_ret
  exact ⟨rfl, HP.out⟩
theorem sst (h : Calls Tryz.prog 81 #[.pointer (some ⟨q, 0, none⟩), x] w fun e w' => e = .returned (.bool r) ∧ P w') : Calls Tryz.prog 31 #[.pointer (some ⟨q, 0, none⟩), x] w fun e w' => e = .returned (.bool r) ∧ P w' := by
  have C := Lib.hid h
  clear h
  go_enter Tryz.func31, Tryz.ntmps31
  go_wp2_with (go_at_call 81; ((with_reducible refine C.out.mono ?_); rintro e w2 ⟨rfl, hp⟩; have HP := Lib.hid hp; clear hp))
  go_ret
  exact ⟨rfl, HP.out⟩
theorem gc_over (h : Ob w q (gwC (.slice a 0 c) o n)) (x : Value) : Calls Tryz.prog 80 #[.pointer (some ⟨q, 0, none⟩), x] w fun e w' => e = .returned (.bool true) ∧ w = w' := by
  have C := Lib.hid (gcov_t h)
  clear h
  go_enter Tryz.func80, Tryz.ntmps80
  go_wp2_with (go_at_call 76; ((with_reducible refine C.out.mono ?_); rintro e w2 ⟨rfl, rfl⟩))
  go_ret
  exact ⟨rfl, rfl⟩
theorem sc_over (h : Ob w q (gwC (.slice a 0 c) o n)) (x : Value) : Calls Tryz.prog 81 #[.pointer (some ⟨q, 0, none⟩), x] w fun e w' => e = .returned (.bool true) ∧ w = w' := by
  have C := Lib.hid (scov_t h)
  clear h
  go_enter Tryz.func81, Tryz.ntmps81
  go_wp2_with (go_at_call 77; ((with_reducible refine C.out.mono ?_); rintro e w2 ⟨rfl, rfl⟩))
  go_ret
  exact ⟨rfl, rfl⟩
theorem gc_no (h : Ob w q (gwC (.slice a l c) o n)) (hl : ((l : Int) == 0) = false) : Calls Tryz.prog 80 #[.pointer (some ⟨q, 0, none⟩), .pointer none] w fun e w' => e = .returned (.bool false) ∧ w = w' := by
  have C := Lib.hid (gcov_f h hl)
  clear h hl
  go_enter Tryz.func80, Tryz.ntmps80
  go_wp2_with (go_at_call 76; ((with_reducible refine C.out.mono ?_); rintro e w2 ⟨rfl, rfl⟩))
  go_ret
  exact ⟨rfl, rfl⟩
theorem sc_no (h : Ob w q (gwC (.slice a l c) o n)) (hl : ((l : Int) == 0) = false) : Calls Tryz.prog 81 #[.pointer (some ⟨q, 0, none⟩), .pointer none] w fun e w' => e = .returned (.bool false) ∧ w = w' := by
  have C := Lib.hid (scov_f h hl)
  clear h hl
  go_enter Tryz.func81, Tryz.ntmps81
  go_wp2_with (go_at_call 77; ((with_reducible refine C.out.mono ?_); rintro e w2 ⟨rfl, rfl⟩))
  go_ret
  exact ⟨rfl, rfl⟩
end
end Go.Proofs.YtepkpbhhiianpaaGreat
/- Next: The chapter's growths and swaps: how they begin. -/
namespace Go.Proofs.YtepkpbhhiianpaaGreat
open Go.RowKit Go.Maps
set_option linter.unusedVariables false
/-- What is as New asks. -/
theorem rnewGrow (t : Int) (w : World) (ht : isU t) {l z : Int} (hl : (asN t = 0 ∧ asO t ≠ 12 ∧ l = 1 ∧ z = asO t) ∨ ((asN t ≠ 0 ∨ asO t = 12) ∧ l = 0 ∧ z = 0)) : Calls Tryz.prog 24 #[.int .u64 t] w fun e w' => e = .returned (.pointer (some ⟨w.heap.size, 0, none⟩)) ∧ w' = w.alloc (.cells #[.int .i64 l, .int .i64 z] 71) := by
  have CA := Lib.hid (fun W => ras t W ht.1 (by have := ht.2; omega))
  have hr := as_range t
  clear ht
  generalize asO t = o at *
  generalize asN t = n at *
  rcases hl with ⟨rfl, h12, rfl, rfl⟩ | ⟨hc, rfl, rfl⟩
  · have e1 : (z == 12) = false := by simp [h12]
    clear hr h12
    go_enter Tryz.func24, Tryz.ntmps24
    go_wp2_with (go_at_call 75; ((with_reducible refine (CA.out _).mono ?_); rintro e w1 ⟨rfl, rfl⟩))
    go_ret
    exact ⟨rfl, rfl⟩
  · by_cases c : n = 0
    · subst c
      have ho : o = 12 := by omega
      subst ho
      clear hc hr
      go_enter Tryz.func24, Tryz.ntmps24
      go_wp2_with (go_at_call 75; ((with_reducible refine (CA.out _).mono ?_); rintro e w1 ⟨rfl, rfl⟩))
      go_ret
      exact ⟨rfl, rfl⟩
    · have e1 : decide (0 < n) = true := decide_eq_true (by omega)
      clear hc hr c
      go_enter Tryz.func24, Tryz.ntmps24
      go_wp2_with (go_at_call 75; ((with_reducible refine (CA.out _).mono ?_); rintro e w1 ⟨rfl, rfl⟩))
      go_ret
      exact ⟨rfl, rfl⟩
theorem rnewSwap (t : Int) (w : World) (ht : isU t) {l z : Int} (hl : (asN t ≠ 0 ∧ l = 1 ∧ z = asN t) ∨ (asN t = 0 ∧ l = 0 ∧ z = 0)) : Calls Tryz.prog 27 #[.int .u64 t] w fun e w' => e = .returned (.pointer (some ⟨w.heap.size, 0, none⟩)) ∧ w' = w.alloc (.cells #[.int .i64 l, .int .i64 z] 75) := by
  have CA := Lib.hid (fun W => ras t W ht.1 (by have := ht.2; omega))
  clear ht
  generalize asO t = o at *
  generalize asN t = n at *
  rcases hl with ⟨h0, rfl, rfl⟩ | ⟨rfl, rfl, rfl⟩
  · have e1 : (z == 0) = false := by simp [h0]
    clear h0
    go_enter Tryz.func27, Tryz.ntmps27
    go_wp2_with (go_at_call 75; ((with_reducible refine (CA.out _).mono ?_); rintro e w1 ⟨rfl, rfl⟩))
    go_ret
    exact ⟨rfl, rfl⟩
  · go_enter Tryz.func27, Tryz.ntmps27
    go_wp2_with (go_at_call 75; ((with_reducible refine (CA.out _).mono ?_); rintro e w1 ⟨rfl, rfl⟩))
    go_ret
    exact ⟨rfl, rfl⟩
end Go.Proofs.YtepkpbhhiianpaaGreat
/- Next: The chapter's growths and swaps, in a pair of worlds. -/
namespace Go.Proofs.YtepkpbhhiianpaaGreat
open Go.RowKit Go.Maps
set_option linter.unusedVariables false
/-- The chapter's cells of either. -/
def rgC (ln z : Int) : List Value := [.int .i64 ln, .int .i64 z]
section
variable {G : Nat → Prop} {w : World} {A R : Ad} {V V2 : Wv} {q : Nat} {z o n t : Int}
theorem rgw0 (h : Hf G w A R V V2) (ho : Ob w q (rgC 0 z)) :
    Calls Tryz.prog 78 #[.pointer (some ⟨q, 0, none⟩), .pointer (some ⟨R.p, 0, none⟩)] w (RoP G A R V V2 q (rgC 0 z) w) := by
  have c0 := ho.at_ 0 _ rfl
  have HH := Lib.hid (And.intro h ho)
  clear h ho
  go_enter Tryz.func78, Tryz.ntmps78
  go_wp2_with fail
  first
    | (go_end0; exact ⟨rfl, HH.out.1, HH.out.2, Keeps.refl _ _⟩)
    | exact bodyPost_ret (v := .tuple #[]) (by simp [results, Tryz.results78, go_sem]) rfl ⟨rfl, HH.out.1, HH.out.2, Keeps.refl _ _⟩
theorem rsw0 (h : Hf G w A R V V2) (ho : Ob w q (rgC 0 z)) :
    Calls Tryz.prog 79 #[.pointer (some ⟨q, 0, none⟩), .pointer (some ⟨R.p, 0, none⟩)] w (RoP G A R V V2 q (rgC 0 z) w) := by
  have c0 := ho.at_ 0 _ rfl
  have HH := Lib.hid (And.intro h ho)
  clear h ho
  go_enter Tryz.func79, Tryz.ntmps79
  go_wp2_with fail
  first
    | (go_end0; exact ⟨rfl, HH.out.1, HH.out.2, Keeps.refl _ _⟩)
    | exact bodyPost_ret (v := .tuple #[]) (by simp [results, Tryz.results79, go_sem]) rfl ⟨rfl, HH.out.1, HH.out.2, Keeps.refl _ _⟩
set_option maxHeartbeats 1000000 in
set_option maxRecDepth 100000 in
theorem rgw1 (h : Hf G w A R V V2) (hq : G q) (ho : Ob w q (rgC 1 z)) (hc : V2.cnt < 100000000) :
    Calls Tryz.prog 78 #[.pointer (some ⟨q, 0, none⟩), .pointer (some ⟨R.p, 0, none⟩)] w (RoP G A R V (V2.acc (upd V2.f 3 0) 2 3 (V2.f 3) 0) q (rgC 2 z) w) := by
  have C := Lib.hid (h.rstore (a := 3) (v := 0) hc ⟨by decide, by decide⟩ ⟨by decide, by decide⟩)
  have HG := Lib.hid hq
  have c0 := ho.at_ 0 _ rfl
  have HO := Lib.hid ho
  generalize V2.acc (upd V2.f 3 0) 2 3 (V2.f 3) 0 = V1 at *
  generalize V2.f 3 = v at *
  clear h hq ho
  go_enter Tryz.func78, Tryz.ntmps78
  go_upto_region 3 with (go_at_call 56; ((with_reducible refine C.out.mono ?_); rintro e w1 ⟨rfl, h1, k1⟩; have o1 := HO.out.keep k1 (fun n => n HG.out); have H1 := Lib.hid h1; have O1 := Lib.hid o1; have K1 := Lib.hid (k1.less (G' := fun j => G j ∧ j ≠ q) (fun j g => g.1)); have f0 := o1.fz 0 (by simp [rgC]); have y0 := o1.at_ 0 _ rfl; clear h1 k1 o1))
  clear c0
  obtain ⟨h2, k2⟩ := Hf.set (i := 0) H1.out HG.out (.int .i64 2)
  have H2 := Lib.hid h2
  have O2 := Lib.hid (O1.out.set 0 (.int .i64 2) (by simp [rgC]) (C' := rgC 2 z) rfl)
  have K2 := Lib.hid (Kp.to K1.out k2)
  clear h2 k2
  go_wp2_with fail
  first
    | (go_end0; exact ⟨rfl, H2.out, O2.out, K2.out⟩)
    | exact bodyPost_ret (v := .tuple #[]) (by simp [results, Tryz.results78, go_sem]) rfl ⟨rfl, H2.out, O2.out, K2.out⟩
set_option maxHeartbeats 2000000 in
set_option maxRecDepth 100000 in
theorem rgw2 (h : Hf G w A R V V2) (hq : G q) (ho : Ob w q (rgC 2 o)) (hc : V2.cnt < 100000000) (hM : V2.M.length < 1048576) (h1 : 1 ≤ o) (h2 : o ≤ 11) (hn : n = o + 1) (ht : wordf o n = t) :
    Calls Tryz.prog 78 #[.pointer (some ⟨q, 0, none⟩), .pointer (some ⟨R.p, 0, none⟩)] w (RoP G A R V ((V2.acc (upd V2.f 2 t) 2 2 (V2.f 2) t).note (V2.cnt + 1, V2.h, 4, 0, 0, 0, 0, n)) q (rgC 0 o) w) := by
  have htv : t = o + 256 * n := by rw [← ht]; unfold wordf; omega
  have hu : isU t := ⟨by omega, by omega⟩
  have y1 : IntKind.i64.wrap (o + 1) = n := by rw [IntWalk.i64_in _ (by omega)]; exact hn.symm
  obtain ⟨m, hm⟩ : ∃ m, m = 256 * n := ⟨_, rfl⟩
  have y2 : IntKind.i64.wrap (256 * n) = m := by rw [IntWalk.i64_in _ (by omega)]; exact hm.symm
  have y3 : IntKind.i64.wrap (o + m) = t := by rw [IntWalk.i64_in _ (by omega), hm]; exact htv.symm
  have y4 : IntKind.u64.wrap t = t := IntWalk.u64_in _ (by omega)
  have hd := (Below.refl w.heap.size w).drew
  have C := Lib.hid ((h.new hd).rstore (a := 2) (v := t) hc ⟨by decide, by decide⟩ hu)
  have HG := Lib.hid hq
  have HO := Lib.hid ho
  have HD := Lib.hid hd
  obtain ⟨V1, hV1⟩ : ∃ V1, V2.acc (upd V2.f 2 t) 2 2 (V2.f 2) t = V1 := ⟨_, rfl⟩
  have CN := Lib.hid (fun X (hx : Hf G X A R V V1) => hx.rnote (by rw [← hV1]; exact hM) 4 0 0 0 0 n)
  have HV := Lib.hid (show V1.note (V1.cnt, V1.h, 4, 0, 0, 0, 0, n) = V1.note (V2.cnt + 1, V2.h, 4, 0, 0, 0, 0, n) by rw [← hV1]; rfl)
  rw [hV1] at C ⊢
  have c0 := ho.at_ 0 _ rfl
  have c1 : w.drew.cell? ⟨q, 1, none⟩ = some (.int .i64 o) := ho.at_ 1 _ rfl
  clear h hq ho hc hM h1 h2 hn ht htv hm hd hV1
  generalize V2.f 2 = v at *
  go_enter Tryz.func78, Tryz.ntmps78
  go_upto_region 5 with fail
  clear c0
  go_region_held3 (fun X => X.cell? ⟨q, 1, none⟩ = some (.int .i64 o))
    (first | assumption)
    (first
      | (go_at_call 56; ((with_reducible refine C.out.mono ?_); rintro e w3 ⟨rfl, h3, k3⟩; have o3 := (HO.out.new HD.out).keep k3 (fun n => n HG.out); have H3 := Lib.hid h3; have O3 := Lib.hid o3; have K3 := Lib.hid (Kp.to (Kp.of HD.out) (k3.less (G' := fun j => G j ∧ j ≠ q) (fun j g => g.1))); replace c1 := o3.at_ 1 _ rfl; clear h3 o3 k3)))
  clear y2 y3 y4
  have CN3 := Lib.hid (CN.out _ H3.out)
  go_upto_region 7 with (go_at_call 121; ((with_reducible refine CN3.out.mono ?_); rintro e w4 ⟨rfl, h4, k4⟩; have o4 := O3.out.keep k4 (fun n => n HG.out); have H4 := Lib.hid h4; have O4 := Lib.hid o4; have K4 := Lib.hid (Kp.to K3.out (k4.less (G' := fun j => G j ∧ j ≠ q) (fun j g => g.1))); have f0 := o4.fz 0 (by simp [rgC]); have y0 := o4.at_ 0 _ rfl; clear h4 k4 o4))
  clear c1 y1
  obtain ⟨h5, k5⟩ := Hf.set (i := 0) H4.out HG.out (.int .i64 0)
  rw [HV.out] at h5
  have H5 := Lib.hid h5
  have O5 := Lib.hid (O4.out.set 0 (.int .i64 0) (by simp [rgC]) (C' := rgC 0 o) rfl)
  have K5 := Lib.hid (Kp.to K4.out k5)
  clear h5 k5
  go_wp2_with fail
  first
    | (go_end0; exact ⟨rfl, H5.out, O5.out, K5.out⟩)
    | exact bodyPost_ret (v := .tuple #[]) (by simp [results, Tryz.results78, go_sem]) rfl ⟨rfl, H5.out, O5.out, K5.out⟩
set_option maxHeartbeats 2000000 in
set_option maxRecDepth 100000 in
theorem rsw1 (h : Hf G w A R V V2) (hq : G q) (ho : Ob w q (rgC 1 n)) (hc : V2.cnt < 100000000) (hM : V2.M.length < 1048576) (h1 : 1 ≤ n) (h2 : n ≤ 12) (ht : wordf n 0 = t) :
    Calls Tryz.prog 79 #[.pointer (some ⟨q, 0, none⟩), .pointer (some ⟨R.p, 0, none⟩)] w (RoP G A R V ((V2.acc (upd V2.f 2 t) 2 2 (V2.f 2) t).note (V2.cnt + 1, V2.h, 5, 0, 0, 0, 0, n)) q (rgC 0 n) w) := by
  have htv : t = n := by rw [← ht]; unfold wordf; omega
  have hu : isU t := ⟨by omega, by omega⟩
  have y4 : IntKind.u64.wrap n = t := by rw [IntWalk.u64_in _ (by omega)]; exact htv.symm
  have C := Lib.hid (h.rstore (a := 2) (v := t) hc ⟨by decide, by decide⟩ hu)
  have HG := Lib.hid hq
  have HO := Lib.hid ho
  obtain ⟨V1, hV1⟩ : ∃ V1, V2.acc (upd V2.f 2 t) 2 2 (V2.f 2) t = V1 := ⟨_, rfl⟩
  have CN := Lib.hid (fun X (hx : Hf G X A R V V1) => hx.rnote (by rw [← hV1]; exact hM) 5 0 0 0 0 n)
  have HV := Lib.hid (show V1.note (V1.cnt, V1.h, 5, 0, 0, 0, 0, n) = V1.note (V2.cnt + 1, V2.h, 5, 0, 0, 0, 0, n) by rw [← hV1]; rfl)
  rw [hV1] at C ⊢
  have c0 := ho.at_ 0 _ rfl
  have c1 := ho.at_ 1 _ rfl
  clear h hq ho hc hM h1 h2 ht htv hV1
  generalize V2.f 2 = v at *
  go_enter Tryz.func79, Tryz.ntmps79
  go_upto_region 2 with (go_at_call 56; ((with_reducible refine C.out.mono ?_); rintro e w3 ⟨rfl, h3, k3⟩; have o3 := HO.out.keep k3 (fun n => n HG.out); have H3 := Lib.hid h3; have O3 := Lib.hid o3; have K3 := Lib.hid (k3.less (G' := fun j => G j ∧ j ≠ q) (fun j g => g.1)); replace c1 := o3.at_ 1 _ rfl; clear h3 o3 k3))
  clear y4 c0
  have CN3 := Lib.hid (CN.out _ H3.out)
  go_upto_region 3 with (go_at_call 121; ((with_reducible refine CN3.out.mono ?_); rintro e w4 ⟨rfl, h4, k4⟩; have o4 := O3.out.keep k4 (fun n => n HG.out); have H4 := Lib.hid h4; have O4 := Lib.hid o4; have K4 := Lib.hid (Kp.to K3.out (k4.less (G' := fun j => G j ∧ j ≠ q) (fun j g => g.1))); have f0 := o4.fz 0 (by simp [rgC]); have y0 := o4.at_ 0 _ rfl; clear h4 k4 o4))
  clear c1
  obtain ⟨h5, k5⟩ := Hf.set (i := 0) H4.out HG.out (.int .i64 0)
  rw [HV.out] at h5
  have H5 := Lib.hid h5
  have O5 := Lib.hid (O4.out.set 0 (.int .i64 0) (by simp [rgC]) (C' := rgC 0 n) rfl)
  have K5 := Lib.hid (Kp.to K4.out k5)
  clear h5 k5
  go_wp2_with fail
  first
    | (go_end0; exact ⟨rfl, H5.out, O5.out, K5.out⟩)
    | exact bodyPost_ret (v := .tuple #[]) (by simp [results, Tryz.results79, go_sem]) rfl ⟨rfl, H5.out, O5.out, K5.out⟩
end
end Go.Proofs.YtepkpbhhiianpaaGreat
/- Next: A list of operations beside a pair of worlds with notes, as acts go. -/
namespace Go.Proofs.YtepkpbhhiianpaaGreat
open Go.RowKit Go.Maps
set_option linter.unusedVariables false
/-- What stands between two acts: the pair; the list; the blocks below B, and P. -/
def PlM (e : TypeId) (size : Nat) (PS : World → Ox → Prop) (B P : Nat) (W : World) (A R : Ad) (X : World) (s : Value) (k : Nat) (c : Int) : Prop :=
  ∃ (V : Wv) (L : List Ox) (G GL : Nat → Prop), Hf G X A R V V ∧ (∀ j, j < B ∨ j = P → G j) ∧ OxL e size PS GL X s L ∧ (∀ j, GL j → G j ∧ ¬ (j < B ∨ j = P)) ∧ Kp (fun j => j < B ∨ j = P) W X ∧ (((V.M.length : Int) + 1000 ≤ c ∧ ∀ x, x ∈ V.M → 0 ≤ x.k ∧ x.k ≤ 255) ∧ V.I.length ≤ 300 ∧ V.cnt ≤ c) ∧ L.length ≤ k
/-- What a step of an operation in a pair leaves. -/
def PoM (PS : World → Ox → Prop) (G : Nat → Prop) (w : World) (A R : Ad) (V : Wv) (x : Ox) (e : Ending) (w' : World) : Prop := e = .returned (.bool true) ∧ ∃ V', Hf G w' A R V' V' ∧ PS w' x ∧ Kp (fun j => G j ∧ ¬ x.own j) w w' ∧ (V'.M.length ≤ V.M.length + 1 ∧ ((∀ y, y ∈ V.M → 0 ≤ y.k ∧ y.k ≤ 255) → ∀ y, y ∈ V'.M → 0 ≤ y.k ∧ y.k ≤ 255)) ∧ V'.I = V.I ∧ V'.cnt ≤ V.cnt + 1
section
variable {e : TypeId} {size : Nat} {PS : World → Ox → Prop} {B P : Nat} {W X Y X0 : World} {A R : Ad} {s : Value} {k k' : Nat} {c c' : Int}
theorem PlM.new (h : PlM e size PS B P W A R X s k c) (hP : Stab PS) (hb : Below X.heap.size X Y) : PlM e size PS B P W A R Y s k c := by
  obtain ⟨V, L, G, GL, h1, h2, h3, h4, h5, h6, h7⟩ := h
  exact ⟨V, L, G, GL, h1.new hb, h2, h3.keep hP (Keeps.of_new (S := fun _ => False) hb) (fun _ _ s => s), h4, Kp.to h5 (Kp.of hb), h6, h7⟩
theorem PlM.le (h : PlM e size PS B P W A R X s k c) (hk : k ≤ k') (hc : c ≤ c') : PlM e size PS B P W A R X s k' c' := by
  obtain ⟨V, L, G, GL, h1, h2, h3, h4, h5, ⟨a, b, d⟩, h7⟩ := h
  exact ⟨V, L, G, GL, h1, h2, h3, h4, h5, ⟨⟨by omega, a.2⟩, b, by omega⟩, by omega⟩
theorem PlM.kp (h : PlM e size PS B P W A R X s k c) : Kp (fun j => j < B ∨ j = P) W X := by
  obtain ⟨V, L, G, GL, h1, h2, h3, h4, h5, h6, h7⟩ := h
  exact h5
theorem PlM.store (h : PlM e size PS B P W A R X s k c) (hP : Stab PS) (hc : c < 1000000) {a v : Int} (ha : isU a) (hv : isU v) :
    Calls Tryz.prog 14 #[.agg #[.pointer (some ⟨A.p, 0, none⟩), .pointer (some ⟨R.p, 0, none⟩)], .agg #[.int .u64 a, .int .u64 v]] X fun e' w' => e' = .returned (.tuple #[]) ∧ PlM e size PS B P W A R w' s k (c + 1) := by
  obtain ⟨V, L, G, GL, h1, h2, h3, h4, h5, ⟨m1, m2, m3⟩, h7⟩ := h
  refine (h1.pw.store (by omega) ha hv).mono ?_
  rintro e' w' ⟨he, h', hk⟩
  exact ⟨he, _, L, G, GL, h'.hf, h2, h3.keep hP hk (fun j g n => n (h4 j g).1), h4, Kp.to h5 (hk.less h2), ⟨⟨by show (V.M.length : Int) + 1000 ≤ c + 1; omega, m1.2⟩, m2, by show V.cnt + 1 ≤ _; omega⟩, h7⟩
theorem PlM.same (h : PlM e size PS B P W A R X s k c) (hc : c ≤ 2000) :
    Calls Tryz.prog 20 #[.agg #[.pointer (some ⟨A.p, 0, none⟩), .pointer (some ⟨R.p, 0, none⟩)]] X fun e' w' => e' = .returned (.bool true) ∧ Below X.heap.size X w' := by
  obtain ⟨V, L, G, GL, h1, h2, h3, h4, h5, ⟨m1, m2, m3⟩, h7⟩ := h
  obtain ⟨S, T, hp, -⟩ := h1.pw
  exact pw_same hp (by omega)
theorem PlM.all (h : PlM e size PS B P W A R X s k c) (hc : c ≤ 2000) :
    Calls Tryz.prog 21 #[.agg #[.pointer (some ⟨A.p, 0, none⟩), .pointer (some ⟨R.p, 0, none⟩)]] X fun e' w' => e' = .returned (.bool true) ∧ Below X.heap.size X w' := by
  obtain ⟨V, L, G, GL, h1, h2, h3, h4, h5, ⟨m1, m2, m3⟩, h7⟩ := h
  obtain ⟨S, T, hp, -⟩ := h1.pw
  exact pw_alla hp (by omega) m1.2 m2 (by omega)
/-- The list's slice: of no element, or of some. -/
theorem PlM.form (h : PlM e size PS B P W A R X s k c) : (∃ a cap, s = .slice a 0 cap) ∨ ∃ g n cap, 0 < n ∧ n ≤ cap ∧ n ≤ k ∧ s = .slice (some ⟨g, 0, none⟩) n cap := by
  obtain ⟨V, L, G, GL, h1, h2, h3, h4, h5, h6, h7⟩ := h
  obtain ⟨_, ⟨rfl, h0⟩ | ⟨g, cap, rfl, -, hg, hn, hc, hx⟩⟩ := Lst.of_own h3.row
  · exact .inl ⟨_, _, rfl⟩
  · rcases Nat.eq_zero_or_pos L.length with e | e
    · rw [e]
      exact .inl ⟨_, _, rfl⟩
    · exact .inr ⟨g, L.length, cap, e, hn, h7, rfl⟩
/-- One of them takes a step. -/
theorem PlM.step {g n cap i : Nat} (h : PlM e size PS B P W A R X (.slice (some ⟨g, 0, none⟩) n cap) k c) (hP : Stab PS) (hi : i < n) : ∃ x, PS X x ∧ x.vals.length = size ∧ (∀ Y, Below X.heap.size X Y → ∀ j u, x.vals[j]? = some u → Y.cell? ⟨g, i * size + j, none⟩ = some u) ∧
    ∀ (f : FuncId) (args : Array Value) (Y : World), Below X.heap.size X Y → (∀ (V : Wv) (G : Nat → Prop), Hf G Y A R V V → PS Y x → (∀ j, x.own j → G j) → V.cnt ≤ c → (V.M.length : Int) + 1000 ≤ c → Calls Tryz.prog f args Y (PoM PS G Y A R V x)) → Calls Tryz.prog f args Y fun e' w' => e' = .returned (.bool true) ∧ PlM e size PS B P W A R w' (.slice (some ⟨g, 0, none⟩) n cap) k (c + 1) ∧ Kp (fun j => X.heap.size ≤ j ∧ j < Y.heap.size) Y w' ∧ ∀ j u, x.vals[j]? = some u → w'.cell? ⟨g, i * size + j, none⟩ = some u := by
  obtain ⟨V, L, G, GL, h1, h2, h3, h4, h5, ⟨m1, m2, m3⟩, h7⟩ := h
  have lt0 := h1.lts
  have hln : L.length = n := by
    obtain ⟨_, ⟨h, h0⟩ | ⟨g', cap', h, -⟩⟩ := Lst.of_own h3.row
    · simp at h
    · simp at h
      exact h.2.1.symm
  obtain ⟨x, hx⟩ : ∃ x, L[i]? = some x := ⟨_, List.getElem?_eq_getElem (by omega)⟩
  have hxm := List.mem_of_getElem? hx
  have lies : ∀ Y, OxL e size PS GL Y (.slice (some ⟨g, 0, none⟩) n cap) L → ∀ j u, x.vals[j]? = some u → Y.cell? ⟨g, i * size + j, none⟩ = some u := fun Y hY j u hu => by
    obtain ⟨g', cap', hs, -, -, -, hat⟩ := hY.at_ hx
    simp at hs
    obtain ⟨rfl, -, rfl⟩ := hs
    exact hat j u hu
  refine ⟨x, (h3.all x hxm).1, h3.len x hxm, fun Y hb => lies Y (h3.keep hP (Keeps.of_new (S := fun _ => False) hb) (fun _ _ s => s)), fun f args Y hb HS => ?_⟩
  have h3' := h3.keep hP (Keeps.of_new (S := fun _ => False) hb) (fun _ _ s => s)
  have ho : ∀ j, x.own j → G j := fun j o => (h4 j ((h3.all x hxm).2 j o)).1
  refine (HS V _ (h1.addN hb) (h3'.all x hxm).1 (fun j o => .inl (ho j o)) m3 m1.1).mono ?_
  rintro e' w' ⟨he, V', hf, hx', hk, r1, r2, r3⟩
  have hk' : Kp (fun j => j < B ∨ j = P) Y w' := hk.less (fun j hj => ⟨.inl (h2 j hj), fun o => (h4 j ((h3.all x hxm).2 j o)).2 hj⟩)
  have h3'' := h3'.step hP hx hk (fun j g n => Classical.byContradiction (fun no => n ⟨.inl (h4 j g).1, no⟩)) hx'
  exact ⟨he, ⟨V', L, G, GL, hf.less (fun j g => .inl g), h2, h3'', h4, Kp.to (Kp.to h5 (Kp.of hb)) hk', ⟨⟨by have := r1.1; omega, r1.2 m1.2⟩, by rw [r2]; exact m2, by omega⟩, h7⟩, hk.less (fun j hj => ⟨.inr hj, fun o => by have := lt0 j (ho j o); omega⟩), lies w' h3''⟩
/-- One more. -/
theorem PlM.app {V : Wv} {L : List Ox} {G GL : Nat → Prop} (hP : Stab PS) (h1 : Hf G X0 A R V V) (h2 : ∀ j, j < B ∨ j = P → G j) (h3 : OxL e size PS GL X0 s L) (h4 : ∀ j, GL j → G j ∧ ¬ (j < B ∨ j = P)) (h5 : Kp (fun j => j < B ∨ j = P) W X0) (h6 : ((V.M.length : Int) + 1000 ≤ c ∧ ∀ x, x ∈ V.M → 0 ≤ x.k ∧ x.k ≤ 255) ∧ V.I.length ≤ 300 ∧ V.cnt ≤ c) (h7 : L.length ≤ k) (hb : Below X0.heap.size X0 X) {x : Ox} (hx : PS X x) (hn : x.vals.length = size) (hxo : ∀ j, x.own j → X0.heap.size ≤ j ∧ j < X.heap.size) {o : Obj} {g cap : Nat} (hown : Y.ownsRow 0 e size (.slice (some ⟨g, 0, none⟩) (L.length + 1) cap) (L.length + 1) (rowsX L ++ x.vals)) (hgr : (X.alloc o).grownBy Y s.ownBlock) (hat : s.ownBlock = some g ∨ g = X.heap.size + 1) (hlt : g < Y.heap.size) :
    PlM e size PS B P W A R Y (.slice (some ⟨g, 0, none⟩) (L.length + 1) cap) (k + 1) c := by
  have lt0 := h1.lts
  have hbo : Below X.heap.size X (X.alloc o) := bs_alloc (Below.refl _ _)
  have hbx : Below X0.heap.size X0 (X.alloc o) := below_then hb hbo
  have hsz := hb.size
  have hF := (h1.addN hb).new hbo
  have hL := (h3.keep hP (Keeps.of_new (S := fun _ => False) hbx) (fun _ _ s => s)).more (G' := fun j => GL j ∨ (X0.heap.size ≤ j ∧ j < X.heap.size)) (fun j g => .inl g)
  have hGL : ∀ j, GL j → j < X0.heap.size := fun j g => lt0 j (h4 j g).1
  have r := hL.app hP (x := x) (hP _ _ _ _ hx (Keeps.of_new (S := fun _ => False) hbo) (fun _ _ s => s)) hn (fun j oj => ⟨.inr (hxo j oj), fun y hy yo => by
    have := hGL j ((h3.all y hy).2 j yo); have := hxo j oj; omega, fun es => by
    have := hGL j (h3.gin j es).1; have := hxo j oj; omega⟩) (fun j gj => by
    rcases gj with gj | gj
    · have := hGL j gj; simp; omega
    · simp; omega) hown hgr (by
    rcases hat with h | h
    · exact .inl h
    · right; simp; omega)
  obtain ⟨r1, r2⟩ := r
  have hsG : ∀ j, s.ownBlock = some j → GL j := fun j es => (h3.gin j es).1
  have hg' : (G g ∨ (X0.heap.size ≤ g ∧ g < X.heap.size)) ∨ (X.alloc o).heap.size ≤ g := by
    rcases hat with h | h
    · exact .inl (.inl (h4 g (hsG g h)).1)
    · right; simp; omega
  refine ⟨V, L ++ [x], _, _, hF.addK r2 (fun j es => .inl (h4 j (hsG j es)).1) hg' hlt, fun j hj => .inl (.inl (h2 j hj)), by simpa using r1, fun j gj => ?_, Kp.to (Kp.to h5 (Kp.of hbx)) (r2.mono (fun j _ es hj => (h4 j (hsG j es)).2 hj)), h6, by simp; omega⟩
  have far : ∀ j, X0.heap.size ≤ j → ¬ (j < B ∨ j = P) := fun j hj hh => by
    have := lt0 j (h2 j hh)
    omega
  rcases gj with (gj | gj) | rfl
  · exact ⟨.inl (.inl (h4 j gj).1), (h4 j gj).2⟩
  · exact ⟨.inl (.inr gj), far j gj.1⟩
  · refine ⟨.inr rfl, ?_⟩
    rcases hat with h | h
    · exact (h4 _ (hsG _ h)).2
    · exact far _ (by omega)
/-- At first. -/
theorem PlM.first {V : Wv} {G : Nat → Prop} (h1 : Hf G X A R V V) (h2 : ∀ j, j < B ∨ j = P → G j) (hM : V.M = []) (h0 : 1000 ≤ c) (hI : V.I.length ≤ 300) (hc : V.cnt ≤ c) : PlM e size PS B P X A R X (.slice none 0 0) 0 c :=
  ⟨V, [], G, fun _ => False, h1, h2, OxL.nil _ _ _ _ _, fun j h => h.elim, Keeps.refl _ _, ⟨⟨by rw [hM]; simpa using h0, fun x hx => by rw [hM] at hx; simp at hx⟩, hI, hc⟩, Nat.le_refl _⟩
end
end Go.Proofs.YtepkpbhhiianpaaGreat
/- Next: A growth or a swap beside the chapter's, in a pair of worlds. -/
namespace Go.Proofs.YtepkpbhhiianpaaGreat
open Go.RowKit Go.Maps
set_option linter.unusedVariables false
section
variable {G : Nat → Prop} {w : World} {A R : Ad} {V V' V2 : Wv} {p r q : Nat} {ln : Int} {ov : Bool}
/-- A step of the program's, as the pair sees it. -/
theorem gw_lift {C C' : List Value} (hs : ∀ G : Nat → Prop, Opw G w A V q C → Calls Tryz.prog 30 #[.pointer (some ⟨q, 0, none⟩), .pointer (some ⟨A.p, 0, none⟩)] w fun e w' => e = .returned (.bool ov) ∧ Opw G w' A V' q C' ∧ Shp w' q 84 ∧ Kp G w w')
    (h : Hf G w A R V V2) (hq : G q) (ho : Ob w q C) :
    Calls Tryz.prog 30 #[.pointer (some ⟨q, 0, none⟩), .pointer (some ⟨A.p, 0, none⟩)] w fun e w' => e = .returned (.bool ov) ∧ Hf G w' A R V' V2 ∧ (Ob w' q C' ∧ Shp w' q 84) ∧ Kp (fun j => G j ∧ j ≠ q) w w' := by
  obtain ⟨T, h1, h2⟩ := h.opw hq ho
  refine (hs _ h1).mono ?_
  rintro e w' ⟨he, ht, hsh, hk⟩
  obtain ⟨a, b, c⟩ := h2 w' _ _ ht hk
  exact ⟨he, a, ⟨b, hsh⟩, c⟩
set_option maxHeartbeats 1000000 in
set_option maxRecDepth 100000 in
theorem gw_two {C C' D D' : List Value} {E : World → Prop} (h : Hf G w A R V V) (hp : G p) (hr : G r) (hpr : p ≠ r) (h1 : Ob w p C ∧ Shp w p 84) (h2 : Ob w r D) (hE : E w) (EK : ∀ (X Y : World) (U : Nat → Prop), E X → Keeps U X Y → (∀ j, U j → j = p ∨ j = r ∨ ¬ G j) → E Y) (hD : D'[0]? = some (.int .i64 ln)) (e2 : (ln == 0) = ov)
    (HR : ∀ G X, Hf G X A R V V → G r → Ob X r D → Calls Tryz.prog 78 #[.pointer (some ⟨r, 0, none⟩), .pointer (some ⟨R.p, 0, none⟩)] X (RoP G A R V V' r D' X))
    (HP : ∀ G X, Hf G X A R V V' → G p → (Ob X p C ∧ Shp X p 84) → E X → Calls Tryz.prog 30 #[.pointer (some ⟨p, 0, none⟩), .pointer (some ⟨A.p, 0, none⟩)] X fun e w' => e = .returned (.bool ov) ∧ Hf G w' A R V' V' ∧ (Ob w' p C' ∧ Shp w' p 84) ∧ Kp (fun j => G j ∧ j ≠ p) X w')
    (HS : ∀ X, Ob X p C' → Calls Tryz.prog 25 #[.pointer (some ⟨p, 0, none⟩)] X fun e w' => e = .returned (.bool ov) ∧ X = w') :
    Calls Tryz.prog 29 #[.agg #[.pointer (some ⟨p, 0, none⟩), .pointer none, .pointer (some ⟨r, 0, none⟩), .pointer none], .agg #[.pointer (some ⟨A.p, 0, none⟩), .pointer (some ⟨R.p, 0, none⟩)]] w fun e w' => e = .returned (.bool true) ∧ Hf G w' A R V' V' ∧ (Ob w' p C' ∧ Shp w' p 84) ∧ Ob w' r D' ∧ Kp (fun j => G j ∧ ¬ (j = p ∨ j = r)) w w' := by
  obtain ⟨F, hF⟩ : ∃ F, F = w.heap.size := ⟨_, rfl⟩
  have hlp := h.lts p hp
  have hlr := h.lts r hr
  have HR := Lib.hid HR
  have HP := Lib.hid HP
  have HS := Lib.hid HS
  have HH := Lib.hid h
  have HO := Lib.hid (And.intro h1 (And.intro h2 hE))
  have HEK := Lib.hid EK
  have HG := Lib.hid (And.intro hp hr)
  have HD := Lib.hid hD
  have E2 := Lib.hid e2
  clear h h1 h2 hp hr hD e2 hE EK
  go_enter Tryz.func29, Tryz.ntmps29
  go_upto_region 1 with fail
  generalize hW1 : World.alloc w _ = W1
  generalize hW2 : World.alloc W1 _ = W2
  have b1 : Below w.heap.size w W1 := by rw [← hW1]; exact bs_alloc (Below.refl _ _)
  have b2 : Below W1.heap.size W1 W2 := by rw [← hW2]; exact bs_alloc (Below.refl _ _)
  have z1 : W1.heap.size = F + 1 := by rw [← hW1, hF]; simp
  have z2 : W2.heap.size = F + 2 := by rw [← hW2]; simp [z1]
  have HH1 := HH.out.add (q := F) b1 (by omega) (by omega)
  have HH2 := Lib.hid (HH1.add (q := F + 1) b2 (by omega) (by omega))
  have B2 := Lib.hid (below_then b1 b2)
  have q0 : W1.cell? ⟨F, 0, none⟩ = some (.pointer (some ⟨p, 0, none⟩)) := by rw [← hW1, hF]; exact new_at rfl rfl
  have q1 : W1.cell? ⟨F, 1, none⟩ = some (.pointer none) := by rw [← hW1, hF]; exact new_at rfl rfl
  have q2 : W1.cell? ⟨F, 2, none⟩ = some (.pointer (some ⟨r, 0, none⟩)) := by rw [← hW1, hF]; exact new_at rfl rfl
  have q3 : W1.cell? ⟨F, 3, none⟩ = some (.pointer none) := by rw [← hW1, hF]; exact new_at rfl rfl
  have t0 : W2.cell? ⟨F + 1, 0, none⟩ = some (.pointer (some ⟨A.p, 0, none⟩)) := by rw [← hW2]; exact new_at z1.symm rfl
  have t1 : W2.cell? ⟨F + 1, 1, none⟩ = some (.pointer (some ⟨R.p, 0, none⟩)) := by rw [← hW2]; exact new_at z1.symm rfl
  have u0 := (b2.cell (p := ⟨F, 0, none⟩) (World.block_lt_of_cell? _ _ q0)).trans q0
  have u1 := (b2.cell (p := ⟨F, 1, none⟩) (World.block_lt_of_cell? _ _ q1)).trans q1
  have u2 := (b2.cell (p := ⟨F, 2, none⟩) (World.block_lt_of_cell? _ _ q2)).trans q2
  have u3 := (b2.cell (p := ⟨F, 3, none⟩) (World.block_lt_of_cell? _ _ q3)).trans q3
  have FK := Lib.hid (show ∀ X, Keeps (fun j => j = p ∨ j = r ∨ ¬ ((G j ∨ j = F) ∨ j = F + 1)) W2 X → X.cell? ⟨F, 0, none⟩ = some (.pointer (some ⟨p, 0, none⟩)) ∧ X.cell? ⟨F, 1, none⟩ = some (.pointer none) ∧ X.cell? ⟨F, 2, none⟩ = some (.pointer (some ⟨r, 0, none⟩)) ∧ X.cell? ⟨F, 3, none⟩ = some (.pointer none) ∧ X.cell? ⟨F + 1, 0, none⟩ = some (.pointer (some ⟨A.p, 0, none⟩)) ∧ X.cell? ⟨F + 1, 1, none⟩ = some (.pointer (some ⟨R.p, 0, none⟩)) from fun X hk => by
    have nF : ¬ (F = p ∨ F = r ∨ ¬ ((G F ∨ F = F) ∨ F = F + 1)) := by
      rintro (e | e | e)
      · omega
      · omega
      · exact e (.inl (.inr rfl))
    have nF1 : ¬ (F + 1 = p ∨ F + 1 = r ∨ ¬ ((G (F + 1) ∨ F + 1 = F) ∨ F + 1 = F + 1)) := by
      rintro (e | e | e)
      · omega
      · omega
      · exact e (.inr rfl)
    exact ⟨hk.cell (p := ⟨F, 0, none⟩) nF u0, hk.cell (p := ⟨F, 1, none⟩) nF u1, hk.cell (p := ⟨F, 2, none⟩) nF u2, hk.cell (p := ⟨F, 3, none⟩) nF u3, hk.cell (p := ⟨F + 1, 0, none⟩) nF1 t0, hk.cell (p := ⟨F + 1, 1, none⟩) nF1 t1⟩)
  have HO2 := Lib.hid (And.intro (And.intro (HO.out.1.1.new B2.out) (HO.out.1.2.new B2.out)) (And.intro (HO.out.2.1.new B2.out) (HEK.out w W2 (fun _ => False) HO.out.2.2 (Keeps.of_new B2.out) (fun j s => s.elim))))
  rw [← hF]
  clear hW1 hW2 b1 b2 z1 z2 HH1 q0 q1 q2 q3 hF
  go_wp2_with fail
  refine (HR.out _ _ HH2.out (.inl (.inl HG.out.2)) HO2.out.2.1).mono ?_
  rintro e w3 ⟨rfl, h3, o3, k3⟩
  have K3 := Lib.hid (show Keeps (fun j => j = p ∨ j = r ∨ ¬ ((G j ∨ j = F) ∨ j = F + 1)) W2 w3 from k3.mono (fun j _ n => by
    by_cases e : j = r
    · exact .inr (.inl e)
    · exact .inr (.inr (fun g => n ⟨g, e⟩))))
  have O3 := Lib.hid o3
  have up : ¬ ¬ (((G p ∨ p = F) ∨ p = F + 1) ∧ p ≠ r) := fun n => n ⟨.inl (.inl HG.out.1), hpr⟩
  have P3 := Lib.hid (And.intro (HO2.out.1.1.keep k3 up) (HO2.out.1.2.keep k3 up))
  have E3 := Lib.hid (HEK.out W2 w3 _ HO2.out.2.2 k3 (fun j n => by
    by_cases e : j = r
    · exact .inr (.inl e)
    · exact .inr (.inr (fun g => n ⟨.inl (.inl g), e⟩))))
  have CP := Lib.hid (HP.out _ _ h3 (.inl (.inl HG.out.1)) P3.out E3.out)
  have l3 : w3.cell? ⟨r, 0, none⟩ = some (.int .i64 ln) := O3.out.at_ 0 _ HD.out
  clear u0 u1 u2 u3 t0 t1 h3 o3 k3 up
  obtain ⟨u0, u1, u2, u3, t0, t1⟩ := FK.out _ K3.out
  have e2 := E2.out
  have e3 : (ov == ov) = true := by simp
  go_upto_region 4 with (fail)
  clear l3
  go_wp2_with (first
    | (go_at_call 30; ((with_reducible refine CP.out.mono ?_); rintro e w4 ⟨rfl, h4, o4, k4⟩; have K4 := Lib.hid (K3.out.trans (T := fun j => j = p ∨ j = r ∨ ¬ ((G j ∨ j = F) ∨ j = F + 1)) (k4.mono (fun j _ n => by
          by_cases e : j = p
          · exact .inl e
          · exact .inr (.inr (fun g => n ⟨g, e⟩)))) (fun _ _ s => s)); have H4 := Lib.hid h4; have P4 := Lib.hid o4; have O4 := Lib.hid (O3.out.keep k4 (fun n => n ⟨.inl (.inl HG.out.2), fun e => hpr e.symm⟩)); clear u0 u1 u2 u3 t0 t1 h4 o4 k4; obtain ⟨u0, u1, u2, u3, t0, t1⟩ := FK.out _ K4.out; have CS := Lib.hid (HS.out _ P4.out.1)))
    | (go_at_call 25; ((with_reducible refine CS.out.mono ?_); rintro e w5 ⟨rfl, rfl⟩)))
  go_ret
  exact ⟨rfl, H4.out.less (G' := G) (fun j g => .inl (.inl g)), P4.out, O4.out, Kp.to (Kp.of B2.out) (K4.out.mono (fun j _ n g => by
          rcases n with n | n | n
          · exact g.2 (.inl n)
          · exact g.2 (.inr n)
          · exact n (.inl (.inl g.1))))⟩
end
section
variable {G : Nat → Prop} {w : World} {A R : Ad} {V V' V2 : Wv} {p r q : Nat} {ln : Int} {ov : Bool}
/-- A step of the program's, as the pair sees it. -/
theorem sw_lift {C C' : List Value} (hs : ∀ G : Nat → Prop, Opw G w A V q C → Calls Tryz.prog 31 #[.pointer (some ⟨q, 0, none⟩), .pointer (some ⟨A.p, 0, none⟩)] w fun e w' => e = .returned (.bool ov) ∧ Opw G w' A V' q C' ∧ Shp w' q 90 ∧ Kp G w w')
    (h : Hf G w A R V V2) (hq : G q) (ho : Ob w q C) :
    Calls Tryz.prog 31 #[.pointer (some ⟨q, 0, none⟩), .pointer (some ⟨A.p, 0, none⟩)] w fun e w' => e = .returned (.bool ov) ∧ Hf G w' A R V' V2 ∧ (Ob w' q C' ∧ Shp w' q 90) ∧ Kp (fun j => G j ∧ j ≠ q) w w' := by
  obtain ⟨T, h1, h2⟩ := h.opw hq ho
  refine (hs _ h1).mono ?_
  rintro e w' ⟨he, ht, hsh, hk⟩
  obtain ⟨a, b, c⟩ := h2 w' _ _ ht hk
  exact ⟨he, a, ⟨b, hsh⟩, c⟩
set_option maxHeartbeats 1000000 in
set_option maxRecDepth 100000 in
theorem sw_two {C C' D D' : List Value} {E : World → Prop} (h : Hf G w A R V V) (hp : G p) (hr : G r) (hpr : p ≠ r) (h1 : Ob w p C ∧ Shp w p 90) (h2 : Ob w r D) (hE : E w) (EK : ∀ (X Y : World) (U : Nat → Prop), E X → Keeps U X Y → (∀ j, U j → j = p ∨ j = r ∨ ¬ G j) → E Y) (hD : D'[0]? = some (.int .i64 ln)) (e2 : (ln == 0) = ov)
    (HR : ∀ G X, Hf G X A R V V → G r → Ob X r D → Calls Tryz.prog 79 #[.pointer (some ⟨r, 0, none⟩), .pointer (some ⟨R.p, 0, none⟩)] X (RoP G A R V V' r D' X))
    (HP : ∀ G X, Hf G X A R V V' → G p → (Ob X p C ∧ Shp X p 90) → E X → Calls Tryz.prog 31 #[.pointer (some ⟨p, 0, none⟩), .pointer (some ⟨A.p, 0, none⟩)] X fun e w' => e = .returned (.bool ov) ∧ Hf G w' A R V' V' ∧ (Ob w' p C' ∧ Shp w' p 90) ∧ Kp (fun j => G j ∧ j ≠ p) X w')
    (HS : ∀ X, Ob X p C' → Calls Tryz.prog 28 #[.pointer (some ⟨p, 0, none⟩)] X fun e w' => e = .returned (.bool ov) ∧ X = w') :
    Calls Tryz.prog 29 #[.agg #[.pointer none, .pointer (some ⟨p, 0, none⟩), .pointer none, .pointer (some ⟨r, 0, none⟩)], .agg #[.pointer (some ⟨A.p, 0, none⟩), .pointer (some ⟨R.p, 0, none⟩)]] w fun e w' => e = .returned (.bool true) ∧ Hf G w' A R V' V' ∧ (Ob w' p C' ∧ Shp w' p 90) ∧ Ob w' r D' ∧ Kp (fun j => G j ∧ ¬ (j = p ∨ j = r)) w w' := by
  obtain ⟨F, hF⟩ : ∃ F, F = w.heap.size := ⟨_, rfl⟩
  have hlp := h.lts p hp
  have hlr := h.lts r hr
  have HR := Lib.hid HR
  have HP := Lib.hid HP
  have HS := Lib.hid HS
  have HH := Lib.hid h
  have HO := Lib.hid (And.intro h1 (And.intro h2 hE))
  have HEK := Lib.hid EK
  have HG := Lib.hid (And.intro hp hr)
  have HD := Lib.hid hD
  have E2 := Lib.hid e2
  clear h h1 h2 hp hr hD e2 hE EK
  go_enter Tryz.func29, Tryz.ntmps29
  go_upto_region 1 with fail
  generalize hW1 : World.alloc w _ = W1
  generalize hW2 : World.alloc W1 _ = W2
  have b1 : Below w.heap.size w W1 := by rw [← hW1]; exact bs_alloc (Below.refl _ _)
  have b2 : Below W1.heap.size W1 W2 := by rw [← hW2]; exact bs_alloc (Below.refl _ _)
  have z1 : W1.heap.size = F + 1 := by rw [← hW1, hF]; simp
  have z2 : W2.heap.size = F + 2 := by rw [← hW2]; simp [z1]
  have HH1 := HH.out.add (q := F) b1 (by omega) (by omega)
  have HH2 := Lib.hid (HH1.add (q := F + 1) b2 (by omega) (by omega))
  have B2 := Lib.hid (below_then b1 b2)
  have q0 : W1.cell? ⟨F, 0, none⟩ = some (.pointer none) := by rw [← hW1, hF]; exact new_at rfl rfl
  have q1 : W1.cell? ⟨F, 1, none⟩ = some (.pointer (some ⟨p, 0, none⟩)) := by rw [← hW1, hF]; exact new_at rfl rfl
  have q2 : W1.cell? ⟨F, 2, none⟩ = some (.pointer none) := by rw [← hW1, hF]; exact new_at rfl rfl
  have q3 : W1.cell? ⟨F, 3, none⟩ = some (.pointer (some ⟨r, 0, none⟩)) := by rw [← hW1, hF]; exact new_at rfl rfl
  have t0 : W2.cell? ⟨F + 1, 0, none⟩ = some (.pointer (some ⟨A.p, 0, none⟩)) := by rw [← hW2]; exact new_at z1.symm rfl
  have t1 : W2.cell? ⟨F + 1, 1, none⟩ = some (.pointer (some ⟨R.p, 0, none⟩)) := by rw [← hW2]; exact new_at z1.symm rfl
  have u0 := (b2.cell (p := ⟨F, 0, none⟩) (World.block_lt_of_cell? _ _ q0)).trans q0
  have u1 := (b2.cell (p := ⟨F, 1, none⟩) (World.block_lt_of_cell? _ _ q1)).trans q1
  have u2 := (b2.cell (p := ⟨F, 2, none⟩) (World.block_lt_of_cell? _ _ q2)).trans q2
  have u3 := (b2.cell (p := ⟨F, 3, none⟩) (World.block_lt_of_cell? _ _ q3)).trans q3
  have FK := Lib.hid (show ∀ X, Keeps (fun j => j = p ∨ j = r ∨ ¬ ((G j ∨ j = F) ∨ j = F + 1)) W2 X → X.cell? ⟨F, 0, none⟩ = some (.pointer none) ∧ X.cell? ⟨F, 1, none⟩ = some (.pointer (some ⟨p, 0, none⟩)) ∧ X.cell? ⟨F, 2, none⟩ = some (.pointer none) ∧ X.cell? ⟨F, 3, none⟩ = some (.pointer (some ⟨r, 0, none⟩)) ∧ X.cell? ⟨F + 1, 0, none⟩ = some (.pointer (some ⟨A.p, 0, none⟩)) ∧ X.cell? ⟨F + 1, 1, none⟩ = some (.pointer (some ⟨R.p, 0, none⟩)) from fun X hk => by
    have nF : ¬ (F = p ∨ F = r ∨ ¬ ((G F ∨ F = F) ∨ F = F + 1)) := by
      rintro (e | e | e)
      · omega
      · omega
      · exact e (.inl (.inr rfl))
    have nF1 : ¬ (F + 1 = p ∨ F + 1 = r ∨ ¬ ((G (F + 1) ∨ F + 1 = F) ∨ F + 1 = F + 1)) := by
      rintro (e | e | e)
      · omega
      · omega
      · exact e (.inr rfl)
    exact ⟨hk.cell (p := ⟨F, 0, none⟩) nF u0, hk.cell (p := ⟨F, 1, none⟩) nF u1, hk.cell (p := ⟨F, 2, none⟩) nF u2, hk.cell (p := ⟨F, 3, none⟩) nF u3, hk.cell (p := ⟨F + 1, 0, none⟩) nF1 t0, hk.cell (p := ⟨F + 1, 1, none⟩) nF1 t1⟩)
  have HO2 := Lib.hid (And.intro (And.intro (HO.out.1.1.new B2.out) (HO.out.1.2.new B2.out)) (And.intro (HO.out.2.1.new B2.out) (HEK.out w W2 (fun _ => False) HO.out.2.2 (Keeps.of_new B2.out) (fun j s => s.elim))))
  rw [← hF]
  clear hW1 hW2 b1 b2 z1 z2 HH1 q0 q1 q2 q3 hF
  go_wp2_with fail
  refine (HR.out _ _ HH2.out (.inl (.inl HG.out.2)) HO2.out.2.1).mono ?_
  rintro e w3 ⟨rfl, h3, o3, k3⟩
  have K3 := Lib.hid (show Keeps (fun j => j = p ∨ j = r ∨ ¬ ((G j ∨ j = F) ∨ j = F + 1)) W2 w3 from k3.mono (fun j _ n => by
    by_cases e : j = r
    · exact .inr (.inl e)
    · exact .inr (.inr (fun g => n ⟨g, e⟩))))
  have O3 := Lib.hid o3
  have up : ¬ ¬ (((G p ∨ p = F) ∨ p = F + 1) ∧ p ≠ r) := fun n => n ⟨.inl (.inl HG.out.1), hpr⟩
  have P3 := Lib.hid (And.intro (HO2.out.1.1.keep k3 up) (HO2.out.1.2.keep k3 up))
  have E3 := Lib.hid (HEK.out W2 w3 _ HO2.out.2.2 k3 (fun j n => by
    by_cases e : j = r
    · exact .inr (.inl e)
    · exact .inr (.inr (fun g => n ⟨.inl (.inl g), e⟩))))
  have CP := Lib.hid (HP.out _ _ h3 (.inl (.inl HG.out.1)) P3.out E3.out)
  have l3 : w3.cell? ⟨r, 0, none⟩ = some (.int .i64 ln) := O3.out.at_ 0 _ HD.out
  clear u0 u1 u2 u3 t0 t1 h3 o3 k3 up
  obtain ⟨u0, u1, u2, u3, t0, t1⟩ := FK.out _ K3.out
  have e2 := E2.out
  have e3 : (ov == ov) = true := by simp
  go_upto_region 7 with (fail)
  clear l3
  go_wp2_with (first
    | (go_at_call 31; ((with_reducible refine CP.out.mono ?_); rintro e w4 ⟨rfl, h4, o4, k4⟩; have K4 := Lib.hid (K3.out.trans (T := fun j => j = p ∨ j = r ∨ ¬ ((G j ∨ j = F) ∨ j = F + 1)) (k4.mono (fun j _ n => by
          by_cases e : j = p
          · exact .inl e
          · exact .inr (.inr (fun g => n ⟨g, e⟩)))) (fun _ _ s => s)); have H4 := Lib.hid h4; have P4 := Lib.hid o4; have O4 := Lib.hid (O3.out.keep k4 (fun n => n ⟨.inl (.inl HG.out.2), fun e => hpr e.symm⟩)); clear u0 u1 u2 u3 t0 t1 h4 o4 k4; obtain ⟨u0, u1, u2, u3, t0, t1⟩ := FK.out _ K4.out; have CS := Lib.hid (HS.out _ P4.out.1)))
    | (go_at_call 28; ((with_reducible refine CS.out.mono ?_); rintro e w5 ⟨rfl, rfl⟩)))
  go_ret
  exact ⟨rfl, H4.out.less (G' := G) (fun j g => .inl (.inl g)), P4.out, O4.out, Kp.to (Kp.of B2.out) (K4.out.mono (fun j _ n g => by
          rcases n with n | n | n
          · exact g.2 (.inl n)
          · exact g.2 (.inr n)
          · exact n (.inl (.inl g.1))))⟩
end
end Go.Proofs.YtepkpbhhiianpaaGreat
/- Next: A growth or a swap beside the chapter's: what stands of it; its step. -/
namespace Go.Proofs.YtepkpbhhiianpaaGreat
open Go.RowKit Go.Maps
set_option linter.unusedVariables false
def GwG (w : World) (x : Ox) : Prop := ∃ (p r b : Nat) (o n : Int) (a : Option Addr) (c : Nat) (z : Int), x.vals = [.pointer (some ⟨p, 0, none⟩), .pointer none, .pointer (some ⟨r, 0, none⟩), .pointer none] ∧ x.own = (fun j => j = p ∨ j = r ∨ j = b) ∧ p ≠ r ∧ Shp w p 84 ∧ ((b ≠ p ∧ b ≠ r ∧ 1 ≤ o ∧ o ≤ 11 ∧ n = o + 1 ∧ Ob w b [.int .i64 0, .int .i64 1] ∧ ((Ob w p (gwC (.slice (some ⟨b, 0, none⟩) 2 2) o n) ∧ Ob w r (rgC 1 o)) ∨ (Ob w p (gwC (.slice (some ⟨b, 1, none⟩) 1 1) o n) ∧ Ob w r (rgC 2 o)))) ∨ (Ob w p (gwC (.slice a 0 c) o n) ∧ Ob w r (rgC 0 z)))
def GwW (w : World) (x : Ox) : Prop := ∃ (p r b : Nat) (o n : Int) (a : Option Addr) (c : Nat) (z : Int), x.vals = [.pointer none, .pointer (some ⟨p, 0, none⟩), .pointer none, .pointer (some ⟨r, 0, none⟩)] ∧ x.own = (fun j => j = p ∨ j = r ∨ j = b) ∧ p ≠ r ∧ Shp w p 90 ∧ ((b ≠ p ∧ b ≠ r ∧ 1 ≤ n ∧ n ≤ 12 ∧ Ob w b [.int .i64 2] ∧ Ob w p (gwC (.slice (some ⟨b, 0, none⟩) 1 1) o n) ∧ Ob w r (rgC 1 n)) ∨ (Ob w p (gwC (.slice a 0 c) o n) ∧ Ob w r (rgC 0 z)))
def GwS (w : World) (x : Ox) : Prop := GwG w x ∨ GwW w x
theorem stabGw : Stab GwS := by
  intro w W x U h hk hU
  rcases h with ⟨p, r, b, o, n, a, c, z, hv, ho, hpr, hs, h⟩ | ⟨p, r, b, o, n, a, c, z, hv, ho, hpr, hs, h⟩
  · have up := hU p (by rw [ho]; exact .inl rfl)
    have ur := hU r (by rw [ho]; exact .inr (.inl rfl))
    have ub := hU b (by rw [ho]; exact .inr (.inr rfl))
    refine .inl ⟨p, r, b, o, n, a, c, z, hv, ho, hpr, hs.keep hk up, ?_⟩
    rcases h with ⟨h1, h2, h3, h4, h5, hb, ⟨hp, hr⟩ | ⟨hp, hr⟩⟩ | ⟨hp, hr⟩
    · exact .inl ⟨h1, h2, h3, h4, h5, hb.keep hk ub, .inl ⟨hp.keep hk up, hr.keep hk ur⟩⟩
    · exact .inl ⟨h1, h2, h3, h4, h5, hb.keep hk ub, .inr ⟨hp.keep hk up, hr.keep hk ur⟩⟩
    · exact .inr ⟨hp.keep hk up, hr.keep hk ur⟩
  · have up := hU p (by rw [ho]; exact .inl rfl)
    have ur := hU r (by rw [ho]; exact .inr (.inl rfl))
    have ub := hU b (by rw [ho]; exact .inr (.inr rfl))
    refine .inr ⟨p, r, b, o, n, a, c, z, hv, ho, hpr, hs.keep hk up, ?_⟩
    rcases h with ⟨h1, h2, h3, h4, hb, hp, hr⟩ | ⟨hp, hr⟩
    · exact .inl ⟨h1, h2, h3, h4, hb.keep hk ub, hp.keep hk up, hr.keep hk ur⟩
    · exact .inr ⟨hp.keep hk up, hr.keep hk ur⟩
theorem addL_noteG {L : List Nv} {x : Nv} (hx : 0 ≤ x.k ∧ x.k ≤ 255) : (addL L x).length ≤ L.length + 1 ∧ ((∀ y, y ∈ L → 0 ≤ y.k ∧ y.k ≤ 255) → ∀ y, y ∈ addL L x → 0 ≤ y.k ∧ y.k ≤ 255) := by
  unfold addL
  split
  · refine ⟨by simp, fun h y hy => ?_⟩
    simp at hy
    rcases hy with hy | rfl
    · exact h y hy
    · exact hx
  · exact ⟨by omega, fun h => h⟩
section
variable {G : Nat → Prop} {w : World} {A R : Ad} {V : Wv} {x : Ox}
theorem gw_stepS (h : Hf G w A R V V) (hx : GwS w x) (hG : ∀ k, x.own k → G k) (hc : V.cnt < 10000000) (hM : V.M.length ≤ 100000) :
    Calls Tryz.prog 29 #[.agg x.vals.toArray, .agg #[.pointer (some ⟨A.p, 0, none⟩), .pointer (some ⟨R.p, 0, none⟩)]] w (PoM GwS G w A R V x) := by
  rcases hx with ⟨p, r, b, o, n, a, c, z, hv, ho, hpr, hs, hx⟩ | ⟨p, r, b, o, n, a, c, z, hv, ho, hpr, hs, hx⟩
  · have gp : G p := hG p (by rw [ho]; exact .inl rfl)
    have gr : G r := hG r (by rw [ho]; exact .inr (.inl rfl))
    have gb : G b := hG b (by rw [ho]; exact .inr (.inr rfl))
    rw [hv]
    have kk : ∀ {w' : World}, Kp (fun j => G j ∧ ¬ (j = p ∨ j = r)) w w' → Kp (fun j => G j ∧ ¬ x.own j) w w' := fun {w'} k => k.less (fun j g => ⟨g.1, fun e => g.2 (by rw [ho]; rcases e with e | e; exact .inl e; exact .inr (.inl e))⟩)
    rcases hx with ⟨h1, h2, h3, h4, rfl, hb, ⟨hp, hr⟩ | ⟨hp, hr⟩⟩ | ⟨hp, hr⟩
    · refine (gw_two (E := fun X => Ob X b [.int .i64 0, .int .i64 1]) h gp gr hpr ⟨hp, hs⟩ hr hb (fun X Y U e k hU => e.keep k (fun u => by rcases hU b u with e | e | e; exact h1 e; exact h2 e; exact e gb)) (D' := rgC 2 o) (ln := 2) (ov := false) rfl rfl (fun G X hf g hr => rgw1 hf g hr (by omega)) (fun G X hf g hp hE => gw_lift (fun G' hO => gst (P := fun w' => Opw G' w' A (V.acc (upd V.f 3 0) 2 3 (V.f 3) 0) p (gwC (.slice (some ⟨b, 1, none⟩) 1 1) o (o + 1)) ∧ Shp w' p 84 ∧ Kp G' X w') (gcstep2 hO hp.2 (hE.at_ 0 _ rfl) (by omega))) hf g hp.1) (fun X hX => gov_f hX (by decide))).mono ?_
      rintro e w' ⟨he, hf, ⟨hp', hs'⟩, hr', hk⟩
      exact ⟨he, _, hf, .inl ⟨p, r, b, o, o + 1, a, c, z, hv, ho, hpr, hs', .inl ⟨h1, h2, h3, h4, rfl, hb.keep hk (fun n => n ⟨gb, fun e => by rcases e with e | e; exact h1 e; exact h2 e⟩), .inr ⟨hp', hr'⟩⟩⟩, kk hk, ⟨by show V.M.length ≤ _; omega, fun h => h⟩, rfl, by show V.cnt + 1 ≤ _; omega⟩
    · have hu : isU (wordf o (o + 1)) := by unfold wordf; exact ⟨by omega, by omega⟩
      refine (gw_two (E := fun X => Ob X b [.int .i64 0, .int .i64 1]) h gp gr hpr ⟨hp, hs⟩ hr hb (fun X Y U e k hU => e.keep k (fun u => by rcases hU b u with e | e | e; exact h1 e; exact h2 e; exact e gb)) (D' := rgC 0 o) (ln := 0) (ov := true) rfl rfl (fun G X hf g hr => rgw2 hf g hr (by omega) (by omega) h3 h4 rfl rfl) (fun G X hf g hp hE => gw_lift (fun G' hO => gst (P := fun w' => Opw G' w' A ((V.acc (upd V.f 2 (wordf o (o + 1))) 2 2 (V.f 2) (wordf o (o + 1))).note (V.cnt + 1, V.h, 4, 0, 0, 0, 0, o + 1)) p (gwC (.slice (some ⟨b, 1, none⟩) 0 0) o (o + 1)) ∧ Shp w' p 84 ∧ Kp G' X w') (gcstep1 hO hp.2 (hE.at_ 1 _ rfl) (by omega) (by omega) rfl hu)) hf g hp.1) (fun X hX => gov_t hX)).mono ?_
      rintro e w' ⟨he, hf, ⟨hp', hs'⟩, hr', hk⟩
      exact ⟨he, _, hf, .inl ⟨p, r, b, o, o + 1, some ⟨b, 1, none⟩, 0, o, hv, ho, hpr, hs', .inr ⟨hp', hr'⟩⟩, kk hk, addL_noteG (L := V.M) (x := (V.cnt + 1, V.h, 4, 0, 0, 0, 0, o + 1)) ⟨by show (0 : Int) ≤ 4; decide, by show (4 : Int) ≤ 255; decide⟩, rfl, by show V.cnt + 1 ≤ _; omega⟩
    · refine (gw_two (E := fun X => True) h gp gr hpr ⟨hp, hs⟩ hr trivial (fun X Y U e k hU => trivial) (D' := rgC 0 z) (ln := 0) (ov := true) rfl rfl (fun G X hf g hr => rgw0 hf hr) (fun G X hf g hp hE => by
        refine (gst (P := fun w' => X = w') (gc_over hp.1 _)).mono ?_
        rintro e w' ⟨he, rfl⟩
        exact ⟨he, hf, hp, Keeps.refl _ _⟩) (fun X hX => gov_t hX)).mono ?_
      rintro e w' ⟨he, hf, ⟨hp', hs'⟩, hr', hk⟩
      exact ⟨he, _, hf, .inl ⟨p, r, b, o, n, a, c, z, hv, ho, hpr, hs', .inr ⟨hp', hr'⟩⟩, kk hk, ⟨by omega, fun h => h⟩, rfl, by omega⟩
  · have gp : G p := hG p (by rw [ho]; exact .inl rfl)
    have gr : G r := hG r (by rw [ho]; exact .inr (.inl rfl))
    have gb : G b := hG b (by rw [ho]; exact .inr (.inr rfl))
    rw [hv]
    have kk : ∀ {w' : World}, Kp (fun j => G j ∧ ¬ (j = p ∨ j = r)) w w' → Kp (fun j => G j ∧ ¬ x.own j) w w' := fun {w'} k => k.less (fun j g => ⟨g.1, fun e => g.2 (by rw [ho]; rcases e with e | e; exact .inl e; exact .inr (.inl e))⟩)
    rcases hx with ⟨h1, h2, h3, h4, hb, hp, hr⟩ | ⟨hp, hr⟩
    · have hu : isU (wordf n 0) := by unfold wordf; exact ⟨by omega, by omega⟩
      refine (sw_two (E := fun X => Ob X b [.int .i64 2]) h gp gr hpr ⟨hp, hs⟩ hr hb (fun X Y U e k hU => e.keep k (fun u => by rcases hU b u with e | e | e; exact h1 e; exact h2 e; exact e gb)) (D' := rgC 0 n) (ln := 0) (ov := true) rfl rfl (fun G X hf g hr => rsw1 hf g hr (by omega) (by omega) h3 h4 rfl) (fun G X hf g hp hE => sw_lift (fun G' hO => sst (P := fun w' => Opw G' w' A ((V.acc (upd V.f 2 (wordf n 0)) 2 2 (V.f 2) (wordf n 0)).note (V.cnt + 1, V.h, 5, 0, 0, 0, 0, n)) p (gwC (.slice (some ⟨b, 0, none⟩) 0 0) o n) ∧ Shp w' p 90 ∧ Kp G' X w') (scstep1 hO hp.2 (hE.at_ 0 _ rfl) (by omega) (by omega) rfl hu)) hf g hp.1) (fun X hX => sov_t hX)).mono ?_
      rintro e w' ⟨he, hf, ⟨hp', hs'⟩, hr', hk⟩
      exact ⟨he, _, hf, .inr ⟨p, r, b, o, n, some ⟨b, 0, none⟩, 0, n, hv, ho, hpr, hs', .inr ⟨hp', hr'⟩⟩, kk hk, addL_noteG (L := V.M) (x := (V.cnt + 1, V.h, 5, 0, 0, 0, 0, n)) ⟨by show (0 : Int) ≤ 5; decide, by show (5 : Int) ≤ 255; decide⟩, rfl, by show V.cnt + 1 ≤ _; omega⟩
    · refine (sw_two (E := fun X => True) h gp gr hpr ⟨hp, hs⟩ hr trivial (fun X Y U e k hU => trivial) (D' := rgC 0 z) (ln := 0) (ov := true) rfl rfl (fun G X hf g hr => rsw0 hf hr) (fun G X hf g hp hE => by
        refine (sst (P := fun w' => X = w') (sc_over hp.1 _)).mono ?_
        rintro e w' ⟨he, rfl⟩
        exact ⟨he, hf, hp, Keeps.refl _ _⟩) (fun X hX => sov_t hX)).mono ?_
      rintro e w' ⟨he, hf, ⟨hp', hs'⟩, hr', hk⟩
      exact ⟨he, _, hf, .inr ⟨p, r, b, o, n, a, c, z, hv, ho, hpr, hs', .inr ⟨hp', hr'⟩⟩, kk hk, ⟨by omega, fun h => h⟩, rfl, by omega⟩
end
theorem GwS.four {w : World} {x : Ox} (h : GwS w x) : ∃ v0 v1 v2 v3, x.vals = [v0, v1, v2, v3] := by
  rcases h with ⟨p, r, b, o, n, a, c, z, hv, -⟩ | ⟨p, r, b, o, n, a, c, z, hv, -⟩
  · exact ⟨_, _, _, _, hv⟩
  · exact ⟨_, _, _, _, hv⟩
end Go.Proofs.YtepkpbhhiianpaaGreat
/- Next: How a growth or a swap begins, beside the chapter's. -/
namespace Go.Proofs.YtepkpbhhiianpaaGreat
open Go.RowKit Go.Maps
set_option linter.unusedVariables false
def GnG (t : Int) (w : World) (q b : Nat) : Prop := Shp w q 84 ∧ ((asN t = 0 ∧ asO t ≠ 12 ∧ b ≠ q ∧ Ob w q (gwC (.slice (some ⟨b, 0, none⟩) 2 2) (asO t) (asO t + 1)) ∧ Ob w b [.int .i64 0, .int .i64 1]) ∨ ((asN t ≠ 0 ∨ asO t = 12) ∧ b = q ∧ Ob w q (gwC (.slice none 0 0) 0 0)))
def GnS (t : Int) (w : World) (q b : Nat) : Prop := Shp w q 90 ∧ ((asN t ≠ 0 ∧ b ≠ q ∧ Ob w q (gwC (.slice (some ⟨b, 0, none⟩) 1 1) (asO t) (asN t)) ∧ Ob w b [.int .i64 2]) ∨ (asN t = 0 ∧ b = q ∧ Ob w q (gwC (.slice none 0 0) 0 0)))
theorem GnG.keep {t : Int} {w W : World} {q b : Nat} {T : Nat → Prop} (h : GnG t w q b) (hk : Keeps T w W) (hq : ¬ T q) (hb : ¬ T b) : GnG t W q b := by
  obtain ⟨hs, ⟨h1, h2, h3, h4, h5⟩ | ⟨h1, h2, h3⟩⟩ := h
  · exact ⟨hs.keep hk hq, .inl ⟨h1, h2, h3, h4.keep hk hq, h5.keep hk hb⟩⟩
  · exact ⟨hs.keep hk hq, .inr ⟨h1, h2, h3.keep hk hq⟩⟩
theorem GnS.keep {t : Int} {w W : World} {q b : Nat} {T : Nat → Prop} (h : GnS t w q b) (hk : Keeps T w W) (hq : ¬ T q) (hb : ¬ T b) : GnS t W q b := by
  obtain ⟨hs, ⟨h1, h3, h4, h5⟩ | ⟨h1, h2, h3⟩⟩ := h
  · exact ⟨hs.keep hk hq, .inl ⟨h1, h3, h4.keep hk hq, h5.keep hk hb⟩⟩
  · exact ⟨hs.keep hk hq, .inr ⟨h1, h2, h3.keep hk hq⟩⟩
theorem newGrowA (t : Int) (w : World) (ht : isU t) : Calls Tryz.prog 23 #[.int .u64 t] w fun e w' => ∃ q b, e = .returned (.pointer (some ⟨q, 0, none⟩)) ∧ GnG t w' q b ∧ (w.heap.size ≤ q ∧ q < w'.heap.size) ∧ (w.heap.size ≤ b ∧ b < w'.heap.size) ∧ Below w.heap.size w w' := by
  by_cases c : asN t = 0 ∧ asO t ≠ 12
  · refine (newGrow t w ht c.1 rfl c.2).mono ?_
    rintro e w' ⟨q, b, he, ho, hob, hs, hq, hB, hqb, hb⟩
    exact ⟨q, b, he, ⟨hs, .inl ⟨c.1, c.2, fun e => hqb e.symm, ho, hob⟩⟩, ⟨hq, ho.lt⟩, ⟨hB, hob.lt⟩, hb⟩
  · refine (newGrow_no t w ht (by omega)).mono ?_
    rintro e w' ⟨q, he, ho, hs, hq, hb⟩
    exact ⟨q, q, he, ⟨hs, .inr ⟨by omega, rfl, ho⟩⟩, ⟨hq, ho.lt⟩, ⟨hq, ho.lt⟩, hb⟩
theorem newSwapA (t : Int) (w : World) (ht : isU t) : Calls Tryz.prog 26 #[.int .u64 t] w fun e w' => ∃ q b, e = .returned (.pointer (some ⟨q, 0, none⟩)) ∧ GnS t w' q b ∧ (w.heap.size ≤ q ∧ q < w'.heap.size) ∧ (w.heap.size ≤ b ∧ b < w'.heap.size) ∧ Below w.heap.size w w' := by
  by_cases c : asN t = 0
  · refine (newSwap_no t w ht c).mono ?_
    rintro e w' ⟨q, he, ho, hs, hq, hb⟩
    exact ⟨q, q, he, ⟨hs, .inr ⟨c, rfl, ho⟩⟩, ⟨hq, ho.lt⟩, ⟨hq, ho.lt⟩, hb⟩
  · refine (newSwap t w ht rfl rfl c).mono ?_
    rintro e w' ⟨q, b, he, ho, hob, hs, hq, hB, hqb, hb⟩
    exact ⟨q, b, he, ⟨hs, .inl ⟨c, fun e => hqb e.symm, ho, hob⟩⟩, ⟨hq, ho.lt⟩, ⟨hB, hob.lt⟩, hb⟩
def LnG (t l z : Int) : Prop := (asN t = 0 ∧ asO t ≠ 12 ∧ l = 1 ∧ z = asO t) ∨ ((asN t ≠ 0 ∨ asO t = 12) ∧ l = 0 ∧ z = 0)
def LnS (t l z : Int) : Prop := (asN t ≠ 0 ∧ l = 1 ∧ z = asN t) ∨ (asN t = 0 ∧ l = 0 ∧ z = 0)
theorem lnG_any (t : Int) : ∃ l z, LnG t l z := by
  by_cases c : asN t = 0 ∧ asO t ≠ 12
  · exact ⟨1, asO t, .inl ⟨c.1, c.2, rfl, rfl⟩⟩
  · exact ⟨0, 0, .inr ⟨by omega, rfl, rfl⟩⟩
theorem lnS_any (t : Int) : ∃ l z, LnS t l z := by
  by_cases c : asN t = 0
  · exact ⟨0, 0, .inr ⟨c, rfl, rfl⟩⟩
  · exact ⟨1, asN t, .inl ⟨c, rfl, rfl⟩⟩
/-- A new operation, as the list has it: its line, and that it is told. -/
def IsGw (w : World) (x : Ox) (p r : Nat) (k : Bool) (ln : Int) (ov : Bool) : Prop := x.vals = (if k then [.pointer (some ⟨p, 0, none⟩), .pointer none, .pointer (some ⟨r, 0, none⟩), .pointer none] else [.pointer none, .pointer (some ⟨p, 0, none⟩), .pointer none, .pointer (some ⟨r, 0, none⟩)]) ∧ GwS w x ∧ (ln == 0) = ov
theorem gw_beginG {t l z : Int} {X : World} {q b r : Nat} (h : GnG t X q b) (hr : Ob X r (rgC l z)) (hl : LnG t l z) (hqr : q ≠ r) (hbr : b ≠ r) : GwS X ⟨[.pointer (some ⟨q, 0, none⟩), .pointer none, .pointer (some ⟨r, 0, none⟩), .pointer none], fun j => j = q ∨ j = r ∨ j = b⟩ := by
  have ha := as_range t
  obtain ⟨hs, ⟨h1, h2, h3, h4, h5⟩ | ⟨h1, h2, h3⟩⟩ := h
  · rcases hl with ⟨a, b', rfl, rfl⟩ | ⟨a, -⟩
    · exact .inl ⟨q, r, b, asO t, asO t + 1, none, 0, 0, rfl, rfl, hqr, hs, .inl ⟨h3, hbr, by omega, by omega, rfl, h5, .inl ⟨h4, hr⟩⟩⟩
    · omega
  · rcases hl with ⟨a, b', rfl, rfl⟩ | ⟨a, rfl, rfl⟩
    · omega
    · exact .inl ⟨q, r, b, 0, 0, none, 0, 0, rfl, rfl, hqr, hs, .inr ⟨h3, hr⟩⟩
theorem gw_beginS {t l z : Int} {X : World} {q b r : Nat} (h : GnS t X q b) (hr : Ob X r (rgC l z)) (hl : LnS t l z) (hqr : q ≠ r) (hbr : b ≠ r) : GwS X ⟨[.pointer none, .pointer (some ⟨q, 0, none⟩), .pointer none, .pointer (some ⟨r, 0, none⟩)], fun j => j = q ∨ j = r ∨ j = b⟩ := by
  have ha := as_range t
  obtain ⟨hs, ⟨h1, h3, h4, h5⟩ | ⟨h1, h2, h3⟩⟩ := h
  · rcases hl with ⟨a, rfl, rfl⟩ | ⟨a, -⟩
    · exact .inr ⟨q, r, b, asO t, asN t, none, 0, 0, rfl, rfl, hqr, hs, .inl ⟨h3, hbr, by omega, by omega, h5, h4, hr⟩⟩
    · omega
  · rcases hl with ⟨a, rfl, rfl⟩ | ⟨a, rfl, rfl⟩
    · omega
    · exact .inr ⟨q, r, b, 0, 0, none, 0, 0, rfl, rfl, hqr, hs, .inr ⟨h3, hr⟩⟩
/-- Whether it is over, both tell alike. -/
theorem gw_overG {w : World} {x : Ox} {p r : Nat} (hx : GwS w x) (hv : x.vals = [.pointer (some ⟨p, 0, none⟩), .pointer none, .pointer (some ⟨r, 0, none⟩), .pointer none]) : ∃ ln ov, (ln == 0) = ov ∧ ∀ X, Below w.heap.size w X → X.cell? ⟨r, 0, none⟩ = some (.int .i64 ln) ∧ Calls Tryz.prog 25 #[.pointer (some ⟨p, 0, none⟩)] X fun e w' => e = .returned (.bool ov) ∧ X = w' := by
  rcases hx with ⟨p', r', b, o, n, a, c, z, hv', ho, hpr, hs, h⟩ | ⟨p', r', b, o, n, a, c, z, hv', ho, hpr, hs, h⟩
  · rw [hv] at hv'
    simp at hv'
    obtain ⟨rfl, rfl⟩ := hv'
    rcases h with ⟨h1, h2, h3, h4, h5, hb, ⟨hp, hr⟩ | ⟨hp, hr⟩⟩ | ⟨hp, hr⟩
    · exact ⟨1, false, rfl, fun X hX => ⟨(hr.new hX).at_ 0 _ rfl, gov_f (hp.new hX) (by decide)⟩⟩
    · exact ⟨2, false, rfl, fun X hX => ⟨(hr.new hX).at_ 0 _ rfl, gov_f (hp.new hX) (by decide)⟩⟩
    · exact ⟨0, true, rfl, fun X hX => ⟨(hr.new hX).at_ 0 _ rfl, gov_t (hp.new hX)⟩⟩
  · rw [hv] at hv'
    simp at hv'
theorem gw_overS {w : World} {x : Ox} {p r : Nat} (hx : GwS w x) (hv : x.vals = [.pointer none, .pointer (some ⟨p, 0, none⟩), .pointer none, .pointer (some ⟨r, 0, none⟩)]) : ∃ ln ov, (ln == 0) = ov ∧ ∀ X, Below w.heap.size w X → X.cell? ⟨r, 0, none⟩ = some (.int .i64 ln) ∧ Calls Tryz.prog 28 #[.pointer (some ⟨p, 0, none⟩)] X fun e w' => e = .returned (.bool ov) ∧ X = w' := by
  rcases hx with ⟨p', r', b, o, n, a, c, z, hv', ho, hpr, hs, h⟩ | ⟨p', r', b, o, n, a, c, z, hv', ho, hpr, hs, h⟩
  · rw [hv] at hv'
    simp at hv'
  · rw [hv] at hv'
    simp at hv'
    obtain ⟨rfl, rfl⟩ := hv'
    rcases h with ⟨h1, h2, h3, h4, hb, hp, hr⟩ | ⟨hp, hr⟩
    · exact ⟨1, false, rfl, fun X hX => ⟨(hr.new hX).at_ 0 _ rfl, sov_f (hp.new hX) (by decide)⟩⟩
    · exact ⟨0, true, rfl, fun X hX => ⟨(hr.new hX).at_ 0 _ rfl, sov_t (hp.new hX)⟩⟩
/-- An act of this chapter's law, as it lies. -/
def Act19 (w : World) (b o : Nat) : Prop := ∃ x0 x1 x2 x3 x4 : Int, (0 ≤ x0 ∧ x0 ≤ 255) ∧ (0 ≤ x1 ∧ x1 ≤ 255) ∧ isU x2 ∧ isU x3 ∧ isU x4 ∧ w.cell? ⟨b, o, none⟩ = some (.int .u8 x0) ∧ w.cell? ⟨b, o + 1, none⟩ = some (.int .u8 x1) ∧ w.cell? ⟨b, o + 2, none⟩ = some (.int .u64 x2) ∧ w.cell? ⟨b, o + 3, none⟩ = some (.int .u64 x3) ∧ w.cell? ⟨b, o + 4, none⟩ = some (.int .u64 x4)
theorem reads_acts19 {w : World} {t e : TypeId} {a : Option Addr} {len cap : Nat} (ht : Tryz.prog.underlying t = some (.slice e)) (hk : leaves Tryz.prog 9 e = some [.inl .u8, .inl .u8, .inl .u64, .inl .u64, .inl .u64]) (hc : Tryz.prog.cellsOf e = 5) (h : Reads Tryz.prog w t (.slice a len cap)) :
    len ≤ 9223372036854775807 ∧ ∃ b off, (0 < len → len ≤ cap ∧ a = some ⟨b, off, none⟩) ∧ ∀ i, i < len → Act19 w b (off + i * 5) := by
  rcases Reads.slice ht hk h with ⟨_, rfl, _⟩ | ⟨b, off, sp, rfl, h1, h2, h3, h4⟩
  · exact ⟨by omega, 0, 0, fun h => by omega, fun i hi => by omega⟩
  · refine ⟨by unfold maxLen at h2; omega, b, off, fun h => ⟨h1, by rw [h3 (by omega) (by omega)]⟩, fun i hi => ?_⟩
    obtain ⟨l, hl, hll, hx⟩ := h4 i (by omega)
    obtain ⟨_, _, rfl, ⟨x0, rfl, y0⟩, g0⟩ := all2_cons hl
    obtain ⟨_, _, rfl, ⟨x1, rfl, y1⟩, g1⟩ := all2_cons g0
    obtain ⟨_, _, rfl, ⟨x2, rfl, y2⟩, g2⟩ := all2_cons g1
    obtain ⟨_, _, rfl, ⟨x3, rfl, y3⟩, g3⟩ := all2_cons g2
    obtain ⟨_, _, rfl, ⟨x4, rfl, y4⟩, g4⟩ := all2_cons g3
    obtain rfl := all2_nil g4
    rw [hc] at hx
    have b0 := bounds_u8 y0
    have b1 := bounds_u8 y1
    have b2 := bounds_u64 y2
    have b3 := bounds_u64 y3
    have b4 := bounds_u64 y4
    exact ⟨x0, x1, x2, x3, x4, by omega, by omega, ⟨b2.1, by omega⟩, ⟨b3.1, by omega⟩, ⟨b4.1, by omega⟩, hx 0 _ rfl, hx 1 _ rfl, hx 2 _ rfl, hx 3 _ rfl, hx 4 _ rfl⟩
theorem Act19.new {w W : World} {b o : Nat} (h : Act19 w b o) (hb : Below w.heap.size w W) : Act19 W b o := by
  obtain ⟨x0, x1, x2, x3, x4, r1, r2, r3, r4, r5, c0, c1, c2, c3, c4⟩ := h
  have up : ∀ {o v}, w.cell? ⟨b, o, none⟩ = some v → W.cell? ⟨b, o, none⟩ = some v := fun {o v} hc => (hb.cell (p := ⟨b, o, none⟩) (World.block_lt_of_cell? _ _ hc)).trans hc
  exact ⟨x0, x1, x2, x3, x4, r1, r2, r3, r4, r5, up c0, up c1, up c2, up c3, up c4⟩
theorem info_op19 : (Tryz.prog.info? 69).map (fun i => (i.zero, i.size, i.bytes)) = some (some (.agg #[.pointer none, .pointer none, .pointer none, .pointer none]), 4, 32) := by kernel_rfl
/-- What holds at a round's head. -/
abbrev Pl19 := PlM 69 4 GwS
theorem gw_stepV {G : Nat → Prop} {w : World} {A R : Ad} {V : Wv} {x : Ox} {v0 v1 v2 v3 : Value} (hv : x.vals = [v0, v1, v2, v3]) (h : Hf G w A R V V) (hx : GwS w x) (hG : ∀ k, x.own k → G k) (hc : V.cnt < 10000000) (hM : V.M.length ≤ 100000) :
    Calls Tryz.prog 29 #[.agg #[v0, v1, v2, v3], .agg #[.pointer (some ⟨A.p, 0, none⟩), .pointer (some ⟨R.p, 0, none⟩)]] w (PoM GwS G w A R V x) := by
  have := gw_stepS h hx hG hc hM
  rw [hv] at this
  exact this
theorem gw_oneC {w : World} {x : Ox} (hx : GwS w x) : ∀ u, u ∈ x.vals → u.oneCell' = true := by
  rcases hx with ⟨p, r, b, o, n, a, c, z, hv', -⟩ | ⟨p, r, b, o, n, a, c, z, hv', -⟩ <;> (rw [hv']; simp [Value.oneCell'])
theorem news4 {W : World} {v0 v1 v2 v3 : Value} {t : TypeId} {j : Nat} {u : Value} (hj : [v0, v1, v2, v3][j]? = some u) : (W.alloc (.cells #[v0, v1, v2, v3] t)).cell? ((⟨W.heap.size, 0, none⟩ : Addr).add j) = some u :=
  World.news_of_block (B := W.heap.size) (cs := #[v0, v1, v2, v3]) (t := t) (fr := (0, 0)) (by show (W.heap.push _)[W.heap.size]? = _; simp) j u hj
theorem pl19_app {B P : Nat} {W X0 X2 X Y : World} {A R : Ad} {s : Value} {k nl : Nat} {c : Int} {V : Wv} {L : List Ox} {G GL : Nat → Prop} (h1 : Hf G X0 A R V V) (h2 : ∀ j, j < B ∨ j = P → G j) (h3 : OxL 69 4 GwS GL X0 s L) (h4 : ∀ j, GL j → G j ∧ ¬ (j < B ∨ j = P)) (h5 : Kp (fun j => j < B ∨ j = P) W X0) (h6 : ((V.M.length : Int) + 1000 ≤ c ∧ ∀ x, x ∈ V.M → 0 ≤ x.k ∧ x.k ≤ 255) ∧ V.I.length ≤ 300 ∧ V.cnt ≤ c) (h7 : L.length ≤ k) (hb : Below X0.heap.size X0 X2) (hb2 : Below X2.heap.size X2 X) {x : Ox} {v0 v1 v2 v3 : Value} (hx : GwS X2 x) (hv : x.vals = [v0, v1, v2, v3]) (hxo : ∀ j, x.own j → X0.heap.size ≤ j ∧ j < X2.heap.size) (hnl : nl = L.length) {o : Obj} {g cap : Nat} (hown : Y.ownsRow 0 69 4 (.slice (some ⟨g, 0, none⟩) (nl + 1) cap) (nl + 1) (rowsX L ++ [v0, v1, v2, v3])) (hgr : (X.alloc o).grownBy Y s.ownBlock) (hat : s.ownBlock = some g ∨ g = X.heap.size + 1) (hlt : g < Y.heap.size) :
    Pl19 B P W A R Y (.slice (some ⟨g, 0, none⟩) (nl + 1) cap) (k + 1) c := by
  subst hnl
  exact PlM.app stabGw h1 h2 h3 h4 h5 h6 h7 (below_then hb hb2) (x := x) (stabGw _ _ _ (fun _ => False) hx (Keeps.of_new hb2) (fun _ _ s => s)) (by rw [hv]; rfl) (fun j o => ⟨(hxo j o).1, Nat.lt_of_lt_of_le (hxo j o).2 hb2.size⟩) (by rw [hv]; exact hown) hgr hat hlt
end Go.Proofs.YtepkpbhhiianpaaGreat
