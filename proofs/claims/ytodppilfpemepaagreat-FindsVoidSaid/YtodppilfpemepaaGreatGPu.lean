/- Puts and Outs: their lines. -/
import Derived.Test.YtodppilfpemepaaGreatTi4
import Derived.Test.YtodppilfpemepaaGreatGTg
import Derived.Test.YtodppilfpemepaaGreatGPl
import Derived.Laws.EntriesVeiled
import Derived.Deep.RegionHeld3
import Derived.Test.YtodppilfpemepaaGreatGTo
namespace Go.Proofs.YtodppilfpemepaaGreat
open Go.RowKit Go.Maps
set_option linter.unusedVariables false
/-- A Put's cells. -/
def puC (b k s tg ref tags left : Int) : List Value := [.int .i64 b, .int .i64 k, .int .i64 s, .int .i64 tg, .int .i64 ref, .int .u64 tags, .int .i64 left]
/-- An Out's. -/
def ouC (b k s tags left : Int) (g : Bool) : List Value := [.int .i64 b, .int .i64 k, .int .i64 s, .int .u64 tags, .int .i64 left, .bool g]
theorem pu_over_nil (w : World) : Calls Tryz.prog 208 #[.pointer none] w fun e w' => e = .returned (.bool true) ∧ w = w' := by
  go_enter Tryz.func208, Tryz.ntmps208
  go_wp2_with fail
  go_ret
  exact ⟨rfl, rfl⟩
theorem ou_over_nil (w : World) : Calls Tryz.prog 223 #[.pointer none] w fun e w' => e = .returned (.bool true) ∧ w = w' := by
  go_enter Tryz.func223, Tryz.ntmps223
  go_wp2_with fail
  go_ret
  exact ⟨rfl, rfl⟩
section
variable {G : Nat → Prop} {w : World} {A : Ad} {V : Wv} {q : Nat} {b k s tg ref tags left : Int} {g : Bool}
theorem pu_over (h : Ob w q (puC b k s tg ref tags left)) {o : Bool} (ho : (left == 0) = o) : Calls Tryz.prog 208 #[.pointer (some ⟨q, 0, none⟩)] w fun e w' => e = .returned (.bool o) ∧ w = w' := by
  have c6 := h.at_ 6 _ rfl
  clear h
  go_enter Tryz.func208, Tryz.ntmps208
  go_wp2_with fail
  go_ret
  exact ⟨by first | rfl | rw [ho], rfl⟩
theorem ou_over (h : Ob w q (ouC b k s tags left g)) {o : Bool} (ho : (left == 0) = o) : Calls Tryz.prog 223 #[.pointer (some ⟨q, 0, none⟩)] w fun e w' => e = .returned (.bool o) ∧ w = w' := by
  have c4 := h.at_ 4 _ rfl
  clear h
  go_enter Tryz.func223, Tryz.ntmps223
  go_wp2_with fail
  go_ret
  exact ⟨by first | rfl | rw [ho], rfl⟩
theorem pu_step_nil (x : Value) (w : World) : Calls Tryz.prog 209 #[.pointer none, x] w fun e w' => e = .returned (.bool true) ∧ w = w' := by
  have C1 := Lib.hid (pu_over_nil w)
  go_enter Tryz.func209, Tryz.ntmps209
  go_wp2_with (go_at_call 208; ((with_reducible refine C1.out.mono ?_); rintro e w1 ⟨rfl, rfl⟩))
  go_ret
  exact ⟨rfl, rfl⟩
theorem ou_step_nil (x : Value) (w : World) : Calls Tryz.prog 224 #[.pointer none, x] w fun e w' => e = .returned (.bool true) ∧ w = w' := by
  have C1 := Lib.hid (ou_over_nil w)
  go_enter Tryz.func224, Tryz.ntmps224
  go_wp2_with (go_at_call 223; ((with_reducible refine C1.out.mono ?_); rintro e w1 ⟨rfl, rfl⟩))
  go_ret
  exact ⟨rfl, rfl⟩
theorem pu_step0 (h : Ob w q (puC b k s tg ref tags 0)) (x : Value) : Calls Tryz.prog 209 #[.pointer (some ⟨q, 0, none⟩), x] w fun e w' => e = .returned (.bool true) ∧ w = w' := by
  have C1 := Lib.hid (pu_over (o := true) h rfl)
  clear h
  go_enter Tryz.func209, Tryz.ntmps209
  go_wp2_with (go_at_call 208; ((with_reducible refine C1.out.mono ?_); rintro e w1 ⟨rfl, rfl⟩))
  go_ret
  exact ⟨rfl, rfl⟩
theorem ou_step0 (h : Ob w q (ouC b k s tags 0 g)) (x : Value) : Calls Tryz.prog 224 #[.pointer (some ⟨q, 0, none⟩), x] w fun e w' => e = .returned (.bool true) ∧ w = w' := by
  have C1 := Lib.hid (ou_over (o := true) h rfl)
  clear h
  go_enter Tryz.func224, Tryz.ntmps224
  go_wp2_with (go_at_call 223; ((with_reducible refine C1.out.mono ?_); rintro e w1 ⟨rfl, rfl⟩))
  go_ret
  exact ⟨rfl, rfl⟩
theorem pu_step_no (h : Ob w q (puC b k s tg ref tags left)) (hl : (left == 0) = false) : Calls Tryz.prog 209 #[.pointer (some ⟨q, 0, none⟩), .pointer none] w fun e w' => e = .returned (.bool false) ∧ w = w' := by
  have C1 := Lib.hid (pu_over h hl)
  clear h hl
  go_enter Tryz.func209, Tryz.ntmps209
  go_wp2_with (go_at_call 208; ((with_reducible refine C1.out.mono ?_); rintro e w1 ⟨rfl, rfl⟩))
  go_ret
  exact ⟨rfl, rfl⟩
theorem ou_step_no (h : Ob w q (ouC b k s tags left g)) (hl : (left == 0) = false) : Calls Tryz.prog 224 #[.pointer (some ⟨q, 0, none⟩), .pointer none] w fun e w' => e = .returned (.bool false) ∧ w = w' := by
  have C1 := Lib.hid (ou_over h hl)
  clear h hl
  go_enter Tryz.func224, Tryz.ntmps224
  go_wp2_with (go_at_call 223; ((with_reducible refine C1.out.mono ?_); rintro e w1 ⟨rfl, rfl⟩))
  go_ret
  exact ⟨rfl, rfl⟩
/-- What a new one is. -/
def NwOb (w : World) (C : List Value) (e : Ending) (w' : World) : Prop := ∃ q, e = .returned (.pointer (some ⟨q, 0, none⟩)) ∧ Ob w' q C ∧ w.heap.size ≤ q ∧ Below w.heap.size w w'
theorem ob_at {W : World} {C : Array Value} {T : TypeId} {L : List Value} {n : Nat} (hn : n = W.heap.size) (hL : L = C.toList) : Ob (W.alloc (.cells C T)) n L := by
  subst hn
  exact ob_new hL
theorem bs_set {w W : World} {q i : Nat} {v : Value} (h : Below w.heap.size w W) (hq : w.heap.size ≤ q) : Below w.heap.size w (W.setCell ⟨q, i, none⟩ v) := h.setCell hq v
theorem nwOb {w w2 : World} {C : List Value} {q : Nat} (h : Ob w2 q C) (hq : w.heap.size ≤ q) (hb : Below w.heap.size w w2) : NwOb w C (.returned (.pointer (some ⟨q, 0, none⟩))) w2 := ⟨q, rfl, h, hq, hb⟩
set_option maxRecDepth 100000 in
theorem newPut (b k s tg ref : Int) (w : World) {z : Int} (hz : z = if itemf b k s ≠ 0 ∧ 1 ≤ tg ∧ tg ≤ 255 ∧ 1 ≤ ref then 3 else 0) :
    Calls Tryz.prog 47 #[.agg #[.int .i64 b, .int .i64 k, .int .i64 s], .int .i64 tg, .int .i64 ref] w (NwOb w (puC b k s tg ref 0 z)) := by
  have CI := Lib.hid (fun W => itemw b k s W)
  generalize itemf b k s = a at *
  have hc : ((a != 0) = false ∧ z = 0) ∨ ((a != 0) = true ∧ decide (1 ≤ tg) = false ∧ z = 0) ∨ ((a != 0) = true ∧ decide (1 ≤ tg) = true ∧ decide (tg ≤ 255) = false ∧ z = 0) ∨ ((a != 0) = true ∧ decide (1 ≤ tg) = true ∧ decide (tg ≤ 255) = true ∧ decide (1 ≤ ref) = false ∧ z = 0) ∨ ((a != 0) = true ∧ decide (1 ≤ tg) = true ∧ decide (tg ≤ 255) = true ∧ decide (1 ≤ ref) = true ∧ z = 3) := by
    by_cases h0 : a = 0
    · exact .inl ⟨by simp [h0], by rw [hz, if_neg (fun h => h.1 h0)]⟩
    by_cases h1 : 1 ≤ tg
    · by_cases h2 : tg ≤ 255
      · by_cases h3 : 1 ≤ ref
        · exact .inr (.inr (.inr (.inr ⟨by simp [h0], decide_eq_true h1, decide_eq_true h2, decide_eq_true h3, by rw [hz, if_pos ⟨h0, h1, h2, h3⟩]⟩)))
        · exact .inr (.inr (.inr (.inl ⟨by simp [h0], decide_eq_true h1, decide_eq_true h2, decide_eq_false h3, by rw [hz, if_neg (fun h => h3 h.2.2.2)]⟩)))
      · exact .inr (.inr (.inl ⟨by simp [h0], decide_eq_true h1, decide_eq_false h2, by rw [hz, if_neg (fun h => h2 h.2.2.1)]⟩))
    · exact .inr (.inl ⟨by simp [h0], decide_eq_false h1, by rw [hz, if_neg (fun h => h1 h.2.1)]⟩)
  clear hz
  rcases hc with ⟨d0, rfl⟩ | ⟨d0, d1, rfl⟩ | ⟨d0, d1, d2, rfl⟩ | ⟨d0, d1, d2, d3, rfl⟩ | ⟨d0, d1, d2, d3, rfl⟩
  all_goals
    go_enter Tryz.func47, Tryz.ntmps47
    go_wp2_with fail
    obtain ⟨q, hq⟩ : ∃ q, q = w.heap.size + 1 := ⟨_, rfl⟩
    generalize hW : World.alloc (World.alloc w _) _ = W
    have bW : Below w.heap.size w W := by rw [← hW]; exact bs_alloc (bs_alloc (Below.refl _ _))
    have hO : Ob W q (puC b k s tg ref 0 0) := by rw [← hW, hq]; exact ob_at (by simp) rfl
    rw [← hq]
    have HQ := Lib.hid (show w.heap.size ≤ q by omega)
    have HBW := Lib.hid bW
    clear hW bW hq
    refine (CI.out _).mono ?_
    rintro e w1 ⟨rfl, k1⟩
    have hO1 := hO.new k1
    have HO1 := Lib.hid hO1
    have HB1 := Lib.hid (below_then HBW.out k1)
    have c6 := hO1.at_ 6 _ rfl
    have f6 := hO1.fz 6 (by simp [puC])
    clear hO hO1 k1
    go_wp2_with fail
    go_ret
    first
      | exact nwOb HO1.out HQ.out HB1.out
      | exact nwOb (HO1.out.set 6 (.int .i64 3) (by simp [puC]) rfl) HQ.out (bs_set HB1.out HQ.out)
theorem newOut (b k s : Int) (w : World) {z : Int} (hz : z = if itemf b k s ≠ 0 then 3 else 0) :
    Calls Tryz.prog 174 #[.agg #[.int .i64 b, .int .i64 k, .int .i64 s]] w (NwOb w (ouC b k s 0 z false)) := by
  have CI := Lib.hid (fun W => itemw b k s W)
  generalize itemf b k s = a at *
  have hc : ((a != 0) = false ∧ z = 0) ∨ ((a != 0) = true ∧ z = 3) := by
    by_cases h0 : a = 0
    · exact .inl ⟨by simp [h0], by rw [hz, if_neg (fun h => h h0)]⟩
    · exact .inr ⟨by simp [h0], by rw [hz, if_pos h0]⟩
  clear hz
  rcases hc with ⟨d0, rfl⟩ | ⟨d0, rfl⟩
  all_goals
    go_enter Tryz.func174, Tryz.ntmps174
    go_wp2_with fail
    obtain ⟨q, hq⟩ : ∃ q, q = w.heap.size + 1 := ⟨_, rfl⟩
    generalize hW : World.alloc (World.alloc w _) _ = W
    have bW : Below w.heap.size w W := by rw [← hW]; exact bs_alloc (bs_alloc (Below.refl _ _))
    have hO : Ob W q (ouC b k s 0 0 false) := by rw [← hW, hq]; exact ob_at (by simp) rfl
    rw [← hq]
    have HQ := Lib.hid (show w.heap.size ≤ q by omega)
    have HBW := Lib.hid bW
    clear hW bW hq
    refine (CI.out _).mono ?_
    rintro e w1 ⟨rfl, k1⟩
    have hO1 := hO.new k1
    have HO1 := Lib.hid hO1
    have HB1 := Lib.hid (below_then HBW.out k1)
    have c4 := hO1.at_ 4 _ rfl
    have f4 := hO1.fz 4 (by simp [ouC])
    clear hO hO1 k1
    go_wp2_with fail
    go_ret
    first
      | exact nwOb HO1.out HQ.out HB1.out
      | exact nwOb (HO1.out.set 4 (.int .i64 3) (by simp [ouC]) rfl) HQ.out (bs_set HB1.out HQ.out)
end
end Go.Proofs.YtodppilfpemepaaGreat
/- Next: Puts and Outs: steps. -/
namespace Go.Proofs.YtodppilfpemepaaGreat
open Go.RowKit Go.Maps
set_option linter.unusedVariables false
section
variable {G : Nat → Prop} {w : World} {A : Ad} {V : Wv} {q : Nat} {b k s tg ref tags left a z : Int} {g : Bool}
set_option maxHeartbeats 1000000 in
set_option maxRecDepth 100000 in
theorem pu_item (h : Opw G w A V q (puC b k s tg ref tags left)) (ha : itemf b k s = a) (hu : isU a) (hr : 1 ≤ ref ∧ ref ≤ 9223372036854775807) (hc : V.cnt < 1000000000) :
    Calls Tryz.prog 210 #[.pointer (some ⟨q, 0, none⟩), .pointer (some ⟨A.p, 0, none⟩)] w fun e w' => e = .returned (.tuple #[]) ∧ Opw G w' A (V.acc (upd V.f a ref) 2 a (V.f a) ref) q (puC b k s tg ref tags left) ∧ Kp G w w' := by
  have CI := Lib.hid (fun W => itemw b k s W)
  rw [ha] at CI
  have CS := Lib.hid (fun W (hb : Below w.heap.size w W) => (h.new hb).store (v := ref) hu ⟨by omega, by omega⟩ hc)
  have yw : IntKind.u64.wrap ref = ref := by rw [IntKind.wrap_u64]; omega
  have KEEP : Hid (∀ X, Below w.heap.size w X → X.cell? ⟨A.p, 0, none⟩ = some (.pointer (some ⟨A.pc, 0, none⟩)) ∧ X.cell? ⟨q, 0, none⟩ = some (.int .i64 b) ∧ X.cell? ⟨q, 1, none⟩ = some (.int .i64 k) ∧ X.cell? ⟨q, 2, none⟩ = some (.int .i64 s) ∧ X.cell? ⟨q, 4, none⟩ = some (.int .i64 ref)) := Lib.hid (fun X hb => by
    have h := h.new hb
    exact ⟨h.box.c0, h.ob.at_ 0 _ rfl, h.ob.at_ 1 _ rfl, h.ob.at_ 2 _ rfl, h.ob.at_ 4 _ rfl⟩)
  generalize V.acc (upd V.f a ref) 2 a (V.f a) ref = V2 at *
  generalize V.f a = old at *
  have hb0 : Below w.heap.size w w.drew := (Below.refl _ _).drew
  obtain ⟨s0, s1, s2, s3, s4⟩ := KEEP.out _ hb0
  clear h ha hr
  go_enter Tryz.func210, Tryz.ntmps210
  go_wp2_with fail
  go_region_held3 (fun X => X.cell? ⟨A.p, 0, none⟩ = some (.pointer (some ⟨A.pc, 0, none⟩)) ∧ X.cell? ⟨q, 0, none⟩ = some (.int .i64 b) ∧ X.cell? ⟨q, 1, none⟩ = some (.int .i64 k) ∧ X.cell? ⟨q, 2, none⟩ = some (.int .i64 s) ∧ X.cell? ⟨q, 4, none⟩ = some (.int .i64 ref))
    (first | exact ⟨by assumption, by assumption, by assumption, by assumption, by assumption⟩)
    (first
      | (go_at_call 93; ((with_reducible refine (CI.out _).mono ?_); rintro e w2 ⟨rfl, hk2⟩; have hb2 : Below w.heap.size w w2 := below_then hb0 hk2; clear hk2 s0 s1 s2 s3 s4; obtain ⟨s0, s1, s2, s3, s4⟩ := KEEP.out _ hb2))
      | (go_at_call 39; ((with_reducible refine (CS.out _ hb2).mono ?_); rintro e w3 ⟨rfl, h3, k3⟩; clear s0 s1 s2 s3 s4; have s0 := h3.box.c0; have s1 := h3.ob.at_ 0 _ rfl; have s2 := h3.ob.at_ 1 _ rfl; have s3 := h3.ob.at_ 2 _ rfl; have s4 := h3.ob.at_ 4 _ rfl; have H3 := Lib.hid h3; have K3 := Lib.hid (Kp.to (Kp.of hb2) k3); clear h3 k3)))
  all_goals
    go_wp2_with fail
    go_end0
    exact ⟨rfl, H3.out, K3.out⟩
set_option maxHeartbeats 1000000 in
set_option maxRecDepth 100000 in
theorem ou_item (h : Opw G w A V q (ouC b k s tags left g)) (ha : itemf b k s = a) (hu : isU a) (hc : V.cnt < 1000000000) :
    Calls Tryz.prog 227 #[.pointer (some ⟨q, 0, none⟩), .pointer (some ⟨A.p, 0, none⟩)] w fun e w' => e = .returned (.tuple #[]) ∧ Opw G w' A (V.acc (upd V.f a 0) 2 a (V.f a) 0) q (ouC b k s tags left g) ∧ Kp G w w' := by
  have CI := Lib.hid (fun W => itemw b k s W)
  rw [ha] at CI
  have CS := Lib.hid (fun W (hb : Below w.heap.size w W) => (h.new hb).store (v := 0) hu ⟨by omega, by omega⟩ hc)
  have KEEP : Hid (∀ X, Below w.heap.size w X → X.cell? ⟨A.p, 0, none⟩ = some (.pointer (some ⟨A.pc, 0, none⟩)) ∧ X.cell? ⟨q, 0, none⟩ = some (.int .i64 b) ∧ X.cell? ⟨q, 1, none⟩ = some (.int .i64 k) ∧ X.cell? ⟨q, 2, none⟩ = some (.int .i64 s)) := Lib.hid (fun X hb => by
    have h := h.new hb
    exact ⟨h.box.c0, h.ob.at_ 0 _ rfl, h.ob.at_ 1 _ rfl, h.ob.at_ 2 _ rfl⟩)
  generalize V.acc (upd V.f a 0) 2 a (V.f a) 0 = V2 at *
  generalize V.f a = old at *
  have hb0 : Below w.heap.size w w.drew := (Below.refl _ _).drew
  obtain ⟨s0, s1, s2, s3⟩ := KEEP.out _ hb0
  clear h ha
  go_enter Tryz.func227, Tryz.ntmps227
  go_wp2_with fail
  go_region_held3 (fun X => X.cell? ⟨A.p, 0, none⟩ = some (.pointer (some ⟨A.pc, 0, none⟩)) ∧ X.cell? ⟨q, 0, none⟩ = some (.int .i64 b) ∧ X.cell? ⟨q, 1, none⟩ = some (.int .i64 k) ∧ X.cell? ⟨q, 2, none⟩ = some (.int .i64 s))
    (first | exact ⟨by assumption, by assumption, by assumption, by assumption⟩)
    (first
      | (go_at_call 93; ((with_reducible refine (CI.out _).mono ?_); rintro e w2 ⟨rfl, hk2⟩; have hb2 : Below w.heap.size w w2 := below_then hb0 hk2; clear hk2 s0 s1 s2 s3; obtain ⟨s0, s1, s2, s3⟩ := KEEP.out _ hb2))
      | (go_at_call 39; ((with_reducible refine (CS.out _ hb2).mono ?_); rintro e w3 ⟨rfl, h3, k3⟩; clear s0 s1 s2 s3; have s0 := h3.box.c0; have s1 := h3.ob.at_ 0 _ rfl; have s2 := h3.ob.at_ 1 _ rfl; have s3 := h3.ob.at_ 2 _ rfl; have H3 := Lib.hid h3; have K3 := Lib.hid (Kp.to (Kp.of hb2) k3); clear h3 k3)))
  all_goals
    go_wp2_with fail
    go_end0
    exact ⟨rfl, H3.out, K3.out⟩
set_option maxHeartbeats 1000000 in
set_option maxRecDepth 100000 in
theorem pu_load (h : Opw G w A V q (puC b k s tg ref tags left)) (ha : tagsf b k = a) (hu : isU a) (hz : V.f a = z) (hc : V.cnt < 1000000000) :
    Calls Tryz.prog 211 #[.pointer (some ⟨q, 0, none⟩), .pointer (some ⟨A.p, 0, none⟩)] w fun e w' => e = .returned (.tuple #[]) ∧ Opw G w' A (V.acc V.f 1 a z z) q (puC b k s tg ref z left) ∧ Kp G w w' := by
  subst hz
  have CI := Lib.hid (fun W => tagsw b k W)
  rw [ha] at CI
  have CS := Lib.hid (fun W (hb : Below w.heap.size w W) => (h.new hb).load hu hc)
  have KEEP : Hid (∀ X, Below w.heap.size w X → X.cell? ⟨A.p, 0, none⟩ = some (.pointer (some ⟨A.pc, 0, none⟩)) ∧ X.cell? ⟨q, 0, none⟩ = some (.int .i64 b) ∧ X.cell? ⟨q, 1, none⟩ = some (.int .i64 k)) := Lib.hid (fun X hb => by
    have h := h.new hb
    exact ⟨h.box.c0, h.ob.at_ 0 _ rfl, h.ob.at_ 1 _ rfl⟩)
  generalize V.acc V.f 1 a (V.f a) (V.f a) = V2 at *
  generalize V.f a = z at *
  have hb0 : Below w.heap.size w w.drew := (Below.refl _ _).drew
  obtain ⟨s0, s1, s2⟩ := KEEP.out _ hb0
  clear h ha
  go_enter Tryz.func211, Tryz.ntmps211
  go_wp2_with fail
  go_region_held3 (fun X => X.cell? ⟨A.p, 0, none⟩ = some (.pointer (some ⟨A.pc, 0, none⟩)) ∧ X.cell? ⟨q, 0, none⟩ = some (.int .i64 b) ∧ X.cell? ⟨q, 1, none⟩ = some (.int .i64 k))
    (first | exact ⟨by assumption, by assumption, by assumption⟩ | exact ⟨(World.cell?_setCell_other _ _ _ _ (by intro e; injection e with e1 e2; first | exact hne e1.symm | exact hne e1 | (simp at e2; done))).trans (by assumption), set_other (by decide) (by assumption), set_other (by decide) (by assumption)⟩)
    (first
      | (go_at_call 40; ((with_reducible refine (CI.out _).mono ?_); rintro e w2 ⟨rfl, hk2⟩; have hb2 : Below w.heap.size w w2 := below_then hb0 hk2; clear hk2 s0 s1 s2; obtain ⟨s0, s1, s2⟩ := KEEP.out _ hb2))
      | (go_at_call 50; ((with_reducible refine (CS.out _ hb2).mono ?_); rintro e w3 ⟨rfl, h3, k3⟩; clear s0 s1 s2; have s0 := h3.box.c0; have s1 := h3.ob.at_ 0 _ rfl; have s2 := h3.ob.at_ 1 _ rfl; have s5 := h3.ob.at_ 5 _ rfl; have f5 := h3.ob.fz 5 (by simp [puC]); have hne : A.p ≠ q := h3.ne; have H3 := Lib.hid h3; have K3 := Lib.hid (Kp.to (Kp.of hb2) k3); clear h3 k3)))
  all_goals
    obtain ⟨h4, k4⟩ := H3.out.set 5 (.int .u64 z) (by simp [puC]) (C' := puC b k s tg ref z left) rfl
    generalize World.setCell _ _ _ = W at *
    have H4 := Lib.hid h4
    have K4 := Lib.hid (Kp.to K3.out k4)
    clear h4 k4 s0 s1 s2 s5 f5 hne
    go_wp2_with fail
    go_end0
    exact ⟨rfl, H4.out, K4.out⟩
set_option maxHeartbeats 1000000 in
set_option maxRecDepth 100000 in
theorem ou_load (h : Opw G w A V q (ouC b k s tags left g)) (ha : tagsf b k = a) (hu : isU a) (hz : V.f a = z) (hc : V.cnt < 1000000000) :
    Calls Tryz.prog 225 #[.pointer (some ⟨q, 0, none⟩), .pointer (some ⟨A.p, 0, none⟩)] w fun e w' => e = .returned (.tuple #[]) ∧ Opw G w' A (V.acc V.f 1 a z z) q (ouC b k s z left g) ∧ Kp G w w' := by
  subst hz
  have CI := Lib.hid (fun W => tagsw b k W)
  rw [ha] at CI
  have CS := Lib.hid (fun W (hb : Below w.heap.size w W) => (h.new hb).load hu hc)
  have KEEP : Hid (∀ X, Below w.heap.size w X → X.cell? ⟨A.p, 0, none⟩ = some (.pointer (some ⟨A.pc, 0, none⟩)) ∧ X.cell? ⟨q, 0, none⟩ = some (.int .i64 b) ∧ X.cell? ⟨q, 1, none⟩ = some (.int .i64 k)) := Lib.hid (fun X hb => by
    have h := h.new hb
    exact ⟨h.box.c0, h.ob.at_ 0 _ rfl, h.ob.at_ 1 _ rfl⟩)
  generalize V.acc V.f 1 a (V.f a) (V.f a) = V2 at *
  generalize V.f a = z at *
  have hb0 : Below w.heap.size w w.drew := (Below.refl _ _).drew
  obtain ⟨s0, s1, s2⟩ := KEEP.out _ hb0
  clear h ha
  go_enter Tryz.func225, Tryz.ntmps225
  go_wp2_with fail
  go_region_held3 (fun X => X.cell? ⟨A.p, 0, none⟩ = some (.pointer (some ⟨A.pc, 0, none⟩)) ∧ X.cell? ⟨q, 0, none⟩ = some (.int .i64 b) ∧ X.cell? ⟨q, 1, none⟩ = some (.int .i64 k))
    (first | exact ⟨by assumption, by assumption, by assumption⟩ | exact ⟨(World.cell?_setCell_other _ _ _ _ (by intro e; injection e with e1 e2; first | exact hne e1.symm | exact hne e1 | (simp at e2; done))).trans (by assumption), set_other (by decide) (by assumption), set_other (by decide) (by assumption)⟩)
    (first
      | (go_at_call 40; ((with_reducible refine (CI.out _).mono ?_); rintro e w2 ⟨rfl, hk2⟩; have hb2 : Below w.heap.size w w2 := below_then hb0 hk2; clear hk2 s0 s1 s2; obtain ⟨s0, s1, s2⟩ := KEEP.out _ hb2))
      | (go_at_call 50; ((with_reducible refine (CS.out _ hb2).mono ?_); rintro e w3 ⟨rfl, h3, k3⟩; clear s0 s1 s2; have s0 := h3.box.c0; have s1 := h3.ob.at_ 0 _ rfl; have s2 := h3.ob.at_ 1 _ rfl; have s5 := h3.ob.at_ 3 _ rfl; have f5 := h3.ob.fz 3 (by simp [ouC]); have hne : A.p ≠ q := h3.ne; have H3 := Lib.hid h3; have K3 := Lib.hid (Kp.to (Kp.of hb2) k3); clear h3 k3)))
  all_goals
    obtain ⟨h4, k4⟩ := H3.out.set 3 (.int .u64 z) (by simp [ouC]) (C' := ouC b k s z left g) rfl
    generalize World.setCell _ _ _ = W at *
    have H4 := Lib.hid h4
    have K4 := Lib.hid (Kp.to K3.out k4)
    clear h4 k4 s0 s1 s2 s5 f5 hne
    go_wp2_with fail
    go_end0
    exact ⟨rfl, H4.out, K4.out⟩
set_option maxHeartbeats 1000000 in
set_option maxRecDepth 100000 in
theorem pu_tags (h : Opw G w A V q (puC b k s tg ref tags left)) (ha : tagsf b k = a) (hu : isU a) (ht : isU tags) (hz : withf tags s tg = z) (hc : V.cnt < 1000000000) :
    Calls Tryz.prog 212 #[.pointer (some ⟨q, 0, none⟩), .pointer (some ⟨A.p, 0, none⟩)] w fun e w' => e = .returned (.tuple #[]) ∧ Opw G w' A (V.acc (upd V.f a z) 2 a (V.f a) z) q (puC b k s tg ref tags left) ∧ Kp G w w' := by
  have hzu : isU z := by rw [← hz]; have := withf_range tags s tg ht.1 (by have := ht.2; omega); exact ⟨this.1, by omega⟩
  have CI := Lib.hid (fun W => tagsw b k W)
  rw [ha] at CI
  have CW := Lib.hid (fun W => withw tags s tg W ht.1 (by have := ht.2; omega))
  rw [hz] at CW
  have CS := Lib.hid (fun W (hb : Below w.heap.size w W) => (h.new hb).store hu hzu hc)
  have KEEP : Hid (∀ X, Below w.heap.size w X → X.cell? ⟨A.p, 0, none⟩ = some (.pointer (some ⟨A.pc, 0, none⟩)) ∧ X.cell? ⟨q, 0, none⟩ = some (.int .i64 b) ∧ X.cell? ⟨q, 1, none⟩ = some (.int .i64 k) ∧ X.cell? ⟨q, 2, none⟩ = some (.int .i64 s) ∧ X.cell? ⟨q, 3, none⟩ = some (.int .i64 tg) ∧ X.cell? ⟨q, 5, none⟩ = some (.int .u64 tags)) := Lib.hid (fun X hb => by
    have h := h.new hb
    exact ⟨h.box.c0, h.ob.at_ 0 _ rfl, h.ob.at_ 1 _ rfl, h.ob.at_ 2 _ rfl, h.ob.at_ 3 _ rfl, h.ob.at_ 5 _ rfl⟩)
  generalize V.acc (upd V.f a z) 2 a (V.f a) z = V2 at *
  generalize V.f a = old at *
  have hb0 : Below w.heap.size w w.drew := (Below.refl _ _).drew
  obtain ⟨s0, s1, s2, s3, s4, s5⟩ := KEEP.out _ hb0
  clear h ha hz hzu ht
  go_enter Tryz.func212, Tryz.ntmps212
  go_wp2_with fail
  go_region_held3 (fun X => X.cell? ⟨A.p, 0, none⟩ = some (.pointer (some ⟨A.pc, 0, none⟩)) ∧ X.cell? ⟨q, 0, none⟩ = some (.int .i64 b) ∧ X.cell? ⟨q, 1, none⟩ = some (.int .i64 k) ∧ X.cell? ⟨q, 2, none⟩ = some (.int .i64 s) ∧ X.cell? ⟨q, 3, none⟩ = some (.int .i64 tg) ∧ X.cell? ⟨q, 5, none⟩ = some (.int .u64 tags))
    (first | exact ⟨by assumption, by assumption, by assumption, by assumption, by assumption, by assumption⟩)
    (first
      | (go_at_call 40; ((with_reducible refine (CI.out _).mono ?_); rintro e w2 ⟨rfl, hk2⟩; have hb2 : Below w.heap.size w w2 := below_then hb0 hk2; clear hk2 s0 s1 s2 s3 s4 s5; obtain ⟨s0, s1, s2, s3, s4, s5⟩ := KEEP.out _ hb2))
      | (go_at_call 213; ((with_reducible refine (CW.out _).mono ?_); rintro e w5 ⟨rfl, hk5⟩; have hb5 : Below w.heap.size w w5 := below_then hb2 hk5; clear hk5 s0 s1 s2 s3 s4 s5; obtain ⟨s0, s1, s2, s3, s4, s5⟩ := KEEP.out _ hb5))
      | (go_at_call 39; ((with_reducible refine (CS.out _ hb5).mono ?_); rintro e w3 ⟨rfl, h3, k3⟩; clear s0 s1 s2 s3 s4 s5; have s0 := h3.box.c0; have s1 := h3.ob.at_ 0 _ rfl; have s2 := h3.ob.at_ 1 _ rfl; have s3 := h3.ob.at_ 2 _ rfl; have s4 := h3.ob.at_ 3 _ rfl; have s5 := h3.ob.at_ 5 _ rfl; have H3 := Lib.hid h3; have K3 := Lib.hid (Kp.to (Kp.of hb5) k3); clear h3 k3)))
  all_goals
    go_wp2_with fail
    go_end0
    exact ⟨rfl, H3.out, K3.out⟩
set_option maxHeartbeats 1000000 in
set_option maxRecDepth 100000 in
theorem ou_tags (h : Opw G w A V q (ouC b k s tags left g)) (ha : tagsf b k = a) (hu : isU a) (ht : isU tags) (hz : withf tags s 0 = z) (hc : V.cnt < 1000000000) :
    Calls Tryz.prog 226 #[.pointer (some ⟨q, 0, none⟩), .pointer (some ⟨A.p, 0, none⟩)] w fun e w' => e = .returned (.tuple #[]) ∧ Opw G w' A (V.acc (upd V.f a z) 2 a (V.f a) z) q (ouC b k s tags left true) ∧ Kp G w w' := by
  have hzu : isU z := by rw [← hz]; have := withf_range tags s 0 ht.1 (by have := ht.2; omega); exact ⟨this.1, by omega⟩
  have CI := Lib.hid (fun W => tagsw b k W)
  rw [ha] at CI
  have CW := Lib.hid (fun W => withw tags s 0 W ht.1 (by have := ht.2; omega))
  rw [hz] at CW
  have CS := Lib.hid (fun W (hb : Below w.heap.size w W) => (h.new hb).store hu hzu hc)
  have KEEP : Hid (∀ X, Below w.heap.size w X → X.cell? ⟨A.p, 0, none⟩ = some (.pointer (some ⟨A.pc, 0, none⟩)) ∧ X.cell? ⟨q, 0, none⟩ = some (.int .i64 b) ∧ X.cell? ⟨q, 1, none⟩ = some (.int .i64 k) ∧ X.cell? ⟨q, 2, none⟩ = some (.int .i64 s) ∧ X.cell? ⟨q, 3, none⟩ = some (.int .u64 tags)) := Lib.hid (fun X hb => by
    have h := h.new hb
    exact ⟨h.box.c0, h.ob.at_ 0 _ rfl, h.ob.at_ 1 _ rfl, h.ob.at_ 2 _ rfl, h.ob.at_ 3 _ rfl⟩)
  generalize V.acc (upd V.f a z) 2 a (V.f a) z = V2 at *
  generalize V.f a = old at *
  have hb0 : Below w.heap.size w w.drew := (Below.refl _ _).drew
  obtain ⟨s0, s1, s2, s3, s4⟩ := KEEP.out _ hb0
  clear h ha hz hzu ht
  go_enter Tryz.func226, Tryz.ntmps226
  go_wp2_with fail
  go_region_held3 (fun X => X.cell? ⟨A.p, 0, none⟩ = some (.pointer (some ⟨A.pc, 0, none⟩)) ∧ X.cell? ⟨q, 0, none⟩ = some (.int .i64 b) ∧ X.cell? ⟨q, 1, none⟩ = some (.int .i64 k) ∧ X.cell? ⟨q, 2, none⟩ = some (.int .i64 s) ∧ X.cell? ⟨q, 3, none⟩ = some (.int .u64 tags))
    (first | exact ⟨by assumption, by assumption, by assumption, by assumption, by assumption⟩)
    (first
      | (go_at_call 40; ((with_reducible refine (CI.out _).mono ?_); rintro e w2 ⟨rfl, hk2⟩; have hb2 : Below w.heap.size w w2 := below_then hb0 hk2; clear hk2 s0 s1 s2 s3 s4; obtain ⟨s0, s1, s2, s3, s4⟩ := KEEP.out _ hb2))
      | (go_at_call 213; ((with_reducible refine (CW.out _).mono ?_); rintro e w5 ⟨rfl, hk5⟩; have hb5 : Below w.heap.size w w5 := below_then hb2 hk5; clear hk5 s0 s1 s2 s3 s4; obtain ⟨s0, s1, s2, s3, s4⟩ := KEEP.out _ hb5))
      | (go_at_call 39; ((with_reducible refine (CS.out _ hb5).mono ?_); rintro e w3 ⟨rfl, h3, k3⟩; clear s0 s1 s2 s3 s4; have s0 := h3.box.c0; have s1 := h3.ob.at_ 0 _ rfl; have s2 := h3.ob.at_ 1 _ rfl; have s3 := h3.ob.at_ 2 _ rfl; have s4 := h3.ob.at_ 3 _ rfl; have H3 := Lib.hid h3; have K3 := Lib.hid (Kp.to (Kp.of hb5) k3); clear h3 k3)))
  all_goals
    have d5 := H3.out.ob.at_ 5 _ rfl
    have f5 := H3.out.ob.fz 5 (by simp [ouC])
    obtain ⟨h4, k4⟩ := H3.out.set 5 (.bool true) (by simp [ouC]) (C' := ouC b k s tags left true) rfl
    have H4 := Lib.hid h4
    have K4 := Lib.hid (Kp.to K3.out k4)
    clear h4 k4 s0 s1 s2 s3 s4
    go_wp2_with fail
    go_end0
    exact ⟨rfl, H4.out, K4.out⟩
set_option maxHeartbeats 1000000 in
set_option maxRecDepth 100000 in
theorem pu_step3 (h : Opw G w A V q (puC b k s tg ref tags 3)) (ha : itemf b k s = a) (hu : isU a) (hr : 1 ≤ ref ∧ ref ≤ 9223372036854775807) (hc : V.cnt < 1000000000) :
    Calls Tryz.prog 209 #[.pointer (some ⟨q, 0, none⟩), .pointer (some ⟨A.p, 0, none⟩)] w (OpP G w A (V.acc (upd V.f a ref) 2 a (V.f a) ref) q (puC b k s tg ref tags 2) false) := by
  have CO := Lib.hid (pu_over (o := false) h.ob (by decide))
  have CS := Lib.hid (fun o => pu_item (h.new ((Below.refl w.heap.size w).alloc (Nat.le_refl _) o)) ha hu hr hc)
  have hlt := h.ob.lt
  have d2 := fun o => (World.cell?_alloc_lt w o ⟨q, 6, none⟩ hlt).trans (h.ob.at_ 6 _ rfl)
  obtain ⟨V2, hV2⟩ : ∃ V2, V2 = V.acc (upd V.f a ref) 2 a (V.f a) ref := ⟨_, rfl⟩
  rw [← hV2] at CS ⊢
  clear hV2 h
  go_enter Tryz.func209, Tryz.ntmps209
  go_wp2_with fail
  refine CO.out.mono ?_
  rintro e w1 ⟨rfl, rfl⟩
  go_wp2_with fail
  refine (CS.out _).mono ?_
  rintro e w2 ⟨rfl, hT, K2⟩
  have c2 := hT.ob.at_ 6 _ rfl
  have f2 := hT.ob.fz 6 (by simp [puC])
  obtain ⟨hT3, k3⟩ := hT.set 6 (.int .i64 2) (by simp [puC]) (C' := puC b k s tg ref tags 2) rfl
  have HT3 := Lib.hid hT3
  have HB3 := Lib.hid (Kp.to (Kp.to ((Keeps.refl _ w).alloc _) K2) k3)
  have CO2 := Lib.hid (pu_over (o := false) hT3.ob (by decide))
  clear hT K2 hT3 k3 d2 CS CO
  go_wp2_with fail
  refine CO2.out.mono ?_
  rintro e w4 ⟨rfl, rfl⟩
  go_wp2_with fail
  go_ret
  exact ⟨rfl, HT3.out, HB3.out⟩
set_option maxHeartbeats 1000000 in
set_option maxRecDepth 100000 in
theorem pu_step2 (h : Opw G w A V q (puC b k s tg ref tags 2)) (ha : tagsf b k = a) (hu : isU a) (hz : V.f a = z) (hc : V.cnt < 1000000000) :
    Calls Tryz.prog 209 #[.pointer (some ⟨q, 0, none⟩), .pointer (some ⟨A.p, 0, none⟩)] w (OpP G w A (V.acc V.f 1 a z z) q (puC b k s tg ref z 1) false) := by
  have CO := Lib.hid (pu_over (o := false) h.ob (by decide))
  have CS := Lib.hid (fun o => pu_load (h.new ((Below.refl w.heap.size w).alloc (Nat.le_refl _) o)) ha hu hz hc)
  have hlt := h.ob.lt
  have d2 := fun o => (World.cell?_alloc_lt w o ⟨q, 6, none⟩ hlt).trans (h.ob.at_ 6 _ rfl)
  obtain ⟨V2, hV2⟩ : ∃ V2, V2 = V.acc V.f 1 a z z := ⟨_, rfl⟩
  rw [← hV2] at CS ⊢
  clear hV2 h
  go_enter Tryz.func209, Tryz.ntmps209
  go_wp2_with fail
  refine CO.out.mono ?_
  rintro e w1 ⟨rfl, rfl⟩
  go_wp2_with fail
  refine (CS.out _).mono ?_
  rintro e w2 ⟨rfl, hT, K2⟩
  have c2 := hT.ob.at_ 6 _ rfl
  have f2 := hT.ob.fz 6 (by simp [puC])
  obtain ⟨hT3, k3⟩ := hT.set 6 (.int .i64 1) (by simp [puC]) (C' := puC b k s tg ref z 1) rfl
  have HT3 := Lib.hid hT3
  have HB3 := Lib.hid (Kp.to (Kp.to ((Keeps.refl _ w).alloc _) K2) k3)
  have CO2 := Lib.hid (pu_over (o := false) hT3.ob (by decide))
  clear hT K2 hT3 k3 d2 CS CO
  go_wp2_with fail
  refine CO2.out.mono ?_
  rintro e w4 ⟨rfl, rfl⟩
  go_wp2_with fail
  go_ret
  exact ⟨rfl, HT3.out, HB3.out⟩
set_option maxHeartbeats 1000000 in
set_option maxRecDepth 100000 in
theorem pu_step1 (h : Opw G w A V q (puC b k s tg ref tags 1)) (ha : tagsf b k = a) (hu : isU a) (ht : isU tags) (hz : withf tags s tg = z) (hc : V.cnt < 1000000000) :
    Calls Tryz.prog 209 #[.pointer (some ⟨q, 0, none⟩), .pointer (some ⟨A.p, 0, none⟩)] w (OpP G w A (V.acc (upd V.f a z) 2 a (V.f a) z) q (puC b k s tg ref tags 0) true) := by
  have CO := Lib.hid (pu_over (o := false) h.ob (by decide))
  have CS := Lib.hid (fun o => pu_tags (h.new ((Below.refl w.heap.size w).alloc (Nat.le_refl _) o)) ha hu ht hz hc)
  have hlt := h.ob.lt
  have d2 := fun o => (World.cell?_alloc_lt w o ⟨q, 6, none⟩ hlt).trans (h.ob.at_ 6 _ rfl)
  obtain ⟨V2, hV2⟩ : ∃ V2, V2 = V.acc (upd V.f a z) 2 a (V.f a) z := ⟨_, rfl⟩
  rw [← hV2] at CS ⊢
  clear hV2 h
  go_enter Tryz.func209, Tryz.ntmps209
  go_wp2_with fail
  refine CO.out.mono ?_
  rintro e w1 ⟨rfl, rfl⟩
  go_wp2_with fail
  refine (CS.out _).mono ?_
  rintro e w2 ⟨rfl, hT, K2⟩
  have c2 := hT.ob.at_ 6 _ rfl
  have f2 := hT.ob.fz 6 (by simp [puC])
  obtain ⟨hT3, k3⟩ := hT.set 6 (.int .i64 0) (by simp [puC]) (C' := puC b k s tg ref tags 0) rfl
  have HT3 := Lib.hid hT3
  have HB3 := Lib.hid (Kp.to (Kp.to ((Keeps.refl _ w).alloc _) K2) k3)
  have CO2 := Lib.hid (pu_over (o := true) hT3.ob (by decide))
  clear hT K2 hT3 k3 d2 CS CO
  go_wp2_with fail
  refine CO2.out.mono ?_
  rintro e w4 ⟨rfl, rfl⟩
  go_wp2_with fail
  go_ret
  exact ⟨rfl, HT3.out, HB3.out⟩
set_option maxHeartbeats 1000000 in
set_option maxRecDepth 100000 in
theorem ou_step3 (h : Opw G w A V q (ouC b k s tags 3 g)) (ha : tagsf b k = a) (hu : isU a) (hz : V.f a = z) (hc : V.cnt < 1000000000) :
    Calls Tryz.prog 224 #[.pointer (some ⟨q, 0, none⟩), .pointer (some ⟨A.p, 0, none⟩)] w (OpP G w A (V.acc V.f 1 a z z) q (ouC b k s z 2 g) false) := by
  have CO := Lib.hid (ou_over (o := false) h.ob (by decide))
  have CS := Lib.hid (fun o => ou_load (h.new ((Below.refl w.heap.size w).alloc (Nat.le_refl _) o)) ha hu hz hc)
  have hlt := h.ob.lt
  have d2 := fun o => (World.cell?_alloc_lt w o ⟨q, 4, none⟩ hlt).trans (h.ob.at_ 4 _ rfl)
  obtain ⟨V2, hV2⟩ : ∃ V2, V2 = V.acc V.f 1 a z z := ⟨_, rfl⟩
  rw [← hV2] at CS ⊢
  clear hV2 h
  go_enter Tryz.func224, Tryz.ntmps224
  go_wp2_with fail
  refine CO.out.mono ?_
  rintro e w1 ⟨rfl, rfl⟩
  go_wp2_with fail
  refine (CS.out _).mono ?_
  rintro e w2 ⟨rfl, hT, K2⟩
  have c2 := hT.ob.at_ 4 _ rfl
  have f2 := hT.ob.fz 4 (by simp [ouC])
  obtain ⟨hT3, k3⟩ := hT.set 4 (.int .i64 2) (by simp [ouC]) (C' := ouC b k s z 2 g) rfl
  have HT3 := Lib.hid hT3
  have HB3 := Lib.hid (Kp.to (Kp.to ((Keeps.refl _ w).alloc _) K2) k3)
  have CO2 := Lib.hid (ou_over (o := false) hT3.ob (by decide))
  clear hT K2 hT3 k3 d2 CS CO
  go_wp2_with fail
  refine CO2.out.mono ?_
  rintro e w4 ⟨rfl, rfl⟩
  go_wp2_with fail
  go_ret
  exact ⟨rfl, HT3.out, HB3.out⟩
set_option maxHeartbeats 1000000 in
set_option maxRecDepth 100000 in
theorem ou_step2 (h : Opw G w A V q (ouC b k s tags 2 g)) (ha : tagsf b k = a) (hu : isU a) (ht : isU tags) (hz : withf tags s 0 = z) (hc : V.cnt < 1000000000) :
    Calls Tryz.prog 224 #[.pointer (some ⟨q, 0, none⟩), .pointer (some ⟨A.p, 0, none⟩)] w (OpP G w A (V.acc (upd V.f a z) 2 a (V.f a) z) q (ouC b k s tags 1 true) false) := by
  have CO := Lib.hid (ou_over (o := false) h.ob (by decide))
  have CS := Lib.hid (fun o => ou_tags (h.new ((Below.refl w.heap.size w).alloc (Nat.le_refl _) o)) ha hu ht hz hc)
  have hlt := h.ob.lt
  have d2 := fun o => (World.cell?_alloc_lt w o ⟨q, 4, none⟩ hlt).trans (h.ob.at_ 4 _ rfl)
  obtain ⟨V2, hV2⟩ : ∃ V2, V2 = V.acc (upd V.f a z) 2 a (V.f a) z := ⟨_, rfl⟩
  rw [← hV2] at CS ⊢
  clear hV2 h
  go_enter Tryz.func224, Tryz.ntmps224
  go_wp2_with fail
  refine CO.out.mono ?_
  rintro e w1 ⟨rfl, rfl⟩
  go_wp2_with fail
  refine (CS.out _).mono ?_
  rintro e w2 ⟨rfl, hT, K2⟩
  have c2 := hT.ob.at_ 4 _ rfl
  have f2 := hT.ob.fz 4 (by simp [ouC])
  obtain ⟨hT3, k3⟩ := hT.set 4 (.int .i64 1) (by simp [ouC]) (C' := ouC b k s tags 1 true) rfl
  have HT3 := Lib.hid hT3
  have HB3 := Lib.hid (Kp.to (Kp.to ((Keeps.refl _ w).alloc _) K2) k3)
  have CO2 := Lib.hid (ou_over (o := false) hT3.ob (by decide))
  clear hT K2 hT3 k3 d2 CS CO
  go_wp2_with fail
  refine CO2.out.mono ?_
  rintro e w4 ⟨rfl, rfl⟩
  go_wp2_with fail
  go_ret
  exact ⟨rfl, HT3.out, HB3.out⟩
set_option maxHeartbeats 1000000 in
set_option maxRecDepth 100000 in
theorem ou_step1 (h : Opw G w A V q (ouC b k s tags 1 g)) (ha : itemf b k s = a) (hu : isU a) (hc : V.cnt < 1000000000) :
    Calls Tryz.prog 224 #[.pointer (some ⟨q, 0, none⟩), .pointer (some ⟨A.p, 0, none⟩)] w (OpP G w A (V.acc (upd V.f a 0) 2 a (V.f a) 0) q (ouC b k s tags 0 g) true) := by
  have CO := Lib.hid (ou_over (o := false) h.ob (by decide))
  have CS := Lib.hid (fun o => ou_item (h.new ((Below.refl w.heap.size w).alloc (Nat.le_refl _) o)) ha hu hc)
  have hlt := h.ob.lt
  have d2 := fun o => (World.cell?_alloc_lt w o ⟨q, 4, none⟩ hlt).trans (h.ob.at_ 4 _ rfl)
  obtain ⟨V2, hV2⟩ : ∃ V2, V2 = V.acc (upd V.f a 0) 2 a (V.f a) 0 := ⟨_, rfl⟩
  rw [← hV2] at CS ⊢
  clear hV2 h
  go_enter Tryz.func224, Tryz.ntmps224
  go_wp2_with fail
  refine CO.out.mono ?_
  rintro e w1 ⟨rfl, rfl⟩
  go_wp2_with fail
  refine (CS.out _).mono ?_
  rintro e w2 ⟨rfl, hT, K2⟩
  have c2 := hT.ob.at_ 4 _ rfl
  have f2 := hT.ob.fz 4 (by simp [ouC])
  obtain ⟨hT3, k3⟩ := hT.set 4 (.int .i64 0) (by simp [ouC]) (C' := ouC b k s tags 0 g) rfl
  have HT3 := Lib.hid hT3
  have HB3 := Lib.hid (Kp.to (Kp.to ((Keeps.refl _ w).alloc _) K2) k3)
  have CO2 := Lib.hid (ou_over (o := true) hT3.ob (by decide))
  clear hT K2 hT3 k3 d2 CS CO
  go_wp2_with fail
  refine CO2.out.mono ?_
  rintro e w4 ⟨rfl, rfl⟩
  go_wp2_with fail
  go_ret
  exact ⟨rfl, HT3.out, HB3.out⟩
end
end Go.Proofs.YtodppilfpemepaaGreat
/- Next: Puts and Outs: slots, runs; the examples of chapter 13. -/
namespace Go.Proofs.YtodppilfpemepaaGreat
open Go.RowKit Go.Maps
set_option linter.unusedVariables false
theorem uTags (b k : Int) : isU (tagsf b k) := by
  unfold tagsf
  split
  · next h => have := isp_range h; exact ⟨by omega, by omega⟩
  · exact ⟨by decide, by decide⟩
theorem uItem (b k s : Int) : isU (itemf b k s) := by
  unfold itemf
  split
  · next h => have := isp_range h.1; exact ⟨by omega, by omega⟩
  · exact ⟨by decide, by decide⟩
theorem isU_lt {z : Int} (h : isU z) : 0 ≤ z ∧ z < 18446744073709551616 := ⟨h.1, by have := h.2; omega⟩
section
variable {G : Nat → Prop} {w w' : World} {A : Ad} {V : Wv} {q : Nat} {C : List Value}
theorem op_newQ (h : WdG G w A V) (ho : Ob w' q C) (hq : w.heap.size ≤ q) (hb : Below w.heap.size w w') : Opw G w' A V q C := by
  obtain ⟨S, h1, h2, h3⟩ := h
  exact ⟨S, h1.new hb, h2, fun s => by have := h1.lt _ s; omega, ho, fun g => by have := h3 _ g; omega, fun k g => Nat.lt_of_lt_of_le (h3 k g) hb.size⟩
theorem WdG.add (h : WdG G w A V) (hb : Below w.heap.size w w') (hq : w.heap.size ≤ q) (hq2 : q < w'.heap.size) : WdG (fun k => G k ∨ k = q) w' A V := by
  obtain ⟨S, h1, h2, h3⟩ := h
  refine ⟨S, h1.new hb, fun k g s => ?_, fun k g => ?_⟩
  · rcases g with g | rfl
    · exact h2 k g s
    · have := h1.lt _ s; omega
  · rcases g with g | rfl
    · exact Nat.lt_of_lt_of_le (h3 k g) hb.size
    · exact hq2
set_option maxHeartbeats 1000000 in
set_option maxRecDepth 100000 in
theorem run_pu {b k s a t z y : Int} {tg ref tags0 : Int} (h : Opw G w A V q (puC b k s tg ref tags0 3)) (ha : itemf b k s = a) (ht : tagsf b k = t) (hne : t ≠ a) (hr : 1 ≤ ref ∧ ref ≤ 9223372036854775807) (hz : V.f t = z) (hy : withf z s tg = y) (hc : V.cnt < 100000000) :
    Calls Tryz.prog 38 #[.pointer (some ⟨A.p, 0, none⟩), .iface 122 (.pointer (some ⟨q, 0, none⟩)), .int .i64 9] w fun e w' => e = .returned (.int .i64 3) ∧ (∃ V', Opw G w' A V' q (puC b k s tg ref z 0) ∧ V'.f = upd (upd V.f a ref) t y ∧ V'.cnt = V.cnt + 3) ∧ Kp G w w' := by
  have hu : isU a := ha ▸ uItem b k s
  have hv : isU t := ht ▸ uTags b k
  have hzu : isU z := hz ▸ h.rng hv
  have C1 := Lib.hid (pu_step3 h ha hu hr (by omega))
  have CO := Lib.hid (pu_over (o := false) h.ob (by decide))
  clear h
  go_enter Tryz.func38, Tryz.ntmps38
  go_wp2_with fail
  refine wp_loop_rounds 4 ?_
  rw [rounds_succ]
  go_wp2_with fail
  refine CO.out.mono ?_
  rintro e w100 ⟨rfl, rfl⟩
  go_wp2_with fail
  refine C1.out.mono ?_
  rintro e w1 ⟨rfl, hT, K⟩
  clear CO C1
  have HB1 := Lib.hid K
  have CO := Lib.hid (pu_over (o := false) hT.ob (by decide))
  have C1 := Lib.hid (pu_step2 hT ht hv (show upd V.f a ref t = z by rw [upd_other hne]; exact hz) (by show V.cnt + 1 < _; omega))
  clear hT K
  go_wp2_with fail
  rw [rounds_succ]
  go_wp2_with fail
  refine CO.out.mono ?_
  rintro e w101 ⟨rfl, rfl⟩
  go_wp2_with fail
  refine C1.out.mono ?_
  rintro e w2 ⟨rfl, hT, K⟩
  clear CO C1
  have HB2 := Lib.hid (Kp.to HB1.out K)
  have CO := Lib.hid (pu_over (o := false) hT.ob (by decide))
  have C1 := Lib.hid (pu_step1 hT ht hv hzu hy (by show V.cnt + 1 + 1 < _; omega))
  clear hT K
  go_wp2_with fail
  rw [rounds_succ]
  go_wp2_with fail
  refine CO.out.mono ?_
  rintro e w102 ⟨rfl, rfl⟩
  go_wp2_with fail
  refine C1.out.mono ?_
  rintro e w3 ⟨rfl, hT, K⟩
  clear CO C1
  have HB3 := Lib.hid (Kp.to HB2.out K)
  have CO := Lib.hid (pu_over (o := true) hT.ob (by decide))
  have HT := Lib.hid hT
  clear hT K
  go_wp2_with fail
  rw [rounds_succ]
  go_wp2_with fail
  refine CO.out.mono ?_
  rintro e w200 ⟨rfl, rfl⟩
  go_wp2_with fail
  go_ret
  exact ⟨rfl, ⟨_, HT.out, rfl, by show V.cnt + 1 + 1 + 1 = V.cnt + 3; omega⟩, HB3.out⟩
set_option maxHeartbeats 1000000 in
set_option maxRecDepth 100000 in
theorem run_ou {b k s a t z y : Int} {tags0 : Int} {g : Bool} (h : Opw G w A V q (ouC b k s tags0 3 g)) (ha : itemf b k s = a) (ht : tagsf b k = t) (hne : t ≠ a) (hz : V.f t = z) (hy : withf z s 0 = y) (hc : V.cnt < 100000000) :
    Calls Tryz.prog 38 #[.pointer (some ⟨A.p, 0, none⟩), .iface 260 (.pointer (some ⟨q, 0, none⟩)), .int .i64 9] w fun e w' => e = .returned (.int .i64 3) ∧ (∃ V', Opw G w' A V' q (ouC b k s z 0 true) ∧ V'.f = upd (upd V.f t y) a 0 ∧ V'.cnt = V.cnt + 3) ∧ Kp G w w' := by
  have hu : isU a := ha ▸ uItem b k s
  have hv : isU t := ht ▸ uTags b k
  have hzu : isU z := hz ▸ h.rng hv
  have C1 := Lib.hid (ou_step3 h ht hv hz (by omega))
  have CO := Lib.hid (ou_over (o := false) h.ob (by decide))
  clear h
  go_enter Tryz.func38, Tryz.ntmps38
  go_wp2_with fail
  refine wp_loop_rounds 4 ?_
  rw [rounds_succ]
  go_wp2_with fail
  refine CO.out.mono ?_
  rintro e w100 ⟨rfl, rfl⟩
  go_wp2_with fail
  refine C1.out.mono ?_
  rintro e w1 ⟨rfl, hT, K⟩
  clear CO C1
  have HB1 := Lib.hid K
  have CO := Lib.hid (ou_over (o := false) hT.ob (by decide))
  have C1 := Lib.hid (ou_step2 hT ht hv hzu hy (by show V.cnt + 1 < _; omega))
  clear hT K
  go_wp2_with fail
  rw [rounds_succ]
  go_wp2_with fail
  refine CO.out.mono ?_
  rintro e w101 ⟨rfl, rfl⟩
  go_wp2_with fail
  refine C1.out.mono ?_
  rintro e w2 ⟨rfl, hT, K⟩
  clear CO C1
  have HB2 := Lib.hid (Kp.to HB1.out K)
  have CO := Lib.hid (ou_over (o := false) hT.ob (by decide))
  have C1 := Lib.hid (ou_step1 hT ha hu (by show V.cnt + 1 + 1 < _; omega))
  clear hT K
  go_wp2_with fail
  rw [rounds_succ]
  go_wp2_with fail
  refine CO.out.mono ?_
  rintro e w102 ⟨rfl, rfl⟩
  go_wp2_with fail
  refine C1.out.mono ?_
  rintro e w3 ⟨rfl, hT, K⟩
  clear CO C1
  have HB3 := Lib.hid (Kp.to HB2.out K)
  have CO := Lib.hid (ou_over (o := true) hT.ob (by decide))
  have HT := Lib.hid hT
  clear hT K
  go_wp2_with fail
  rw [rounds_succ]
  go_wp2_with fail
  refine CO.out.mono ?_
  rintro e w200 ⟨rfl, rfl⟩
  go_wp2_with fail
  go_ret
  exact ⟨rfl, ⟨_, HT.out, rfl, by show V.cnt + 1 + 1 + 1 = V.cnt + 3; omega⟩, HB3.out⟩
end
end Go.Proofs.YtodppilfpemepaaGreat
/- Next: The examples of chapter 13. -/
namespace Go.Proofs.YtodppilfpemepaaGreat
open Go.RowKit Go.Maps
set_option linter.unusedVariables false
theorem ex13 : itemf 1 1 2 = 4123 ∧ tagsf 1 1 = 4120 ∧ withf 0 2 7 = 458752 ∧ withf 458752 2 0 = 0 := by decide
end Go.Proofs.YtodppilfpemepaaGreat
