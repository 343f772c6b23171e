/- Flushes: the program's; how one begins, and its steps' frame. -/
import Derived.Test.YtaipbagnkjmddaaGreatGTi
import Derived.Test.YtaipbagnkjmddaaGreatGEp
import Derived.Deep.Cut
import Derived.Deep.CutBlock
import Derived.Deep.RegionHeld3
import Derived.Test.YtaipbagnkjmddaaGreatEpMath
import Derived.Test.YtaipbagnkjmddaaGreatWd2
namespace Go.Proofs.YtaipbagnkjmddaaGreat
open Go.RowKit Go.Maps
set_option linter.unusedVariables false
def pt_ (b : Nat) : Value := .pointer (some ⟨b, 0, none⟩)
def anC (k : Int) : List Value := [.int .u8 k, .int .u64 0, .string ⟨#[]⟩, .string ⟨#[]⟩, .int .u32 0, .int .u64 0, .int .i64 0, .int .i64 0]
/-- A Flush, as it lies. -/
def flC (nx : Value) (k ep pt : Int) : List Value := [nx, .int .u8 k, .int .u64 0, .string ⟨#[]⟩, .string ⟨#[]⟩, .int .u32 0, .int .u64 0, .int .i64 0, .int .i64 0, .int .u64 ep, .int .i64 pt]
def clo1 (b6 b5 b3 : Nat) : Value := .func (.func 35) #[] #[.pointer (some ⟨b6, 0, none⟩), .pointer (some ⟨b5, 0, none⟩), .pointer (some ⟨b3, 0, none⟩)]
def clo2 (b5 b3 : Nat) : Value := .func (.func 37) #[] #[.pointer (some ⟨b5, 0, none⟩), .pointer (some ⟨b3, 0, none⟩)]
def clo3 (b8 b5 : Nat) : Value := .func (.func 87) #[] #[.pointer (some ⟨b8, 0, none⟩), .pointer (some ⟨b5, 0, none⟩)]
section
variable {G : Nat → Prop} {w : World} {A : Ad} {V : Wv} {q b3 b5 b6 b8 : Nat} {k ep pt : Int} {r : Bool}
theorem fl_over_nil (w : World) : Calls Tryz.prog 18 #[.pointer none] w fun e w' => e = .returned (.bool true) ∧ w = w' := by
  go_enter Tryz.func18, Tryz.ntmps18
  go_wp2_with fail
  go_ret
  exact ⟨rfl, rfl⟩
theorem fl_over (h : Ob w q (flC .nilFunc k ep pt)) : Calls Tryz.prog 18 #[.pointer (some ⟨q, 0, none⟩)] w fun e w' => e = .returned (.bool true) ∧ w = w' := by
  have c3 := h.at_ 0 _ rfl
  have hq : ∀ W, (binOp .eql 62 .nilFunc .nilFunc).run Tryz.prog W = .ok (.bool true) W := fun W => by kernel_rfl
  clear h
  go_enter Tryz.func18, Tryz.ntmps18
  go_wp2_with fail
  go_ret
  exact ⟨rfl, rfl⟩
theorem fl_overn {f : FuncId} {C : Array Value} (h : Ob w q (flC (.func (.func f) #[] C) k ep pt)) : Calls Tryz.prog 18 #[.pointer (some ⟨q, 0, none⟩)] w fun e w' => e = .returned (.bool false) ∧ w = w' := by
  have c3 := h.at_ 0 _ rfl
  have hq : ∀ W, (binOp .eql 62 (.func (.func f) #[] C) .nilFunc).run Tryz.prog W = .ok (.bool false) W := fun W => by kernel_rfl
  clear h
  go_enter Tryz.func18, Tryz.ntmps18
  go_wp2_with fail
  go_ret
  exact ⟨rfl, rfl⟩
theorem fl_st_nil (w : World) (x : Value) : Calls Tryz.prog 14 #[.pointer none, x] w fun e w' => e = .returned (.bool true) ∧ w = w' := by
  go_enter Tryz.func14, Tryz.ntmps14
  go_wp2_with (go_at_call 18; ((with_reducible refine (fl_over_nil _).mono ?_); rintro e w1 ⟨rfl, rfl⟩))
  go_ret
  exact ⟨rfl, rfl⟩
theorem fl_st_over (h : Ob w q (flC .nilFunc k ep pt)) (x : Value) : Calls Tryz.prog 14 #[.pointer (some ⟨q, 0, none⟩), x] w fun e w' => e = .returned (.bool true) ∧ w = w' := by
  have C1 := Lib.hid (fl_over h)
  clear h
  go_enter Tryz.func14, Tryz.ntmps14
  go_wp2_with (go_at_call 18; ((with_reducible refine C1.out.mono ?_); rintro e w1 ⟨rfl, rfl⟩))
  go_ret
  exact ⟨rfl, rfl⟩
theorem fl_st_no {f : FuncId} {C : Array Value} (h : Ob w q (flC (.func (.func f) #[] C) k ep pt)) : Calls Tryz.prog 14 #[.pointer (some ⟨q, 0, none⟩), .pointer none] w fun e w' => e = .returned (.bool false) ∧ w = w' := by
  have C1 := Lib.hid (fl_overn h)
  clear h
  go_enter Tryz.func14, Tryz.ntmps14
  go_wp2_with (go_at_call 18; ((with_reducible refine C1.out.mono ?_); rintro e w1 ⟨rfl, rfl⟩))
  go_ret
  exact ⟨rfl, rfl⟩
/-- A step, by what its closure does. -/
theorem fl_st1 {a : Nat} {P : World → Prop} (h : Ob w q (flC (clo1 b6 b5 b3) k ep pt)) (hs : Calls Tryz.prog 35 #[.pointer (some ⟨a, 0, none⟩), .pointer (some ⟨b6, 0, none⟩), .pointer (some ⟨b5, 0, none⟩), .pointer (some ⟨b3, 0, none⟩)] w fun e w' => e = .returned (.tuple #[]) ∧ P w') (hP : ∀ w', P w' → Calls Tryz.prog 18 #[.pointer (some ⟨q, 0, none⟩)] w' fun e w'' => e = .returned (.bool r) ∧ w' = w'') :
    Calls Tryz.prog 14 #[.pointer (some ⟨q, 0, none⟩), .pointer (some ⟨a, 0, none⟩)] w fun e w' => e = .returned (.bool r) ∧ P w' := by
  have c0 := h.at_ 0 _ rfl
  have C1 := Lib.hid (fl_overn h)
  unfold clo1 at c0
  have HS := Lib.hid hs
  have HP := Lib.hid hP
  clear h hs hP
  go_enter Tryz.func14, Tryz.ntmps14
  go_wp2_with (first
    | (go_at_call 18; first | ((with_reducible refine C1.out.mono ?_); rintro e w1 ⟨rfl, rfl⟩) | ((with_reducible refine CO.out.mono ?_); rintro e w1 ⟨rfl, rfl⟩))
    | (go_at_call 35; ((with_reducible refine HS.out.mono ?_); rintro e w2 ⟨rfl, h2⟩; have CO := Lib.hid (HP.out _ h2); have H2 := Lib.hid h2; clear h2 c0 C1)))
  go_ret
  exact ⟨rfl, H2.out⟩
theorem fl_st2 {a : Nat} {P : World → Prop} (h : Ob w q (flC (clo2 b5 b3) k ep pt)) (hs : Calls Tryz.prog 37 #[.pointer (some ⟨a, 0, none⟩), .pointer (some ⟨b5, 0, none⟩), .pointer (some ⟨b3, 0, none⟩)] w fun e w' => e = .returned (.tuple #[]) ∧ P w') (hP : ∀ w', P w' → Calls Tryz.prog 18 #[.pointer (some ⟨q, 0, none⟩)] w' fun e w'' => e = .returned (.bool r) ∧ w' = w'') :
    Calls Tryz.prog 14 #[.pointer (some ⟨q, 0, none⟩), .pointer (some ⟨a, 0, none⟩)] w fun e w' => e = .returned (.bool r) ∧ P w' := by
  have c0 := h.at_ 0 _ rfl
  have C1 := Lib.hid (fl_overn h)
  unfold clo2 at c0
  have HS := Lib.hid hs
  have HP := Lib.hid hP
  clear h hs hP
  go_enter Tryz.func14, Tryz.ntmps14
  go_wp2_with (first
    | (go_at_call 18; first | ((with_reducible refine C1.out.mono ?_); rintro e w1 ⟨rfl, rfl⟩) | ((with_reducible refine CO.out.mono ?_); rintro e w1 ⟨rfl, rfl⟩))
    | (go_at_call 37; ((with_reducible refine HS.out.mono ?_); rintro e w2 ⟨rfl, h2⟩; have CO := Lib.hid (HP.out _ h2); have H2 := Lib.hid h2; clear h2 c0 C1)))
  go_ret
  exact ⟨rfl, H2.out⟩
theorem fl_st3 {a : Nat} {P : World → Prop} (h : Ob w q (flC (clo3 b8 b5) k ep pt)) (hs : Calls Tryz.prog 87 #[.pointer (some ⟨a, 0, none⟩), .pointer (some ⟨b8, 0, none⟩), .pointer (some ⟨b5, 0, none⟩)] w fun e w' => e = .returned (.tuple #[]) ∧ P w') (hP : ∀ w', P w' → Calls Tryz.prog 18 #[.pointer (some ⟨q, 0, none⟩)] w' fun e w'' => e = .returned (.bool r) ∧ w' = w'') :
    Calls Tryz.prog 14 #[.pointer (some ⟨q, 0, none⟩), .pointer (some ⟨a, 0, none⟩)] w fun e w' => e = .returned (.bool r) ∧ P w' := by
  have c0 := h.at_ 0 _ rfl
  have C1 := Lib.hid (fl_overn h)
  unfold clo3 at c0
  have HS := Lib.hid hs
  have HP := Lib.hid hP
  clear h hs hP
  go_enter Tryz.func14, Tryz.ntmps14
  go_wp2_with (first
    | (go_at_call 18; first | ((with_reducible refine C1.out.mono ?_); rintro e w1 ⟨rfl, rfl⟩) | ((with_reducible refine CO.out.mono ?_); rintro e w1 ⟨rfl, rfl⟩))
    | (go_at_call 87; ((with_reducible refine HS.out.mono ?_); rintro e w2 ⟨rfl, h2⟩; have CO := Lib.hid (HP.out _ h2); have H2 := Lib.hid h2; clear h2 c0 C1)))
  go_ret
  exact ⟨rfl, H2.out⟩
end
end Go.Proofs.YtaipbagnkjmddaaGreat
/- Next: Flushes: the program's; how one begins. -/
namespace Go.Proofs.YtaipbagnkjmddaaGreat
open Go.RowKit Go.Maps
set_option linter.unusedVariables false
theorem fl_at {W : World} {C : Array Value} {T : TypeId} {L : List Value} {n : Nat} (hn : n = W.heap.size) (hL : L = C.toList) : Ob (W.alloc (.cells C T)) n L := by
  subst hn hL
  exact ob_new rfl
theorem fl_new {W : World} {C : Array Value} {T : TypeId} {n i : Nat} {v : Value} (hn : n = W.heap.size) (hv : C.toList[i]? = some v) : (W.alloc (.cells C T)).cell? ⟨n, i, none⟩ = some v := (fl_at (T := T) hn rfl).at_ i v hv
theorem fl_bs {a w : World} {o : Obj} (h : Below a.heap.size a w) : Below a.heap.size a (w.alloc o) := h.alloc h.size o
theorem fl_up {w W : World} {b o : Nat} {v : Value} (hb : Below w.heap.size w W) (hc : w.cell? ⟨b, o, none⟩ = some v) : W.cell? ⟨b, o, none⟩ = some v := (hb.cell (p := ⟨b, o, none⟩) (World.block_lt_of_cell? _ _ hc)).trans hc
/-- Of what is no thread. -/
theorem newFlush_no (t d : Int) (ht : decide (0 ≤ t ∧ t < 64) = false) (w : World) : Calls Tryz.prog 8 #[.int .i64 t, .int .i64 d] w fun e w' => ∃ q, e = .returned (.pointer (some ⟨q, 0, none⟩)) ∧ Ob w' q (flC .nilFunc 0 0 0) ∧ w.heap.size ≤ q ∧ Below w.heap.size w w' := by
  have CN := Lib.hid (fun W => newTake_no t ht W)
  clear ht
  go_enter Tryz.func8, Tryz.ntmps8
  go_upto_region 2 with (fail)
  generalize hW1 : World.alloc w _ = W1
  generalize hW2 : World.alloc W1 _ = W2
  generalize hW3 : World.alloc W2 _ = W3
  obtain ⟨H, hH⟩ : ∃ H, H = w.heap.size := ⟨_, rfl⟩
  have z1 : W1.heap.size = H + 1 := by rw [← hW1, hH]; simp
  have z2 : W2.heap.size = H + 1 + 1 := by rw [← hW2]; simp [z1]
  have b1 : Below w.heap.size w W1 := by rw [← hW1]; exact fl_bs (Below.refl _ _)
  have b2 : Below W1.heap.size W1 W2 := by rw [← hW2]; exact fl_bs (Below.refl _ _)
  have b3 : Below W2.heap.size W2 W3 := by rw [← hW3]; exact fl_bs (Below.refl _ _)
  have o1 : Ob W2 (H + 1) (flC .nilFunc 0 0 0) := by rw [← hW2]; exact fl_at z1.symm rfl
  have e5 : W3.cell? ⟨H + 1 + 1, 0, none⟩ = some (.pointer (some ⟨H + 1, 0, none⟩)) := by rw [← hW3, hH]; exact fl_new (by rw [z2, hH]) rfl
  subst hH
  have HO := Lib.hid (And.intro (o1.new b3) (And.intro e5 (below_then (below_then b1 b2) b3)))
  clear hW1 hW2 hW3 z1 z2 b1 b2 b3 o1 e5
  go_upto_region 3 with (go_at_call 33; ((with_reducible refine (CN.out _).mono ?_); rintro e w4 ⟨rfl, o4, b4⟩; have H4 := Lib.hid (And.intro o4 b4); clear o4 b4))
  generalize hW5 : World.alloc w4 _ = W5
  have b5 : Below w4.heap.size w4 W5 := by rw [← hW5]; exact fl_bs (Below.refl _ _)
  have e6 : W5.cell? ⟨w4.heap.size, 0, none⟩ = some (.pointer (some ⟨W3.heap.size, 0, none⟩)) := by rw [← hW5]; exact fl_new rfl rfl
  have e5 := fl_up b5 (fl_up H4.out.2 HO.out.2.1)
  have CO := Lib.hid (tk_over (H4.out.1.new b5))
  have HB := Lib.hid b5
  clear hW5 b5 CN
  go_wp2_with (go_at_call 34; ((with_reducible refine CO.out.mono ?_); rintro e w6 ⟨rfl, rfl⟩))
  go_ret
  exact ⟨_, rfl, (HO.out.1.new H4.out.2).new HB.out, by omega, below_then (below_then HO.out.2.2 H4.out.2) HB.out⟩
/-- What a new one leaves. -/
def NwFl (t d : Int) (w : World) (e : Ending) (w' : World) : Prop := ∃ q p b6 b5 b3, e = .returned (.pointer (some ⟨q, 0, none⟩)) ∧ Ob w' q (flC (clo1 b6 b5 b3) 0 0 0) ∧ Ob w' p (tkC t 0 false (mV 83 p)) ∧ (w'.cell? ⟨b6, 0, none⟩ = some (.pointer (some ⟨p, 0, none⟩)) ∧ w'.cell? ⟨b5, 0, none⟩ = some (.pointer (some ⟨q, 0, none⟩)) ∧ w'.cell? ⟨b3, 0, none⟩ = some (.int .i64 d)) ∧ (w.heap.size ≤ b3 ∧ b3 < q ∧ q < b5 ∧ b5 < p ∧ p < b6 ∧ b6 < w'.heap.size) ∧ Below w.heap.size w w'
theorem newFlush (t d : Int) (ht : decide (0 ≤ t ∧ t < 64) = true) (w : World) : Calls Tryz.prog 8 #[.int .i64 t, .int .i64 d] w (NwFl t d w) := by
  have CN := Lib.hid (fun W => newTake t ht W)
  clear ht
  go_enter Tryz.func8, Tryz.ntmps8
  go_upto_region 2 with (fail)
  generalize hW1 : World.alloc w _ = W1
  generalize hW2 : World.alloc W1 _ = W2
  generalize hW3 : World.alloc W2 _ = W3
  obtain ⟨H, hH⟩ : ∃ H, H = w.heap.size := ⟨_, rfl⟩
  have z1 : W1.heap.size = H + 1 := by rw [← hW1, hH]; simp
  have z2 : W2.heap.size = H + 1 + 1 := by rw [← hW2]; simp [z1]
  have z3 : W3.heap.size = H + 1 + 1 + 1 := by rw [← hW3]; simp [z2]
  have b1 : Below w.heap.size w W1 := by rw [← hW1]; exact fl_bs (Below.refl _ _)
  have b2 : Below W1.heap.size W1 W2 := by rw [← hW2]; exact fl_bs (Below.refl _ _)
  have b3 : Below W2.heap.size W2 W3 := by rw [← hW3]; exact fl_bs (Below.refl _ _)
  have o1 : Ob W2 (H + 1) (flC .nilFunc 0 0 0) := by rw [← hW2]; exact fl_at z1.symm rfl
  have e3 : W1.cell? ⟨H, 0, none⟩ = some (.int .i64 d) := by rw [← hW1, hH]; exact fl_new rfl rfl
  have e5 : W3.cell? ⟨H + 1 + 1, 0, none⟩ = some (.pointer (some ⟨H + 1, 0, none⟩)) := by rw [← hW3, hH]; exact fl_new (by rw [z2, hH]) rfl
  subst hH
  have HO := Lib.hid (And.intro (o1.new b3) (And.intro e5 (And.intro (fl_up (below_then b2 b3) e3) (below_then (below_then b1 b2) b3))))
  have HZ := Lib.hid z3
  clear hW1 hW2 hW3 z1 z2 z3 b1 b2 b3 o1 e5 e3
  go_upto_region 3 with (go_at_call 33; ((with_reducible refine (CN.out _).mono ?_); rintro e w4 ⟨rfl, o4, b4⟩; have H4 := Lib.hid (And.intro o4 b4); clear o4 b4))
  generalize hW5 : World.alloc w4 _ = W5
  have b5 : Below w4.heap.size w4 W5 := by rw [← hW5]; exact fl_bs (Below.refl _ _)
  have l5 : w4.heap.size < W5.heap.size := by rw [← hW5]; simp
  have e6 : W5.cell? ⟨w4.heap.size, 0, none⟩ = some (.pointer (some ⟨W3.heap.size, 0, none⟩)) := by rw [← hW5]; exact fl_new rfl rfl
  have e5 := fl_up b5 (fl_up H4.out.2 HO.out.2.1)
  have CO := Lib.hid (tk_overn (H4.out.1.new b5))
  have HB := Lib.hid (And.intro b5 l5)
  have oq := (HO.out.1.new H4.out.2).new b5
  have q0 := oq.at_ 0 _ rfl
  have qz := oq.fz 0 (by show 0 < 11; decide)
  have HQ := Lib.hid oq
  clear hW5 b5 l5 CN oq
  go_wp2_with (go_at_call 34; ((with_reducible refine CO.out.mono ?_); rintro e w6 ⟨rfl, rfl⟩))
  have hk : Keeps (fun j => j = w.heap.size + 1) W5 (W5.setCell ⟨w.heap.size + 1, 0, none⟩ (clo1 w4.heap.size (w.heap.size + 1 + 1) w.heap.size)) := Keeps.setCell (S := fun j => j = w.heap.size + 1) (Keeps.refl _ W5) (p := ⟨w.heap.size + 1, 0, none⟩) (.inl rfl) _
  have hz := HZ.out
  have hs4 := H4.out.2.size
  have hl4 := H4.out.1.lt
  have hl5 := HB.out.2
  have hsk := hk.size
  go_ret
  refine ⟨w.heap.size + 1, W3.heap.size, w4.heap.size, w.heap.size + 1 + 1, w.heap.size, rfl, HQ.out.set 0 _ (by show 0 < 11; decide) rfl, (H4.out.1.new HB.out.1).keep hk (by omega), ⟨hk.cell (p := ⟨w4.heap.size, 0, none⟩) (by show ¬ w4.heap.size = w.heap.size + 1; omega) e6, hk.cell (p := ⟨w.heap.size + 1 + 1, 0, none⟩) (by show ¬ w.heap.size + 1 + 1 = w.heap.size + 1; omega) e5, hk.cell (p := ⟨w.heap.size, 0, none⟩) (by show ¬ w.heap.size = w.heap.size + 1; omega) (fl_up HB.out.1 (fl_up H4.out.2 HO.out.2.2.1))⟩, ⟨by omega, by omega, by omega, by omega, by omega, Nat.lt_of_lt_of_le hl5 hsk⟩, ?_⟩
  have hb5 := below_then (below_then HO.out.2.2.2 H4.out.2) HB.out.1
  exact hb5.setCell (by show w.heap.size ≤ w.heap.size + 1; omega) _
section
variable {G : Nat → Prop} {w : World} {A : Ad} {V : Wv} {a q p g b3 b5 b6 b8 : Nat} {k ep pt d : Int} {r : Bool} {nx : Value}
/-- A take's step, that is not the last. -/
theorem fl_c1n {P : World → Prop} (h6 : w.cell? ⟨b6, 0, none⟩ = some (.pointer (some ⟨p, 0, none⟩))) (hs : Calls Tryz.prog 36 #[.pointer (some ⟨p, 0, none⟩), .pointer (some ⟨a, 0, none⟩)] w fun e w' => e = .returned (.bool false) ∧ P w') :
    Calls Tryz.prog 35 #[.pointer (some ⟨a, 0, none⟩), .pointer (some ⟨b6, 0, none⟩), .pointer (some ⟨b5, 0, none⟩), .pointer (some ⟨b3, 0, none⟩)] w fun e w' => e = .returned (.tuple #[]) ∧ P w' := by
  have HS := Lib.hid hs
  clear hs
  go_enter Tryz.func35, Tryz.ntmps35
  go_wp2_with (go_at_call 36; ((with_reducible refine HS.out.mono ?_); rintro e w1 ⟨rfl, h1⟩; have H1 := Lib.hid h1; clear h1))
  go_end0
  exact ⟨rfl, H1.out⟩
/-- Its last one. -/
theorem fl_c1y {P : World → Prop} (h6 : w.cell? ⟨b6, 0, none⟩ = some (.pointer (some ⟨p, 0, none⟩))) (hs : Calls Tryz.prog 36 #[.pointer (some ⟨p, 0, none⟩), .pointer (some ⟨a, 0, none⟩)] w fun e w' => e = .returned (.bool true) ∧ P w') (hP : ∀ w', P w' → w'.cell? ⟨b5, 0, none⟩ = some (.pointer (some ⟨q, 0, none⟩)) ∧ Ob w' q (flC nx k ep pt)) :
    Calls Tryz.prog 35 #[.pointer (some ⟨a, 0, none⟩), .pointer (some ⟨b6, 0, none⟩), .pointer (some ⟨b5, 0, none⟩), .pointer (some ⟨b3, 0, none⟩)] w fun e w'' => e = .returned (.tuple #[]) ∧ ∃ w', P w' ∧ w'' = w'.setCell ⟨q, 0, none⟩ (clo2 b5 b3) := by
  have HS := Lib.hid hs
  have HP := Lib.hid hP
  clear hs hP
  go_enter Tryz.func35, Tryz.ntmps35
  go_wp2_with (go_at_call 36; ((with_reducible refine HS.out.mono ?_); rintro e w1 ⟨rfl, h1⟩; clear h6; have c5 := (HP.out _ h1).1; have c0 := (HP.out _ h1).2.at_ 0 _ rfl; have z0 := (HP.out _ h1).2.fz 0 (by show 0 < 11; decide); have H1 := Lib.hid h1; clear h1))
  go_end0
  exact ⟨rfl, w1, H1.out, rfl⟩
theorem fl_c2 {P : World → Prop} (h5 : w.cell? ⟨b5, 0, none⟩ = some (.pointer (some ⟨q, 0, none⟩))) (h3 : w.cell? ⟨b3, 0, none⟩ = some (.int .i64 d)) (hs : Calls Tryz.prog 38 #[.pointer (some ⟨q, 0, none⟩), .pointer (some ⟨a, 0, none⟩), .int .i64 d] w fun e w' => e = .returned (.tuple #[]) ∧ P w') :
    Calls Tryz.prog 37 #[.pointer (some ⟨a, 0, none⟩), .pointer (some ⟨b5, 0, none⟩), .pointer (some ⟨b3, 0, none⟩)] w fun e w' => e = .returned (.tuple #[]) ∧ P w' := by
  have HS := Lib.hid hs
  clear hs
  go_enter Tryz.func37, Tryz.ntmps37
  go_wp2_with (go_at_call 38; ((with_reducible refine HS.out.mono ?_); rintro e w1 ⟨rfl, h1⟩; have H1 := Lib.hid h1; clear h1))
  go_end0
  exact ⟨rfl, H1.out⟩
theorem fl_c3 {P : World → Prop} (h8 : w.cell? ⟨b8, 0, none⟩ = some (.pointer (some ⟨g, 0, none⟩))) (hs : Calls Tryz.prog 88 #[.pointer (some ⟨g, 0, none⟩), .pointer (some ⟨a, 0, none⟩)] w fun e w' => e = .returned (.bool r) ∧ P w') (hP : ∀ w', P w' → w'.cell? ⟨b5, 0, none⟩ = some (.pointer (some ⟨q, 0, none⟩)) ∧ Ob w' q (flC nx k ep pt)) :
    Calls Tryz.prog 87 #[.pointer (some ⟨a, 0, none⟩), .pointer (some ⟨b8, 0, none⟩), .pointer (some ⟨b5, 0, none⟩)] w fun e w'' => e = .returned (.tuple #[]) ∧ ∃ w', P w' ∧ w'' = w'.setCell ⟨q, 0, none⟩ .nilFunc := by
  have HS := Lib.hid hs
  have HP := Lib.hid hP
  clear hs hP
  go_enter Tryz.func87, Tryz.ntmps87
  go_wp2_with (go_at_call 88; ((with_reducible refine HS.out.mono ?_); rintro e w1 ⟨rfl, h1⟩; clear h8; have c5 := (HP.out _ h1).1; have c0 := (HP.out _ h1).2.at_ 0 _ rfl; have z0 := (HP.out _ h1).2.fz 0 (by show 0 < 11; decide); have H1 := Lib.hid h1; clear h1))
  go_end0
  exact ⟨rfl, w1, H1.out, rfl⟩
end
end Go.Proofs.YtaipbagnkjmddaaGreat
/- Next: Flushes: the program's; its third step. -/
namespace Go.Proofs.YtaipbagnkjmddaaGreat
open Go.RowKit Go.Maps
set_option linter.unusedVariables false
theorem Opw.casT {G : Nat → Prop} {w : World} {A : Ad} {V : Wv} {q : Nat} {C : List Value} (h : Opw G w A V q C) {a z is : Int} (ha : isU a) (hv : isU is) (hc : V.cnt < 1000000000) (hz : V.f a = z) :
    Calls Tryz.prog 63 #[.pointer (some ⟨A.pc, 0, none⟩), .int .u64 a, .int .u64 z, .int .u64 is] w fun e w' => e = .returned (.tuple #[.int .u64 z, .bool true]) ∧ Opw G w' A (V.acc (upd V.f a is) 3 a z is) q C ∧ Kp G w w' := by
  subst hz
  obtain ⟨S, h1, h2, h3, h4, h5, h6⟩ := h
  exact (wcas h1 ha hv hc (r := true) (by simp)).mono fun e w' ⟨he, hp⟩ => ⟨he, Opw.post h2 h3 h4 h5 h6 hp⟩
theorem fl_cnt {w : World} {p n : Nat} {f : Int → Int} {cnt k a0 x y : Int} {S : Nat → Prop} (h : Cel w p f cnt k a0 x y n S) :
    Calls Tryz.prog 98 #[.pointer (some ⟨p, 0, none⟩)] w fun e w' => e = .returned (.int .i64 cnt) ∧ w = w' := by
  have hc := h.c1
  clear h
  go_enter Tryz.func98, Tryz.ntmps98
  go_wp2_with fail
  go_ret
  exact ⟨rfl, rfl⟩
theorem fl_wsteps {w : World} {A : Ad} {V : Wv} {S : Nat → Prop} (h : Wd w A V S) :
    Calls Tryz.prog 51 #[.pointer (some ⟨A.p, 0, none⟩)] w fun e w' => e = .returned (.int .i64 V.cnt) ∧ w = w' := by
  have c0 := h.box.c0
  obtain ⟨n, SC, SI, SN, h⟩ := h
  have C := Lib.hid (fl_cnt h.cel)
  clear h
  go_enter Tryz.func51, Tryz.ntmps51
  go_wp2_with fail
  refine C.out.mono ?_
  rintro e w' ⟨rfl, rfl⟩
  go_wp2_with fail
  go_ret
  exact ⟨rfl, rfl⟩
theorem op_stepsX {G : Nat → Prop} {w : World} {A : Ad} {V : Wv} {q : Nat} {C : List Value} (h : Opw G w A V q C) {c : Int} (hc : V.cnt = c) : Calls Tryz.prog 51 #[.pointer (some ⟨A.p, 0, none⟩)] w fun e w' => e = .returned (.int .i64 c) ∧ w = w' := by
  subst hc
  obtain ⟨S, h1, h2, h3, h4, h5, h6⟩ := h
  exact fl_wsteps h1
theorem Opw.addq {G : Nat → Prop} {w W : World} {A : Ad} {V : Wv} {q b : Nat} {C : List Value} (h : Opw G w A V q C) (hb : Below w.heap.size w W) (h1 : w.heap.size ≤ b) (h2 : b < W.heap.size) : Opw (fun k => G k ∨ k = b) W A V q C := by
  obtain ⟨S, k1, k2, k3, k4, k5, k6⟩ := h
  have hl := k4.lt
  refine ⟨S, k1.new hb, fun k g s => ?_, k3, k4.new hb, fun g => ?_, fun k g => ?_⟩
  · rcases g with g | rfl
    · exact k2 k g s
    · have := k1.lt _ s; omega
  · rcases g with g | e
    · exact k5 g
    · omega
  · rcases g with g | rfl
    · exact Nat.lt_of_lt_of_le (k6 k g) hb.size
    · exact h2
theorem ob_kp {G : Nat → Prop} {w W : World} {q : Nat} {C : List Value} (h : Ob w q C) (hk : Kp G w W) (g : G q) : Ob W q C := h.keep hk (fun n => n g)
theorem isU_flush (z d : Int) (hz : isU z) : isU (flushf z d) := by
  have := flushf_range z d hz.1 (by have := hz.2; omega)
  exact ⟨this.1, by omega⟩
/-- What the step of the flush leaves. -/
def FlR (G : Nat → Prop) (w : World) (A : Ad) (V' : Wv) (q : Nat) (k z c : Int) (e : Ending) (w' : World) : Prop := e = .returned (.tuple #[]) ∧ ∃ g b8 b5, Opw (fun j => ((G j ∨ j = b5) ∨ j = g) ∨ j = b8) w' A V' q (flC (clo3 b8 b5) k z c) ∧ Ob w' g [mV 118 g] ∧ w'.cell? ⟨b8, 0, none⟩ = some (.pointer (some ⟨g, 0, none⟩)) ∧ w'.cell? ⟨b5, 0, none⟩ = some (.pointer (some ⟨q, 0, none⟩)) ∧ (w.heap.size ≤ b5 ∧ b5 < g ∧ g < b8 ∧ b8 < w'.heap.size) ∧ Kp G w w'
section
variable {G : Nat → Prop} {w : World} {A : Ad} {V : Wv} {q : Nat} {d z c : Int} {nx : Value}
set_option maxHeartbeats 1000000 in
set_option maxRecDepth 100000 in
theorem fl_flY (h : Opw G w A V q (flC nx 0 0 0)) (hc : V.cnt < 100000000) (hz : V.f 8 = z) (hf : flushes z = true) (hct : V.cnt + 1 = c) {V1 : Wv} (hV1 : V.acc (upd V.f 8 (flushf z d)) 3 8 z (flushf z d) = V1) :
    Calls Tryz.prog 38 #[.pointer (some ⟨q, 0, none⟩), .pointer (some ⟨A.p, 0, none⟩), .int .i64 d] w (FlR G w A V1 q 10 z c) := by
  have hzu : isU z := by rw [← hz]; exact h.rng ⟨by decide, by decide⟩
  have CFL := Lib.hid (fun W => flushw z d W hzu.1 (by have := hzu.2; omega))
  rw [hf] at CFL
  have HV := Lib.hid (And.intro hc (And.intro hz (And.intro hct (And.intro hzu hf))))
  have H0 := Lib.hid h
  have hc1 : V1.cnt = c := by rw [← hV1]; exact hct
  have HV1 := Lib.hid hV1
  clear h hc hz hf hct hzu hV1
  go_enter Tryz.func38, Tryz.ntmps38
  go_upto_region 1 with (fail)
  generalize hW1 : World.alloc w _ = W1
  have b1 : Below w.heap.size w W1 := by rw [← hW1]; exact fl_bs (Below.refl _ _)
  have s1 : W1.heap.size = w.heap.size + 1 := by rw [← hW1]; simp
  have e5 : W1.cell? ⟨w.heap.size, 0, none⟩ = some (.pointer (some ⟨q, 0, none⟩)) := by rw [← hW1]; exact fl_new rfl rfl
  obtain ⟨b5, hb5⟩ : ∃ b5, b5 = w.heap.size := ⟨_, rfl⟩
  rw [← hb5] at e5 s1
  have h1 := H0.out.addq (b := b5) b1 (by omega) (by omega)
  have hd1 : Below W1.heap.size W1 W1.drew := (Below.refl _ _).drew
  have h2 := h1.new hd1
  have K2 : Kp G w W1.drew := Kp.of (below_then b1 hd1)
  have HB := Lib.hid (And.intro hb5 s1)
  have x0 : W1.drew.cell? ⟨b5, 0, none⟩ = some (.pointer (some ⟨q, 0, none⟩)) := fl_up hd1 e5
  have x1 : W1.drew.cell? ⟨A.p, 0, none⟩ = some (.pointer (some ⟨A.pc, 0, none⟩)) := h2.box.c0
  have x2 : W1.drew.cell? ⟨q, 9, none⟩ = some (.int .u64 0) := h2.ob.at_ 9 _ rfl
  have x3 : W1.drew.frozen? ⟨q, 9, none⟩ = false := h2.ob.fz 9 (by show 9 < 11; decide)
  have CP := Lib.hid (h2.peek (a := 8) ⟨by decide, by decide⟩)
  rw [HV.out.2.1] at CP
  obtain ⟨h3, k3⟩ := h1.set 9 (.int .u64 z) (by show 9 < 11; decide) (C' := flC nx 0 z 0) rfl
  have hd3 : Below (W1.setCell ⟨q, 9, none⟩ (.int .u64 z)).heap.size (W1.setCell ⟨q, 9, none⟩ (.int .u64 z)) (W1.setCell ⟨q, 9, none⟩ (.int .u64 z)).drew := (Below.refl _ _).drew
  have H3 := Lib.hid (And.intro (h3.new hd3) (Kp.to (Kp.to (Kp.of b1) (k3.less (fun j g => .inl g))) (Kp.of hd3)))
  have B5 := Lib.hid (fl_up (w := W1) hd1 e5)
  have hKB : Hid (∀ X, Kp (fun j => G j ∨ j = b5) W1 X → X.cell? ⟨b5, 0, none⟩ = some (.pointer (some ⟨q, 0, none⟩))) := Lib.hid (fun X hk => hk.cell (p := ⟨b5, 0, none⟩) (fun n => n (.inr rfl)) e5)
  have HK1 := Lib.hid (Kp.to k3 (Kp.of (G := fun j => G j ∨ j = b5) hd3))
  have hy0 := hKB.out _ k3
  subst hb5
  have hx0 : (W1.setCell ⟨q, 9, none⟩ (.int .u64 z)).drew.cell? ⟨w.heap.size, 0, none⟩ = some (.pointer (some ⟨q, 0, none⟩)) := hKB.out _ HK1.out
  have hx1 : (W1.setCell ⟨q, 9, none⟩ (.int .u64 z)).drew.cell? ⟨A.p, 0, none⟩ = some (.pointer (some ⟨A.pc, 0, none⟩)) := h3.box.c0
  clear hW1 b1 s1 e5 h1 hd1 h2 K2 h3 k3 hd3 hy0
  go_region_held3 (fun X => X.cell? ⟨w.heap.size, 0, none⟩ = some (.pointer (some ⟨q, 0, none⟩)) ∧ X.cell? ⟨A.p, 0, none⟩ = some (.pointer (some ⟨A.pc, 0, none⟩)))
    (first | exact ⟨by assumption, by assumption⟩)
    (first | (go_at_call 21; ((with_reducible refine CP.out.mono ?_); rintro e w2 ⟨rfl, rfl⟩)))
  generalize hW3 : World.drew (World.setCell W1 _ _) = W3 at *
  clear hW3 x0 x1 x2 x3 CP
  have x9 : W3.cell? ⟨q, 9, none⟩ = some (.int .u64 z) := H3.out.1.ob.at_ 9 _ rfl
  go_upto_region 4 with (go_at_call 84; ((with_reducible refine (CFL.out _).mono ?_); rintro e w4 ⟨rfl, b4⟩))
  have h4 := H3.out.1.new b4
  have HK4 := Lib.hid (And.intro (Kp.to HK1.out (Kp.of b4)) (Kp.to H3.out.2 (Kp.of b4)))
  clear x9 hx0 hx1
  have hd4 : Below w4.heap.size w4 w4.drew := (Below.refl _ _).drew
  have h5 := h4.new hd4
  have C4 := Lib.hid (h5.casT (a := 8) (z := z) (is := flushf z d) ⟨by decide, by decide⟩ (isU_flush z d HV.out.2.2.2.1) (by have := HV.out.1; omega) HV.out.2.1)
  have y0 : w4.drew.cell? ⟨w.heap.size, 0, none⟩ = some (.pointer (some ⟨q, 0, none⟩)) := fl_up hd4 (hKB.out _ HK4.out.1)
  have y1 : w4.drew.cell? ⟨A.p, 0, none⟩ = some (.pointer (some ⟨A.pc, 0, none⟩)) := h5.box.c0
  have y9 : w4.drew.cell? ⟨q, 9, none⟩ = some (.int .u64 z) := h5.ob.at_ 9 _ rfl
  have HK5 := Lib.hid (And.intro (Kp.to HK4.out.1 (Kp.of hd4)) (Kp.to HK4.out.2 (Kp.of hd4)))
  rw [HV1.out] at C4
  clear HV1
  generalize flushf z d = fz at *
  clear b4 h4 h5 hd4
  go_region_held3 (fun X => X.cell? ⟨w.heap.size, 0, none⟩ = some (.pointer (some ⟨q, 0, none⟩)) ∧ X.cell? ⟨A.p, 0, none⟩ = some (.pointer (some ⟨A.pc, 0, none⟩)) ∧ X.cell? ⟨q, 9, none⟩ = some (.int .u64 z))
    (first | exact ⟨by assumption, by assumption, by assumption⟩)
    (first | (go_at_call 63; ((with_reducible refine C4.out.mono ?_); rintro e w6 ⟨rfl, h6, k6⟩; clear y0 y1 y9; have y0 := hKB.out _ (Kp.to HK5.out.1 k6); have y1 : w6.cell? ⟨A.p, 0, none⟩ = some (.pointer (some ⟨A.pc, 0, none⟩)) := h6.box.c0; have y9 : w6.cell? ⟨q, 9, none⟩ = some (.int .u64 z) := h6.ob.at_ 9 _ rfl; have H6 := Lib.hid h6; have K6 := Lib.hid (And.intro (Kp.to HK5.out.1 k6) (Kp.to HK5.out.2 (k6.less (fun j g => .inl g)))); clear h6 k6)))
  clear y1 y9 C4
  have x1 : w6.cell? ⟨q, 1, none⟩ = some (.int .u8 0) := H6.out.ob.at_ 1 _ rfl
  have z1 : w6.frozen? ⟨q, 1, none⟩ = false := H6.out.ob.fz 1 (by show 1 < 11; decide)
  obtain ⟨h7, k7⟩ := H6.out.set 1 (.int .u8 10) (by show 1 < 11; decide) (C' := flC nx 10 z 0) rfl
  have H7 := Lib.hid h7
  have K7 := Lib.hid (And.intro (Kp.to K6.out.1 k7) (Kp.to K6.out.2 (k7.less (fun j g => .inl g))))
  clear h7 k7 H6 K6
  go_upto_region 8 with (fail)
  generalize hW7 : World.setCell _ _ _ = W7 at *
  clear hW7 x1 z1 y0
  have hd7 : Below W7.heap.size W7 W7.drew := (Below.refl _ _).drew
  have h8 := H7.out.new hd7
  have CS := Lib.hid (op_stepsX h8 hc1)
  have y0 : W7.drew.cell? ⟨w.heap.size, 0, none⟩ = some (.pointer (some ⟨q, 0, none⟩)) := fl_up hd7 (hKB.out _ K7.out.1)
  have x10 : W7.drew.cell? ⟨q, 10, none⟩ = some (.int .i64 0) := h8.ob.at_ 10 _ rfl
  have z10 : W7.drew.frozen? ⟨q, 10, none⟩ = false := h8.ob.fz 10 (by show 10 < 11; decide)
  obtain ⟨h9, k9⟩ := H7.out.set 10 (.int .i64 c) (by show 10 < 11; decide) (C' := flC nx 10 z c) rfl
  have hd9 : Below (W7.setCell ⟨q, 10, none⟩ (.int .i64 c)).heap.size (W7.setCell ⟨q, 10, none⟩ (.int .i64 c)) (W7.setCell ⟨q, 10, none⟩ (.int .i64 c)).drew := (Below.refl _ _).drew
  have H9 := Lib.hid (h9.new hd9)
  have K9 := Lib.hid (And.intro (Kp.to (Kp.to K7.out.1 k9) (Kp.of hd9)) (Kp.to (Kp.to K7.out.2 (k9.less (fun j g => .inl g))) (Kp.of hd9)))
  have y8 := hKB.out _ (Kp.to K7.out.1 k9)
  have y9 := hKB.out _ K9.out.1
  clear h8 h9 k9 H7 K7 hd7 hd9
  go_region_held3 (fun X => X.cell? ⟨w.heap.size, 0, none⟩ = some (.pointer (some ⟨q, 0, none⟩)))
    (first | assumption)
    (first | (go_at_call 51; ((with_reducible refine CS.out.mono ?_); rintro e w8 ⟨rfl, rfl⟩)))
  generalize hW9 : World.drew (World.setCell W7 _ _) = W9 at *
  clear hW9 x10 z10 y0 y8 CS
  go_upto_region 10 with (go_at_call 86; ((with_reducible refine (newGive _).mono ?_); rintro e w10 ⟨rfl, o10, b10⟩; have H10 := Lib.hid (And.intro o10 b10); clear o10 b10))
  generalize hW11 : World.alloc w10 _ = W11
  have b11 : Below w10.heap.size w10 W11 := by rw [← hW11]; exact fl_bs (Below.refl _ _)
  have l11 : w10.heap.size < W11.heap.size := by rw [← hW11]; simp
  have e8 : W11.cell? ⟨w10.heap.size, 0, none⟩ = some (.pointer (some ⟨W9.heap.size, 0, none⟩)) := by rw [← hW11]; exact fl_new rfl rfl
  have h11 := (H9.out.addq (b := W9.heap.size) H10.out.2 (Nat.le_refl _) H10.out.1.lt).addq (b := w10.heap.size) b11 (Nat.le_refl _) l11
  have og := H10.out.1.new b11
  have hb9 := below_then H10.out.2 b11
  have y0 := fl_up hb9 y9
  have q0 : W11.cell? ⟨q, 0, none⟩ = some nx := h11.ob.at_ 0 _ rfl
  have z0 : W11.frozen? ⟨q, 0, none⟩ = false := h11.ob.fz 0 (by show 0 < 11; decide)
  obtain ⟨h12, k12⟩ := h11.set 0 (clo3 w10.heap.size w.heap.size) (by show 0 < 11; decide) (C' := flC (clo3 w10.heap.size w.heap.size) 10 z c) rfl
  have H12 := Lib.hid (And.intro h12 (And.intro k12 (And.intro e8 (And.intro y0 (And.intro og (And.intro hb9 l11))))))
  have hs9 := K9.out.1.size
  have hsd := HB.out.2
  have hg10 := H10.out.1.lt
  have hb11 := b11.size
  have k12s := k12.size
  clear hW11 b11 e8 h11 og y9 h12 k12 y0 hb9
  have y0 := H12.out.2.2.2.1
  go_wp2_with fail
  go_end0
  exact ⟨rfl, W9.heap.size, w10.heap.size, w.heap.size, H12.out.1, ob_kp H12.out.2.2.2.2.1 H12.out.2.1 (.inl (.inr rfl)), H12.out.2.1.cell (p := ⟨w10.heap.size, 0, none⟩) (fun n => n (.inr rfl)) H12.out.2.2.1, H12.out.2.1.cell (p := ⟨w.heap.size, 0, none⟩) (fun n => n (.inl (.inl (.inr rfl)))) H12.out.2.2.2.1, ⟨Nat.le_refl _, by omega, hg10, Nat.lt_of_lt_of_le H12.out.2.2.2.2.2.2 k12s⟩, Kp.to (Kp.to K9.out.2 (Kp.of H12.out.2.2.2.2.2.1)) (H12.out.2.1.less (fun j g => .inl (.inl (.inl g))))⟩
set_option maxHeartbeats 1000000 in
set_option maxRecDepth 100000 in
theorem fl_flN (h : Opw G w A V q (flC nx 0 0 0)) (hc : V.cnt < 100000000) (hz : V.f 8 = z) (hf : flushes z = false) (hct : V.cnt + 1 = c) {V1 : Wv} (hV1 : V.acc V.f 1 8 z z = V1) :
    Calls Tryz.prog 38 #[.pointer (some ⟨q, 0, none⟩), .pointer (some ⟨A.p, 0, none⟩), .int .i64 d] w (FlR G w A V1 q 5 z c) := by
  have hzu : isU z := by rw [← hz]; exact h.rng ⟨by decide, by decide⟩
  have CFL := Lib.hid (fun W => flushw z d W hzu.1 (by have := hzu.2; omega))
  rw [hf] at CFL
  have HV := Lib.hid (And.intro hc (And.intro hz (And.intro hct (And.intro hzu hf))))
  have H0 := Lib.hid h
  have hc1 : V1.cnt = c := by rw [← hV1]; exact hct
  have HV1 := Lib.hid hV1
  clear h hc hz hf hct hzu hV1
  go_enter Tryz.func38, Tryz.ntmps38
  go_upto_region 1 with (fail)
  generalize hW1 : World.alloc w _ = W1
  have b1 : Below w.heap.size w W1 := by rw [← hW1]; exact fl_bs (Below.refl _ _)
  have s1 : W1.heap.size = w.heap.size + 1 := by rw [← hW1]; simp
  have e5 : W1.cell? ⟨w.heap.size, 0, none⟩ = some (.pointer (some ⟨q, 0, none⟩)) := by rw [← hW1]; exact fl_new rfl rfl
  obtain ⟨b5, hb5⟩ : ∃ b5, b5 = w.heap.size := ⟨_, rfl⟩
  rw [← hb5] at e5 s1
  have h1 := H0.out.addq (b := b5) b1 (by omega) (by omega)
  have hd1 : Below W1.heap.size W1 W1.drew := (Below.refl _ _).drew
  have h2 := h1.new hd1
  have K2 : Kp G w W1.drew := Kp.of (below_then b1 hd1)
  have HB := Lib.hid (And.intro hb5 s1)
  have x0 : W1.drew.cell? ⟨b5, 0, none⟩ = some (.pointer (some ⟨q, 0, none⟩)) := fl_up hd1 e5
  have x1 : W1.drew.cell? ⟨A.p, 0, none⟩ = some (.pointer (some ⟨A.pc, 0, none⟩)) := h2.box.c0
  have x2 : W1.drew.cell? ⟨q, 9, none⟩ = some (.int .u64 0) := h2.ob.at_ 9 _ rfl
  have x3 : W1.drew.frozen? ⟨q, 9, none⟩ = false := h2.ob.fz 9 (by show 9 < 11; decide)
  have CP := Lib.hid (h2.peek (a := 8) ⟨by decide, by decide⟩)
  rw [HV.out.2.1] at CP
  obtain ⟨h3, k3⟩ := h1.set 9 (.int .u64 z) (by show 9 < 11; decide) (C' := flC nx 0 z 0) rfl
  have hd3 : Below (W1.setCell ⟨q, 9, none⟩ (.int .u64 z)).heap.size (W1.setCell ⟨q, 9, none⟩ (.int .u64 z)) (W1.setCell ⟨q, 9, none⟩ (.int .u64 z)).drew := (Below.refl _ _).drew
  have H3 := Lib.hid (And.intro (h3.new hd3) (Kp.to (Kp.to (Kp.of b1) (k3.less (fun j g => .inl g))) (Kp.of hd3)))
  have B5 := Lib.hid (fl_up (w := W1) hd1 e5)
  have hKB : Hid (∀ X, Kp (fun j => G j ∨ j = b5) W1 X → X.cell? ⟨b5, 0, none⟩ = some (.pointer (some ⟨q, 0, none⟩))) := Lib.hid (fun X hk => hk.cell (p := ⟨b5, 0, none⟩) (fun n => n (.inr rfl)) e5)
  have HK1 := Lib.hid (Kp.to k3 (Kp.of (G := fun j => G j ∨ j = b5) hd3))
  have hy0 := hKB.out _ k3
  subst hb5
  have hx0 : (W1.setCell ⟨q, 9, none⟩ (.int .u64 z)).drew.cell? ⟨w.heap.size, 0, none⟩ = some (.pointer (some ⟨q, 0, none⟩)) := hKB.out _ HK1.out
  have hx1 : (W1.setCell ⟨q, 9, none⟩ (.int .u64 z)).drew.cell? ⟨A.p, 0, none⟩ = some (.pointer (some ⟨A.pc, 0, none⟩)) := h3.box.c0
  clear hW1 b1 s1 e5 h1 hd1 h2 K2 h3 k3 hd3 hy0
  go_region_held3 (fun X => X.cell? ⟨w.heap.size, 0, none⟩ = some (.pointer (some ⟨q, 0, none⟩)) ∧ X.cell? ⟨A.p, 0, none⟩ = some (.pointer (some ⟨A.pc, 0, none⟩)))
    (first | exact ⟨by assumption, by assumption⟩)
    (first | (go_at_call 21; ((with_reducible refine CP.out.mono ?_); rintro e w2 ⟨rfl, rfl⟩)))
  generalize hW3 : World.drew (World.setCell W1 _ _) = W3 at *
  clear hW3 x0 x1 x2 x3 CP
  have x9 : W3.cell? ⟨q, 9, none⟩ = some (.int .u64 z) := H3.out.1.ob.at_ 9 _ rfl
  go_upto_region 6 with (go_at_call 84; ((with_reducible refine (CFL.out _).mono ?_); rintro e w4 ⟨rfl, b4⟩))
  have h4 := H3.out.1.new b4
  have HK5 := Lib.hid (And.intro (Kp.to HK1.out (Kp.of b4)) (Kp.to H3.out.2 (Kp.of b4)))
  clear x9 hx0 hx1
  have C4 := Lib.hid (h4.load (a := 8) ⟨by decide, by decide⟩ (by have := HV.out.1; omega))
  rw [HV.out.2.1] at C4
  have y0 : w4.cell? ⟨w.heap.size, 0, none⟩ = some (.pointer (some ⟨q, 0, none⟩)) := hKB.out _ HK5.out.1
  have y1 : w4.cell? ⟨A.p, 0, none⟩ = some (.pointer (some ⟨A.pc, 0, none⟩)) := h4.box.c0
  rw [HV1.out] at C4
  clear HV1 b4 h4
  go_upto_region 7 with (go_at_call 85; ((with_reducible refine C4.out.mono ?_); rintro e w6 ⟨rfl, h6, k6⟩; clear y0 y1; have y0 := hKB.out _ (Kp.to HK5.out.1 k6); have H6 := Lib.hid h6; have K6 := Lib.hid (And.intro (Kp.to HK5.out.1 k6) (Kp.to HK5.out.2 (k6.less (fun j g => .inl g)))); clear h6 k6))
  clear C4
  have x1 : w6.cell? ⟨q, 1, none⟩ = some (.int .u8 0) := H6.out.ob.at_ 1 _ rfl
  have z1 : w6.frozen? ⟨q, 1, none⟩ = false := H6.out.ob.fz 1 (by show 1 < 11; decide)
  obtain ⟨h7, k7⟩ := H6.out.set 1 (.int .u8 5) (by show 1 < 11; decide) (C' := flC nx 5 z 0) rfl
  have H7 := Lib.hid h7
  have K7 := Lib.hid (And.intro (Kp.to K6.out.1 k7) (Kp.to K6.out.2 (k7.less (fun j g => .inl g))))
  clear h7 k7 H6 K6
  go_upto_region 8 with (fail)
  generalize hW7 : World.setCell _ _ _ = W7 at *
  clear hW7 x1 z1 y0
  have hd7 : Below W7.heap.size W7 W7.drew := (Below.refl _ _).drew
  have h8 := H7.out.new hd7
  have CS := Lib.hid (op_stepsX h8 hc1)
  have y0 : W7.drew.cell? ⟨w.heap.size, 0, none⟩ = some (.pointer (some ⟨q, 0, none⟩)) := fl_up hd7 (hKB.out _ K7.out.1)
  have x10 : W7.drew.cell? ⟨q, 10, none⟩ = some (.int .i64 0) := h8.ob.at_ 10 _ rfl
  have z10 : W7.drew.frozen? ⟨q, 10, none⟩ = false := h8.ob.fz 10 (by show 10 < 11; decide)
  obtain ⟨h9, k9⟩ := H7.out.set 10 (.int .i64 c) (by show 10 < 11; decide) (C' := flC nx 5 z c) rfl
  have hd9 : Below (W7.setCell ⟨q, 10, none⟩ (.int .i64 c)).heap.size (W7.setCell ⟨q, 10, none⟩ (.int .i64 c)) (W7.setCell ⟨q, 10, none⟩ (.int .i64 c)).drew := (Below.refl _ _).drew
  have H9 := Lib.hid (h9.new hd9)
  have K9 := Lib.hid (And.intro (Kp.to (Kp.to K7.out.1 k9) (Kp.of hd9)) (Kp.to (Kp.to K7.out.2 (k9.less (fun j g => .inl g))) (Kp.of hd9)))
  have y8 := hKB.out _ (Kp.to K7.out.1 k9)
  have y9 := hKB.out _ K9.out.1
  clear h8 h9 k9 H7 K7 hd7 hd9
  go_region_held3 (fun X => X.cell? ⟨w.heap.size, 0, none⟩ = some (.pointer (some ⟨q, 0, none⟩)))
    (first | assumption)
    (first | (go_at_call 51; ((with_reducible refine CS.out.mono ?_); rintro e w8 ⟨rfl, rfl⟩)))
  generalize hW9 : World.drew (World.setCell W7 _ _) = W9 at *
  clear hW9 x10 z10 y0 y8 CS
  go_upto_region 10 with (go_at_call 86; ((with_reducible refine (newGive _).mono ?_); rintro e w10 ⟨rfl, o10, b10⟩; have H10 := Lib.hid (And.intro o10 b10); clear o10 b10))
  generalize hW11 : World.alloc w10 _ = W11
  have b11 : Below w10.heap.size w10 W11 := by rw [← hW11]; exact fl_bs (Below.refl _ _)
  have l11 : w10.heap.size < W11.heap.size := by rw [← hW11]; simp
  have e8 : W11.cell? ⟨w10.heap.size, 0, none⟩ = some (.pointer (some ⟨W9.heap.size, 0, none⟩)) := by rw [← hW11]; exact fl_new rfl rfl
  have h11 := (H9.out.addq (b := W9.heap.size) H10.out.2 (Nat.le_refl _) H10.out.1.lt).addq (b := w10.heap.size) b11 (Nat.le_refl _) l11
  have og := H10.out.1.new b11
  have hb9 := below_then H10.out.2 b11
  have y0 := fl_up hb9 y9
  have q0 : W11.cell? ⟨q, 0, none⟩ = some nx := h11.ob.at_ 0 _ rfl
  have z0 : W11.frozen? ⟨q, 0, none⟩ = false := h11.ob.fz 0 (by show 0 < 11; decide)
  obtain ⟨h12, k12⟩ := h11.set 0 (clo3 w10.heap.size w.heap.size) (by show 0 < 11; decide) (C' := flC (clo3 w10.heap.size w.heap.size) 5 z c) rfl
  have H12 := Lib.hid (And.intro h12 (And.intro k12 (And.intro e8 (And.intro y0 (And.intro og (And.intro hb9 l11))))))
  have hs9 := K9.out.1.size
  have hsd := HB.out.2
  have hg10 := H10.out.1.lt
  have hb11 := b11.size
  have k12s := k12.size
  clear hW11 b11 e8 h11 og y9 h12 k12 y0 hb9
  have y0 := H12.out.2.2.2.1
  go_wp2_with fail
  go_end0
  exact ⟨rfl, W9.heap.size, w10.heap.size, w.heap.size, H12.out.1, ob_kp H12.out.2.2.2.2.1 H12.out.2.1 (.inl (.inr rfl)), H12.out.2.1.cell (p := ⟨w10.heap.size, 0, none⟩) (fun n => n (.inr rfl)) H12.out.2.2.1, H12.out.2.1.cell (p := ⟨w.heap.size, 0, none⟩) (fun n => n (.inl (.inl (.inr rfl)))) H12.out.2.2.2.1, ⟨Nat.le_refl _, by omega, hg10, Nat.lt_of_lt_of_le H12.out.2.2.2.2.2.2 k12s⟩, Kp.to (Kp.to K9.out.2 (Kp.of H12.out.2.2.2.2.2.1)) (H12.out.2.1.less (fun j g => .inl (.inl (.inl g))))⟩
end
end Go.Proofs.YtaipbagnkjmddaaGreat
/- Next: Flushes: the program's; step by step. -/
namespace Go.Proofs.YtaipbagnkjmddaaGreat
open Go.RowKit Go.Maps
set_option linter.unusedVariables false
section
variable {G G' : Nat → Prop} {w W : World} {A : Ad} {V V1 : Wv} {q b : Nat} {d z c k u tick s : Int} {C : List Value}
theorem fl_keep {U : Nat → Prop} (h : WdG G w A V) (hk : Keeps U w W) (hU : ∀ k, U k → G k) : WdG G W A V := by
  obtain ⟨S, h1, h2, h3⟩ := h
  exact ⟨S, h1.keep hk (fun k s u => h2 k (hU k u) s), h2, fun k g => Nat.lt_of_lt_of_le (h3 k g) hk.size⟩
theorem fl_wd (h : Opw G w A V q C) : WdG G w A V := by
  obtain ⟨S, h1, h2, h3, h4, h5, h6⟩ := h
  exact ⟨S, h1, h2, h6⟩
theorem fl_lessW (h : WdG G w A V) (hG : ∀ k, G' k → G k) : WdG G' w A V := by
  obtain ⟨S, h1, h2, h3⟩ := h
  exact ⟨S, h1, fun k g => h2 k (hG k g), fun k g => h3 k (hG k g)⟩
theorem fl_lessO (h : Opw G w A V q C) (hG : ∀ k, G' k → G k) : Opw G' w A V q C := by
  obtain ⟨S, h1, h2, h3, h4, h5, h6⟩ := h
  exact ⟨S, h1, fun k g => h2 k (hG k g), h3, h4, fun g => h5 (hG q g), fun k g => h6 k (hG k g)⟩
theorem fl_addN (h : WdG G w A V) (hb : Below w.heap.size w W) : WdG (fun k => G k ∨ (w.heap.size ≤ k ∧ k < W.heap.size)) W A V := by
  obtain ⟨S, h1, h2, h3⟩ := h
  refine ⟨S, h1.new hb, fun k g s => ?_, fun k g => ?_⟩
  · rcases g with g | g
    · exact h2 k g s
    · have := h1.lt _ s; omega
  · rcases g with g | g
    · exact Nat.lt_of_lt_of_le (h3 k g) hb.size
    · exact g.2
theorem fl_of (h : WdG G' w A V) (ho : Ob w q C) (hq : G' q) (hG : ∀ k, G k → G' k) (hn : ¬ G q) : Opw G w A V q C := by
  obtain ⟨S, h1, h2, h3⟩ := h
  exact ⟨S, h1, fun k g => h2 k (hG k g), h2 q hq, ho, hn, fun k g => h3 k (hG k g)⟩
/-- What is kept of one whose Take goes on: C, the Take's cells. -/
def FlA (G : Nat → Prop) (w : World) (A : Ad) (V : Wv) (q : Nat) (d : Int) (C : Nat → List Value) : Prop := ∃ p b6 b5 b3, Opw (fun j => (((G j ∨ j = q) ∨ j = b6) ∨ j = b5) ∨ j = b3) w A V p (C p) ∧ Ob w q (flC (clo1 b6 b5 b3) 0 0 0) ∧ (w.cell? ⟨b6, 0, none⟩ = some (.pointer (some ⟨p, 0, none⟩)) ∧ w.cell? ⟨b5, 0, none⟩ = some (.pointer (some ⟨q, 0, none⟩)) ∧ w.cell? ⟨b3, 0, none⟩ = some (.int .i64 d)) ∧ (b6 ≠ q ∧ b5 ≠ q ∧ b3 ≠ q) ∧ ¬ G q
/-- One that flushes next. -/
def FlB (G : Nat → Prop) (w : World) (A : Ad) (V : Wv) (q : Nat) (d : Int) : Prop := ∃ b5 b3, WdG (fun j => ((G j ∨ j = q) ∨ j = b5) ∨ j = b3) w A V ∧ Ob w q (flC (clo2 b5 b3) 0 0 0) ∧ (w.cell? ⟨b5, 0, none⟩ = some (.pointer (some ⟨q, 0, none⟩)) ∧ w.cell? ⟨b3, 0, none⟩ = some (.int .i64 d)) ∧ (b5 ≠ q ∧ b3 ≠ q) ∧ ¬ G q
/-- One that gives the lock back next. -/
def FlG (G : Nat → Prop) (w : World) (A : Ad) (V : Wv) (q : Nat) (k z c : Int) : Prop := ∃ g b8 b5, Opw (fun j => ((G j ∨ j = q) ∨ j = b8) ∨ j = b5) w A V g [mV 118 g] ∧ Ob w q (flC (clo3 b8 b5) k z c) ∧ (w.cell? ⟨b8, 0, none⟩ = some (.pointer (some ⟨g, 0, none⟩)) ∧ w.cell? ⟨b5, 0, none⟩ = some (.pointer (some ⟨q, 0, none⟩))) ∧ (b8 ≠ q ∧ b5 ≠ q) ∧ ¬ G q
/-- One that is over. -/
def FlD (G : Nat → Prop) (w : World) (A : Ad) (V : Wv) (q : Nat) (k z c : Int) : Prop := WdG (fun j => G j ∨ j = q) w A V ∧ Ob w q (flC .nilFunc k z c) ∧ ¬ G q
theorem fl_begin {t : Int} {e : Ending} (h : WdG G w A V) (hn : NwFl t d w e W) : ∃ q, e = .returned (.pointer (some ⟨q, 0, none⟩)) ∧ FlA G W A V q d (fun p => tkC t 0 false (mV 83 p)) ∧ w.heap.size ≤ q ∧ Below w.heap.size w W := by
  obtain ⟨q, p, b6, b5, b3, he, ho, hp, ⟨c6, c5, c3⟩, ⟨l1, l2, l3, l4, l5, l6⟩, hb⟩ := hn
  have hlt : ∀ k, G k → k < w.heap.size := by obtain ⟨S, h1, h2, h3⟩ := h; exact h3
  refine ⟨q, he, ⟨p, b6, b5, b3, fl_of (fl_addN h hb) hp (.inr ⟨by omega, by omega⟩) (fun k g => ?_) (fun g => ?_), ho, ⟨c6, c5, c3⟩, ⟨by omega, by omega, by omega⟩, fun g => ?_⟩, by omega, hb⟩
  · rcases g with (((g | rfl) | rfl) | rfl) | rfl
    · exact .inl g
    all_goals exact .inr ⟨by omega, by omega⟩
  · rcases g with (((g | rfl) | rfl) | rfl) | rfl
    · have := hlt _ g; omega
    all_goals omega
  · have := hlt _ g; omega
theorem fl_stepA {P : Wv} {C C' : Nat → List Value} (h : FlA G w A V q d C) (hs : ∀ (G' : Nat → Prop) p, Opw G' w A V p (C p) → Calls Tryz.prog 36 #[.pointer (some ⟨p, 0, none⟩), .pointer (some ⟨A.p, 0, none⟩)] w (OpP G' w A P p (C' p) false)) :
    Calls Tryz.prog 14 #[.pointer (some ⟨q, 0, none⟩), .pointer (some ⟨A.p, 0, none⟩)] w fun e w' => e = .returned (.bool false) ∧ FlA G w' A P q d C' ∧ Kp G w w' := by
  obtain ⟨p, b6, b5, b3, hop, ho, ⟨c6, c5, c3⟩, hne, hG⟩ := h
  refine fl_st1 (r := false) (P := fun w' => FlA G w' A P q d C' ∧ Kp G w w') ho (fl_c1n c6 ((hs _ p hop).mono ?_)) ?_
  · rintro e w' ⟨he, h', hk⟩
    exact ⟨he, ⟨p, b6, b5, b3, h', ob_kp ho hk (.inl (.inl (.inl (.inr rfl)))), ⟨hk.cell (p := ⟨b6, 0, none⟩) (fun n => n (.inl (.inl (.inr rfl)))) c6, hk.cell (p := ⟨b5, 0, none⟩) (fun n => n (.inl (.inr rfl))) c5, hk.cell (p := ⟨b3, 0, none⟩) (fun n => n (.inr rfl)) c3⟩, hne, hG⟩, hk.less (fun j g => .inl (.inl (.inl (.inl g))))⟩
  · rintro w' ⟨⟨p', b6', b5', b3', h', ho', -⟩, -⟩
    exact fl_overn ho'
theorem fl_stepB {P : Wv} {C C' : Nat → List Value} (h : FlA G w A V q d C) (hs : ∀ (G' : Nat → Prop) p, Opw G' w A V p (C p) → Calls Tryz.prog 36 #[.pointer (some ⟨p, 0, none⟩), .pointer (some ⟨A.p, 0, none⟩)] w (OpP G' w A P p (C' p) true)) :
    Calls Tryz.prog 14 #[.pointer (some ⟨q, 0, none⟩), .pointer (some ⟨A.p, 0, none⟩)] w fun e w' => e = .returned (.bool false) ∧ FlB G w' A P q d ∧ Kp G w w' := by
  obtain ⟨p, b6, b5, b3, hop, ho, ⟨c6, c5, c3⟩, ⟨n6, n5, n3⟩, hG⟩ := h
  refine fl_st1 (r := false) (P := fun w' => FlB G w' A P q d ∧ Kp G w w') ho ((fl_c1y (q := q) (nx := clo1 b6 b5 b3) (k := 0) (ep := 0) (pt := 0) (P := fun w' => Opw (fun j => (((G j ∨ j = q) ∨ j = b6) ∨ j = b5) ∨ j = b3) w' A P p (C' p) ∧ Kp (fun j => (((G j ∨ j = q) ∨ j = b6) ∨ j = b5) ∨ j = b3) w w') c6 ((hs _ p hop).mono ?_) ?_).mono ?_) ?_
  · rintro e w' ⟨he, h', hk⟩
    exact ⟨he, h', hk⟩
  · rintro w' ⟨h', hk⟩
    exact ⟨hk.cell (p := ⟨b5, 0, none⟩) (fun n => n (.inl (.inr rfl))) c5, ob_kp ho hk (.inl (.inl (.inl (.inr rfl))))⟩
  · rintro e w'' ⟨he, w', ⟨h', hk⟩, rfl⟩
    have ks : Keeps (fun j => j = q) w' (w'.setCell ⟨q, 0, none⟩ (clo2 b5 b3)) := Keeps.setCell (S := fun j => j = q) (Keeps.refl _ w') (p := ⟨q, 0, none⟩) (.inl rfl) _
    have ho' := ob_kp ho hk (.inl (.inl (.inl (.inr rfl))))
    refine ⟨he, ⟨b5, b3, fl_lessW (fl_keep (fl_wd h') ks (fun k e => e ▸ .inl (.inl (.inl (.inr rfl))))) (fun k g => ?_), ho'.set 0 _ (by show 0 < 11; decide) rfl, ⟨ks.cell (p := ⟨b5, 0, none⟩) n5 (hk.cell (p := ⟨b5, 0, none⟩) (fun n => n (.inl (.inr rfl))) c5), ks.cell (p := ⟨b3, 0, none⟩) n3 (hk.cell (p := ⟨b3, 0, none⟩) (fun n => n (.inr rfl)) c3)⟩, ⟨n5, n3⟩, hG⟩, Kp.to (hk.less (fun j g => .inl (.inl (.inl (.inl g))))) (ks.mono (fun j _ e g => hG (e ▸ g)))⟩
    rcases g with ((g | rfl) | rfl) | rfl
    · exact .inl (.inl (.inl (.inl g)))
    · exact .inl (.inl (.inl (.inr rfl)))
    · exact .inl (.inr rfl)
    · exact .inr rfl
  · rintro w' ⟨⟨b5', b3', h', ho', -⟩, -⟩
    exact fl_overn ho'
theorem fl_stepC (h : FlB G w A V q d) (hs : ∀ (G' : Nat → Prop) nx, Opw G' w A V q (flC nx 0 0 0) → Calls Tryz.prog 38 #[.pointer (some ⟨q, 0, none⟩), .pointer (some ⟨A.p, 0, none⟩), .int .i64 d] w (FlR G' w A V1 q k z c)) :
    Calls Tryz.prog 14 #[.pointer (some ⟨q, 0, none⟩), .pointer (some ⟨A.p, 0, none⟩)] w fun e w' => e = .returned (.bool false) ∧ FlG G w' A V1 q k z c ∧ Kp G w w' := by
  obtain ⟨b5, b3, hw, ho, ⟨c5, c3⟩, ⟨n5, n3⟩, hG⟩ := h
  have hlt : ∀ k, G k → k < w.heap.size := by obtain ⟨S, h1, h2, h3⟩ := hw; exact fun k g => h3 k (.inl (.inl (.inl g)))
  have hql := ho.lt
  refine fl_st2 (r := false) (P := fun w' => FlG G w' A V1 q k z c ∧ Kp G w w') ho (fl_c2 c5 c3 ((hs G _ (fl_of hw ho (.inl (.inl (.inr rfl))) (fun k g => .inl (.inl (.inl g))) hG)).mono ?_)) ?_
  · rintro e w' ⟨he, g, b8, b5', h', og, d8, d5, ⟨l1, l2, l3, l4⟩, hk⟩
    refine ⟨he, ⟨g, b8, b5', fl_of h'.wdG og (.inl (.inl (.inr rfl))) (fun j hj => ?_) (fun hj => ?_), h'.ob, ⟨d8, d5⟩, ⟨by omega, by omega⟩, hG⟩, hk⟩
    · rcases hj with ((hj | rfl) | rfl) | rfl
      · exact .inl (.inl (.inl (.inl hj)))
      · exact .inr rfl
      · exact .inl (.inr rfl)
      · exact .inl (.inl (.inl (.inr rfl)))
    · rcases hj with ((hj | rfl) | rfl) | rfl
      · have := hlt _ hj; omega
      all_goals omega
  · rintro w' ⟨⟨g, b8', b5', h', ho', -⟩, -⟩
    exact fl_overn ho'
theorem fl_stepD {P : Wv} (h : FlG G w A V q k z c) (hs : ∀ (G' : Nat → Prop) g, Opw G' w A V g [mV 118 g] → Calls Tryz.prog 88 #[.pointer (some ⟨g, 0, none⟩), .pointer (some ⟨A.p, 0, none⟩)] w (OpP G' w A P g [.nilFunc] true)) :
    Calls Tryz.prog 14 #[.pointer (some ⟨q, 0, none⟩), .pointer (some ⟨A.p, 0, none⟩)] w fun e w' => e = .returned (.bool true) ∧ FlD G w' A P q k z c ∧ Kp G w w' := by
  obtain ⟨g, b8, b5, hop, ho, ⟨c8, c5⟩, ⟨n8, n5⟩, hG⟩ := h
  refine fl_st3 (r := true) (P := fun w' => FlD G w' A P q k z c ∧ Kp G w w') ho ((fl_c3 (q := q) (nx := clo3 b8 b5) (k := k) (ep := z) (pt := c) (r := true) (P := fun w' => Opw (fun j => ((G j ∨ j = q) ∨ j = b8) ∨ j = b5) w' A P g [.nilFunc] ∧ Kp (fun j => ((G j ∨ j = q) ∨ j = b8) ∨ j = b5) w w') c8 ((hs _ g hop).mono ?_) ?_).mono ?_) ?_
  · rintro e w' ⟨he, h', hk⟩
    exact ⟨he, h', hk⟩
  · rintro w' ⟨h', hk⟩
    exact ⟨hk.cell (p := ⟨b5, 0, none⟩) (fun n => n (.inr rfl)) c5, ob_kp ho hk (.inl (.inl (.inr rfl)))⟩
  · rintro e w'' ⟨he, w', ⟨h', hk⟩, rfl⟩
    have ks : Keeps (fun j => j = q) w' (w'.setCell ⟨q, 0, none⟩ .nilFunc) := Keeps.setCell (S := fun j => j = q) (Keeps.refl _ w') (p := ⟨q, 0, none⟩) (.inl rfl) _
    have ho' := ob_kp ho hk (.inl (.inl (.inr rfl)))
    refine ⟨he, ⟨fl_lessW (fl_keep (fl_wd h') ks (fun k e => e ▸ .inl (.inl (.inr rfl)))) (fun k g => .inl (.inl g)), ho'.set 0 _ (by show 0 < 11; decide) rfl, hG⟩, Kp.to (hk.less (fun j g => .inl (.inl (.inl g)))) (ks.mono (fun j _ e g => hG (e ▸ g)))⟩
  · rintro w' ⟨⟨h', ho', -⟩, -⟩
    exact fl_over ho'
theorem fl_s0 {n : Nat} (hn : n < 64) (h : FlA G w A V q d (fun p => tkC n 0 false (mV 83 p))) (hc : V.cnt < 1000000000) (hz : V.f 0 = z) (hu : IntKind.u64.wrap (z + 1) = u) :
    Calls Tryz.prog 14 #[.pointer (some ⟨q, 0, none⟩), .pointer (some ⟨A.p, 0, none⟩)] w fun e w' => e = .returned (.bool false) ∧ FlA G w' A ((V.acc (upd V.f 0 u) 4 0 z u).tkset n u) q d (fun p => tkC n z true (mV 116 p)) ∧ Kp G w w' :=
  fl_stepA (C' := fun p => tkC n z true (mV 116 p)) h (fun G' p hp => tk_step1 hn hp hc hz hu)
theorem fl_s1n {t : Int} (h : FlA G w A V q d (fun p => tkC t tick true (mV 116 p))) (hc : V.cnt < 1000000000) (hs : V.f 1 = s) (hn : (s != tick) = true) :
    Calls Tryz.prog 14 #[.pointer (some ⟨q, 0, none⟩), .pointer (some ⟨A.p, 0, none⟩)] w fun e w' => e = .returned (.bool false) ∧ FlA G w' A (V.acc V.f 1 1 s s) q d (fun p => tkC t tick true (mV 116 p)) ∧ Kp G w w' :=
  fl_stepA (C' := fun p => tkC t tick true (mV 116 p)) h (fun G' p hp => tk_step2n hp hc hs hn)
theorem fl_s1 {n : Nat} (hn : n < 64) (h : FlA G w A V q d (fun p => tkC n tick true (mV 116 p))) (hc : V.cnt < 1000000000) (hs : V.f 1 = tick) :
    Calls Tryz.prog 14 #[.pointer (some ⟨q, 0, none⟩), .pointer (some ⟨A.p, 0, none⟩)] w fun e w' => e = .returned (.bool false) ∧ FlB G w' A (((V.acc V.f 1 1 tick tick).tkset n 0).hset n) q d ∧ Kp G w w' :=
  fl_stepB (C' := fun p => tkC n tick true .nilFunc) h (fun G' p hp => tk_step2 hn hp hc hs)
/-- What the epoch's step does. -/
def flV (V : Wv) (z d : Int) : Wv := if flushes z then V.acc (upd V.f 8 (flushf z d)) 3 8 z (flushf z d) else V.acc V.f 1 8 z z
def flK (z : Int) : Int := if flushes z then 10 else 5
theorem fl_s2 (h : FlB G w A V q d) (hc : V.cnt < 100000000) (hz : V.f 8 = z) (hct : V.cnt + 1 = c) :
    Calls Tryz.prog 14 #[.pointer (some ⟨q, 0, none⟩), .pointer (some ⟨A.p, 0, none⟩)] w fun e w' => e = .returned (.bool false) ∧ FlG G w' A (flV V z d) q (flK z) z c ∧ Kp G w w' := by
  cases hf : flushes z with
  | true =>
    have e1 : flV V z d = V.acc (upd V.f 8 (flushf z d)) 3 8 z (flushf z d) := by unfold flV; rw [hf]; rfl
    have e2 : flK z = 10 := by unfold flK; rw [hf]; rfl
    rw [e2]
    exact fl_stepC h (fun G' nx hp => fl_flY hp hc hz hf hct e1.symm)
  | false =>
    have e1 : flV V z d = V.acc V.f 1 8 z z := by unfold flV; rw [hf]; rfl
    have e2 : flK z = 5 := by unfold flK; rw [hf]; rfl
    rw [e2]
    exact fl_stepC h (fun G' nx hp => fl_flN hp hc hz hf hct e1.symm)
theorem fl_s3 (h : FlG G w A V q k z c) (hc : V.cnt < 1000000000) (hs : V.f 1 = s) (hu : IntKind.u64.wrap (s + 1) = u) :
    Calls Tryz.prog 14 #[.pointer (some ⟨q, 0, none⟩), .pointer (some ⟨A.p, 0, none⟩)] w fun e w' => e = .returned (.bool true) ∧ FlD G w' A ((V.acc (upd V.f 1 u) 4 1 s u).hset (-1)) q k z c ∧ Kp G w w' :=
  fl_stepD h (fun G' g hp => gv_step hp hc hs hu)
end
end Go.Proofs.YtaipbagnkjmddaaGreat
/- Next: Flushes: the program's; what is told. -/
namespace Go.Proofs.YtaipbagnkjmddaaGreat
open Go.RowKit Go.Maps
set_option linter.unusedVariables false
section
variable {w : World} {q : Nat} {k z c : Int}
def anV (k : Int) : Value := .agg #[.int .u8 k, .int .u64 0, .string ⟨#[]⟩, .string ⟨#[]⟩, .int .u32 0, .int .u64 0, .int .i64 0, .int .i64 0]
theorem fl_got_nil (w : World) : Calls Tryz.prog 17 #[.pointer none] w fun e w' => e = .returned (.tuple #[anV 0, .int .u64 0, .int .i64 0]) ∧ Below w.heap.size w w' := by
  go_enter Tryz.func17, Tryz.ntmps17
  go_wp2_with fail
  refine bodyPost_ret (v := .tuple #[.agg #[.int .u8 0, .int .u64 0, .string ⟨#[]⟩, .string ⟨#[]⟩, .int .u32 0, .int .u64 0, .int .i64 0, .int .i64 0], .int .u64 0, .int .i64 0]) (by simp [results, Tryz.results17, go_sem]) rfl ⟨rfl, ?_⟩
  exact (Below.refl w.heap.size w).alloc (Nat.le_refl _) _
theorem fl_got_no {f : FuncId} {C : Array Value} (h : Ob w q (flC (.func (.func f) #[] C) k z c)) : Calls Tryz.prog 17 #[.pointer (some ⟨q, 0, none⟩)] w fun e w' => e = .returned (.tuple #[anV 0, .int .u64 0, .int .i64 0]) ∧ Below w.heap.size w w' := by
  have CO := Lib.hid (fun W (hb : Below w.heap.size w W) => fl_overn (h.new hb))
  clear h
  go_enter Tryz.func17, Tryz.ntmps17
  go_wp2_with (go_at_call 18; ((with_reducible refine (CO.out _ (fl_bs (Below.refl _ _))).mono ?_); rintro e w2 ⟨rfl, rfl⟩))
  refine bodyPost_ret (v := .tuple #[.agg #[.int .u8 0, .int .u64 0, .string ⟨#[]⟩, .string ⟨#[]⟩, .int .u32 0, .int .u64 0, .int .i64 0, .int .i64 0], .int .u64 0, .int .i64 0]) (by simp [results, Tryz.results17, go_sem]) rfl ⟨rfl, ?_⟩
  exact (Below.refl w.heap.size w).alloc (Nat.le_refl _) _
set_option maxHeartbeats 1000000 in
set_option maxRecDepth 100000 in
theorem fl_got (h : Ob w q (flC .nilFunc k z c)) : Calls Tryz.prog 17 #[.pointer (some ⟨q, 0, none⟩)] w fun e w' => e = .returned (.tuple #[anV k, .int .u64 z, .int .i64 c]) ∧ Below w.heap.size w w' := by
  have CO := Lib.hid (fun W (hb : Below w.heap.size w W) => fl_over (h.new hb))
  have KQ : Hid (∀ X, Below w.heap.size w X → X.cell? ⟨q, 1, none⟩ = some (.int .u8 k) ∧ X.cell? ⟨q, 2, none⟩ = some (.int .u64 0) ∧ X.cell? ⟨q, 3, none⟩ = some (.string ⟨#[]⟩) ∧ X.cell? ⟨q, 4, none⟩ = some (.string ⟨#[]⟩) ∧ X.cell? ⟨q, 5, none⟩ = some (.int .u32 0) ∧ X.cell? ⟨q, 6, none⟩ = some (.int .u64 0) ∧ X.cell? ⟨q, 7, none⟩ = some (.int .i64 0) ∧ X.cell? ⟨q, 8, none⟩ = some (.int .i64 0) ∧ X.cell? ⟨q, 9, none⟩ = some (.int .u64 z) ∧ X.cell? ⟨q, 10, none⟩ = some (.int .i64 c)) := Lib.hid (fun X hb => by
    have o := h.new hb
    exact ⟨o.at_ 1 _ rfl, o.at_ 2 _ rfl, o.at_ 3 _ rfl, o.at_ 4 _ rfl, o.at_ 5 _ rfl, o.at_ 6 _ rfl, o.at_ 7 _ rfl, o.at_ 8 _ rfl, o.at_ 9 _ rfl, o.at_ 10 _ rfl⟩)
  clear h
  go_enter Tryz.func17, Tryz.ntmps17
  go_upto_region 3 with (go_at_call 18; ((with_reducible refine (CO.out _ (fl_bs (Below.refl _ _))).mono ?_); rintro e w2 ⟨rfl, rfl⟩))
  obtain ⟨x1, x2, x3, x4, x5, x6, x7, x8, x9, x10⟩ := KQ.out _ (show Below w.heap.size w (w.alloc (Obj.cells #[.int .u8 0, .int .u64 0, .string ⟨#[]⟩, .string ⟨#[]⟩, .int .u32 0, .int .u64 0, .int .i64 0, .int .i64 0] 57)).drew from (fl_bs (Below.refl _ _)).drew)
  go_region_held3 (fun X => X.cell? ⟨q, 1, none⟩ = some (.int .u8 k) ∧ X.cell? ⟨q, 2, none⟩ = some (.int .u64 0) ∧ X.cell? ⟨q, 3, none⟩ = some (.string ⟨#[]⟩) ∧ X.cell? ⟨q, 4, none⟩ = some (.string ⟨#[]⟩) ∧ X.cell? ⟨q, 5, none⟩ = some (.int .u32 0) ∧ X.cell? ⟨q, 6, none⟩ = some (.int .u64 0) ∧ X.cell? ⟨q, 7, none⟩ = some (.int .i64 0) ∧ X.cell? ⟨q, 8, none⟩ = some (.int .i64 0) ∧ X.cell? ⟨q, 9, none⟩ = some (.int .u64 z) ∧ X.cell? ⟨q, 10, none⟩ = some (.int .i64 c))
    (first | exact ⟨by assumption, by assumption, by assumption, by assumption, by assumption, by assumption, by assumption, by assumption, by assumption, by assumption⟩ | exact KQ.out _ (fl_bs (Below.refl _ _)) | exact KQ.out _ (fl_bs (Below.refl _ _)).drew)
    (fail)
  all_goals
    go_wp2_with fail
    refine bodyPost_ret (v := .tuple #[.agg #[.int .u8 k, .int .u64 0, .string ⟨#[]⟩, .string ⟨#[]⟩, .int .u32 0, .int .u64 0, .int .i64 0, .int .i64 0], .int .u64 z, .int .i64 c]) (by simp [results, Tryz.results17, go_sem]) rfl ⟨rfl, ?_⟩
    first | exact fl_bs (Below.refl _ _) | exact (fl_bs (Below.refl _ _)).drew | trace_state
end
end Go.Proofs.YtaipbagnkjmddaaGreat
/- Next: Flushes: the program's; a Flush by itself. -/
namespace Go.Proofs.YtaipbagnkjmddaaGreat
open Go.RowKit Go.Maps
set_option linter.unusedVariables false
section
variable {G : Nat → Prop} {w W : World} {A : Ad} {V : Wv} {q : Nat} {k z c d T u : Int}
theorem flV_f (h1 : V.f 0 = T) (h2 : V.f 1 = u) : (flV V z d).f 0 = T ∧ (flV V z d).f 1 = u ∧ (V.f 8 = z → (flV V z d).f 8 = flushf z d) ∧ (flV V z d).cnt = V.cnt + 1 ∧ (flV V z d).h = V.h := by
  unfold flV
  cases hf : flushes z with
  | true =>
    refine ⟨?_, ?_, fun _ => ?_, rfl, rfl⟩
    · show upd V.f 8 (flushf z d) 0 = T
      rw [← h1]; rfl
    · show upd V.f 8 (flushf z d) 1 = u
      rw [← h2]; rfl
    · show upd V.f 8 (flushf z d) 8 = flushf z d
      rfl
  | false =>
    refine ⟨h1, h2, fun h8 => ?_, rfl, rfl⟩
    show V.f 8 = flushf z d
    rw [h8]
    unfold flushf
    unfold flushes at hf
    rw [if_neg (of_decide_eq_false hf)]
/-- What a Flush by itself leaves. -/
def RunFl (G : Nat → Prop) (w : World) (A : Ad) (V : Wv) (q : Nat) (d u : Int) (w' : World) : Prop := ∃ V' : Wv, FlD G w' A V' q (flK (V.f 8)) (V.f 8) (V.cnt + 3) ∧ (V'.f 0 = u ∧ V'.f 1 = u ∧ V'.f 8 = flushf (V.f 8) d ∧ V'.cnt = V.cnt + 4 ∧ V'.h = -1) ∧ Kp G w w'
set_option maxHeartbeats 1000000 in
set_option maxRecDepth 100000 in
theorem flRun {n : Nat} (hn : n < 64) (h : FlA G w A V q d (fun p => tkC n 0 false (mV 83 p))) (hc : V.cnt < 10000000) (h0 : V.f 0 = T) (h1 : V.f 1 = T) (hu : IntKind.u64.wrap (T + 1) = u) :
    Calls Tryz.prog 60 #[.pointer (some ⟨A.p, 0, none⟩), .iface 36 (.pointer (some ⟨q, 0, none⟩)), .int .i64 99] w fun e w' => e = .returned (.int .i64 4) ∧ RunFl G w A V q d u w' := by
  obtain ⟨zz, hzz⟩ : ∃ zz, zz = V.f 8 := ⟨_, rfl⟩
  obtain ⟨VA, hVA⟩ : ∃ X, X = (V.acc (upd V.f 0 u) 4 0 T u).tkset n u := ⟨_, rfl⟩
  obtain ⟨VB, hVB⟩ : ∃ X, X = ((VA.acc VA.f 1 1 T T).tkset n 0).hset n := ⟨_, rfl⟩
  obtain ⟨VC, hVC⟩ : ∃ X, X = flV VB zz d := ⟨_, rfl⟩
  obtain ⟨VD, hVD⟩ : ∃ X, X = (VC.acc (upd VC.f 1 u) 4 1 T u).hset (-1) := ⟨_, rfl⟩
  have fA : VA.f 0 = u ∧ VA.f 1 = T ∧ VA.f 8 = zz ∧ VA.cnt = V.cnt + 1 := by rw [hVA]; exact ⟨rfl, h1, hzz.symm, rfl⟩
  have fB : VB.f 0 = u ∧ VB.f 1 = T ∧ VB.f 8 = zz ∧ VB.cnt = V.cnt + 2 := by rw [hVB]; exact ⟨fA.1, fA.2.1, fA.2.2.1, by show VA.cnt + 1 = _; have := fA.2.2.2; omega⟩
  have fC : VC.f 0 = u ∧ VC.f 1 = T ∧ VC.f 8 = flushf zz d ∧ VC.cnt = V.cnt + 3 := by
    rw [hVC]
    obtain ⟨a, b, c, e, -⟩ := flV_f (z := zz) (d := d) fB.1 fB.2.1
    exact ⟨a, b, c fB.2.2.1, by rw [e]; have := fB.2.2.2; omega⟩
  have fD : VD.f 0 = u ∧ VD.f 1 = u ∧ VD.f 8 = flushf zz d ∧ VD.cnt = V.cnt + 4 ∧ VD.h = -1 := by rw [hVD]; exact ⟨fC.1, rfl, fC.2.2.1, by show VC.cnt + 1 = _; have := fC.2.2.2; omega, rfl⟩
  have S0 := Lib.hid (fl_s0 hn h (by omega) h0 hu)
  rw [← hVA] at S0
  have FF := Lib.hid (And.intro fA (And.intro fB (And.intro fC (And.intro fD hc))))
  have HB := Lib.hid hVB
  have HC := Lib.hid hVC
  have HD := Lib.hid hVD
  have HU := Lib.hid hu
  obtain ⟨p, b6, b5, b3, hop, ho, -⟩ := h
  have CO := Lib.hid (fl_overn ho)
  have HZ := Lib.hid hzz
  clear h0 h1 hu hc fA fB fC fD hVA hVB hVC hVD hop ho hzz
  go_enter Tryz.func60, Tryz.ntmps60
  go_wp2_with fail
  refine wp_loop_rounds 5 ?_
  rw [rounds_succ]
  go_wp2_with fail
  refine CO.out.mono ?_
  rintro e w100 ⟨rfl, rfl⟩
  go_wp2_with fail
  refine S0.out.mono ?_
  rintro e w1 ⟨rfl, h1, k1⟩
  clear CO S0
  have S1 := Lib.hid (fl_s1 hn h1 (by have := FF.out.1.2.2.2; have := FF.out.2.2.2.2; omega) FF.out.1.2.1)
  rw [← HB.out] at S1
  obtain ⟨p, b6, b5, b3, hop, ho, -⟩ := h1
  have CO := Lib.hid (fl_overn ho)
  have K1 := Lib.hid k1
  clear hop ho k1
  go_wp2_with fail
  rw [rounds_succ]
  go_wp2_with fail
  refine CO.out.mono ?_
  rintro e w100 ⟨rfl, rfl⟩
  go_wp2_with fail
  refine S1.out.mono ?_
  rintro e w2 ⟨rfl, h2, k2⟩
  clear CO S1
  have S2 := Lib.hid (fl_s2 h2 (by have := FF.out.2.1.2.2.2; have := FF.out.2.2.2.2; omega) FF.out.2.1.2.2.1 (c := V.cnt + 3) (by have := FF.out.2.1.2.2.2; omega))
  rw [← HC.out] at S2
  obtain ⟨b5, b3, hop, ho, -⟩ := h2
  have CO := Lib.hid (fl_overn ho)
  have K2 := Lib.hid (Kp.to K1.out k2)
  clear hop ho k2 K1
  go_wp2_with fail
  rw [rounds_succ]
  go_wp2_with fail
  refine CO.out.mono ?_
  rintro e w100 ⟨rfl, rfl⟩
  go_wp2_with fail
  refine S2.out.mono ?_
  rintro e w3 ⟨rfl, h3, k3⟩
  clear CO S2
  have S3 := Lib.hid (fl_s3 h3 (by have := FF.out.2.2.1.2.2.2; have := FF.out.2.2.2.2; omega) FF.out.2.2.1.2.1 HU.out)
  rw [← HD.out] at S3
  obtain ⟨g, b8, b5, hop, ho, -⟩ := h3
  have CO := Lib.hid (fl_overn ho)
  have K3 := Lib.hid (Kp.to K2.out k3)
  clear hop ho k3 K2
  go_wp2_with fail
  rw [rounds_succ]
  go_wp2_with fail
  refine CO.out.mono ?_
  rintro e w100 ⟨rfl, rfl⟩
  go_wp2_with fail
  refine S3.out.mono ?_
  rintro e w4 ⟨rfl, h4, k4⟩
  clear CO S3
  have CO := Lib.hid (fl_over h4.2.1)
  have K4 := Lib.hid (Kp.to K3.out k4)
  have H4 := Lib.hid h4
  clear h4 k4 K3
  go_wp2_with fail
  rw [rounds_succ]
  go_wp2_with fail
  refine CO.out.mono ?_
  rintro e w100 ⟨rfl, rfl⟩
  go_wp2_with fail
  go_ret
  exact ⟨rfl, VD, by rw [← HZ.out]; exact H4.out, by rw [← HZ.out]; exact FF.out.2.2.2.1, K4.out⟩
end
end Go.Proofs.YtaipbagnkjmddaaGreat
/- Next: Flushes: the chapter's examples. -/
namespace Go.Proofs.YtaipbagnkjmddaaGreat
open Go.RowKit Go.Maps
set_option linter.unusedVariables false
def IsWnF (w : World) (b : Int) (e : Ending) (w' : World) : Prop := ∃ A, e = .returned (.pointer (some ⟨A.p, 0, none⟩)) ∧ WdB w' A (V0 ⟨b, 8, 3, 1, 16⟩) w.heap.size ∧ Below w.heap.size w w'
theorem worldF (b : Int) (hb : 1 ≤ b ∧ b ≤ 12) (w : World) : Calls Tryz.prog 19 #[.int .i64 b] w (IsWnF w b) := by
  have C := Lib.hid (newW b 8 3 1 16 w (by unfold mayc; simp; omega))
  clear hb
  go_enter Tryz.func19, Tryz.ntmps19
  go_wp2_with fail
  refine C.out.mono ?_
  rintro e w1 ⟨A, rfl, hW, K⟩
  have HW := Lib.hid hW
  have HK := Lib.hid K
  clear hW K C
  go_wp2_with fail
  go_ret
  exact ⟨A, rfl, HW.out, HK.out⟩
section
variable {G : Nat → Prop} {w W X : World} {A : Ad} {V : Wv} {H : Nat} {k z d T u : Int}
theorem fl_gtick (h : WdG G w A V) (hc : V.cnt < 1000000000) {t : Int} (ht : tickf (V.f 8) = t) :
    Calls Tryz.prog 23 #[.pointer (some ⟨A.p, 0, none⟩)] w fun e w' => e = .returned (.tuple #[]) ∧ WdG G w' A (V.acc (upd V.f 8 t) 3 8 (V.f 8) t) ∧ Kp G w w' := by
  subst ht
  obtain ⟨S, h1, h2, h3⟩ := h
  exact (wtick h1 hc).mono fun e w' ⟨he, hp⟩ => ⟨he, WdG.post h2 h3 hp⟩
theorem fl_gpeek (h : WdG G w A V) {a v : Int} (ha : isU a) (hv : V.f a = v) :
    Calls Tryz.prog 21 #[.pointer (some ⟨A.pc, 0, none⟩), .int .u64 a] w fun e w' => e = .returned (.int .u64 v) ∧ w = w' := by
  subst hv
  obtain ⟨S, h1, h2, h3⟩ := h
  exact wpeek h1 ha
theorem fl_gstore (h : WdG G w A V) {a v : Int} (ha : isU a) (hv : isU v) (hc : V.cnt < 1000000000) :
    Calls Tryz.prog 25 #[.pointer (some ⟨A.pc, 0, none⟩), .int .u64 a, .int .u64 v] w fun e w' => e = .returned (.int .u64 (V.f a)) ∧ WdG G w' A (V.acc (upd V.f a v) 2 a (V.f a) v) ∧ Kp G w w' := by
  obtain ⟨S, h1, h2, h3⟩ := h
  exact (wstore h1 ha hv hc).mono fun e w' ⟨he, hp⟩ => ⟨he, WdG.post h2 h3 hp⟩
theorem fl_upE (h : WdG G w A V) (hk : Keeps (fun j => j = H) w W) (hn : ¬ G H) (hS : WdG (fun k => G k ∨ k = H) w A V) : WdG G W A V := fl_lessW (fl_keep hS hk (fun k e => .inr e)) (fun k g => .inl g)
theorem st8 {c0 c1 c2 c3 c4 c5 c6 c7 : Value} {v0 v1 v2 v3 v4 v5 v6 v7 : Value} (h0 : X.cell? ⟨H, 0, none⟩ = some c0) (h1 : X.cell? ⟨H, 1, none⟩ = some c1) (h2 : X.cell? ⟨H, 2, none⟩ = some c2) (h3 : X.cell? ⟨H, 3, none⟩ = some c3) (h4 : X.cell? ⟨H, 4, none⟩ = some c4) (h5 : X.cell? ⟨H, 5, none⟩ = some c5) (h6 : X.cell? ⟨H, 6, none⟩ = some c6) (h7 : X.cell? ⟨H, 7, none⟩ = some c7) :
    (World.setCell (World.setCell (World.setCell (World.setCell (World.setCell (World.setCell (World.setCell (World.setCell X ⟨H, 0, none⟩ (v0)) ⟨H, 1, none⟩ (v1)) ⟨H, 2, none⟩ (v2)) ⟨H, 3, none⟩ (v3)) ⟨H, 4, none⟩ (v4)) ⟨H, 5, none⟩ (v5)) ⟨H, 6, none⟩ (v6)) ⟨H, 7, none⟩ (v7)).cell? ⟨H, 0, none⟩ = some v0 ∧ (World.setCell (World.setCell (World.setCell (World.setCell (World.setCell (World.setCell (World.setCell (World.setCell X ⟨H, 0, none⟩ (v0)) ⟨H, 1, none⟩ (v1)) ⟨H, 2, none⟩ (v2)) ⟨H, 3, none⟩ (v3)) ⟨H, 4, none⟩ (v4)) ⟨H, 5, none⟩ (v5)) ⟨H, 6, none⟩ (v6)) ⟨H, 7, none⟩ (v7)).cell? ⟨H, 1, none⟩ = some v1 ∧ (World.setCell (World.setCell (World.setCell (World.setCell (World.setCell (World.setCell (World.setCell (World.setCell X ⟨H, 0, none⟩ (v0)) ⟨H, 1, none⟩ (v1)) ⟨H, 2, none⟩ (v2)) ⟨H, 3, none⟩ (v3)) ⟨H, 4, none⟩ (v4)) ⟨H, 5, none⟩ (v5)) ⟨H, 6, none⟩ (v6)) ⟨H, 7, none⟩ (v7)).cell? ⟨H, 2, none⟩ = some v2 ∧ (World.setCell (World.setCell (World.setCell (World.setCell (World.setCell (World.setCell (World.setCell (World.setCell X ⟨H, 0, none⟩ (v0)) ⟨H, 1, none⟩ (v1)) ⟨H, 2, none⟩ (v2)) ⟨H, 3, none⟩ (v3)) ⟨H, 4, none⟩ (v4)) ⟨H, 5, none⟩ (v5)) ⟨H, 6, none⟩ (v6)) ⟨H, 7, none⟩ (v7)).cell? ⟨H, 3, none⟩ = some v3 ∧ (World.setCell (World.setCell (World.setCell (World.setCell (World.setCell (World.setCell (World.setCell (World.setCell X ⟨H, 0, none⟩ (v0)) ⟨H, 1, none⟩ (v1)) ⟨H, 2, none⟩ (v2)) ⟨H, 3, none⟩ (v3)) ⟨H, 4, none⟩ (v4)) ⟨H, 5, none⟩ (v5)) ⟨H, 6, none⟩ (v6)) ⟨H, 7, none⟩ (v7)).cell? ⟨H, 4, none⟩ = some v4 ∧ (World.setCell (World.setCell (World.setCell (World.setCell (World.setCell (World.setCell (World.setCell (World.setCell X ⟨H, 0, none⟩ (v0)) ⟨H, 1, none⟩ (v1)) ⟨H, 2, none⟩ (v2)) ⟨H, 3, none⟩ (v3)) ⟨H, 4, none⟩ (v4)) ⟨H, 5, none⟩ (v5)) ⟨H, 6, none⟩ (v6)) ⟨H, 7, none⟩ (v7)).cell? ⟨H, 5, none⟩ = some v5 ∧ (World.setCell (World.setCell (World.setCell (World.setCell (World.setCell (World.setCell (World.setCell (World.setCell X ⟨H, 0, none⟩ (v0)) ⟨H, 1, none⟩ (v1)) ⟨H, 2, none⟩ (v2)) ⟨H, 3, none⟩ (v3)) ⟨H, 4, none⟩ (v4)) ⟨H, 5, none⟩ (v5)) ⟨H, 6, none⟩ (v6)) ⟨H, 7, none⟩ (v7)).cell? ⟨H, 6, none⟩ = some v6 ∧ (World.setCell (World.setCell (World.setCell (World.setCell (World.setCell (World.setCell (World.setCell (World.setCell X ⟨H, 0, none⟩ (v0)) ⟨H, 1, none⟩ (v1)) ⟨H, 2, none⟩ (v2)) ⟨H, 3, none⟩ (v3)) ⟨H, 4, none⟩ (v4)) ⟨H, 5, none⟩ (v5)) ⟨H, 6, none⟩ (v6)) ⟨H, 7, none⟩ (v7)).cell? ⟨H, 7, none⟩ = some v7 := by
  have so : ∀ {w : World} {i j : Nat} {u v : Value}, i ≠ j → w.cell? ⟨H, j, none⟩ = some v → (w.setCell ⟨H, i, none⟩ u).cell? ⟨H, j, none⟩ = some v := fun {w i j u v} hij hc => (World.cell?_setCell_other _ ⟨H, i, none⟩ ⟨H, j, none⟩ _ (by intro e; injection e with _ e; exact hij e)).trans hc
  exact ⟨(so (by decide) (so (by decide) (so (by decide) (so (by decide) (so (by decide) (so (by decide) (so (by decide) (World.cell?_setCell_same _ _ _ h0)))))))), (so (by decide) (so (by decide) (so (by decide) (so (by decide) (so (by decide) (so (by decide) (World.cell?_setCell_same _ _ _ (so (by decide) h1)))))))), (so (by decide) (so (by decide) (so (by decide) (so (by decide) (so (by decide) (World.cell?_setCell_same _ _ _ (so (by decide) (so (by decide) h2)))))))), (so (by decide) (so (by decide) (so (by decide) (so (by decide) (World.cell?_setCell_same _ _ _ (so (by decide) (so (by decide) (so (by decide) h3)))))))), (so (by decide) (so (by decide) (so (by decide) (World.cell?_setCell_same _ _ _ (so (by decide) (so (by decide) (so (by decide) (so (by decide) h4)))))))), (so (by decide) (so (by decide) (World.cell?_setCell_same _ _ _ (so (by decide) (so (by decide) (so (by decide) (so (by decide) (so (by decide) h5)))))))), (so (by decide) (World.cell?_setCell_same _ _ _ (so (by decide) (so (by decide) (so (by decide) (so (by decide) (so (by decide) (so (by decide) h6)))))))), (World.cell?_setCell_same _ _ _ (so (by decide) (so (by decide) (so (by decide) (so (by decide) (so (by decide) (so (by decide) (so (by decide) h7))))))))⟩
theorem kk8 {v0 v1 v2 v3 v4 v5 v6 v7 : Value} : Keeps (fun j => j = H) X (World.setCell (World.setCell (World.setCell (World.setCell (World.setCell (World.setCell (World.setCell (World.setCell X ⟨H, 0, none⟩ (v0)) ⟨H, 1, none⟩ (v1)) ⟨H, 2, none⟩ (v2)) ⟨H, 3, none⟩ (v3)) ⟨H, 4, none⟩ (v4)) ⟨H, 5, none⟩ (v5)) ⟨H, 6, none⟩ (v6)) ⟨H, 7, none⟩ (v7)) := (Keeps.setCell (Keeps.setCell (Keeps.setCell (Keeps.setCell (Keeps.setCell (Keeps.setCell (Keeps.setCell (Keeps.setCell (Keeps.refl (fun j => j = H) X) (p := ⟨H, 0, none⟩) (.inl rfl) v0) (p := ⟨H, 1, none⟩) (.inl rfl) v1) (p := ⟨H, 2, none⟩) (.inl rfl) v2) (p := ⟨H, 3, none⟩) (.inl rfl) v3) (p := ⟨H, 4, none⟩) (.inl rfl) v4) (p := ⟨H, 5, none⟩) (.inl rfl) v5) (p := ⟨H, 6, none⟩) (.inl rfl) v6) (p := ⟨H, 7, none⟩) (.inl rfl) v7)
set_option maxHeartbeats 1000000 in
set_option maxRecDepth 100000 in
theorem fl_does {n : Nat} (hn : n < 64) (h : WdG G w A V) (hc : V.cnt < 10000000) (h0 : V.f 0 = T) (h1 : V.f 1 = T) (hu : IntKind.u64.wrap (T + 1) = u) (hz : V.f 8 = z) (hk : flK z = k) :
    Calls Tryz.prog 20 #[.pointer (some ⟨A.p, 0, none⟩), .int .i64 n, .int .i64 d] w fun e w' => e = .returned (.tuple #[anV k, .int .u64 z, .int .i64 4]) ∧ ∃ V' : Wv, WdG G w' A V' ∧ (V'.f 0 = u ∧ V'.f 1 = u ∧ V'.f 8 = flushf z d ∧ V'.cnt = V.cnt + 4) ∧ Kp G w w' := by
  have CN := Lib.hid (fun W => newFlush n d (by simp; omega) W)
  have HH := Lib.hid h
  have HA := Lib.hid (And.intro hc (And.intro h0 (And.intro h1 (And.intro hu (And.intro hz hk)))))
  have HN := Lib.hid hn
  clear h hc h0 h1 hu hz hk hn
  go_enter Tryz.func20, Tryz.ntmps20
  go_upto_region 1 with (fail)
  generalize hW1 : World.alloc w _ = W1
  have b1 : Below w.heap.size w W1 := by rw [← hW1]; exact fl_bs (Below.refl _ _)
  have l1 : w.heap.size < W1.heap.size := by rw [← hW1]; simp
  have r0 : W1.cell? ⟨w.heap.size, 0, none⟩ = some (.int .u8 0) := by rw [← hW1]; exact fl_new rfl rfl
  have r1 : W1.cell? ⟨w.heap.size, 1, none⟩ = some (.int .u64 0) := by rw [← hW1]; exact fl_new rfl rfl
  have r2 : W1.cell? ⟨w.heap.size, 2, none⟩ = some (.string ⟨#[]⟩) := by rw [← hW1]; exact fl_new rfl rfl
  have r3 : W1.cell? ⟨w.heap.size, 3, none⟩ = some (.string ⟨#[]⟩) := by rw [← hW1]; exact fl_new rfl rfl
  have r4 : W1.cell? ⟨w.heap.size, 4, none⟩ = some (.int .u32 0) := by rw [← hW1]; exact fl_new rfl rfl
  have r5 : W1.cell? ⟨w.heap.size, 5, none⟩ = some (.int .u64 0) := by rw [← hW1]; exact fl_new rfl rfl
  have r6 : W1.cell? ⟨w.heap.size, 6, none⟩ = some (.int .i64 0) := by rw [← hW1]; exact fl_new rfl rfl
  have r7 : W1.cell? ⟨w.heap.size, 7, none⟩ = some (.int .i64 0) := by rw [← hW1]; exact fl_new rfl rfl
  have y0 : W1.frozen? ⟨w.heap.size, 0, none⟩ = false := by rw [← hW1]; simp
  have y1 : W1.frozen? ⟨w.heap.size, 1, none⟩ = false := by rw [← hW1]; simp
  have y2 : W1.frozen? ⟨w.heap.size, 2, none⟩ = false := by rw [← hW1]; simp
  have y3 : W1.frozen? ⟨w.heap.size, 3, none⟩ = false := by rw [← hW1]; simp
  have y4 : W1.frozen? ⟨w.heap.size, 4, none⟩ = false := by rw [← hW1]; simp
  have y5 : W1.frozen? ⟨w.heap.size, 5, none⟩ = false := by rw [← hW1]; simp
  have y6 : W1.frozen? ⟨w.heap.size, 6, none⟩ = false := by rw [← hW1]; simp
  have y7 : W1.frozen? ⟨w.heap.size, 7, none⟩ = false := by rw [← hW1]; simp
  have h1 : WdG (fun k => G k ∨ k = w.heap.size) W1 A V := fl_lessW (fl_addN HH.out b1) (fun k g => by rcases g with g | rfl; exact .inl g; exact .inr ⟨Nat.le_refl _, l1⟩)
  have KR : Hid (∀ X, Kp (fun k => G k ∨ k = w.heap.size) W1 X → (X.cell? ⟨w.heap.size, 0, none⟩ = some (.int .u8 0) ∧ X.cell? ⟨w.heap.size, 1, none⟩ = some (.int .u64 0) ∧ X.cell? ⟨w.heap.size, 2, none⟩ = some (.string ⟨#[]⟩) ∧ X.cell? ⟨w.heap.size, 3, none⟩ = some (.string ⟨#[]⟩) ∧ X.cell? ⟨w.heap.size, 4, none⟩ = some (.int .u32 0) ∧ X.cell? ⟨w.heap.size, 5, none⟩ = some (.int .u64 0) ∧ X.cell? ⟨w.heap.size, 6, none⟩ = some (.int .i64 0) ∧ X.cell? ⟨w.heap.size, 7, none⟩ = some (.int .i64 0)) ∧ (X.frozen? ⟨w.heap.size, 0, none⟩ = false ∧ X.frozen? ⟨w.heap.size, 1, none⟩ = false ∧ X.frozen? ⟨w.heap.size, 2, none⟩ = false ∧ X.frozen? ⟨w.heap.size, 3, none⟩ = false ∧ X.frozen? ⟨w.heap.size, 4, none⟩ = false ∧ X.frozen? ⟨w.heap.size, 5, none⟩ = false ∧ X.frozen? ⟨w.heap.size, 6, none⟩ = false ∧ X.frozen? ⟨w.heap.size, 7, none⟩ = false)) := Lib.hid (fun X hk => ⟨⟨hk.cell (p := ⟨w.heap.size, 0, none⟩) (fun n => n (.inr rfl)) r0, hk.cell (p := ⟨w.heap.size, 1, none⟩) (fun n => n (.inr rfl)) r1, hk.cell (p := ⟨w.heap.size, 2, none⟩) (fun n => n (.inr rfl)) r2, hk.cell (p := ⟨w.heap.size, 3, none⟩) (fun n => n (.inr rfl)) r3, hk.cell (p := ⟨w.heap.size, 4, none⟩) (fun n => n (.inr rfl)) r4, hk.cell (p := ⟨w.heap.size, 5, none⟩) (fun n => n (.inr rfl)) r5, hk.cell (p := ⟨w.heap.size, 6, none⟩) (fun n => n (.inr rfl)) r6, hk.cell (p := ⟨w.heap.size, 7, none⟩) (fun n => n (.inr rfl)) r7⟩, hk.frozen (p := ⟨w.heap.size, 0, none⟩) (fun n => n (.inr rfl)) l1 y0, hk.frozen (p := ⟨w.heap.size, 1, none⟩) (fun n => n (.inr rfl)) l1 y1, hk.frozen (p := ⟨w.heap.size, 2, none⟩) (fun n => n (.inr rfl)) l1 y2, hk.frozen (p := ⟨w.heap.size, 3, none⟩) (fun n => n (.inr rfl)) l1 y3, hk.frozen (p := ⟨w.heap.size, 4, none⟩) (fun n => n (.inr rfl)) l1 y4, hk.frozen (p := ⟨w.heap.size, 5, none⟩) (fun n => n (.inr rfl)) l1 y5, hk.frozen (p := ⟨w.heap.size, 6, none⟩) (fun n => n (.inr rfl)) l1 y6, hk.frozen (p := ⟨w.heap.size, 7, none⟩) (fun n => n (.inr rfl)) l1 y7⟩)
  have H1 := Lib.hid (And.intro h1 b1)
  clear hW1 b1 l1 h1 r0 r1 r2 r3 r4 r5 r6 r7 y0 y1 y2 y3 y4 y5 y6 y7
  go_wp2_with fail
  refine (CN.out _).mono ?_
  rintro e w2 hnw
  obtain ⟨q, rfl, hA, hq, b2⟩ := fl_begin H1.out.1 hnw
  have CR := Lib.hid (flRun HN.out hA HA.out.1 HA.out.2.1 HA.out.2.2.1 HA.out.2.2.2.1)
  have K2 := Lib.hid (Kp.of (G := fun k => G k ∨ k = w.heap.size) b2)
  clear hnw hA hq b2 CN
  go_wp2_with fail
  refine CR.out.mono ?_
  rintro e w3 ⟨rfl, V', hD, hV', k3⟩
  have cg := fl_got hD.2.1
  unfold anV at cg
  have CG := Lib.hid cg
  have HV := Lib.hid hV'
  have HD := Lib.hid (fl_lessW hD.1 (fun k g => .inl g))
  have K3 := Lib.hid (Kp.to K2.out k3)
  clear hD hV' k3 CR K2 cg
  go_upto_region 4 with (go_at_call 17; ((with_reducible refine CG.out.mono ?_); rintro e w4 ⟨rfl, b4⟩; have B4 := Lib.hid b4; clear b4))
  generalize hW5 : World.alloc w4 _ = W5
  have b5 : Below w4.heap.size w4 W5 := by rw [← hW5]; exact fl_bs (Below.refl _ _)
  have m0 : W5.cell? ⟨w4.heap.size, 0, none⟩ = some (.int .u8 (flK (V.f 8))) := by rw [← hW5]; exact fl_new rfl rfl
  have m1 : W5.cell? ⟨w4.heap.size, 1, none⟩ = some (.int .u64 0) := by rw [← hW5]; exact fl_new rfl rfl
  have m2 : W5.cell? ⟨w4.heap.size, 2, none⟩ = some (.string ⟨#[]⟩) := by rw [← hW5]; exact fl_new rfl rfl
  have m3 : W5.cell? ⟨w4.heap.size, 3, none⟩ = some (.string ⟨#[]⟩) := by rw [← hW5]; exact fl_new rfl rfl
  have m4 : W5.cell? ⟨w4.heap.size, 4, none⟩ = some (.int .u32 0) := by rw [← hW5]; exact fl_new rfl rfl
  have m5 : W5.cell? ⟨w4.heap.size, 5, none⟩ = some (.int .u64 0) := by rw [← hW5]; exact fl_new rfl rfl
  have m6 : W5.cell? ⟨w4.heap.size, 6, none⟩ = some (.int .i64 0) := by rw [← hW5]; exact fl_new rfl rfl
  have m7 : W5.cell? ⟨w4.heap.size, 7, none⟩ = some (.int .i64 0) := by rw [← hW5]; exact fl_new rfl rfl
  have hk5 := Kp.to K3.out (Kp.of (below_then B4.out b5))
  obtain ⟨⟨r0, r1, r2, r3, r4, r5, r6, r7⟩, y0, y1, y2, y3, y4, y5, y6, y7⟩ := KR.out _ hk5
  have K5 := Lib.hid hk5
  have H5 := Lib.hid ((HD.out.new B4.out).new b5)
  have hr := st8 (X := W5) (H := w.heap.size) (v0 := .int .u8 (flK (V.f 8))) (v1 := .int .u64 0) (v2 := .string ⟨#[]⟩) (v3 := .string ⟨#[]⟩) (v4 := .int .u32 0) (v5 := .int .u64 0) (v6 := .int .i64 0) (v7 := .int .i64 0) r0 r1 r2 r3 r4 r5 r6 r7
  obtain ⟨x0, x1, x2, x3, x4, x5, x6, x7⟩ := hr
  have hkk := kk8 (X := W5) (H := w.heap.size) (v0 := .int .u8 (flK (V.f 8))) (v1 := .int .u64 0) (v2 := .string ⟨#[]⟩) (v3 := .string ⟨#[]⟩) (v4 := .int .u32 0) (v5 := .int .u64 0) (v6 := .int .i64 0) (v7 := .int .i64 0)
  have hG : ¬ G w.heap.size := fun g => by
    have h := HH.out
    obtain ⟨S, a, b, c⟩ := h
    have := c _ g
    omega
  have HF := Lib.hid (And.intro (fl_lessW (fl_keep H5.out hkk (fun k e => .inr e)) (fun k g => .inl g)) (Kp.to (Kp.to (Kp.of H1.out.2) (K5.out.less (fun j g => .inl g))) (hkk.mono (fun j _ e g => hG (e ▸ g)))))
  clear hW5 b5 hk5 hkk
  go_wp2_with fail
  generalize hW8 : (World.setCell (World.setCell (World.setCell (World.setCell (World.setCell (World.setCell (World.setCell (World.setCell W5 _ _) _ _) _ _) _ _) _ _) _ _) _ _) _ _) = W8 at *
  clear hW8
  generalize hkv : flK (V.f 8) = kv at *
  refine bodyPost_ret (v := .tuple #[.agg #[.int .u8 kv, .int .u64 0, .string ⟨#[]⟩, .string ⟨#[]⟩, .int .u32 0, .int .u64 0, .int .i64 0, .int .i64 0], .int .u64 (V.f 8), .int .i64 4]) (by simp [results, Tryz.results20, go_sem, x0, x1, x2, x3, x4, x5, x6, x7]) rfl ?_
  have e1 := HA.out.2.2.2.2.1
  have e2 := HA.out.2.2.2.2.2
  subst e1
  have e3 : kv = k := by rw [← hkv]; exact e2
  subst e3
  exact ⟨rfl, V', HF.out.1, ⟨HV.out.1, HV.out.2.1, HV.out.2.2.1, HV.out.2.2.2.1⟩, HF.out.2⟩
end
end Go.Proofs.YtaipbagnkjmddaaGreat
/- Next: Flushes: the chapter's examples. -/
namespace Go.Proofs.YtaipbagnkjmddaaGreat
open Go.RowKit Go.Maps
set_option linter.unusedVariables false
theorem fl_addA {G : Nat → Prop} {w W : World} {A : Ad} {V : Wv} {b : Nat} (h : WdG G w A V) (hb : Below w.heap.size w W) (h1 : b = w.heap.size) (h2 : w.heap.size < W.heap.size) : WdG (fun k => G k ∨ k = b) W A V :=
  fl_lessW (fl_addN h hb) (fun k g => by rcases g with g | rfl; exact .inl g; exact .inr ⟨by omega, by omega⟩)
set_option maxHeartbeats 2000000 in
set_option maxRecDepth 100000 in
theorem lives27 (w : World) : Calls Tryz.prog 6 #[] w fun e w' => e = .returned (.bool true) ∧ Below w.heap.size w w' := by
  have CW := Lib.hid (fun X => worldF 2 ⟨by decide, by decide⟩ X)
  have CAt := Lib.hid (fun X => atw 281475027042304 X (by decide) (by decide))
  rw [show atf 281475027042304 = 3 by decide] at CAt
  have CGe := Lib.hid (fun X => genw 562949953421315 X (by decide) (by decide))
  rw [show genf 562949953421315 = 2 by decide] at CGe
  have CPu := Lib.hid (fun X => putw 5 0 65535 X)
  rw [show putf 5 0 65535 = 18446462598732840965 by decide] at CPu
  go_enter Tryz.func6, Tryz.ntmps6
  go_wp2_with fail
  refine (CW.out _).mono ?_
  rintro e w1 ⟨A, rfl, hW1, K1⟩
  have g1 := hW1.g K1.size
  have HK1 := Lib.hid K1
  have CD := Lib.hid (fl_does (n := 3) (d := 0) (T := 0) (u := 1) (z := 0) (k := 10) (by decide) g1 (by decide) rfl rfl (by decide) rfl (by decide))
  unfold anV at CD
  rw [show flushf 0 0 = 281474976710656 by decide] at CD
  clear hW1 K1 g1 CW
  go_upto_region 5 with (go_at_call 20; (refine CD.out.mono ?_; rintro e w2 ⟨rfl, V2, h2, f2, k2⟩; have F2 := Lib.hid f2; have HW2 := Lib.hid h2; have K2 := Lib.hid k2; clear h2 k2 f2))
  clear CD
  generalize hW3 : World.alloc w2 _ = W3
  have b3 : Below w2.heap.size w2 W3 := by rw [← hW3]; exact fl_bs (Below.refl _ _)
  have l3 : w2.heap.size < W3.heap.size := by rw [← hW3]; simp
  have a3 : W3.cell? ⟨w2.heap.size, 0, none⟩ = some (.int .u8 10) := by rw [← hW3]; exact fl_new rfl rfl
  obtain ⟨ba, hba⟩ : ∃ ba, ba = w2.heap.size := ⟨_, rfl⟩
  have HW3 := Lib.hid (fl_addA (b := ba) HW2.out b3 hba l3)
  have K3 := Lib.hid (Kp.to K2.out (Kp.of b3))
  subst hba
  have HA3 := Lib.hid a3
  clear hW3 b3 l3 a3 HW2 K2
  have c0 := HW3.out.box.c0
  have CP := Lib.hid (fl_gpeek HW3.out (a := 8) ⟨by decide, by decide⟩ F2.out.2.2.1)
  go_upto_region 6 with (go_at_call 21; ((with_reducible refine CP.out.mono ?_); rintro e w4 ⟨rfl, rfl⟩))
  clear CP c0
  have CD := Lib.hid (fl_does (n := 3) (d := 3) (T := 1) (u := 2) (z := 281474976710656) (k := 10) (by decide) HW3.out (by have := F2.out.2.2.2; rw [this]; decide) F2.out.1 F2.out.2.1 (by decide) F2.out.2.2.1 (by decide))
  unfold anV at CD
  rw [show flushf 281474976710656 3 = 281475027042304 by decide] at CD
  go_upto_region 7 with (go_at_call 20; (refine CD.out.mono ?_; rintro e w5 ⟨rfl, V5, h5, f5, k5⟩; have F5 := Lib.hid f5; have HW5 := Lib.hid h5; have K5 := Lib.hid k5; clear h5 k5 f5))
  clear CD
  generalize hW6 : World.alloc w5 _ = W6
  have b6 : Below w5.heap.size w5 W6 := by rw [← hW6]; exact fl_bs (Below.refl _ _)
  have l6 : w5.heap.size < W6.heap.size := by rw [← hW6]; simp
  have a6 : W6.cell? ⟨w5.heap.size, 0, none⟩ = some (.int .u8 10) := by rw [← hW6]; exact fl_new rfl rfl
  obtain ⟨bb, hbb⟩ : ∃ bb, bb = w5.heap.size := ⟨_, rfl⟩
  have hk6 := Kp.to K5.out (Kp.of b6)
  have HW6 := Lib.hid (fl_addA (b := bb) HW5.out b6 hbb l6)
  have K6 := Lib.hid (Kp.to K3.out (hk6.less (fun j g => .inl g)))
  have HA6 := Lib.hid (And.intro (hk6.cell (p := ⟨w2.heap.size, 0, none⟩) (fun n => n (.inr rfl)) HA3.out) a6)
  subst hbb
  have HC6 := Lib.hid (show V5.cnt = 8 by have := F5.out.2.2.2; have := F2.out.2.2.2; rw [F5.out.2.2.2, F2.out.2.2.2]; decide)
  clear hW6 b6 l6 a6 HW5 K5 K3 HA3 hk6 HW3 F2
  have c0 := HW6.out.box.c0
  have CP := Lib.hid (fl_gpeek HW6.out (a := 8) ⟨by decide, by decide⟩ F5.out.2.2.1)
  go_upto_region 8 with (first
    | (go_at_call 21; ((with_reducible refine CP.out.mono ?_); rintro e w7 ⟨rfl, rfl⟩))
    | (go_at_call 22; ((with_reducible refine (CAt.out _).mono ?_); rintro e w7 ⟨rfl, b7⟩; have B7 := Lib.hid b7; clear b7)))
  clear CP c0 CAt
  have HW7 := Lib.hid (HW6.out.new B7.out)
  have T1 := Lib.hid (fl_gtick HW7.out (by rw [HC6.out]; decide) (t := 281475027042305) (by rw [F5.out.2.2.1]; decide))
  have HK7 := Lib.hid (Kp.of (G := fun k => ((k < w.heap.size ∨ k = w2.heap.size) ∨ k = w5.heap.size)) B7.out)
  clear HW6 B7
  go_wp2_with fail
  refine wp_loop_rounds 4 ?_
  rw [rounds_succ]
  go_wp2_with fail
  refine T1.out.mono ?_
  rintro e w8 ⟨rfl, h8, k8⟩
  have T2 := Lib.hid (fl_gtick h8 (by show V5.cnt + 1 < _; rw [HC6.out]; decide) (t := 281475027042306) (by show tickf (upd V5.f 8 281475027042305 8) = _; rw [upd_same]; decide))
  have HK8 := Lib.hid (Kp.to HK7.out k8)
  clear T1 h8 k8 HK7
  go_wp2_with fail
  rw [rounds_succ]
  go_wp2_with fail
  refine T2.out.mono ?_
  rintro e w9 ⟨rfl, h9, k9⟩
  have T3 := Lib.hid (fl_gtick h9 (by show V5.cnt + 1 + 1 < _; rw [HC6.out]; decide) (t := 562949953421315) (by show tickf (upd (V5.acc (upd V5.f 8 281475027042305) 3 8 (V5.f 8) 281475027042305).f 8 281475027042306 8) = _; rw [upd_same]; decide))
  have HK9 := Lib.hid (Kp.to HK8.out k9)
  clear T2 h9 k9 HK8
  go_wp2_with fail
  rw [rounds_succ]
  go_wp2_with fail
  refine T3.out.mono ?_
  rintro e w10 ⟨rfl, h10, k10⟩
  have HK10 := Lib.hid (Kp.to HK9.out k10)
  obtain ⟨V10, hV10⟩ : ∃ X, X = (((V5.acc (upd V5.f 8 281475027042305) 3 8 (V5.f 8) 281475027042305).acc (upd (V5.acc (upd V5.f 8 281475027042305) 3 8 (V5.f 8) 281475027042305).f 8 281475027042306) 3 8 ((V5.acc (upd V5.f 8 281475027042305) 3 8 (V5.f 8) 281475027042305).f 8) 281475027042306).acc (upd ((V5.acc (upd V5.f 8 281475027042305) 3 8 (V5.f 8) 281475027042305).acc (upd (V5.acc (upd V5.f 8 281475027042305) 3 8 (V5.f 8) 281475027042305).f 8 281475027042306) 3 8 ((V5.acc (upd V5.f 8 281475027042305) 3 8 (V5.f 8) 281475027042305).f 8) 281475027042306).f 8 562949953421315) 3 8 (((V5.acc (upd V5.f 8 281475027042305) 3 8 (V5.f 8) 281475027042305).acc (upd (V5.acc (upd V5.f 8 281475027042305) 3 8 (V5.f 8) 281475027042305).f 8 281475027042306) 3 8 ((V5.acc (upd V5.f 8 281475027042305) 3 8 (V5.f 8) 281475027042305).f 8) 281475027042306).f 8) 562949953421315) := ⟨_, rfl⟩
  have F10 : Hid (V10.f 0 = 2 ∧ V10.f 1 = 2 ∧ V10.f 8 = 562949953421315 ∧ V10.cnt = 11) := Lib.hid (by
    rw [hV10]
    refine ⟨F5.out.1, F5.out.2.1, rfl, ?_⟩
    show V5.cnt + 1 + 1 + 1 = 11
    rw [HC6.out]; decide)
  have HW10 := Lib.hid (show WdG _ w10 A V10 by rw [hV10]; exact h10)
  clear T3 h10 k10 HK9 hV10
  go_wp2_with fail
  rw [rounds_succ]
  have c0 := HW10.out.box.c0
  have CP := Lib.hid (fl_gpeek HW10.out (a := 8) ⟨by decide, by decide⟩ F10.out.2.2.1)
  go_upto_region 13 with (first
    | (go_at_call 21; ((with_reducible refine CP.out.mono ?_); rintro e w11 ⟨rfl, rfl⟩))
    | (go_at_call 24; ((with_reducible refine (CGe.out _).mono ?_); rintro e w12 ⟨rfl, b12⟩; have B12 := Lib.hid b12; clear b12)))
  clear CP c0 CGe
  have hd12 : Below w12.heap.size w12 w12.drew := (Below.refl _ _).drew
  have HK12 := Lib.hid (Kp.to (Kp.to HK10.out (Kp.of B12.out)) (Kp.of hd12))
  have HW12 := Lib.hid ((HW10.out.new B12.out).new hd12)
  have c0 : w12.drew.cell? ⟨A.p, 0, none⟩ = some (.pointer (some ⟨A.pc, 0, none⟩)) := HW12.out.box.c0
  have CS := Lib.hid (fl_gstore HW12.out (a := 8) (v := 18446462598732840965) ⟨by decide, by decide⟩ ⟨by decide, by decide⟩ (by rw [F10.out.2.2.2]; decide))
  clear hd12 B12 HW10 HK10
  go_region_held3 (fun X => X.cell? ⟨A.p, 0, none⟩ = some (.pointer (some ⟨A.pc, 0, none⟩)))
    (first | assumption)
    (first
      | (go_at_call 26; ((with_reducible refine (CPu.out _).mono ?_); rintro e w13 ⟨rfl, rfl⟩))
      | (go_at_call 25; ((with_reducible refine CS.out.mono ?_); rintro e w14 ⟨rfl, h14, k14⟩; have HW14 := Lib.hid h14; have HK14 := Lib.hid (Kp.to HK12.out k14); clear c0; have c0 := h14.box.c0; clear h14 k14)))
  clear CS c0
  have CD := Lib.hid (fl_does (n := 3) (d := 0) (T := 2) (u := 3) (z := 18446462598732840965) (k := 5) (by decide) HW14.out (by show V10.cnt + 1 < _; rw [F10.out.2.2.2]; decide) (by show upd V10.f 8 18446462598732840965 0 = 2; rw [← F10.out.1]; rfl) (by show upd V10.f 8 18446462598732840965 1 = 2; rw [← F10.out.2.1]; rfl) (by decide) (by show upd V10.f 8 18446462598732840965 8 = _; exact upd_same _ _ _) (by decide))
  unfold anV at CD
  clear HW14 HW12
  go_upto_region 15 with (go_at_call 20; (refine CD.out.mono ?_; rintro e w15 ⟨rfl, V15, h15, f15, k15⟩; have K15 := Lib.hid (Kp.to HK14.out k15); clear h15 k15 f15))
  clear CD
  generalize hW16 : World.alloc w15 _ = W16
  have b16 : Below w15.heap.size w15 W16 := by rw [← hW16]; exact fl_bs (Below.refl _ _)
  have y3 : W16.cell? ⟨w15.heap.size, 0, none⟩ = some (.int .u8 5) := by rw [← hW16]; exact fl_new rfl rfl
  have y1 : W16.cell? ⟨w2.heap.size, 0, none⟩ = some (.int .u8 10) := fl_up b16 (K15.out.cell (p := ⟨w2.heap.size, 0, none⟩) (fun n => n (.inl (.inr rfl))) HA6.out.1)
  have y2 : W16.cell? ⟨w5.heap.size, 0, none⟩ = some (.int .u8 10) := fl_up b16 (K15.out.cell (p := ⟨w5.heap.size, 0, none⟩) (fun n => n (.inr rfl)) HA6.out.2)
  have HE := Lib.hid (HK1.out.trans (Kp.below (Kp.to K6.out (Kp.to (K15.out.less (fun j g => .inl (.inl g))) (Kp.of b16))) HK1.out.size))
  clear hW16 b16
  go_wp2_with (go_at_call 26; ((with_reducible refine (CPu.out _).mono ?_); rintro e w17 ⟨rfl, rfl⟩))
  go_ret
  exact ⟨rfl, HE.out⟩
end Go.Proofs.YtaipbagnkjmddaaGreat
