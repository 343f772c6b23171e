/- Touches of an item: their steps. -/
import Derived.Test.YtepkpbhhiianpaaWd4
import Derived.Test.YtepkpbhhiianpaaBits
import Derived.Laws.EntriesVeiled
import Derived.LoopTactic
namespace Go.Proofs.Ytepkpbhhiianpaa
open Go.RowKit Go.Maps
set_option linter.unusedVariables false

/-- A touch. -/
structure IsTo (w : World) (q : Nat) (mark word left : Int) (done : Bool) : Prop where
  c0 : w.cell? ⟨q, 0, none⟩ = some (.int .u64 mark)
  c1 : w.cell? ⟨q, 1, none⟩ = some (.int .u64 word)
  c2 : w.cell? ⟨q, 2, none⟩ = some (.int .i64 left)
  c3 : w.cell? ⟨q, 3, none⟩ = some (.bool done)
  fz : ∀ j, j < 4 → w.frozen? ⟨q, j, none⟩ = false
theorem IsTo.lt {w : World} {q : Nat} {mark word left : Int} {done : Bool} (h : IsTo w q mark word left done) : q < w.heap.size := World.block_lt_of_cell? _ _ h.c0
theorem IsTo.keep {w W : World} {q : Nat} {mark word left : Int} {done : Bool} {T : Nat → Prop} (h : IsTo w q mark word left done) (hk : Keeps T w W) (hT : ¬ T q) : IsTo W q mark word left done := by
  have hl := h.lt
  obtain ⟨c0, c1, c2, c3, fz⟩ := h
  exact ⟨hk.cell (p := ⟨q, 0, none⟩) hT c0, hk.cell (p := ⟨q, 1, none⟩) hT c1, hk.cell (p := ⟨q, 2, none⟩) hT c2, hk.cell (p := ⟨q, 3, none⟩) hT c3, fun j hj => hk.frozen (p := ⟨q, j, none⟩) hT hl (fz j hj)⟩
theorem set_other {w : World} {q i j : Nat} {u v : Value} (h : i ≠ j) (hc : w.cell? ⟨q, j, none⟩ = some v) : (w.setCell ⟨q, i, none⟩ u).cell? ⟨q, j, none⟩ = some v :=
  (World.cell?_setCell_other w ⟨q, i, none⟩ ⟨q, j, none⟩ u (by intro e; injection e with _ e; exact h e)).trans hc
theorem IsTo.word {w : World} {q : Nat} {mark word left : Int} {done : Bool} (h : IsTo w q mark word left done) (v : Int) : IsTo (w.setCell ⟨q, 1, none⟩ (.int .u64 v)) q mark v left done :=
  ⟨set_other (by decide) h.c0, World.cell?_setCell_same _ _ _ h.c1, set_other (by decide) h.c2, set_other (by decide) h.c3, fun j hj => by rw [World.frozen?_setCell]; exact h.fz j hj⟩
theorem IsTo.left {w : World} {q : Nat} {mark word left : Int} {done : Bool} (h : IsTo w q mark word left done) (v : Int) : IsTo (w.setCell ⟨q, 2, none⟩ (.int .i64 v)) q mark word v done :=
  ⟨set_other (by decide) h.c0, set_other (by decide) h.c1, World.cell?_setCell_same _ _ _ h.c2, set_other (by decide) h.c3, fun j hj => by rw [World.frozen?_setCell]; exact h.fz j hj⟩
theorem IsTo.done {w : World} {q : Nat} {mark word left : Int} {done : Bool} (h : IsTo w q mark word left done) (v : Bool) : IsTo (w.setCell ⟨q, 3, none⟩ (.bool v)) q mark word left v :=
  ⟨set_other (by decide) h.c0, set_other (by decide) h.c1, set_other (by decide) h.c2, World.cell?_setCell_same _ _ _ h.c3, fun j hj => by rw [World.frozen?_setCell]; exact h.fz j hj⟩
/-- Blocks that nothing turns. -/
abbrev Kp (G : Nat → Prop) (w w' : World) : Prop := Keeps (fun k => ¬ G k) w w'
theorem Kp.to {G : Nat → Prop} {a b c : World} (h : Kp G a b) (k : Kp G b c) : Kp G a c := Keeps.trans (S := fun k => ¬ G k) (T := fun k => ¬ G k) h k (fun _ _ s => s)
theorem Kp.of {G : Nat → Prop} {a b : World} (h : Below a.heap.size a b) : Kp G a b := Keeps.of_new h
theorem Kp.less {G G' : Nat → Prop} {a b : World} (h : Kp G a b) (hG : ∀ k, G' k → G k) : Kp G' a b := Keeps.mono h (fun k _ n g => n (hG k g))
theorem Kp.below {B : Nat} {a b : World} (h : Kp (fun k => k < B) a b) (hB : B ≤ a.heap.size) : Below B a b := Keeps.to_below h (fun k _ n => Nat.le_of_not_lt n) hB
/-- A world that has none of these blocks. -/
def WdG (G : Nat → Prop) (w : World) (A : Ad) (V : Wv) : Prop := ∃ S, Wd w A V S ∧ (∀ k, G k → ¬ S k) ∧ ∀ k, G k → k < w.heap.size
/-- A world and a touch beside it. -/
def Tw (G : Nat → Prop) (w : World) (A : Ad) (V : Wv) (q : Nat) (mark word left : Int) (done : Bool) : Prop := ∃ S, Wd w A V S ∧ (∀ k, G k → ¬ S k) ∧ ¬ S q ∧ IsTo w q mark word left done ∧ ¬ G q ∧ ∀ k, G k → k < w.heap.size
section
variable {G : Nat → Prop} {w : World} {A : Ad} {V : Wv} {q : Nat} {mark word left : Int} {done : Bool}
theorem WdB.g {B : Nat} (h : WdB w A V B) (hB : B ≤ w.heap.size) : WdG (fun k => k < B) w A V := by
  obtain ⟨S, h1, h2⟩ := h
  exact ⟨S, h1, fun k g s => by have := h2 k s; omega, fun k g => by omega⟩
theorem WdG.box (h : WdG G w A V) : IsBox w A V.c V.tk V.h := by obtain ⟨S, h1, h2, h3⟩ := h; exact h1.box
theorem WdG.new {W : World} (h : WdG G w A V) (hb : Below w.heap.size w W) : WdG G W A V := by
  obtain ⟨S, h1, h2, h3⟩ := h
  exact ⟨S, h1.new hb, h2, fun k g => Nat.lt_of_lt_of_le (h3 k g) hb.size⟩
theorem WdG.rng (h : WdG G w A V) {a : Int} (ha : isU a) : isU (V.f a) := by obtain ⟨S, h1, h2, h3⟩ := h; exact h1.rng ha
theorem WdG.post {w' : World} {V' : Wv} {S : Nat → Prop} (h2 : ∀ k, G k → ¬ S k) (h3 : ∀ k, G k → k < w.heap.size) (hp : WdPost w A V' S w') : WdG G w' A V' ∧ Kp G w w' := by
  obtain ⟨S', t, hw⟩ := hp
  refine ⟨⟨S', hw, fun k g s => ?_, fun k g => Nat.lt_of_lt_of_le (h3 k g) t.keeps.size⟩, t.keeps.mono (fun k _ s g => h2 k g s)⟩
  rcases t.only k s with s | s
  · exact h2 k g s
  · have := h3 k g; omega
theorem gstore (h : WdG G w A V) {a v : Int} (ha : isU a) (hv : isU v) (hc : V.cnt < 1000000000) :
    Calls Try.prog 10 #[.pointer (some ⟨A.pc, 0, none⟩), .int .u64 a, .int .u64 v] w fun e w' => e = .returned (.int .u64 (V.f a)) ∧ WdG G w' A (V.acc (upd V.f a v) 2 a (V.f a) v) ∧ Kp G w w' := by
  obtain ⟨S, h1, h2, h3⟩ := h
  exact (wstore h1 ha hv hc).mono fun e w' ⟨he, hp⟩ => ⟨he, WdG.post h2 h3 hp⟩
theorem gpeek (h : WdG G w A V) {a : Int} (ha : isU a) :
    Calls Try.prog 12 #[.pointer (some ⟨A.pc, 0, none⟩), .int .u64 a] w fun e w' => e = .returned (.int .u64 (V.f a)) ∧ w = w' := by
  obtain ⟨S, h1, h2, h3⟩ := h
  exact wpeek h1 ha
theorem Tw.to (h : Tw G w A V q mark word left done) : IsTo w q mark word left done := by obtain ⟨S, h1, h2, h3, h4, h5, h6⟩ := h; exact h4
theorem Tw.box (h : Tw G w A V q mark word left done) : IsBox w A V.c V.tk V.h := by obtain ⟨S, h1, h2, h3, h4, h5, h6⟩ := h; exact h1.box
theorem Tw.wdG (h : Tw G w A V q mark word left done) : WdG (fun k => G k ∨ k = q) w A V := by
  obtain ⟨S, h1, h2, h3, h4, h5, h6⟩ := h
  refine ⟨S, h1, fun k g => ?_, fun k g => ?_⟩
  · rcases g with g | rfl
    · exact h2 k g
    · exact h3
  · rcases g with g | rfl
    · exact h6 k g
    · exact h4.lt
theorem Tw.rng (h : Tw G w A V q mark word left done) {a : Int} (ha : isU a) : isU (V.f a) := by obtain ⟨S, h1, _⟩ := h; exact h1.rng ha
theorem Tw.ne (h : Tw G w A V q mark word left done) : A.p ≠ q := by
  obtain ⟨S, ⟨n, SC, SI, SN, h1⟩, h2, h3, h4, h5, h6⟩ := h
  intro e
  exact h3 (e ▸ h1.here)
theorem Tw.new {W : World} (h : Tw G w A V q mark word left done) (hb : Below w.heap.size w W) : Tw G W A V q mark word left done := by
  obtain ⟨S, h1, h2, h3, h4, h5, h6⟩ := h
  exact ⟨S, h1.new hb, h2, h3, h4.keep (Keeps.of_new (S := fun _ => False) hb) id, h5, fun k g => Nat.lt_of_lt_of_le (h6 k g) hb.size⟩
theorem Tw.post {w' : World} {V' : Wv} {S : Nat → Prop} (h2 : ∀ k, G k → ¬ S k) (h3 : ¬ S q) (h4 : IsTo w q mark word left done) (h5 : ¬ G q) (h6 : ∀ k, G k → k < w.heap.size) (hp : WdPost w A V' S w') : Tw G w' A V' q mark word left done ∧ Kp G w w' := by
  obtain ⟨S', t, hw⟩ := hp
  have hl := h4.lt
  refine ⟨⟨S', hw, fun k g s => ?_, fun s => ?_, h4.keep t.keeps h3, h5, fun k g => Nat.lt_of_lt_of_le (h6 k g) t.keeps.size⟩, t.keeps.mono (fun k _ s g => h2 k g s)⟩
  · rcases t.only k s with s | s
    · exact h2 k g s
    · have := h6 k g; omega
  · rcases t.only q s with s | s
    · exact h3 s
    · omega
theorem Tw.set (h : Tw G w A V q mark word left done) {word' left' : Int} {done' : Bool} (i : Nat) (u : Value) (ht : IsTo (w.setCell ⟨q, i, none⟩ u) q mark word' left' done') : Tw G (w.setCell ⟨q, i, none⟩ u) A V q mark word' left' done' := by
  obtain ⟨S, h1, h2, h3, h4, h5, h6⟩ := h
  have hk := Keeps.setCell (S := fun k => k = q) (Keeps.refl _ w) (p := ⟨q, i, none⟩) (.inl rfl) u
  exact ⟨S, h1.keep hk (fun k s e => h3 (e ▸ s)), h2, h3, ht, h5, fun k g => Nat.lt_of_lt_of_le (h6 k g) hk.size⟩
theorem Tw.below (h : Tw G w A V q mark word left done) (i : Nat) (u : Value) {W : World} (hb : Kp G W w) : Kp G W (w.setCell ⟨q, i, none⟩ u) := by
  obtain ⟨S, h1, h2, h3, h4, h5, h6⟩ := h
  exact Keeps.setCell (S := fun k => ¬ G k) hb (p := ⟨q, i, none⟩) (.inl h5) u
theorem Tw.load (h : Tw G w A V q mark word left done) {a : Int} (ha : isU a) (hc : V.cnt < 1000000000) :
    Calls Try.prog 63 #[.pointer (some ⟨A.pc, 0, none⟩), .int .u64 a] w fun e w' => e = .returned (.int .u64 (V.f a)) ∧ Tw G w' A (V.acc V.f 1 a (V.f a) (V.f a)) q mark word left done ∧ Kp G w w' := by
  obtain ⟨S, h1, h2, h3, h4, h5, h6⟩ := h
  exact (wload h1 ha hc).mono fun e w' ⟨he, hp⟩ => ⟨he, Tw.post h2 h3 h4 h5 h6 hp⟩
theorem Tw.cas (h : Tw G w A V q mark word left done) {a was is : Int} (ha : isU a) (hv : isU is) (hc : V.cnt < 1000000000) {r : Bool} (hr : (V.f a == was) = r) :
    Calls Try.prog 64 #[.pointer (some ⟨A.pc, 0, none⟩), .int .u64 a, .int .u64 was, .int .u64 is] w fun e w' => e = .returned (.tuple #[.int .u64 (V.f a), .bool r]) ∧ Tw G w' A (V.acc (upd V.f a (casI r is (V.f a))) 3 a (V.f a) (casI r is (V.f a))) q mark word left done ∧ Kp G w w' := by
  obtain ⟨S, h1, h2, h3, h4, h5, h6⟩ := h
  exact (wcas h1 ha hv hc hr).mono fun e w' ⟨he, hp⟩ => ⟨he, Tw.post h2 h3 h4 h5 h6 hp⟩
theorem markedw (v : Int) (w : World) (h1 : 0 ≤ v) (h2 : v < 18446744073709551616) : Calls Try.prog 11 #[.int .u64 v] w fun e w' => e = .returned (.bool (v % 2 == 1)) ∧ w = w' := by
  have hm : bits .and .u64 v 1 = v % 2 := mask_u64 1 (by decide) v h1 (by omega)
  go_enter Try.func11, Try.ntmps11
  go_wp2
  go_ret
  exact ⟨rfl, rfl⟩
theorem overw (h : IsTo w q mark word left done) (hl : left = 0) : Calls Try.prog 14 #[.pointer (some ⟨q, 0, none⟩)] w fun e w' => e = .returned (.bool true) ∧ w = w' := by
  have c2 := h.c2
  subst hl
  clear h
  go_enter Try.func14, Try.ntmps14
  go_wp2_with fail
  go_ret
  exact ⟨rfl, rfl⟩
theorem overn (h : IsTo w q mark word left done) (hl : (left == 0) = false) : Calls Try.prog 14 #[.pointer (some ⟨q, 0, none⟩)] w fun e w' => e = .returned (.bool false) ∧ w = w' := by
  have c2 := h.c2
  clear h
  go_enter Try.func14, Try.ntmps14
  go_wp2_with fail
  go_ret
  exact ⟨rfl, rfl⟩
theorem donew (h : IsTo w q mark word left done) : Calls Try.prog 17 #[.pointer (some ⟨q, 0, none⟩)] w fun e w' => e = .returned (.bool done) ∧ w = w' := by
  have c3 := h.c3
  clear h
  go_enter Try.func17, Try.ntmps17
  go_wp2_with fail
  go_ret
  exact ⟨rfl, rfl⟩
set_option maxHeartbeats 1000000 in
set_option maxRecDepth 100000 in
theorem loadMarkw (h : Tw G w A V q mark word left done) (hm : isU mark) (hc : V.cnt < 1000000000) :
    Calls Try.prog 40 #[.pointer (some ⟨q, 0, none⟩), .pointer (some ⟨A.p, 0, none⟩)] w fun e w' => e = .returned (.bool (!(V.f mark % 2 == 1))) ∧ Tw G w' A (V.acc V.f 1 mark (V.f mark) (V.f mark)) q mark (V.f mark) left done ∧ Kp G w w' := by
  obtain ⟨u1, u2⟩ := h.rng hm
  have hd : Tw G w.drew A V q mark word left done := h.new (Below.refl _ _).drew
  have p0 := hd.box.c0
  have t0 := hd.to.c0
  have CL := Lib.hid (hd.load hm hc)
  generalize hV' : V.acc V.f 1 mark (V.f mark) (V.f mark) = V' at *
  generalize V.f mark = v at *
  clear hd h hV'
  go_enter Try.func40, Try.ntmps40
  go_wp2_with fail
  go_region_held3 (fun w' => w'.cell? ⟨A.p, 0, none⟩ = some (.pointer (some ⟨A.pc, 0, none⟩)) ∧ w'.cell? ⟨q, 0, none⟩ = some (.int .u64 mark))
    (first | exact ⟨by assumption, by assumption⟩ | exact ⟨(World.cell?_setCell_other _ _ _ _ (by intro e; injection e with e1 e2; first | exact hne e1.symm | exact hne e1 | (simp at e2; done))).trans (by assumption), set_other (by decide) (by assumption)⟩)
    (first
      | (go_at_call 63; ((with_reducible refine CL.out.mono ?_); rintro e w2 ⟨rfl, hT, K2⟩; replace p0 := hT.box.c0; replace t0 := hT.to.c0; have t1 := hT.to.c1; have f1 := hT.to.fz 1 (by decide); have hne : A.p ≠ q := hT.ne; have HT := Lib.hid hT; have HK := Lib.hid K2; clear hT K2 CL)))
  have hT3 := HT.out.set 1 (.int .u64 v) (HT.out.to.word v)
  have hB3 := HT.out.below 1 (.int .u64 v) (Kp.to (Keeps.drew (Keeps.refl _ _)) HK.out)
  generalize World.setCell _ _ _ = W at *
  have HT3 := Lib.hid hT3
  have HB3 := Lib.hid hB3
  have t1 := hT3.to.c1
  clear p0 t0 hT3 hB3 f1
  go_wp2_with fail
  refine (markedw v _ u1 u2).mono ?_
  rintro e w4 ⟨rfl, rfl⟩
  go_wp2_with fail
  go_ret
  exact ⟨rfl, HT3.out, HB3.out⟩
theorem loadSweepw (h : Tw G w A V q mark word left done) (hc : V.cnt < 1000000000) :
    Calls Try.prog 41 #[.pointer (some ⟨q, 0, none⟩), .pointer (some ⟨A.p, 0, none⟩)] w fun e w' => e = .returned (.bool (V.f 5 == 0)) ∧ Tw G w' A (V.acc V.f 1 5 (V.f 5) (V.f 5)) q mark word left done ∧ Kp G w w' := by
  have p0 := h.box.c0
  have CL := Lib.hid (h.load (a := 5) ⟨by decide, by decide⟩ hc)
  generalize hV' : V.acc V.f 1 5 (V.f 5) (V.f 5) = V' at *
  generalize V.f 5 = v at *
  clear h hV'
  go_enter Try.func41, Try.ntmps41
  go_wp2_with fail
  refine CL.out.mono ?_
  rintro e w2 ⟨rfl, hT, K2⟩
  have HT := Lib.hid hT
  have HK := Lib.hid K2
  clear hT K2 p0 CL
  go_wp2_with fail
  go_ret
  exact ⟨rfl, HT.out, HK.out⟩
set_option maxHeartbeats 1000000 in
set_option maxRecDepth 100000 in
theorem setMarkw (h : Tw G w A V q mark word left done) (hm : isU mark) (hw : 0 ≤ word) (hw2 : word < 18446744073709551615) (hc : V.cnt < 1000000000) {r : Bool} (hr : (V.f mark == word) = r) :
    Calls Try.prog 42 #[.pointer (some ⟨q, 0, none⟩), .pointer (some ⟨A.p, 0, none⟩)] w fun e w' => e = .returned (.bool true) ∧ Tw G w' A (V.acc (upd V.f mark (casI r (word + 1) (V.f mark))) 3 mark (V.f mark) (casI r (word + 1) (V.f mark))) q mark word left r ∧ Kp G w w' := by
  have hd : Tw G w.drew A V q mark word left done := h.new (Below.refl _ _).drew
  have p0 := hd.box.c0
  have t0 := hd.to.c0
  have t1 := hd.to.c1
  have CL := Lib.hid (hd.cas hm (is := word + 1) ⟨by omega, by omega⟩ hc hr)
  generalize hV' : V.acc (upd V.f mark (casI r (word + 1) (V.f mark))) 3 mark (V.f mark) (casI r (word + 1) (V.f mark)) = V' at *
  generalize V.f mark = v at *
  clear hd h hV' hr
  have yw : IntKind.u64.wrap (word + 1) = word + 1 := by rw [IntKind.wrap_u64]; omega
  go_enter Try.func42, Try.ntmps42
  go_wp2_with fail
  go_region_held3 (fun w' => w'.cell? ⟨A.p, 0, none⟩ = some (.pointer (some ⟨A.pc, 0, none⟩)) ∧ w'.cell? ⟨q, 0, none⟩ = some (.int .u64 mark) ∧ w'.cell? ⟨q, 1, none⟩ = some (.int .u64 word))
    (first | exact ⟨by assumption, by assumption, by assumption⟩ | exact ⟨(World.cell?_setCell_other _ _ _ _ (by intro e; injection e with e1 e2; first | exact hne e1.symm | exact hne e1 | (simp at e2; done))).trans (by assumption), set_other (by decide) (by assumption), set_other (by decide) (by assumption)⟩)
    (first
      | (go_at_call 64; ((with_reducible refine CL.out.mono ?_); rintro e w2 ⟨rfl, hT, K2⟩; replace p0 := hT.box.c0; replace t0 := hT.to.c0; replace t1 := hT.to.c1; have t3 := hT.to.c3; have f3 := hT.to.fz 3 (by decide); have hne : A.p ≠ q := hT.ne; have HT := Lib.hid hT; have HK := Lib.hid K2; clear hT K2 CL)))
  have hT3 := HT.out.set 3 (.bool r) (HT.out.to.done r)
  have hB3 := HT.out.below 3 (.bool r) (Kp.to (Keeps.drew (Keeps.refl _ _)) HK.out)
  generalize World.setCell _ _ _ = W at *
  have HT3 := Lib.hid hT3
  have HB3 := Lib.hid hB3
  clear p0 t0 t1 t3 hT3 hB3 f3
  go_wp2_with fail
  go_ret
  exact ⟨rfl, HT3.out, HB3.out⟩
end
end Go.Proofs.Ytepkpbhhiianpaa
/- Next: Touches of an item: Step, Run. -/
namespace Go.Proofs.Ytepkpbhhiianpaa
open Go.RowKit Go.Maps
set_option linter.unusedVariables false
section
variable {G : Nat → Prop} {w : World} {A : Ad} {V : Wv} {q : Nat} {mark word : Int} {done : Bool}
/-- What a step leaves. -/
def StP (G : Nat → Prop) (w : World) (A : Ad) (V : Wv) (q : Nat) (mark word left : Int) (done over : Bool) (e : Ending) (w' : World) : Prop := e = .returned (.bool over) ∧ Tw G w' A V q mark word left done ∧ Kp G w w'
set_option maxHeartbeats 1000000 in
set_option maxRecDepth 100000 in
theorem step3m (h : Tw G w A V q mark word 3 done) (hm : isU mark) (hc : V.cnt < 1000000000) (hv : (V.f mark % 2 == 1) = true) :
    Calls Try.prog 16 #[.pointer (some ⟨q, 0, none⟩), .pointer (some ⟨A.p, 0, none⟩)] w (StP G w A (V.acc V.f 1 mark (V.f mark) (V.f mark)) q mark (V.f mark) 0 done true) := by
  have CO := Lib.hid (overn h.to (by decide))
  have CS := Lib.hid (fun o => (show Calls _ _ _ (w.alloc o) _ from by have := loadMarkw (h.new ((Below.refl w.heap.size w).alloc (Nat.le_refl _) o)) hm hc; rw [hv] at this; exact this))
  have hlt := h.to.lt
  have d2 := fun o => (World.cell?_alloc_lt w o ⟨q, 2, none⟩ hlt).trans h.to.c2
  obtain ⟨V2, hV2⟩ : ∃ V2, V2 = V.acc V.f 1 mark (V.f mark) (V.f mark) := ⟨_, rfl⟩
  rw [← hV2] at CS ⊢
  clear hV2 h
  go_enter Try.func16, Try.ntmps16
  go_wp2_with fail
  refine CO.out.mono ?_
  rintro e w1 ⟨rfl, rfl⟩
  go_wp2_with fail
  refine (CS.out _).mono ?_
  rintro e w2 ⟨rfl, hT, K2⟩
  have c2 := hT.to.c2
  have f2 := hT.to.fz 2 (by decide)
  have hT3 := hT.set 2 (.int .i64 0) (hT.to.left 0)
  have hB3 := hT.below 2 (.int .i64 0) (Kp.to ((Keeps.refl _ w).alloc _) K2)
  have HT3 := Lib.hid hT3
  have HB3 := Lib.hid hB3
  have CO2 := Lib.hid (overw hT3.to rfl)
  clear hT K2 hT3 hB3 d2 CS CO
  go_wp2_with fail
  refine CO2.out.mono ?_
  rintro e w4 ⟨rfl, rfl⟩
  go_wp2_with fail
  go_ret
  exact ⟨rfl, HT3.out, HB3.out⟩
set_option maxHeartbeats 1000000 in
set_option maxRecDepth 100000 in
theorem step3u (h : Tw G w A V q mark word 3 done) (hm : isU mark) (hc : V.cnt < 1000000000) (hv : (V.f mark % 2 == 1) = false) :
    Calls Try.prog 16 #[.pointer (some ⟨q, 0, none⟩), .pointer (some ⟨A.p, 0, none⟩)] w (StP G w A (V.acc V.f 1 mark (V.f mark) (V.f mark)) q mark (V.f mark) 2 done false) := by
  have CO := Lib.hid (overn h.to (by decide))
  have CS := Lib.hid (fun o => (show Calls _ _ _ (w.alloc o) _ from by have := loadMarkw (h.new ((Below.refl w.heap.size w).alloc (Nat.le_refl _) o)) hm hc; rw [hv] at this; exact this))
  have hlt := h.to.lt
  have d2 := fun o => (World.cell?_alloc_lt w o ⟨q, 2, none⟩ hlt).trans h.to.c2
  obtain ⟨V2, hV2⟩ : ∃ V2, V2 = V.acc V.f 1 mark (V.f mark) (V.f mark) := ⟨_, rfl⟩
  rw [← hV2] at CS ⊢
  clear hV2 h
  go_enter Try.func16, Try.ntmps16
  go_wp2_with fail
  refine CO.out.mono ?_
  rintro e w1 ⟨rfl, rfl⟩
  go_wp2_with fail
  refine (CS.out _).mono ?_
  rintro e w2 ⟨rfl, hT, K2⟩
  have c2 := hT.to.c2
  have f2 := hT.to.fz 2 (by decide)
  have hT3 := hT.set 2 (.int .i64 2) (hT.to.left 2)
  have hB3 := hT.below 2 (.int .i64 2) (Kp.to ((Keeps.refl _ w).alloc _) K2)
  have HT3 := Lib.hid hT3
  have HB3 := Lib.hid hB3
  have CO2 := Lib.hid (overn hT3.to (by decide))
  clear hT K2 hT3 hB3 d2 CS CO
  go_wp2_with fail
  refine CO2.out.mono ?_
  rintro e w4 ⟨rfl, rfl⟩
  go_wp2_with fail
  go_ret
  exact ⟨rfl, HT3.out, HB3.out⟩
set_option maxHeartbeats 1000000 in
set_option maxRecDepth 100000 in
theorem step2s (h : Tw G w A V q mark word 2 done) (hc : V.cnt < 1000000000) (hv : (V.f 5 == 0) = false) :
    Calls Try.prog 16 #[.pointer (some ⟨q, 0, none⟩), .pointer (some ⟨A.p, 0, none⟩)] w (StP G w A (V.acc V.f 1 5 (V.f 5) (V.f 5)) q mark word 0 done true) := by
  have CO := Lib.hid (overn h.to (by decide))
  have CS := Lib.hid (fun o => (show Calls _ _ _ (w.alloc o) _ from by have := loadSweepw (h.new ((Below.refl w.heap.size w).alloc (Nat.le_refl _) o)) hc; rw [hv] at this; exact this))
  have hlt := h.to.lt
  have d2 := fun o => (World.cell?_alloc_lt w o ⟨q, 2, none⟩ hlt).trans h.to.c2
  obtain ⟨V2, hV2⟩ : ∃ V2, V2 = V.acc V.f 1 5 (V.f 5) (V.f 5) := ⟨_, rfl⟩
  rw [← hV2] at CS ⊢
  clear hV2 h
  go_enter Try.func16, Try.ntmps16
  go_wp2_with fail
  refine CO.out.mono ?_
  rintro e w1 ⟨rfl, rfl⟩
  go_wp2_with fail
  refine (CS.out _).mono ?_
  rintro e w2 ⟨rfl, hT, K2⟩
  have c2 := hT.to.c2
  have f2 := hT.to.fz 2 (by decide)
  have hT3 := hT.set 2 (.int .i64 0) (hT.to.left 0)
  have hB3 := hT.below 2 (.int .i64 0) (Kp.to ((Keeps.refl _ w).alloc _) K2)
  have HT3 := Lib.hid hT3
  have HB3 := Lib.hid hB3
  have CO2 := Lib.hid (overw hT3.to rfl)
  clear hT K2 hT3 hB3 d2 CS CO
  go_wp2_with fail
  refine CO2.out.mono ?_
  rintro e w4 ⟨rfl, rfl⟩
  go_wp2_with fail
  go_ret
  exact ⟨rfl, HT3.out, HB3.out⟩
set_option maxHeartbeats 1000000 in
set_option maxRecDepth 100000 in
theorem step2u (h : Tw G w A V q mark word 2 done) (hc : V.cnt < 1000000000) (hv : (V.f 5 == 0) = true) :
    Calls Try.prog 16 #[.pointer (some ⟨q, 0, none⟩), .pointer (some ⟨A.p, 0, none⟩)] w (StP G w A (V.acc V.f 1 5 (V.f 5) (V.f 5)) q mark word 1 done false) := by
  have CO := Lib.hid (overn h.to (by decide))
  have CS := Lib.hid (fun o => (show Calls _ _ _ (w.alloc o) _ from by have := loadSweepw (h.new ((Below.refl w.heap.size w).alloc (Nat.le_refl _) o)) hc; rw [hv] at this; exact this))
  have hlt := h.to.lt
  have d2 := fun o => (World.cell?_alloc_lt w o ⟨q, 2, none⟩ hlt).trans h.to.c2
  obtain ⟨V2, hV2⟩ : ∃ V2, V2 = V.acc V.f 1 5 (V.f 5) (V.f 5) := ⟨_, rfl⟩
  rw [← hV2] at CS ⊢
  clear hV2 h
  go_enter Try.func16, Try.ntmps16
  go_wp2_with fail
  refine CO.out.mono ?_
  rintro e w1 ⟨rfl, rfl⟩
  go_wp2_with fail
  refine (CS.out _).mono ?_
  rintro e w2 ⟨rfl, hT, K2⟩
  have c2 := hT.to.c2
  have f2 := hT.to.fz 2 (by decide)
  have hT3 := hT.set 2 (.int .i64 1) (hT.to.left 1)
  have hB3 := hT.below 2 (.int .i64 1) (Kp.to ((Keeps.refl _ w).alloc _) K2)
  have HT3 := Lib.hid hT3
  have HB3 := Lib.hid hB3
  have CO2 := Lib.hid (overn hT3.to (by decide))
  clear hT K2 hT3 hB3 d2 CS CO
  go_wp2_with fail
  refine CO2.out.mono ?_
  rintro e w4 ⟨rfl, rfl⟩
  go_wp2_with fail
  go_ret
  exact ⟨rfl, HT3.out, HB3.out⟩
set_option maxHeartbeats 1000000 in
set_option maxRecDepth 100000 in
theorem step1 (h : Tw G w A V q mark word 1 done) (hm : isU mark) (hw : 0 ≤ word) (hw2 : word < 18446744073709551615) (hc : V.cnt < 1000000000) {r : Bool} (hr : (V.f mark == word) = r) :
    Calls Try.prog 16 #[.pointer (some ⟨q, 0, none⟩), .pointer (some ⟨A.p, 0, none⟩)] w (StP G w A (V.acc (upd V.f mark (casI r (word + 1) (V.f mark))) 3 mark (V.f mark) (casI r (word + 1) (V.f mark))) q mark word 0 r true) := by
  have CO := Lib.hid (overn h.to (by decide))
  have CS := Lib.hid (fun o => (setMarkw (h.new ((Below.refl w.heap.size w).alloc (Nat.le_refl _) o)) hm hw hw2 hc hr))
  have hlt := h.to.lt
  have d2 := fun o => (World.cell?_alloc_lt w o ⟨q, 2, none⟩ hlt).trans h.to.c2
  obtain ⟨V2, hV2⟩ : ∃ V2, V2 = V.acc (upd V.f mark (casI r (word + 1) (V.f mark))) 3 mark (V.f mark) (casI r (word + 1) (V.f mark)) := ⟨_, rfl⟩
  rw [← hV2] at CS ⊢
  clear hV2 h
  go_enter Try.func16, Try.ntmps16
  go_wp2_with fail
  refine CO.out.mono ?_
  rintro e w1 ⟨rfl, rfl⟩
  go_wp2_with fail
  refine (CS.out _).mono ?_
  rintro e w2 ⟨rfl, hT, K2⟩
  have c2 := hT.to.c2
  have f2 := hT.to.fz 2 (by decide)
  have hT3 := hT.set 2 (.int .i64 0) (hT.to.left 0)
  have hB3 := hT.below 2 (.int .i64 0) (Kp.to ((Keeps.refl _ w).alloc _) K2)
  have HT3 := Lib.hid hT3
  have HB3 := Lib.hid hB3
  have CO2 := Lib.hid (overw hT3.to rfl)
  clear hT K2 hT3 hB3 d2 CS CO
  go_wp2_with fail
  refine CO2.out.mono ?_
  rintro e w4 ⟨rfl, rfl⟩
  go_wp2_with fail
  go_ret
  exact ⟨rfl, HT3.out, HB3.out⟩
end
end Go.Proofs.Ytepkpbhhiianpaa
/- Next: Touches of an item: NewTouch, Run. -/
namespace Go.Proofs.Ytepkpbhhiianpaa
open Go.RowKit Go.Maps
set_option linter.unusedVariables false
section
variable {G : Nat → Prop} {w : World} {A : Ad} {V : Wv} {q : Nat} {mark word : Int} {done : Bool}
set_option maxHeartbeats 1000000 in
set_option maxRecDepth 100000 in
theorem run_m (h : Tw G w A V q mark word 3 done) (hm : isU mark) (hc : V.cnt < 100000000) (hv : (V.f mark % 2 == 1) = true) :
    Calls Try.prog 20 #[.pointer (some ⟨A.p, 0, none⟩), .iface 38 (.pointer (some ⟨q, 0, none⟩)), .int .i64 9] w fun e w' => e = .returned (.int .i64 1) ∧ Tw G w' A (V.acc V.f 1 mark (V.f mark) (V.f mark)) q mark (V.f mark) 0 done ∧ Kp G w w' := by
  have C1 := Lib.hid (step3m h hm (by omega) hv)
  have CO := Lib.hid (overn h.to (by decide))
  have HB := Lib.hid (show Kp G w w from Keeps.refl _ w)
  clear h
  go_enter Try.func20, Try.ntmps20
  go_wp2_with fail
  refine wp_loop_rounds 2 ?_
  rw [rounds_succ]
  go_wp2_with fail
  refine CO.out.mono ?_
  rintro e w100 ⟨rfl, rfl⟩
  go_wp2_with fail
  refine C1.out.mono ?_
  rintro e w1 ⟨rfl, hT, K⟩
  clear CO C1
  have HB1 := Lib.hid (Kp.to HB.out K)
  have CO := Lib.hid (overw hT.to rfl)
  have HT := Lib.hid hT
  clear hT K
  go_wp2_with fail
  rw [rounds_succ]
  go_wp2_with fail
  refine CO.out.mono ?_
  rintro e w200 ⟨rfl, rfl⟩
  go_wp2_with fail
  go_ret
  exact ⟨rfl, HT.out, HB1.out⟩
set_option maxHeartbeats 1000000 in
set_option maxRecDepth 100000 in
theorem run_s (h : Tw G w A V q mark word 3 done) (hm : isU mark) (hc : V.cnt < 100000000) (hv : (V.f mark % 2 == 1) = false) (hs : (V.f 5 == 0) = false) :
    Calls Try.prog 20 #[.pointer (some ⟨A.p, 0, none⟩), .iface 38 (.pointer (some ⟨q, 0, none⟩)), .int .i64 9] w fun e w' => e = .returned (.int .i64 2) ∧ Tw G w' A ((V.acc V.f 1 mark (V.f mark) (V.f mark)).acc V.f 1 5 (V.f 5) (V.f 5)) q mark (V.f mark) 0 done ∧ Kp G w w' := by
  have C1 := Lib.hid (step3u h hm (by omega) hv)
  have CO := Lib.hid (overn h.to (by decide))
  have HB := Lib.hid (show Kp G w w from Keeps.refl _ w)
  clear h
  go_enter Try.func20, Try.ntmps20
  go_wp2_with fail
  refine wp_loop_rounds 3 ?_
  rw [rounds_succ]
  go_wp2_with fail
  refine CO.out.mono ?_
  rintro e w100 ⟨rfl, rfl⟩
  go_wp2_with fail
  refine C1.out.mono ?_
  rintro e w1 ⟨rfl, hT, K⟩
  clear CO C1
  have HB1 := Lib.hid (Kp.to HB.out K)
  have CO := Lib.hid (overn hT.to (by decide))
  have C1 := Lib.hid (step2s hT (by show V.cnt + 1 < _; omega) hs)
  clear hT K
  go_wp2_with fail
  rw [rounds_succ]
  go_wp2_with fail
  refine CO.out.mono ?_
  rintro e w101 ⟨rfl, rfl⟩
  go_wp2_with fail
  refine C1.out.mono ?_
  rintro e w2 ⟨rfl, hT, K⟩
  clear CO C1
  have HB2 := Lib.hid (Kp.to HB1.out K)
  have CO := Lib.hid (overw hT.to rfl)
  have HT := Lib.hid hT
  clear hT K
  go_wp2_with fail
  rw [rounds_succ]
  go_wp2_with fail
  refine CO.out.mono ?_
  rintro e w200 ⟨rfl, rfl⟩
  go_wp2_with fail
  go_ret
  exact ⟨rfl, HT.out, HB2.out⟩
set_option maxHeartbeats 1000000 in
set_option maxRecDepth 100000 in
theorem run_u (h : Tw G w A V q mark word 3 done) (hm : isU mark) (hc : V.cnt < 100000000) (hv : (V.f mark % 2 == 1) = false) (hs : (V.f 5 == 0) = true) :
    Calls Try.prog 20 #[.pointer (some ⟨A.p, 0, none⟩), .iface 38 (.pointer (some ⟨q, 0, none⟩)), .int .i64 9] w fun e w' => e = .returned (.int .i64 3) ∧ Tw G w' A (((V.acc V.f 1 mark (V.f mark) (V.f mark)).acc V.f 1 5 (V.f 5) (V.f 5)).acc (upd V.f mark (V.f mark + 1)) 3 mark (V.f mark) (V.f mark + 1)) q mark (V.f mark) 0 true ∧ Kp G w w' := by
  have hu : isU (V.f mark) := h.rng hm
  have hu2 : V.f mark ≠ 18446744073709551615 := by intro e; rw [e] at hv; simp at hv
  have C1 := Lib.hid (step3u h hm (by omega) hv)
  have CO := Lib.hid (overn h.to (by decide))
  have HB := Lib.hid (show Kp G w w from Keeps.refl _ w)
  clear h
  go_enter Try.func20, Try.ntmps20
  go_wp2_with fail
  refine wp_loop_rounds 4 ?_
  rw [rounds_succ]
  go_wp2_with fail
  refine CO.out.mono ?_
  rintro e w100 ⟨rfl, rfl⟩
  go_wp2_with fail
  refine C1.out.mono ?_
  rintro e w1 ⟨rfl, hT, K⟩
  clear CO C1
  have HB1 := Lib.hid (Kp.to HB.out K)
  have CO := Lib.hid (overn hT.to (by decide))
  have C1 := Lib.hid (step2u hT (by show V.cnt + 1 < _; omega) hs)
  clear hT K
  go_wp2_with fail
  rw [rounds_succ]
  go_wp2_with fail
  refine CO.out.mono ?_
  rintro e w101 ⟨rfl, rfl⟩
  go_wp2_with fail
  refine C1.out.mono ?_
  rintro e w2 ⟨rfl, hT, K⟩
  clear CO C1
  have HB2 := Lib.hid (Kp.to HB1.out K)
  have CO := Lib.hid (overn hT.to (by decide))
  have C1 := Lib.hid ((step1 (r := true) hT hm hu.1 (by have := hu.2; omega) (by show V.cnt + 1 + 1 < _; omega) (by simp [Wv.acc])))
  clear hT K
  go_wp2_with fail
  rw [rounds_succ]
  go_wp2_with fail
  refine CO.out.mono ?_
  rintro e w102 ⟨rfl, rfl⟩
  go_wp2_with fail
  refine C1.out.mono ?_
  rintro e w3 ⟨rfl, hT, K⟩
  clear CO C1
  have HB3 := Lib.hid (Kp.to HB2.out K)
  have CO := Lib.hid (overw hT.to rfl)
  have HT := Lib.hid hT
  clear hT K
  go_wp2_with fail
  rw [rounds_succ]
  go_wp2_with fail
  refine CO.out.mono ?_
  rintro e w200 ⟨rfl, rfl⟩
  go_wp2_with fail
  go_ret
  exact ⟨rfl, HT.out, HB3.out⟩
/-- A new touch. -/
theorem newTo (h : WdG G w A V) (r : Int) (r1 : 1 ≤ r) (r2 : r ≤ 9223372036854775807) :
    Calls Try.prog 15 #[.int .i64 r] w fun e w' => e = .returned (.pointer (some ⟨w.heap.size, 0, none⟩)) ∧ Tw G w' A V w.heap.size (4294967296 + r) 0 3 false ∧ Below w.heap.size w w' := by
  have hr : reff r = 4294967296 + r := by unfold reff; rw [if_neg (by omega)]
  have CR := refw r w r2
  rw [hr] at CR
  have C := Lib.hid CR
  have HH := Lib.hid h
  clear h CR hr
  go_enter Try.func15, Try.ntmps15
  go_wp2_with fail
  refine C.out.mono ?_
  rintro e w1 ⟨rfl, rfl⟩
  go_wp2_with fail
  go_ret
  refine ⟨rfl, ?_, (Below.refl _ _).alloc (Nat.le_refl _) _⟩
  obtain ⟨S, h1, h2, h3⟩ := HH.out
  refine ⟨S, h1.new ((Below.refl _ _).alloc (Nat.le_refl _) _), h2, fun s => ?_, ⟨by simp, by simp, by simp, by simp, fun j hj => by simp⟩, fun g => ?_, fun k g => ?_⟩
  · have := h1.lt _ s; omega
  · have := h3 _ g; omega
  · have := h3 k g; simp; omega
end
end Go.Proofs.Ytepkpbhhiianpaa
/- Next: Touches of an item: the examples of chapter 22. -/
namespace Go.Proofs.Ytepkpbhhiianpaa
open Go.RowKit Go.Maps
set_option linter.unusedVariables false

def lessF (v : Int) : Int := if v % 2 = 1 then IntKind.u64.wrap (v + 1) else v
theorem lessw (v : Int) (w : World) (h1 : 0 ≤ v) (h2 : v < 18446744073709551616) : Calls Try.prog 13 #[.int .u64 v] w fun e w' => e = .returned (.int .u64 (lessF v)) ∧ w = w' := by
  have CM := markedw v w h1 h2
  by_cases hv : v % 2 = 1
  · rw [show (v % 2 == 1) = true by simpa using hv] at CM
    have C := Lib.hid CM
    have e : lessF v = IntKind.u64.wrap (v + 1) := by unfold lessF; rw [if_pos hv]
    rw [e]
    clear CM e hv
    go_enter Try.func13, Try.ntmps13
    go_wp2_with fail
    refine C.out.mono ?_
    rintro e w' ⟨rfl, rfl⟩
    go_wp2_with fail
    go_ret
    exact ⟨rfl, rfl⟩
  · rw [show (v % 2 == 1) = false by simpa using hv] at CM
    have C := Lib.hid CM
    have e : lessF v = v := by unfold lessF; rw [if_neg hv]
    rw [e]
    clear CM e hv
    go_enter Try.func13, Try.ntmps13
    go_wp2_with fail
    refine C.out.mono ?_
    rintro e w' ⟨rfl, rfl⟩
    go_wp2_with fail
    go_ret
    exact ⟨rfl, rfl⟩
/-- The worlds of the examples. -/
def W1 : Wv := V0 ⟨1, 8, 3, 1, 16⟩
def IsW1 (w : World) (e : Ending) (w' : World) : Prop := ∃ A, e = .returned (.pointer (some ⟨A.p, 0, none⟩)) ∧ WdB w' A W1 w.heap.size ∧ Below w.heap.size w w'
theorem world1 (w : World) : Calls Try.prog 7 #[.int .i64 1] w (IsW1 w) := by
  have C := Lib.hid (newW 1 8 3 1 16 w (by decide))
  go_enter Try.func7, Try.ntmps7
  go_wp2_with fail
  refine C.out.mono ?_
  rintro e w1 ⟨A, rfl, hW, K⟩
  have HW := Lib.hid hW
  have HK := Lib.hid K
  clear hW K C
  go_wp2_with fail
  go_ret
  exact ⟨A, rfl, HW.out, HK.out⟩
theorem w1_f (z : Int) (h : z ≠ 2) : W1.f z = 0 := by show upd (fun _ => 0) 2 1 z = 0; exact upd_other h
theorem w1_cnt : W1.cnt = 0 := rfl
section
variable {G : Nat → Prop} {w : World} {A : Ad} {V : Wv} {q : Nat} {m v : Int}
/-- What a run leaves: its world's words, but for one; its touch. -/
def RunP (G : Nat → Prop) (w : World) (A : Ad) (V : Wv) (q : Nat) (m nv word : Int) (done : Bool) (k : Int) (e : Ending) (w' : World) : Prop := e = .returned (.int .i64 k) ∧ ∃ V' : Wv, Tw G w' A V' q m word 0 done ∧ (V'.f m = nv ∧ (∀ z, z ≠ m → V'.f z = V.f z) ∧ V'.cnt = V.cnt + k) ∧ Kp G w w'
theorem runU (h : Tw G w A V q m 0 3 false) (hm : isU m) (hc : V.cnt < 100000000) (hf : V.f m = v) (hv : (v % 2 == 1) = false) (h5 : V.f 5 = 0) :
    Calls Try.prog 20 #[.pointer (some ⟨A.p, 0, none⟩), .iface 38 (.pointer (some ⟨q, 0, none⟩)), .int .i64 9] w (RunP G w A V q m (v + 1) v true 3) := by
  refine (run_u h hm hc (by rw [hf]; exact hv) (by rw [h5]; rfl)).mono fun e w' ⟨he, ht, hk⟩ => ⟨he, _, (by rw [hf] at ht; exact ht), ⟨?_, fun z hz => ?_, ?_⟩, hk⟩
  · exact upd_same _ _ _
  · exact upd_other hz
  · show V.cnt + 1 + 1 + 1 = V.cnt + 3; omega
theorem runM (h : Tw G w A V q m 0 3 false) (hm : isU m) (hc : V.cnt < 100000000) (hf : V.f m = v) (hv : (v % 2 == 1) = true) :
    Calls Try.prog 20 #[.pointer (some ⟨A.p, 0, none⟩), .iface 38 (.pointer (some ⟨q, 0, none⟩)), .int .i64 9] w (RunP G w A V q m v v false 1) :=
  (run_m h hm hc (by rw [hf]; exact hv)).mono fun e w' ⟨he, ht, hk⟩ => ⟨he, V.acc V.f 1 m v v, (by rw [hf] at ht; exact ht), ⟨hf, fun z hz => rfl, rfl⟩, hk⟩
theorem runS (h : Tw G w A V q m 0 3 false) (hm : isU m) (hc : V.cnt < 100000000) (hf : V.f m = v) (hv : (v % 2 == 1) = false) (h5 : (V.f 5 == 0) = false) :
    Calls Try.prog 20 #[.pointer (some ⟨A.p, 0, none⟩), .iface 38 (.pointer (some ⟨q, 0, none⟩)), .int .i64 9] w (RunP G w A V q m v v false 2) := by
  refine (run_s h hm hc (by rw [hf]; exact hv) h5).mono fun e w' ⟨he, ht, hk⟩ => ⟨he, (V.acc V.f 1 m v v).acc V.f 1 5 (V.f 5) (V.f 5), (by rw [hf] at ht; exact ht), ⟨hf, fun z hz => rfl, ?_⟩, hk⟩
  show V.cnt + 1 + 1 = V.cnt + 2; omega
theorem WdG.less {G' : Nat → Prop} (h : WdG G w A V) (hG : ∀ k, G' k → G k) : WdG G' w A V := by
  obtain ⟨S, h1, h2, h3⟩ := h
  exact ⟨S, h1, fun k g => h2 k (hG k g), fun k g => h3 k (hG k g)⟩
end
set_option maxHeartbeats 2000000 in
set_option maxRecDepth 100000 in
theorem lives22 (w : World) : Calls Try.prog 8 #[] w fun e w' => e = .returned (.bool true) ∧ Below w.heap.size w w' := by
  obtain ⟨m, hm⟩ : ∃ m : Int, m = 4294967296 + 9 := ⟨_, rfl⟩
  have hm5 : (5 : Int) ≠ m := by omega
  have hm2 : m ≠ 2 := by omega
  have hU : isU m := ⟨by omega, by omega⟩
  have cr := fun W => refw 9 W (by decide)
  rw [show reff 9 = m by rw [hm]; rfl] at cr
  have CR := Lib.hid cr
  have cn : ∀ (G : Nat → Prop) (W : World) (A : Ad) (V : Wv), WdG G W A V → Calls Try.prog 15 #[.int .i64 9] W fun e w' => e = .returned (.pointer (some ⟨W.heap.size, 0, none⟩)) ∧ Tw G w' A V W.heap.size m 0 3 false ∧ Below W.heap.size W w'   := fun G W A V h => by
    have := newTo h 9 (by decide) (by decide)
    rwa [← hm] at this
  have CN := Lib.hid cn
  have CL := Lib.hid (fun W => lessw 1 W (by decide) (by decide))
  rw [show lessF 1 = 2 by rfl] at CL
  have HU := Lib.hid hU
  clear cr cn hm hU
  go_enter Try.func8, Try.ntmps8
  go_wp2_with fail
  refine (world1 _).mono ?_
  rintro e w1 ⟨A, rfl, hW1, K1⟩
  have g1 := hW1.g K1.size
  have HK1 := Lib.hid K1
  have HG1 := Lib.hid g1
  clear hW1 K1 g1
  go_wp2_with fail
  refine (CR.out _).mono ?_
  rintro e w2 ⟨rfl, rfl⟩
  go_wp2_with fail
  refine (CN.out _ _ _ _ HG1.out).mono ?_
  rintro e w2 ⟨rfl, hT2, K2⟩
  obtain ⟨q1, hq1⟩ : ∃ q1, q1 = w1.heap.size := ⟨_, rfl⟩
  rw [← hq1] at hT2 ⊢
  have HQ1 := Lib.hid hq1
  have HK2 := Lib.hid (Kp.of (G := fun k => k < w.heap.size) K2)
  have CRun := Lib.hid (runU hT2 HU.out (by rw [w1_cnt]; decide) (w1_f m hm2) (by decide) (w1_f 5 (by decide)))
  clear hq1 hT2 K2
  go_wp2_with fail
  refine CRun.out.mono ?_
  rintro e w3 ⟨rfl, V3, hT3, ⟨f3, o3, n3⟩, K3⟩
  clear CRun
  have p3 := hT3.box.c0
  have HX3 := Lib.hid hT3.to
  have hW3 := hT3.wdG
  have HF3 := Lib.hid f3
  have HO3 := Lib.hid o3
  have HN3 := Lib.hid (show V3.cnt = 3 by rw [n3]; rfl)
  have cp := gpeek hW3 HU.out
  rw [f3] at cp
  have CP := Lib.hid cp
  have HW3 := Lib.hid hW3
  have HK3 := Lib.hid (Kp.to HK2.out K3)
  clear hT3 f3 o3 n3 K3 hW3 cp
  go_wp2_with fail
  refine CP.out.mono ?_
  rintro e w4 ⟨rfl, rfl⟩
  clear p3 CP
  go_wp2_with fail
  refine (CN.out _ _ _ _ HW3.out).mono ?_
  rintro e w4 ⟨rfl, hT4, K4⟩
  have HK4 := Lib.hid (Kp.of (G := fun k => k < w.heap.size ∨ k = q1) K4)
  clear K4
  generalize w3.heap.size = q2 at *
  have CRun := Lib.hid (runM hT4 HU.out (by rw [HN3.out]; decide) HF3.out (by decide))
  clear hT4
  go_wp2_with fail
  refine CRun.out.mono ?_
  rintro e w5 ⟨rfl, V5, hT5, ⟨f5, o5, n5⟩, K5⟩
  clear CRun
  have p5 : w5.drew.cell? ⟨A.p, 0, none⟩ = some (.pointer (some ⟨A.pc, 0, none⟩)) := hT5.box.c0
  have hW5 : WdG (fun k => k < w.heap.size ∨ k = q1) w5.drew A V5 := (hT5.wdG.less (fun k g => .inl g)).new (Below.refl _ _).drew
  have z5 : V5.f 5 = 0 := by rw [o5 5 hm5, HO3.out 5 hm5]; exact w1_f 5 (by decide)
  have hn5 : V5.cnt = 4 := by rw [n5, HN3.out]; rfl
  have hf5 : V5.f m = 1 := by rw [f5]; rfl
  have HZ5 := Lib.hid z5
  have HN5 := Lib.hid hn5
  have HK5 := Lib.hid (Kp.to HK4.out K5)
  have cs := gstore hW5 HU.out (v := 2) ⟨by decide, by decide⟩ (by rw [hn5]; decide)
  rw [hf5] at cs
  have CS := Lib.hid cs
  clear hT5 f5 o5 n5 K5 hW5 z5 hn5 hf5 cs
  go_wp2_with fail
  go_region_held3 (fun w' => w'.cell? ⟨A.p, 0, none⟩ = some (.pointer (some ⟨A.pc, 0, none⟩)))
    (first | assumption)
    (first
      | (go_at_call 13; ((with_reducible refine (CL.out _).mono ?_); rintro e w6 ⟨rfl, rfl⟩))
      | (go_at_call 10; ((with_reducible refine CS.out.mono ?_); rintro e w6 ⟨rfl, hW6, K6⟩; replace p5 := hW6.box.c0; have HW6 := Lib.hid hW6; have HK6 := Lib.hid (Kp.to (Keeps.drew HK5.out) K6); clear CS hW6 K6)))
  clear p5
  obtain ⟨V6, hV6⟩ : ∃ V6, V6 = V5.acc (upd V5.f m 2) 2 m 1 2 := ⟨_, rfl⟩
  rw [← hV6] at HW6
  have f6 : V6.f m = 2 := by rw [hV6]; exact acc_upd _ _ _ _ _ _ _ _
  have z6 : V6.f 5 = 0 := by rw [hV6]; exact (acc_other _ _ hm5).trans HZ5.out
  have n6 : V6.cnt = 5 := by rw [hV6]; show V5.cnt + 1 = 5; rw [HN5.out]; rfl
  have HF6 := Lib.hid f6
  have HZ6 := Lib.hid z6
  have HN6 := Lib.hid n6
  clear hV6 f6 z6 n6
  go_wp2_with fail
  refine (CN.out _ _ _ _ HW6.out).mono ?_
  rintro e w7 ⟨rfl, hT7, K7⟩
  have HK7 := Lib.hid (Kp.to HK6.out (Kp.of K7))
  clear K7
  generalize w6.heap.size = q3 at *
  have CRun := Lib.hid (runU hT7 HU.out (by rw [HN6.out]; decide) HF6.out (by decide) HZ6.out)
  clear hT7
  go_wp2_with fail
  refine CRun.out.mono ?_
  rintro e w8 ⟨rfl, V8, hT8, ⟨f8, o8, n8⟩, K8⟩
  clear CRun
  have p8 := hT8.box.c0
  have hW8 : WdG (fun k => k < w.heap.size ∨ k = q1) w8 A V8 := hT8.wdG.less (fun k g => .inl g)
  have z8 : V8.f 5 = 0 := by rw [o8 5 hm5]; exact HZ6.out
  have hn8 : V8.cnt = 8 := by rw [n8, HN6.out]; rfl
  have hf8 : V8.f m = 3 := by rw [f8]; rfl
  have cp := gpeek hW8 HU.out
  rw [hf8] at cp
  have CP := Lib.hid cp
  have cs := gstore hW8 HU.out (v := 2) ⟨by decide, by decide⟩ (by rw [hn8]; decide)
  rw [hf8] at cs
  have CS := Lib.hid cs
  have HZ8 := Lib.hid z8
  have HN8 := Lib.hid hn8
  have HK8 := Lib.hid (Kp.to HK7.out K8)
  clear hT8 f8 o8 n8 K8 hW8 z8 hn8 hf8 cs cp
  go_wp2_with fail
  refine CP.out.mono ?_
  rintro e w9 ⟨rfl, rfl⟩
  clear CP
  go_wp2_with fail
  refine CS.out.mono ?_
  rintro e w9 ⟨rfl, hW9, K9⟩
  obtain ⟨V9, hV9⟩ : ∃ V9, V9 = V8.acc (upd V8.f m 2) 2 m 3 2 := ⟨_, rfl⟩
  rw [← hV9] at hW9
  have f9 : V9.f m = 2 := by rw [hV9]; exact acc_upd _ _ _ _ _ _ _ _
  have z9 : V9.f 5 = 0 := by rw [hV9]; exact (acc_other _ _ hm5).trans HZ8.out
  have n9 : V9.cnt = 9 := by rw [hV9]; show V8.cnt + 1 = 9; rw [HN8.out]; rfl
  have p9 := hW9.box.c0
  have cs := gstore hW9 (a := 5) (v := 1) ⟨by decide, by decide⟩ ⟨by decide, by decide⟩ (by rw [n9]; decide)
  rw [z9] at cs
  have CS2 := Lib.hid cs
  have HF9 := Lib.hid f9
  have HN9 := Lib.hid n9
  have HK9 := Lib.hid (Kp.to HK8.out K9)
  clear hV9 f9 z9 n9 hW9 K9 cs CS p8
  go_wp2_with fail
  refine CS2.out.mono ?_
  rintro e w10 ⟨rfl, hW10, K10⟩
  obtain ⟨V10, hV10⟩ : ∃ V10, V10 = V9.acc (upd V9.f 5 1) 2 5 0 1 := ⟨_, rfl⟩
  rw [← hV10] at hW10
  have f10 : V10.f m = 2 := by rw [hV10]; exact (acc_other _ _ (Ne.symm hm5)).trans HF9.out
  have z10 : (V10.f 5 == 0) = false := by rw [hV10, acc_upd]; rfl
  have n10 : V10.cnt = 10 := by rw [hV10]; show V9.cnt + 1 = 10; rw [HN9.out]; rfl
  have HF10 := Lib.hid f10
  have HZ10 := Lib.hid z10
  have HN10 := Lib.hid n10
  have HW10 := Lib.hid hW10
  have HK10 := Lib.hid (Kp.to HK9.out K10)
  clear hV10 f10 z10 n10 hW10 K10 p9 CS2
  go_wp2_with fail
  refine (CN.out _ _ _ _ HW10.out).mono ?_
  rintro e w11 ⟨rfl, hT11, K11⟩
  have HK11 := Lib.hid (Kp.to HK10.out (Kp.of K11))
  clear K11
  generalize w10.heap.size = q4 at *
  have CRun := Lib.hid (runS hT11 HU.out (by rw [HN10.out]; decide) HF10.out (by decide) HZ10.out)
  clear hT11
  go_wp2_with fail
  refine CRun.out.mono ?_
  rintro e w12 ⟨rfl, V12, hT12, _, K12⟩
  clear CRun
  have hKX := Kp.to HK11.out K12
  have hX12 : IsTo w12 q1 m 0 0 true := HX3.out.keep hKX (by simp)
  have HX12 := Lib.hid hX12
  have HY12 := Lib.hid hT12.to
  have HK12 := Lib.hid (Kp.to HK3.out (hKX.less (fun k g => .inl g)))
  clear hT12 K12 hKX hX12
  go_wp2_with fail
  refine (donew HX12.out).mono ?_
  rintro e w13 ⟨rfl, rfl⟩
  go_wp2_with fail
  refine (CL.out _).mono ?_
  rintro e w13 ⟨rfl, rfl⟩
  go_wp2_with fail
  refine (donew HY12.out).mono ?_
  rintro e w13 ⟨rfl, rfl⟩
  go_wp2_with fail
  go_ret
  exact ⟨rfl, HK1.out.trans (Kp.below HK12.out HK1.out.size)⟩
end Go.Proofs.Ytepkpbhhiianpaa
