/- The examples of chapter 11. -/
import Derived.Test.YtodppilfpemepaaGreatGTi
import Derived.Test.YtodppilfpemepaaGreatBg0
namespace Go.Proofs.YtodppilfpemepaaGreat
open Go.RowKit Go.Maps
set_option linter.unusedVariables false
section
variable {G : Nat → Prop} {w : World} {A : Ad} {V : Wv} {q : Nat} {C : List Value}
theorem Opw.wd (h : Opw G w A V q C) : WdG G w A V := by
  obtain ⟨S, h1, h2, h3, h4, h5, h6⟩ := h
  exact ⟨S, h1, h2, h6⟩
/-- A new operation beside a world. -/
theorem op_new {w' : World} (h : WdG G w A V) (ho : Ob w' w.heap.size C) (hb : Below w.heap.size w w') : Opw G w' A V w.heap.size C := by
  obtain ⟨S, h1, h2, h3⟩ := h
  exact ⟨S, h1.new hb, h2, fun s => by have := h1.lt _ s; omega, ho, fun g => by have := h3 _ g; omega, fun k g => Nat.lt_of_lt_of_le (h3 k g) hb.size⟩
end
def Bg11 (w : World) (e : Ending) (w' : World) : Prop := ∃ A, e = .returned (.pointer (some ⟨A.p, 0, none⟩)) ∧ WdG (fun k => k < w.heap.size) w' A V10 ∧ Below w.heap.size w w'
def T1 : Wv := (V10.acc (upd V10.f 0 1) 4 0 0 1).tkset 3 1
def T2 : Wv := ((T1.acc T1.f 1 1 0 0).tkset 3 0).hset 3
def T3 : Wv := (T2.acc (upd T2.f 0 2) 4 0 1 2).tkset 5 2
def T4 : Wv := T3.acc T3.f 1 1 0 0
def T5 : Wv := (T4.acc (upd T4.f 1 1) 4 1 0 1).hset (-1)
def T6 : Wv := ((T5.acc T5.f 1 1 1 1).tkset 5 0).hset 5
theorem t_facts : (V10.f 0 = 0 ∧ V10.cnt = 0) ∧ (T1.f 1 = 0 ∧ T1.cnt = 1) ∧ (T2.f 0 = 1 ∧ T2.cnt = 2 ∧ T2.h = 3) ∧ (T3.f 1 = 0 ∧ T3.tk 5 = 2 ∧ T3.cnt = 3) ∧ (T4.f 1 = 0 ∧ T4.tk 5 = 2 ∧ T4.cnt = 4) ∧ (T5.f 1 = 1 ∧ T5.tk 5 = 2 ∧ T5.cnt = 5 ∧ T5.h = -1) ∧ T6.h = 5 := by
  refine ⟨⟨rfl, rfl⟩, ⟨rfl, rfl⟩, ⟨rfl, rfl, rfl⟩, ⟨rfl, rfl, rfl⟩, ⟨rfl, rfl, rfl⟩, ⟨rfl, rfl, rfl, rfl⟩, rfl⟩
end Go.Proofs.YtodppilfpemepaaGreat
