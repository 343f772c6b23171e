/- Scripts: how many bytes commands have, counted up to a bound each. -/
import Derived.Test.YtcmogfdbjppdeaaScAll
namespace Go.Proofs.Ytcmogfdbjppdeaa
open Go.RowKit
set_option linter.unusedVariables false

def sumM (M : Nat) (cs : List Cm) : Nat := (cs.map fun x => min x.2.2.length M).sum
theorem sumM_take {M k : Nat} {cs : List Cm} {x : Cm} (hx : cs[k]? = some x) : sumM M (cs.take (k + 1)) = sumM M (cs.take k) + min x.2.2.length M := by
  rw [List.take_add_one, hx]
  simp [sumM]
theorem sumM_le (M : Nat) : ∀ (cs : List Cm), sumM M cs ≤ cs.length * M
  | [] => by simp [sumM]
  | x :: cs => by
    have := sumM_le M cs
    have e : sumM M (x :: cs) = min x.2.2.length M + sumM M cs := by simp [sumM]
    rw [e, List.length_cons, Nat.succ_mul]
    have := Nat.min_le_right x.2.2.length M
    omega
theorem sumM_small {M S : Nat} (hM : S < M) : ∀ (cs : List Cm), sumM M cs ≤ S → (∀ x ∈ cs, x.2.2.length ≤ S) ∧ (sayAll cs).length ≤ 2 * cs.length + S
  | [], _ => ⟨fun x h => by simp at h, by simp [sayAll]⟩
  | x :: cs, h => by
    have e : sumM M (x :: cs) = min x.2.2.length M + sumM M cs := by simp [sumM]
    have hx : x.2.2.length ≤ S := by
      rcases Nat.le_total x.2.2.length M with h1 | h1
      · rw [Nat.min_eq_left h1] at e; omega
      · rw [Nat.min_eq_right h1] at e; omega
    have e2 : min x.2.2.length M = x.2.2.length := Nat.min_eq_left (by omega)
    rw [e2] at e
    have h3 : S - x.2.2.length < M := by omega
    have h4 : sumM M cs ≤ S - x.2.2.length := by omega
    obtain ⟨i1, i2⟩ := sumM_small h3 cs h4
    refine ⟨fun y hy => ?_, ?_⟩
    · rcases List.mem_cons.mp hy with rfl | hy
      · exact hx
      · have := i1 y hy; omega
    · have : sayAll (x :: cs) = say x ++ sayAll cs := by simp [sayAll]
      have hs := say_le x
      rw [this, List.length_append, List.length_cons]
      omega
theorem all_take {cs : List Cm} {k : Nat} {x : Cm} (hx : cs[k]? = some x) : (cs.take (k + 1)).all mayC = ((cs.take k).all mayC && mayC x) := by
  rw [List.take_add_one, hx]
  simp
theorem at_lt {cs : List Cm} {k : Nat} (h : k < cs.length) : cs[k]? = some (cs[k]'h) := List.getElem?_eq_getElem h
theorem Own.rdB {w : World} {B : Nat} {e : TypeId} {v : Value} {l : List UInt8} (h : Own w B e v l) : ∃ a c, v = .slice a l.length c ∧ l.length ≤ c ∧ c ≤ maxLen ∧ (a = none → c = 0) ∧ Rd w w.heap.size a l := by
  obtain ⟨a, c, h1, h2, h3, h4, h5⟩ := h.rd
  exact ⟨a, c, h1, h2, h3, h5, h4⟩
theorem RdC.on {w w' : World} {K : IntKind} {a : Option Addr} {cs : List Cm} (h : RdC w w.heap.size K a cs) (hb : Below w.heap.size w w') : RdC w' w'.heap.size K a cs := (h.below hb (Nat.le_refl _)).mono hb.size
theorem Rd.on {w w' : World} {a : Option Addr} {l : List UInt8} (h : Rd w w.heap.size a l) (hb : Below w.heap.size w w') : Rd w' w'.heap.size a l := (h.below hb (Nat.le_refl _)).mono hb.size
end Go.Proofs.Ytcmogfdbjppdeaa
