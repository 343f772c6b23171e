/- Lines: the line of one command, 'flush_all noreply'. -/
import Derived.Test.YtifbcejekdhnlaaDoorLi2
import Derived.Test.YtifbcejekdhnlaaDoorLnF
import Derived.Test.YtifbcejekdhnlaaDoorShelf
import Derived.Maps.RangeWalk
import Derived.BigRegion
namespace Go.Proofs.YtifbcejekdhnlaaDoor
open Go.RowKit Go.Maps
set_option linter.unusedVariables false

def flushL : List UInt8 := [102, 108, 117, 115, 104, 95, 97, 108, 108, 32, 110, 111, 114, 101, 112, 108, 121]
theorem flush_parse : parseC flushL = (flushC, 0) := by kernel_rfl
theorem flush_join : Lib.join ([(⟨flushN.toArray⟩ : ByteArray), ⟨norep.toArray⟩].map (·.data.toList)) (⟨#[32]⟩ : ByteArray).data.toList = flushL := by kernel_rfl
theorem form_flush : formOf flushN = some flushF := by kernel_rfl
theorem verb11 {n : List UInt8} {f : Form} (h : formOf n = some f) (hv : f.verb = 11) : n = flushN ∧ f = flushF := by
  have hm := formIn_in h
  simp only [tbF, List.mem_cons, List.not_mem_nil, or_false, Prod.mk.injEq] at hm
  rcases hm with ⟨rfl, rfl⟩ | ⟨rfl, rfl⟩ | ⟨rfl, rfl⟩ | ⟨rfl, rfl⟩ | ⟨rfl, rfl⟩ | ⟨rfl, rfl⟩ | ⟨rfl, rfl⟩ | ⟨rfl, rfl⟩ | ⟨rfl, rfl⟩ | ⟨rfl, rfl⟩ | ⟨rfl, rfl⟩ | ⟨rfl, rfl⟩ | ⟨rfl, rfl⟩
  all_goals first | exact ⟨rfl, rfl⟩ | simp at hv
theorem key_string_inv {v : Value} {kl : Lit} (h : keyOf Tryd.prog 9 v = some kl) : ∃ x : ByteArray, v = .string x ∧ kl = .string x.data.toList := by
  obtain ⟨x, rfl⟩ : ∃ x, v = .string x := by
    rw [keyOf_string Tryd.underlying9] at h
    cases v <;> first | exact ⟨_, rfl⟩ | (exfalso; revert h; simp [mapKey, Tryd.underlying9])
  refine ⟨x, rfl, ?_⟩
  rw [keyOf_string Tryd.underlying9] at h
  simp [mapKey, Tryd.underlying9] at h
  first | exact h.symm | exact h.2.symm | exact h.1.symm
/-- What an entry of the map of forms holds. -/
theorem entry_form {x : ByteArray} {c : Value} {kl : Lit} {y : DataW Value × List MemPlace} (hk : keyOf Tryd.prog 9 (.string x) = some kl) (hh : Maps.has formsD kl = true) (hR : fR c = some y) (hat : ∀ zd, formsD.atKey kl zd = y.1) : ∃ f, kl = .string x.data.toList ∧ formOf x.data.toList = some f ∧ c = formV f := by
  obtain ⟨x', e, rfl⟩ := key_string_inv hk
  injection e with e
  subst e
  cases hf : formOf x.data.toList with
  | none => exact absurd ((formsD_none .nil hf).1.symm.trans hh) Bool.false_ne_true
  | some f =>
    refine ⟨f, rfl, rfl, ?_⟩
    have h1 : y.1 = .held (formV f) := (hat .nil).symm.trans (formsD_some .nil hf).2
    have h2 : y = (.held c, []) := (Option.some.inj hR).symm
    subst h2
    exact DataW.held.inj h1
theorem ranges_upF {P : Program} {k : TypeId} {R : Value → Option (DataW Value × List MemPlace)} {w W : World} {b r n : Nat} {D : DataW Value} {left : Lit → Bool} {cnt : Nat} (h : w.ranges P k R b r n D left cnt) (hb : Below w.heap.size w W) : W.ranges P k R b r n D left cnt := by
  obtain ⟨es, clock, since, seen, c0, h1, F, h2, h3, h4, rest⟩ := h
  have lt : ∀ {i : Nat} {o : Obj}, w.heap[i]? = some o → i < w.heap.size := fun {i o} hi => by
    rcases Nat.lt_or_ge i w.heap.size with h' | h'
    · exact h'
    · rw [Array.getElem?_eq_none h'] at hi; simp at hi
  exact ⟨es, clock, since, seen, c0, (hb.block b (lt h1)).trans h1, F, h2, h3, (hb.block r (lt h4)).trans h4, rest⟩
theorem fR_inv (v : Value) (y : DataW Value × List MemPlace) (h : fR v = some y) : ∃ c : Value, v = c := ⟨v, rfl⟩
theorem skey_ne {a b : List UInt8} (h : a ≠ b) : (Lit.string a).sameKey (.string b) = false := by
  simp [Lit.sameKey]
  exact h
end Go.Proofs.YtifbcejekdhnlaaDoor
