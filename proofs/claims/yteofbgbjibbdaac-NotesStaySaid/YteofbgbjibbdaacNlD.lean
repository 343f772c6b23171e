/- Lists of notes: where an item was told to be dropped. -/
import Derived.Test.YteofbgbjibbdaacNlW
namespace Go.Proofs.Yteofbgbjibbdaac
open Go.RowKit
set_option linter.unusedVariables false

theorem idx_mem (so : Nv → Bool) (L : List Nv) : ∀ (k : Nat) (z : Int), z ∈ idx so L k → ∃ m : Nat, z = m ∧ m < k ∧ ∃ x, L[m]? = some x ∧ so x = true
  | 0, z, h => by simp [idx] at h
  | k + 1, z, h => by
    unfold idx at h
    rcases List.mem_append.mp h with h | h
    · obtain ⟨m, h1, h2, h3⟩ := idx_mem so L k z h
      exact ⟨m, h1, by omega, h3⟩
    · split at h
      · next x hx =>
        split at h
        · next hs => simp at h; exact ⟨k, h, by omega, x, hx, hs⟩
        · simp at h
      · simp at h
/-- Where the last NtEvict of an item stands. -/
def dropF (L : List Nv) (ref : Int) : Int × Bool := match (idx (soD ref) L L.length).getLast? with
  | some z => (z, true)
  | none => (0, false)
theorem ret_ib {k : IntKind} {a : Int} {b : Bool} {p : Int × Bool} (h : p = (a, b)) : Ending.returned (.tuple #[.int k a, .bool b]) = .returned (.tuple #[.int k p.1, .bool p.2]) := by rw [h]
set_option maxHeartbeats 2000000 in
set_option maxRecDepth 100000 in
theorem droppedw (w : World) (p : Nat) (L : List Nv) (ref : Int) (h : IsL w p L) (hM : L.length ≤ 1048576) :
    Calls Try.prog 65 #[.pointer (some ⟨p, 0, none⟩), .int .i64 ref] w fun e w' => e = .returned (.tuple #[.int .i64 (dropF L ref).1, .bool (dropF L ref).2]) ∧ Below w.heap.size w w' := by
  have hb0 : Below w.heap.size w (w.alloc (.cells #[.int .i64 ref] 3)) := (Below.refl _ _).alloc (Nat.le_refl _) _
  have h1 : IsL (w.alloc (.cells #[.int .i64 ref] 3)) p L := nl_below h hb0
  have hW := whereD (w.alloc (.cells #[.int .i64 ref] 3)) p L ref w.heap.size h1 hM (by simp)
  have HW := Lib.hid hW
  clear hW h1 h
  go_enter Try.func65, Try.ntmps65
  go_wp2_with fail
  refine HW.out.mono ?_
  rintro e w1 ⟨u, rfl, hL, hb1⟩
  have hb := hb0.trans (hb1.mono (by simp))
  have hle := idx_le (soD ref) L L.length
  obtain ⟨I, hI⟩ : ∃ I, I = idx (soD ref) L L.length := ⟨_, rfl⟩
  have hF : dropF L ref = match I.getLast? with
    | some z => (z, true)
    | none => (0, false) := by rw [hI]; rfl
  rw [← hI] at hL hle
  clear hb0 hb1 hI HW
  obtain ⟨_, ⟨rfl, h0⟩ | ⟨g, cap, rfl, hgB, hg, hn, hc, hx⟩⟩ := hL
  · have hI0 : I = [] := List.eq_nil_of_length_eq_zero h0
    subst hI0
    have HF : Hid (dropF L ref = (0, false)) := hF
    clear hF
    go_wp2_with fail
    go_ret2
    exact ⟨ret_ib HF.out, hb⟩
  · unfold maxLen at hc
    by_cases h0 : I.length = 0
    · have hI0 : I = [] := List.eq_nil_of_length_eq_zero h0
      subst hI0
      have HF : Hid (dropF L ref = (0, false)) := hF
      clear hF hx
      go_wp2_with fail
      go_ret2
      exact ⟨ret_ib HF.out, hb⟩
    · have hlast : I.getLast? = some (I[I.length - 1]'(by omega)) := by rw [List.getLast?_eq_getElem?, List.getElem?_eq_getElem (by omega)]
      obtain ⟨z, hz⟩ : ∃ z, z = I[I.length - 1]'(by omega) := ⟨_, rfl⟩
      have HF : Hid (dropF L ref = (z, true)) := by show _ = _; rw [hF, hlast, ← hz]
      have c0 : w1.cell? ⟨g, I.length - 1, none⟩ = some (.int .i64 z) := (hx (I.length - 1) (.int .i64 z) (by simp [ints, hz, List.getElem?_eq_getElem (show I.length - 1 < I.length by omega)])).1
      have b0 : ((I.length : Int) == 0) = false := beq_eq_false_iff_ne.mpr (by omega)
      have y1 : ((I.length : Int) - 1).toNat = I.length - 1 := by omega
      have y2 : IntKind.i64.wrap ((I.length : Int) - 1) = (I.length : Int) - 1 := IntWalk.i64_in _ (by omega)
      have y3 : 0 ≤ (I.length : Int) - 1 := by omega
      have y4 : (I.length : Int) - 1 < I.length := by omega
      clear hF hx hlast hz h0
      go_wp2_with fail
      go_ret2
      exact ⟨ret_ib HF.out, hb⟩
end Go.Proofs.Yteofbgbjibbdaac
