/- Tells: is it one line? -/
import Derived.Test.YtcmogfdbjppdeaaDoorTlv
namespace Go.Proofs.YtcmogfdbjppdeaaDoor
open Go.RowKit
set_option linter.unusedVariables false

/-- Bytes of a line: such as are no end. -/
def Plain (l : List UInt8) : Prop := ∀ c ∈ l, c.toNat < 128 ∧ c ≠ 13 ∧ c ≠ 10
theorem contains_no {l : List UInt8} (h : Plain l) : Lib.containsAny l [13, 10] = false := by
  have : Lib.indexAny l [13, 10] = -1 := by
    induction l with
    | nil => rfl
    | cons c l ih =>
      obtain ⟨_, h1, h2⟩ := h c (by simp)
      have hi := ih (fun d hd => h d (by simp [hd]))
      unfold Lib.indexAny
      rw [if_neg (by simp [h1, h2]), hi]
      rfl
  unfold Lib.containsAny
  rw [this]; rfl
theorem suffix_yes (l : List UInt8) : Lib.hasSuffix (l ++ [13, 10]) [13, 10] = true := by
  unfold Lib.hasSuffix
  rw [List.isSuffixOf_iff_suffix]
  exact List.suffix_append _ _
theorem hv116 : ∀ w, (zeroValue 91).run Tryd.prog w = .ok (.agg (Array.replicate 256 (.bool false))) w := fun w => by kernel_rfl
set_option maxHeartbeats 4000000 in
set_option maxRecDepth 100000 in
theorem endedw (l : List UInt8) (h0 : 0 < l.length) (hl : l.length ≤ 1000) (hp : Plain l) (w : World) : Calls Tryd.prog 21 #[.string ⟨(l ++ [13, 10]).toArray⟩] w fun e w' => e = .returned (.bool true) ∧ Below w.heap.size w w' := by
  obtain ⟨S, hS⟩ : ∃ S : ByteArray, S = ⟨(l ++ [13, 10]).toArray⟩ := ⟨_, rfl⟩
  have hsz : S.size = l.length + 2 := by rw [hS]; show (l ++ [13, 10]).toArray.size = _; simp
  have hb : 2 < S.size ∧ S.size ≤ 1002 := by omega
  obtain ⟨hb1, hb2⟩ := hb
  have hd : decide ((2 : Int) < (S.size : Int)) = true := decide_eq_true (by omega)
  have hex : S.extract 0 (S.size - 2) = ⟨l.toArray⟩ := by
    rw [hsz, hS]
    apply ByteArray.ext
    apply Array.toList_inj.mp
    simp [ByteArray.data_extract]
  have hsuf := Tryd.strings_HasSuffix S ⟨#[13, 10]⟩ w (by omega)
  have hsl : S.data.toList = l ++ [13, 10] := by rw [hS]
  rw [hsl, suffix_yes] at hsuf
  have hcon := Tryd.strings_ContainsAny hv116 ⟨l.toArray⟩ ⟨#[13, 10]⟩ w (by show l.toArray.size < _; simp; omega) (by decide) (fun j b hj => (hp b (List.mem_of_getElem? (by simpa using hj))).1) (fun j b hj => by
    match j, hj with
    | 0, hj => simp at hj; subst hj; decide
    | 1, hj => simp at hj; subst hj; decide
    | j + 2, hj => simp at hj)
  have hcl : (⟨l.toArray⟩ : ByteArray).data.toList = l := rfl
  have hcr : (⟨#[13, 10]⟩ : ByteArray).data.toList = [13, 10] := rfl
  rw [hcl, hcr, contains_no hp] at hcon
  have HSU := Lib.hid hsuf
  have HCO := Lib.hid hcon
  have HEX := Lib.hid hex
  have y1 : ((S.size : Int) - 2).toNat = S.size - 2 := by omega
  have y2 : 0 ≤ (S.size : Int) - 2 := by omega
  have y3 : (S.size : Int) - 2 ≤ S.size := by omega
  have y4 : IntKind.i64.wrap ((S.size : Int) - 2) = (S.size : Int) - 2 := IntWalk.i64_in _ (by omega)
  rw [← hS]
  clear hS hsz hsuf hcon hex hsl hcl hcr
  go_enter Tryd.func21, Tryd.ntmps21
  go_wp2_with fail
  refine HSU.out.mono ?_
  rintro e w1 ⟨rfl, rfl⟩
  go_wp2_with fail
  rw [HEX.out]
  refine HCO.out.mono ?_
  rintro e w2 ⟨rfl, hbw⟩
  go_wp2_with fail
  go_ret
  exact ⟨rfl, hbw⟩
end Go.Proofs.YtcmogfdbjppdeaaDoor
