/- Tells: the chapter's examples; is it one line? -/
import Derived.Test.YtcmogfdbjppdeaaDoorTv
namespace Go.Proofs.YtcmogfdbjppdeaaDoor
open Go.RowKit Go.Maps
set_option linter.unusedVariables false

theorem ex31a : valueB ⟨#[97]⟩ (toldB [5, 3, 9]) ⟨#[120, 121, 122]⟩ = ⟨#[86, 65, 76, 85, 69, 32, 97, 32, 53, 32, 51, 32, 57, 13, 10, 120, 121, 122, 13, 10]⟩ := by
  unfold toldB
  simp only [List.map_cons, List.map_nil, dec_small (u := 5) (by decide), dec_small (u := 3) (by decide), dec_small (u := 9) (by decide)]
  rfl
theorem ex31b : lineOf linesT 1 = ⟨#[69, 82, 82, 79, 82, 13, 10]⟩ := by rfl
theorem ex31c : (⟨(Lib.decDigits 12 ++ [13, 10]).toArray⟩ : ByteArray) = ⟨#[49, 50, 13, 10]⟩ := by
  rw [dec_big (u := 12) (by decide), dec_small (by decide)]
  rfl
set_option maxHeartbeats 4000000 in
set_option maxRecDepth 100000 in
theorem lives31 (w : World) (htab : Lib.TabIs Tryd.prog w "internal/strconv.uint64pow10" .u64 Lib.pow10Tab) : Calls Tryd.prog 8 #[] w fun e w' => e = .returned (.bool true) ∧ Below w.heap.size w w' := by
  have HT := Lib.hid htab
  have EA := Lib.hid ex31a
  have EB := Lib.hid ex31b
  have EC := Lib.hid ex31c
  clear htab
  go_enter Tryd.func8, Tryd.ntmps8
  go_wp2_with fail
  have hb0 : ∀ o, Below w.heap.size w (w.alloc o) := fun o => (Below.refl _ _).alloc (Nat.le_refl _) o
  refine (value_gets (.slice none 0 0) 0 ⟨#[]⟩ ⟨#[]⟩ 0 0 0 0 0 false 0 ⟨#[97]⟩ ⟨#[120, 121, 122]⟩ 5 9 0 0 _ (by decide) (by decide) (by decide) (by decide) (tabIs_below HT.out (hb0 _))).mono ?_
  rintro e w1 ⟨rfl, hb1⟩
  have hsz : (⟨#[120, 121, 122]⟩ : ByteArray).size = 3 := rfl
  rw [hsz, EA.out]
  have hnx1 := (hb0 _).trans (hb1.mono (by simp))
  clear hb1 hb0 hsz
  go_wp2_with fail
  refine (ofw 1 (by decide) (by decide) _).mono ?_
  rintro e w2 ⟨rfl, hb2⟩
  rw [EB.out]
  have hnx2 := hnx1.trans (hb2.mono hnx1.size)
  clear hb2 hnx1
  go_wp2_with fail
  refine (answer_num 0 (.slice none 0 0) 0 ⟨#[]⟩ ⟨#[]⟩ 0 0 0 0 0 12 ⟨#[]⟩ ⟨#[]⟩ 0 0 0 0 _ (by decide) (tabIs_below HT.out hnx2)).mono ?_
  rintro e w3 ⟨rfl, hb3⟩
  rw [EC.out]
  have hnx3 := hnx2.trans (hb3.mono hnx2.size)
  clear hb3 hnx2
  go_wp2_with fail
  go_ret
  exact ⟨rfl, hnx3⟩
end Go.Proofs.YtcmogfdbjppdeaaDoor
