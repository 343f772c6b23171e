/- ScriptsByte: a byte by itself. -/
import Derived.Test.YtcmogfdbjppdeaaScParse
import Derived.Test.YtcmogfdbjppdeaaScSame
import Derived.Test.YtcmogfdbjppdeaaBits
import Derived.Test.YtcmogfdbjppdeaaScLives
namespace Go.Proofs.Ytcmogfdbjppdeaa
open Go.RowKit
set_option linter.unusedVariables false

theorem parse_one (b : UInt8) : parse [b] = [nextC b []] := by
  rw [parse_cons]
  have : nextR b [] = [] := by unfold nextR; split <;> rfl
  rw [this, parse_nil]
/-- The command, held against the one that was made. -/
theorem byte_same (g off c : Nat) (k cn : Int) (x : Cm) (w1 : World) (hx : x = (k, cn, [])) (hk : 0 ≤ k ∧ k ≤ 255) (hc : 1 ≤ c) (hcm : c ≤ maxLen) (hrd : RdC w1 w1.heap.size .u8 (some ⟨g, off, none⟩) [x]) :
    Calls Try.prog 11 #[.slice (some ⟨g, off, none⟩) 1 c, .slice (some ⟨w1.heap.size + 1, 0, none⟩) 1 1] ((w1.alloc (Obj.cells #[.int .i64 k, .int .i64 cn, .slice none 0 0] 42)).alloc (Obj.cells #[.int .i64 k, .int .i64 cn, .slice none 0 0] 42)) fun e w' => e = .returned (.bool true) ∧ Below w1.heap.size w1 w' := by
  subst hx
  have hb : Below w1.heap.size w1 ((w1.alloc (Obj.cells #[.int .i64 k, .int .i64 cn, .slice none 0 0] 42)).alloc (Obj.cells #[.int .i64 k, .int .i64 cn, .slice none 0 0] 42)) := ((Below.refl _ _).alloc (Nat.le_refl _) _).alloc (by simp) _
  have h1 := (hrd.below hb (Nat.le_refl _)).mono hb.size
  have h2 : RdC ((w1.alloc (Obj.cells #[.int .i64 k, .int .i64 cn, .slice none 0 0] 42)).alloc (Obj.cells #[.int .i64 k, .int .i64 cn, .slice none 0 0] 42)) ((w1.alloc (Obj.cells #[.int .i64 k, .int .i64 cn, .slice none 0 0] 42)).alloc (Obj.cells #[.int .i64 k, .int .i64 cn, .slice none 0 0] 42)).heap.size .i64 (some ⟨w1.heap.size + 1, 0, none⟩) [((k, cn, []) : Cm)] := fun _ => ⟨_, _, rfl, fun i x hi => by
    have hi0 : i = 0 := by
      rcases Nat.lt_or_ge i 1 with h | h
      · omega
      · rw [List.getElem?_eq_none (by simpa using h)] at hi; simp at hi
    subst hi0
    simp at hi
    subst hi
    exact ⟨by simp, by simp, by simp, none, 0, by simp, by simp, by simp [maxLen], Rd.nil _ _ _, fun _ => rfl⟩⟩
  refine (same_some g off c (w1.heap.size + 1) 0 1 [((k, cn, []) : Cm)] _ (by simp) (fun x hx => by simp at hx; subst hx; exact hk) (by simpa using hc) hcm (by simp) (by simp [maxLen]) h1 h2).mono ?_
  rintro e w' ⟨he, hb'⟩
  exact ⟨he, hb.trans (hb'.mono hb.size)⟩
set_option maxHeartbeats 4000000 in
set_option maxRecDepth 100000 in
theorem walk_ScriptsByte (a0 : Int) (w : World) (w0 : (Lit.int .u8 a0).wf = true) :
    Calls Try.prog 7 #[.int .u8 a0] w fun e w' => e = .returned (.bool true) ∧ Below w.heap.size w w' := by
  obtain ⟨q0, q1⟩ := bounds_u8 w0
  obtain ⟨b, hb⟩ : ∃ b : UInt8, (b.toNat : Int) = a0 := ⟨UInt8.ofNat a0.toNat, by rw [UInt8.toNat_ofNat']; omega⟩
  have hr0 : Rd (w.alloc (Obj.cells #[.int .u8 a0] 5)) (w.heap.size + 1) (some ⟨w.heap.size, 0, none⟩) [b] := fun h => ⟨_, _, rfl, by omega, fun j hj => by
    have : j = 0 := by simp at hj; omega
    subst this
    simp [hb]⟩
  have HR0 := Lib.hid hr0
  have HB := Lib.hid hb
  clear hr0 hb w0
  go_enter Try.func7, Try.ntmps7
  go_wp2_with fail
  refine (parse_some w.heap.size 0 1 [b] _ (by simp) (by simp) (by simp [maxLen]) (by simp) (by simpa using HR0.out)).mono ?_
  rintro e w1 ⟨v, rfl, hC, hb1⟩
  rw [parse_one] at hC
  obtain ⟨a, c, rfl, hlc, hcm, _, hrd⟩ := hC.rd
  obtain ⟨g, off, rfl, _⟩ := hrd (by simp)
  have hbb : Below w.heap.size w w1 := ((Below.refl _ _).alloc (Nat.le_refl _) _).trans (hb1.mono (by simp))
  clear hC hb1
  have HRD := Lib.hid hrd
  clear hrd
  rcases (by omega : a0 < 64 ∨ (64 ≤ a0 ∧ a0 < 128) ∨ (128 ≤ a0 ∧ a0 < 192) ∨ 192 ≤ a0) with h | ⟨h, h2⟩ | ⟨h, h2⟩ | h
  · have hx : Hid (nextC b [] = (0, a0, [])) := by
      have := HB.out
      show _ = _
      unfold nextC
      rw [if_pos (by omega), this]; rfl
    have hd : decide (a0 < 192) = true := decide_eq_true (by omega)
    have e1 : a0 / 64 = 0 := by omega
    have e2 : a0 % 64 = a0 := by omega
    go_wp2_with fail
    refine (byte_same g off c 0 a0 (nextC b []) w1 hx.out (by omega) (by simpa using hlc) hcm HRD.out).mono ?_
    rintro e w2 ⟨rfl, hb2⟩
    go_wp2_with fail
    refine (lives33 _).mono ?_
    rintro e w3 ⟨rfl, hb3⟩
    go_wp2_with fail
    go_ret
    exact ⟨rfl, hbb.trans ((hb2.mono hbb.size).trans (hb3.mono (Nat.le_trans hbb.size hb2.size)))⟩
  · have hx : Hid (nextC b [] = (1, a0 % 64, [])) := by
      have := HB.out
      show _ = _
      unfold nextC
      rw [if_neg (by omega), if_pos (by omega), ← this]; rfl
    have hd : decide (a0 < 192) = true := decide_eq_true (by omega)
    have e1 : a0 / 64 = 1 := by omega
    go_wp2_with fail
    refine (byte_same g off c 1 (a0 % 64) (nextC b []) w1 hx.out (by omega) (by simpa using hlc) hcm HRD.out).mono ?_
    rintro e w2 ⟨rfl, hb2⟩
    go_wp2_with fail
    refine (lives33 _).mono ?_
    rintro e w3 ⟨rfl, hb3⟩
    go_wp2_with fail
    go_ret
    exact ⟨rfl, hbb.trans ((hb2.mono hbb.size).trans (hb3.mono (Nat.le_trans hbb.size hb2.size)))⟩
  · have hx : Hid (nextC b [] = (1, a0 % 64, [])) := by
      have := HB.out
      show _ = _
      unfold nextC
      rw [if_neg (by omega), if_pos (by omega), ← this]; rfl
    have hd : decide (a0 < 192) = true := decide_eq_true (by omega)
    have e1 : a0 / 64 = 2 := by omega
    go_wp2_with fail
    refine (byte_same g off c 1 (a0 % 64) (nextC b []) w1 hx.out (by omega) (by simpa using hlc) hcm HRD.out).mono ?_
    rintro e w2 ⟨rfl, hb2⟩
    go_wp2_with fail
    refine (lives33 _).mono ?_
    rintro e w3 ⟨rfl, hb3⟩
    go_wp2_with fail
    go_ret
    exact ⟨rfl, hbb.trans ((hb2.mono hbb.size).trans (hb3.mono (Nat.le_trans hbb.size hb2.size)))⟩
  · have hx : Hid (nextC b [] = (2, 0, [])) := by
      have := HB.out
      show _ = _
      unfold nextC
      rw [if_neg (by omega), if_neg (by omega)]
    have hd : decide (a0 < 192) = false := decide_eq_false (by omega)
    go_wp2_with fail
    refine (byte_same g off c 2 0 (nextC b []) w1 hx.out (by omega) (by simpa using hlc) hcm HRD.out).mono ?_
    rintro e w2 ⟨rfl, hb2⟩
    go_wp2_with fail
    refine (lives33 _).mono ?_
    rintro e w3 ⟨rfl, hb3⟩
    go_wp2_with fail
    go_ret
    exact ⟨rfl, hbb.trans ((hb2.mono hbb.size).trans (hb3.mono (Nat.le_trans hbb.size hb2.size)))⟩
end Go.Proofs.Ytcmogfdbjppdeaa
