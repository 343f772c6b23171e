/- Lines: the words of each verb: contracts. -/
import Derived.Test.YtifbcejekdhnlaaDoorLw1
import Derived.Test.YtifbcejekdhnlaaDoorLi9
import Derived.Maps.AppendAt
namespace Go.Proofs.YtifbcejekdhnlaaDoor
open Go.RowKit Go.Maps
set_option linter.unusedVariables false

theorem cb_new' {W : World} {C : Array Value} {T : TypeId} {L : List Value} {q : Nat} (hq : q = W.heap.size) (hL : L = C.toList) : Cb (W.alloc (.cells C T)) q L := by
  subst hq
  exact cb_new hL
theorem KyR.of_cb {W : World} {q : Nat} {l : List (List UInt8)} (h : Cb W q (strs l)) (hl : l.length ≤ 1048576) : KyR W (.slice (some ⟨q, 0, none⟩) l.length l.length) l :=
  ⟨⟨_, _, rfl, Nat.le_refl _, by unfold maxLen; omega, fun j x hj => ⟨q, rfl, h.lt, h.at_ j _ (by simp only [strs, List.getElem?_map, hj]; rfl)⟩⟩⟩
theorem ones_rep (n : Nat) : Lib.repeatL [49] (1 + n) = onesL n := by
  have := Lib.repeatL_replicate 49 1 (1 + n)
  unfold onesL
  simpa using this
set_option maxHeartbeats 2000000 in
set_option maxRecDepth 100000 in
theorem numberw (q i : Nat) (z : Int) (m : Nat) (w : World) (hi : i < 4) (hz0 : 0 ≤ z) (hz : z ≤ 65535) (hm : z % 3 = m) (hc : w.cell? ⟨q, i, none⟩ = some (.int .u16 z)) :
    Calls Tryd.prog 20 #[.int .i64 i, .pointer (some ⟨q, 0, none⟩)] w fun e w' => e = .returned (.string ⟨(onesL m).toArray⟩) ∧ Below w.heap.size w w' := by
  have hm3 : m ≤ 2 := by omega
  have h1 : IntKind.u16.wrap (m : Int) = m := by simp [IntKind.wrap, IntKind.bits, IntKind.signed]; omega
  have h2 : IntKind.i64.wrap (m : Int) = m := IntWalk.i64_in _ (by omega)
  have h3 : IntKind.i64.wrap (1 + (m : Int)) = 1 + (m : Int) := IntWalk.i64_in _ (by omega)
  have hrep : ∀ W, Calls Tryd.prog 19 #[.string ⟨#[49]⟩, .int .i64 (1 + (m : Int))] W fun e w' => e = .returned (.string ⟨(onesL m).toArray⟩) ∧ Below W.heap.size W w' := fun W => by
    have := Tryd.strings_Repeat ⟨#[49]⟩ (1 + m) W (by omega) (by rw [show (⟨#[49]⟩ : ByteArray).size = 1 from rfl]; omega)
    rw [show ((⟨#[49]⟩ : ByteArray).data.toList) = [49] from rfl, ones_rep] at this
    have e : (((1 + m : Nat)) : Int) = 1 + (m : Int) := by omega
    rwa [e] at this
  go_enter Tryd.func20, Tryd.ntmps20
  go_wp2_with (go_at_call 19; refine (hrep _).mono ?_; rintro e w2 ⟨rfl, hb2⟩)
  go_ret
  exact ⟨rfl, hb2⟩
set_option maxHeartbeats 8000000 in
set_option maxRecDepth 100000 in
theorem wordslw (v : Int) (k : Nat) (a b c d : List UInt8) (w : World) (hv0 : 0 ≤ v) (hv : v ≤ 255) (hk : v % 13 = k) :
    Calls Tryd.prog 21 #[.int .u8 v, .agg #[.string ⟨a.toArray⟩, .string ⟨b.toArray⟩, .string ⟨c.toArray⟩, .string ⟨d.toArray⟩]] w fun e w' => ∃ g, e = .returned (.slice (some ⟨g, 0, none⟩) (wordsL k a b c d).length (wordsL k a b c d).length) ∧ KyR w' (.slice (some ⟨g, 0, none⟩) (wordsL k a b c d).length (wordsL k a b c d).length) (wordsL k a b c d) ∧ Below w.heap.size w w' := by
  have h1 : IntKind.i64.wrap v = v := IntWalk.i64_in _ (by omega)
  have h2 : IntKind.i64.wrap (k : Int) = k := IntWalk.i64_in _ (by omega)
  have hk13 : k < 13 := by omega
  go_enter Tryd.func21, Tryd.ntmps21
  go_upto_region 3 with fail
  have hk' : k = 0 ∨ k = 1 ∨ k = 2 ∨ k = 3 ∨ k = 4 ∨ k = 5 ∨ k = 6 ∨ k = 7 ∨ k = 8 ∨ k = 9 ∨ k = 10 ∨ k = 11 ∨ k = 12 := by omega
  rcases hk' with rfl | rfl | rfl | rfl | rfl | rfl | rfl | rfl | rfl | rfl | rfl | rfl | rfl
  all_goals
    go_wp2_with fail
    go_ret
    refine ⟨_, rfl, KyR.of_cb ?_ (by simp [wordsL, tailL]), ?_⟩
    · repeat (first | exact cb_new' (by simp) rfl | refine Cb.new ?_ ((Below.refl _ _).alloc (Nat.le_refl _) _))
    · repeat (first | exact Below.refl _ _ | refine Below.alloc ?_ (by simp; try omega) _)
end Go.Proofs.YtifbcejekdhnlaaDoor
