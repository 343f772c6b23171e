/- Contracts: the chapter's words of a line; two lists of texts. -/
import Derived.Test.YtifbcejekdhnlaaDoorKyWords
import Derived.Deep.RegionHeld3
namespace Go.Proofs.YtifbcejekdhnlaaDoor
open Go.RowKit
set_option linter.unusedVariables false

set_option maxHeartbeats 2000000 in
set_option maxRecDepth 100000 in
theorem refwords (s : ByteArray) (w : World) (hs : s.size ≤ 1048576) :
    Calls Tryd.prog 35 #[.string s] w (IsLst w 1 (wordsF s.data.toList).length (strs (wordsF s.data.toList))) := by
  obtain ⟨i0, hi, hz0, hz1, hz2⟩ := info_parts info_string
  obtain ⟨B, hB⟩ : ∃ B, B = w.heap.size := ⟨_, rfl⟩
  have hBl : B ≤ w.heap.size := by omega
  have HB := Lib.hid hB
  clear hB
  go_enter Tryd.func35, Tryd.ntmps35
  go_wp2_with fail
  go_loopw [3, 4] (fun v i wr => ∃ (ws : List (List UInt8)) (k : Nat), k ≤ s.size + 1 ∧ i = .int .i64 k ∧ wr.ownsRow B 9 1 v ws.length (strs ws) ∧ Below B w wr ∧ ws.length ≤ k ∧ Hid (ws ++ wordsG [] (s.data.toList.drop k) = wordsF s.data.toList)) (fun _ i _ => s.size + 1 - (intOf i).toNat)
  case atStart => exact ⟨[], 0, by omega, rfl, World.ownsRow_nil _ _ _ _, Below.refl _ _, by simp, rfl⟩
  case round =>
    obtain ⟨ws, f, hk, rfl, hown, hnx, hwl, hW⟩ := hrel
    have hsz := hnx.size
    by_cases hlt : f < s.size
    · have hd : decide ((f : Int) < (s.size : Int)) = true := decide_eq_true (by omega)
      go_wp2_with fail
      go_loop [5] (fun i => ∃ k : Nat, f ≤ k ∧ k ≤ s.size ∧ i = .int .i64 k ∧ Hid (ws ++ wordsG (cut s f k) (s.data.toList.drop k) = wordsF s.data.toList)) (fun i => s.size - (intOf i).toNat)
      case atStart => exact ⟨f, by omega, by omega, rfl, by show _ = _; rw [cut_nil]; exact hW.out⟩
      case round =>
        obtain ⟨k, hfk, hks, rfl, hX⟩ := hrel
        clear hW
        by_cases hin : k < s.size
        · have hin' : decide ((k : Int) < (s.size : Int)) = true := decide_eq_true (by omega)
          by_cases hc : s[k] = 32
          · have hb : ((s[k].toNat : Int) != 32) = false := by rw [hc]; rfl
            have HC := Lib.hid hc
            clear hc
            by_cases hf : f < k
            · have hf' : decide ((f : Int) < (k : Int)) = true := decide_eq_true (by omega)
              have HN := Lib.hid (W_app hX.out (W_close hf hin HC.out))
              clear hX
              go_wp2_with (at_builtin; refine wpList_append_own _ rfl _ _ 24 rfl B 9 i0 (.string ⟨#[]⟩) 1 16 Tryd.underlying24 hi hz0 hz1 hz2 rfl (by decide) _ _ _ rfl (hown.alloc _) ⟨wr.heap.size, 0, none⟩ 1 1 [.string (s.extract f k)] rfl rfl ?c1 ?c2 ?c3 ?c4 ?c5 ?_)
              case c2 => rfl
              case c3 => unfold maxLen; omega
              case c4 => omega
              case c5 => omega
              intro v' w2 hown' hgrow _
              have R := app_below hown hnx hBl hgrow
              clear hgrow hown
              go_wp2
              go_roundw
              case rel => exact ⟨ws ++ [cut s f k], k + 1, by omega, by go_num, ws_snoc hown', R, by simp; omega, HN⟩
              case measure => simp [intOf]; omega
            · obtain rfl : f = k := by omega
              have HN : Hid (ws ++ wordsG [] (s.data.toList.drop (f + 1)) = wordsF s.data.toList) := by
                show _ = _
                rw [← W_skip hin HC.out]; exact hX.out
              clear hX
              go_wp2_with fail
              go_roundw
              case rel => exact ⟨ws, f + 1, by omega, by go_num, hown, hnx, by omega, HN⟩
              case measure => simp [intOf]; omega
          · have hb : ((s[k].toNat : Int) != 32) = true := ne32 hc
            have HN : Hid (ws ++ wordsG (cut s f (k + 1)) (s.data.toList.drop (k + 1)) = wordsF s.data.toList) := by
              show _ = _
              rw [← W_step hfk hin hc]; exact hX.out
            clear hX hc
            go_wp2_with fail
            go_round
            case rel => exact ⟨k + 1, by omega, by omega, by go_num, HN⟩
            case measure => simp [intOf]; omega
        · obtain rfl : k = s.size := by omega
          have hin' : decide ((s.size : Int) < (s.size : Int)) = false := decide_eq_false (by omega)
          have hf' : decide ((f : Int) < (s.size : Int)) = true := decide_eq_true (by omega)
          have HN := Lib.hid (W_app hX.out (W_last hlt))
          clear hX
          go_wp2_with (at_builtin; refine wpList_append_own _ rfl _ _ 24 rfl B 9 i0 (.string ⟨#[]⟩) 1 16 Tryd.underlying24 hi hz0 hz1 hz2 rfl (by decide) _ _ _ rfl (hown.alloc _) ⟨wr.heap.size, 0, none⟩ 1 1 [.string (s.extract f s.size)] rfl rfl ?d1 ?d2 ?d3 ?d4 ?d5 ?_)
          case d2 => rfl
          case d3 => unfold maxLen; omega
          case d4 => omega
          case d5 => omega
          intro v' w2 hown' hgrow _
          have R := app_below hown hnx hBl hgrow
          clear hgrow hown
          go_wp2
          go_roundw
          case rel => exact ⟨ws ++ [cut s f s.size], s.size + 1, by omega, by go_num, ws_snoc hown', R, by simp; omega, HN⟩
          case measure => simp [intOf]; omega
    · have hd : decide ((f : Int) < (s.size : Int)) = false := decide_eq_false (by omega)
      have HE : Hid (ws = wordsF s.data.toList) := by
        show _ = _
        have := hW.out
        rw [W_none (by omega)] at this
        simpa using this
      clear hW
      go_wp2_with fail
      go_ret
      exact ⟨_, rfl, HE.out ▸ HB.out ▸ Lst.of_own hown, HB.out ▸ hnx⟩
end Go.Proofs.YtifbcejekdhnlaaDoor
