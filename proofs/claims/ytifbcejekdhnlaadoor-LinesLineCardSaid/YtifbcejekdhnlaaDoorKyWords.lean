/- Contracts: the words of a line. -/
import Derived.Test.YtifbcejekdhnlaaDoorKy
import Derived.Test.YtifbcejekdhnlaaDoorKyCut
import Derived.Test.YtifbcejekdhnlaaDoorShelf
namespace Go.Proofs.YtifbcejekdhnlaaDoor
open Go.RowKit
set_option linter.unusedVariables false

theorem info_string : (Tryd.prog.info? 9).map (fun i => (i.zero, i.size, i.bytes)) = some (some (.string ⟨#[]⟩), 1, 16) := by kernel_rfl
theorem own_below {w w' : World} {B e size n : Nat} {v : Value} {xs : List Value} (h : w.ownsRow B e size v n xs) (hb : Below w.heap.size w w') : w'.ownsRow B e size v n xs := by
  obtain ⟨hl, h | ⟨g, cap, cur, rfl, hB, hblk, r⟩⟩ := h
  · exact ⟨hl, .inl h⟩
  · have hlt : g < w.heap.size := by
      rcases Nat.lt_or_ge g w.heap.size with h | h
      · exact h
      · rw [Array.getElem?_eq_none h] at hblk; simp at hblk
    exact ⟨hl, .inr ⟨g, cap, cur, rfl, hB, (hb.block g hlt).trans hblk, r⟩⟩
theorem clonew (s : ByteArray) (w : World) (h : s.size ≤ 4294967296) :
    Calls Tryd.prog 48 #[.string s] w fun e w' => e = .returned (.string s) ∧ Below w.heap.size w w' := by
  go_enter Tryd.func48, Tryd.ntmps48
  go_wp2_with fail
  refine (Tryd.stringslite_Clone _ _ (by omega)).mono ?_
  rintro e w1 ⟨rfl, hb⟩
  go_wp2_with fail
  go_ret
  exact ⟨rfl, hb⟩
theorem clips (a : Option Addr) (n c : Nat) (w : World) (hn : n ≤ c) (hc : c ≤ maxLen) (h0 : a = none → n = 0 ∧ c = 0) :
    Calls Tryd.prog 49 #[.slice a n c] w fun e w' => e = .returned (.slice a n n) ∧ w = w' := by
  unfold maxLen at hc
  cases a with
  | none =>
    obtain ⟨rfl, rfl⟩ := h0 rfl
    go_enter Tryd.func49, Tryd.ntmps49
    go_wp2
    go_ret
    exact ⟨rfl, rfl⟩
  | some a =>
    clear h0
    go_enter Tryd.func49, Tryd.ntmps49
    go_wp2
    go_ret
    exact ⟨rfl, rfl⟩
theorem extract_le {s : ByteArray} {f k : Nat} (h : s.size ≤ 1048576) : (s.extract f k).size ≤ 4294967296 := by simp [ByteArray.size_extract]; omega
theorem ws_snoc {wr : World} {B : Nat} {e : TypeId} {v : Value} {ws : List (List UInt8)} {s : ByteArray} {f k : Nat} (h : wr.ownsRow B e 1 v (ws.length + 1) (strs ws ++ [.string (s.extract f k)])) :
    wr.ownsRow B e 1 v (ws ++ [cut s f k]).length (strs (ws ++ [cut s f k])) := by
  rw [strs_snoc, cut_mk, List.length_append]
  exact h
theorem ne32 {c : UInt8} (h : c ≠ 32) : ((c.toNat : Int) != 32) = true := by
  simp
  intro e
  exact h (UInt8.toNat_inj.mp (by show c.toNat = 32; omega))
theorem W_app {ws t r u : List (List UInt8)} {x : List UInt8} (h : ws ++ t = r) (h2 : t = x :: u) : (ws ++ [x]) ++ u = r := by
  subst h; subst h2; simp
set_option maxHeartbeats 2000000 in
set_option maxRecDepth 100000 in
theorem wordsw (s : ByteArray) (w : World) (hs : s.size ≤ 1048576) :
    Calls Tryd.prog 18 #[.string s] w (IsLst w 1 (wordsF s.data.toList).length (strs (wordsF s.data.toList))) := by
  obtain ⟨i0, hi, hz0, hz1, hz2⟩ := info_parts info_string
  obtain ⟨B, hB⟩ : ∃ B, B = w.heap.size := ⟨_, rfl⟩
  have hBl : B ≤ w.heap.size := by omega
  have HB := Lib.hid hB
  clear hB
  go_enter Tryd.func18, Tryd.ntmps18
  go_wp2_with fail
  go_loopw [3, 4, 9] (fun v fv i wr => ∃ (ws : List (List UInt8)) (f k : Nat), f ≤ k ∧ k ≤ s.size + 1 ∧ i = .int .i64 k ∧ fv = .int .i64 f ∧ wr.ownsRow B 9 1 v ws.length (strs ws) ∧ Below B w wr ∧ ws.length ≤ k ∧ Hid (k = s.size + 1 → f = k) ∧ Hid (ws ++ wordsG (cut s f k) (s.data.toList.drop k) = wordsF s.data.toList)) (fun _ _ i _ => s.size + 1 - (intOf i).toNat)
  case atStart => exact ⟨[], 0, 0, by omega, by omega, rfl, rfl, World.ownsRow_nil _ _ _ _, Below.refl _ _, by simp, fun _ => rfl, by show _ = _; rw [cut_nil]; rfl⟩
  case round =>
    obtain ⟨ws, f, k, hfk, hk, rfl, rfl, hown, hnx, hwl, hf1, hW⟩ := hrel
    have hsz := hnx.size
    by_cases hlt : k < s.size + 1
    · have hd : decide ((k : Int) < (s.size : Int) + 1) = true := decide_eq_true (by omega)
      by_cases hin : k < s.size
      · have hin' : decide ((k : Int) < (s.size : Int)) = true := decide_eq_true (by omega)
        by_cases hc : s[k] = 32
        · have hb : ((s[k].toNat : Int) != 32) = false := by rw [hc]; rfl
          have HC := Lib.hid hc
          clear hc
          by_cases hf : f < k
          · have HN := Lib.hid (W_app hW.out (W_close hf hin HC.out))
            clear hW
            go_wp2_with fail
            refine (clonew _ _ (extract_le hs)).mono ?_
            rintro e w1 ⟨rfl, hb1⟩
            have hown1 := own_below hown hb1
            have hnx1 := hnx.trans (hb1.mono (Nat.le_trans hBl hsz))
            have hsz1 := hb1.size
            clear hown hb1
            go_wp2_with (at_builtin; refine wpList_append_own _ rfl _ _ 24 rfl B 9 i0 (.string ⟨#[]⟩) 1 16 Tryd.underlying24 hi hz0 hz1 hz2 rfl (by decide) _ _ _ rfl (hown1.alloc _) ⟨w1.heap.size, 0, none⟩ 1 1 [.string (s.extract f k)] rfl rfl ?c1 ?c2 ?c3 ?c4 ?c5 ?_)
            case c1 =>
              intro j u hj
              match j, hj with
              | 0, hj => simp at hj; subst hj; simp [Addr.add]
            case c2 => intro u hu; simp at hu; subst hu; rfl
            case c3 => unfold maxLen; omega
            case c4 => omega
            case c5 => simp; omega
            intro v' w2 hown' hgrow _
            have R := app_below hown1 hnx1 hBl hgrow
            clear hgrow hown1
            go_wp2
            go_roundw
            case rel => exact ⟨ws ++ [cut s f k], k + 1, k + 1, by omega, by omega, by go_num, by go_num, ws_snoc hown', R, by simp; omega, fun _ => rfl, by show _ = _; rw [cut_nil]; exact HN.out⟩
            case measure => simp [intOf]; omega
          · obtain rfl : f = k := by omega
            have HN : Hid (ws ++ wordsG (cut s (f + 1) (f + 1)) (s.data.toList.drop (f + 1)) = wordsF s.data.toList) := by
              show _ = _
              rw [cut_nil, ← W_skip hin HC.out]; exact hW.out
            clear hW
            go_wp2_with fail
            go_roundw
            case rel => exact ⟨ws, f + 1, f + 1, by omega, by omega, by go_num, by go_num, hown, hnx, by omega, fun _ => rfl, HN⟩
            case measure => simp [intOf]; omega
        · have hb : ((s[k].toNat : Int) != 32) = true := ne32 hc
          have HN : Hid (ws ++ wordsG (cut s f (k + 1)) (s.data.toList.drop (k + 1)) = wordsF s.data.toList) := by
            show _ = _
            rw [← W_step hfk hin hc]; exact hW.out
          clear hW hc
          go_wp2_with fail
          go_roundw
          case rel => exact ⟨ws, f, k + 1, by omega, by omega, by go_num, rfl, hown, hnx, by omega, fun e => absurd e (by omega), HN⟩
          case measure => simp [intOf]; omega
      · obtain rfl : k = s.size := by omega
        have hin' : decide ((s.size : Int) < (s.size : Int)) = false := decide_eq_false (by omega)
        by_cases hf : f < s.size
        · have HN := Lib.hid (W_app hW.out (W_last hf))
          clear hW
          go_wp2_with fail
          refine (clonew _ _ (extract_le hs)).mono ?_
          rintro e w1 ⟨rfl, hb1⟩
          have hown1 := own_below hown hb1
          have hnx1 := hnx.trans (hb1.mono (Nat.le_trans hBl hsz))
          have hsz1 := hb1.size
          clear hown hb1
          go_wp2_with (at_builtin; refine wpList_append_own _ rfl _ _ 24 rfl B 9 i0 (.string ⟨#[]⟩) 1 16 Tryd.underlying24 hi hz0 hz1 hz2 rfl (by decide) _ _ _ rfl (hown1.alloc _) ⟨w1.heap.size, 0, none⟩ 1 1 [.string (s.extract f s.size)] rfl rfl ?d1 ?d2 ?d3 ?d4 ?d5 ?_)
          case d1 =>
            intro j u hj
            match j, hj with
            | 0, hj => simp at hj; subst hj; simp [Addr.add]
          case d2 => intro u hu; simp at hu; subst hu; rfl
          case d3 => unfold maxLen; omega
          case d4 => omega
          case d5 => simp; omega
          intro v' w2 hown' hgrow _
          have R := app_below hown1 hnx1 hBl hgrow
          clear hgrow hown1
          go_wp2
          go_roundw
          case rel => exact ⟨ws ++ [cut s f s.size], s.size + 1, s.size + 1, by omega, by omega, by go_num, by go_num, ws_snoc hown', R, by simp; omega, fun _ => rfl, by show _ = _; rw [cut_nil]; exact HN.out⟩
          case measure => simp [intOf]
        · obtain rfl : f = s.size := by omega
          have HN : Hid (ws ++ wordsG (cut s (s.size + 1) (s.size + 1)) (s.data.toList.drop (s.size + 1)) = wordsF s.data.toList) := by
            show _ = _
            have := hW.out
            rw [cut_nil, W_none (by omega)] at this ⊢
            exact this
          clear hW
          go_wp2_with fail
          go_roundw
          case rel => exact ⟨ws, s.size + 1, s.size + 1, by omega, by omega, by go_num, by go_num, hown, hnx, by omega, fun _ => rfl, HN⟩
          case measure => simp [intOf]
    · obtain rfl : k = s.size + 1 := by omega
      have hd : decide (((s.size + 1 : Nat) : Int) < (s.size : Int) + 1) = false := decide_eq_false (by omega)
      have HE : Hid (ws = wordsF s.data.toList) := by
        show _ = _
        have := hW.out
        rw [hf1.out rfl, cut_nil, W_none (by omega)] at this
        simpa using this
      obtain ⟨a, n, c, hv, hn, hc, h0, L'⟩ := lst_clip hown
      rw [hv]
      clear hv hown hW
      go_wp2_with fail
      refine (clips _ _ _ _ hn hc h0).mono ?_
      rintro e w2 ⟨rfl, rfl⟩
      go_wp2_with fail
      go_ret
      exact ⟨_, rfl, HE.out ▸ HB.out ▸ L', HB.out ▸ hnx⟩
end Go.Proofs.YtifbcejekdhnlaaDoor
