/- The law NotesStay. -/
import Derived.Test.YteofbgbjibbdaacNyR
import Derived.Deep.AppendLies
namespace Go.Proofs.Yteofbgbjibbdaac
open Go.RowKit
set_option linter.unusedVariables false
theorem wrap_u8_small (n : Nat) (h : n < 256) : IntKind.u8.wrap (n : Int) = n := by
  have e : IntKind.u8.bits = 8 := rfl
  unfold IntKind.wrap
  simp [e, IntKind.signed]
  omega
theorem iskf_out {k : Int} (h : k < 1 ∨ 9 < k) : iskf k = false := by unfold iskf; simp; omega
theorem iskf_in {k : Int} (h : 1 ≤ k ∧ k ≤ 9) : iskf k = true := by unfold iskf; simp; omega
set_option maxHeartbeats 4000000 in
set_option maxRecDepth 100000 in
theorem walk_NotesStay (a0 : Option Addr) (l0 c0 : Nat) (a1 : Int) (w : World) (w0 : Reads Try.prog w 68 (.slice a0 l0 c0)) (w1 : (Lit.int .u8 a1).wf = true) :
    Calls Try.prog 14 #[.slice a0 l0 c0, .int .u8 a1] w fun e w' => e = .returned (.bool true) ∧ Below w.heap.size w w' := by
  obtain ⟨i0, hi, hz0, hz1, hz2⟩ := info_parts info_note
  obtain ⟨m0, b0, o0, L, p0, hL, lay0⟩ := reads_layN w0
  obtain ⟨u0, u1⟩ := bounds_u8 w1
  clear w0 w1
  have HA0 := Lib.hid p0
  have HL := Lib.hid hL
  have LY0 := Lib.hid lay0
  clear p0 hL lay0
  by_cases hbig : 150 < l0
  · have hd : decide (150 < (l0 : Int)) = true := decide_eq_true (by omega)
    go_enter Try.func14, Try.ntmps14
    go_wp2_with fail
    refine (lives09 _).mono ?_
    rintro e w' ⟨rfl, hk⟩
    go_wp2_with fail
    go_ret
    exact ⟨rfl, hk⟩
  have hd : decide (150 < (l0 : Int)) = false := decide_eq_false (by omega)
  have hs0 : l0 ≤ 150 := by omega
  clear hbig m0
  go_enter Try.func14, Try.ntmps14
  go_wp2_with fail
  refine (newT _).mono ?_
  rintro e w1 ⟨rfl, rfl⟩
  go_wp2_with fail
  have hr0 : NyMid w.heap.size w [] [] (.slice none 0 0) (w.alloc (.cells #[.slice none 0 0] 98)) :=
    ⟨_, nts_made w 98, fun j e => by omega, World.ownsRow_nil _ _ _ _, fun g hg => by simp [Value.ownBlock] at hg, fun _ => rfl, (Below.refl _ _).alloc (Nat.le_refl _) _, by simp⟩
  obtain ⟨N, hN⟩ : ∃ N, N = w.heap.size := ⟨_, rfl⟩
  have HN := Lib.hid hN
  rw [← hN] at hr0 ⊢
  clear hN
  generalize World.alloc _ _ = W at hr0 ⊢
  go_loopw [6, 7, 8] (fun vv cn i wr => ∃ (k cnt : Nat) (v : Value), v = vv ∧ k ≤ l0 ∧ i = .int .i64 k ∧ cn = .int .i64 cnt ∧ cnt ≤ (addsL (L.take k)).length ∧ NyMid N w (addsL (L.take k)) (addsL (L.take k)) v wr) (fun _ _ i _ => l0 - (intOf i).toNat)
  case atStart => exact ⟨0, 0, _, rfl, Nat.zero_le _, rfl, rfl, Nat.zero_le _, hr0⟩
  case round =>
    obtain ⟨k, cnt, v, rfl, hk, rfl, rfl, hcnt, hR0⟩ := hrel
    clear hr0
    obtain ⟨hbel, hsz⟩ := hR0.below
    have hkl : (addsL (L.take k)).length ≤ k := Nat.le_trans (addsL_len _) (List.length_take_le _ _)
    by_cases hlt : k < l0
    · obtain ⟨hlc, rfl⟩ := HA0.out (by omega)
      obtain ⟨x, hx⟩ : ∃ x, L[k]? = some x := ⟨_, List.getElem?_eq_getElem (by have := HL.out; omega)⟩
      have hsn := addsL_snoc hx
      obtain ⟨s, th, kk, r, b', c, d, v8⟩ := x
      obtain ⟨⟨d0, d1, d2, d3, d4, d5, d6, d7⟩, k0, k1, hbN⟩ := LY0.out.now HN.out hbel hx
      have LN := Lib.hid (fun (X : World) (hb : Below N w X) => (LY0.out.now HN.out hb hx).1)
      generalize addsL (L.take k) = M at *
      have HSN := Lib.hid hsn
      obtain ⟨n, hnn⟩ : ∃ n, n = M.length := ⟨_, rfl⟩
      have HNN := Lib.hid hnn
      have HFF : Hid ((iskf kk = false → addF M (s, th, kk, r, b', c, d, v8) = 1 ∧ addL M (s, th, kk, r, b', c, d, v8) = M) ∧ (iskf kk = true → lowN M (s, th, kk, r, b', c, d, v8) = false → addF M (s, th, kk, r, b', c, d, v8) = 0 ∧ addL M (s, th, kk, r, b', c, d, v8) = M ++ [(s, th, kk, r, b', c, d, v8)])) := Lib.hid ⟨fun h => addF_bad (.inl h), fun h1 h2 => addF_ok h1 h2 (by omega)⟩
      have hrow := hR0.row
      have HR0 := Lib.hid hR0
      have C1 : Hid (∀ X, Below wr.heap.size wr X → Calls Try.prog 54 #[.pointer (some ⟨N, 0, none⟩), .agg #[.int .i64 s, .int .i64 th, .int .u8 kk, .int .i64 r, .int .i64 b', .int .i64 c, .int .i64 d, .int .i64 v8]] X fun e w' => e = .returned (.int .i64 (addF M (s, th, kk, r, b', c, d, v8))) ∧ NyMid N w (addL M (s, th, kk, r, b', c, d, v8)) M v w') := Lib.hid (fun X hb => (hR0.new hb).add (s, th, kk, r, b', c, d, v8) (by omega))
      have C0 := Lib.hid (hR0.count (by omega))
      have hkc : k < c0 := by omega
      have j0 : (0 : Int) ≤ (k : Int) := by omega
      have j1 : (k : Int) < (l0 : Int) := by omega
      have hcase : (kk < 1 ∨ 9 < kk) ∨ (1 ≤ kk ∧ kk ≤ 9) := by omega
      rw [← hnn] at hkl hcnt C0
      clear hx hsn hR0 hbel hbN hnn
      rcases hrow with ⟨hM0, rfl⟩ | ⟨g, cap, y, rfl, hn, hy, hnc, hg, hq⟩
      -- no note yet
      · obtain ⟨hF1, hF0⟩ := HFF.out
        have hlow : lowN M (s, th, kk, r, b', c, d, v8) = false := by rw [hM0]; rfl
        clear hM0
        rcases hcase with hkk | ⟨k1', k9'⟩
        · have HF := Lib.hid (addF_bad (M := M) (x := (s, th, kk, r, b', c, d, v8)) (.inl (iskf_out hkk)))
          rw [HF.out.1] at C1
          clear hF1 hF0
          have hk3 : kk < 1 ∨ (1 ≤ kk ∧ 9 < kk) := by omega
          clear hkk
          rcases hk3 with hk3 | ⟨hk3, hk4⟩
          all_goals
            clear hlow
            by_cases hw : (k : Int) = a1
            all_goals first
              | have hwb : ((k : Int) == a1) = true := by simpa using hw
              | have hwb : ((k : Int) == a1) = false := by simpa using hw
            all_goals
              clear hw
              go_wp2_with (go_at_call 57; ((with_reducible refine C0.out.mono ?_); rintro e w' ⟨rfl, rfl⟩))
              go_quiet (fail)
              go_wp2_with fail
              refine (C1.out _ (belowNd (Below.refl _ _) nq)).mono ?_
              rintro e w2 ⟨rfl, hM⟩
              rw [HF.out.2] at hM
              have HM := Lib.hid hM
              clear d0 d1 d2 d3 d4 d5 d6 d7 hM
              go_wp2_with fail
              go_roundw
              case rel =>
                have hM := HM.out
                rw [← HF.out.2, ← HSN.out] at hM
                first
                  | exact ⟨k + 1, cnt, _, rfl, by omega, by go_num, rfl, by rw [HSN.out, HF.out.2, ← HNN.out]; omega, by rw [HSN.out, HF.out.2] at hM ⊢; first | exact hM | (rw [HNN.out]; exact hM)⟩
                  | exact ⟨k + 1, n, _, rfl, by omega, by go_num, rfl, by rw [HSN.out, HF.out.2, ← HNN.out]; omega, by rw [HSN.out, HF.out.2] at hM ⊢; first | exact hM | (rw [HNN.out]; exact hM)⟩
              case measure => simp [intOf]; omega
        · have HF := Lib.hid (hF0 (iskf_in ⟨k1', k9'⟩) hlow)
          rw [HF.out.1] at C1
          clear hF1 hF0 hlow
          by_cases hw : (k : Int) = a1
          all_goals first
            | have hwb : ((k : Int) == a1) = true := by simpa using hw
            | have hwb : ((k : Int) == a1) = false := by simpa using hw
          all_goals
            clear hw
            go_wp2_with (go_at_call 57; ((with_reducible refine C0.out.mono ?_); rintro e w' ⟨rfl, rfl⟩))
            go_quiet (fail)
            go_wp2_with fail
            refine (C1.out _ (belowNd (Below.refl _ _) nq)).mono ?_
            rintro e w2 ⟨rfl, hM⟩
            rw [HF.out.2] at hM
            have HM := Lib.hid hM
            obtain ⟨e0, e1, e2, e3, e4, e5, e6, e7⟩ := LN.out _ hM.below.1
            have hown := hM.own
            rw [← HNN.out] at hown
            have hs2 : N ≤ w2.heap.size := Nat.le_of_lt hM.below.2
            clear d0 d1 d2 d3 d4 d5 d6 d7 hM
            go_wp2_with (at_builtin; refine wpList_append_lies _ rfl (.tmp 87) (.tmp 92) 68 rfl N 80 i0 (.agg #[.int .i64 0, .int .i64 0, .int .u8 0, .int .i64 0, .int .i64 0, .int .i64 0, .int .i64 0, .int .i64 0]) 8 64 Try.underlying68 hi hz0 hz1 hz2 rfl (by decide) (.slice none 0 0) n (rowsN M) rfl (hown.alloc _) ⟨w2.heap.size, 0, none⟩ 1 1 (ncells s th kk r b' c d v8) rfl rfl (by intro j u hj; exact news8 hj) (by simp [ncells, Value.oneCell']) (by decide) (by unfold maxLen; omega) (by omega) (by simp; omega) (w2.heap.size + 1) (by simp) ?_; intro g' cap' w3 hown3 hgrow hat hltg)
            have hM3 := NyMid.app HM.out (by rw [← HNN.out]; exact hown3) hgrow hat
            have HM3 := Lib.hid hM3
            clear hown3 hgrow hat hltg hM3 hown e0 e1 e2 e3 e4 e5 e6 e7
            go_wp2_with fail
            go_roundw
            case rel =>
              have hM := HM3.out
              first
                | exact ⟨k + 1, cnt, _, rfl, by omega, by go_num, rfl, by rw [HSN.out, HF.out.2, List.length_append, ← HNN.out]; omega, by rw [HSN.out, HF.out.2]; rw [← HNN.out] at hM; exact hM⟩
                | exact ⟨k + 1, n, _, rfl, by omega, by go_num, rfl, by rw [HSN.out, HF.out.2, List.length_append, ← HNN.out]; omega, by rw [HSN.out, HF.out.2]; rw [← HNN.out] at hM; exact hM⟩
            case measure => simp [intOf]; omega
      -- some
      · obtain ⟨hF1, hF0⟩ := HFF.out
        rw [← HNN.out] at hn hnc hq
        have hlow := low_last (x := (s, th, kk, r, b', c, d, v8)) hy
        rw [← HNN.out]
        obtain ⟨ls, hls⟩ : ∃ ls, ls = y.s := ⟨_, rfl⟩
        rw [← hls] at hq hlow
        have y1 : ((n : Int) - 1).toNat = n - 1 := by omega
        have y2 : IntKind.i64.wrap ((n : Int) - 1) = (n : Int) - 1 := IntWalk.i64_in _ (by omega)
        have y3 : 0 ≤ (n : Int) - 1 := by omega
        have y4 : (n : Int) - 1 < n := by omega
        have y5 : (1 : Int) ≤ n := by omega
        have hny : n - 1 < cap := by omega
        clear hy hls
        by_cases hs : s < ls
        · have hs' : decide (s < ls) = true := decide_eq_true hs
          replace hlow : lowN M (s, th, kk, r, b', c, d, v8) = true := hlow.trans hs'
          rcases hcase with hkk | ⟨k1', k9'⟩
          · have HF := Lib.hid (addF_bad (M := M) (x := (s, th, kk, r, b', c, d, v8)) (.inl (iskf_out hkk)))
            rw [HF.out.1] at C1
            clear hF1 hF0
            have hk3 : kk < 1 ∨ (1 ≤ kk ∧ 9 < kk) := by omega
            clear hkk
            rcases hk3 with hk3 | ⟨hk3, hk4⟩
            all_goals
              clear hlow
              by_cases hw : (k : Int) = a1
              all_goals first
                | have hwb : ((k : Int) == a1) = true := by simpa using hw
                | have hwb : ((k : Int) == a1) = false := by simpa using hw
              all_goals
                clear hw
                go_wp2_with (go_at_call 57; ((with_reducible refine C0.out.mono ?_); rintro e w' ⟨rfl, rfl⟩))
                go_quiet (fail)
                go_wp2_with fail
                refine (C1.out _ (belowNd (Below.refl _ _) nq)).mono ?_
                rintro e w2 ⟨rfl, hM⟩
                rw [HF.out.2] at hM
                have HM := Lib.hid hM
                clear d0 d1 d2 d3 d4 d5 d6 d7 hM
                go_wp2_with fail
                go_roundw
                case rel =>
                  have hM := HM.out
                  rw [← HF.out.2, ← HSN.out] at hM
                  first
                    | exact ⟨k + 1, cnt, _, rfl, by omega, by go_num, rfl, by rw [HSN.out, HF.out.2, ← HNN.out]; omega, by rw [HSN.out, HF.out.2] at hM ⊢; first | exact hM | (rw [HNN.out]; exact hM)⟩
                    | exact ⟨k + 1, n, _, rfl, by omega, by go_num, rfl, by rw [HSN.out, HF.out.2, ← HNN.out]; omega, by rw [HSN.out, HF.out.2] at hM ⊢; first | exact hM | (rw [HNN.out]; exact hM)⟩
                case measure => simp [intOf]; omega
          · have HF := Lib.hid (addF_bad (M := M) (x := (s, th, kk, r, b', c, d, v8)) (.inr hlow))
            rw [HF.out.1] at C1
            clear hF1 hF0 hlow
            by_cases hw : (k : Int) = a1
            all_goals first
              | have hwb : ((k : Int) == a1) = true := by simpa using hw
              | have hwb : ((k : Int) == a1) = false := by simpa using hw
            all_goals
              clear hw
              go_wp2_with (go_at_call 57; ((with_reducible refine C0.out.mono ?_); rintro e w' ⟨rfl, rfl⟩))
              go_quiet (fail)
              go_wp2_with fail
              refine (C1.out _ (belowNd (Below.refl _ _) nq)).mono ?_
              rintro e w2 ⟨rfl, hM⟩
              rw [HF.out.2] at hM
              have HM := Lib.hid hM
              clear d0 d1 d2 d3 d4 d5 d6 d7 hM
              go_wp2_with fail
              go_roundw
              case rel =>
                have hM := HM.out
                rw [← HF.out.2, ← HSN.out] at hM
                first
                  | exact ⟨k + 1, cnt, _, rfl, by omega, by go_num, rfl, by rw [HSN.out, HF.out.2, ← HNN.out]; omega, by rw [HSN.out, HF.out.2] at hM ⊢; first | exact hM | (rw [HNN.out]; exact hM)⟩
                  | exact ⟨k + 1, n, _, rfl, by omega, by go_num, rfl, by rw [HSN.out, HF.out.2, ← HNN.out]; omega, by rw [HSN.out, HF.out.2] at hM ⊢; first | exact hM | (rw [HNN.out]; exact hM)⟩
              case measure => simp [intOf]; omega
        · have hs' : decide (s < ls) = false := decide_eq_false hs
          replace hlow : lowN M (s, th, kk, r, b', c, d, v8) = false := hlow.trans hs'
          rcases hcase with hkk | ⟨k1', k9'⟩
          · have HF := Lib.hid (addF_bad (M := M) (x := (s, th, kk, r, b', c, d, v8)) (.inl (iskf_out hkk)))
            rw [HF.out.1] at C1
            clear hF1 hF0
            have hk3 : kk < 1 ∨ (1 ≤ kk ∧ 9 < kk) := by omega
            clear hkk
            rcases hk3 with hk3 | ⟨hk3, hk4⟩
            all_goals
              clear hlow
              by_cases hw : (k : Int) = a1
              all_goals first
                | have hwb : ((k : Int) == a1) = true := by simpa using hw
                | have hwb : ((k : Int) == a1) = false := by simpa using hw
              all_goals
                clear hw
                go_wp2_with (go_at_call 57; ((with_reducible refine C0.out.mono ?_); rintro e w' ⟨rfl, rfl⟩))
                go_quiet (fail)
                go_wp2_with fail
                refine (C1.out _ (belowNd (Below.refl _ _) nq)).mono ?_
                rintro e w2 ⟨rfl, hM⟩
                rw [HF.out.2] at hM
                have HM := Lib.hid hM
                clear d0 d1 d2 d3 d4 d5 d6 d7 hM
                go_wp2_with fail
                go_roundw
                case rel =>
                  have hM := HM.out
                  rw [← HF.out.2, ← HSN.out] at hM
                  first
                    | exact ⟨k + 1, cnt, _, rfl, by omega, by go_num, rfl, by rw [HSN.out, HF.out.2, ← HNN.out]; omega, by rw [HSN.out, HF.out.2] at hM ⊢; first | exact hM | (rw [HNN.out]; exact hM)⟩
                    | exact ⟨k + 1, n, _, rfl, by omega, by go_num, rfl, by rw [HSN.out, HF.out.2, ← HNN.out]; omega, by rw [HSN.out, HF.out.2] at hM ⊢; first | exact hM | (rw [HNN.out]; exact hM)⟩
                case measure => simp [intOf]; omega
          · have HF := Lib.hid (hF0 (iskf_in ⟨k1', k9'⟩) hlow)
            rw [HF.out.1] at C1
            clear hF1 hF0 hlow
            by_cases hw : (k : Int) = a1
            all_goals first
              | have hwb : ((k : Int) == a1) = true := by simpa using hw
              | have hwb : ((k : Int) == a1) = false := by simpa using hw
            all_goals
              clear hw
              go_wp2_with (go_at_call 57; ((with_reducible refine C0.out.mono ?_); rintro e w' ⟨rfl, rfl⟩))
              go_quiet (fail)
              go_wp2_with fail
              refine (C1.out _ (belowNd (Below.refl _ _) nq)).mono ?_
              rintro e w2 ⟨rfl, hM⟩
              rw [HF.out.2] at hM
              have HM := Lib.hid hM
              obtain ⟨e0, e1, e2, e3, e4, e5, e6, e7⟩ := LN.out _ hM.below.1
              have hown := hM.own
              rw [← HNN.out] at hown
              have hs2 : N ≤ w2.heap.size := Nat.le_of_lt hM.below.2
              clear d0 d1 d2 d3 d4 d5 d6 d7 hM
              go_wp2_with (at_builtin; refine wpList_append_lies _ rfl (.tmp 87) (.tmp 92) 68 rfl N 80 i0 (.agg #[.int .i64 0, .int .i64 0, .int .u8 0, .int .i64 0, .int .i64 0, .int .i64 0, .int .i64 0, .int .i64 0]) 8 64 Try.underlying68 hi hz0 hz1 hz2 rfl (by decide) (.slice (some ⟨g, 0, none⟩) n cap) n (rowsN M) rfl (hown.alloc _) ⟨w2.heap.size, 0, none⟩ 1 1 (ncells s th kk r b' c d v8) rfl rfl (by intro j u hj; exact news8 hj) (by simp [ncells, Value.oneCell']) (by decide) (by unfold maxLen; omega) (by omega) (by simp; omega) (w2.heap.size + 1) (by simp) ?_; intro g' cap' w3 hown3 hgrow hat hltg)
              have hM3 := NyMid.app HM.out (by rw [← HNN.out]; exact hown3) hgrow hat
              have HM3 := Lib.hid hM3
              clear hown3 hgrow hat hltg hM3 hown e0 e1 e2 e3 e4 e5 e6 e7
              go_wp2_with fail
              go_roundw
              case rel =>
                have hM := HM3.out
                first
                  | exact ⟨k + 1, cnt, _, rfl, by omega, by go_num, rfl, by rw [HSN.out, HF.out.2, List.length_append, ← HNN.out]; omega, by rw [HSN.out, HF.out.2]; rw [← HNN.out] at hM; exact hM⟩
                  | exact ⟨k + 1, n, _, rfl, by omega, by go_num, rfl, by rw [HSN.out, HF.out.2, List.length_append, ← HNN.out]; omega, by rw [HSN.out, HF.out.2]; rw [← HNN.out] at hM; exact hM⟩
              case measure => simp [intOf]; omega
    · obtain rfl : l0 = k := by omega
      have hMk := addsL_kind (L.take l0)
      generalize addsL (L.take l0) = M at *
      obtain ⟨n, hnn⟩ : ∃ n, n = M.length := ⟨_, rfl⟩
      have HNN := Lib.hid hnn
      have HMK := Lib.hid hMk
      have T0 := Lst.of_own hR0.own
      rw [← hnn] at T0 hkl hcnt
      obtain ⟨at', ct, rfl, -⟩ := T0.lies
      have HB := Lib.hid hbel
      have hn150 : n ≤ 150 := by omega
      have HR0 := Lib.hid hR0
      clear hnn hMk hR0 hbel
      go_wp2_with fail
      refine (allw _ N M HR0.out.isL (by have := HNN.out; omega)).mono ?_
      rintro e w1 ⟨va, rfl, La, K1⟩
      rw [← HNN.out] at La
      obtain ⟨aa, ca, rfl, -⟩ := La.lies
      have HR1 := Lib.hid (HR0.out.new K1)
      replace T0 := T0.below K1 (Nat.le_refl _)
      have hb1 := HB.out.trans (K1.mono (Nat.le_of_lt hsz))
      have hs1 : N < w1.heap.size := by have := K1.size; omega
      clear HB K1 HR0
      go_wp2_with fail
      refine (sincew _ N M cnt HR1.out.isL (by have := HNN.out; omega)).mono ?_
      rintro e w2 ⟨vs, rfl, Ls, K2⟩
      rw [Int.toNat_natCast] at Ls
      obtain ⟨n1, hn1⟩ : ∃ n1, n1 = (M.drop cnt).length := ⟨_, rfl⟩
      rw [← hn1] at Ls
      have hn1e : n1 = n - cnt := by rw [hn1, List.length_drop, ← HNN.out]
      have HN1 := Lib.hid hn1
      obtain ⟨aS, cs, rfl, -⟩ := Ls.lies
      have HR2 := Lib.hid (HR1.out.new K2)
      replace T0 := T0.below K2 (Nat.le_refl _)
      replace La := La.below K2 (Nat.le_refl _)
      have HB2 := Lib.hid (hb1.trans (K2.mono (Nat.le_of_lt hs1)))
      have hs2 : N < w2.heap.size := by have := K2.size; omega
      have LA := Lib.hid La
      have LS := Lib.hid Ls
      have LT := Lib.hid T0
      clear hn1 HR1 hb1 K2 La Ls T0
      have f1 : ((n : Int) != (n : Int)) = false := by simp
      have f2 : IntKind.i64.wrap ((n : Int) - cnt) = (n : Int) - cnt := IntWalk.i64_in _ (by omega)
      have f3 : ((n1 : Int) != (n : Int) - cnt) = false := by simp; omega
      have hn1i : (n1 : Int) = (n : Int) - cnt := by omega
      have HN1I := Lib.hid hn1i
      clear hn1i hn1e
      go_wp2_with fail
      clear f1 f2 f3
      go_loopw [13] (fun i wq => ∃ k : Nat, k ≤ n ∧ i = .int .i64 k ∧ Below w2.heap.size w2 wq) (fun i _ => n - (intOf i).toNat)
      case atStart => exact ⟨0, Nat.zero_le _, rfl, Below.refl _ _⟩
      case round =>
        obtain ⟨k, hk2, rfl, hbq⟩ := hrel
        by_cases hlt2 : k < n
        · obtain ⟨x, hx⟩ : ∃ x, M[k]? = some x := ⟨_, List.getElem?_eq_getElem (by have := HNN.out; omega)⟩
          obtain ⟨ga, rfl, -, hnca, ha⟩ := (LA.out.below hbq (Nat.le_refl _)).at8 HNN.out hx
          obtain ⟨gt, rfl, -, hnct, ht⟩ := (LT.out.below hbq (Nat.le_refl _)).at8 HNN.out hx
          have hxs : cnt ≤ k → (M.drop cnt)[k - cnt]? = some x := fun h => by rw [List.getElem?_drop, show cnt + (k - cnt) = k by omega]; exact hx
          have HS2 : Hid (cnt ≤ k → ∃ gs, aS = some ⟨gs, 0, none⟩ ∧ k - cnt < n1 ∧ n1 ≤ cs ∧ ∀ j u, j < 8 → x.cells[j]? = some u → wr.cell? ⟨gs, (k - cnt) * 8 + j, none⟩ = some u) := Lib.hid (fun h => (LS.out.below hbq (Nat.le_refl _)).at8 HN1.out (hxs h))
          obtain ⟨xs, xth, xk, xr, xb, xc, xd, xv⟩ := x
          have a0 : wr.cell? ⟨ga, k * 8, none⟩ = some (.int .i64 xs) := ha 0 _ (by omega) rfl
          have a1 : wr.cell? ⟨ga, k * 8 + 1, none⟩ = some (.int .i64 xth) := ha 1 _ (by omega) rfl
          have a2 : wr.cell? ⟨ga, k * 8 + 2, none⟩ = some (.int .u8 xk) := ha 2 _ (by omega) rfl
          have a3 : wr.cell? ⟨ga, k * 8 + 3, none⟩ = some (.int .i64 xr) := ha 3 _ (by omega) rfl
          have a4 : wr.cell? ⟨ga, k * 8 + 4, none⟩ = some (.int .i64 xb) := ha 4 _ (by omega) rfl
          have a5 : wr.cell? ⟨ga, k * 8 + 5, none⟩ = some (.int .i64 xc) := ha 5 _ (by omega) rfl
          have a6 : wr.cell? ⟨ga, k * 8 + 6, none⟩ = some (.int .i64 xd) := ha 6 _ (by omega) rfl
          have a7 : wr.cell? ⟨ga, k * 8 + 7, none⟩ = some (.int .i64 xv) := ha 7 _ (by omega) rfl
          have t0 : wr.cell? ⟨gt, k * 8, none⟩ = some (.int .i64 xs) := ht 0 _ (by omega) rfl
          have t1 : wr.cell? ⟨gt, k * 8 + 1, none⟩ = some (.int .i64 xth) := ht 1 _ (by omega) rfl
          have t2 : wr.cell? ⟨gt, k * 8 + 2, none⟩ = some (.int .u8 xk) := ht 2 _ (by omega) rfl
          have t3 : wr.cell? ⟨gt, k * 8 + 3, none⟩ = some (.int .i64 xr) := ht 3 _ (by omega) rfl
          have t4 : wr.cell? ⟨gt, k * 8 + 4, none⟩ = some (.int .i64 xb) := ht 4 _ (by omega) rfl
          have t5 : wr.cell? ⟨gt, k * 8 + 5, none⟩ = some (.int .i64 xc) := ht 5 _ (by omega) rfl
          have t6 : wr.cell? ⟨gt, k * 8 + 6, none⟩ = some (.int .i64 xd) := ht 6 _ (by omega) rfl
          have t7 : wr.cell? ⟨gt, k * 8 + 7, none⟩ = some (.int .i64 xv) := ht 7 _ (by omega) rfl
          have j0 : (0 : Int) ≤ (k : Int) := by omega
          have j1 : (k : Int) < (n : Int) := by omega
          have jc : k < ca := by omega
          have jt : k < ct := by omega
          have HBQ := Lib.hid hbq
          clear ha ht hxs hx hbq
          by_cases hck : cnt ≤ k
          · obtain ⟨gs, rfl, hks, hncs, hs⟩ := HS2.out hck
            have s0 : wr.cell? ⟨gs, (k - cnt) * 8, none⟩ = some (.int .i64 xs) := hs 0 _ (by omega) rfl
            have s1 : wr.cell? ⟨gs, (k - cnt) * 8 + 1, none⟩ = some (.int .i64 xth) := hs 1 _ (by omega) rfl
            have s2 : wr.cell? ⟨gs, (k - cnt) * 8 + 2, none⟩ = some (.int .u8 xk) := hs 2 _ (by omega) rfl
            have s3 : wr.cell? ⟨gs, (k - cnt) * 8 + 3, none⟩ = some (.int .i64 xr) := hs 3 _ (by omega) rfl
            have s4 : wr.cell? ⟨gs, (k - cnt) * 8 + 4, none⟩ = some (.int .i64 xb) := hs 4 _ (by omega) rfl
            have s5 : wr.cell? ⟨gs, (k - cnt) * 8 + 5, none⟩ = some (.int .i64 xc) := hs 5 _ (by omega) rfl
            have s6 : wr.cell? ⟨gs, (k - cnt) * 8 + 6, none⟩ = some (.int .i64 xd) := hs 6 _ (by omega) rfl
            have s7 : wr.cell? ⟨gs, (k - cnt) * 8 + 7, none⟩ = some (.int .i64 xv) := hs 7 _ (by omega) rfl
            have y1 : ((k : Int) - cnt).toNat = k - cnt := by omega
            have y2 : IntKind.i64.wrap ((k : Int) - cnt) = (k : Int) - cnt := IntWalk.i64_in _ (by omega)
            have y3 : 0 ≤ (k : Int) - cnt := by omega
            have y4 : (k : Int) - cnt < n1 := by omega
            have y5 : k - cnt < cs := by omega
            have y6 : (cnt : Int) ≤ k := by omega
            clear hs
            go_wp2_with fail
            go_quiet (fail)
            go_wp2_with fail
            go_roundw
            case rel => exact ⟨k + 1, by omega, by go_num, belowNd HBQ.out nq⟩
            case measure => simp [intOf]; omega
          · have y6 : decide ((cnt : Int) ≤ k) = false := decide_eq_false (by omega)
            go_wp2_with fail
            go_quiet (fail)
            go_wp2_with fail
            go_roundw
            case rel => exact ⟨k + 1, by omega, by go_num, belowNd HBQ.out nq⟩
            case measure => simp [intOf]; omega
        · obtain rfl : n = k := by omega
          have HBQ := Lib.hid hbq
          clear hbq
          go_wp2_with fail
          go_loopw [14, 15] (fun m kk wz => ∃ k : Nat, k ≤ 256 ∧ kk = .int .i64 k ∧ m = .int .i64 (upto M k) ∧ Below w2.heap.size w2 wz) (fun _ kk _ => 256 - (intOf kk).toNat)
          case atStart => exact ⟨0, Nat.zero_le _, rfl, by rw [upto_zero HMK.out]; rfl, HBQ.out⟩
          case round =>
            obtain ⟨k, hk3, rfl, rfl, hbz⟩ := hrel
            have hup : upto M k ≤ n := by rw [HNN.out]; exact List.length_filter_le _ _
            have hus := upto_succ M k
            have HRZ := Lib.hid (HR2.out.new hbz)
            have HBZ := Lib.hid hbz
            by_cases hlt3 : k < 256
            · have hsz2 := hbz.size
              have y0 : IntKind.u8.wrap (k : Int) = (k : Int) := wrap_u8_small k (by omega)
              generalize upto M k = m at *
              have HUS := Lib.hid hus
              clear hus hbz
              go_wp2_with fail
              refine (ofw _ N M (k : Int) HRZ.out.isL (by have := HNN.out; omega)).mono ?_
              rintro e w4 ⟨vo, rfl, Lo, K4⟩
              obtain ⟨n4, hn4⟩ : ∃ n4, n4 = (M.filter (soK (k : Int))).length := ⟨_, rfl⟩
              rw [← hn4] at Lo
              have hn4n : n4 ≤ n := by rw [hn4, HNN.out]; exact List.length_filter_le _ _
              have HN4 := Lib.hid hn4
              obtain ⟨ao, co, rfl, -⟩ := Lo.lies
              have HBW := Lib.hid (HBZ.out.trans (K4.mono hsz2))
              have LT4 := Lib.hid ((LT.out.below HBZ.out (Nat.le_refl _)).below K4 (Nat.le_refl _))
              have LO := Lib.hid Lo
              clear hn4 Lo K4 y0
              go_wp2_with fail
              go_loopw [17, 18] (fun at_ iv wy => ∃ i q : Nat, i ≤ n ∧ iv = .int .i64 i ∧ at_ = .int .i64 q ∧ Hid (q = ((M.take i).filter (soK (k : Int))).length) ∧ q ≤ n4 ∧ Below w4.heap.size w4 wy) (fun _ iv _ => n - (intOf iv).toNat)
              case atStart => exact ⟨0, 0, Nat.zero_le _, rfl, rfl, rfl, Nat.zero_le _, Below.refl _ _⟩
              case round =>
                obtain ⟨i, q, hin, rfl, rfl, hq, hqn, hby⟩ := hrel
                by_cases hgo : i < n ∧ q < n4
                · obtain ⟨hi1, hq1⟩ := hgo
                  obtain ⟨x, hx⟩ : ∃ x, M[i]? = some x := ⟨_, List.getElem?_eq_getElem (by have := HNN.out; omega)⟩
                  obtain ⟨gt, rfl, -, hnct, ht⟩ := (LT4.out.below hby (Nat.le_refl _)).at8 HNN.out hx
                  have htf := take_filter (soK (k : Int)) hx
                  have hpo : soK (k : Int) x = true → ∃ go_, ao = some ⟨go_, 0, none⟩ ∧ q < n4 ∧ n4 ≤ co ∧ ∀ j u, j < 8 → x.cells[j]? = some u → wr.cell? ⟨go_, q * 8 + j, none⟩ = some u := fun h => (LO.out.below hby (Nat.le_refl _)).at8 HN4.out (by rw [hq.out]; exact filter_pos hx h)
                  obtain ⟨xs, xth, xk, xr, xb, xc, xd, xv⟩ := x
                  have t0 : wr.cell? ⟨gt, i * 8, none⟩ = some (.int .i64 xs) := ht 0 _ (by omega) rfl
                  have t1 : wr.cell? ⟨gt, i * 8 + 1, none⟩ = some (.int .i64 xth) := ht 1 _ (by omega) rfl
                  have t2 : wr.cell? ⟨gt, i * 8 + 2, none⟩ = some (.int .u8 xk) := ht 2 _ (by omega) rfl
                  have t3 : wr.cell? ⟨gt, i * 8 + 3, none⟩ = some (.int .i64 xr) := ht 3 _ (by omega) rfl
                  have t4 : wr.cell? ⟨gt, i * 8 + 4, none⟩ = some (.int .i64 xb) := ht 4 _ (by omega) rfl
                  have t5 : wr.cell? ⟨gt, i * 8 + 5, none⟩ = some (.int .i64 xc) := ht 5 _ (by omega) rfl
                  have t6 : wr.cell? ⟨gt, i * 8 + 6, none⟩ = some (.int .i64 xd) := ht 6 _ (by omega) rfl
                  have t7 : wr.cell? ⟨gt, i * 8 + 7, none⟩ = some (.int .i64 xv) := ht 7 _ (by omega) rfl
                  have j0 : (0 : Int) ≤ (i : Int) := by omega
                  have j1 : (i : Int) < (n : Int) := by omega
                  have j2 : (0 : Int) ≤ (q : Int) := by omega
                  have j3 : (q : Int) < (n4 : Int) := by omega
                  have jt : i < ct := by omega
                  have y0 : IntKind.u8.wrap (k : Int) = (k : Int) := wrap_u8_small k (by omega)
                  have HTF := Lib.hid htf
                  have HBY := Lib.hid hby
                  have HQ := hq
                  clear htf ht hby hx
                  by_cases hkk : xk = (k : Int)
                  · have hkb : (xk == (k : Int)) = true := by simpa using hkk
                    obtain ⟨go_, rfl, -, hnco, ho⟩ := hpo (by simpa [soK, Nv.k] using hkk)
                    have o0 : wr.cell? ⟨go_, q * 8, none⟩ = some (.int .i64 xs) := ho 0 _ (by omega) rfl
                    have o1 : wr.cell? ⟨go_, q * 8 + 1, none⟩ = some (.int .i64 xth) := ho 1 _ (by omega) rfl
                    have o2 : wr.cell? ⟨go_, q * 8 + 2, none⟩ = some (.int .u8 xk) := ho 2 _ (by omega) rfl
                    have o3 : wr.cell? ⟨go_, q * 8 + 3, none⟩ = some (.int .i64 xr) := ho 3 _ (by omega) rfl
                    have o4 : wr.cell? ⟨go_, q * 8 + 4, none⟩ = some (.int .i64 xb) := ho 4 _ (by omega) rfl
                    have o5 : wr.cell? ⟨go_, q * 8 + 5, none⟩ = some (.int .i64 xc) := ho 5 _ (by omega) rfl
                    have o6 : wr.cell? ⟨go_, q * 8 + 6, none⟩ = some (.int .i64 xd) := ho 6 _ (by omega) rfl
                    have o7 : wr.cell? ⟨go_, q * 8 + 7, none⟩ = some (.int .i64 xv) := ho 7 _ (by omega) rfl
                    have jo : q < co := by omega
                    have HKK := Lib.hid hkk
                    clear ho hkk
                    go_wp2_with fail
                    go_quiet (fail)
                    go_wp2_with fail
                    go_roundw
                    case rel => exact ⟨i + 1, q + 1, by omega, by go_num, by go_num, Lib.hid (by rw [HTF.out, if_pos (by simpa [soK, Nv.k] using HKK.out), List.length_append, ← HQ.out]; rfl), by omega, belowNd HBY.out nq⟩
                    case measure => simp [intOf]; omega
                  · have hkb : (xk == (k : Int)) = false := by simpa using hkk
                    clear hpo
                    go_wp2_with fail
                    go_roundw
                    case rel => exact ⟨i + 1, q, by omega, by go_num, rfl, Lib.hid (by rw [HTF.out, if_neg (by simpa [soK, Nv.k] using hkk), ← HQ.out]), by omega, HBY.out⟩
                    case measure => simp [intOf]; omega
                · have hqe : q = n4 := by
                    by_cases h1 : i < n
                    · omega
                    · rw [hq.out, HN4.out, List.take_of_length_le (by have := HNN.out; omega)]
                  subst hqe
                  have HBY := Lib.hid hby
                  have HGO := Lib.hid hgo
                  clear hq hby hgo
                  by_cases h1 : i < n
                  all_goals
                    go_wp2_with fail
                    go_roundw
                    case rel => exact ⟨k + 1, by omega, by go_num, by rw [HUS.out, ← HN4.out]; go_num, HBW.out.trans (HBY.out.mono (by have := HBW.out.size; omega))⟩
                    case measure => simp [intOf]; omega
            · obtain rfl : k = 256 := by omega
              have hu := upto_all HMK.out
              rw [hu, ← HNN.out]
              have f1 : ((n : Int) == (n : Int)) = true := by simp
              have hs3 := hbz.size
              clear hu hus hup hbz
              go_wp2_with fail
              refine (lives09 _).mono ?_
              rintro e w6 ⟨rfl, K6⟩
              have hfin := (HB2.out.trans (HBZ.out.mono (Nat.le_of_lt hs2))).trans (K6.mono (by omega))
              rw [HN.out] at hfin
              go_wp2_with fail
              go_ret
              exact ⟨rfl, hfin⟩
end Go.Proofs.Yteofbgbjibbdaac
