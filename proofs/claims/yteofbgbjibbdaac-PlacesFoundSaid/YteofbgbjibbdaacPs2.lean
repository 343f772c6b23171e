/- Lists of places: each, both, Places. -/
import Derived.Test.YteofbgbjibbdaacPs
import Derived.IntWalk
namespace Go.Proofs.Yteofbgbjibbdaac
open Go.RowKit
set_option linter.unusedVariables false

theorem Lst.len {w : World} {B size m c n : Nat} {a : Option Addr} {xs : List Value} (h : Lst w B size (.slice a m c) n xs) : m = n := by
  obtain ⟨hl, ⟨e, h0⟩ | ⟨g, cap, e, _⟩⟩ := h
  · injection e with _ e2 _; omega
  · injection e
set_option maxHeartbeats 1000000 in
set_option maxRecDepth 100000 in
theorem eachw {w : World} {a : Option Addr} {cap n : Nat} {L : List Pv} (h : LieG w a cap n (rowsP L)) (hn : n = L.length) (hM : n ≤ 1048576) :
    Calls Try.prog 84 #[.slice a n cap] w (IsClp w 2 (dedP L).length (rowsP (dedP L))) := by
  obtain ⟨i0, hi, hz0, hz1, hz2⟩ := info_parts info_place
  have H := Lib.hid h
  have HN := Lib.hid hn
  clear h hn
  go_enter Try.func84, Try.ntmps84
  go_wp2_with fail
  obtain ⟨C, hC⟩ : ∃ C, C = w.heap.size := ⟨_, rfl⟩
  have HC := Lib.hid hC
  have hCl : C ≤ w.heap.size := by omega
  clear hC
  go_loopw [3, 8] (fun o i wr => ∃ (k0 : Nat), k0 ≤ n ∧ i = .int .i64 k0 ∧ wr.ownsRow C 39 2 o (dedP (L.take k0)).length (rowsP (dedP (L.take k0))) ∧ Below C w wr) (fun _ i _ => n - (intOf i).toNat)
  case atStart => exact ⟨0, Nat.zero_le _, rfl, World.ownsRow_nil _ _ _ _, Below.refl _ _⟩
  case round =>
    obtain ⟨k0, hk0, rfl, hown, hbel⟩ := hrel
    have hsz := hbel.size
    have hlen : (dedP (L.take k0)).length ≤ k0 := Nat.le_trans (dedP_len _) (List.length_take_le _ _)
    by_cases hlt : k0 < n
    · obtain ⟨⟨x1, x2⟩, hx⟩ : ∃ x, L[k0]? = some x := ⟨_, List.getElem?_eq_getElem (by have := HN.out; omega)⟩
      have hsn := dedP_snoc hx
      have hbw : Below w.heap.size w wr := by rw [← HC.out]; exact hbel
      obtain ⟨g, rfl, hg, -, hnc, e0, e1⟩ := (H.out.new hbw).place HN.out hx
      obtain ⟨a', c', hv, hcm, hnc', h0, hlie⟩ := LieG.of (Lst.of_own hown)
      rename_i u3
      generalize dedP (L.take k0) = D at *
      obtain ⟨m, hm⟩ : ∃ m, m = D.length := ⟨_, rfl⟩
      rw [← hm] at hv hown hlen hlie hnc' h0
      have HM := Lib.hid hm
      have HSN := Lib.hid hsn
      have hkc : k0 < cap := by omega
      have hb1 : ∀ o, Below C w (wr.alloc o) := fun o => hbel.alloc (by omega) o
      have HB1 := Lib.hid hb1
      have hl1 : ∀ o, LieG (wr.alloc o) a' c' m (rowsP D) := fun o => hlie.new ((Below.refl _ _).alloc (Nat.le_refl _) o)
      have HL1 := Lib.hid hl1
      have HOWN := Lib.hid hown
      have HV := Lib.hid hv
      clear hx hbel hbw hm hsn hb1 hl1 hown hlie hcm h0
      subst hv
      by_cases hin : (x1, x2) ∈ D
      · have C1 := Lib.hid (has_yes (w := wr.alloc (.cells #[.int .i64 x1, .int .i64 x2] 39)) x1 x2 (HL1.out _) HM.out (by omega) hin)
        have HIN := Lib.hid hin
        clear hin
        go_wp2_with fail
        refine C1.out.mono ?_
        rintro e w2 ⟨rfl, K2⟩
        have KK := Lib.hid K2
        clear K2
        go_wp2_with fail
        go_roundw
        case rel => exact ⟨k0 + 1, by omega, by go_num, by rw [HSN.out]; unfold addP; rw [if_pos HIN.out, ← HM.out]; exact own_belowP (HOWN.out.alloc _) KK.out, (HB1.out _).trans (KK.out.mono (by simp; omega))⟩
        case measure => simp [intOf]; omega
      · have C1 := Lib.hid (has_no (w := wr.alloc (.cells #[.int .i64 x1, .int .i64 x2] 39)) x1 x2 (HL1.out _) HM.out (by omega) hin)
        have HIN := Lib.hid hin
        clear hin
        go_wp2_with fail
        refine C1.out.mono ?_
        rintro e w2 ⟨rfl, K2⟩
        have q0 := (K2.cell (p := ⟨wr.heap.size, 0, none⟩) (by simp)).trans (show _ = some (.int .i64 x1) by simp)
        have q1 := (K2.cell (p := ⟨wr.heap.size, 1, none⟩) (by simp)).trans (show _ = some (.int .i64 x2) by simp)
        have hown2 := own_belowP (HOWN.out.alloc _) K2
        have hbn := (HB1.out _).trans (K2.mono (by simp; omega))
        have HBN := Lib.hid hbn
        have sbn := hbn.size
        have HO2 := Lib.hid hown2
        clear K2 hown2 hbn
        go_wp2_with (at_builtin; refine wpList_append_lies _ rfl (.tmp 16) (.tmp 18) 54 rfl C 39 i0 (.agg #[.int .i64 0, .int .i64 0]) 2 16 Try.underlying54 hi hz0 hz1 hz2 rfl (by decide) (.slice a' m c') m (rowsP D) rfl (HO2.out.alloc _) ⟨w2.heap.size, 0, none⟩ 1 1 (Pv.cells (x1, x2)) rfl rfl (by intro j u hj; exact newsP hj) (by simp [Pv.cells, Value.oneCell']) (by decide) (by unfold maxLen; omega) (by omega) (by simp; omega) (w2.heap.size + 1) (by simp) ?_; intro g' cap' w3 hown3 hgrow hat hltg)
        have hb3 : Below C w w3 := app_below HO2.out HBN.out (by omega) hgrow
        have HB3 := Lib.hid hb3
        have HO3 := Lib.hid hown3
        clear hb3 hown3 hgrow hat hltg q0 q1
        go_wp2_with fail
        go_roundw
        case rel => exact ⟨k0 + 1, by omega, by go_num, by rw [HSN.out]; unfold addP; rw [if_neg HIN.out, List.length_append, ← HM.out, rowsP_snoc]; exact HO3.out, HB3.out⟩
        case measure => simp [intOf]; omega
    · obtain rfl : n = k0 := by omega
      rw [List.take_of_length_le (by have := HN.out; omega)] at hown hlen
      obtain ⟨a', m', c', hv, hmc, hcm, h0, hl⟩ := lst_clip hown
      have hml := hl.len
      have HLL := Lib.hid hl
      have HBB := Lib.hid hbel
      generalize (dedP L).length = m at *
      subst hml
      subst hv
      clear hown hl hbel
      go_wp2_with fail
      refine (clipp _ _ _ _ hmc hcm h0).mono ?_
      rintro e w2 ⟨rfl, rfl⟩
      go_wp2_with fail
      go_ret
      exact ⟨a', rfl, by rw [← HC.out]; exact HLL.out, by rw [← HC.out]; exact HBB.out⟩
/-- Both places of a hash in a table. -/
def tagF (h : Int) : Int := max 1 (h / 72057594037927936)
def bothP (h b : Int) : Pv × Pv := ((b, bkt h b), (b, othf (bkt h b) (tagF h) b))
set_option maxHeartbeats 1000000 in
theorem bothw (h b : Int) (w : World) (h1 : 0 ≤ h) (h2 : h < 18446744073709551616) :
    Calls Try.prog 83 #[.int .u64 h, .int .i64 b] w fun e w' => e = .returned (.tuple #[.agg #[.int .i64 (bothP h b).1.1, .int .i64 (bothP h b).1.2], .agg #[.int .i64 (bothP h b).2.1, .int .i64 (bothP h b).2.2]]) ∧ Below w.heap.size w w' := by
  have c1 := fun W => bucket_any h b W h1 h2
  have c2 := fun W => tag h W h1 h2
  have C1 := Lib.hid c1
  have C2 := Lib.hid c2
  unfold bothP tagF
  simp only
  generalize max 1 (h / 72057594037927936) = t at *
  generalize bkt h b = k at *
  clear c1 c2
  go_enter Try.func83, Try.ntmps83
  go_wp2_with (first
    | (go_at_call 51; ((with_reducible refine (C1.out _).mono ?_); rintro e w' ⟨rfl, rfl⟩))
    | (go_at_call 50; ((with_reducible refine (C2.out _).mono ?_); rintro e w' ⟨rfl, rfl⟩))
    | (go_at_call 49; ((with_reducible refine (other_any _ _ _ _).mono ?_); rintro e w' ⟨rfl, rfl⟩)))
  refine bodyPost_ret (v := .tuple #[.agg #[.int .i64 b, .int .i64 k], .agg #[.int .i64 b, .int .i64 (othf k t b)]]) (by simp [results, Try.results83, go_sem]) rfl ⟨rfl, ?_⟩
  exact ((Below.refl _ _).alloc (Nat.le_refl _) _).alloc (by simp) _
end Go.Proofs.Yteofbgbjibbdaac
