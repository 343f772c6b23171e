/- Contracts of package tagwords and of its chapter's answers: lists of slots. -/
import Derived.Test.YtodppilfpemepaaGreatGTg
import Derived.Test.YtodppilfpemepaaGreatLst
namespace Go.Proofs.YtodppilfpemepaaGreat
open Go.RowKit
set_option linter.unusedVariables false

theorem info_int : (Tryz.prog.info? 3).map (fun i => (i.zero, i.size, i.bytes)) = some (some (.int .i64 0), 1, 8) := by kernel_rfl
/-- The slots below k that have a tag. -/
def hasl (x t : Int) : Nat → List Int
  | 0 => []
  | k + 1 => hasl x t k ++ if tagf x k = t then [(k : Int)] else []
theorem hasl_le (x t : Int) : ∀ k, (hasl x t k).length ≤ k
  | 0 => by simp [hasl]
  | k + 1 => by have := hasl_le x t k; unfold hasl; split <;> simp <;> omega
theorem clip (a : Option Addr) (n c : Nat) (w : World) (hn : n ≤ c) (hc : c ≤ maxLen) (h0 : a = none → n = 0 ∧ c = 0) :
    Calls Tryz.prog 122 #[.slice a n c] w fun e w' => e = .returned (.slice a n n) ∧ w = w' := by
  unfold maxLen at hc
  cases a with
  | none =>
    obtain ⟨rfl, rfl⟩ := h0 rfl
    go_enter Tryz.func122, Tryz.ntmps122
    go_wp2
    go_ret
    exact ⟨rfl, rfl⟩
  | some a =>
    clear h0
    go_enter Tryz.func122, Tryz.ntmps122
    go_wp2
    go_ret
    exact ⟨rfl, rfl⟩
theorem ints_snoc (l : List Int) (k : Int) : ints (l ++ [k]) = ints l ++ [.int .i64 k] := by simp [ints]
theorem hasl_hit (x t : Int) (k : Nat) (h : tagf x k = t) : hasl x t (k + 1) = hasl x t k ++ [(k : Int)] := by simp [hasl, h]
theorem hasl_miss (x t : Int) (k : Nat) (h : ¬ tagf x k = t) : hasl x t (k + 1) = hasl x t k := by simp [hasl, h]
theorem idx4_at (x : Int) (k : Nat) (hk : k < 4) (w : World) : (Instr.index 198 (.agg #[.int .i64 (tg0 x), .int .i64 (tg1 x), .int .i64 (tg2 x), .int .i64 (tg3 x)]) (.int .i64 k)).run Tryz.prog w = .ok (.int .i64 (tagf x k)) w := by
  obtain ⟨a, b, c, d⟩ := idx4 (.int .i64 (tg0 x)) (.int .i64 (tg1 x)) (.int .i64 (tg2 x)) (.int .i64 (tg3 x)) w
  have h : k = 0 ∨ k = 1 ∨ k = 2 ∨ k = 3 := by omega
  rcases h with rfl | rfl | rfl | rfl
  · exact a
  · exact b
  · exact c
  · exact d
set_option maxRecDepth 100000 in
theorem hasw0 (x t : Int) (w : World) (ht : t < 1) (h1 : 0 ≤ x) (h2 : x < 18446744073709551616) :
    Calls Tryz.prog 86 #[.int .u64 x, .int .i64 t] w (IsLst w 1 0 []) := by
  go_enter Tryz.func86, Tryz.ntmps86
  go_wp2
  go_ret
  exact ⟨_, rfl, ⟨rfl, .inl ⟨rfl, rfl⟩⟩, Below.refl _ _⟩
set_option maxHeartbeats 1000000 in
set_option maxRecDepth 100000 in
theorem hasw (x t : Int) (w : World) (ht : 1 ≤ t) (h1 : 0 ≤ x) (h2 : x < 18446744073709551616) :
    Calls Tryz.prog 86 #[.int .u64 x, .int .i64 t] w (IsLst w 1 (hasl x t 4).length (ints (hasl x t 4))) := by
  obtain ⟨i0, hi, hz0, hz1, hz2⟩ := info_parts info_int
  obtain ⟨B, hB⟩ : ∃ B, B = w.heap.size := ⟨_, rfl⟩
  have hBl : B ≤ w.heap.size := by omega
  have HB := Lib.hid hB
  clear hB
  go_enter Tryz.func86, Tryz.ntmps86
  go_wp2_with fail
  refine (parts _ _ h1 h2).mono ?_
  rintro e w1 ⟨rfl, hb1⟩
  have hb1' : Below B w w1 := HB.out ▸ hb1
  have hs1 := hb1.size
  clear hb1
  go_wp2_with fail
  go_loopw [5, 12] (fun v i wr => ∃ k : Nat, k ≤ 4 ∧ i = .int .i64 k ∧ wr.ownsRow B 3 1 v (hasl x t k).length (ints (hasl x t k)) ∧ Below B w wr) (fun _ i _ => 4 - (intOf i).toNat)
  case atStart => exact ⟨0, by omega, rfl, World.ownsRow_nil _ _ _ _, hb1'⟩
  case round =>
    obtain ⟨k, hk, rfl, hown, hnx⟩ := hrel
    have hsz := hnx.size
    have hle := hasl_le x t k
    by_cases hlt : k < 4
    · have ix := idx4_at x k hlt
      by_cases hit : tagf x k = t
      · have hb : (tagf x k == t) = true := by simpa using hit
        have hh := hasl_hit x t k hit
        have HH := Lib.hid hh
        clear hit hh
        go_wp2_with (first
          | (at_builtin; refine wpList_append_own _ rfl _ _ 159 rfl B 3 i0 (.int .i64 0) 1 8 Tryz.underlying159 hi hz0 hz1 hz2 rfl (by decide) _ _ _ rfl (hown.alloc _) ⟨wr.heap.size, 0, none⟩ 1 1 [.int .i64 k] rfl rfl ?c1 ?c2 ?c3 ?c4 ?c5 ?_))
        case c1 =>
          intro j u hj
          match j, hj with
          | 0, hj => simp at hj; subst hj; simp [Addr.add]
        case c2 => intro u hu; simp at hu; subst hu; rfl
        case c3 => unfold maxLen; omega
        case c4 => omega
        case c5 => simp; omega
        intro v' w1 hown' hgrow _
        have R := app_below hown hnx hBl hgrow
        clear hgrow hown
        go_wp2
        go_roundw
        case rel => exact ⟨k + 1, by omega, by go_num, by rw [HH.out, ints_snoc, List.length_append]; exact hown', R⟩
        case measure => simp [intOf]; omega
      · have hb : (tagf x k == t) = false := by simpa using hit
        have HH := Lib.hid (hasl_miss x t k hit)
        clear hit
        go_wp2
        go_roundw
        case rel => exact ⟨k + 1, by omega, by go_num, by rw [HH.out]; exact hown, hnx⟩
        case measure => simp [intOf]; omega
    · obtain rfl : k = 4 := by omega
      obtain ⟨a, n, c, hv, hn, hc, h0, L'⟩ := lst_clip hown
      rw [hv]
      clear hv hown
      go_wp2_with fail
      refine (clip _ _ _ _ hn hc h0).mono ?_
      rintro e w2 ⟨rfl, rfl⟩
      go_wp2_with fail
      go_ret
      exact ⟨_, rfl, HB.out ▸ L', HB.out ▸ hnx⟩
end Go.Proofs.YtodppilfpemepaaGreat
