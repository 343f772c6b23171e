/- The law EpochsStored. -/
import Derived.Test.YteofbgbjibbdaacEpLives
import Derived.Test.YteofbgbjibbdaacEpStored
namespace Go.Proofs.Yteofbgbjibbdaac
open Go.RowKit
set_option linter.unusedVariables false
theorem stored_alive (x e : Int) : alivef (genf x) (diesf x e) x = !(decide (e < 0) || (decide (2592000 < e) && decide (e ≤ nowf x))) := by
  obtain ⟨⟨a1, a2⟩, _⟩ := ep_range x
  unfold alivef diesf
  by_cases c0 : e = 0
  · subst c0; simp
  by_cases c1 : e < 0
  · simp [c0, c1]; omega
  by_cases c2 : e ≤ 2592000
  · have h : ¬ 2592000 < e := by omega
    simp [c0, c1, c2, h]; omega
  · have h : 2592000 < e := by omega
    have h' : e ≠ -1 := by omega
    simp [c0, c1, c2, h, h']
theorem stored_dies (g d : Int) (g1 : 0 ≤ g) (g2 : g ≤ 65535) (d1 : 1 ≤ d) (d2 : d ≤ 16777215) : alivef g d (putf d 0 g) = false ∧ alivef g d (putf (d - 1) 0 g) = true := by
  unfold alivef
  rw [gen_put, gen_put, now_put, now_put]
  have h : g % 65536 = g := by omega
  have h1 : d % 16777216 = d := by omega
  have h2 : (d - 1) % 16777216 = d - 1 := by omega
  rw [h, h1, h2]
  simp; omega
set_option maxHeartbeats 4000000 in
theorem walk_EpochsStored (a0 : Int) (a1 : Int) (w : World) (w0 : (Lit.int .u64 a0).wf = true) (w1 : (Lit.int .i64 a1).wf = true) :
    Calls Try.prog 3 #[.int .u64 a0, .int .i64 a1] w fun e w' => e = .returned (.bool true) ∧ Below w.heap.size w w' := by
  obtain ⟨l0, u0⟩ := bounds_u64 w0
  obtain ⟨l1, u1⟩ := bounds_i64 w1
  clear w0 w1
  have sa := stored_alive a0 a1
  obtain ⟨⟨n1, n2⟩, _, ⟨g1, g2⟩⟩ := ep_range a0
  obtain ⟨d, hd⟩ : ∃ d, diesf a0 a1 = d := ⟨_, rfl⟩
  obtain ⟨g, hg⟩ : ∃ g, genf a0 = g := ⟨_, rfl⟩
  obtain ⟨m, hm⟩ : ∃ m, nowf a0 = m := ⟨_, rfl⟩
  rw [hd, hg, hm] at sa
  rw [hg] at g1 g2
  rw [hm] at n1 n2
  have SA := Lib.hid sa
  clear sa
  have hc : (a1 < 0) ∨ (¬ a1 < 0 ∧ ¬ 2592000 < a1) ∨ (¬ a1 < 0 ∧ 2592000 < a1 ∧ a1 ≤ m) ∨ (¬ a1 < 0 ∧ 2592000 < a1 ∧ ¬ a1 ≤ m) := by omega
  have he : d < 1 ∨ (¬ d < 1 ∧ 16777215 < d) ∨ (¬ d < 1 ∧ ¬ 16777215 < d ∧ alivef g d (putf d 0 g) = false ∧ alivef g d (putf (d - 1) 0 g) = true) := by
    by_cases h1 : d < 1
    · exact .inl h1
    · by_cases h2 : 16777215 < d
      · exact .inr (.inl ⟨h1, h2⟩)
      · exact .inr (.inr ⟨h1, h2, stored_dies g d g1 g2 (by omega) (by omega)⟩)
  rcases hc with c1 | ⟨c1, c2⟩ | ⟨c1, c2, c3⟩ | ⟨c1, c2, c3⟩
  case' inl => have sa : alivef g d a0 = false := by rw [SA.out]; simp [c1]
  case' inr.inl => have sa : alivef g d a0 = true := by rw [SA.out]; simp [c1, c2]
  case' inr.inr.inl => have sa : alivef g d a0 = false := by rw [SA.out]; simp [c2, c3]
  case' inr.inr.inr => have sa : alivef g d a0 = true := by rw [SA.out]; simp [c1, c3]
  all_goals
    clear SA
    rcases he with e1 | ⟨e1, e2⟩ | ⟨e1, e2, e3, e4⟩
  all_goals
    go_enter Try.func3, Try.ntmps3
    go_wp2_with fail
    refine (storedw _ _ _ l0 (by omega) u1).mono ?_
    rintro e w1 ⟨rfl, hk1⟩
    rw [hd, hg]
    obtain ⟨n, hn⟩ : ∃ n, n = w1.heap.size + 1 := ⟨_, rfl⟩
    have hB : Below n (w1.alloc (.cells #[.string ⟨#[]⟩, .string ⟨#[]⟩, .int .u32 0, .int .u64 0, .int .i64 d, .int .i64 g] 25)) (w1.alloc (.cells #[.string ⟨#[]⟩, .string ⟨#[]⟩, .int .u32 0, .int .u64 0, .int .i64 d, .int .i64 g] 25)) := Below.refl _ _
    have hN : n ≤ (w1.alloc (.cells #[.string ⟨#[]⟩, .string ⟨#[]⟩, .int .u32 0, .int .u64 0, .int .i64 d, .int .i64 g] 25)).heap.size := by simp [hn]
    have hlt : w1.heap.size < n := by omega
    have HN := Lib.hid hn
    clear hn
    go_wp2_with (first
      | (go_at_call 16; refine (noww _ _ l0 (by omega)).mono ?_; rintro e w' ⟨rfl, hk⟩; have hq := box_then (by assumption) hN hk; clear hk; have d0 := box_cell hq (p := ⟨w1.heap.size, 0, none⟩) hlt (by simp; rfl); have d1 := box_cell hq (p := ⟨w1.heap.size, 1, none⟩) hlt (by simp; rfl); have d2 := box_cell hq (p := ⟨w1.heap.size, 2, none⟩) hlt (by simp; rfl); have d3 := box_cell hq (p := ⟨w1.heap.size, 3, none⟩) hlt (by simp; rfl); have d4 := box_cell hq (p := ⟨w1.heap.size, 4, none⟩) hlt (by simp; rfl); have d5 := box_cell hq (p := ⟨w1.heap.size, 5, none⟩) hlt (by simp; rfl))
      | (go_at_call 17; refine (alivew _ _ _ _ _ _ _ _ (by omega) (by omega)).mono ?_; rintro e w' ⟨rfl, hk⟩; have hq := box_then (by assumption) hN hk; clear hk; have d0 := box_cell hq (p := ⟨w1.heap.size, 0, none⟩) hlt (by simp; rfl); have d1 := box_cell hq (p := ⟨w1.heap.size, 1, none⟩) hlt (by simp; rfl); have d2 := box_cell hq (p := ⟨w1.heap.size, 2, none⟩) hlt (by simp; rfl); have d3 := box_cell hq (p := ⟨w1.heap.size, 3, none⟩) hlt (by simp; rfl); have d4 := box_cell hq (p := ⟨w1.heap.size, 4, none⟩) hlt (by simp; rfl); have d5 := box_cell hq (p := ⟨w1.heap.size, 5, none⟩) hlt (by simp; rfl))
      | (go_at_call 18; refine (lives07 _).mono ?_; rintro e w' ⟨rfl, hk⟩; have hq := box_then (by assumption) hN hk; clear hk))
  all_goals first
    | (go_ret; exact ⟨rfl, hk1.trans (Below.mono (box_out HN.out (by assumption)) hk1.size)⟩)
    | skip
  all_goals
    have hqd := hq.drew
    have ew : IntKind.i64.wrap (d - 1) = d - 1 := by rw [IntKind.wrap_i64]; omega
    go_region_held3 (fun w' => w'.cell? ⟨w1.heap.size, 0, none⟩ = some (.string ⟨#[]⟩) ∧ w'.cell? ⟨w1.heap.size, 1, none⟩ = some (.string ⟨#[]⟩) ∧ w'.cell? ⟨w1.heap.size, 2, none⟩ = some (.int .u32 0) ∧ w'.cell? ⟨w1.heap.size, 3, none⟩ = some (.int .u64 0) ∧ w'.cell? ⟨w1.heap.size, 4, none⟩ = some (.int .i64 d) ∧ w'.cell? ⟨w1.heap.size, 5, none⟩ = some (.int .i64 g))
      (first
        | go_keep
        | exact ⟨box_cell (by assumption) hlt (by simp), box_cell (by assumption) hlt (by simp), box_cell (by assumption) hlt (by simp), box_cell (by assumption) hlt (by simp), box_cell (by assumption) hlt (by simp), box_cell (by assumption) hlt (by simp)⟩)
      (first
        | (go_at_call 19; refine (putw _ _ _ _).mono ?_; rintro e w' ⟨rfl, rfl⟩)
        | (go_at_call 17; refine (alivew _ _ _ _ _ _ _ _ (putf_range _ _ _).1 (putf_range _ _ _).2).mono ?_; rintro e w' ⟨rfl, hk⟩; have hq := box_then (by assumption) hN hk; clear hk)
        | (go_at_call 18; refine (lives07 _).mono ?_; rintro e w' ⟨rfl, hk⟩; have hq := box_then (by assumption) hN hk; clear hk))
  all_goals go_wp2
  all_goals go_ret
  all_goals exact ⟨rfl, hk1.trans (Below.mono (box_out HN.out (by assumption)) hk1.size)⟩
end Go.Proofs.Yteofbgbjibbdaac
