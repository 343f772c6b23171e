/- Contracts of package places and of its chapter's answers: addresses. -/
import Derived.Test.YtmdofhdjikapgaaFnvs
import Derived.Test.YtmdofhdjikapgaaBits
import Derived.Deep.RegionHeld3
namespace Go.Proofs.Ytmdofhdjikapgaa
open Go.RowKit
set_option linter.unusedVariables false

theorem ret_u64' {a b : Int} (h : a = b) : Ending.returned (.int .u64 a) = .returned (.int .u64 b) := by rw [h]
/-- Is there such a bucket? -/
def isp (b k : Int) : Bool := decide (0 ≤ k) && decide (k < szf b)
def tagsf (b k : Int) : Int := if isp b k = true then 4096 + 8 * (szf b + k) else 0
def itemf (b k s : Int) : Int := if isp b k = true ∧ 0 ≤ s ∧ s ≤ 3 then 4096 + 8 * (szf b + k) + 1 + s else 0
def reff (r : Int) : Int := if r < 1 then 0 else 4294967296 + r
def versf (b k : Int) : Int := if isp b k = true then 64 + strf k b else 0
theorem isp_range {b k : Int} (h : isp b k = true) : 0 ≤ k ∧ k < szf b ∧ szf b ≤ 4096 := by
  have := szf_range b
  unfold isp at h; simp at h; omega
theorem strf_range {b k : Int} (h : isp b k = true) : 0 ≤ strf k b ∧ strf k b ≤ 63 := by
  have := isp_range h
  unfold szf at this
  unfold strf
  split
  · omega
  · split at this <;> omega
theorem rthere (b k : Int) (w : World) :
    Calls Try.prog 118 #[.agg #[.int .i64 b, .int .i64 k]] w fun e w' => e = .returned (.bool (isp b k)) ∧ Below w.heap.size w w' := by
  by_cases c : 0 ≤ k
  · have cb : decide (0 ≤ k) = true := by simpa using c
    go_enter Try.func118, Try.ntmps118
    go_wp2_with fail
    go_quiet ((go_at_call 89; exact quiet_left (refsize_any _ _)))
    go_wp2
    go_ret
    exact ⟨ret_bool (by simp [isp, c]), below_drewN ((Below.refl _ _).alloc (Nat.le_refl _) _) _⟩
  · have cb : decide (0 ≤ k) = false := by simpa using c
    go_enter Try.func118, Try.ntmps118
    go_wp2_with fail
    go_quiet (fail)
    go_wp2
    go_ret
    exact ⟨ret_bool (by simp [isp, cb]), below_drewN ((Below.refl _ _).alloc (Nat.le_refl _) _) _⟩
theorem rtags (b k : Int) (w : World) :
    Calls Try.prog 99 #[.agg #[.int .i64 b, .int .i64 k]] w fun e w' => e = .returned (.int .u64 (tagsf b k)) ∧ Below w.heap.size w w' := by
  by_cases c : isp b k = true
  · have ir := isp_range c
    have sr := strf_range c
    obtain ⟨i1, i2, i3⟩ := ir
    obtain ⟨j1, j2⟩ := sr
    go_enter Try.func99, Try.ntmps99
    go_wp2_with fail
    refine (rthere _ _ _).mono ?_
    rintro e w1 ⟨rfl, hk⟩
    have hb : Below w.heap.size w w1 := ((Below.refl _ _).alloc (Nat.le_refl _) _).trans (hk.mono (by simp))
    have c0 : w1.cell? ⟨w.heap.size, 0, none⟩ = some (.int .i64 b) := (hk.cell (p := ⟨w.heap.size, 0, none⟩) (by simp)).trans (by simp)
    have c1 : w1.cell? ⟨w.heap.size, 1, none⟩ = some (.int .i64 k) := (hk.cell (p := ⟨w.heap.size, 1, none⟩) (by simp)).trans (by simp)
    clear hk
    go_wp2_with fail
    have e1 : IntKind.i64.wrap (8 * szf b) = 8 * szf b := by rw [IntKind.wrap_i64]; omega
    have e2 : IntKind.i64.wrap (4096 + 8 * szf b) = 4096 + 8 * szf b := by rw [IntKind.wrap_i64]; omega
    have e3 : IntKind.i64.wrap (8 * k) = 8 * k := by rw [IntKind.wrap_i64]; omega
    have e4 : IntKind.i64.wrap (4096 + 8 * szf b + 8 * k) = 4096 + 8 * szf b + 8 * k := by rw [IntKind.wrap_i64]; omega
    have e5 : IntKind.u64.wrap (4096 + 8 * szf b + 8 * k) = 4096 + 8 * szf b + 8 * k := by rw [IntKind.wrap_u64]; omega
    go_quiet ((go_at_call 89; exact quiet_left (refsize_any _ _)))
    go_wp2
    go_ret
    exact ⟨ret_u64' (by unfold tagsf; rw [if_pos c]; try omega), below_drewN hb _⟩
  · go_enter Try.func99, Try.ntmps99
    go_wp2_with fail
    refine (rthere _ _ _).mono ?_
    rintro e w1 ⟨rfl, hk⟩
    have hb : Below w.heap.size w w1 := ((Below.refl _ _).alloc (Nat.le_refl _) _).trans (hk.mono (by simp))
    go_wp2_with fail
    go_ret
    exact ⟨ret_u64' (by unfold tagsf; rw [if_neg c]), hb⟩
theorem refw (r : Int) (w : World) (h1 : r ≤ 9223372036854775807) :
    Calls Try.prog 44 #[.int .i64 r] w fun e w' => e = .returned (.int .u64 (reff r)) ∧ w = w' := by
  unfold reff
  by_cases c : r < 1
  all_goals
    go_enter Try.func44, Try.ntmps44
    go_wp2_with fail
    go_ret
    exact ⟨ret_u64' (by first | rfl | (unfold wrap64; rw [IntKind.wrap_u64]; omega)), rfl⟩
set_option maxHeartbeats 1000000 in
theorem ritem (b k s : Int) (w : World) :
    Calls Try.prog 102 #[.agg #[.int .i64 b, .int .i64 k, .int .i64 s]] w fun e w' => e = .returned (.int .u64 (itemf b k s)) ∧ Below w.heap.size w w' := by
  have hc : (isp b k = false ∧ itemf b k s = 0) ∨ (isp b k = true ∧ s < 0 ∧ itemf b k s = 0) ∨ (isp b k = true ∧ ¬ s < 0 ∧ 4 ≤ s ∧ itemf b k s = 0) ∨ (isp b k = true ∧ ¬ s < 0 ∧ ¬ 4 ≤ s ∧ itemf b k s = tagsf b k + 1 + s ∧ 0 ≤ tagsf b k ∧ tagsf b k ≤ 70000) := by
    unfold itemf tagsf
    by_cases c : isp b k = true
    · have ir := isp_range c
      by_cases d : s < 0
      · exact .inr (.inl ⟨c, d, if_neg (by omega)⟩)
      · by_cases e : 4 ≤ s
        · exact .inr (.inr (.inl ⟨c, d, e, if_neg (by omega)⟩))
        · refine .inr (.inr (.inr ⟨c, d, e, ?_⟩))
          rw [if_pos ⟨c, by omega, by omega⟩, if_pos c]
          exact ⟨rfl, by omega, by omega⟩
    · exact .inl ⟨by simpa using c, if_neg (by simp [c])⟩
  obtain ⟨r, hr⟩ : ∃ r, itemf b k s = r := ⟨_, rfl⟩
  rw [hr] at hc ⊢
  clear hr
  have hB : Below (w.heap.size + 1) (w.alloc (.cells #[.int .i64 b, .int .i64 k, .int .i64 s] 48)) (w.alloc (.cells #[.int .i64 b, .int .i64 k, .int .i64 s] 48)) := Below.refl _ _
  have hN : w.heap.size + 1 ≤ (w.alloc (.cells #[.int .i64 b, .int .i64 k, .int .i64 s] 48)).heap.size := by simp
  have hlt : w.heap.size < w.heap.size + 1 := by omega
  rcases hc with ⟨c, rfl⟩ | ⟨c, d, rfl⟩ | ⟨c, d, e, rfl⟩ | ⟨c, d, e, rfl, t1, t2⟩
  all_goals
    go_enter Try.func102, Try.ntmps102
    go_wp2_with (first
      | (go_at_call 118; refine (rthere _ _ _).mono ?_; rintro e w' ⟨rfl, hk⟩; have hq := box_then (by assumption) hN hk; clear hk; have c0 := box_cell hq (p := ⟨w.heap.size, 0, none⟩) (v := .int .i64 b) hlt (by simp); have c1 := box_cell hq (p := ⟨w.heap.size, 1, none⟩) (v := .int .i64 k) hlt (by simp); have c2 := box_cell hq (p := ⟨w.heap.size, 2, none⟩) (v := .int .i64 s) hlt (by simp))
      | (go_at_call 99; refine (rtags _ _ _).mono ?_; rintro e w' ⟨rfl, hk⟩; have hq := box_then (by assumption) hN hk; clear hk; have c0 := box_cell hq (p := ⟨w.heap.size, 0, none⟩) (v := .int .i64 b) hlt (by simp); have c1 := box_cell hq (p := ⟨w.heap.size, 1, none⟩) (v := .int .i64 k) hlt (by simp); have c2 := box_cell hq (p := ⟨w.heap.size, 2, none⟩) (v := .int .i64 s) hlt (by simp)))
  all_goals first
    | (go_ret; exact ⟨rfl, box_out rfl (by assumption)⟩)
    | skip
  have hqd := hq.drew
  have e1 : IntKind.u64.wrap (tagsf b k + 1) = tagsf b k + 1 := by rw [IntKind.wrap_u64]; omega
  have e2 : IntKind.u64.wrap s = s := by rw [IntKind.wrap_u64]; omega
  have e3 : IntKind.u64.wrap (tagsf b k + 1 + s) = tagsf b k + 1 + s := by rw [IntKind.wrap_u64]; omega
  have e4 : IntKind.i64.wrap (1 + s) = 1 + s := by rw [IntKind.wrap_i64]; omega
  have e5 : IntKind.u64.wrap (1 + s) = 1 + s := by rw [IntKind.wrap_u64]; omega
  have e6 : IntKind.u64.wrap (tagsf b k + (1 + s)) = tagsf b k + (1 + s) := by rw [IntKind.wrap_u64]; omega
  go_region_held3 (fun w' => w'.cell? ⟨w.heap.size, 0, none⟩ = some (.int .i64 b) ∧ w'.cell? ⟨w.heap.size, 1, none⟩ = some (.int .i64 k) ∧ w'.cell? ⟨w.heap.size, 2, none⟩ = some (.int .i64 s))
    (first
      | go_keep
      | exact ⟨box_cell (by assumption) hlt (by simp), box_cell (by assumption) hlt (by simp), box_cell (by assumption) hlt (by simp)⟩)
    (first
      | (go_at_call 99; refine (rtags _ _ _).mono ?_; rintro e w' ⟨rfl, hk⟩; have hq := box_then (by assumption) hN hk; clear hk))
  go_wp2
  go_ret
  exact ⟨ret_u64' (by omega), box_out rfl (by assumption)⟩
end Go.Proofs.Ytmdofhdjikapgaa
