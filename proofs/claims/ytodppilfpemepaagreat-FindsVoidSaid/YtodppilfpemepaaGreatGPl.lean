/- Contracts of package places and of its chapter's answers: addresses. -/
import Derived.Test.YtodppilfpemepaaGreatFnvs
import Derived.Test.YtodppilfpemepaaGreatBits
import Derived.Deep.RegionHeld3
namespace Go.Proofs.YtodppilfpemepaaGreat
open Go.RowKit
set_option linter.unusedVariables false

theorem ret_u64' {a b : Int} (h : a = b) : Ending.returned (.int .u64 a) = .returned (.int .u64 b) := by rw [h]
/-- Is there such a bucket? -/
def isp (b k : Int) : Bool := decide (0 ≤ k) && decide (k < szf b)
def tagsf (b k : Int) : Int := if isp b k = true then 4096 + 8 * (szf b + k) else 0
def itemf (b k s : Int) : Int := if isp b k = true ∧ 0 ≤ s ∧ s ≤ 3 then 4096 + 8 * (szf b + k) + 1 + s else 0
def reff (r : Int) : Int := if r < 1 then 0 else 4294967296 + r
def versf (b k : Int) : Int := if isp b k = true then 64 + strf k b else 0
theorem isp_range {b k : Int} (h : isp b k = true) : 0 ≤ k ∧ k < szf b ∧ szf b ≤ 4096 := by
  have := szf_range b
  unfold isp at h; simp at h; omega
theorem strf_range {b k : Int} (h : isp b k = true) : 0 ≤ strf k b ∧ strf k b ≤ 63 := by
  have := isp_range h
  unfold szf at this
  unfold strf
  split
  · omega
  · split at this <;> omega
theorem ispw (b k : Int) (w : World) :
    Calls Tryz.prog 84 #[.agg #[.int .i64 b, .int .i64 k]] w fun e w' => e = .returned (.bool (isp b k)) ∧ Below w.heap.size w w' := by
  by_cases c : 0 ≤ k
  · have cb : decide (0 ≤ k) = true := by simpa using c
    go_enter Tryz.func84, Tryz.ntmps84
    go_wp2_with fail
    go_quiet ((go_at_call 26; exact quiet_left (size_any _ _)))
    go_wp2
    go_ret
    exact ⟨ret_bool (by simp [isp, c]), below_drewN ((Below.refl _ _).alloc (Nat.le_refl _) _) _⟩
  · have cb : decide (0 ≤ k) = false := by simpa using c
    go_enter Tryz.func84, Tryz.ntmps84
    go_wp2_with fail
    go_quiet (fail)
    go_wp2
    go_ret
    exact ⟨ret_bool (by simp [isp, cb]), below_drewN ((Below.refl _ _).alloc (Nat.le_refl _) _) _⟩
theorem rthere (b k : Int) (w : World) :
    Calls Tryz.prog 103 #[.agg #[.int .i64 b, .int .i64 k]] w fun e w' => e = .returned (.bool (isp b k)) ∧ Below w.heap.size w w' := by
  by_cases c : 0 ≤ k
  · have cb : decide (0 ≤ k) = true := by simpa using c
    go_enter Tryz.func103, Tryz.ntmps103
    go_wp2_with fail
    go_quiet ((go_at_call 104; exact quiet_left (refsize_any _ _)))
    go_wp2
    go_ret
    exact ⟨ret_bool (by simp [isp, c]), below_drewN ((Below.refl _ _).alloc (Nat.le_refl _) _) _⟩
  · have cb : decide (0 ≤ k) = false := by simpa using c
    go_enter Tryz.func103, Tryz.ntmps103
    go_wp2_with fail
    go_quiet (fail)
    go_wp2
    go_ret
    exact ⟨ret_bool (by simp [isp, cb]), below_drewN ((Below.refl _ _).alloc (Nat.le_refl _) _) _⟩
theorem tagsw (b k : Int) (w : World) :
    Calls Tryz.prog 40 #[.agg #[.int .i64 b, .int .i64 k]] w fun e w' => e = .returned (.int .u64 (tagsf b k)) ∧ Below w.heap.size w w' := by
  by_cases c : isp b k = true
  · have ir := isp_range c
    have sr := strf_range c
    obtain ⟨i1, i2, i3⟩ := ir
    obtain ⟨j1, j2⟩ := sr
    go_enter Tryz.func40, Tryz.ntmps40
    go_wp2_with fail
    refine (ispw _ _ _).mono ?_
    rintro e w1 ⟨rfl, hk⟩
    have hb : Below w.heap.size w w1 := ((Below.refl _ _).alloc (Nat.le_refl _) _).trans (hk.mono (by simp))
    have c0 : w1.cell? ⟨w.heap.size, 0, none⟩ = some (.int .i64 b) := (hk.cell (p := ⟨w.heap.size, 0, none⟩) (by simp)).trans (by simp)
    have c1 : w1.cell? ⟨w.heap.size, 1, none⟩ = some (.int .i64 k) := (hk.cell (p := ⟨w.heap.size, 1, none⟩) (by simp)).trans (by simp)
    clear hk
    go_wp2_with fail
    have e1 : IntKind.i64.wrap (szf b + k) = szf b + k := by rw [IntKind.wrap_i64]; omega
    have e2 : IntKind.i64.wrap (8 * (szf b + k)) = 8 * (szf b + k) := by rw [IntKind.wrap_i64]; omega
    have e3 : IntKind.u64.wrap (8 * (szf b + k)) = 8 * (szf b + k) := by rw [IntKind.wrap_u64]; omega
    have e4 : IntKind.u64.wrap (4096 + 8 * (szf b + k)) = 4096 + 8 * (szf b + k) := by rw [IntKind.wrap_u64]; omega
    go_quiet ((go_at_call 26; exact quiet_left (size_any _ _)))
    go_wp2
    go_ret
    exact ⟨ret_u64' (by unfold tagsf; rw [if_pos c]; try omega), below_drewN hb _⟩
  · go_enter Tryz.func40, Tryz.ntmps40
    go_wp2_with fail
    refine (ispw _ _ _).mono ?_
    rintro e w1 ⟨rfl, hk⟩
    have hb : Below w.heap.size w w1 := ((Below.refl _ _).alloc (Nat.le_refl _) _).trans (hk.mono (by simp))
    go_wp2_with fail
    go_ret
    exact ⟨ret_u64' (by unfold tagsf; rw [if_neg c]), hb⟩
theorem rtags (b k : Int) (w : World) :
    Calls Tryz.prog 63 #[.agg #[.int .i64 b, .int .i64 k]] w fun e w' => e = .returned (.int .u64 (tagsf b k)) ∧ Below w.heap.size w w' := by
  by_cases c : isp b k = true
  · have ir := isp_range c
    have sr := strf_range c
    obtain ⟨i1, i2, i3⟩ := ir
    obtain ⟨j1, j2⟩ := sr
    go_enter Tryz.func63, Tryz.ntmps63
    go_wp2_with fail
    refine (rthere _ _ _).mono ?_
    rintro e w1 ⟨rfl, hk⟩
    have hb : Below w.heap.size w w1 := ((Below.refl _ _).alloc (Nat.le_refl _) _).trans (hk.mono (by simp))
    have c0 : w1.cell? ⟨w.heap.size, 0, none⟩ = some (.int .i64 b) := (hk.cell (p := ⟨w.heap.size, 0, none⟩) (by simp)).trans (by simp)
    have c1 : w1.cell? ⟨w.heap.size, 1, none⟩ = some (.int .i64 k) := (hk.cell (p := ⟨w.heap.size, 1, none⟩) (by simp)).trans (by simp)
    clear hk
    go_wp2_with fail
    have e1 : IntKind.i64.wrap (8 * szf b) = 8 * szf b := by rw [IntKind.wrap_i64]; omega
    have e2 : IntKind.i64.wrap (4096 + 8 * szf b) = 4096 + 8 * szf b := by rw [IntKind.wrap_i64]; omega
    have e3 : IntKind.i64.wrap (8 * k) = 8 * k := by rw [IntKind.wrap_i64]; omega
    have e4 : IntKind.i64.wrap (4096 + 8 * szf b + 8 * k) = 4096 + 8 * szf b + 8 * k := by rw [IntKind.wrap_i64]; omega
    have e5 : IntKind.u64.wrap (4096 + 8 * szf b + 8 * k) = 4096 + 8 * szf b + 8 * k := by rw [IntKind.wrap_u64]; omega
    go_quiet ((go_at_call 104; exact quiet_left (refsize_any _ _)))
    go_wp2
    go_ret
    exact ⟨ret_u64' (by unfold tagsf; rw [if_pos c]; try omega), below_drewN hb _⟩
  · go_enter Tryz.func63, Tryz.ntmps63
    go_wp2_with fail
    refine (rthere _ _ _).mono ?_
    rintro e w1 ⟨rfl, hk⟩
    have hb : Below w.heap.size w w1 := ((Below.refl _ _).alloc (Nat.le_refl _) _).trans (hk.mono (by simp))
    go_wp2_with fail
    go_ret
    exact ⟨ret_u64' (by unfold tagsf; rw [if_neg c]), hb⟩
theorem versw (b k : Int) (w : World) :
    Calls Tryz.prog 184 #[.agg #[.int .i64 b, .int .i64 k]] w fun e w' => e = .returned (.int .u64 (versf b k)) ∧ Below w.heap.size w w' := by
  by_cases c : isp b k = true
  · have ir := isp_range c
    have sr := strf_range c
    obtain ⟨i1, i2, i3⟩ := ir
    obtain ⟨j1, j2⟩ := sr
    go_enter Tryz.func184, Tryz.ntmps184
    go_wp2_with fail
    refine (ispw _ _ _).mono ?_
    rintro e w1 ⟨rfl, hk⟩
    have hb : Below w.heap.size w w1 := ((Below.refl _ _).alloc (Nat.le_refl _) _).trans (hk.mono (by simp))
    have c0 : w1.cell? ⟨w.heap.size, 0, none⟩ = some (.int .i64 b) := (hk.cell (p := ⟨w.heap.size, 0, none⟩) (by simp)).trans (by simp)
    have c1 : w1.cell? ⟨w.heap.size, 1, none⟩ = some (.int .i64 k) := (hk.cell (p := ⟨w.heap.size, 1, none⟩) (by simp)).trans (by simp)
    clear hk
    go_wp2_with fail
    refine (stripe_any _ _ _).mono ?_
    rintro e w2 ⟨rfl, hk2⟩
    go_wp2_with fail
    go_ret
    exact ⟨ret_u64' (by unfold versf; rw [if_pos c]), hb.trans (hk2.mono hb.size)⟩
  · go_enter Tryz.func184, Tryz.ntmps184
    go_wp2_with fail
    refine (ispw _ _ _).mono ?_
    rintro e w1 ⟨rfl, hk⟩
    have hb : Below w.heap.size w w1 := ((Below.refl _ _).alloc (Nat.le_refl _) _).trans (hk.mono (by simp))
    go_wp2_with fail
    go_ret
    exact ⟨ret_u64' (by unfold versf; rw [if_neg c]), hb⟩
set_option maxHeartbeats 1000000 in
theorem itemw (b k s : Int) (w : World) :
    Calls Tryz.prog 93 #[.agg #[.int .i64 b, .int .i64 k, .int .i64 s]] w fun e w' => e = .returned (.int .u64 (itemf b k s)) ∧ Below w.heap.size w w' := by
  have hc : (isp b k = false ∧ itemf b k s = 0) ∨ (isp b k = true ∧ s < 0 ∧ itemf b k s = 0) ∨ (isp b k = true ∧ ¬ s < 0 ∧ 4 ≤ s ∧ itemf b k s = 0) ∨ (isp b k = true ∧ ¬ s < 0 ∧ ¬ 4 ≤ s ∧ itemf b k s = tagsf b k + 1 + s ∧ 0 ≤ tagsf b k ∧ tagsf b k ≤ 70000) := by
    unfold itemf tagsf
    by_cases c : isp b k = true
    · have ir := isp_range c
      by_cases d : s < 0
      · exact .inr (.inl ⟨c, d, if_neg (by omega)⟩)
      · by_cases e : 4 ≤ s
        · exact .inr (.inr (.inl ⟨c, d, e, if_neg (by omega)⟩))
        · refine .inr (.inr (.inr ⟨c, d, e, ?_⟩))
          rw [if_pos ⟨c, by omega, by omega⟩, if_pos c]
          exact ⟨rfl, by omega, by omega⟩
    · exact .inl ⟨by simpa using c, if_neg (by simp [c])⟩
  obtain ⟨r, hr⟩ : ∃ r, itemf b k s = r := ⟨_, rfl⟩
  rw [hr] at hc ⊢
  clear hr
  have hB : Below (w.heap.size + 1) (w.alloc (.cells #[.int .i64 b, .int .i64 k, .int .i64 s] 41)) (w.alloc (.cells #[.int .i64 b, .int .i64 k, .int .i64 s] 41)) := Below.refl _ _
  have hN : w.heap.size + 1 ≤ (w.alloc (.cells #[.int .i64 b, .int .i64 k, .int .i64 s] 41)).heap.size := by simp
  have hlt : w.heap.size < w.heap.size + 1 := by omega
  rcases hc with ⟨c, rfl⟩ | ⟨c, d, rfl⟩ | ⟨c, d, e, rfl⟩ | ⟨c, d, e, rfl, t1, t2⟩
  all_goals
    go_enter Tryz.func93, Tryz.ntmps93
    go_wp2_with (first
      | (go_at_call 84; refine (ispw _ _ _).mono ?_; rintro e w' ⟨rfl, hk⟩; have hq := box_then (by assumption) hN hk; clear hk; have c0 := box_cell hq (p := ⟨w.heap.size, 0, none⟩) (v := .int .i64 b) hlt (by simp); have c1 := box_cell hq (p := ⟨w.heap.size, 1, none⟩) (v := .int .i64 k) hlt (by simp); have c2 := box_cell hq (p := ⟨w.heap.size, 2, none⟩) (v := .int .i64 s) hlt (by simp))
      | (go_at_call 40; refine (tagsw _ _ _).mono ?_; rintro e w' ⟨rfl, hk⟩; have hq := box_then (by assumption) hN hk; clear hk; have c0 := box_cell hq (p := ⟨w.heap.size, 0, none⟩) (v := .int .i64 b) hlt (by simp); have c1 := box_cell hq (p := ⟨w.heap.size, 1, none⟩) (v := .int .i64 k) hlt (by simp); have c2 := box_cell hq (p := ⟨w.heap.size, 2, none⟩) (v := .int .i64 s) hlt (by simp)))
  all_goals first
    | (go_ret; exact ⟨rfl, box_out rfl (by assumption)⟩)
    | skip
  have hqd := hq.drew
  have e1 : IntKind.u64.wrap (tagsf b k + 1) = tagsf b k + 1 := by rw [IntKind.wrap_u64]; omega
  have e2 : IntKind.u64.wrap s = s := by rw [IntKind.wrap_u64]; omega
  have e3 : IntKind.u64.wrap (tagsf b k + 1 + s) = tagsf b k + 1 + s := by rw [IntKind.wrap_u64]; omega
  have e4 : IntKind.i64.wrap (1 + s) = 1 + s := by rw [IntKind.wrap_i64]; omega
  have e5 : IntKind.u64.wrap (1 + s) = 1 + s := by rw [IntKind.wrap_u64]; omega
  have e6 : IntKind.u64.wrap (tagsf b k + (1 + s)) = tagsf b k + (1 + s) := by rw [IntKind.wrap_u64]; omega
  go_region_held3 (fun w' => w'.cell? ⟨w.heap.size, 0, none⟩ = some (.int .i64 b) ∧ w'.cell? ⟨w.heap.size, 1, none⟩ = some (.int .i64 k) ∧ w'.cell? ⟨w.heap.size, 2, none⟩ = some (.int .i64 s))
    (first
      | go_keep
      | exact ⟨box_cell (by assumption) hlt (by simp), box_cell (by assumption) hlt (by simp), box_cell (by assumption) hlt (by simp)⟩)
    (first
      | (go_at_call 40; refine (tagsw _ _ _).mono ?_; rintro e w' ⟨rfl, hk⟩; have hq := box_then (by assumption) hN hk; clear hk))
  go_wp2
  go_ret
  exact ⟨ret_u64' (by omega), box_out rfl (by assumption)⟩
set_option maxHeartbeats 1000000 in
theorem ritem (b k s : Int) (w : World) :
    Calls Tryz.prog 66 #[.agg #[.int .i64 b, .int .i64 k, .int .i64 s]] w fun e w' => e = .returned (.int .u64 (itemf b k s)) ∧ Below w.heap.size w w' := by
  have hc : (isp b k = false ∧ itemf b k s = 0) ∨ (isp b k = true ∧ s < 0 ∧ itemf b k s = 0) ∨ (isp b k = true ∧ ¬ s < 0 ∧ 4 ≤ s ∧ itemf b k s = 0) ∨ (isp b k = true ∧ ¬ s < 0 ∧ ¬ 4 ≤ s ∧ itemf b k s = tagsf b k + 1 + s ∧ 0 ≤ tagsf b k ∧ tagsf b k ≤ 70000) := by
    unfold itemf tagsf
    by_cases c : isp b k = true
    · have ir := isp_range c
      by_cases d : s < 0
      · exact .inr (.inl ⟨c, d, if_neg (by omega)⟩)
      · by_cases e : 4 ≤ s
        · exact .inr (.inr (.inl ⟨c, d, e, if_neg (by omega)⟩))
        · refine .inr (.inr (.inr ⟨c, d, e, ?_⟩))
          rw [if_pos ⟨c, by omega, by omega⟩, if_pos c]
          exact ⟨rfl, by omega, by omega⟩
    · exact .inl ⟨by simpa using c, if_neg (by simp [c])⟩
  obtain ⟨r, hr⟩ : ∃ r, itemf b k s = r := ⟨_, rfl⟩
  rw [hr] at hc ⊢
  clear hr
  have hB : Below (w.heap.size + 1) (w.alloc (.cells #[.int .i64 b, .int .i64 k, .int .i64 s] 41)) (w.alloc (.cells #[.int .i64 b, .int .i64 k, .int .i64 s] 41)) := Below.refl _ _
  have hN : w.heap.size + 1 ≤ (w.alloc (.cells #[.int .i64 b, .int .i64 k, .int .i64 s] 41)).heap.size := by simp
  have hlt : w.heap.size < w.heap.size + 1 := by omega
  rcases hc with ⟨c, rfl⟩ | ⟨c, d, rfl⟩ | ⟨c, d, e, rfl⟩ | ⟨c, d, e, rfl, t1, t2⟩
  all_goals
    go_enter Tryz.func66, Tryz.ntmps66
    go_wp2_with (first
      | (go_at_call 103; refine (rthere _ _ _).mono ?_; rintro e w' ⟨rfl, hk⟩; have hq := box_then (by assumption) hN hk; clear hk; have c0 := box_cell hq (p := ⟨w.heap.size, 0, none⟩) (v := .int .i64 b) hlt (by simp); have c1 := box_cell hq (p := ⟨w.heap.size, 1, none⟩) (v := .int .i64 k) hlt (by simp); have c2 := box_cell hq (p := ⟨w.heap.size, 2, none⟩) (v := .int .i64 s) hlt (by simp))
      | (go_at_call 63; refine (rtags _ _ _).mono ?_; rintro e w' ⟨rfl, hk⟩; have hq := box_then (by assumption) hN hk; clear hk; have c0 := box_cell hq (p := ⟨w.heap.size, 0, none⟩) (v := .int .i64 b) hlt (by simp); have c1 := box_cell hq (p := ⟨w.heap.size, 1, none⟩) (v := .int .i64 k) hlt (by simp); have c2 := box_cell hq (p := ⟨w.heap.size, 2, none⟩) (v := .int .i64 s) hlt (by simp)))
  all_goals first
    | (go_ret; exact ⟨rfl, box_out rfl (by assumption)⟩)
    | skip
  have hqd := hq.drew
  have e1 : IntKind.u64.wrap (tagsf b k + 1) = tagsf b k + 1 := by rw [IntKind.wrap_u64]; omega
  have e2 : IntKind.u64.wrap s = s := by rw [IntKind.wrap_u64]; omega
  have e3 : IntKind.u64.wrap (tagsf b k + 1 + s) = tagsf b k + 1 + s := by rw [IntKind.wrap_u64]; omega
  have e4 : IntKind.i64.wrap (1 + s) = 1 + s := by rw [IntKind.wrap_i64]; omega
  have e5 : IntKind.u64.wrap (1 + s) = 1 + s := by rw [IntKind.wrap_u64]; omega
  have e6 : IntKind.u64.wrap (tagsf b k + (1 + s)) = tagsf b k + (1 + s) := by rw [IntKind.wrap_u64]; omega
  go_region_held3 (fun w' => w'.cell? ⟨w.heap.size, 0, none⟩ = some (.int .i64 b) ∧ w'.cell? ⟨w.heap.size, 1, none⟩ = some (.int .i64 k) ∧ w'.cell? ⟨w.heap.size, 2, none⟩ = some (.int .i64 s))
    (first
      | go_keep
      | exact ⟨box_cell (by assumption) hlt (by simp), box_cell (by assumption) hlt (by simp), box_cell (by assumption) hlt (by simp)⟩)
    (first
      | (go_at_call 63; refine (rtags _ _ _).mono ?_; rintro e w' ⟨rfl, hk⟩; have hq := box_then (by assumption) hN hk; clear hk))
  go_wp2
  go_ret
  exact ⟨ret_u64' (by omega), box_out rfl (by assumption)⟩
end Go.Proofs.YtodppilfpemepaaGreat
/- Next: Contracts of package places and of its chapter's answers: words of tables. -/
namespace Go.Proofs.YtodppilfpemepaaGreat
open Go.RowKit
set_option linter.unusedVariables false

def wordf (o n : Int) : Int := o % 256 + n % 256 * 256
def asO (x : Int) : Int := if 1 ≤ x % 256 ∧ x % 256 ≤ 12 then x % 256 else 1
def asN (x : Int) : Int := if x / 256 % 256 = asO x + 1 ∧ x / 256 % 256 ≤ 12 then x / 256 % 256 else 0
theorem as_range (x : Int) : 1 ≤ asO x ∧ asO x ≤ 12 ∧ (asN x = 0 ∨ (asN x = asO x + 1 ∧ asN x ≤ 12)) := by
  unfold asN
  have : 1 ≤ asO x ∧ asO x ≤ 12 := by unfold asO; split <;> omega
  refine ⟨this.1, this.2, ?_⟩
  split <;> omega
theorem asw (x : Int) (w : World) (h1 : 0 ≤ x) (h2 : x < 18446744073709551616) :
    Calls Tryz.prog 90 #[.int .u64 x] w fun e w' => e = .returned (.tuple #[.int .i64 (asO x), .int .i64 (asN x)]) ∧ Below w.heap.size w w' := by
  have m1 := and255 x h1 h2
  have m2 := and255 (x / 256) (by omega) (by omega)
  obtain ⟨o, ho⟩ : ∃ o, x % 256 = o := ⟨_, rfl⟩
  obtain ⟨n, hn⟩ : ∃ n, x / 256 % 256 = n := ⟨_, rfl⟩
  rw [ho] at m1
  rw [hn] at m2
  have o1 : 0 ≤ o := by omega
  have o2 : o ≤ 255 := by omega
  have n1 : 0 ≤ n := by omega
  have n2 : n ≤ 255 := by omega
  have eO : asO x = if 1 ≤ o ∧ o ≤ 12 then o else 1 := by unfold asO; rw [ho]
  have eN : asN x = if n = asO x + 1 ∧ n ≤ 12 then n else 0 := by unfold asN; rw [hn]
  have hc : (1 ≤ o ∧ o ≤ 12 ∧ (szf o == 0) = false ∧ asO x = o ∧ n = o + 1 ∧ n ≤ 12 ∧ asN x = n) ∨ (1 ≤ o ∧ o ≤ 12 ∧ (szf o == 0) = false ∧ asO x = o ∧ n = o + 1 ∧ 12 < n ∧ asN x = 0) ∨ (1 ≤ o ∧ o ≤ 12 ∧ (szf o == 0) = false ∧ asO x = o ∧ n ≠ o + 1 ∧ asN x = 0) ∨ ((szf o == 0) = true ∧ asO x = 1 ∧ n = 2 ∧ n ≤ 12 ∧ asN x = 2) ∨ ((szf o == 0) = true ∧ asO x = 1 ∧ n ≠ 2 ∧ asN x = 0) := by
    by_cases c : 1 ≤ o ∧ o ≤ 12
    · have p := pow_le o c.1 c.2
      have s : (szf o == 0) = false := by rw [beq_eq_false_iff_ne]; unfold szf; rw [if_pos c]; omega
      rw [if_pos c] at eO
      rw [eO] at eN
      by_cases d : n = o + 1
      · by_cases e : n ≤ 12
        · exact .inl ⟨c.1, c.2, s, eO, d, e, by rw [eN, if_pos ⟨d, e⟩]⟩
        · exact .inr (.inl ⟨c.1, c.2, s, eO, d, by omega, by rw [eN, if_neg (by omega)]⟩)
      · exact .inr (.inr (.inl ⟨c.1, c.2, s, eO, d, by rw [eN, if_neg (by omega)]⟩))
    · have s : (szf o == 0) = true := by unfold szf; rw [if_neg c]; rfl
      rw [if_neg c] at eO
      rw [eO] at eN
      by_cases d : n = 2
      · exact .inr (.inr (.inr (.inl ⟨s, eO, d, by omega, by rw [eN, if_pos (by omega)]; exact d⟩)))
      · exact .inr (.inr (.inr (.inr ⟨s, eO, d, by rw [eN, if_neg (by omega)]⟩)))
  obtain ⟨rO, hO⟩ : ∃ r, asO x = r := ⟨_, rfl⟩
  obtain ⟨rN, hN⟩ : ∃ r, asN x = r := ⟨_, rfl⟩
  rw [hO, hN]
  simp only [hO, hN] at hc
  clear eO eN hO hN
  rcases hc with ⟨c1, c2, c3, rfl, d, e, rfl⟩ | ⟨c1, c2, c3, rfl, d, e, rfl⟩ | ⟨c1, c2, c3, rfl, d, rfl⟩ | ⟨c3, rfl, d, d2, rfl⟩ | ⟨c3, rfl, d, rfl⟩
  case' inl => have db : (rN != rO + 1) = false := by simpa using d
  case' inr.inl => have db : (n != rO + 1) = false := by simpa using d
  case' inr.inr.inl => have db : (n != rO + 1) = true := by simpa using d
  case' inr.inr.inr.inl => have db : (n != 2) = false := by simpa using d
  case' inr.inr.inr.inr => have db : (n != 2) = true := by simpa using d
  all_goals
    have D := Lib.hid d
    clear d
    go_enter Tryz.func90, Tryz.ntmps90
    go_wp2_with fail
    refine (size_any _ _).mono ?_
    rintro e w1 ⟨rfl, rfl⟩
    go_wp2_with fail
    go_ret2
    exact ⟨by first | rfl | (have := D.out; simp [this]), Below.refl _ _⟩
theorem as_eq (x o n : Int) (ho : x % 256 = o) (hn : x / 256 % 256 = n) : asO x = (if 1 ≤ o ∧ o ≤ 12 then o else 1) ∧ asN x = (if n = asO x + 1 ∧ n ≤ 12 then n else 0) := by
  unfold asN asO; rw [ho, hn]; exact ⟨rfl, rfl⟩
theorem ras_a (x o n : Int) (w : World) (h1 : 0 ≤ x) (h2 : x < 18446744073709551616) (ho : x % 256 = o) (hn : x / 256 % 256 = n) (o1 : 0 ≤ o) (o2 : o ≤ 255) (n1 : 0 ≤ n) (n2 : n ≤ 255) (c0 : 1 ≤ o) (c1 : o ≤ 12) (d : n = o + 1) (e : n ≤ 12) (db : (n != o + 1) = false) :
    Calls Tryz.prog 98 #[.int .u64 x] w fun e w' => e = .returned (.tuple #[.int .i64 o, .int .i64 n]) ∧ w = w' := by
  have D := Lib.hid d
  clear d
  go_enter Tryz.func98, Tryz.ntmps98
  go_wp2_with fail
  go_ret2
  exact ⟨by first | rfl | (have := D.out; simp [this]), rfl⟩
theorem ras_b (x o n : Int) (w : World) (h1 : 0 ≤ x) (h2 : x < 18446744073709551616) (ho : x % 256 = o) (hn : x / 256 % 256 = n) (o1 : 0 ≤ o) (o2 : o ≤ 255) (n1 : 0 ≤ n) (n2 : n ≤ 255) (c0 : 1 ≤ o) (c1 : o ≤ 12) (d : n = o + 1) (e : 12 < n) (db : (n != o + 1) = false) :
    Calls Tryz.prog 98 #[.int .u64 x] w fun e w' => e = .returned (.tuple #[.int .i64 o, .int .i64 0]) ∧ w = w' := by
  have D := Lib.hid d
  clear d
  go_enter Tryz.func98, Tryz.ntmps98
  go_wp2_with fail
  go_ret2
  exact ⟨by first | rfl | (have := D.out; simp [this]), rfl⟩
theorem ras_c (x o n : Int) (w : World) (h1 : 0 ≤ x) (h2 : x < 18446744073709551616) (ho : x % 256 = o) (hn : x / 256 % 256 = n) (o1 : 0 ≤ o) (o2 : o ≤ 255) (n1 : 0 ≤ n) (n2 : n ≤ 255) (c0 : 1 ≤ o) (c1 : o ≤ 12) (d : n ≠ o + 1) (e : n ≤ 12) (db : (n != o + 1) = true) :
    Calls Tryz.prog 98 #[.int .u64 x] w fun e w' => e = .returned (.tuple #[.int .i64 o, .int .i64 0]) ∧ w = w' := by
  have D := Lib.hid d
  clear d
  go_enter Tryz.func98, Tryz.ntmps98
  go_wp2_with fail
  go_ret2
  exact ⟨by first | rfl | (have := D.out; simp [this]), rfl⟩
theorem ras_d (x o n : Int) (w : World) (h1 : 0 ≤ x) (h2 : x < 18446744073709551616) (ho : x % 256 = o) (hn : x / 256 % 256 = n) (o1 : 0 ≤ o) (o2 : o ≤ 255) (n1 : 0 ≤ n) (n2 : n ≤ 255) (c0 : 1 ≤ o) (c1 : o ≤ 12) (d : n ≠ o + 1) (e : 12 < n) (db : (n != o + 1) = true) :
    Calls Tryz.prog 98 #[.int .u64 x] w fun e w' => e = .returned (.tuple #[.int .i64 o, .int .i64 0]) ∧ w = w' := by
  have D := Lib.hid d
  clear d
  go_enter Tryz.func98, Tryz.ntmps98
  go_wp2_with fail
  go_ret2
  exact ⟨by first | rfl | (have := D.out; simp [this]), rfl⟩
theorem ras_e (x o n : Int) (w : World) (h1 : 0 ≤ x) (h2 : x < 18446744073709551616) (ho : x % 256 = o) (hn : x / 256 % 256 = n) (o1 : 0 ≤ o) (o2 : o ≤ 255) (n1 : 0 ≤ n) (n2 : n ≤ 255) (c0 : o < 1) (d : n = 2) (e : n ≤ 12) (db : (n != 2) = false) :
    Calls Tryz.prog 98 #[.int .u64 x] w fun e w' => e = .returned (.tuple #[.int .i64 1, .int .i64 2]) ∧ w = w' := by
  have D := Lib.hid d
  clear d
  go_enter Tryz.func98, Tryz.ntmps98
  go_wp2_with fail
  go_ret2
  exact ⟨by first | rfl | (have := D.out; simp [this]), rfl⟩
theorem ras_f (x o n : Int) (w : World) (h1 : 0 ≤ x) (h2 : x < 18446744073709551616) (ho : x % 256 = o) (hn : x / 256 % 256 = n) (o1 : 0 ≤ o) (o2 : o ≤ 255) (n1 : 0 ≤ n) (n2 : n ≤ 255) (c0 : o < 1) (d : n ≠ 2) (e : n ≤ 12) (db : (n != 2) = true) :
    Calls Tryz.prog 98 #[.int .u64 x] w fun e w' => e = .returned (.tuple #[.int .i64 1, .int .i64 0]) ∧ w = w' := by
  have D := Lib.hid d
  clear d
  go_enter Tryz.func98, Tryz.ntmps98
  go_wp2_with fail
  go_ret2
  exact ⟨by first | rfl | (have := D.out; simp [this]), rfl⟩
theorem ras_g (x o n : Int) (w : World) (h1 : 0 ≤ x) (h2 : x < 18446744073709551616) (ho : x % 256 = o) (hn : x / 256 % 256 = n) (o1 : 0 ≤ o) (o2 : o ≤ 255) (n1 : 0 ≤ n) (n2 : n ≤ 255) (c0 : o < 1) (d : n ≠ 2) (e : 12 < n) (db : (n != 2) = true) :
    Calls Tryz.prog 98 #[.int .u64 x] w fun e w' => e = .returned (.tuple #[.int .i64 1, .int .i64 0]) ∧ w = w' := by
  have D := Lib.hid d
  clear d
  go_enter Tryz.func98, Tryz.ntmps98
  go_wp2_with fail
  go_ret2
  exact ⟨by first | rfl | (have := D.out; simp [this]), rfl⟩
theorem ras_h (x o n : Int) (w : World) (h1 : 0 ≤ x) (h2 : x < 18446744073709551616) (ho : x % 256 = o) (hn : x / 256 % 256 = n) (o1 : 0 ≤ o) (o2 : o ≤ 255) (n1 : 0 ≤ n) (n2 : n ≤ 255) (c0 : ¬ o < 1) (c1 : 12 < o) (d : n = 2) (e : n ≤ 12) (db : (n != 2) = false) :
    Calls Tryz.prog 98 #[.int .u64 x] w fun e w' => e = .returned (.tuple #[.int .i64 1, .int .i64 2]) ∧ w = w' := by
  have D := Lib.hid d
  clear d
  go_enter Tryz.func98, Tryz.ntmps98
  go_wp2_with fail
  go_ret2
  exact ⟨by first | rfl | (have := D.out; simp [this]), rfl⟩
theorem ras_i (x o n : Int) (w : World) (h1 : 0 ≤ x) (h2 : x < 18446744073709551616) (ho : x % 256 = o) (hn : x / 256 % 256 = n) (o1 : 0 ≤ o) (o2 : o ≤ 255) (n1 : 0 ≤ n) (n2 : n ≤ 255) (c0 : ¬ o < 1) (c1 : 12 < o) (d : n ≠ 2) (e : n ≤ 12) (db : (n != 2) = true) :
    Calls Tryz.prog 98 #[.int .u64 x] w fun e w' => e = .returned (.tuple #[.int .i64 1, .int .i64 0]) ∧ w = w' := by
  have D := Lib.hid d
  clear d
  go_enter Tryz.func98, Tryz.ntmps98
  go_wp2_with fail
  go_ret2
  exact ⟨by first | rfl | (have := D.out; simp [this]), rfl⟩
theorem ras_j (x o n : Int) (w : World) (h1 : 0 ≤ x) (h2 : x < 18446744073709551616) (ho : x % 256 = o) (hn : x / 256 % 256 = n) (o1 : 0 ≤ o) (o2 : o ≤ 255) (n1 : 0 ≤ n) (n2 : n ≤ 255) (c0 : ¬ o < 1) (c1 : 12 < o) (d : n ≠ 2) (e : 12 < n) (db : (n != 2) = true) :
    Calls Tryz.prog 98 #[.int .u64 x] w fun e w' => e = .returned (.tuple #[.int .i64 1, .int .i64 0]) ∧ w = w' := by
  have D := Lib.hid d
  clear d
  go_enter Tryz.func98, Tryz.ntmps98
  go_wp2_with fail
  go_ret2
  exact ⟨by first | rfl | (have := D.out; simp [this]), rfl⟩
theorem ras (x : Int) (w : World) (h1 : 0 ≤ x) (h2 : x < 18446744073709551616) :
    Calls Tryz.prog 98 #[.int .u64 x] w fun e w' => e = .returned (.tuple #[.int .i64 (asO x), .int .i64 (asN x)]) ∧ w = w' := by
  obtain ⟨o, ho⟩ : ∃ o, x % 256 = o := ⟨_, rfl⟩
  obtain ⟨n, hn⟩ : ∃ n, x / 256 % 256 = n := ⟨_, rfl⟩
  have o1 : 0 ≤ o := by omega
  have o2 : o ≤ 255 := by omega
  have n1 : 0 ≤ n := by omega
  have n2 : n ≤ 255 := by omega
  obtain ⟨eO, eN⟩ := as_eq x o n ho hn
  by_cases c : 1 ≤ o ∧ o ≤ 12
  · rw [if_pos c] at eO
    rw [eO] at eN ⊢
    by_cases d : n = o + 1
    · have db : (n != o + 1) = false := by simpa using d
      by_cases e : n ≤ 12
      · rw [if_pos ⟨d, e⟩] at eN; rw [eN]; exact ras_a x o n w h1 h2 ho hn o1 o2 n1 n2 c.1 c.2 d e db
      · rw [if_neg (fun h => e h.2)] at eN; rw [eN]; exact ras_b x o n w h1 h2 ho hn o1 o2 n1 n2 c.1 c.2 d (by omega) db
    · have db : (n != o + 1) = true := by simpa using d
      rw [if_neg (fun h => d h.1)] at eN; rw [eN]
      by_cases e : n ≤ 12
      · exact ras_c x o n w h1 h2 ho hn o1 o2 n1 n2 c.1 c.2 d e db
      · exact ras_d x o n w h1 h2 ho hn o1 o2 n1 n2 c.1 c.2 d (by omega) db
  · rw [if_neg c] at eO
    rw [eO] at eN ⊢
    by_cases d : n = 2
    · have db : (n != 2) = false := by simpa using d
      rw [if_pos (show n = 1 + 1 ∧ n ≤ 12 by omega)] at eN; rw [eN]
      subst d
      by_cases g : o < 1
      · exact ras_e x o 2 w h1 h2 ho hn o1 o2 n1 n2 g rfl (by omega) db
      · exact ras_h x o 2 w h1 h2 ho hn o1 o2 n1 n2 g (by omega) rfl (by omega) db
    · have db : (n != 2) = true := by simpa using d
      rw [if_neg (show ¬ (n = 1 + 1 ∧ n ≤ 12) by omega)] at eN; rw [eN]
      by_cases g : o < 1 <;> by_cases e : n ≤ 12
      · exact ras_f x o n w h1 h2 ho hn o1 o2 n1 n2 g d e db
      · exact ras_g x o n w h1 h2 ho hn o1 o2 n1 n2 g d (by omega) db
      · exact ras_i x o n w h1 h2 ho hn o1 o2 n1 n2 g (by omega) d e db
      · exact ras_j x o n w h1 h2 ho hn o1 o2 n1 n2 g (by omega) d (by omega) db
/-- Where things are put; how many spots there are. -/
def tgtf (x : Int) : Int := if asN x = 0 then asO x else asN x
def spotsf (x : Int) : Int := 4 * szf (asO x) + 4 * szf (asN x)
end Go.Proofs.YtodppilfpemepaaGreat
/- Next: Contracts of package places and of its chapter's answers: words put together, spots by number, whether a table may grow. -/
namespace Go.Proofs.YtodppilfpemepaaGreat
open Go.RowKit
set_option linter.unusedVariables false

theorem word_bits (o n : Int) (h1 : 0 ≤ o) (h2 : o < 256) (h3 : 0 ≤ n) (h4 : n < 256) : bits .or .u64 o (n * 256) = o + n * 256 := by
  obtain ⟨o, rfl⟩ := Int.eq_ofNat_of_zero_le h1
  obtain ⟨n, rfl⟩ := Int.eq_ofNat_of_zero_le h3
  have h := (bits_nat .u64 64 (by decide) (fun n a b => by rw [IntKind.wrap_u64]; omega) o (n * 256) (by omega) (by omega)).2
  have e : ((n * 256 : Nat) : Int) = (n : Int) * 256 := by simp
  rw [e] at h
  rw [h, Nat.or_comm]
  have := Nat.two_pow_add_eq_or_of_lt (i := 8) (show o < 2 ^ 8 by omega) n
  rw [show n * 256 = 2 ^ 8 * n by omega, ← this]
  omega
theorem wordw8 (o n : Int) (w : World) :
    Calls Tryz.prog 54 #[.int .i64 o, .int .i64 n] w fun e w' => e = .returned (.int .u64 (wordf o n)) ∧ w = w' := by
  obtain ⟨p, ep⟩ : ∃ p, o % 256 = p := ⟨_, rfl⟩
  obtain ⟨q, eq⟩ : ∃ p, n % 256 = p := ⟨_, rfl⟩
  have m1 : bits .and .u64 (IntKind.u64.wrap o) 255 = p := by rw [IntKind.wrap_u64, and255 _ (by omega) (by omega)]; omega
  have m2 : bits .and .u64 (IntKind.u64.wrap n) 255 = q := by rw [IntKind.wrap_u64, and255 _ (by omega) (by omega)]; omega
  have b1 : 0 ≤ p := by omega
  have b2 : p < 256 := by omega
  have b3 : 0 ≤ q := by omega
  have b4 : q < 256 := by omega
  have wb := word_bits p q b1 b2 b3 b4
  have ef : wordf o n = p + q * 256 := by unfold wordf; rw [ep, eq]
  have EF := Lib.hid ef
  clear ef ep eq
  go_enter Tryz.func54, Tryz.ntmps54
  go_wp2_with fail
  go_ret
  exact ⟨ret_u64' EF.out.symm, rfl⟩
def mayf (f g b : Int) : Bool := decide (1 ≤ f ∧ f ≤ 12 ∧ 1 ≤ b ∧ b ≤ 11 ∧ 4 * szf b + 4 * szf (b + 1) ≤ 8 * max (min g 65536) (4 * szf f))
theorem szf_zero (b : Int) : (szf b == 0) = !(decide (1 ≤ b) && decide (b ≤ 12)) := by
  unfold szf
  by_cases c : 1 ≤ b ∧ b ≤ 12
  · have := pow_le b c.1 c.2
    rw [if_pos c]; simp [c]; omega
  · rw [if_neg c]; simp; omega
theorem spotsf_range (x : Int) : 8 ≤ spotsf x ∧ spotsf x ≤ 32768 := by
  have a := as_range x
  have b := szf_range (asN x)
  have c := pow_le (asO x) a.1 a.2.1
  have d : szf (asO x) = 2 ^ (asO x).toNat := by unfold szf; rw [if_pos ⟨a.1, a.2.1⟩]
  unfold spotsf
  omega
theorem turn_eq (n s : Int) (l1 : -9223372036854775808 ≤ n) (u1 : n ≤ 9223372036854775807) (s1 : 0 < s) (s2 : s ≤ 32768) : (wrap64 (n.tmod s + s)).tmod s = n % s := by
  have h := Int.mul_tdiv_add_tmod n s
  have r1 := Int.tmod_lt_of_pos n s1
  have r2 : -s < n.tmod s := by
    have := Int.tmod_lt_of_pos (-n) s1
    rw [Int.neg_tmod] at this; omega
  have e : wrap64 (n.tmod s + s) = n.tmod s + s := by
    unfold wrap64; omega
  rw [e, Int.tmod_eq_emod_of_nonneg (by omega), Int.add_emod_right]
  conv => rhs; rw [← h]
  rw [Int.add_comm, Int.add_mul_emod_self_left]
/-- The spot of a number, in numbers. -/
def kf (x n : Int) : Int := n % spotsf x
def aB (x n : Int) : Int := if 4 * szf (asO x) ≤ kf x n then asN x else asO x
def aK (x n : Int) : Int := (if 4 * szf (asO x) ≤ kf x n then kf x n - 4 * szf (asO x) else kf x n) / 4
def aS (x n : Int) : Int := (if 4 * szf (asO x) ≤ kf x n then kf x n - 4 * szf (asO x) else kf x n) % 4
theorem kf_range (x n : Int) : 0 ≤ kf x n ∧ kf x n < spotsf x := by
  have := spotsf_range x
  exact ⟨Int.emod_nonneg _ (by omega), Int.emod_lt_of_pos _ (by omega)⟩
end Go.Proofs.YtodppilfpemepaaGreat
/- Next: Contracts of package places' chapter: its answers for the spot of a number and for growth. -/
namespace Go.Proofs.YtodppilfpemepaaGreat
open Go.RowKit
set_option linter.unusedVariables false

end Go.Proofs.YtodppilfpemepaaGreat
