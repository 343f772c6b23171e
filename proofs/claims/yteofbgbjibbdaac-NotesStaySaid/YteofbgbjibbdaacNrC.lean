/- Two lists of one note. -/
import Derived.Test.YteofbgbjibbdaacNrB
import Derived.Deep.RegionHeld3
namespace Go.Proofs.Yteofbgbjibbdaac
open Go.RowKit
set_option linter.unusedVariables false

set_option maxHeartbeats 4000000 in
set_option maxRecDepth 100000 in
theorem same_one (w : World) (ga gb ca cb : Nat) (s th k r b c d v : Int) (k0 : 0 ≤ k) (k1 : k ≤ 255) (la : ga < w.heap.size) (lb : gb < w.heap.size) (na : 1 ≤ ca) (nb : 1 ≤ cb) (ma : ca ≤ 9223372036854775807) (mb : cb ≤ 9223372036854775807) (ha0 : w.cell? ⟨ga, 0, none⟩ = some (.int .i64 s)) (ha1 : w.cell? ⟨ga, 1, none⟩ = some (.int .i64 th)) (ha2 : w.cell? ⟨ga, 2, none⟩ = some (.int .u8 k)) (ha3 : w.cell? ⟨ga, 3, none⟩ = some (.int .i64 r)) (ha4 : w.cell? ⟨ga, 4, none⟩ = some (.int .i64 b)) (ha5 : w.cell? ⟨ga, 5, none⟩ = some (.int .i64 c)) (ha6 : w.cell? ⟨ga, 6, none⟩ = some (.int .i64 d)) (ha7 : w.cell? ⟨ga, 7, none⟩ = some (.int .i64 v)) (hb0 : w.cell? ⟨gb, 0, none⟩ = some (.int .i64 s)) (hb1 : w.cell? ⟨gb, 1, none⟩ = some (.int .i64 th)) (hb2 : w.cell? ⟨gb, 2, none⟩ = some (.int .i64 k)) (hb3 : w.cell? ⟨gb, 3, none⟩ = some (.int .i64 r)) (hb4 : w.cell? ⟨gb, 4, none⟩ = some (.int .i64 b)) (hb5 : w.cell? ⟨gb, 5, none⟩ = some (.int .i64 c)) (hb6 : w.cell? ⟨gb, 6, none⟩ = some (.int .i64 d)) (hb7 : w.cell? ⟨gb, 7, none⟩ = some (.int .i64 v)) :
    Calls Try.prog 61 #[.slice (some ⟨ga, 0, none⟩) 1 ca, .slice (some ⟨gb, 0, none⟩) 1 cb] w fun e w' => e = .returned (.bool true) ∧ Below w.heap.size w w' := by
  have hB0 : Below w.heap.size w w.drew := (Below.refl _ _).drew
  have hN : w.heap.size ≤ w.heap.size := Nat.le_refl _
  go_enter Try.func61, Try.ntmps61
  go_wp2_with fail
  refine wp_loop_rounds 2 ?_
  rw [rounds_succ]
  go_wp2_with fail
  go_region_held3 (fun w' => w'.cell? ⟨ga, 0, none⟩ = some (.int .i64 s) ∧ w'.cell? ⟨ga, 1, none⟩ = some (.int .i64 th) ∧ w'.cell? ⟨ga, 2, none⟩ = some (.int .u8 k) ∧ w'.cell? ⟨ga, 3, none⟩ = some (.int .i64 r) ∧ w'.cell? ⟨ga, 4, none⟩ = some (.int .i64 b) ∧ w'.cell? ⟨ga, 5, none⟩ = some (.int .i64 c) ∧ w'.cell? ⟨ga, 6, none⟩ = some (.int .i64 d) ∧ w'.cell? ⟨ga, 7, none⟩ = some (.int .i64 v) ∧ w'.cell? ⟨gb, 0, none⟩ = some (.int .i64 s) ∧ w'.cell? ⟨gb, 1, none⟩ = some (.int .i64 th) ∧ w'.cell? ⟨gb, 2, none⟩ = some (.int .i64 k) ∧ w'.cell? ⟨gb, 3, none⟩ = some (.int .i64 r) ∧ w'.cell? ⟨gb, 4, none⟩ = some (.int .i64 b) ∧ w'.cell? ⟨gb, 5, none⟩ = some (.int .i64 c) ∧ w'.cell? ⟨gb, 6, none⟩ = some (.int .i64 d) ∧ w'.cell? ⟨gb, 7, none⟩ = some (.int .i64 v))
    (first
      | exact ⟨box_cell (by assumption) la ha0, box_cell (by assumption) la ha1, box_cell (by assumption) la ha2, box_cell (by assumption) la ha3, box_cell (by assumption) la ha4, box_cell (by assumption) la ha5, box_cell (by assumption) la ha6, box_cell (by assumption) la ha7, box_cell (by assumption) lb hb0, box_cell (by assumption) lb hb1, box_cell (by assumption) lb hb2, box_cell (by assumption) lb hb3, box_cell (by assumption) lb hb4, box_cell (by assumption) lb hb5, box_cell (by assumption) lb hb6, box_cell (by assumption) lb hb7⟩)
    (first
      | (go_at_call 56; refine (otherw _ _ _ _ _ _ _ _ _ k0 k1).mono ?_; rintro e w' ⟨rfl, hk⟩; have hq := box_then (by assumption) hN hk; clear hk))
  go_wp2_with fail
  rw [rounds_succ]
  go_wp2_with fail
  go_ret
  exact ⟨rfl, hq⟩
end Go.Proofs.Yteofbgbjibbdaac
