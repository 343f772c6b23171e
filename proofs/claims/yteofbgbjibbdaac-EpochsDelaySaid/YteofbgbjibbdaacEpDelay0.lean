/- Law EpochsDelay, case by case. -/
import Derived.Test.YteofbgbjibbdaacEpLives
import Derived.Test.YteofbgbjibbdaacEpStored
import Derived.Test.YteofbgbjibbdaacEpTicks
import Derived.Deep.RegionHeld3
namespace Go.Proofs.Yteofbgbjibbdaac
open Go.RowKit
set_option linter.unusedVariables false
set_option maxHeartbeats 8000000 in
theorem delay_0a (z z0 z1 z2 o n d v l far D q r : Int) (p : Nat) (w : World) (l0 : 0 ≤ z) (u0 : z ≤ 4294967295) (l1 : 0 ≤ z0) (u1 : z0 ≤ 65535) (l2 : 0 ≤ z1) (u2 : z1 ≤ 65535) (l3 : 0 ≤ z2) (u3 : z2 ≤ 65535) (l4 : 0 ≤ o) (u4 : o ≤ 255)
   (hn : z % 1048576 = n) (hd : 1 + z0 % 200 = d) (hp : z1 % 300 = (p : Int)) (ho : o % 3 = 0) (n1 : 0 ≤ n) (n2 : n < 1048576) (d1 : 1 ≤ d) (d2 : d ≤ 200) (p2 : p < 300) (c : q < D) (c2 : D ≤ r) (q1 : 0 ≤ q) (q2 : q < 2000000) (D1 : 0 ≤ D) (D2 : D < 2000000)
   (F : flushf (putf n 0 3) d = v) (F' : flushes (putf n 0 3) = true) (R1 : 0 ≤ v) (R2 : v < 18446744073709551616) (dv : diesf v 0 = -1) (gv : genf v = 3) (al : alivef 3 (-1) v = true) (hD : n + d = D) (hq : n + (p : Int) = q) (hr : q + 300 = r) (av : atf v = D)
   (L : ticks v p = l) (R3 : 0 ≤ l) (R4 : l < 18446744073709551616) (nl : nowf l = q) (al2 : alivef 3 (-1) l = true) (gl : genf l = 3) (dl : diesf l 0 = -1) (L2 : ticks l 300 = far) (R5 : 0 ≤ far) (R6 : far < 18446744073709551616) (af : alivef 3 (-1) far = false) :
    Calls Try.prog 4 #[.int .u32 z, .agg #[.int .u16 z0, .int .u16 z1, .int .u16 z2], .int .u8 o] w fun e w' => e = .returned (.bool true) ∧ Below w.heap.size w w' := by
  go_enter Try.func4, Try.ntmps4
  go_wp2_with (go_at_call 19; refine (putw _ _ _ _).mono ?_; rintro e w' ⟨rfl, rfl⟩)
  refine (flushw _ _ _ (putf_range _ _ _).1 (putf_range _ _ _).2).mono ?_
  rintro e w1 ⟨rfl, hb1⟩
  go_wp2_with fail
  refine (storedw v 0 _ R1 R2 (by decide)).mono ?_
  rintro e w2 ⟨rfl, hb2⟩
  go_wp2_with fail
  refine (alivew _ _ _ _ _ _ _ _ R1 R2).mono ?_
  rintro e w3 ⟨rfl, hb3⟩
  go_wp2_with fail
  refine (atw v _ R1 R2).mono ?_
  rintro e w4 ⟨rfl, hb4⟩
  go_wp2_with fail
  refine (laterw v p _ R1 R2 (by omega)).mono ?_
  rintro e w5 ⟨rfl, hb5⟩
  go_wp2_with fail
  refine (noww l _ R3 R4).mono ?_
  rintro e w6 ⟨rfl, hb6⟩
  have hB := box_then (box_then (box_then hb3 (Nat.le_refl _) hb4) (Nat.le_refl _) hb5) (Nat.le_refl _) hb6
  clear hb3 hb4 hb5 hb6
  have c0 : w6.cell? ⟨w2.heap.size, 0, none⟩ = some (.string ⟨#[]⟩) := (hB.cell (p := ⟨w2.heap.size, 0, none⟩) (by simp)).trans (by simp)
  have c1 : w6.cell? ⟨w2.heap.size, 1, none⟩ = some (.string ⟨#[]⟩) := (hB.cell (p := ⟨w2.heap.size, 1, none⟩) (by simp)).trans (by simp)
  have c2 : w6.cell? ⟨w2.heap.size, 2, none⟩ = some (.int .u32 0) := (hB.cell (p := ⟨w2.heap.size, 2, none⟩) (by simp)).trans (by simp)
  have c3 : w6.cell? ⟨w2.heap.size, 3, none⟩ = some (.int .u64 0) := (hB.cell (p := ⟨w2.heap.size, 3, none⟩) (by simp)).trans (by simp)
  have c4 : w6.cell? ⟨w2.heap.size, 4, none⟩ = some (.int .i64 (-1)) := (hB.cell (p := ⟨w2.heap.size, 4, none⟩) (by simp)).trans (by simp)
  have c5 : w6.cell? ⟨w2.heap.size, 5, none⟩ = some (.int .i64 3) := (hB.cell (p := ⟨w2.heap.size, 5, none⟩) (by simp)).trans (by simp)
  go_wp2_with fail
  refine (alivew _ _ _ _ _ _ _ _ R3 R4).mono ?_
  rintro e w7 ⟨rfl, hb7⟩
  go_wp2_with fail
  refine (storedw l 0 _ R3 R4 (by decide)).mono ?_
  rintro e w8 ⟨rfl, hb8⟩
  go_wp2_with fail
  refine (laterw l 300 _ R3 R4 (by decide)).mono ?_
  rintro e w9 ⟨rfl, hb9⟩
  have hC := hb9
  have d0 : w9.cell? ⟨w8.heap.size, 0, none⟩ = some (.string ⟨#[]⟩) := (hC.cell (p := ⟨w8.heap.size, 0, none⟩) (by simp)).trans (by simp)
  have d1 : w9.cell? ⟨w8.heap.size, 1, none⟩ = some (.string ⟨#[]⟩) := (hC.cell (p := ⟨w8.heap.size, 1, none⟩) (by simp)).trans (by simp)
  have d2 : w9.cell? ⟨w8.heap.size, 2, none⟩ = some (.int .u32 0) := (hC.cell (p := ⟨w8.heap.size, 2, none⟩) (by simp)).trans (by simp)
  have d3 : w9.cell? ⟨w8.heap.size, 3, none⟩ = some (.int .u64 0) := (hC.cell (p := ⟨w8.heap.size, 3, none⟩) (by simp)).trans (by simp)
  have d4 : w9.cell? ⟨w8.heap.size, 4, none⟩ = some (.int .i64 (-1)) := (hC.cell (p := ⟨w8.heap.size, 4, none⟩) (by simp)).trans (by simp)
  have d5 : w9.cell? ⟨w8.heap.size, 5, none⟩ = some (.int .i64 3) := (hC.cell (p := ⟨w8.heap.size, 5, none⟩) (by simp)).trans (by simp)
  go_wp2_with fail
  refine (alivew _ _ _ _ _ _ _ _ R5 R6).mono ?_
  rintro e w10 ⟨rfl, hb10⟩
  go_wp2_with (go_at_call 18; refine (lives07 _).mono ?_; rintro e w11 ⟨rfl, hb11⟩)
  go_ret
  exact ⟨ret_bool (by first | rfl | (simp; omega)), below_then (box_out (by simp) hb1) (below_then hb2 (below_then (box_out (by simp) hB) (below_then hb7 (below_then hb8 (below_then (box_out (by simp) hb9) (below_then hb10 hb11))))))⟩
set_option maxHeartbeats 8000000 in
theorem delay_0b (z z0 z1 z2 o n d v l far D q r : Int) (p : Nat) (w : World) (l0 : 0 ≤ z) (u0 : z ≤ 4294967295) (l1 : 0 ≤ z0) (u1 : z0 ≤ 65535) (l2 : 0 ≤ z1) (u2 : z1 ≤ 65535) (l3 : 0 ≤ z2) (u3 : z2 ≤ 65535) (l4 : 0 ≤ o) (u4 : o ≤ 255)
   (hn : z % 1048576 = n) (hd : 1 + z0 % 200 = d) (hp : z1 % 300 = (p : Int)) (ho : o % 3 = 0) (n1 : 0 ≤ n) (n2 : n < 1048576) (d1 : 1 ≤ d) (d2 : d ≤ 200) (p2 : p < 300) (c : D ≤ q) (T1 : decide (q < D) = false) (T2 : decide (D ≤ q) = true) (q1 : 0 ≤ q) (q2 : q < 2000000) (D1 : 0 ≤ D) (D2 : D < 2000000)
   (F : flushf (putf n 0 3) d = v) (F' : flushes (putf n 0 3) = true) (R1 : 0 ≤ v) (R2 : v < 18446744073709551616) (dv : diesf v 0 = -1) (gv : genf v = 3) (al : alivef 3 (-1) v = true) (hD : n + d = D) (hq : n + (p : Int) = q) (hr : q + 300 = r) (av : atf v = D)
   (L : ticks v p = l) (R3 : 0 ≤ l) (R4 : l < 18446744073709551616) (nl : nowf l = q) (al2 : alivef 3 (-1) l = false) (gl : genf l = 4) (dl : diesf l 0 = -1) (L2 : ticks l 300 = far) (R5 : 0 ≤ far) (R6 : far < 18446744073709551616) (af : alivef 4 (-1) far = true) :
    Calls Try.prog 4 #[.int .u32 z, .agg #[.int .u16 z0, .int .u16 z1, .int .u16 z2], .int .u8 o] w fun e w' => e = .returned (.bool true) ∧ Below w.heap.size w w' := by
  go_enter Try.func4, Try.ntmps4
  go_wp2_with (go_at_call 19; refine (putw _ _ _ _).mono ?_; rintro e w' ⟨rfl, rfl⟩)
  refine (flushw _ _ _ (putf_range _ _ _).1 (putf_range _ _ _).2).mono ?_
  rintro e w1 ⟨rfl, hb1⟩
  go_wp2_with fail
  refine (storedw v 0 _ R1 R2 (by decide)).mono ?_
  rintro e w2 ⟨rfl, hb2⟩
  go_wp2_with fail
  refine (alivew _ _ _ _ _ _ _ _ R1 R2).mono ?_
  rintro e w3 ⟨rfl, hb3⟩
  go_wp2_with fail
  refine (atw v _ R1 R2).mono ?_
  rintro e w4 ⟨rfl, hb4⟩
  go_wp2_with fail
  refine (laterw v p _ R1 R2 (by omega)).mono ?_
  rintro e w5 ⟨rfl, hb5⟩
  go_wp2_with fail
  refine (noww l _ R3 R4).mono ?_
  rintro e w6 ⟨rfl, hb6⟩
  have hB := box_then (box_then (box_then hb3 (Nat.le_refl _) hb4) (Nat.le_refl _) hb5) (Nat.le_refl _) hb6
  clear hb3 hb4 hb5 hb6
  have c0 : w6.cell? ⟨w2.heap.size, 0, none⟩ = some (.string ⟨#[]⟩) := (hB.cell (p := ⟨w2.heap.size, 0, none⟩) (by simp)).trans (by simp)
  have c1 : w6.cell? ⟨w2.heap.size, 1, none⟩ = some (.string ⟨#[]⟩) := (hB.cell (p := ⟨w2.heap.size, 1, none⟩) (by simp)).trans (by simp)
  have c2 : w6.cell? ⟨w2.heap.size, 2, none⟩ = some (.int .u32 0) := (hB.cell (p := ⟨w2.heap.size, 2, none⟩) (by simp)).trans (by simp)
  have c3 : w6.cell? ⟨w2.heap.size, 3, none⟩ = some (.int .u64 0) := (hB.cell (p := ⟨w2.heap.size, 3, none⟩) (by simp)).trans (by simp)
  have c4 : w6.cell? ⟨w2.heap.size, 4, none⟩ = some (.int .i64 (-1)) := (hB.cell (p := ⟨w2.heap.size, 4, none⟩) (by simp)).trans (by simp)
  have c5 : w6.cell? ⟨w2.heap.size, 5, none⟩ = some (.int .i64 3) := (hB.cell (p := ⟨w2.heap.size, 5, none⟩) (by simp)).trans (by simp)
  go_wp2_with fail
  refine (alivew _ _ _ _ _ _ _ _ R3 R4).mono ?_
  rintro e w7 ⟨rfl, hb7⟩
  go_wp2_with fail
  refine (storedw l 0 _ R3 R4 (by decide)).mono ?_
  rintro e w8 ⟨rfl, hb8⟩
  go_wp2_with fail
  refine (laterw l 300 _ R3 R4 (by decide)).mono ?_
  rintro e w9 ⟨rfl, hb9⟩
  have hC := hb9
  have d0 : w9.cell? ⟨w8.heap.size, 0, none⟩ = some (.string ⟨#[]⟩) := (hC.cell (p := ⟨w8.heap.size, 0, none⟩) (by simp)).trans (by simp)
  have d1 : w9.cell? ⟨w8.heap.size, 1, none⟩ = some (.string ⟨#[]⟩) := (hC.cell (p := ⟨w8.heap.size, 1, none⟩) (by simp)).trans (by simp)
  have d2 : w9.cell? ⟨w8.heap.size, 2, none⟩ = some (.int .u32 0) := (hC.cell (p := ⟨w8.heap.size, 2, none⟩) (by simp)).trans (by simp)
  have d3 : w9.cell? ⟨w8.heap.size, 3, none⟩ = some (.int .u64 0) := (hC.cell (p := ⟨w8.heap.size, 3, none⟩) (by simp)).trans (by simp)
  have d4 : w9.cell? ⟨w8.heap.size, 4, none⟩ = some (.int .i64 (-1)) := (hC.cell (p := ⟨w8.heap.size, 4, none⟩) (by simp)).trans (by simp)
  have d5 : w9.cell? ⟨w8.heap.size, 5, none⟩ = some (.int .i64 4) := (hC.cell (p := ⟨w8.heap.size, 5, none⟩) (by simp)).trans (by simp)
  go_wp2_with fail
  refine (alivew _ _ _ _ _ _ _ _ R5 R6).mono ?_
  rintro e w10 ⟨rfl, hb10⟩
  go_wp2_with (go_at_call 18; refine (lives07 _).mono ?_; rintro e w11 ⟨rfl, hb11⟩)
  go_ret
  exact ⟨ret_bool (by first | rfl | (simp; omega)), below_then (box_out (by simp) hb1) (below_then hb2 (below_then (box_out (by simp) hB) (below_then hb7 (below_then hb8 (below_then (box_out (by simp) hb9) (below_then hb10 hb11))))))⟩
end Go.Proofs.Yteofbgbjibbdaac
