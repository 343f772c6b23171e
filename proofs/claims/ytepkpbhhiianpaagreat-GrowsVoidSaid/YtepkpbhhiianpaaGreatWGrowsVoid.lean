/- The law GrowsVoid. -/
import Derived.Test.YtepkpbhhiianpaaGreatBg0
import Derived.Test.YtepkpbhhiianpaaGreatGPw
import Derived.Test.YtepkpbhhiianpaaGreatGv
import Derived.Test.YtepkpbhhiianpaaGreatGG4
import Derived.Test.YtepkpbhhiianpaaGreatOpen
import Derived.Deep.Cut
import Derived.Deep.CutBlock
import Derived.Deep.QuietTactic
import Derived.BigQuiet
namespace Go.Proofs.YtepkpbhhiianpaaGreat
open Go.RowKit Go.Maps
set_option linter.unusedVariables false
def vaF (q k : Nat) : Value := if k = 0 then .pointer none else .pointer (some ⟨q, 0, none⟩)
theorem belowNv {w : World} (n : Nat) : Below w.heap.size w (w.drewN n) := by
  induction n with
  | zero => exact Below.refl _ _
  | succ n ih => exact ih.drew
set_option maxHeartbeats 4000000 in
set_option maxRecDepth 100000 in
theorem walk_GrowsVoid (a0 : Int) (w : World) (w0 : (Lit.int .u64 a0).wf = true) :
    Calls Tryz.prog 5 #[.int .u64 a0] w fun e w' => e = .returned (.bool true) ∧ Below w.heap.size w w' := by
  have b1 := bounds_u64 w0
  have hU : isU a0 := ⟨b1.1, by omega⟩
  have C1 := Lib.hid (fun X => nwgG a0 X hU)
  have C2 := Lib.hid (fun X => nwgS a0 X hU)
  have C3 := Lib.hid (fun X => rnwG a0 X hU)
  have C4 := Lib.hid (fun X => rnwS a0 X hU)
  generalize govF a0 = gv at *
  generalize sovF a0 = sv at *
  clear w0 b1 hU
  go_enter Tryz.func5, Tryz.ntmps5
  go_wp2_with fail
  refine (begin0 _).mono ?_
  rintro e w1 ⟨A, R, S, T, rfl, hP, hST, hb1⟩
  have HP := Lib.hid hP
  have HB1 := Lib.hid hb1
  clear hP hST hb1
  go_upto_block 1 with fail
  obtain ⟨P, hPq⟩ : ∃ P, P = w1.heap.size := ⟨_, rfl⟩
  generalize hW2 : World.alloc w1 _ = W2
  generalize hW3 : World.alloc W2 _ = W3
  generalize hW4 : World.alloc W3 _ = W4
  generalize hW5 : World.alloc W4 _ = W5
  generalize hW6 : World.alloc W5 _ = W6
  have z2 : W2.heap.size = P + 1 := by rw [← hW2, hPq]; simp
  have z3 : W3.heap.size = P + 2 := by rw [← hW3]; simp [z2]
  have z4 : W4.heap.size = P + 3 := by rw [← hW4]; simp [z3]
  have z5 : W5.heap.size = P + 4 := by rw [← hW5]; simp [z4]
  have b2 : Below w1.heap.size w1 W2 := by rw [← hW2]; exact gw_bs (Below.refl _ _)
  have b3 : Below W2.heap.size W2 W3 := by rw [← hW3]; exact gw_bs (Below.refl _ _)
  have b4 : Below W3.heap.size W3 W4 := by rw [← hW4]; exact gw_bs (Below.refl _ _)
  have b5 : Below W4.heap.size W4 W5 := by rw [← hW5]; exact gw_bs (Below.refl _ _)
  have b6 : Below W5.heap.size W5 W6 := by rw [← hW6]; exact gw_bs (Below.refl _ _)
  have p0 : W2.cell? ⟨P, 0, none⟩ = some (.pointer (some ⟨A.p, 0, none⟩)) := by rw [← hW2]; exact new_at hPq rfl
  have p1 : W2.cell? ⟨P, 1, none⟩ = some (.pointer (some ⟨R.p, 0, none⟩)) := by rw [← hW2]; exact new_at hPq rfl
  have o3 : Ob W3 (P + 1) (gwC (.slice none 0 0) 0 0) := by rw [← hW3]; exact gw_at z2.symm rfl
  have a0 : W4.cell? ⟨P + 1 + 1, 0, none⟩ = some (.pointer none) := by rw [← hW4]; exact new_at z3.symm rfl
  have a1 : W4.cell? ⟨P + 1 + 1, 1, none⟩ = some (.pointer (some ⟨P + 1, 0, none⟩)) := by rw [← hW4, ← hPq]; exact new_at z3.symm rfl
  have o5 : Ob W5 (P + 1 + 1 + 1) (gwC (.slice none 0 0) 0 0) := by rw [← hW5]; exact gw_at z4.symm rfl
  have d0 : W6.cell? ⟨P + 1 + 1 + 1 + 1, 0, none⟩ = some (.pointer none) := by rw [← hW6]; exact new_at z5.symm rfl
  have d1 : W6.cell? ⟨P + 1 + 1 + 1 + 1, 1, none⟩ = some (.pointer (some ⟨P + 1 + 1 + 1, 0, none⟩)) := by rw [← hW6, ← hPq]; exact new_at z5.symm rfl
  rw [← hPq]
  obtain ⟨QS, hQS⟩ : ∃ Q, Q = P + 1 + 1 + 1 := ⟨_, rfl⟩
  obtain ⟨GA, hGA⟩ : ∃ Q, Q = P + 1 + 1 := ⟨_, rfl⟩
  obtain ⟨GB, hGB⟩ : ∃ Q, Q = P + 1 + 1 + 1 + 1 := ⟨_, rfl⟩
  rw [← hGB, ← hGA]
  have HX : Hid (∀ X, Below W6.heap.size W6 X → (X.cell? ⟨P, 0, none⟩ = some (.pointer (some ⟨A.p, 0, none⟩)) ∧ X.cell? ⟨P, 1, none⟩ = some (.pointer (some ⟨R.p, 0, none⟩)) ∧ Pw X A R V10 S T) ∧ ∀ k, k < 2 → X.cell? ⟨GA, k, none⟩ = some (vaF (P + 1) k) ∧ X.cell? ⟨GB, k, none⟩ = some (vaF QS k) ∧ OvG X (vaF (P + 1) k) ∧ OvG X (vaF QS k)) := Lib.hid (fun X hx => by
    have b56 := below_then b6 hx
    have b46 := below_then b5 b56
    have b36 := below_then b4 b46
    have b26 := below_then b3 b36
    have up2 : ∀ {b o v}, W2.cell? ⟨b, o, none⟩ = some v → X.cell? ⟨b, o, none⟩ = some v := fun {b o v} hc => (b26.cell (p := ⟨b, o, none⟩) (World.block_lt_of_cell? _ _ hc)).trans hc
    have up4 : ∀ {b o v}, W4.cell? ⟨b, o, none⟩ = some v → X.cell? ⟨b, o, none⟩ = some v := fun {b o v} hc => (b46.cell (p := ⟨b, o, none⟩) (World.block_lt_of_cell? _ _ hc)).trans hc
    have up6 : ∀ {b o v}, W6.cell? ⟨b, o, none⟩ = some v → X.cell? ⟨b, o, none⟩ = some v := fun {b o v} hc => (hx.cell (p := ⟨b, o, none⟩) (World.block_lt_of_cell? _ _ hc)).trans hc
    refine ⟨⟨up2 p0, up2 p1, HP.out.new (below_then b2 b26)⟩, fun k hk => ?_⟩
    rcases (by omega : k = 0 ∨ k = 1) with rfl | rfl
    · exact ⟨by rw [hGA]; exact up4 a0, by rw [hGB]; exact up6 d0, .inl rfl, .inl rfl⟩
    · exact ⟨by rw [hGA]; exact up4 a1, by rw [hGB, hQS]; exact up6 d1, .inr ⟨_, rfl, o3.new b36⟩, .inr ⟨_, rfl, by rw [hQS]; exact o5.new b56⟩⟩)
  have HB6 := Lib.hid (below_then (below_then (below_then (below_then (below_then HB1.out b2) b3) b4) b5) b6)
  clear hPq hW2 hW3 hW4 hW5 hW6 z2 z3 z4 z5 b2 b3 b4 b5 b6 p0 p1 o3 a0 a1 o5 d0 d1 hQS hGA hGB HP HB1
  generalize P + 1 = QG at *
  go_loopw [8] (fun i X => ∃ k : Nat, k ≤ 2 ∧ i = .int .i64 k ∧ Below W6.heap.size W6 X) (fun i _ => 2 - (intOf i).toNat)
  case atStart => exact ⟨0, by omega, rfl, Below.refl _ _⟩
  case round =>
    obtain ⟨k, hk, rfl, hb⟩ := hrel
    have HB := Lib.hid hb
    by_cases hlt : k < 2
    · obtain ⟨⟨s2, -, -⟩, hv⟩ := HX.out wr hb
      obtain ⟨s0, s1, -, -⟩ := hv k hlt
      have KO := Lib.hid (fun n => ((HX.out (wr.drewN n) (below_then hb (belowNv n))).2 k hlt).2.2)
      generalize vaF QG k = va at *
      generalize vaF QS k = vb at *
      have CO := Lib.hid (fun n => ovg_over (KO.out n).1)
      have CT := Lib.hid (fun n x => ovg_step (KO.out n).1 x)
      have DO := Lib.hid (fun n => ovs_over (KO.out n).2)
      have DT := Lib.hid (fun n x => ovs_step (KO.out n).2 x)
      have j0 : (0 : Int) ≤ (k : Int) := by omega
      have j1 : (k : Int) < 2 := by omega
      have HLT := Lib.hid hlt
      clear hv hb KO hk
      go_wp2_with fail
      go_quiet (first
        | (go_at_call 25; exact quiet_left (CO.out _))
        | (go_at_call 30; exact quiet_left (CT.out _ _))
        | (go_at_call 28; exact quiet_left (DO.out _))
        | (go_at_call 31; exact quiet_left (DT.out _ _)))
      clear s0 s1 s2
      go_wp2_with fail
      go_roundw
      case rel => exact ⟨k + 1, by have := HLT.out; omega, by go_num, below_then HB.out (belowNv _)⟩
      case measure => have := HLT.out; simp [intOf]; omega
    · obtain rfl : k = 2 := by omega
      clear hlt hk hb
      go_wp2_with fail
      refine (C1.out _).mono ?_
      rintro e w3 ⟨q1, l1a, l1, l1c, l1o, l1n, rfl, ho1, hl1, k3⟩
      have H1 := Lib.hid (And.intro ho1 hl1)
      have K3 := Lib.hid (below_then HB.out k3)
      clear ho1 hl1 k3 C1
      go_wp2_with fail
      refine (C2.out _).mono ?_
      rintro e w4 ⟨q2, l2a, l2, l2c, l2o, l2n, rfl, ho2, hl2, k4⟩
      have H2 := Lib.hid (And.intro ho2 hl2)
      have H1' := Lib.hid (And.intro (H1.out.1.new k4) H1.out.2)
      have K4 := Lib.hid (below_then K3.out k4)
      clear ho2 hl2 k4 C2 H1 K3
      go_wp2_with fail
      refine (C3.out _).mono ?_
      rintro e w5 ⟨q3, l3, rfl, c3, hl3, k5⟩
      have H1 := Lib.hid (And.intro (H1'.out.1.new k5) H1'.out.2)
      have H2' := Lib.hid (And.intro (H2.out.1.new k5) H2.out.2)
      have K5 := Lib.hid (below_then K4.out k5)
      clear k5 C3 H1' H2 K4
      go_wp2_with fail
      clear hl3 c3
      refine (C4.out _).mono ?_
      rintro e w6 ⟨q4, l4, rfl, c4, hl4, k6⟩
      have H1' := Lib.hid (And.intro (H1.out.1.new k6) H1.out.2)
      have H2 := Lib.hid (And.intro (H2'.out.1.new k6) H2'.out.2)
      have K6 := Lib.hid (below_then K5.out k6)
      clear k6 C4 H1 H2' K5
      have D1 := Lib.hid (gst_b H1'.out.1 H1'.out.2)
      have D2 := Lib.hid (gov_b H1'.out.1 H1'.out.2)
      have D3 := Lib.hid (sst_b H2.out.1 H2.out.2)
      have D4 := Lib.hid (sov_b H2.out.1 H2.out.2)
      have eg : (gv == gv) = true := by simp
      have es : (sv == sv) = true := by simp
      obtain ⟨⟨f0, f1, hpw⟩, -⟩ := HX.out w6 K6.out
      have CA := Lib.hid (pw_all hpw rfl (by decide) (by decide))
      clear hpw
      go_wp2_with (first
        | (go_at_call 30; ((with_reducible refine D1.out.mono ?_); rintro e w7 ⟨rfl, rfl⟩))
        | (go_at_call 25; ((with_reducible refine D2.out.mono ?_); rintro e w7 ⟨rfl, rfl⟩))
        | (go_at_call 31; ((with_reducible refine D3.out.mono ?_); rintro e w7 ⟨rfl, rfl⟩))
        | (go_at_call 28; ((with_reducible refine D4.out.mono ?_); rintro e w7 ⟨rfl, rfl⟩))
        | (go_at_call 21; ((with_reducible refine CA.out.mono ?_); rintro e w8 ⟨rfl, hk8⟩; have HK8 := Lib.hid (below_then K6.out hk8); clear hk8))
        | (go_at_call 22; refine (lives19 _).mono ?_; rintro e w9 ⟨rfl, hk9⟩; have HK9 := Lib.hid (below_then HK8.out hk9); clear hk9))
      go_ret
      exact ⟨rfl, below_then HB6.out HK9.out⟩
end Go.Proofs.YtepkpbhhiianpaaGreat
