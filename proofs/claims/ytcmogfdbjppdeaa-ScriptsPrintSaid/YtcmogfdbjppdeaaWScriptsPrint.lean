/- ScriptsPrint: the bytes that say commands are the chapter's. -/
import Derived.Test.YtcmogfdbjppdeaaScWr
import Derived.Test.YtcmogfdbjppdeaaScPrR
import Derived.Test.YtcmogfdbjppdeaaScOpen
import Derived.Test.YtcmogfdbjppdeaaScLives
namespace Go.Proofs.Ytcmogfdbjppdeaa
open Go.RowKit
set_option linter.unusedVariables false

theorem rprintw (A : Option Addr) (c : Nat) (cs : List Cm) (w : World) (hn : cs.length ≤ 1048576) (hS : (sayAll cs).length ≤ 1000000) (hkd : ∀ x ∈ cs, 0 ≤ x.1 ∧ x.1 ≤ 255) (hc : cs.length ≤ c) (hcm : c ≤ maxLen) (h : RdC w w.heap.size .i64 A cs) :
    Calls Try.prog 14 #[.slice A cs.length c] w (PrintTo w cs) := by
  cases cs with
  | nil => exact print_noneR A c w
  | cons x r =>
    obtain ⟨g, off, rfl, _⟩ := h (by simp)
    exact print_someR g off c (x :: r) w hn hS hkd hc hcm h
/-- What is said of commands, or nothing. -/
def saidOf (cs : List Cm) : List UInt8 := if cs.all mayC = true then sayAll cs else []
theorem saidOf_le (cs : List Cm) : (saidOf cs).length ≤ (sayAll cs).length := by
  unfold saidOf; split <;> simp
theorem print_form {w w' : World} {cs : List Cm} {e : Ending} (h : PrintTo w cs e w') : ∃ v, e = .returned (.tuple #[v, .bool (cs.all mayC)]) ∧ Own w' w.heap.size 5 v (saidOf cs) ∧ Below w.heap.size w w' := by
  obtain ⟨⟨h1, v, rfl, hO⟩ | ⟨h1, rfl⟩, hb⟩ := h
  · refine ⟨v, by rw [h1], ?_, hb⟩
    unfold saidOf
    rw [if_pos h1]
    exact hO
  · refine ⟨.slice none 0 0, by rw [h1], ?_, hb⟩
    unfold saidOf
    rw [if_neg (by rw [h1]; simp)]
    exact .inl ⟨rfl, rfl⟩
theorem Wr.at_ {w : World} {B : Nat} {e : TypeId} {a : Option Addr} {n c m : Nat} (h : Wr w B e (.slice a n c) m) (hm : 0 < m) : ∃ g, a = some ⟨g, 0, none⟩ ∧ B ≤ g ∧ Blk w e g m := by
  obtain ⟨a', c', he, _, _, hh⟩ := h
  injection he with e1 e2 e3
  subst e1
  exact hh hm
set_option maxHeartbeats 8000000 in
set_option maxRecDepth 100000 in
theorem walk_ScriptsPrint (a0 : Option Addr) (l0 c0 : Nat) (w : World) (w0 : Reads Try.prog w 26 (.slice a0 l0 c0)) :
    Calls Try.prog 4 #[.slice a0 l0 c0] w fun e w' => e = .returned (.bool true) ∧ Below w.heap.size w w' := by
  obtain ⟨cs, rfl, hlc, hcm, hA0, hrd, hkd⟩ := open_cmds (P := Try.prog) Try.underlying26 (by kernel_rfl) (by kernel_rfl) Try.underlying22 (by kernel_rfl) (by kernel_rfl) w0
  have HRD := Lib.hid hrd
  have HKD := Lib.hid hkd
  have hcm' := hcm
  unfold maxLen at hcm'
  clear w0 hA0 hrd hkd
  go_enter Try.func4, Try.ntmps4
  go_wp2_with fail
  go_loopw [3, 4] (fun s i wr => ∃ (k sn : Nat), k ≤ cs.length ∧ k ≤ 201 ∧ i = .int .i64 k ∧ s = .int .i64 sn ∧ Hid (sn = sumM 30000 (cs.take k)) ∧ w = wr) (fun _ i _ => 201 - (intOf i).toNat)
  case atStart => exact ⟨0, 0, by omega, by omega, rfl, rfl, rfl, rfl⟩
  case round =>
    obtain ⟨k, sn, hk, hk2, rfl, rfl, hsn, rfl⟩ := hrel
    have hnx : Below w.heap.size w w := Below.refl _ _
    by_cases hlt : k < cs.length ∧ k ≤ 200
    · obtain ⟨hlt, hk3⟩ := hlt
      have hx := at_lt hlt
      obtain ⟨x, hxx⟩ : ∃ x, x = cs[k] := ⟨_, rfl⟩
      rw [← hxx] at hx
      have hsl : sn ≤ 6030000 := by
        have h1 := sumM_le 30000 (cs.take k)
        have h2 : (cs.take k).length ≤ 201 := by simp; omega
        have h3 := hsn.out
        have h4 : (cs.take k).length * 30000 ≤ 201 * 30000 := Nat.mul_le_mul_right _ h2
        omega
      obtain ⟨g, off, rfl, hat⟩ := HRD.out (by omega)
      obtain ⟨g1, f0, f1, xb, cb, f2, n1, n2, n3, n4⟩ := hat k x hx
      have HS := Lib.hid (sumM_take (M := 30000) hx)
      have n2' := n2
      unfold maxLen at n2'
      obtain ⟨kk, cn, bs⟩ := x
      simp only at f0 f1 f2 n1
      clear hat hxx hx n3 n4
      have hlt' : decide (k < cs.length) = true := decide_eq_true hlt
      rcases Nat.le_total bs.length 30000 with hm | hm
      · have hmin : min bs.length 30000 = bs.length := Nat.min_eq_left hm
        have hS2 : Hid (sn + bs.length = sumM 30000 (cs.take (k + 1))) := by show _ = _; rw [HS.out, hsn.out]; show _ + _ = _ + min bs.length 30000; rw [hmin]
        clear HS hmin
        go_wp2_with fail
        go_roundw
        case rel => exact ⟨k + 1, _, by omega, by omega, by go_num, by go_num, hS2, trivial⟩
        case measure => simp [intOf]; omega
      · have hmin : min bs.length 30000 = 30000 := Nat.min_eq_right hm
        have hS2 : Hid (sn + 30000 = sumM 30000 (cs.take (k + 1))) := by show _ = _; rw [HS.out, hsn.out]; show _ + _ = _ + min bs.length 30000; rw [hmin]
        clear HS hmin
        go_wp2_with fail
        go_roundw
        case rel => exact ⟨k + 1, _, by omega, by omega, by go_num, by go_num, hS2, trivial⟩
        case measure => simp [intOf]; omega
    · by_cases h200 : 200 < cs.length
      · have hd : decide (200 < (cs.length : Int)) = true := decide_eq_true (by omega)
        have hway : (¬ k < cs.length) ∨ (k < cs.length ∧ ¬ k ≤ 200) := by omega
        rcases hway with hw1 | ⟨hw1, hw2⟩
        · have hd1 : decide (k < cs.length) = false := decide_eq_false hw1
          go_wp2_with fail
          refine (lives33 _).mono ?_
          rintro e w2 ⟨rfl, hb2⟩
          go_wp2_with fail
          go_ret
          exact ⟨rfl, hnx.trans (hb2.mono hnx.size)⟩
        · have hd1 : decide (k < cs.length) = true := decide_eq_true hw1
          have hd2 : decide ((k : Int) ≤ 200) = false := decide_eq_false (by omega)
          go_wp2_with fail
          refine (lives33 _).mono ?_
          rintro e w2 ⟨rfl, hb2⟩
          go_wp2_with fail
          go_ret
          exact ⟨rfl, hnx.trans (hb2.mono hnx.size)⟩
      · have hkE : k = cs.length := by omega
        have htk : cs.take k = cs := by rw [hkE]; exact List.take_length
        have hsn' := hsn.out
        rw [htk] at hsn'
        have hd0 : decide (200 < (cs.length : Int)) = false := decide_eq_false (by omega)
        have hd1 : decide (k < cs.length) = false := decide_eq_false (by omega)
        have hn200 : cs.length ≤ 200 := by omega
        have HSN := Lib.hid hsn'
        clear hsn hsn' htk hkE h200 hlt
        by_cases hs2 : 20000 < sn
        · have hd2 : decide (20000 < (sn : Int)) = true := decide_eq_true (by omega)
          go_wp2_with fail
          refine (lives33 _).mono ?_
          rintro e w2 ⟨rfl, hb2⟩
          go_wp2_with fail
          go_ret
          exact ⟨rfl, hnx.trans (hb2.mono hnx.size)⟩
        · have hd2 : decide (20000 < (sn : Int)) = false := decide_eq_false (by omega)
          have hsmall := sumM_small (M := 30000) (S := 20000) (by omega) cs (by have := HSN.out; omega)
          have HSM := Lib.hid hsmall
          clear hsmall
          go_wp2_with fail
          refine (otherw a0 c0 cs _ (by omega) (fun x hx => by have := HSM.out.1 x hx; omega) HKD.out hlc hcm HRD.out).mono ?_
          rintro e w1 ⟨v1, rfl, hC1, hnx1⟩
          obtain ⟨a1, c1, rfl, k1, k2, _, k4⟩ := hC1.rd
          have K4 := Lib.hid k4
          clear hC1 k4 hnx
          go_wp2_with fail
          refine (printw a0 c0 cs _ (by omega) (by have := HSM.out.2; omega) HKD.out hlc hcm (HRD.out.on hnx1)).mono ?_
          rintro e w2 hP2
          obtain ⟨v2, rfl, hO2, hb2⟩ := print_form hP2
          obtain ⟨S, hS⟩ : ∃ S, S = saidOf cs := ⟨_, rfl⟩
          obtain ⟨ok, hok⟩ : ∃ ok, ok = cs.all mayC := ⟨_, rfl⟩
          have hSl : S.length ≤ 30000 := by rw [hS]; have := saidOf_le cs; have := HSM.out.2; omega
          have HS := Lib.hid hS
          have HOK := Lib.hid hok
          rw [← hS] at hO2
          rw [← hok]
          have hw2 : Hid (Wr w2 w1.heap.size 5 v2 S.length) := hO2.wr
          obtain ⟨a2, c2, rfl, m1, m2, _, m4⟩ := hO2.rdB
          have M4 := Lib.hid m4
          have HB2 := Lib.hid hb2
          have hnx2 := hnx1.trans (hb2.mono hnx1.size)
          have m2' := m2
          unfold maxLen at m2'
          clear hP2 hO2 hb2 m4 hS hok
          go_wp2_with fail
          refine (rprintw a1 c1 cs _ (by omega) (by have := HSM.out.2; omega) HKD.out k1 k2 (K4.out.on HB2.out)).mono ?_
          rintro e w3 hP3
          obtain ⟨v3, rfl, hO3, hb3⟩ := print_form hP3
          rw [← HS.out] at hO3
          rw [← HOK.out]
          obtain ⟨a3, c3, rfl, n1, n2, _, n4⟩ := hO3.rdB
          have hnx3 := hnx2.trans (hb3.mono hnx2.size)
          have hb13 := HB2.out.trans (hb3.mono HB2.out.size)
          have HB13 := Lib.hid hb13
          have HB3 := Lib.hid hb3
          have e1 := conv_by (P := Try.prog) w3 22 9 5 Try.underlying22 Try.underlying5 Try.underlying9 c2 (M4.out.on hb3)
          have e2 := conv_by (P := Try.prog) w3 22 9 5 Try.underlying22 Try.underlying5 Try.underlying9 c3 n4
          clear hP3 hO3 hb3 n4 hb13
          cases ok
          all_goals
            go_wp2_with fail
            refine (samew a0 a1 c0 c1 cs _ (by omega) HKD.out hlc hcm k1 k2 (HRD.out.on hnx3) (K4.out.on HB13.out)).mono ?_
            rintro e w4 ⟨rfl, hb4⟩
            have hnx4 := hnx3.trans (hb4.mono hnx3.size)
            have hb14 := HB13.out.trans (hb4.mono HB13.out.size)
            have HB14 := Lib.hid hb14
            have hb24 := HB3.out.trans (hb4.mono HB3.out.size)
            have HW4 : Hid (Wr w4 w1.heap.size 5 (.slice a2 S.length c2) S.length) := by
              obtain ⟨a, c, e1, e2, e3, e4⟩ := hw2.out
              refine ⟨a, c, e1, e2, e3, fun h0 => ?_⟩
              obtain ⟨g, x1, x2, cur, x3, x4⟩ := e4 h0
              exact ⟨g, x1, x2, cur, (hb24.block g (blk_lt x3)).trans x3, x4⟩
            clear hb4 hb14 hb24 e1 e2
            go_wp2_with fail
            go_loopw [10] (fun i wr => ∃ k : Nat, k ≤ S.length ∧ i = .int .i64 k ∧ Wr wr w1.heap.size 5 (.slice a2 S.length c2) S.length ∧ Below w1.heap.size w4 wr) (fun i _ => S.length - (intOf i).toNat)
            case atStart => exact ⟨0, by omega, rfl, HW4.out, Below.refl _ _⟩
            case round =>
              obtain ⟨k, hk, rfl, hwr, hkp⟩ := hrel
              by_cases hlt : k < S.length
              · obtain ⟨g, rfl, hBg, hblk⟩ := hwr.at_ (by omega)
                obtain ⟨u, hu⟩ := hblk.cell hlt
                have hfr := hblk.frozen k
                have hd : decide (k < S.length) = true := decide_eq_true hlt
                have HW := Lib.hid hwr
                have HBL := Lib.hid hblk
                clear hwr hblk
                go_wp2_with fail
                go_roundw
                case rel => exact ⟨k + 1, by omega, by go_num, HW.out.set HBL.out k _, hkp.setCell (p := ⟨g, k, none⟩) hBg _⟩
                case measure => simp [intOf]; omega
              · have hd : decide (k < S.length) = false := decide_eq_false hlt
                have hb15 := HB14.out.trans hkp
                have hnx5 := hnx4.trans (hkp.mono hnx1.size)
                have HB15 := Lib.hid hb15
                clear hwr hkp hb15
                go_wp2_with fail
                refine (samew a0 a1 c0 c1 cs _ (by omega) HKD.out hlc hcm k1 k2 (HRD.out.on hnx5) (K4.out.on HB15.out)).mono ?_
                rintro e w6 ⟨rfl, hb6⟩
                have hnx6 := hnx5.trans (hb6.mono hnx5.size)
                clear hb6
                go_wp2_with fail
                refine (lives33 _).mono ?_
                rintro e w7 ⟨rfl, hb7⟩
                go_wp2_with fail
                go_ret
                exact ⟨rfl, hnx6.trans (hb7.mono hnx6.size)⟩
end Go.Proofs.Ytcmogfdbjppdeaa
