/- ScriptsBack: what is printed is parsed as it was. -/
import Derived.Test.YtcmogfdbjppdeaaScSum
import Derived.Test.YtcmogfdbjppdeaaScOpen
import Derived.Test.YtcmogfdbjppdeaaScLives
namespace Go.Proofs.Ytcmogfdbjppdeaa
open Go.RowKit
set_option linter.unusedVariables false

set_option maxHeartbeats 8000000 in
set_option maxRecDepth 100000 in
theorem walk_ScriptsBack (a0 : Option Addr) (l0 c0 : Nat) (a1 : Option Addr) (l1 c1 : Nat) (w : World) (w0 : Reads Try.prog w 26 (.slice a0 l0 c0)) (w1 : Reads Try.prog w 22 (.slice a1 l1 c1)) :
    Calls Try.prog 5 #[.slice a0 l0 c0, .slice a1 l1 c1] w fun e w' => e = .returned (.bool true) ∧ Below w.heap.size w w' := by
  obtain ⟨cs, rfl, hlc, hcm, hA0, hrd, hkd⟩ := open_cmds (P := Try.prog) Try.underlying26 (by kernel_rfl) (by kernel_rfl) Try.underlying22 (by kernel_rfl) (by kernel_rfl) w0
  obtain ⟨L, rfl, hLc, hLm, hA1, hrL⟩ := open_by (P := Try.prog) Try.underlying22 (by kernel_rfl) (by kernel_rfl) w1
  have HA0 := Lib.hid hA0
  have HRD := Lib.hid hrd
  have HKD := Lib.hid hkd
  have HA1 := Lib.hid hA1
  have HRL := Lib.hid hrL
  have hcm' := hcm
  have hLm' := hLm
  unfold maxLen at hcm' hLm'
  clear w0 w1 hA0 hrd hkd hA1 hrL
  go_enter Try.func5, Try.ntmps5
  go_wp2_with fail
  go_loopw [5, 6, 7] (fun s al i wr => ∃ (k sn : Nat) (ab : Bool), k ≤ cs.length ∧ k ≤ 201 ∧ i = .int .i64 k ∧ s = .int .i64 sn ∧ al = .bool ab ∧ Hid (sn = sumM 30000 (cs.take k)) ∧ Hid (ab = (cs.take k).all mayC) ∧ Below w.heap.size w wr) (fun _ _ i _ => 201 - (intOf i).toNat)
  case atStart => exact ⟨0, 0, true, by omega, by omega, rfl, rfl, rfl, rfl, rfl, Below.refl _ _⟩
  case round =>
    obtain ⟨k, sn, ab, hk, hk2, rfl, rfl, rfl, hsn, hab, hnx⟩ := hrel
    have hsz := hnx.size
    by_cases hlt : k < cs.length ∧ k ≤ 200
    · obtain ⟨hlt, hk3⟩ := hlt
      have hx := at_lt hlt
      obtain ⟨x, hxx⟩ : ∃ x, x = cs[k] := ⟨_, rfl⟩
      rw [← hxx] at hx
      have hsl : sn ≤ 6030000 := by
        have h1 := sumM_le 30000 (cs.take k)
        have h2 : (cs.take k).length ≤ 201 := by simp; omega
        have h3 := hsn.out
        have h4 : (cs.take k).length * 30000 ≤ 201 * 30000 := Nat.mul_le_mul_right _ h2
        omega
      obtain ⟨g, off, rfl, hat⟩ := (HRD.out.on hnx) (by omega)
      obtain ⟨g1, f0, f1, xb, cb, f2, n1, n2, n3, n4⟩ := hat k x hx
      have hkx := HKD.out x (List.mem_of_getElem? hx)
      have HS := Lib.hid (sumM_take (M := 30000) hx)
      have HAB := Lib.hid (all_take hx)
      have HM := Lib.hid (fun W => mayw x xb cb W n1 n2 hkx)
      have n2' := n2
      unfold maxLen at n2'
      obtain ⟨kk, cn, bs⟩ := x
      simp only at f0 f1 f2 n1
      clear hat hxx hx n3 n4 hkx
      have hlt' : decide (k < cs.length) = true := decide_eq_true hlt
      rcases Nat.le_total bs.length 30000 with hm | hm
      · have hmin : min bs.length 30000 = bs.length := Nat.min_eq_left hm
        have hS2 : Hid (sn + bs.length = sumM 30000 (cs.take (k + 1))) := by show _ = _; rw [HS.out, hsn.out]; show _ + _ = _ + min bs.length 30000; rw [hmin]
        clear HS hmin
        cases ab with
        | true =>
          go_wp2_with (first | (go_at_call 15; refine (HM.out _).mono ?_; rintro e w2 ⟨rfl, hb2⟩))
          go_roundw
          case rel => exact ⟨k + 1, _, _, by omega, by omega, by go_num, by go_num, rfl, hS2, by show _ = _; rw [HAB.out, ← hab.out]; rfl, hnx.trans (hb2.mono hnx.size)⟩
          case measure => simp [intOf]; omega
        | false =>
          go_wp2_with fail
          go_roundw
          case rel => exact ⟨k + 1, _, _, by omega, by omega, by go_num, by go_num, rfl, hS2, by show _ = _; rw [HAB.out, ← hab.out]; rfl, hnx⟩
          case measure => simp [intOf]; omega
      · have hmin : min bs.length 30000 = 30000 := Nat.min_eq_right hm
        have hS2 : Hid (sn + 30000 = sumM 30000 (cs.take (k + 1))) := by show _ = _; rw [HS.out, hsn.out]; show _ + _ = _ + min bs.length 30000; rw [hmin]
        clear HS hmin
        cases ab with
        | true =>
          go_wp2_with (first | (go_at_call 15; refine (HM.out _).mono ?_; rintro e w2 ⟨rfl, hb2⟩))
          go_roundw
          case rel => exact ⟨k + 1, _, _, by omega, by omega, by go_num, by go_num, rfl, hS2, by show _ = _; rw [HAB.out, ← hab.out]; rfl, hnx.trans (hb2.mono hnx.size)⟩
          case measure => simp [intOf]; omega
        | false =>
          go_wp2_with fail
          go_roundw
          case rel => exact ⟨k + 1, _, _, by omega, by omega, by go_num, by go_num, rfl, hS2, by show _ = _; rw [HAB.out, ← hab.out]; rfl, hnx⟩
          case measure => simp [intOf]; omega
    · by_cases h200 : 200 < cs.length
      · have hd : decide (200 < (cs.length : Int)) = true := decide_eq_true (by omega)
        have hway : (¬ k < cs.length) ∨ (k < cs.length ∧ ¬ k ≤ 200) := by omega
        rcases hway with hw1 | ⟨hw1, hw2⟩
        · have hd1 : decide (k < cs.length) = false := decide_eq_false hw1
          go_wp2_with fail
          refine (lives33 _).mono ?_
          rintro e w2 ⟨rfl, hb2⟩
          go_wp2_with fail
          go_ret
          exact ⟨rfl, hnx.trans (hb2.mono hnx.size)⟩
        · have hd1 : decide (k < cs.length) = true := decide_eq_true hw1
          have hd2 : decide ((k : Int) ≤ 200) = false := decide_eq_false (by omega)
          go_wp2_with fail
          refine (lives33 _).mono ?_
          rintro e w2 ⟨rfl, hb2⟩
          go_wp2_with fail
          go_ret
          exact ⟨rfl, hnx.trans (hb2.mono hnx.size)⟩
      · have hkE : k = cs.length := by omega
        have htk : cs.take k = cs := by rw [hkE]; exact List.take_length
        have hsn' := hsn.out
        have hab' := hab.out
        rw [htk] at hsn' hab'
        have hd0 : decide (200 < (cs.length : Int)) = false := decide_eq_false (by omega)
        have hd1 : decide (k < cs.length) = false := decide_eq_false (by omega)
        have hn200 : cs.length ≤ 200 := by omega
        have HSN := Lib.hid hsn'
        have HAB := Lib.hid hab'
        clear hsn hab hsn' hab' htk hkE h200 hlt
        by_cases hs2 : 20000 < sn
        · have hd2 : decide (20000 < (sn : Int)) = true := decide_eq_true (by omega)
          go_wp2_with fail
          refine (lives33 _).mono ?_
          rintro e w2 ⟨rfl, hb2⟩
          go_wp2_with fail
          go_ret
          exact ⟨rfl, hnx.trans (hb2.mono hnx.size)⟩
        · have hd2 : decide (20000 < (sn : Int)) = false := decide_eq_false (by omega)
          by_cases hl : 5000 < L.length
          · have hd3 : decide (5000 < (L.length : Int)) = true := decide_eq_true (by omega)
            go_wp2_with fail
            refine (lives33 _).mono ?_
            rintro e w2 ⟨rfl, hb2⟩
            go_wp2_with fail
            go_ret
            exact ⟨rfl, hnx.trans (hb2.mono hnx.size)⟩
          · have hd3 : decide (5000 < (L.length : Int)) = false := decide_eq_false (by omega)
            have hsmall := sumM_small (M := 30000) (S := 20000) (by omega) cs (by have := HSN.out; omega)
            have HSM := Lib.hid hsmall
            clear hsmall
            have hnx1 := hnx
            cases ab with
            | true =>
              have HALL : Hid (∀ x ∈ cs, mayC x = true) := by
                have := HAB.out
                intro x hx
                exact List.all_eq_true.mp this.symm x hx
              go_wp2_with fail
              refine (printw a0 c0 cs _ (by omega) (by have := HSM.out.2; omega) HKD.out hlc hcm (HRD.out.on hnx)).mono ?_
              rintro e w2 ⟨⟨_, v2, rfl, hO2⟩ | ⟨hno, _⟩, hb2⟩
              · obtain ⟨a2, c2, rfl, i1, i2, i3, i4⟩ := hO2.rdB
                have hPS : Hid (parse (sayAll cs) = cs) := by
                  show _ = _
                  have := parse_say cs HALL.out []
                  rw [List.append_nil, parse_nil, List.append_nil] at this
                  exact this
                obtain ⟨S, hS⟩ : ∃ S, S = sayAll cs := ⟨_, rfl⟩
                rw [← hS] at hPS i1 i4 ⊢
                have hSl : S.length ≤ 1000000 := by have := HSM.out.2; rw [hS]; omega
                have hnx2 := hnx.trans (hb2.mono hnx.size)
                clear hO2 hb2 hS
                go_wp2_with fail
                refine (parsew a2 c2 S _ (by omega) i1 i2 i3 i4).mono ?_
                rintro e w3 ⟨v3, rfl, hC3, hb3⟩
                rw [hPS.out] at hC3
                obtain ⟨a3, c3, rfl, j1, j2, _, j4⟩ := hC3.rd
                have hnx3 := hnx2.trans (hb3.mono hnx2.size)
                clear hC3 hb3 i4
                go_wp2_with fail
                refine (alikew a3 a0 c3 c0 cs _ (by omega) (fun x hx => by have := HSM.out.1 x hx; omega) HKD.out j1 j2 hlc hcm j4 (HRD.out.on hnx3)).mono ?_
                rintro e w4 ⟨rfl, hb4⟩
                have hnx4 := hnx3.trans (hb4.mono hnx3.size)
                clear hb4 j4 hnx1 hnx2 hnx3
                go_wp2_with fail
                refine (parsew a1 c1 L _ (by omega) hLc hLm HA1.out (HRL.out.on hnx4)).mono ?_
                rintro e w5 ⟨v5, rfl, hC5, hb5⟩
                have hnx5 := hnx4.trans (hb5.mono hnx4.size)
                obtain ⟨M, hM⟩ : ∃ M, M = parse L := ⟨_, rfl⟩
                rw [← hM] at hC5
                obtain ⟨a5, c5, rfl, k1, k2, k3, k4⟩ := hC5.rd
                have hMm : Hid (∀ x ∈ M, mayC x = true) := by rw [hM]; exact parse_may L
                have hMl : M.length ≤ L.length := by rw [hM]; exact parse_len L
                have hMs : (sayAll M).length ≤ L.length + 1 := by
                  rw [hM, sayAll_used _ (parse_may L)]
                  rcases used_parse L with h | ⟨h, _⟩ <;> omega
                have hMk : Hid (∀ x ∈ M, 0 ≤ x.1 ∧ x.1 ≤ 255) := fun x hx => kind_le x (hMm.out x hx)
                have hMb : Hid (∀ x ∈ M, x.2.2.length ≤ 255) := fun x hx => bytes_le x (hMm.out x hx)
                have hPM : Hid (parse (sayAll M) = M) := by
                  show _ = _
                  have := parse_say M hMm.out []
                  rw [List.append_nil, parse_nil, List.append_nil] at this
                  exact this
                have K4 := Lib.hid k4
                have k2' := k2
                unfold maxLen at k2'
                clear hC5 hb5 hM hnx4 k4
                go_wp2_with fail
                go_loopw [11] (fun i wq => ∃ q : Nat, q ≤ M.length ∧ i = .int .i64 q ∧ Below w5.heap.size w5 wq) (fun i _ => M.length - (intOf i).toNat)
                case atStart => exact ⟨0, by omega, rfl, Below.refl _ _⟩
                case round =>
                  obtain ⟨q, hq, rfl, hbq⟩ := hrel
                  by_cases hqt : q < M.length
                  · have hx := at_lt hqt
                    obtain ⟨x, hxx⟩ : ∃ x, x = M[q] := ⟨_, rfl⟩
                    rw [← hxx] at hx
                    obtain ⟨g, off, rfl, hat⟩ := (K4.out.on hbq) (by omega)
                    obtain ⟨g1, f0, f1, xb, cb, f2, n1, n2, n3, n4⟩ := hat q x hx
                    have hkx := hMk.out x (List.mem_of_getElem? hx)
                    have hmx := hMm.out x (List.mem_of_getElem? hx)
                    have HM := Lib.hid (fun W => mayw x xb cb W n1 n2 hkx)
                    rw [hmx] at HM
                    obtain ⟨kk, cn, bs⟩ := x
                    simp only at f0 f1 f2 n1
                    clear hat hxx hx n3 n4 hkx hmx
                    go_wp2_with (first | (go_at_call 15; refine (HM.out _).mono ?_; rintro e w6 ⟨rfl, hb6⟩))
                    go_roundw
                    case rel => exact ⟨q + 1, by omega, by go_num, hbq.trans (hb6.mono hbq.size)⟩
                    case measure => simp [intOf]; omega
                  · have hd5 : decide (q < M.length) = false := decide_eq_false hqt
                    have hnx6 := hnx5.trans (hbq.mono hnx5.size)
                    go_wp2_with fail
                    refine (printw a5 c5 M _ (by omega) (by omega) hMk.out k1 k2 (K4.out.on hbq)).mono ?_
                    rintro e w7 ⟨⟨_, v7, rfl, hO7⟩ | ⟨hno, _⟩, hb7⟩
                    · obtain ⟨a7, c7, rfl, m1, m2, m3, m4⟩ := hO7.rdB
                      obtain ⟨S7, hS7⟩ : ∃ S7, S7 = sayAll M := ⟨_, rfl⟩
                      rw [← hS7] at hPM hMs m1 m4 ⊢
                      have hnx7 := hnx6.trans (hb7.mono hnx6.size)
                      have hbq7 := hbq.trans (hb7.mono hbq.size)
                      have hd6 : decide (M.length ≤ L.length) = true := decide_eq_true hMl
                      have hd7 : decide ((S7.length : Int) ≤ (L.length : Int) + 1) = true := decide_eq_true (by omega)
                      have hd8 : (S7.length : Int) ≤ (L.length : Int) + 1 := by omega
                      clear hO7 hb7 hS7 hbq hnx6
                      go_wp2_with fail
                      refine (parsew a7 c7 S7 _ (by omega) m1 m2 m3 m4).mono ?_
                      rintro e w8 ⟨v8, rfl, hC8, hb8⟩
                      rw [hPM.out] at hC8
                      obtain ⟨a8, c8, rfl, p1, p2, _, p4⟩ := hC8.rd
                      have hnx8 := hnx7.trans (hb8.mono hnx7.size)
                      have hbq8 := hbq7.trans (hb8.mono hbq7.size)
                      clear hC8 hb8 m4 hbq7 hnx7
                      go_wp2_with fail
                      refine (alikew a8 a5 c8 c5 M _ (by omega) (fun x hx => by have := hMb.out x hx; omega) hMk.out p1 p2 k1 k2 p4 (K4.out.on hbq8)).mono ?_
                      rintro e w9 ⟨rfl, hb9⟩
                      have hnx9 := hnx8.trans (hb9.mono hnx8.size)
                      clear hb9 p4 hbq8 hnx8
                      go_wp2_with fail
                      refine (lives33 _).mono ?_
                      rintro e w10 ⟨rfl, hb10⟩
                      go_wp2_with fail
                      go_ret
                      exact ⟨rfl, hnx9.trans (hb10.mono hnx9.size)⟩
                    · exact absurd hno (by rw [List.all_eq_true.mpr hMm.out]; simp)
              · exact absurd hno (by rw [← HAB.out]; simp)
            | false =>
              go_wp2_with fail
              refine (printw a0 c0 cs _ (by omega) (by have := HSM.out.2; omega) HKD.out hlc hcm (HRD.out.on hnx)).mono ?_
              rintro e w2 ⟨⟨hno, _⟩ | ⟨_, rfl⟩, hb2⟩
              · exact absurd hno (by rw [← HAB.out]; simp)
              · have hnx4 := hnx.trans (hb2.mono hnx.size)
                clear hb2
                go_wp2_with fail
                refine (parsew a1 c1 L _ (by omega) hLc hLm HA1.out (HRL.out.on hnx4)).mono ?_
                rintro e w5 ⟨v5, rfl, hC5, hb5⟩
                have hnx5 := hnx4.trans (hb5.mono hnx4.size)
                obtain ⟨M, hM⟩ : ∃ M, M = parse L := ⟨_, rfl⟩
                rw [← hM] at hC5
                obtain ⟨a5, c5, rfl, k1, k2, k3, k4⟩ := hC5.rd
                have hMm : Hid (∀ x ∈ M, mayC x = true) := by rw [hM]; exact parse_may L
                have hMl : M.length ≤ L.length := by rw [hM]; exact parse_len L
                have hMs : (sayAll M).length ≤ L.length + 1 := by
                  rw [hM, sayAll_used _ (parse_may L)]
                  rcases used_parse L with h | ⟨h, _⟩ <;> omega
                have hMk : Hid (∀ x ∈ M, 0 ≤ x.1 ∧ x.1 ≤ 255) := fun x hx => kind_le x (hMm.out x hx)
                have hMb : Hid (∀ x ∈ M, x.2.2.length ≤ 255) := fun x hx => bytes_le x (hMm.out x hx)
                have hPM : Hid (parse (sayAll M) = M) := by
                  show _ = _
                  have := parse_say M hMm.out []
                  rw [List.append_nil, parse_nil, List.append_nil] at this
                  exact this
                have K4 := Lib.hid k4
                have k2' := k2
                unfold maxLen at k2'
                clear hC5 hb5 hM hnx4 k4
                go_wp2_with fail
                go_loopw [11] (fun i wq => ∃ q : Nat, q ≤ M.length ∧ i = .int .i64 q ∧ Below w5.heap.size w5 wq) (fun i _ => M.length - (intOf i).toNat)
                case atStart => exact ⟨0, by omega, rfl, Below.refl _ _⟩
                case round =>
                  obtain ⟨q, hq, rfl, hbq⟩ := hrel
                  by_cases hqt : q < M.length
                  · have hx := at_lt hqt
                    obtain ⟨x, hxx⟩ : ∃ x, x = M[q] := ⟨_, rfl⟩
                    rw [← hxx] at hx
                    obtain ⟨g, off, rfl, hat⟩ := (K4.out.on hbq) (by omega)
                    obtain ⟨g1, f0, f1, xb, cb, f2, n1, n2, n3, n4⟩ := hat q x hx
                    have hkx := hMk.out x (List.mem_of_getElem? hx)
                    have hmx := hMm.out x (List.mem_of_getElem? hx)
                    have HM := Lib.hid (fun W => mayw x xb cb W n1 n2 hkx)
                    rw [hmx] at HM
                    obtain ⟨kk, cn, bs⟩ := x
                    simp only at f0 f1 f2 n1
                    clear hat hxx hx n3 n4 hkx hmx
                    go_wp2_with (first | (go_at_call 15; refine (HM.out _).mono ?_; rintro e w6 ⟨rfl, hb6⟩))
                    go_roundw
                    case rel => exact ⟨q + 1, by omega, by go_num, hbq.trans (hb6.mono hbq.size)⟩
                    case measure => simp [intOf]; omega
                  · have hd5 : decide (q < M.length) = false := decide_eq_false hqt
                    have hnx6 := hnx5.trans (hbq.mono hnx5.size)
                    go_wp2_with fail
                    refine (printw a5 c5 M _ (by omega) (by omega) hMk.out k1 k2 (K4.out.on hbq)).mono ?_
                    rintro e w7 ⟨⟨_, v7, rfl, hO7⟩ | ⟨hno, _⟩, hb7⟩
                    · obtain ⟨a7, c7, rfl, m1, m2, m3, m4⟩ := hO7.rdB
                      obtain ⟨S7, hS7⟩ : ∃ S7, S7 = sayAll M := ⟨_, rfl⟩
                      rw [← hS7] at hPM hMs m1 m4 ⊢
                      have hnx7 := hnx6.trans (hb7.mono hnx6.size)
                      have hbq7 := hbq.trans (hb7.mono hbq.size)
                      have hd6 : decide (M.length ≤ L.length) = true := decide_eq_true hMl
                      have hd7 : decide ((S7.length : Int) ≤ (L.length : Int) + 1) = true := decide_eq_true (by omega)
                      have hd8 : (S7.length : Int) ≤ (L.length : Int) + 1 := by omega
                      clear hO7 hb7 hS7 hbq hnx6
                      go_wp2_with fail
                      refine (parsew a7 c7 S7 _ (by omega) m1 m2 m3 m4).mono ?_
                      rintro e w8 ⟨v8, rfl, hC8, hb8⟩
                      rw [hPM.out] at hC8
                      obtain ⟨a8, c8, rfl, p1, p2, _, p4⟩ := hC8.rd
                      have hnx8 := hnx7.trans (hb8.mono hnx7.size)
                      have hbq8 := hbq7.trans (hb8.mono hbq7.size)
                      clear hC8 hb8 m4 hbq7 hnx7
                      go_wp2_with fail
                      refine (alikew a8 a5 c8 c5 M _ (by omega) (fun x hx => by have := hMb.out x hx; omega) hMk.out p1 p2 k1 k2 p4 (K4.out.on hbq8)).mono ?_
                      rintro e w9 ⟨rfl, hb9⟩
                      have hnx9 := hnx8.trans (hb9.mono hnx8.size)
                      clear hb9 p4 hbq8 hnx8
                      go_wp2_with fail
                      refine (lives33 _).mono ?_
                      rintro e w10 ⟨rfl, hb10⟩
                      go_wp2_with fail
                      go_ret
                      exact ⟨rfl, hnx9.trans (hb10.mono hnx9.size)⟩
                    · exact absurd hno (by rw [List.all_eq_true.mpr hMm.out]; simp)
end Go.Proofs.Ytcmogfdbjppdeaa
