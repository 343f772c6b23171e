/- ScriptsJoin: what was printed, with more bytes behind it. -/
import Derived.Test.YtcmogfdbjppdeaaScRows
import Derived.Test.YtcmogfdbjppdeaaScOpen
import Derived.Test.YtcmogfdbjppdeaaScLives
namespace Go.Proofs.Ytcmogfdbjppdeaa
open Go.RowKit
set_option linter.unusedVariables false

theorem used_take {cs : List Cm} {k : Nat} {x : Cm} (hx : cs[k]? = some x) : used (cs.take (k + 1)) = used (cs.take k) + usedC x := by
  rw [List.take_add_one, hx]
  simp [used]
theorem used_le (cs : List Cm) (k : Nat) : used (cs.take k) ≤ used cs := by
  have : used cs = used (cs.take k) + used (cs.drop k) := by
    unfold used
    rw [← List.sum_append, ← List.map_append, List.take_append_drop]
  omega
theorem usedC_feed {x : Cm} (h : x.1 = 0) : usedC x = 2 + x.2.2.length := by simp [usedC, h]
theorem usedC_other {x : Cm} (h : ¬ x.1 = 0) : usedC x = 1 := by simp [usedC, h]
/-- Bytes behind bytes: what reads there. -/
theorem join_by {w7 w8 w9 : World} {v8 v9 : Value} {S L SL : List UInt8} (hSL : SL = S ++ L) (hb8 : Below w7.heap.size w7 w8) (h8 : w8.ownsRow w7.heap.size 5 1 v8 S.length (byv S)) (h9 : w9.ownsRow w7.heap.size 5 1 v9 (S ++ L).length (byv (S ++ L))) (hg : w8.grownBy w9 v8.ownBlock) (hn8 : v8 = .slice none 0 0 ↔ Value.slice none 0 0 = .slice none 0 0 ∧ S = []) (hn9 : v9 = .slice none 0 0 ↔ v8 = .slice none 0 0 ∧ L = []) :
    ∃ a c, v9 = .slice a SL.length c ∧ SL.length ≤ c ∧ c ≤ maxLen ∧ (a = none → c = 0) ∧ Rd w9 w9.heap.size a SL ∧ Below w7.heap.size w7 w9 := by
  subst hSL
  have h0 : S ++ L = [] → v9 = .slice none 0 0 := fun e => by
    obtain ⟨e1, e2⟩ := List.append_eq_nil_iff.mp e
    exact hn9.2 ⟨hn8.2 ⟨rfl, e1⟩, e2⟩
  obtain ⟨_, _, _, _, _, _, _, hO⟩ := Own.of_row h9 h0
  obtain ⟨a, c, e, r1, r2, r3, r4⟩ := hO.rdB
  exact ⟨a, c, e, r1, r2, r3, r4, hb8.grown hg hb8.size fun k hk => (h8.lt k hk).1⟩
theorem rows_on {w w' : World} {a : Option Addr} {m : Nat} {news : List Value} {cs : List Cm} {B : Nat} (h : 0 < m → ∃ g off, a = some ⟨g, off, none⟩ ∧ ∀ j u, news[j]? = some u → w.cell? ⟨g, off + j, none⟩ = some u) (hB : B ≤ w.heap.size) (hb : Below w.heap.size w w') (hr : RdC w w.heap.size .u8 a cs) : 0 < m → ∃ g off, a = some ⟨g, off, none⟩ ∧ ∀ j u, news[j]? = some u → w'.cell? ⟨g, off + j, none⟩ = some u := fun h0 => by
  obtain ⟨g, off, e, hc⟩ := h h0
  refine ⟨g, off, e, fun j u hj => ?_⟩
  have h1 := hc j u hj
  exact (hb.cell (p := ⟨g, off + j, none⟩) (World.block_lt_of_cell? _ _ h1)).trans h1
theorem join_rows {w10 w11 w12 : World} {v11 v12 : Value} {cs M D : List Cm} {vs us : List Value} (hD : D = cs ++ M) (hb : Below w10.heap.size w10 w11) (h11 : w11.ownsRow w10.heap.size 31 3 v11 cs.length (rows3 .u8 cs vs)) (h12 : w12.ownsRow w10.heap.size 31 3 v12 (cs.length + M.length) (rows3 .u8 cs vs ++ rows3 .u8 M us)) (hg : w11.grownBy w12 v11.ownBlock) (hv : RdAll w10 w10.heap.size cs vs) (hu : RdAll w10 w10.heap.size M us) :
    ∃ a c, v12 = .slice a D.length c ∧ D.length ≤ c ∧ c ≤ maxLen ∧ RdC w12 w12.heap.size .u8 a D ∧ Below w10.heap.size w10 w12 := by
  subst hD
  have hb2 : Below w10.heap.size w10 w12 := hb.grown hg hb.size fun k hk => (h11.lt k hk).1
  rw [← rows3_app .u8 M us cs vs hv.1, ← List.length_append] at h12
  have hform : ∃ a c, v12 = .slice a (cs ++ M).length c ∧ (cs ++ M).length ≤ c ∧ c ≤ maxLen := by
    rcases h12.2 with ⟨rfl, hn⟩ | ⟨g, cap, cur, rfl, _, _, hn, hm, _⟩
    · exact ⟨none, 0, by rw [hn], by omega, by simp [maxLen]⟩
    · exact ⟨_, _, rfl, hn, hm⟩
  obtain ⟨a, c, rfl, h1, h2⟩ := hform
  exact ⟨a, c, rfl, h1, h2, rdc_row h12 ((hv.app hu).on hb2) hb2.size, hb2⟩
set_option maxHeartbeats 8000000 in
set_option maxRecDepth 100000 in
theorem walk_ScriptsJoin (a0 : Option Addr) (l0 c0 : Nat) (a1 : Option Addr) (l1 c1 : Nat) (w : World) (w0 : Reads Try.prog w 26 (.slice a0 l0 c0)) (w1 : Reads Try.prog w 22 (.slice a1 l1 c1)) :
    Calls Try.prog 6 #[.slice a0 l0 c0, .slice a1 l1 c1] w fun e w' => e = .returned (.bool true) ∧ Below w.heap.size w w' := by
  obtain ⟨cs, rfl, hlc, hcm, hA0, hrd, hkd⟩ := open_cmds (P := Try.prog) Try.underlying26 (by kernel_rfl) (by kernel_rfl) Try.underlying22 (by kernel_rfl) (by kernel_rfl) w0
  obtain ⟨L, rfl, hLc, hLm, hA1, hrL⟩ := open_by (P := Try.prog) Try.underlying22 (by kernel_rfl) (by kernel_rfl) w1
  have HA0 := Lib.hid hA0
  have HRD := Lib.hid hrd
  have HKD := Lib.hid hkd
  have HA1 := Lib.hid hA1
  have HRL := Lib.hid hrL
  have hcm' := hcm
  have hLm' := hLm
  unfold maxLen at hcm' hLm'
  clear w0 w1 hA0 hrd hkd hA1 hrL
  go_enter Try.func6, Try.ntmps6
  go_wp2_with fail
  go_loopw [5, 6] (fun s i wr => ∃ (k sn : Nat), k ≤ cs.length ∧ k ≤ 101 ∧ i = .int .i64 k ∧ s = .int .i64 sn ∧ Hid (sn = sumM 20000 (cs.take k)) ∧ w = wr) (fun _ i _ => 101 - (intOf i).toNat)
  case atStart => exact ⟨0, 0, by omega, by omega, rfl, rfl, rfl, rfl⟩
  case round =>
    obtain ⟨k, sn, hk, hk2, rfl, rfl, hsn, rfl⟩ := hrel
    have hnx : Below w.heap.size w w := Below.refl _ _
    by_cases hlt : k < cs.length ∧ k ≤ 100
    · obtain ⟨hlt, hk3⟩ := hlt
      have hx := at_lt hlt
      obtain ⟨x, hxx⟩ : ∃ x, x = cs[k] := ⟨_, rfl⟩
      rw [← hxx] at hx
      have hsl : sn ≤ 2020000 := by
        have h1 := sumM_le 20000 (cs.take k)
        have h2 : (cs.take k).length ≤ 101 := by simp; omega
        have h3 := hsn.out
        have h4 : (cs.take k).length * 20000 ≤ 101 * 20000 := Nat.mul_le_mul_right _ h2
        omega
      obtain ⟨g, off, rfl, hat⟩ := HRD.out (by omega)
      obtain ⟨g1, f0, f1, xb, cb, f2, n1, n2, n3, n4⟩ := hat k x hx
      have HS := Lib.hid (sumM_take (M := 20000) hx)
      have n2' := n2
      unfold maxLen at n2'
      obtain ⟨kk, cn, bs⟩ := x
      simp only at f0 f1 f2 n1
      clear hat hxx hx n3 n4
      have hlt' : decide (k < cs.length) = true := decide_eq_true hlt
      rcases Nat.le_total bs.length 20000 with hm | hm
      · have hmin : min bs.length 20000 = bs.length := Nat.min_eq_left hm
        have hS2 : Hid (sn + bs.length = sumM 20000 (cs.take (k + 1))) := by show _ = _; rw [HS.out, hsn.out]; show _ + _ = _ + min bs.length 20000; rw [hmin]
        clear HS hmin
        go_wp2_with fail
        go_roundw
        case rel => exact ⟨k + 1, _, by omega, by omega, by go_num, by go_num, hS2, trivial⟩
        case measure => simp [intOf]; omega
      · have hmin : min bs.length 20000 = 20000 := Nat.min_eq_right hm
        have hS2 : Hid (sn + 20000 = sumM 20000 (cs.take (k + 1))) := by show _ = _; rw [HS.out, hsn.out]; show _ + _ = _ + min bs.length 20000; rw [hmin]
        clear HS hmin
        go_wp2_with fail
        go_roundw
        case rel => exact ⟨k + 1, _, by omega, by omega, by go_num, by go_num, hS2, trivial⟩
        case measure => simp [intOf]; omega
    · by_cases h200 : 100 < cs.length
      · have hd : decide (100 < (cs.length : Int)) = true := decide_eq_true (by omega)
        have hway : (¬ k < cs.length) ∨ (k < cs.length ∧ ¬ k ≤ 100) := by omega
        rcases hway with hw1 | ⟨hw1, hw2⟩
        · have hd1 : decide (k < cs.length) = false := decide_eq_false hw1
          go_wp2_with fail
          refine (lives33 _).mono ?_
          rintro e w2 ⟨rfl, hb2⟩
          go_wp2_with fail
          go_ret
          exact ⟨rfl, hnx.trans (hb2.mono hnx.size)⟩
        · have hd1 : decide (k < cs.length) = true := decide_eq_true hw1
          have hd2 : decide ((k : Int) ≤ 100) = false := decide_eq_false (by omega)
          go_wp2_with fail
          refine (lives33 _).mono ?_
          rintro e w2 ⟨rfl, hb2⟩
          go_wp2_with fail
          go_ret
          exact ⟨rfl, hnx.trans (hb2.mono hnx.size)⟩
      · have hkE : k = cs.length := by omega
        have htk : cs.take k = cs := by rw [hkE]; exact List.take_length
        have hsn' := hsn.out
        rw [htk] at hsn'
        have hd0 : decide (100 < (cs.length : Int)) = false := decide_eq_false (by omega)
        have hd1 : decide (k < cs.length) = false := decide_eq_false (by omega)
        have hn100 : cs.length ≤ 100 := by omega
        have HSN := Lib.hid hsn'
        clear hsn hsn' htk hkE h200 hlt
        by_cases hs2 : 10000 < sn
        · have hd2 : decide (10000 < (sn : Int)) = true := decide_eq_true (by omega)
          go_wp2_with fail
          refine (lives33 _).mono ?_
          rintro e w2 ⟨rfl, hb2⟩
          go_wp2_with fail
          go_ret
          exact ⟨rfl, hnx.trans (hb2.mono hnx.size)⟩
        · have hd2 : decide (10000 < (sn : Int)) = false := decide_eq_false (by omega)
          by_cases hl : 3000 < L.length
          · have hd3 : decide (3000 < (L.length : Int)) = true := decide_eq_true (by omega)
            go_wp2_with fail
            refine (lives33 _).mono ?_
            rintro e w2 ⟨rfl, hb2⟩
            go_wp2_with fail
            go_ret
            exact ⟨rfl, hnx.trans (hb2.mono hnx.size)⟩
          · have hd3 : decide (3000 < (L.length : Int)) = false := decide_eq_false (by omega)
            have hsmall := sumM_small (M := 20000) (S := 10000) (by omega) cs (by have := HSN.out; omega)
            have HSM := Lib.hid hsmall
            clear hsmall
            go_wp2_with fail
            refine (parsew a1 c1 L _ (by omega) hLc hLm HA1.out HRL.out).mono ?_
            rintro e w5 ⟨v5, rfl, hC5, hnx5⟩
            obtain ⟨M, hM⟩ : ∃ M, M = parse L := ⟨_, rfl⟩
            rw [← hM] at hC5
            obtain ⟨a5, c5, rfl, k1, k2, k3, k4⟩ := hC5.rd
            have hMm : Hid (∀ x ∈ M, mayC x = true) := by rw [hM]; exact parse_may L
            have hMl : M.length ≤ L.length := by rw [hM]; exact parse_len L
            have hMk : Hid (∀ x ∈ M, 0 ≤ x.1 ∧ x.1 ≤ 255) := fun x hx => kind_le x (hMm.out x hx)
            have hMb : Hid (∀ x ∈ M, x.2.2.length ≤ 255) := fun x hx => bytes_le x (hMm.out x hx)
            have hMu : Hid (used M = L.length ∨ (used M = L.length + 1 ∧ ∃ x, M[M.length - 1]? = some x ∧ x.2.2 = [])) := by rw [hM]; exact used_parse L
            have hML : Hid (M = parse L) := hM
            have hul : used M ≤ L.length + 1 := by rcases hMu.out with h | ⟨h, _⟩ <;> omega
            have K4 := Lib.hid k4
            have k2' := k2
            unfold maxLen at k2'
            clear hC5 hM k4 hnx
            go_wp2_with fail
            go_loopw [8, 9] (fun s i wq => ∃ (q un : Nat), q ≤ M.length ∧ i = .int .i64 q ∧ s = .int .i64 un ∧ Hid (un = used (M.take q)) ∧ w5 = wq) (fun _ i _ => M.length - (intOf i).toNat)
            case atStart => exact ⟨0, 0, by omega, rfl, rfl, rfl, rfl⟩
            case round =>
              obtain ⟨q, un, hq, rfl, rfl, hun, rfl⟩ := hrel
              have hunl : un ≤ 3001 := by have := used_le M q; have := hun.out; omega
              by_cases hqt : q < M.length
              · have hx := at_lt hqt
                obtain ⟨x, hxx⟩ : ∃ x, x = M[q] := ⟨_, rfl⟩
                rw [← hxx] at hx
                obtain ⟨g, off, rfl, hat⟩ := K4.out (by omega)
                obtain ⟨g1, f0, f1, xb, cb, f2, n1, n2, n3, n4⟩ := hat q x hx
                have HU := Lib.hid (used_take hx)
                have hxb := hMb.out x (List.mem_of_getElem? hx)
                by_cases hx0 : x.1 = 0
                · have hU2 : Hid (un + 1 + 1 + x.2.2.length = used (M.take (q + 1))) := by show _ = _; rw [HU.out, hun.out, usedC_feed hx0]; omega
                  obtain ⟨kk, cn, bs⟩ := x
                  simp only at f0 f1 f2 n1 hxb hx0 hU2
                  subst hx0
                  clear hat hxx hx n3 n4 HU
                  go_wp2_with fail
                  go_roundw
                  case rel => exact ⟨q + 1, _, by omega, by go_num, by go_num, hU2, trivial⟩
                  case measure => simp [intOf]; omega
                · have hU2 : Hid (un + 1 = used (M.take (q + 1))) := by show _ = _; rw [HU.out, hun.out, usedC_other hx0]
                  obtain ⟨kk, cn, bs⟩ := x
                  simp only at f0 f1 f2 n1 hxb hx0 hU2
                  have hz : (kk == 0) = false := by simpa using hx0
                  clear hat hxx hx n3 n4 HU hx0
                  go_wp2_with fail
                  go_roundw
                  case rel => exact ⟨q + 1, _, by omega, by go_num, by go_num, hU2, trivial⟩
                  case measure => simp [intOf]; omega
              · have hd5 : decide (q < M.length) = false := decide_eq_false hqt
                have htq : M.take q = M := List.take_of_length_le (by omega)
                have hun' := hun.out
                rw [htq] at hun'
                have HUN := Lib.hid hun'
                clear htq hun' hun
                rcases hMu.out with hu | ⟨hu, x, hx, hxb⟩
                · have hu2 : un = L.length := by have := HUN.out; omega
                  have hz : ((un : Int) != (L.length : Int)) = false := by simp; omega
                  clear hu hu2 HUN
                  go_wp2_with fail
                  refine (printw a0 c0 cs _ (by omega) (by have := HSM.out.2; omega) HKD.out hlc hcm (HRD.out.on hnx5)).mono ?_
                  rintro e w7 ⟨⟨hall, v7, rfl, hO7⟩ | ⟨_, rfl⟩, hb7⟩
                  · obtain ⟨a7, c7, rfl, m1, m2, m3, m4⟩ := hO7.rdB
                    obtain ⟨S, hS⟩ : ∃ S, S = sayAll cs := ⟨_, rfl⟩
                    have hPS : Hid (parse (S ++ L) = cs ++ M) := by
                      show _ = _
                      rw [hS, hML.out]
                      exact parse_say cs (fun x hx => List.all_eq_true.mp hall x hx) L
                    rw [← hS] at m1 m4 ⊢
                    have hSl : S.length ≤ 10200 := by have := HSM.out.2; rw [hS]; omega
                    have hnx7 := hnx5.trans (hb7.mono hnx5.size)
                    have hb57 : Below w5.heap.size w5 w7 := hb7
                    have HM4 := Lib.hid m4
                    have hrL7 := Lib.hid (HRL.out.on hnx7)
                    have hsz7 := hnx7.size
                    obtain ⟨SL, hSL⟩ : ∃ SL, SL = S ++ L := ⟨_, rfl⟩
                    have hSLl : SL.length ≤ 13200 := by rw [hSL, List.length_append]; omega
                    rw [← hSL] at hPS
                    have HSL := Lib.hid hSL
                    clear hO7 hb7 hS hall m4 hSL
                    go_wp2_with (first
                      | (at_builtin; refine wpList_append_by _ rfl (.const (.slice none 0 0)) (.tmp 105) 22 rfl w7.heap.size 5 Try.underlying22 info_u8 (.slice none 0 0) [] rfl (World.ownsRow_nil _ _ _ _) w7.heap.size a7 S c7 rfl HM4.out m3 (by simp; omega) (Nat.le_refl _) ?_; intro v8 w8 hown8 hg8 hn8; have hb8 : Below w7.heap.size w7 w8 := (Below.refl _ _).grown hg8 (Nat.le_refl _) (by simp [Value.ownBlock]); rw [List.nil_append] at hown8)
                      | (at_builtin; refine wpList_append_by _ rfl (.tmp 106) (.tmp 107) 22 rfl w7.heap.size 5 Try.underlying22 info_u8 v8 S rfl hown8 w7.heap.size a1 L c1 rfl (hrL7.out.below hb8 (Nat.le_refl _)) HA1.out (by omega) hb8.size ?_; intro v9 w9 hown9 hg9 hn9; obtain ⟨a9, c9, rfl, t1, t2, t3, t4, t5⟩ := join_by HSL.out hb8 hown8 hown9 hg9 hn8 hn9))
                    have hnx9 := hnx7.trans (t5.mono hnx7.size)
                    have hb59 := hb57.trans (t5.mono hb57.size)
                    have HT4 := Lib.hid t4
                    clear hown8 hown9 hg8 hg9 hn8 hn9 hb8 HM4 hrL7 hb57 t4 t5
                    go_wp2_with fail
                    refine (parsew a9 c9 SL _ (by omega) t1 t2 t3 HT4.out).mono ?_
                    rintro e w10 ⟨v10, rfl, hC10, hb10⟩
                    rw [hPS.out] at hC10
                    obtain ⟨D, hD⟩ : ∃ D, D = cs ++ M := ⟨_, rfl⟩
                    rw [← hD] at hC10
                    obtain ⟨a10, c10, rfl, p1, p2, _, p4⟩ := hC10.rd
                    have hnx10 := hnx9.trans (hb10.mono hnx9.size)
                    have hb510 := hb59.trans (hb10.mono hb59.size)
                    obtain ⟨vs, hv1, hv2, hv3⟩ := (HRD.out.on hnx10).rows
                    obtain ⟨us, hu1, hu2, hu3⟩ := (K4.out.on hb510).rows
                    have HP4 := Lib.hid p4
                    have HV1 := Lib.hid hv1
                    have HU1 := Lib.hid hu1
                    have HV3 := Lib.hid hv3
                    have HU3 := Lib.hid hu3
                    have HU2 := Lib.hid hu2
                    have HV2 := Lib.hid hv2
                    have HDD := Lib.hid hD
                    have hDl : D.length ≤ 3100 := by rw [hD, List.length_append]; omega
                    have hvl : (rows3 .u8 cs vs).length = cs.length * 3 := rows3_len _ _ _ hv1.1
                    have hul2 : (rows3 .u8 M us).length = M.length * 3 := rows3_len _ _ _ hu1.1
                    have HVL := Lib.hid hvl
                    have HUL := Lib.hid hul2
                    clear hC10 hb10 HT4 hb59 hnx9 p4 hv1 hu1 hv2 hu2 hv3 hu3 hvl hul2 hD
                    go_wp2_with (first
                      | (at_builtin; refine wpList_append_rw _ rfl (.const (.slice none 0 0)) (.tmp 111) 26 rfl w10.heap.size 31 (.agg #[.int .u8 0, .int .i64 0, .slice none 0 0]) Try.underlying26 info_cmd rfl (.slice none 0 0) 0 [] rfl (World.ownsRow_nil _ _ _ _) a0 cs.length c0 (rows3 .u8 cs vs) rfl HVL.out HV3.out HV2.out HA0.out (by omega) (Nat.le_refl _) ?_; intro v11 w11 hown11 hg11; have hb11 : Below w10.heap.size w10 w11 := (Below.refl _ _).grown hg11 (Nat.le_refl _) (by simp [Value.ownBlock]); rw [List.nil_append, Nat.zero_add] at hown11)
                      | (at_builtin; refine wpList_append_rw _ rfl (.tmp 112) (.tmp 113) 26 rfl w10.heap.size 31 (.agg #[.int .u8 0, .int .i64 0, .slice none 0 0]) Try.underlying26 info_cmd rfl v11 cs.length (rows3 .u8 cs vs) rfl hown11 a5 M.length c5 (rows3 .u8 M us) rfl HUL.out (rows_on HU3.out hb510.size hb11 (K4.out.on hb510)) HU2.out k3 (by omega) hb11.size ?_; intro v12 w12 hown12 hg12; obtain ⟨a12, c12, rfl, s1, s2, s4, s5⟩ := join_rows HDD.out hb11 hown11 hown12 hg12 HV1.out HU1.out))
                    have hnx12 := hnx10.trans (s5.mono hnx10.size)
                    have HS4 := Lib.hid s4
                    have HBB := Lib.hid s5
                    clear hown11 hown12 hg11 hg12 hb11 s4 s5
                    go_wp2_with fail
                    refine (alikew a10 a12 c10 c12 D _ (by omega) (by rw [HDD.out]; intro x hx; rcases List.mem_append.mp hx with h | h; have := HSM.out.1 x h; omega; have := hMb.out x h; omega) (by rw [HDD.out]; intro x hx; rcases List.mem_append.mp hx with h | h; exact HKD.out x h; exact hMk.out x h) p1 p2 s1 s2 (HP4.out.on HBB.out) HS4.out).mono ?_
                    rintro e w13 ⟨rfl, hb13⟩
                    have hnx13 := hnx12.trans (hb13.mono hnx12.size)
                    clear hb13 HS4 HBB HP4
                    go_wp2_with fail
                    refine (lives33 _).mono ?_
                    rintro e w2 ⟨rfl, hb2⟩
                    go_wp2_with fail
                    go_ret
                    exact ⟨rfl, hnx13.trans (hb2.mono hnx13.size)⟩
                  · have hnx7 := hnx5.trans (hb7.mono hnx5.size)
                    clear hb7
                    go_wp2_with fail
                    refine (lives33 _).mono ?_
                    rintro e w2 ⟨rfl, hb2⟩
                    go_wp2_with fail
                    go_ret
                    exact ⟨rfl, hnx7.trans (hb2.mono hnx7.size)⟩
                · have hu2 : un = L.length + 1 := by have := HUN.out; omega
                  have hz : ((un : Int) != (L.length : Int)) = true := by simp; omega
                  have hz2 : ((un : Int) != (L.length : Int) + 1) = false := by simp; omega
                  have hpos : 0 < M.length := by
                    rcases Nat.eq_zero_or_pos M.length with h0 | h0
                    · rw [List.eq_nil_of_length_eq_zero h0] at hx; simp at hx
                    · exact h0
                  have hz3 : ((M.length : Int) == 0) = false := beq_eq_false_iff_ne.mpr (by omega)
                  obtain ⟨g, off, hae, hat⟩ := K4.out hpos
                  obtain ⟨g1, f0, f1, xb, cb, f2, n1, n2, n3, n4⟩ := hat (M.length - 1) x hx
                  rw [hxb] at f2
                  subst hae
                  have y1 : ((M.length : Int) - 1).toNat = M.length - 1 := by omega
                  have y2 : IntKind.i64.wrap ((M.length : Int) - 1) = (M.length : Int) - 1 := IntWalk.i64_in _ (by omega)
                  have y3 : 0 ≤ (M.length : Int) - 1 := by omega
                  have y4 : (M.length : Int) - 1 < M.length := by omega
                  have y5 : (1 : Int) ≤ M.length := by omega
                  have hll : ([] : List UInt8).length = 0 := rfl
                  rw [hll] at f2
                  clear hu hu2 HUN hat f0 f1 n1 n2 n3 n4 hx hxb
                  go_wp2_with fail
                  refine (printw a0 c0 cs _ (by omega) (by have := HSM.out.2; omega) HKD.out hlc hcm (HRD.out.on hnx5)).mono ?_
                  rintro e w7 ⟨⟨hall, v7, rfl, hO7⟩ | ⟨_, rfl⟩, hb7⟩
                  · obtain ⟨a7, c7, rfl, m1, m2, m3, m4⟩ := hO7.rdB
                    obtain ⟨S, hS⟩ : ∃ S, S = sayAll cs := ⟨_, rfl⟩
                    have hPS : Hid (parse (S ++ L) = cs ++ M) := by
                      show _ = _
                      rw [hS, hML.out]
                      exact parse_say cs (fun x hx => List.all_eq_true.mp hall x hx) L
                    rw [← hS] at m1 m4 ⊢
                    have hSl : S.length ≤ 10200 := by have := HSM.out.2; rw [hS]; omega
                    have hnx7 := hnx5.trans (hb7.mono hnx5.size)
                    have hb57 : Below w5.heap.size w5 w7 := hb7
                    have HM4 := Lib.hid m4
                    have hrL7 := Lib.hid (HRL.out.on hnx7)
                    have hsz7 := hnx7.size
                    obtain ⟨SL, hSL⟩ : ∃ SL, SL = S ++ L := ⟨_, rfl⟩
                    have hSLl : SL.length ≤ 13200 := by rw [hSL, List.length_append]; omega
                    rw [← hSL] at hPS
                    have HSL := Lib.hid hSL
                    clear hO7 hb7 hS hall m4 hSL
                    go_wp2_with (first
                      | (at_builtin; refine wpList_append_by _ rfl (.const (.slice none 0 0)) (.tmp 105) 22 rfl w7.heap.size 5 Try.underlying22 info_u8 (.slice none 0 0) [] rfl (World.ownsRow_nil _ _ _ _) w7.heap.size a7 S c7 rfl HM4.out m3 (by simp; omega) (Nat.le_refl _) ?_; intro v8 w8 hown8 hg8 hn8; have hb8 : Below w7.heap.size w7 w8 := (Below.refl _ _).grown hg8 (Nat.le_refl _) (by simp [Value.ownBlock]); rw [List.nil_append] at hown8)
                      | (at_builtin; refine wpList_append_by _ rfl (.tmp 106) (.tmp 107) 22 rfl w7.heap.size 5 Try.underlying22 info_u8 v8 S rfl hown8 w7.heap.size a1 L c1 rfl (hrL7.out.below hb8 (Nat.le_refl _)) HA1.out (by omega) hb8.size ?_; intro v9 w9 hown9 hg9 hn9; obtain ⟨a9, c9, rfl, t1, t2, t3, t4, t5⟩ := join_by HSL.out hb8 hown8 hown9 hg9 hn8 hn9))
                    have hnx9 := hnx7.trans (t5.mono hnx7.size)
                    have hb59 := hb57.trans (t5.mono hb57.size)
                    have HT4 := Lib.hid t4
                    clear hown8 hown9 hg8 hg9 hn8 hn9 hb8 HM4 hrL7 hb57 t4 t5
                    go_wp2_with fail
                    refine (parsew a9 c9 SL _ (by omega) t1 t2 t3 HT4.out).mono ?_
                    rintro e w10 ⟨v10, rfl, hC10, hb10⟩
                    rw [hPS.out] at hC10
                    obtain ⟨D, hD⟩ : ∃ D, D = cs ++ M := ⟨_, rfl⟩
                    rw [← hD] at hC10
                    obtain ⟨a10, c10, rfl, p1, p2, _, p4⟩ := hC10.rd
                    have hnx10 := hnx9.trans (hb10.mono hnx9.size)
                    have hb510 := hb59.trans (hb10.mono hb59.size)
                    obtain ⟨vs, hv1, hv2, hv3⟩ := (HRD.out.on hnx10).rows
                    obtain ⟨us, hu1, hu2, hu3⟩ := (K4.out.on hb510).rows
                    have HP4 := Lib.hid p4
                    have HV1 := Lib.hid hv1
                    have HU1 := Lib.hid hu1
                    have HV3 := Lib.hid hv3
                    have HU3 := Lib.hid hu3
                    have HU2 := Lib.hid hu2
                    have HV2 := Lib.hid hv2
                    have HDD := Lib.hid hD
                    have hDl : D.length ≤ 3100 := by rw [hD, List.length_append]; omega
                    have hvl : (rows3 .u8 cs vs).length = cs.length * 3 := rows3_len _ _ _ hv1.1
                    have hul2 : (rows3 .u8 M us).length = M.length * 3 := rows3_len _ _ _ hu1.1
                    have HVL := Lib.hid hvl
                    have HUL := Lib.hid hul2
                    clear hC10 hb10 HT4 hb59 hnx9 p4 hv1 hu1 hv2 hu2 hv3 hu3 hvl hul2 hD
                    go_wp2_with (first
                      | (at_builtin; refine wpList_append_rw _ rfl (.const (.slice none 0 0)) (.tmp 111) 26 rfl w10.heap.size 31 (.agg #[.int .u8 0, .int .i64 0, .slice none 0 0]) Try.underlying26 info_cmd rfl (.slice none 0 0) 0 [] rfl (World.ownsRow_nil _ _ _ _) a0 cs.length c0 (rows3 .u8 cs vs) rfl HVL.out HV3.out HV2.out HA0.out (by omega) (Nat.le_refl _) ?_; intro v11 w11 hown11 hg11; have hb11 : Below w10.heap.size w10 w11 := (Below.refl _ _).grown hg11 (Nat.le_refl _) (by simp [Value.ownBlock]); rw [List.nil_append, Nat.zero_add] at hown11)
                      | (at_builtin; refine wpList_append_rw _ rfl (.tmp 112) (.tmp 113) 26 rfl w10.heap.size 31 (.agg #[.int .u8 0, .int .i64 0, .slice none 0 0]) Try.underlying26 info_cmd rfl v11 cs.length (rows3 .u8 cs vs) rfl hown11 (some ⟨g, off, none⟩) M.length c5 (rows3 .u8 M us) rfl HUL.out (rows_on HU3.out hb510.size hb11 (K4.out.on hb510)) HU2.out k3 (by omega) hb11.size ?_; intro v12 w12 hown12 hg12; obtain ⟨a12, c12, rfl, s1, s2, s4, s5⟩ := join_rows HDD.out hb11 hown11 hown12 hg12 HV1.out HU1.out))
                    have hnx12 := hnx10.trans (s5.mono hnx10.size)
                    have HS4 := Lib.hid s4
                    have HBB := Lib.hid s5
                    clear hown11 hown12 hg11 hg12 hb11 s4 s5
                    go_wp2_with fail
                    refine (alikew a10 a12 c10 c12 D _ (by omega) (by rw [HDD.out]; intro x hx; rcases List.mem_append.mp hx with h | h; have := HSM.out.1 x h; omega; have := hMb.out x h; omega) (by rw [HDD.out]; intro x hx; rcases List.mem_append.mp hx with h | h; exact HKD.out x h; exact hMk.out x h) p1 p2 s1 s2 (HP4.out.on HBB.out) HS4.out).mono ?_
                    rintro e w13 ⟨rfl, hb13⟩
                    have hnx13 := hnx12.trans (hb13.mono hnx12.size)
                    clear hb13 HS4 HBB HP4
                    go_wp2_with fail
                    refine (lives33 _).mono ?_
                    rintro e w2 ⟨rfl, hb2⟩
                    go_wp2_with fail
                    go_ret
                    exact ⟨rfl, hnx13.trans (hb2.mono hnx13.size)⟩
                  · have hnx7 := hnx5.trans (hb7.mono hnx5.size)
                    clear hb7
                    go_wp2_with fail
                    refine (lives33 _).mono ?_
                    rintro e w2 ⟨rfl, hb2⟩
                    go_wp2_with fail
                    go_ret
                    exact ⟨rfl, hnx7.trans (hb2.mono hnx7.size)⟩
end Go.Proofs.Ytcmogfdbjppdeaa
