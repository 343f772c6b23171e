/- The law PlacesFound. -/
import Derived.Test.YteofbgbjibbdaacPsM
import Derived.Test.YteofbgbjibbdaacPlLives
import Derived.Test.YteofbgbjibbdaacOpen
import Derived.Test.YteofbgbjibbdaacBits
import Derived.Deep.QuietTactic
import Derived.BigQuiet
import Derived.Deep.RegionHeld3
import Derived.StillTailTactics
namespace Go.Proofs.Yteofbgbjibbdaac
open Go.RowKit
set_option linter.unusedVariables false
theorem hs1_rng (h : Int) (c : UInt8) : 0 ≤ hs1 h c ∧ hs1 h c < 18446744073709551616 := by
  unfold hs1
  rw [IntKind.wrap_u64]
  omega
theorem hsl_rng (l : List UInt8) : 0 ≤ hsl l ∧ hsl l < 18446744073709551616 := by
  rcases List.eq_nil_or_concat l with rfl | ⟨l', c, rfl⟩
  · exact ⟨by decide, by decide⟩
  · rw [List.concat_eq_append, hsl_snoc]; exact hs1_rng _ _
theorem word_as {o m : Int} (h1 : 1 ≤ o) (h2 : o ≤ 11) (hm : m = 0 ∨ m = o + 1) : 0 ≤ wordf o m ∧ wordf o m < 65536 ∧ asO (wordf o m) = o ∧ asN (wordf o m) = m ∧ tgtf (wordf o m) = if m = 0 then o else m := by
  have hw : wordf o m = o + m * 256 := by unfold wordf; omega
  have e1 : wordf o m % 256 = o := by rw [hw]; omega
  have e2 : wordf o m / 256 % 256 = m := by
    clear e1
    rw [hw, show (o + m * 256) / 256 = m by rw [Int.add_mul_ediv_right _ _ (by decide)]; omega]
    omega
  have eo : asO (wordf o m) = o := by unfold asO; rw [e1, if_pos (by omega)]
  have em : asN (wordf o m) = m := by
    unfold asN
    rw [e2, eo]
    clear e1 e2 hw eo
    split <;> omega
  exact ⟨by rw [hw]; omega, by rw [hw]; omega, eo, em, by unfold tgtf; rw [eo, em]⟩
set_option maxHeartbeats 8000000 in
set_option maxRecDepth 100000 in
theorem walk_PlacesFound (a0 : ByteArray) (a1 : Int) (a2 : Bool) (w : World) (w0 : a0.size ≤ maxLen) (w1 : (Lit.int .u8 a1).wf = true) :
    Calls Try.prog 10 #[.string a0, .int .u8 a1, .bool a2] w fun e w' => e = .returned (.bool true) ∧ Below w.heap.size w w' := by
  obtain ⟨g1, g2⟩ := bounds_u8 w1
  have CH := Lib.hid (fun W => hash a0 W w0)
  have hm63 : a0.size ≤ 9223372036854775807 := by unfold maxLen at w0; exact w0
  clear w0 w1
  by_cases hbig : 1000 < a0.size
  · have hd : decide (1000 < (a0.size : Int)) = true := decide_eq_true (by omega)
    go_enter Try.func10, Try.ntmps10
    go_wp2_with fail
    refine (lives08 _).mono ?_
    rintro e w' ⟨rfl, hk⟩
    go_wp2_with fail
    go_ret
    exact ⟨rfl, hk⟩
  have hd : decide (1000 < (a0.size : Int)) = false := decide_eq_false (by omega)
  obtain ⟨o, ho⟩ : ∃ o, o = 1 + a1 % 11 := ⟨_, rfl⟩
  have o1 : 1 ≤ o := by omega
  have o2 : o ≤ 11 := by omega
  obtain ⟨m, hm⟩ : ∃ m, m = if a2 = true then o + 1 else 0 := ⟨_, rfl⟩
  have hm' : m = 0 ∨ m = o + 1 := by rw [hm]; split <;> omega
  obtain ⟨q1, q2, q3, q4, q5⟩ := word_as o1 o2 hm'
  obtain ⟨t1, t2⟩ := hsl_rng a0.data.toList
  have HO := Lib.hid ho
  have HM := Lib.hid hm
  generalize hsl a0.data.toList = h at *
  have hF := places_found h (wordf o m) t1 t2
  have CW := Lib.hid (fun W => wordw8 o m W)
  generalize wordf o m = x at *
  have CA := Lib.hid (fun W => asw x W q1 (by omega))
  have CT := Lib.hid (fun W => tgtw x W q1 (by omega))
  have CP := Lib.hid (fun W => placesw h x W t1 t2 q1 (by omega))
  rw [q3, q4] at CA
  rw [q5] at CT
  generalize placesF h x = L at *
  obtain ⟨f1, f2, f3, f4, f5, f6⟩ := hF
  rw [q3] at f6
  rw [q4] at f2 f3
  obtain ⟨n, hn⟩ : ∃ n, n = L.length := ⟨_, rfl⟩
  rw [← hn] at f1 f2 f3 CP
  have hn1 : 1 ≤ n := by
    rcases Nat.eq_zero_or_pos L.length with h0 | h0
    · rw [List.eq_nil_of_length_eq_zero h0] at f6; simp at f6
    · omega
  have HN := Lib.hid hn
  have F4 := Lib.hid f4
  have F5 := Lib.hid f5
  have F6 := Lib.hid f6
  have F2 := Lib.hid f2
  have F3 := Lib.hid f3
  clear f4 f5 f6 f2 f3 hn ho hm q3 q4 q5 hbig
  go_enter Try.func10, Try.ntmps10
  cases a2
  all_goals
    have hm0 := HM.out
    simp only [if_true, if_false, Bool.false_eq_true] at hm0
    subst hm0
    go_wp2_with fail
    rw [← HO.out]
    refine (CW.out _).mono ?_
    rintro e w1 ⟨rfl, rfl⟩
    go_wp2_with fail
    refine (CA.out _).mono ?_
    rintro e w2 ⟨rfl, K2⟩
    go_wp2_with fail
    refine (CH.out _).mono ?_
    rintro e w3 ⟨rfl, K3⟩
    go_wp2_with fail
    refine (CP.out _).mono ?_
    rintro e w4 ⟨al, rfl, Ll, K4⟩
    obtain ⟨a', cap', e', -, -, -, hlie⟩ := LieG.of Ll
    injection e' with e1 _ e2
    subst e1 e2
    have hb4 := below_then (below_then K2 K3) K4
    have y1 : (o != o) = false := by simp
    have y2 : ((0 : Int) != 0) = false := by simp
    have y3 : (o + 1 != o + 1) = false := by simp
    have y4 : decide ((n : Int) < 1) = false := decide_eq_false (by omega)
    have y5 : decide (4 < (n : Int)) = false := decide_eq_false (by omega)
    have y7 : ¬ (o + 1 = 0) := by omega
    have y8 : (o + 1 = 0) = False := by simp; omega
    first
      | (have y6 : decide (2 < (n : Int)) = false := decide_eq_false (by have := F2.out (by trivial); omega))
      | (have y6 : decide ((n : Int) < 2) = false := decide_eq_false (by have := F3.out y7; omega))
    have CT2 := CT.out
    simp only [y8, if_true, if_false] at CT2
    have CTH := Lib.hid CT2
    have HB4 := Lib.hid hb4
    have HLIE := Lib.hid hlie
    clear K2 K3 K4 hb4 hlie Ll CT2 CT y8 y7
    go_wp2_with fail
    refine (CTH.out _).mono ?_
    rintro e w5 ⟨rfl, K5⟩
    have HB5 := Lib.hid (below_then HB4.out K5)
    have HLIE5 := Lib.hid (HLIE.out.new K5)
    clear K5 CTH HB4 HLIE
    go_wp2_with fail
    clear y1 y2 y3 y4 y5 y6
    obtain ⟨g, hg⟩ : ∃ g, al = some ⟨g, 0, none⟩ := by
      obtain ⟨g, e, _⟩ := HLIE5.out (by omega)
      exact ⟨g, e⟩
    subst hg
    go_loopw [14] (fun i wr => ∃ k : Nat, k ≤ n ∧ i = .int .i64 k ∧ Below w5.heap.size w5 wr) (fun i _ => n - (intOf i).toNat)
    case atStart => exact ⟨0, Nat.zero_le _, rfl, Below.refl _ _⟩
    case round =>
      obtain ⟨k, hk, rfl, hbr⟩ := hrel
      by_cases hlt : k < n
      · obtain ⟨⟨b, q⟩, hx⟩ : ∃ x, L[k]? = some x := ⟨_, List.getElem?_eq_getElem (by have := HN.out; omega)⟩
        have hmem := F4.out b q (List.mem_of_getElem? hx)
        obtain ⟨gg, eg, hgs, -, -, c0, c1⟩ := (HLIE5.out.new hbr).place HN.out hx
        injection eg with eg
        injection eg with eg
        subst eg
        have HBR := Lib.hid hbr
        have HMEM := Lib.hid hmem
        have HX := Lib.hid hx
        have HGS := Lib.hid hgs
        have j0 : (0 : Int) ≤ (k : Int) := by omega
        have j1 : (k : Int) < (n : Int) := by omega
        have hprev : (k = 0 ∧ decide (0 < (k : Int)) = false) ∨ ∃ b' : Int, decide (0 < (k : Int)) = true ∧ 0 < k ∧ decide (b < b') = false ∧ wr.cell? ⟨g, (k - 1) * 2, none⟩ = some (.int .i64 b') := by
          by_cases h0 : k = 0
          · exact .inl ⟨h0, decide_eq_false (by omega)⟩
          · obtain ⟨⟨b', q'⟩, hx'⟩ : ∃ x, L[k - 1]? = some x := ⟨_, List.getElem?_eq_getElem (by have := HN.out; omega)⟩
            have hr := F5.out (k - 1) _ _ hx' (by rw [show k - 1 + 1 = k by omega]; exact hx)
            obtain ⟨gg, eg, -, -, -, c0', -⟩ := (HLIE5.out.new hbr).place HN.out hx'
            injection eg with eg
            injection eg with eg
            subst eg
            exact .inr ⟨b', decide_eq_true (by omega), by omega, decide_eq_false (by simp at hr; omega), c0'⟩
        clear hbr hmem hx hgs
        have hp2 : (decide (0 < (k : Int)) = false ∧ decide (0 < k) = false) ∨ ∃ b' : Int, decide (0 < (k : Int)) = true ∧ decide (0 < k) = true ∧ decide (b < b') = false ∧ wr.cell? ⟨g, (k - 1) * 2, none⟩ = some (.int .i64 b') ∧ ((k : Int) - 1).toNat = k - 1 ∧ IntKind.i64.wrap ((k : Int) - 1) = (k : Int) - 1 ∧ 0 ≤ (k : Int) - 1 ∧ (k : Int) - 1 < n ∧ k - 1 < n := by
          rcases hprev with ⟨rfl, p0⟩ | ⟨b', p0, hk0, p1, p2⟩
          · exact .inl ⟨p0, by simp⟩
          · exact .inr ⟨b', p0, decide_eq_true hk0, p1, p2, by omega, IntWalk.i64_in _ (by omega), by omega, by omega, by omega⟩
        clear hprev
        obtain ⟨ot, hot⟩ : ∃ ot, ot = othf q (max 1 (h / 72057594037927936)) b := ⟨_, rfl⟩
        have HOT := Lib.hid hot
        clear hot
        rcases hp2 with ⟨p0, p0'⟩ | ⟨b', p0, p0', p1, p2, y1, y2, y3, y4, y5⟩
        all_goals
          go_wp2_with fail
          go_quiet (fail)
          go_wp2_with fail
          have c0d : (wr.drewN nq).cell? ⟨g, k * 2, none⟩ = some (.int .i64 b) := by rw [World.cell?_drewN]; exact c0
          have c1d : (wr.drewN nq).cell? ⟨g, k * 2 + 1, none⟩ = some (.int .i64 q) := by rw [World.cell?_drewN]; exact c1
          have hbd := Lib.hid (belowPd HBR.out nq)
          clear c0 c1 p0 p0'
          try clear y1 y2 y3 y4 y5 p1 p2
          have hsW : g < (wr.drewN nq).heap.size := by simpa using HGS.out
          generalize World.drewN wr nq = W at *
          have c0a := fun o => (World.cell?_alloc_some W _ o (by simp [c0d])).trans c0d
          have c1a := fun o => (World.cell?_alloc_some W _ o (by simp [c1d])).trans c1d
          go_region_held3 (fun w' => w'.cell? ⟨g, k * 2, none⟩ = some (.int .i64 b) ∧ w'.cell? ⟨g, k * 2 + 1, none⟩ = some (.int .i64 q))
            (first | exact ⟨by assumption, by assumption⟩ | exact ⟨c0a _, c1a _⟩)
            (first
            | (go_at_call 50; ((with_reducible refine (tag h _ t1 t2).mono ?_); rintro e w6 ⟨rfl, rfl⟩))
            | (go_at_call 49; ((with_reducible refine (other_any _ _ _ _).mono ?_); rintro e w6 ⟨rfl, rfl⟩)))
          all_goals
            go_wp2_with fail
            rw [← HOT.out]
            have v0 : (W.alloc (.cells #[.int .i64 b, .int .i64 ot] 39)).drew.cell? ⟨W.heap.size, 0, none⟩ = some (.int .i64 b) := by simp
            have v1 : (W.alloc (.cells #[.int .i64 b, .int .i64 ot] 39)).drew.cell? ⟨W.heap.size, 1, none⟩ = some (.int .i64 ot) := by simp
            have sV : (W.alloc (.cells #[.int .i64 b, .int .i64 ot] 39)).drew.heap.size = W.heap.size + 1 := by simp
            have bV : Below w5.heap.size w5 (W.alloc (.cells #[.int .i64 b, .int .i64 ot] 39)).drew := (hbd.out.alloc hbd.out.size _).drew
            obtain ⟨P, hP⟩ : ∃ P, P = W.heap.size := ⟨_, rfl⟩
            rw [← hP] at v0 v1 sV ⊢
            generalize World.drew _ = V at v0 v1 sV bV ⊢
            have V0 := Lib.hid v0
            have V1 := Lib.hid v1
            have SV := Lib.hid sV
            have BV := Lib.hid bV
            clear v0 v1 sV bV c0d c1d c0a c1a hsW hP
            go_loopw [16, 17] (fun f i wy => ∃ (j : Nat) (fd : Bool), j ≤ n ∧ i = .int .i64 j ∧ f = .bool fd ∧ Hid (∀ i', i' < j → L[i']? = some (b, ot) → fd = true) ∧ Below V.heap.size V wy) (fun _ i _ => n - (intOf i).toNat)
            case atStart => exact ⟨0, false, Nat.zero_le _, rfl, rfl, Lib.hid (fun i' h => by omega), Below.refl _ _⟩
            case round =>
              obtain ⟨j, fd, hj, rfl, rfl, hfd, hby⟩ := hrel
              by_cases hlt2 : j < n
              · obtain ⟨⟨x1, x2⟩, hx2⟩ : ∃ x, L[j]? = some x := ⟨_, List.getElem?_eq_getElem (by have := HN.out; omega)⟩
                obtain ⟨gg, eg, -, -, -, d0, d1⟩ := ((HLIE5.out.new BV.out).new hby).place HN.out hx2
                injection eg with eg
                injection eg with eg
                subst eg
                have sV := SV.out
                have e0 := (hby.cell (p := ⟨P, 0, none⟩) (by show P < _; omega)).trans V0.out
                have e1 := (hby.cell (p := ⟨P, 1, none⟩) (by show P < _; omega)).trans V1.out
                have i0 : (0 : Int) ≤ (j : Int) := by omega
                have i1 : (j : Int) < (n : Int) := by omega
                have HBY := Lib.hid hby
                have HX2 := Lib.hid hx2
                have HFD := hfd
                clear hby hx2 hfd sV
                cases fd
                · by_cases h1 : x1 = b
                  · subst h1
                    by_cases h2 : x2 = ot
                    · subst h2
                      go_wp2_with fail
                      go_quiet (fail)
                      go_wp2_with fail
                      go_roundw
                      case rel => exact ⟨j + 1, true, by omega, by go_num, rfl, Lib.hid (fun _ _ _ => rfl), belowPd HBY.out nq⟩
                      case measure => simp [intOf]; omega
                    · have z1 : (x2 == ot) = false := by simpa using h2
                      have z2 : decide (x2 = ot) = false := decide_eq_false h2
                      have H2 := Lib.hid h2
                      clear h2
                      go_wp2_with fail
                      go_quiet (fail)
                      go_wp2_with fail
                      go_roundw
                      case rel => exact ⟨j + 1, false, by omega, by go_num, rfl, Lib.hid (fun i' hi' hx' => by
                        by_cases e : i' = j
                        · subst e; rw [HX2.out] at hx'; simp at hx'; exact absurd hx' H2.out
                        · exact HFD.out i' (by omega) hx'), belowPd HBY.out nq⟩
                      case measure => simp [intOf]; omega
                  · have z1 : (x1 == b) = false := by simpa using h1
                    have z2 : decide (x1 = b) = false := decide_eq_false h1
                    have H2 := Lib.hid h1
                    clear h1
                    go_wp2_with fail
                    go_quiet (fail)
                    go_wp2_with fail
                    go_roundw
                    case rel => exact ⟨j + 1, false, by omega, by go_num, rfl, Lib.hid (fun i' hi' hx' => by
                        by_cases e : i' = j
                        · subst e; rw [HX2.out] at hx'; simp at hx'; exact absurd hx'.1 H2.out
                        · exact HFD.out i' (by omega) hx'), belowPd HBY.out nq⟩
                    case measure => simp [intOf]; omega
                · go_wp2_with fail
                  go_quiet (fail)
                  go_wp2_with fail
                  go_roundw
                  case rel => exact ⟨j + 1, true, by omega, by go_num, rfl, Lib.hid (fun _ _ _ => rfl), belowPd HBY.out nq⟩
                  case measure => simp [intOf]; omega
              · obtain rfl : n = j := by omega
                have hft : fd = true := by
                  have hm : (b, ot) ∈ L := by rw [HOT.out]; exact HMEM.out
                  obtain ⟨i', hi'⟩ := List.getElem?_of_mem hm
                  have hil : i' < L.length := by
                    rcases Nat.lt_or_ge i' L.length with h' | h'
                    · exact h'
                    · rw [List.getElem?_eq_none h'] at hi'; simp at hi'
                  exact hfd.out i' (by have := HN.out; omega) hi'
                subst hft
                have HBY := Lib.hid (BV.out.trans (hby.mono (by have := BV.out.size; omega)))
                clear hby hfd
                go_wp2_with fail
                go_roundw
                case rel => exact ⟨k + 1, by omega, by go_num, HBY.out⟩
                case measure => simp [intOf]; omega
      · obtain rfl : n = k := by omega
        obtain ⟨gg, eg, hgs, -, hnn, c0, c1⟩ := (HLIE5.out.new hbr).place HN.out F6.out
        injection eg with eg
        injection eg with eg
        subst eg
        have hfin := (HB5.out.trans (hbr.mono (by have := HB5.out.size; omega)))
        have HF := Lib.hid hfin
        have CB := Lib.hid (fun W => bucket_any h o W t1 t2)
        generalize bkt h o = kb at *
        have jn : (0 : Int) < (n : Int) := by omega
        have jn' : 0 < n := by omega
        clear hfin hbr
        go_wp2_with fail
        go_region_held3 (fun w' => w'.cell? ⟨g, 0, none⟩ = some (.int .i64 o) ∧ w'.cell? ⟨g, 1, none⟩ = some (.int .i64 kb))
          (first | exact ⟨by assumption, by assumption⟩)
          (first
            | (go_at_call 51; ((with_reducible refine (CB.out _).mono ?_); rintro e w6 ⟨rfl, rfl⟩))
            | (go_at_call 31; refine (lives08 _).mono ?_; rintro e w7 ⟨rfl, K7⟩; replace c0 := (K7.cell (p := ⟨g, 0, none⟩) hgs).trans c0; replace c1 := (K7.cell (p := ⟨g, 1, none⟩) hgs).trans c1; have HB7 := Lib.hid (below_then HF.out.drew K7); clear K7))
        go_wp2_with fail
        go_ret
        exact ⟨rfl, HB7.out⟩
end Go.Proofs.Yteofbgbjibbdaac
