/- FeedsPlay: whatever bytes, in whatever chunks, are told as the chapter tells them. -/
import Derived.Test.YtifbcejekdhnlaaRe9
import Derived.Deep.RegionHeld3
namespace Go.Proofs.Ytifbcejekdhnlaa
open Go.RowKit Go.Maps
set_option linter.unusedVariables false

set_option maxHeartbeats 8000000 in
set_option maxRecDepth 100000 in
theorem walk_FeedsPlay (a0 : Option Addr) (l0 c0 : Nat) (w : World) (w0 : Reads Try.prog w 22 (.slice a0 l0 c0)) :
    Calls Try.prog 3 #[.slice a0 l0 c0] w fun e w' => e = .returned (.bool true) ∧ Below w.heap.size w w' := by
  obtain ⟨Ls, hl, hlc, hlm, hch⟩ := open_bys (P := Try.prog) Try.underlying22 (by kernel_rfl) (by kernel_rfl) Try.underlying23 (by kernel_rfl) (by kernel_rfl) w0
  subst hl
  obtain ⟨m, hm⟩ : ∃ m, m = Ls.length := ⟨_, rfl⟩
  rw [← hm] at hlc hch ⊢
  unfold maxLen at hlm
  have HM := Lib.hid hm
  have HCH := Lib.hid hch
  have hsz : (Try.prog.info? 5).map (·.size) = some 1 := by kernel_rfl
  clear w0 hch hm
  go_enter Try.func3, Try.ntmps3
  go_wp2_with fail
  go_loopw [3, 4] (fun v i wr => ∃ k n : Nat, k ≤ m ∧ v = .int .i64 n ∧ i = .int .i64 k ∧ wr = w ∧ Hid (n = totF (Ls.take k)) ∧ n ≤ 18001) (fun _ i _ => m - (intOf i).toNat)
  case atStart => exact ⟨0, 0, by omega, rfl, rfl, rfl, rfl, by omega⟩
  case round =>
    obtain ⟨k, n, hk, rfl, rfl, hww, hN, hn⟩ := hrel
    obtain rfl := hww.symm
    by_cases hgo : k < m ∧ n ≤ 9000
    · obtain ⟨hlt, hn9⟩ := hgo
      obtain ⟨gl, off, rfl, hgl, hx⟩ := HCH.out (by omega)
      obtain ⟨x, hxk⟩ : ∃ x, Ls[k]? = some x := ⟨_, List.getElem?_eq_getElem (by rw [← HM.out]; exact hlt)⟩
      obtain ⟨A, c, cx, hc, hcm, -, -⟩ := hx k x hxk
      have d1 : decide ((k : Int) < (m : Int)) = true := decide_eq_true (by omega)
      have d2 : decide ((n : Int) ≤ 9000) = true := decide_eq_true (by omega)
      have hN2 := Lib.hid (totF_next hxk)
      obtain ⟨xl, hxl⟩ : ∃ xl, xl = x.length := ⟨_, rfl⟩
      rw [← hxl] at cx hN2 hc
      clear hx hxk hxl
      go_wp2_with fail
      go_roundw
      case rel => exact ⟨k + 1, n + min xl 9001, by omega, by first | go_num | (congr 1; split <;> omega), by go_num, trivial, by show _ = _; rw [hN2.out, ← hN.out], by omega⟩
      case measure => simp [intOf]; omega
    · by_cases hin : m ≤ 40 ∧ n ≤ 9000
      · obtain ⟨h40, h9⟩ := hin
        obtain rfl : k = m := by omega
        have d1 : decide ((k : Int) < (k : Int)) = false := decide_eq_false (by omega)
        have d3 : decide ((40 : Int) < (k : Int)) = false := decide_eq_false (by omega)
        have d4 : decide ((9000 : Int) < (n : Int)) = false := decide_eq_false (by omega)
        have htk : Ls.take k = Ls := List.take_of_length_le (by rw [← HM.out]; exact Nat.le_refl _)
        have hfl : Ls.flatten.length ≤ 9000 := totF_flat Ls (by have := hN.out; rw [htk] at this; omega)
        have HFL := Lib.hid hfl
        clear hgo htk hN hfl
        go_wp2_with fail
        refine (newFd w).mono ?_
        rintro e W0 ⟨rfl, f0, hb0⟩
        obtain ⟨q, hq⟩ : ∃ q, q = w.heap.size := ⟨_, rfl⟩
        rw [← hq] at f0 ⊢
        have HF0 := Lib.hid (And.intro f0 hb0)
        have HQ := Lib.hid hq
        clear f0 hb0 hq
        go_upto_region 10 with (fail)
        have hR1 := rf_new W0
        have hb1 : Below W0.heap.size W0 (W0.alloc (.cells #[.slice none 0 0, .int .i64 0] 29)) := (Below.refl _ _).alloc (Nat.le_refl _) _
        generalize W0.alloc _ = W1 at *
        obtain ⟨p, hp⟩ : ∃ p, p = W0.heap.size := ⟨_, rfl⟩
        rw [← hp] at hR1 ⊢
        have hP1 : Pf w W1 q p p (fun j => j = q) Fst.new (.slice none 0 0) (.slice none 0 0) [] := by
          obtain ⟨f0, hb0⟩ := HF0.out
          have := f0.lt q rfl
          have hq := HQ.out
          exact ⟨f0.new hb1, hR1, by show ¬ p = q; omega, by show ¬ p = q; omega, fun j e => by (have e : j = q := e); omega, hb0.trans (hb1.mono hb0.size), by rw [hp]; exact hb0.size⟩
        have HP1 := Lib.hid hP1
        clear hR1 hb1 HF0 hP1 hp HQ
        go_wp2_with fail
        go_loopw [7] (fun i wx => ∃ (j g : Nat) (U : Nat → Prop) (hv kv : Value), j ≤ k ∧ i = .int .i64 j ∧ Hid (Pf w wx q p g U (feedF Fst.new (Ls.take j).flatten).1 hv kv (Ls.take j).flatten)) (fun i _ => k - (intOf i).toNat)
        case atStart => exact ⟨0, p, _, _, _, by omega, rfl, HP1.out⟩
        case round =>
          obtain ⟨j, g, U, hv, kv, hj, rfl, hP⟩ := hrel
          by_cases hlt : j < k
          · obtain ⟨gl, off, rfl, hgl, hx⟩ := HCH.out (by omega)
            obtain ⟨x, hxk⟩ : ∃ x, Ls[j]? = some x := ⟨_, List.getElem?_eq_getElem (by rw [← HM.out]; exact hlt)⟩
            obtain ⟨A, c, cx0, hc, hcm, hA0, hrx⟩ := hx j x hxk
            have hfn := flat_next hxk
            have hfl2 := flat_len Ls (j + 1)
            rw [hfn, List.length_append] at hfl2
            obtain ⟨all, hall⟩ : ∃ all, all = (Ls.take j).flatten := ⟨_, rfl⟩
            rw [← hall] at hP hfn hfl2
            have hln : all.length + x.length ≤ 9000 := by have := HFL.out; omega
            have hxl : x.length ≤ 9000 := by omega
            have HFN := Lib.hid hfn
            have HCX := Lib.hid (fun W (hb : Below w.heap.size w W) => (hb.cell (p := ⟨gl, off + j, none⟩) hgl).trans cx0)
            have HRX := Lib.hid (fun W (hb : Below w.heap.size w W) => (hrx.below hb (Nat.le_refl _)).mono hb.size)
            have cx := HCX.out wr hP.out.base
            have hrw := HRX.out wr hP.out.base
            have hln2 : ([] : List UInt8).length + x.length ≤ 1048576 := by simp; omega
            clear hx hxk cx0 hrx hfn hfl2 hall
            go_upto_region 14 with (at_builtin; refine wpList_append_by _ rfl (.const (.slice none 0 0)) (.tmp 48) 23 rfl wr.heap.size 5 Try.underlying23 info_u8 (.slice none 0 0) [] rfl (World.ownsRow_nil _ _ _ _) wr.heap.size A x c rfl hrw hA0 hln2 (Nat.le_refl _) ?_; intro v8 W2 hown8 hgr8 hnil8; rw [List.nil_append] at hown8; have hb8 : Below wr.heap.size wr W2 := (Below.refl _ _).grown hgr8 (Nat.le_refl _) (fun k e => by simp [Value.ownBlock] at e); clear hgr8 hnil8)
            obtain ⟨a8, c8, rfl, hn8, hm8, ha8⟩ := row_slice hown8
            have hC2 := cpy_of hP.out hown8
            have hP2 := hP.out.new hb8
            have hr8 := own_rd8 hown8
            have hdr : Below W2.heap.size W2 W2.drew := (Below.refl _ _).drew
            have hPd := hP2.new hdr
            have hCd := hC2.new hdr
            have hrd : Rd W2.drew W2.drew.heap.size a8 x := hr8
            have hlo := fun b => hown8.lt b
            have s0 := HCX.out _ hPd.base
            obtain ⟨s2, hs2⟩ : ∃ s2, s2 = (feedF (feedF Fst.new all).1 x).1 := ⟨_, rfl⟩
            have hs2a : (feedF Fst.new (all ++ x)).1 = s2 := by rw [hs2, feedF_append]
            have hev2 : (feedF Fst.new (all ++ x)).2 = (feedF Fst.new all).2 ++ (feedF (feedF Fst.new all).1 x).2 := by rw [feedF_append]
            have hin := inw q U _ hv kv a8 c8 x W2.drew hPd.fd (FOk.new.feed all) ⟨hn8, hm8⟩ (by omega) hrd (fun b o e h0 u => by
              have := (hlo b (by rw [e]; rfl)).1
              have := hP.out.fd.lt b u
              omega)
            have hok := evOk_feed x (feedF Fst.new all).1
            have hpl : (feedF (feedF Fst.new all).1 x).2.length ≤ 1048576 := by have := feedF_count (feedF Fst.new all).1 x; omega
            have hsl : s2.held.length ≤ 2048 := by rw [← hs2a]; exact feed_ok _
            have HIN := Lib.hid hin
            have HPd := Lib.hid (And.intro hPd hCd)
            have HOK := Lib.hid (And.intro hok hpl)
            have HS2 := Lib.hid (And.intro hs2 hs2a)
            clear hin hPd hCd hok hpl hs2a hC2 hP2 hr8 hrd hlo hown8 hb8 hP hrw hev2 hs2 hdr cx
            have hax : (all ++ x).length ≤ 100000 := by rw [List.length_append]; omega
            go_region_held3 (fun X => X.cell? ⟨gl, off + j, none⟩ = some (.slice A x.length c)) (first | with_reducible exact s0 | assumption)
              (first
                | (go_at_call 10; ((with_reducible refine HIN.out.mono ?_); rintro e X3 ⟨U3, hv3, kv3, v3, ps3, rfl, f3, k3, g3, hp3, e3⟩; obtain ⟨a3, rfl⟩ := e3.form; have hP3 := HPd.out.1.in_ f3 k3 g3; rw [← HS2.out.1] at hP3; have HP3 := Lib.hid (And.intro hP3 (HPd.out.2.keep k3 (fun b hb _ => hb) g3 (.inl rfl))); have HE3 := Lib.hid (And.intro hp3 e3); clear s0; have s0 := HCX.out _ HP3.out.1.base; have HIN4 := Lib.hid (rinw p g all x A c X3 HP3.out.1.rf hax (HRX.out _ HP3.out.1.base) hA0); clear f3 k3 g3 hp3 e3 hP3))
                | (go_at_call 11; ((with_reducible refine HIN4.out.mono ?_); rintro e X4 ⟨v4, ps4, g4, rfl, e4, hp4, r4, k4, hg4⟩; have HP4 := Lib.hid (And.intro (HP3.out.1.rin r4 k4 hg4) (HP3.out.2.keep k4 (fun b _ hbp e => hbp e) (fun _ u => .inl u) (.inr hg4))); have HS4 := Lib.hid (pl_same HPd.out.1 HP3.out.1 HE3.out.1 HE3.out.2 hp4 e4 k4 HOK.out.1 HOK.out.2); clear s0; have s0 := HCX.out _ HP4.out.1.base; clear e4 hp4 r4 k4 hg4))
                | (go_at_call 9; ((with_reducible refine HS4.out.mono ?_); rintro e X5 ⟨rfl, hb5⟩; have HP5 := Lib.hid (And.intro (HP4.out.1.new hb5) (HP4.out.2.new hb5)); clear s0; have s0 := HCX.out _ HP5.out.1.base; have HL5 := Lib.hid (leftw q s2 hv3 kv3 X5 HP5.out.1.fd.cells HP5.out.1.fd.row hsl); have hl6 := rleftw p g4 (all ++ x) X5 HP5.out.1.rf hax; rw [HS2.out.2] at hl6; have HL6 := Lib.hid hl6; clear hb5 hl6))
                | (go_at_call 12; ((with_reducible refine HL5.out.mono ?_); rintro e X6 ⟨rfl, rfl⟩))
                | (go_at_call 13; ((with_reducible refine HL6.out.mono ?_); rintro e X7 ⟨rfl, hb7⟩; have HP7 := Lib.hid (And.intro (HP5.out.1.new hb7) (HP5.out.2.new hb7)); clear s0; have s0 := HCX.out _ HP7.out.1.base; clear hb7)))
            clear s0
            go_wp2_with fail
            obtain ⟨nx, hnx⟩ : ∃ nx, nx = x.length := ⟨_, rfl⟩
            have hP7 := HP7.out
            have HNX := Lib.hid hnx
            rw [← hnx] at hxl hc ⊢
            clear HP5 HP4 HP3 HPd HIN HIN4 HS4 HL5 HL6 HE3 HOK hn8 hm8 ha8 HP7 hnx hln2 hln hax
            go_loopw [9] (fun i wx => ∃ t : Nat, t ≤ nx ∧ i = .int .i64 t ∧ Hid (Pf w wx q p g4 U3 s2 hv3 kv3 (all ++ x) ∧ Cpy w wx a8 t x p g4 U3)) (fun i _ => nx - (intOf i).toNat)
            case atStart => exact ⟨0, by omega, rfl, hP7⟩
            case round =>
              obtain ⟨t, ht, rfl, hQ⟩ := hrel
              by_cases htl : t < nx
              · have htx : t < x.length := by rw [← HNX.out]; exact htl
                obtain ⟨b8, rfl, hc8, hb8⟩ := hQ.out.2 (by omega)
                obtain ⟨cb, fb⟩ := hc8.cell t htx (Nat.le_refl _)
                obtain ⟨gA, oA, rfl, hgA, hcA⟩ := HRX.out wr hQ.out.1.base (by omega)
                have cA := hcA t htx
                have cx := HCX.out wr hQ.out.1.base
                rw [← HNX.out] at cx
                have htm : (t : Int) < (nx : Int) := by omega
                have hjm : (j : Int) < (k : Int) := by omega
                obtain ⟨y, hy⟩ : ∃ y, y = x[t] := ⟨_, rfl⟩
                rw [← hy] at cb cA
                have HQ := Lib.hid hQ.out
                have HC8 := Lib.hid (And.intro hc8 hb8)
                clear hcA hy htx hc8 hb8 hQ
                go_wp2_with fail
                go_quiet (fail)
                have hdn : Below wr.heap.size wr (wr.drewN nq) := belowNf (Below.refl _ _) nq
                have hPn := HQ.out.1.new hdn
                have hCn := (HC8.out.1).keep (T := fun _ => False) (Keeps.of_new hdn) (fun e => e)
                have HPn := Lib.hid hPn
                have HCn := Lib.hid hCn
                clear hPn hCn hdn
                go_wp2
                go_roundw
                case rel => exact ⟨t + 1, by omega, by go_num, HPn.out.write HCn.out HC8.out.2, fun h0 => ⟨b8, rfl, HCn.out.set (by rw [← HNX.out]; exact htl), HC8.out.2⟩⟩
                case measure => simp [intOf]; omega
              · obtain rfl : t = nx := by omega
                have d5 : decide ((t : Int) < (t : Int)) = false := decide_eq_false (by omega)
                have HQ := Lib.hid hQ.out.1
                clear hQ
                go_wp2_with fail
                go_roundw
                case rel => exact ⟨j + 1, g4, U3, hv3, kv3, by omega, by go_num, by rw [HFN.out, HS2.out.2]; exact HQ.out⟩
                case measure => simp [intOf]; omega
          · obtain rfl : j = k := by omega
            have d5 : decide ((j : Int) < (j : Int)) = false := decide_eq_false (by omega)
            have HBB := Lib.hid hP.out.base
            clear hP
            go_wp2_with fail
            refine (lives30 wr).mono ?_
            rintro e w1 ⟨rfl, hb⟩
            have HB := Lib.hid (HBB.out.trans (hb.mono HBB.out.size))
            clear hb
            go_wp2_with fail
            go_ret
            exact ⟨rfl, HB.out⟩
      · have hcase : (k < m ∧ 9000 < n) ∨ (k = m ∧ 40 < m) ∨ (k = m ∧ m ≤ 40 ∧ 9000 < n) := by omega
        clear hgo hin
        rcases hcase with ⟨h1, h2⟩ | ⟨rfl, h2⟩ | ⟨rfl, h2, h3⟩
        · have d1 : decide ((k : Int) < (m : Int)) = true := decide_eq_true (by omega)
          have d2 : decide ((n : Int) ≤ 9000) = false := decide_eq_false (by omega)
          have d2n : decide (n ≤ 9000) = false := decide_eq_false (by omega)
          have d4 : decide ((9000 : Int) < (n : Int)) = true := decide_eq_true (by omega)
          have d4n : decide (9000 < n) = true := decide_eq_true (by omega)
          by_cases h40 : 40 < m
          · have d3 : decide ((40 : Int) < (m : Int)) = true := decide_eq_true (by omega)
            go_wp2_with fail
            refine (lives30 w).mono ?_
            rintro e w1 ⟨rfl, hb⟩
            have HB := Lib.hid hb
            clear hb
            go_wp2_with fail
            go_ret
            exact ⟨rfl, HB.out⟩
          · have d3 : decide ((40 : Int) < (m : Int)) = false := decide_eq_false (by omega)
            go_wp2_with fail
            refine (lives30 w).mono ?_
            rintro e w1 ⟨rfl, hb⟩
            have HB := Lib.hid hb
            clear hb
            go_wp2_with fail
            go_ret
            exact ⟨rfl, HB.out⟩
        · have d1 : decide ((k : Int) < (k : Int)) = false := decide_eq_false (by omega)
          have d3 : decide ((40 : Int) < (k : Int)) = true := decide_eq_true (by omega)
          go_wp2_with fail
          refine (lives30 w).mono ?_
          rintro e w1 ⟨rfl, hb⟩
          have HB := Lib.hid hb
          clear hb
          go_wp2_with fail
          go_ret
          exact ⟨rfl, HB.out⟩
        · have d1 : decide ((k : Int) < (k : Int)) = false := decide_eq_false (by omega)
          have d3 : decide ((40 : Int) < (k : Int)) = false := decide_eq_false (by omega)
          have d4 : decide ((9000 : Int) < (n : Int)) = true := decide_eq_true (by omega)
          go_wp2_with fail
          refine (lives30 w).mono ?_
          rintro e w1 ⟨rfl, hb⟩
          have HB := Lib.hid hb
          clear hb
          go_wp2_with fail
          go_ret
          exact ⟨rfl, HB.out⟩
end Go.Proofs.Ytifbcejekdhnlaa
