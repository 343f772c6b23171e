/- FeedsMend: bytes 10 bring a feed back. -/
import Derived.Test.YtifbcejekdhnlaaFq
import Derived.StillTailTactics
namespace Go.Proofs.Ytifbcejekdhnlaa
open Go.RowKit Go.Maps Go.Shelf
set_option linter.unusedVariables false

theorem info_u8m : (Try.prog.info? 5).map (fun i => (i.zero, i.size, i.bytes)) = some (some (.int .u8 0), 1, 1) := by kernel_rfl
theorem msg_both (K : ByteArray) : ((⟨#[110, 111, 32, 115, 117, 99, 104, 32, 118, 101, 114, 98, 10, 103, 101, 116, 32]⟩ : ByteArray) ++ K ++ (⟨#[10]⟩ : ByteArray)).data.toList = badL ++ getL K.data.toList := by
  simp [badL, getL]
theorem msg_get (K : ByteArray) : ((⟨#[103, 101, 116, 32]⟩ : ByteArray) ++ K ++ (⟨#[10]⟩ : ByteArray)).data.toList = getL K.data.toList := by
  simp [getL]
theorem rd_ten (w : World) (T : TypeId) : Rd (w.alloc (.cells #[.int .u8 10] T)) (w.heap.size + 1) (some ⟨w.heap.size, 0, none⟩) [10] := fun _ => ⟨_, _, rfl, by omega, fun j hj => by
  have : j = 0 := by simp at hj; omega
  subst this
  simp⟩
set_option maxHeartbeats 8000000 in
set_option maxRecDepth 100000 in
theorem walk_FeedsMend (a0 : Option Addr) (l0 c0 : Nat) (a1 : ByteArray) (w : World) (w0 : Reads Try.prog w 23 (.slice a0 l0 c0)) (w1 : a1.size ≤ maxLen) :
    Calls Try.prog 6 #[.slice a0 l0 c0, .string a1] w fun e w' => e = .returned (.bool true) ∧ Below w.heap.size w w' := by
  obtain ⟨L, rfl, hLc, hLm, hA0, hrL⟩ := open_by (P := Try.prog) Try.underlying23 (by kernel_rfl) (by kernel_rfl) w0
  have HA0 := Lib.hid hA0
  have HRL := Lib.hid hrL
  have hLm' := hLm
  unfold maxLen at hLm'
  clear w0 hA0 hrL
  obtain ⟨z, hz⟩ : ∃ z, z = a1.size := ⟨_, rfl⟩
  have w1' := w1
  unfold maxLen at w1'
  by_cases h3 : 3000 < L.length
  · have d3 : decide (3000 < (L.length : Int)) = true := decide_eq_true (by omega)
    go_enter Try.func6, Try.ntmps6
    go_wp2_with fail
    refine (lives30 _).mono ?_
    rintro e wz ⟨rfl, hbz⟩
    go_wp2_with fail
    go_ret
    exact ⟨rfl, hbz⟩
  have d3 : decide (3000 < (L.length : Int)) = false := decide_eq_false (by omega)
  by_cases h4 : 300 < a1.size
  · have d4 : decide (300 < (a1.size : Int)) = true := decide_eq_true (by omega)
    go_enter Try.func6, Try.ntmps6
    go_wp2_with fail
    refine (lives30 _).mono ?_
    rintro e wz ⟨rfl, hbz⟩
    go_wp2_with fail
    go_ret
    exact ⟨rfl, hbz⟩
  have d4 : decide (300 < (a1.size : Int)) = false := decide_eq_false (by omega)
  have hok := okF_eq a1.data.toList
  cases hk : okF a1.data.toList with
  | false =>
    rw [hk] at hok
    go_enter Try.func6, Try.ntmps6
    go_wp2_with (go_at_call 15; refine (okw _ _ w1).mono ?_; rintro e w' ⟨rfl, rfl⟩; rw [hok])
    refine (lives30 _).mono ?_
    rintro e wz ⟨rfl, hbz⟩
    go_wp2_with fail
    go_ret
    exact ⟨rfl, hbz⟩
  | true =>
    rw [hk] at hok
    have HK := Lib.hid hk
    clear hk
    have hbi := info_u8m
    have hmk := mk_tens
    go_enter Try.func6, Try.ntmps6
    go_wp2_with (first
      | (go_at_call 15; refine (okw _ _ w1).mono ?_; rintro e w' ⟨rfl, rfl⟩; rw [hok])
      | (at_builtin; refine wpList_append_byW w rfl (.const (.slice none 0 0)) (.tmp 26) 23 rfl w.heap.size 5 Try.underlying23 hbi (.slice none 0 0) [] rfl (World.ownsRow_nil _ _ _ _) w.heap.size a0 L c0 rfl HRL.out HA0.out (by simp; omega) (Nat.le_refl _) ?_; intro v27 w27 hown27 hg27 hn27; have hb27 : Below w.heap.size w w27 := (Below.refl _ _).grown hg27 (Nat.le_refl _) (by simp [Value.ownBlock]); rw [List.nil_append] at hown27; have HO27 := Lib.hid (And.intro hown27 hb27); clear hown27 hb27 hg27 hn27)
      | (at_builtin; refine wpList_append_byW (w27.alloc (.cells #[.int .u8 10] 5)) rfl (.tmp 27) (.tmp 28) 23 rfl w.heap.size 5 Try.underlying23 hbi v27 L rfl (HO27.out.1.alloc _) (w27.heap.size + 1) (some ⟨w27.heap.size, 0, none⟩) [10] 1 rfl (rd_ten w27 _) (fun h => by simp at h) (by simp; omega) (by have := HO27.out.2.size; simp; omega) ?_; intro v29 w29 hown29 hg29 hn29; have hb29 : Below w.heap.size w w29 := (HO27.out.2.alloc HO27.out.2.size _).grown hg29 (by have := HO27.out.2.size; simp; omega) (fun k hk => (HO27.out.1.lt k hk).1); obtain ⟨a29, c29, rfl, r1, r2, -⟩ := row_slice hown29; have HO29 := Lib.hid (And.intro hown29 hb29); clear hown29 hb29 hg29 hn29))
    have hlen : (L ++ [10]).length = L.length + 1 := by simp
    have hlg := largew a29 c29 (L ++ [10]) w29 r1 r2 (by omega) (rd_row HO29.out.1)
    rw [hlen] at hlg
    refine hlg.mono ?_
    rintro e w30 ⟨rfl, hb30⟩
    have HB30 := Lib.hid (HO29.out.2.trans (hb30.mono HO29.out.2.size))
    clear hlg hb30 HO27 HO29
    cases hlb : largeB (feedF Fst.new (L ++ [10])).2 with
    | true =>
      go_wp2_with fail
      refine (lives30 _).mono ?_
      rintro e wz ⟨rfl, hbz⟩
      go_wp2_with fail
      go_ret
      exact ⟨rfl, HB30.out.trans (hbz.mono HB30.out.size)⟩
    | false =>
      have HME := Lib.hid (mend (noLarge hlb))
      clear hlb hlen
      go_wp2_with fail
      refine (newFd w30).mono ?_
      rintro e W0 ⟨rfl, f0, hb0⟩
      obtain ⟨q0, hq0⟩ : ∃ q, w30.heap.size = q := ⟨_, rfl⟩
      have hb0' : Below w.heap.size w W0 := HB30.out.trans (hb0.mono HB30.out.size)
      have hq0w : w.heap.size ≤ q0 := by have := HB30.out.size; omega
      rw [hq0] at f0 ⊢
      have F0 := Lib.hid (And.intro f0 hb0')
      clear f0 hq0 hb0 hb0' HB30
      go_wp2_with fail
      obtain ⟨s1, es1, hf1⟩ : ∃ s1 es1, feedF Fst.new L = (s1, es1) := ⟨_, _, rfl⟩
      refine (inb q0 _ _ s1 _ _ a0 c0 L.length L es1 W0 F0.out.1 FOk.new rfl hLc hLm (by omega) ((HRL.out.below F0.out.2 (Nat.le_refl _)).mono F0.out.2.size) (by
        intro g o e h0 u
        obtain ⟨g', o', e', hg, _⟩ := HRL.out h0
        rw [e] at e'
        injection e' with e'
        injection e' with e1 _
        omega) hf1).mono ?_
      rintro e W1 ⟨U1, hv1, kv1, aa1, ps1, rfl, f1, k1, g1, -, -, -⟩
      have hok1 := FOk.new.feed L
      have hme := HME.out
      rw [hf1] at hok1 hme
      have hU1 : ∀ k, U1 k → w.heap.size ≤ k := fun k u => by rcases g1 k u with u | u <;> (have := F0.out.2.size; omega)
      have HB1 := Lib.hid (F0.out.2.trans (below_in (B := w.heap.size) k1 (fun k u => by omega) F0.out.2.size))
      have F1 := Lib.hid (And.intro f1 (And.intro hok1 (And.intro hme hU1)))
      clear f1 k1 g1 hok1 hme hU1 hf1 F0 HME
      go_wp2_with fail
      have hcb : Cb (W1.alloc (.cells (madeCells #[.int .u8 0] 1026) 5)) W1.heap.size (tensV 0 1026) := cb_new (made_tens 1026)
      have hbl : Below W1.heap.size W1 (W1.alloc (.cells (madeCells #[.int .u8 0] 1026) 5)) := (Below.refl _ _).alloc (Nat.le_refl _) _
      clear hmk hbi
      generalize W1.alloc (.cells (madeCells #[.int .u8 0] 1026) 5) = W2 at *
      obtain ⟨g, hg⟩ : ∃ g, W1.heap.size = g := ⟨_, rfl⟩
      rw [hg] at hcb hbl ⊢
      have HG := Lib.hid hg
      have HCB := Lib.hid hcb
      have HBL := Lib.hid hbl
      clear hcb hbl hg
      go_wp2_with fail
      go_loopw [7] (fun i wr => ∃ k : Nat, k ≤ 1026 ∧ i = .int .i64 k ∧ Below g W1 wr ∧ Hid (Cb wr g (tensV k 1026))) (fun i _ => 1026 - (intOf i).toNat)
      case atStart => exact ⟨0, by omega, rfl, HBL.out, HCB.out⟩
      case round =>
        obtain ⟨k, hk, rfl, hnx, hcb⟩ := hrel
        by_cases hlt : k < 1026
        · have hc0 := hcb.out.at_ k _ (tensV_at hlt)
          have hf0 := hcb.out.fz k (by rw [tensV_len hk]; exact hlt)
          have HN := Lib.hid (show Below g W1 (wr.setCell ⟨g, k, none⟩ (.int .u8 10)) from hnx.setCell (by show g ≤ g; omega) _)
          have HC := Lib.hid (hcb.out.set k (.int .u8 10) (by rw [tensV_len hk]; exact hlt) (tensV_set hlt))
          clear hcb hnx
          go_wp2_with fail
          go_roundw
          case rel => exact ⟨k + 1, by omega, by go_num, HN.out, HC.out⟩
          case measure => simp [intOf]; omega
        · have hd : decide ((k : Int) < 1026) = false := decide_eq_false (by omega)
          obtain rfl : k = 1026 := by omega
          have HT := Lib.hid (tens_rd hcb.out)
          have hfd := F1.out.1.new (by rw [HG.out]; exact hnx)
          have HF := Lib.hid hfd
          have HBW := Lib.hid (HB1.out.trans (hnx.mono (by have := HB1.out.size; have := HG.out; omega)))
          have hok1 := F1.out.2.1
          obtain ⟨es2, hf2⟩ : ∃ es2, feedF s1 (List.replicate 1026 10) = (Fst.at 0, es2) := ⟨(feedF s1 (List.replicate 1026 10)).2, Prod.ext F1.out.2.2.1 rfl⟩
          have HF2 := Lib.hid hf2
          have HU1 := Lib.hid (And.intro F1.out.2.2.2 (fun u => by have := F1.out.1.lt g u; have := HG.out; omega : ¬ U1 g))
          clear hcb hnx hfd hf2 HCB HBL F1 HB1
          go_wp2_with fail
          refine (inb q0 U1 s1 (Fst.at 0) _ _ (some ⟨g, 0, none⟩) 1026 1026 (List.replicate 1026 10) es2 wr HF.out hok1 (by rw [List.length_replicate]) (by omega) (by unfold maxLen; omega) (by omega) HT.out (fun g' o e _ u => by injection e with e; injection e with e1 _; subst e1; exact HU1.out.2 u) HF2.out).mono ?_
          rintro e W3 ⟨U3, hv3, kv3, aa3, ps3, rfl, f3, k3, g3, -, -, -⟩
          have hU3 : ∀ k, U3 k → w.heap.size ≤ k := fun k u => by
            rcases g3 k u with u | u
            · exact HU1.out.1 k u
            · have := HBW.out.size; omega
          have HB3 := Lib.hid (HBW.out.trans (below_in (B := w.heap.size) k3 HU1.out.1 HBW.out.size))
          have F3 := Lib.hid (And.intro f3 hU3)
          clear f3 k3 g3 hU3 HT HF hok1 HF2 HU1 HBW
          go_wp2_with fail
          refine (leftw q0 (Fst.at 0) _ _ W3 F3.out.1.cells F3.out.1.row (by simp [Fst.at])).mono ?_
          rintro e wy ⟨rfl, rfl⟩
          rw [show ((leftF (Fst.at 0) : Nat) : Int) = 0 by rfl]
          obtain ⟨lb, hlb⟩ : ∃ n, (badL ++ getL a1.data.toList).length = n := ⟨_, rfl⟩
          have hla : a1.data.toList.length = a1.size := Array.length_toList
          have hlb2 : lb = a1.size + 18 := by rw [← hlb]; simp only [badL, getL, List.length_append, List.length_cons, List.length_nil, hla]; omega
          have HLB := Lib.hid hlb
          clear hlb
          go_wp2_with (first
            | (refine wpList_bytes rfl 9 23 5 (.tmp 55) rfl Try.underlying9 Try.underlying23 Try.underlying5 _ (badL ++ getL a1.data.toList) rfl (msg_both a1) (by rw [HLB.out]; unfold maxLen; omega) ?_; intro c56 W4 hc56 hcm56 hb56 hr56; rw [HLB.out]; rw [HLB.out] at hc56; have HR56 := Lib.hid (And.intro hb56 hr56); clear hb56 hr56))
          rw [hlb2] at hc56 HLB
          refine (inb q0 U3 (Fst.at 0) (Fst.at 0) _ _ (some ⟨W3.heap.size, 0, none⟩) c56 (a1.size + 18) (badL ++ getL a1.data.toList) _ W4 (F3.out.1.new HR56.out.1) (FOk.at 0 (by omega) (by omega) (by omega)) HLB.out hc56 hcm56 (by omega) HR56.out.2 (fun g' o e _ u => by injection e with e; injection e with e1 _; have := F3.out.1.lt g' u; omega) (both_feed HK.out)).mono ?_
          rintro e W5 ⟨U5, hv5, kv5, aa5, ps5, rfl, f5, k5, g5, hp5, hR5, -⟩
          obtain ⟨kx, ky, rfl⟩ := two_of hp5
          have hW34 : Below w.heap.size w W4 := HB3.out.trans (HR56.out.1.mono HB3.out.size)
          have HB5 := Lib.hid (hW34.trans (below_in (B := w.heap.size) k5 F3.out.2 hW34.size))
          have HR5 := Lib.hid hR5
          clear f5 k5 g5 hp5 hR5 hW34 HR56 F3 HB3 HLB hlb2 hc56
          simp only [List.length_cons, List.length_nil, Nat.zero_add, Nat.reduceAdd] at HR5 ⊢
          go_wp2_with fail
          refine (newFd W5).mono ?_
          rintro e W6 ⟨rfl, f6, hb6⟩
          obtain ⟨q6, hq6⟩ : ∃ q, W5.heap.size = q := ⟨_, rfl⟩
          have F6 := Lib.hid (And.intro f6 (And.intro hb6 hq6))
          rw [hq6]
          clear f6 hb6 hq6
          obtain ⟨lg, hlg⟩ : ∃ n, (getL a1.data.toList).length = n := ⟨_, rfl⟩
          have hlg2 : lg = a1.size + 5 := by rw [← hlg]; simp only [getL, List.length_append, List.length_cons, List.length_nil, hla]; omega
          have HLG := Lib.hid hlg
          clear hlg
          go_wp2_with (first
            | (refine wpList_bytes rfl 9 23 5 (.tmp 62) rfl Try.underlying9 Try.underlying23 Try.underlying5 _ (getL a1.data.toList) rfl (msg_get a1) (by rw [HLG.out]; unfold maxLen; omega) ?_; intro c63 W7 hc63 hcm63 hb63 hr63; rw [HLG.out]; rw [HLG.out] at hc63; have HR63 := Lib.hid (And.intro hb63 hr63); clear hb63 hr63))
          rw [hlg2] at hc63 HLG
          have f6 := F6.out.1
          rw [F6.out.2.2] at f6
          refine (inb q6 _ (Fst.at 0) (Fst.at 0) _ _ (some ⟨W6.heap.size, 0, none⟩) c63 (a1.size + 5) (getL a1.data.toList) _ W7 (f6.new HR63.out.1) (FOk.at 0 (by omega) (by omega) (by omega)) HLG.out hc63 hcm63 (by omega) HR63.out.2 (fun g' o e _ u => by injection e with e; injection e with e1 _; have := f6.lt g' u; omega) (get_feed HK.out)).mono ?_
          rintro e W8 ⟨U8, hv8, kv8, aa8, ps8, rfl, f8, k8, g8, hp8, hR8, -⟩
          obtain ⟨kz, rfl⟩ := one_of hp8
          have hW56 : Below W5.heap.size W5 W6 := F6.out.2.1
          have hW57 : Below W5.heap.size W5 W7 := hW56.trans (HR63.out.1.mono hW56.size)
          have hW58 : Below W5.heap.size W5 W8 := hW57.trans (below_in (B := W5.heap.size) k8 (fun k u => by have := F6.out.2.2; omega) hW57.size)
          have HB8 := Lib.hid (HB5.out.trans (hW58.mono HB5.out.size))
          have HR5' := Lib.hid (HR5.out.on hW58)
          have HR8 := Lib.hid hR8
          clear f6 f8 k8 g8 hp8 hR8 hW56 hW57 hW58 HR63 F6 HB5 HLG hlg2 hc63 HR5
          simp only [List.length_cons, List.length_nil, Nat.zero_add] at HR8 ⊢
          obtain ⟨gl, rfl, hgl, hcl⟩ := HR5'.out.cells (by simp)
          obtain ⟨gw, rfl, hgw, hcw⟩ := HR8.out.cells (by simp)
          have t0 := hcl 0 _ rfl 12 _ rfl
          have z := hcl 1 _ rfl
          have y := hcw 0 _ rfl
          have z0 := z 0 _ rfl; have z1 := z 1 _ rfl; have z2 := z 2 _ rfl; have z3 := z 3 _ rfl; have z4 := z 4 _ rfl; have z5 := z 5 _ rfl; have z6 := z 6 _ rfl; have z7 := z 7 _ rfl; have z8 := z 8 _ rfl; have z9 := z 9 _ rfl; have z10 := z 10 _ rfl; have z11 := z 11 _ rfl; have z12 := z 12 _ rfl
          have y0 := y 0 _ rfl; have y1 := y 1 _ rfl; have y2 := y 2 _ rfl; have y3 := y 3 _ rfl; have y4 := y 4 _ rfl; have y5 := y 5 _ rfl; have y6 := y 6 _ rfl; have y7 := y 7 _ rfl; have y8 := y 8 _ rfl; have y9 := y 9 _ rfl; have y10 := y 10 _ rfl; have y11 := y 11 _ rfl; have y12 := y 12 _ rfl
          clear z y hcl hcw
          simp only [Nat.zero_mul, Nat.one_mul, Nat.zero_add, Nat.add_zero, Nat.reduceAdd] at t0 z0 z1 z2 z3 z4 z5 z6 z7 z8 z9 z10 z11 z12 y0 y1 y2 y3 y4 y5 y6 y7 y8 y9 y10 y11 y12
          go_wp2_with fail
          go_still_tail 26, (by kernel_rfl)
          change wpList _ _ _ _ _ W8.drew
          have hdr : Below W8.heap.size W8 W8.drew := (Below.refl _ _).drew
          have KL := Lib.hid ((HR5'.out.keys (⟨getC a1.data.toList, [], 0⟩, ky) (by simp)).on hdr)
          have KW := Lib.hid ((HR8.out.keys (⟨getC a1.data.toList, [], 0⟩, kz) (by simp)).on hdr)
          have HBd := Lib.hid (HB8.out.trans (hdr.mono HB8.out.size))
          generalize W8.drew = wd at *
          clear z0 z1 z2 z3 z4 z5 z6 z7 z8 z9 z10 z11 z12 y0 y1 y2 y3 y4 y5 y6 y7 y8 y9 y10 y11 y12 t0 hdr HR5' HR8 HB8
          go_wp2_with fail
          refine (likew ⟨getC a1.data.toList, [], 0⟩ ky kz wd KL.out KW.out).mono ?_
          rintro e wx ⟨rfl, hbx⟩
          go_wp2_with fail
          refine (lives30 _).mono ?_
          rintro e wz ⟨rfl, hbz⟩
          go_wp2_with fail
          go_ret
          have h1 := HBd.out.trans (hbx.mono HBd.out.size)
          exact ⟨rfl, h1.trans (hbz.mono h1.size)⟩
end Go.Proofs.Ytifbcejekdhnlaa
