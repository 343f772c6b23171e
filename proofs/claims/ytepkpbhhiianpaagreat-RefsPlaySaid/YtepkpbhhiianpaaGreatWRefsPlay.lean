/- The law RefsPlay. -/
import Derived.Test.YtepkpbhhiianpaaGreatGTr
import Derived.Test.YtepkpbhhiianpaaGreatGBg
import Derived.Test.YtepkpbhhiianpaaGreatOpen
import Derived.Deep.Cut
import Derived.Deep.CutBlock
import Derived.Deep.RegionHeld3
import Derived.Deep.CutRange
namespace Go.Proofs.YtepkpbhhiianpaaGreat
open Go.RowKit Go.Maps
set_option linter.unusedVariables false
/-- What holds at a round's head. -/
abbrev Pl22 := PlR 48 2 TrS
theorem pl22_app {B P : Nat} {W X0 X2 X Y : World} {A R : Ad} {s : Value} {k nl : Nat} {c : Int} {V : Wv} {L : List Ox} {G GL : Nat → Prop} (h1 : Hf G X0 A R V V) (h2 : ∀ j, j < B ∨ j = P → G j) (h3 : OxL 48 2 TrS GL X0 s L) (h4 : ∀ j, GL j → G j ∧ ¬ (j < B ∨ j = P)) (h5 : Kp (fun j => j < B ∨ j = P) W X0) (h6 : V.M = [] ∧ V.I.length ≤ 300 ∧ V.cnt ≤ c) (h7 : L.length ≤ k) (hb : Below X0.heap.size X0 X2) (hb2 : Below X2.heap.size X2 X) {x : Ox} {v0 v1 : Value} (hx : TrS X2 x) (hv : x.vals = [v0, v1]) (hxo : ∀ j, x.own j → X0.heap.size ≤ j ∧ j < X2.heap.size) (hnl : nl = L.length) {o : Obj} {g cap : Nat} (hown : Y.ownsRow 0 48 2 (.slice (some ⟨g, 0, none⟩) (nl + 1) cap) (nl + 1) (rowsX L ++ [v0, v1])) (hgr : (X.alloc o).grownBy Y s.ownBlock) (hat : s.ownBlock = some g ∨ g = X.heap.size + 1) (hlt : g < Y.heap.size) :
    Pl22 B P W A R Y (.slice (some ⟨g, 0, none⟩) (nl + 1) cap) (k + 1) c := by
  subst hnl
  exact PlR.app stabTr h1 h2 h3 h4 h5 h6 h7 (below_then hb hb2) (x := x) (stabTr _ _ _ (fun _ => False) hx (Keeps.of_new hb2) (fun _ _ s => s)) (by rw [hv]; rfl) (fun j o => ⟨(hxo j o).1, Nat.lt_of_lt_of_le (hxo j o).2 hb2.size⟩) (by rw [hv]; exact hown) hgr hat hlt
set_option maxHeartbeats 8000000 in
set_option maxRecDepth 100000 in
theorem walk_RefsPlay (a0_0 : Int) (a0_1 : Int) (a0_2 : Int) (a0_3 : Int) (a0_4 : Int) (a0_5 : Bool) (a0_6 : Option Addr) (l0_6 c0_6 : Nat) (a0_7 : Option Addr) (l0_7 c0_7 : Nat) (a0_8 : Option Addr) (l0_8 c0_8 : Nat) (a0_9 : Int) (a1 : Option Addr) (l1 c1 : Nat) (w : World) (w0_0 : (Lit.int .i64 a0_0).wf = true) (w0_1 : (Lit.int .i64 a0_1).wf = true) (w0_2 : (Lit.int .i64 a0_2).wf = true) (w0_3 : (Lit.int .i64 a0_3).wf = true) (w0_4 : (Lit.int .i64 a0_4).wf = true) (w0_6 : Reads Tryz.prog w 24 (.slice a0_6 l0_6 c0_6)) (w0_7 : Reads Tryz.prog w 25 (.slice a0_7 l0_7 c0_7)) (w0_8 : Reads Tryz.prog w 26 (.slice a0_8 l0_8 c0_8)) (w0_9 : (Lit.int .i64 a0_9).wf = true) (w1 : Reads Tryz.prog w 29 (.slice a1 l1 c1)) :
    Calls Tryz.prog 3 #[.agg #[.int .i64 a0_0, .int .i64 a0_1, .int .i64 a0_2, .int .i64 a0_3, .int .i64 a0_4, .bool a0_5, .slice a0_6 l0_6 c0_6, .slice a0_7 l0_7 c0_7, .slice a0_8 l0_8 c0_8, .int .i64 a0_9], .slice a1 l1 c1] w fun e w' => e = .returned (.bool true) ∧ Below w.heap.size w w' := by
  obtain ⟨L, hLl, hG, hBg⟩ := first_open w0_6 w0_7 w0_8 a0_0 a0_1 a0_2 a0_3 a0_4 a0_9 a0_5
  obtain ⟨hm1, bA, oA, hA1, hA2⟩ := reads_acts22 (e := 42) Tryz.underlying29 (by kernel_rfl) (by kernel_rfl) w1
  have CG := Lib.hid hG
  have CB := Lib.hid hBg
  have HLL := Lib.hid hLl
  have HA1 := Lib.hid hA1
  have HA2 := Lib.hid hA2
  have HM1 := Lib.hid hm1
  clear hG hBg hLl hA1 hA2 hm1 w0_0 w0_1 w0_2 w0_3 w0_4 w0_6 w0_7 w0_8 w0_9 w1
  go_enter Tryz.func3, Tryz.ntmps3
  go_wp2_with fail
  obtain ⟨F, hF⟩ : ∃ F, F = w.heap.size := ⟨_, rfl⟩
  generalize hW : World.alloc w _ = W
  have bW : Below w.heap.size w W := by rw [← hW]; exact (Below.refl _ _).alloc (Nat.le_refl _) _
  have HBW := Lib.hid bW
  have KEEP : Hid (∀ X, Below W.heap.size W X → X.cell? ⟨F, 0, none⟩ = some (.int .i64 a0_0) ∧ X.cell? ⟨F, 1, none⟩ = some (.int .i64 a0_1) ∧ X.cell? ⟨F, 2, none⟩ = some (.int .i64 a0_2) ∧ X.cell? ⟨F, 3, none⟩ = some (.int .i64 a0_3) ∧ X.cell? ⟨F, 4, none⟩ = some (.int .i64 a0_4) ∧ X.cell? ⟨F, 5, none⟩ = some (.bool a0_5) ∧ X.cell? ⟨F, 6, none⟩ = some (.slice a0_6 l0_6 c0_6) ∧ X.cell? ⟨F, 7, none⟩ = some (.slice a0_7 l0_7 c0_7) ∧ X.cell? ⟨F, 8, none⟩ = some (.slice a0_8 l0_8 c0_8) ∧ X.cell? ⟨F, 9, none⟩ = some (.int .i64 a0_9)) := Lib.hid (fun X hb => by
    have lt : F < W.heap.size := by rw [← hW, hF]; simp
    have up : ∀ {j v}, W.cell? ⟨F, j, none⟩ = some v → X.cell? ⟨F, j, none⟩ = some v := fun {j v} hc => (hb.cell (p := ⟨F, j, none⟩) lt).trans hc
    refine ⟨up ?_, up ?_, up ?_, up ?_, up ?_, up ?_, up ?_, up ?_, up ?_, up ?_⟩ <;> (rw [← hW, hF]; exact new_at rfl rfl))
  rw [← hF]
  clear hW bW hF
  refine (CG.out _ HBW.out).mono ?_
  rintro e w1 ⟨r, rfl, k1, hr⟩
  obtain ⟨f0, f1, f2, f3, f4, f5, f6, f7, f8, f9⟩ := KEEP.out _ k1
  have HB1 := Lib.hid (below_then HBW.out k1)
  clear k1
  cases r with
  | true =>
    clear f0 f1 f2 f3 f4 f5 f6 f7 f8 f9 hr
    go_wp2_with (go_at_call 9; refine (lives22 _).mono ?_; rintro e w9 ⟨rfl, hk9⟩)
    go_ret
    exact ⟨rfl, below_then HB1.out hk9⟩
  | false =>
    have HBIG := Lib.hid (show BigOk l0_6 l0_7 l0_8 L from hr rfl)
    clear hr
    by_cases hl : l1 ≤ 300
    rotate_left
    · have hd : decide ((300 : Int) < (l1 : Int)) = true := decide_eq_true (by omega)
      clear f0 f1 f2 f3 f4 f5 f6 f7 f8 f9
      go_wp2_with (go_at_call 9; refine (lives22 _).mono ?_; rintro e w9 ⟨rfl, hk9⟩)
      go_ret
      exact ⟨rfl, below_then HB1.out hk9⟩
    have hd : decide ((300 : Int) < (l1 : Int)) = false := decide_eq_false (by omega)
    have HL := Lib.hid hl
    clear hl
    go_wp2_with fail
    refine (CB.out _ HB1.out HBIG.out).mono ?_
    rintro e w2 ⟨A, R, V, S, T, rfl, hP, ⟨hM0, -, -⟩, -, hI, hcnt, hST, k2⟩
    have hPG : PwG (fun k => k < w.heap.size) w2 A R V := (PwG.of_begin (L := L) hP hST k2).less (fun k g => Nat.lt_of_lt_of_le g HB1.out.size)
    have HG2 := Lib.hid hPG.hf
    have HB2 := Lib.hid (below_then HB1.out k2)
    have HV := Lib.hid (show V.M = [] ∧ V.I.length ≤ 300 ∧ V.cnt ≤ 1000 from ⟨hM0, by rw [hI, HLL.out]; have := HBIG.out.1; omega, hcnt⟩)
    clear hP hM0 hI hcnt hST k2 hPG f0 f1 f2 f3 f4 f5 f6 f7 f8 f9 KEEP CG CB hd
    obtain ⟨P, hPq⟩ : ∃ P, P = w2.heap.size := ⟨_, rfl⟩
    go_upto_region 4 with (fail)
    generalize hW3 : World.alloc w2 _ = W3
    rw [← hPq]
    have k23 : Below w2.heap.size w2 W3 := by rw [← hW3]; exact bs_alloc (Below.refl _ _)
    have p0 : W3.cell? ⟨P, 0, none⟩ = some (.pointer (some ⟨A.p, 0, none⟩)) := by rw [← hW3, hPq]; exact new_at rfl rfl
    have p1 : W3.cell? ⟨P, 1, none⟩ = some (.pointer (some ⟨R.p, 0, none⟩)) := by rw [← hW3, hPq]; exact new_at rfl rfl
    have HG3 := HG2.out.add k23 (q := P) (by omega) (by rw [← hW3, hPq]; simp)
    have HB3 := Lib.hid (below_then HB2.out k23)
    have HR0 : Hid (Pl22 w.heap.size P W3 A R W3 (.slice none 0 0) 0 1000) := Lib.hid (PlR.first HG3 (fun j hj => hj) HV.out.1 HV.out.2.1 HV.out.2.2)
    have PK : Hid (∀ X, Kp (fun j => j < w.heap.size ∨ j = P) W3 X → X.cell? ⟨P, 0, none⟩ = some (.pointer (some ⟨A.p, 0, none⟩)) ∧ X.cell? ⟨P, 1, none⟩ = some (.pointer (some ⟨R.p, 0, none⟩)) ∧ Below w.heap.size w X) := Lib.hid (fun X hk => ⟨hk.cell (p := ⟨P, 0, none⟩) (fun n => n (.inr rfl)) p0, hk.cell (p := ⟨P, 1, none⟩) (fun n => n (.inr rfl)) p1, HB3.out.trans ((hk.less (fun j h => .inl h)).below HB3.out.size)⟩)
    clear hW3 k23 hPq p0 p1 HG3 HG2 HV HB2 HB1
    go_wp2_with fail
    go_loopw [6, 7] (fun s6 i X => ∃ k : Nat, k ≤ l1 ∧ i = .int .i64 k ∧ Pl22 w.heap.size P W3 A R X s6 k (1000 + k)) (fun _ i _ => l1 - (intOf i).toNat)
    case atStart => exact ⟨0, by omega, rfl, HR0.out⟩
    case round =>
      clear HR0
      obtain ⟨k, hk, rfl, hR⟩ := hrel
      have HR := Lib.hid hR
      have HPK := Lib.hid (PK.out _ hR.kp)
      clear hR
      by_cases hlt : k < l1
      · obtain ⟨hlc, rfl⟩ := HA1.out (by omega)
        obtain ⟨x0, x1, x2, x3, x4, hx0, hx1, hx2, hu3, hu4, e0, e1, e2, e3, e4⟩ := (HA2.out k hlt).new HPK.out.2.2
        have hkc : k < c1 := by omega
        have j0 : (0 : Int) ≤ (k : Int) := by omega
        have j1 : (k : Int) < (l1 : Int) := by omega
        obtain ⟨Q, hQ⟩ : ∃ Q, Q = wr.heap.size := ⟨_, rfl⟩
        go_upto_region 9 with (fail)
        generalize hW5 : World.alloc wr _ = W5
        rw [← hQ]
        have hb5 : Below wr.heap.size wr W5 := by rw [← hW5]; exact bs_alloc (Below.refl _ _)
        have hsz : Q < W5.heap.size := by rw [← hW5, hQ]; simp
        have f0 : W5.cell? ⟨Q, 0, none⟩ = some (.int .u8 x0) := by rw [← hW5, hQ]; exact new_at rfl rfl
        have f1 : W5.cell? ⟨Q, 1, none⟩ = some (.int .u8 x1) := by rw [← hW5, hQ]; exact new_at rfl rfl
        have f2 : W5.cell? ⟨Q, 2, none⟩ = some (.int .i64 x2) := by rw [← hW5, hQ]; exact new_at rfl rfl
        have f3 : W5.cell? ⟨Q, 3, none⟩ = some (.int .u64 x3) := by rw [← hW5, hQ]; exact new_at rfl rfl
        have f4 : W5.cell? ⟨Q, 4, none⟩ = some (.int .u64 x4) := by rw [← hW5, hQ]; exact new_at rfl rfl
        have HR5 := Lib.hid (HR.out.new stabTr hb5)
        have HQS := Lib.hid (show Below wr.heap.size wr W5 ∧ wr.heap.size ≤ Q ∧ Q < W5.heap.size from ⟨hb5, by omega, hsz⟩)
        have HPK5 := Lib.hid (PK.out _ HR5.out.kp)
        have HKL := Lib.hid (And.intro hk hlt)
        have hk300 : k < 300 := by have := HL.out; omega
        clear hW5 hb5 hQ hsz e0 e1 e2 e3 e4 HPK j0 j1 hlc hkc hk hlt
        obtain ⟨m, hm⟩ : ∃ m, x0.tmod 12 = m := ⟨_, rfl⟩
        have hmr : 0 ≤ m ∧ m < 12 := by rw [Int.tmod_eq_emod_of_nonneg hx0.1] at hm; omega
        obtain ⟨p0, p1, -⟩ := HPK5.out
        rcases (by omega : m < 2 ∨ m = 2 ∨ m = 3 ∨ m = 4 ∨ 4 < m) with h2 | h2 | h2 | h2 | h2
        · have t2 : decide (m < 2) = true := decide_eq_true h2
          have hi3 : ∃ l3 l1 fq : Int, (l3 = if 1 ≤ x2 then 3 else 0) ∧ (l1 = if 1 ≤ x2 then 1 else 0) ∧ fq = if 1 ≤ x2 then x2 else 0 := ⟨_, _, _, rfl, rfl, rfl⟩
          obtain ⟨l3, lr1, fq, g3, g1, gf⟩ := hi3
          obtain ⟨ma, hma⟩ : ∃ ma, ma = reff x2 := ⟨_, rfl⟩
          have CN := Lib.hid (fun X => ntoX x2 X hx2 g3 hma)
          have CR := Lib.hid (fun X => rntoX x2 X g1 gf)
          have HG3 := Lib.hid (And.intro g3 (And.intro g1 (And.intro gf hma)))
          have hd5 : Below W5.heap.size W5 W5.drew := (Below.refl _ _).drew
          have HD5 := Lib.hid hd5
          have g2 : W5.drew.cell? ⟨Q, 2, none⟩ = some (.int .i64 x2) := f2
          have g5 := f2
          clear hmr h2 f1 f3 f4 p0 p1 g3 g1 gf hma
          go_upto_region 11 with (fail)
          clear f0 f2 t2
          go_cut [10] from 23 to 122 (fun s10 wx => ∃ N q r : Nat, s10 = .pointer (some ⟨N, 0, none⟩) ∧ wx.cell? ⟨N, 0, none⟩ = some (.pointer (some ⟨q, 0, none⟩)) ∧ wx.cell? ⟨N, 1, none⟩ = some (.pointer (some ⟨r, 0, none⟩)) ∧ Ob wx q [.int .u64 ma, .int .u64 0, .int .i64 l3, .bool false] ∧ Ob wx r (rtoC lr1 false fq 0) ∧ q ≠ r ∧ W5.heap.size ≤ q ∧ W5.heap.size ≤ r ∧ Below W5.heap.size W5 wx)
          case first =>
            go_region_held3 (fun X => X.cell? ⟨Q, 2, none⟩ = some (.int .i64 x2))
              (first | assumption | exact kal (by assumption) | exact kal (kal (by assumption)) | exact kal (kal (kal (by assumption))) | exact kst (by assumption) (kal (by assumption)) | go_keep)
              (first
              | (go_at_call 11; ((with_reducible refine (CN.out _).mono ?_); rintro e w6 ⟨rfl, rfl⟩))
              | (go_at_call 12; ((with_reducible refine (CR.out _).mono ?_); rintro e w7 ⟨rfl, rfl⟩)))
            all_goals
              go_wp2_with fail
              go_meet
              case rel =>
                first
                  | (obtain ⟨o1, o2, o3, o4⟩ := three_ob (W := W5) (C1 := #[.int .u64 ma, .int .u64 0, .int .i64 l3, .bool false]) (C2 := #[.int .i64 lr1, .bool false, .int .i64 fq, .int .u64 0]) (C3 := #[.pointer (some ⟨W5.heap.size, 0, none⟩), .pointer (some ⟨W5.heap.size + 1, 0, none⟩)]) (T1 := 142) (T2 := 56) (T3 := 48) rfl rfl rfl
                     exact ⟨W5.heap.size + 1 + 1, W5.heap.size, W5.heap.size + 1, rfl, o3.at_ 0 _ rfl, o3.at_ 1 _ rfl, o1, o2, by omega, by omega, by omega, o4⟩)
                  | (obtain ⟨o1, o2, o3, o4⟩ := three_ob (W := W5) (C1 := #[.int .u64 ma, .int .u64 0, .int .i64 l3, .bool false]) (C3 := #[.int .i64 lr1, .bool false, .int .i64 fq, .int .u64 0]) (C2 := #[.pointer (some ⟨W5.heap.size, 0, none⟩), .pointer (some ⟨W5.heap.size + 1 + 1, 0, none⟩)]) (T1 := 142) (T3 := 56) (T2 := 48) rfl rfl rfl
                     exact ⟨W5.heap.size + 1, W5.heap.size, W5.heap.size + 1 + 1, rfl, o2.at_ 0 _ rfl, o2.at_ 1 _ rfl, o1, o3, by omega, by omega, by omega, o4⟩)
                  | (obtain ⟨o1, o2, o3, o4⟩ := three_ob (W := W5) (C2 := #[.int .u64 ma, .int .u64 0, .int .i64 l3, .bool false]) (C3 := #[.int .i64 lr1, .bool false, .int .i64 fq, .int .u64 0]) (C1 := #[.pointer (some ⟨W5.heap.size + 1, 0, none⟩), .pointer (some ⟨W5.heap.size + 1 + 1, 0, none⟩)]) (T2 := 142) (T3 := 56) (T1 := 48) rfl rfl rfl
                     exact ⟨W5.heap.size, W5.heap.size + 1, W5.heap.size + 1 + 1, rfl, o1.at_ 0 _ rfl, o1.at_ 1 _ rfl, o2, o3, by omega, by omega, by omega, o4⟩)
          obtain ⟨N, q, r, rfl, z0, z1, hOq, hOr, hqr, hq5, hr5, hb52⟩ := hcut
          generalize wc = X2 at *
          have hX : TrS X2 ⟨[.pointer (some ⟨q, 0, none⟩), .pointer (some ⟨r, 0, none⟩)], fun j => j = q ∨ j = r⟩ := tr_begin hx2 HG3.out.1 HG3.out.2.1 HG3.out.2.2.1 (HG3.out.2.2.2 ▸ hOq) hOr hqr
          have hXo : (W5.heap.size ≤ q ∧ q < X2.heap.size) ∧ (W5.heap.size ≤ r ∧ r < X2.heap.size) := ⟨⟨hq5, hOq.lt⟩, hr5, hOr.lt⟩
          obtain ⟨p', r', ln, ov, dn, hT⟩ := tr_tells hX
          obtain ⟨rfl, rfl⟩ : q = p' ∧ r = r' := by
            have := hT.1
            simp at this
            exact this
          have CT := Lib.hid (tr_same hT)
          have HX := Lib.hid (And.intro hX (And.intro hXo hb52))
          clear hX hXo hb52 hT g2 g5 hd5 CN CR hOq hOr hqr hq5 hr5
          go_upto_region 14 with (go_at_call 13; ((with_reducible refine CT.out.mono ?_); rintro e w8 ⟨rfl, hb8⟩))
          replace z0 := (hb8.cell (p := ⟨N, 0, none⟩) (World.block_lt_of_cell? _ _ z0)).trans z0
          replace z1 := (hb8.cell (p := ⟨N, 1, none⟩) (World.block_lt_of_cell? _ _ z1)).trans z1
          have HB8 := Lib.hid hb8
          clear hb8
          obtain ⟨V, LL, G, GL, h1, h2, h3, h4, h5, h6, h7⟩ := HR5.out
          have HA := Lib.hid (And.intro h1 (And.intro h2 (And.intro h4 (And.intro h5 (And.intro h6 h7)))))
          have H3 := Lib.hid h3
          have hown2 := own_below h3.row (below_then HX.out.2.2 HB8.out)
          obtain ⟨nl, hnl2⟩ : ∃ nl, nl = LL.length := ⟨_, rfl⟩
          have HNL := Lib.hid hnl2
          have hnlk : nl ≤ k := by rw [hnl2]; exact h7
          rw [← hnl2] at hown2
          have HO8 := Lib.hid hown2
          obtain ⟨i0, hi, hz0, hz1, hz2⟩ := info_parts info_op22
          clear h1 h2 h3 h4 h5 h6 h7 hown2 hnl2
          go_wp2_with (at_builtin; refine wpList_append_lies _ rfl _ _ 36 rfl 0 48 i0 _ 2 16 Tryz.underlying36 hi hz0 hz1 hz2 rfl (by decide) u6 nl (rowsX LL) rfl (HO8.out.alloc _) ⟨w8.heap.size, 0, none⟩ 1 1 [.pointer (some ⟨q, 0, none⟩), .pointer (some ⟨r, 0, none⟩)] rfl rfl ?p1 ?p2 (by decide) ?p3 ?p4 (Nat.zero_le _) (w8.heap.size + 1) (by simp) ?_)
          try case p1 => intro j u hj; exact news2X hj
          case p2 => first | exact ⟨rfl, rfl⟩ | (intro u hu; simp at hu; rcases hu with rfl | rfl <;> rfl)
          case p3 => unfold maxLen; omega
          case p4 => omega
          intro g cap w9 hown9 hgrow hat hlt9
          have HPL := Lib.hid (pl22_app HA.out.1 HA.out.2.1 H3.out HA.out.2.2.1 HA.out.2.2.2.1 HA.out.2.2.2.2.1 HA.out.2.2.2.2.2 HX.out.2.2 HB8.out HX.out.1 rfl (fun j hj => by rcases hj with rfl | rfl; exact HX.out.2.1.1; exact HX.out.2.1.2) HNL.out hown9 hgrow hat hlt9)
          clear hown9 hgrow hat hlt9 HO8 HX HA H3 hi hz0 hz1 hz2 hnlk
          obtain ⟨p0, p1, -⟩ := PK.out _ HPL.out.kp
          go_wp2_with (go_at_call 20; refine HPL.out.same.mono ?_; rintro e w10 ⟨rfl, hk10⟩)
          go_roundw
          case rel => exact ⟨k + 1, by have := HKL.out; omega, by go_num, (HPL.out.new stabTr hk10).le (by omega) (by omega)⟩
          case measure => have := HKL.out; simp [intOf]; omega
        · have t2 : decide (m < 2) = false := decide_eq_false (by omega)
          have t3 : (m == 2) = true := by simp [h2]
          clear f1 f2 h2 hmr
          go_wp2_with (first
            | (go_at_call 14; refine (HR5.out.store stabTr (by have := HKL.out; have := HL.out; omega) hu3 hu4).mono ?_; rintro e w6 ⟨rfl, h6⟩; clear p0 p1 f0 f3 f4; obtain ⟨p0, p1, -⟩ := PK.out _ h6.kp; have HR6 := Lib.hid h6; clear h6)
            | (go_at_call 20; refine HR6.out.same.mono ?_; rintro e w7 ⟨rfl, hk7⟩))
          go_roundw
          case rel => exact ⟨k + 1, by have := HKL.out; omega, by go_num, (HR6.out.new stabTr hk7).le (by omega) (by omega)⟩
          case measure => have := HKL.out; simp [intOf]; omega
        · have t2 : decide (m < 2) = false := decide_eq_false (by omega)
          have t3 : (m == 2) = false := by simp; omega
          have t4 : (m == 3) = true := by simp [h2]
          obtain ⟨v2, hv2, hv2r⟩ : ∃ v2, x4.tmod 2 = v2 ∧ 0 ≤ v2 ∧ v2 < 2 := ⟨_, rfl, by rw [Int.tmod_eq_emod_of_nonneg hu4.1]; omega, by rw [Int.tmod_eq_emod_of_nonneg hu4.1]; omega⟩
          have yv : IntKind.u64.wrap v2 = v2 := IntWalk.u64_in _ (by omega)
          have hv2u : isU v2 := ⟨by omega, by omega⟩
          clear f1 f2 h2 hmr
          go_wp2_with (first
            | (go_at_call 14; refine (HR5.out.store stabTr (by have := HKL.out; have := HL.out; omega) ⟨by decide, by decide⟩ hv2u).mono ?_; rintro e w6 ⟨rfl, h6⟩; clear p0 p1 f0 f3 f4; obtain ⟨p0, p1, -⟩ := PK.out _ h6.kp; have HR6 := Lib.hid h6; clear h6)
            | (go_at_call 20; refine HR6.out.same.mono ?_; rintro e w7 ⟨rfl, hk7⟩))
          go_roundw
          case rel => exact ⟨k + 1, by have := HKL.out; omega, by go_num, (HR6.out.new stabTr hk7).le (by omega) (by omega)⟩
          case measure => have := HKL.out; simp [intOf]; omega
        · have t2 : decide (m < 2) = false := decide_eq_false (by omega)
          have t3 : (m == 2) = false := by simp; omega
          have t4 : (m == 3) = false := by simp; omega
          have t5 : (m == 4) = true := by simp [h2]
          have CRf := Lib.hid (fun X => rref x2 X hx2)
          have hua := isU_reff hx2
          clear f1 f3 f4 h2 hmr
          generalize reff x2 = at_ at *
          go_upto_region 21 with (go_at_call 15; ((with_reducible refine (CRf.out _).mono ?_); rintro e w6 ⟨rfl, rfl⟩))
          clear f0 f2 t2 t3 t4 t5 CRf
          obtain ⟨z, hzU, CPk⟩ := HR5.out.peek hua
          have CPk := Lib.hid CPk
          have CLs := Lib.hid (fun X => rls22 z X hzU.1)
          have hLU := lessF_U hzU
          generalize lessF z = lz at *
          have HU := Lib.hid (And.intro hua hLU)
          clear hua hLU
          have hd5 : Below W5.heap.size W5 W5.drew := (Below.refl _ _).drew
          have s0 : W5.drew.cell? ⟨P, 0, none⟩ = some (.pointer (some ⟨A.p, 0, none⟩)) := p0
          have s1 : W5.drew.cell? ⟨P, 1, none⟩ = some (.pointer (some ⟨R.p, 0, none⟩)) := p1
          clear p0 p1
          go_region_held3 (fun X => X.cell? ⟨P, 0, none⟩ = some (.pointer (some ⟨A.p, 0, none⟩)) ∧ X.cell? ⟨P, 1, none⟩ = some (.pointer (some ⟨R.p, 0, none⟩)))
            (first | exact ⟨by assumption, by assumption⟩)
            (first
              | (go_at_call 17; ((with_reducible refine (CPk.out _ hd5).mono ?_); rintro e w6 ⟨rfl, hb6⟩; have HR6 := Lib.hid (HR5.out.new stabTr (below_then hd5 hb6)); clear s0 s1; obtain ⟨s0, s1, -⟩ := PK.out _ HR6.out.kp))
              | (go_at_call 16; ((with_reducible refine (CLs.out _).mono ?_); rintro e w7 ⟨rfl, rfl⟩))
              | (go_at_call 14; refine (HR6.out.store stabTr (by have := HKL.out; have := HL.out; omega) HU.out.1 HU.out.2).mono ?_; rintro e w8 ⟨rfl, h8⟩; have HR8 := Lib.hid h8; clear s0 s1 h8; obtain ⟨s0, s1, -⟩ := PK.out _ HR8.out.kp))
          clear s0 s1 hd5
          obtain ⟨p0, p1, -⟩ := PK.out _ HR8.out.kp
          go_wp2_with (go_at_call 20; refine HR8.out.same.mono ?_; rintro e w10 ⟨rfl, hk10⟩)
          go_roundw
          case rel => exact ⟨k + 1, by have := HKL.out; omega, by go_num, (HR8.out.new stabTr hk10).le (by omega) (by omega)⟩
          case measure => have := HKL.out; simp [intOf]; omega
        · have t2 : decide (m < 2) = false := decide_eq_false (by omega)
          have t3 : (m == 2) = false := by simp; omega
          have t4 : (m == 3) = false := by simp; omega
          have t5 : (m == 4) = false := by simp; omega
          clear h2 hmr f2 f3 f4
          rcases HR5.out.form with ⟨a, cap, rfl⟩ | ⟨g, n, cap, hn0, hnc, hnk, rfl⟩
          · go_upto_region 27 with (fail)
            clear f0 t3 t2 t4 t5
            go_wp2_with (go_at_call 20; refine HR5.out.same.mono ?_; rintro e w10 ⟨rfl, hk10⟩)
            go_roundw
            case rel => exact ⟨k + 1, by have := HKL.out; omega, by go_num, (HR5.out.new stabTr hk10).le (by omega) (by omega)⟩
            case measure => have := HKL.out; simp [intOf]; omega
          · obtain ⟨i, hi, hin⟩ : ∃ i : Nat, x1.tmod (n : Int) = (i : Int) ∧ i < n := by
              have h1 := Int.emod_nonneg x1 (show (n : Int) ≠ 0 by omega)
              have h2 := Int.emod_lt_of_pos x1 (show (0 : Int) < n by omega)
              exact ⟨(x1.tmod n).toNat, by rw [Int.tmod_eq_emod_of_nonneg hx1.1]; omega, by rw [Int.tmod_eq_emod_of_nonneg hx1.1]; omega⟩
            obtain ⟨x, hxs, hlen, hcell, -⟩ := HR5.out.step stabTr hin
            obtain ⟨v0, v1, hv⟩ := tr_len hxs
            obtain ⟨q, r, rfl, rfl⟩ := tr_ptrs hxs hv
            have c0 : W5.cell? ⟨g, i * 2, none⟩ = some (.pointer (some ⟨q, 0, none⟩)) := hcell _ (Below.refl _ _) 0 _ (by rw [hv]; rfl)
            have c1 : W5.cell? ⟨g, i * 2 + 1, none⟩ = some (.pointer (some ⟨r, 0, none⟩)) := hcell _ (Below.refl _ _) 1 _ (by rw [hv]; rfl)
            have mk : IntKind.i64.wrap x1 = x1 := IntWalk.i64_in _ (by omega)
            have hnz : ((n : Int) == 0) = false := by simp; omega
            have dn2 : ¬ n = 0 := by omega
            have dn3 : ¬ (n : Int) = 0 := by omega
            have mi2 : IntKind.i64.wrap (i : Int) = (i : Int) := IntWalk.i64_in _ (by omega)
            have hni : (0 : Int) < (n : Int) := by omega
            have hd0 : decide ((0 : Int) < (n : Int)) = true := decide_eq_true hni
            have j0 : (0 : Int) ≤ (i : Int) := by omega
            have j1 : (i : Int) < (n : Int) := by omega
            have hic : i < cap := by omega
            clear hcell hv hlen hxs x
            go_upto_region 24 with (fail)
            obtain ⟨N, hN⟩ : ∃ N, N = W5.heap.size := ⟨_, rfl⟩
            generalize hW6 : World.alloc W5 _ = W6
            rw [← hN]
            have hb6 : Below W5.heap.size W5 W6 := by rw [← hW6]; exact bs_alloc (Below.refl _ _)
            have z0 : W6.cell? ⟨N, 0, none⟩ = some (.pointer (some ⟨q, 0, none⟩)) := by rw [← hW6, hN]; exact new_at rfl rfl
            have z1 : W6.cell? ⟨N, 1, none⟩ = some (.pointer (some ⟨r, 0, none⟩)) := by rw [← hW6, hN]; exact new_at rfl rfl
            have hNl : W5.heap.size ≤ N ∧ N < W6.heap.size := by rw [← hW6, hN]; simp
            have g0 : W6.cell? ⟨g, i * 2, none⟩ = some (.pointer (some ⟨q, 0, none⟩)) := (hb6.cell (p := ⟨g, i * 2, none⟩) (World.block_lt_of_cell? _ _ c0)).trans c0
            have g1 : W6.cell? ⟨g, i * 2 + 1, none⟩ = some (.pointer (some ⟨r, 0, none⟩)) := (hb6.cell (p := ⟨g, i * 2 + 1, none⟩) (World.block_lt_of_cell? _ _ c1)).trans c1
            have q0 : W6.cell? ⟨P, 0, none⟩ = some (.pointer (some ⟨A.p, 0, none⟩)) := (hb6.cell (p := ⟨P, 0, none⟩) (World.block_lt_of_cell? _ _ p0)).trans p0
            have q1 : W6.cell? ⟨P, 1, none⟩ = some (.pointer (some ⟨R.p, 0, none⟩)) := (hb6.cell (p := ⟨P, 1, none⟩) (World.block_lt_of_cell? _ _ p1)).trans p1
            obtain ⟨V, y, G, hf, hy, ho, hvc, hyl, hyc, hG, hback⟩ := HR5.out.at2X stabTr hin hb6
            have hyv := sm_eqX hyl hyc g0 g1
            obtain ⟨q', r', ln, ov, dn, V', hv', hov, ⟨r1, r2, r3⟩, C1⟩ := tr_two hf hy ho (by have := HL.out; omega)
            obtain ⟨rfl, rfl⟩ : q = q' ∧ r = r' := by
              rw [hyv] at hv'
              simp at hv'
              exact hv'
            have uN := hG N (.inl hNl)
            have uP := hG P (.inr (.inr rfl))
            have KZ : Hid (∀ Z, Kp (fun j => G j ∧ ¬ y.own j) W6 Z → Z.cell? ⟨N, 0, none⟩ = some (.pointer (some ⟨q, 0, none⟩)) ∧ Z.cell? ⟨N, 1, none⟩ = some (.pointer (some ⟨r, 0, none⟩)) ∧ Z.cell? ⟨P, 0, none⟩ = some (.pointer (some ⟨A.p, 0, none⟩)) ∧ Z.cell? ⟨P, 1, none⟩ = some (.pointer (some ⟨R.p, 0, none⟩))) := Lib.hid (fun Z hk => ⟨hk.cell (p := ⟨N, 0, none⟩) (fun n => n uN) z0, hk.cell (p := ⟨N, 1, none⟩) (fun n => n uN) z1, hk.cell (p := ⟨P, 0, none⟩) (fun n => n uP) q0, hk.cell (p := ⟨P, 1, none⟩) (fun n => n uP) q1⟩)
            have HBK := Lib.hid (fun Z hf hy hk => hback Z V' hf hy hk r1 r2 r3)
            have HC1 := Lib.hid C1
            clear hW6 hN hb6 hNl g0 g1 p0 p1 c0 c1 hf hy ho hvc hyl hyc hG hback hyv hv' C1 uN uP r1 r2 r3 f0 f1 t2 t3 t4 t5 mk hnz dn2 dn3 mi2 hni hd0 j0 j1 hic hi
            go_upto_region 25 with (go_at_call 18; ((with_reducible refine HC1.out.mono ?_); rintro e w7 ⟨rfl, -, hl7, hk7, C2⟩))
            have hd7 : Below w7.heap.size w7 w7.drew := (Below.refl _ _).drew
            have HC2 := Lib.hid (C2 _ hd7)
            have HK7 := Lib.hid (Kp.to hk7 (Kp.of hd7))
            clear z0 z1 q0 q1 C2
            obtain ⟨z0, z1, q0, q1⟩ := KZ.out _ HK7.out
            have hl7 : w7.drew.cell? ⟨r, 0, none⟩ = some (.int .i64 ln) := hl7
            clear hk7 hd7
            have hne : (ov != ov) = false := by simp
            go_region_held3 (fun X => X.cell? ⟨N, 0, none⟩ = some (.pointer (some ⟨q, 0, none⟩)) ∧ X.cell? ⟨N, 1, none⟩ = some (.pointer (some ⟨r, 0, none⟩)) ∧ X.cell? ⟨P, 0, none⟩ = some (.pointer (some ⟨A.p, 0, none⟩)) ∧ X.cell? ⟨r, 0, none⟩ = some (.int .i64 ln))
              (first | exact ⟨by assumption, by assumption, by assumption, by assumption⟩)
              (first
                | (go_at_call 19; ((with_reducible refine HC2.out.mono ?_); rintro e w8 ⟨rfl, hf8, hy8, hT8, hk8⟩; have HK8 := Lib.hid (Kp.to HK7.out hk8); have HF8 := Lib.hid (And.intro hf8 hy8); have CT := Lib.hid (tr_same hT8); clear z0 z1 q0 q1 hl7; obtain ⟨z0, z1, q0, q1⟩ := KZ.out _ HK8.out; have hl7 := (hT8.2.2 _ (Below.refl _ _)).1; clear hf8 hy8 hT8 hk8))
                | (go_at_call 13; ((with_reducible refine CT.out.mono ?_); rintro e w9 ⟨rfl, hb9⟩; replace z0 := (hb9.cell (p := ⟨N, 0, none⟩) (World.block_lt_of_cell? _ _ z0)).trans z0; replace z1 := (hb9.cell (p := ⟨N, 1, none⟩) (World.block_lt_of_cell? _ _ z1)).trans z1; replace q0 := (hb9.cell (p := ⟨P, 0, none⟩) (World.block_lt_of_cell? _ _ q0)).trans q0; replace hl7 := (hb9.cell (p := ⟨r, 0, none⟩) (World.block_lt_of_cell? _ _ hl7)).trans hl7)))
            have HR8 := Lib.hid ((HBK.out _ HF8.out.1 HF8.out.2 HK8.out).new stabTr hb9)
            clear z0 z1 q0 q1 hov hl7 hb9
            obtain ⟨p0, p1, -⟩ := PK.out _ HR8.out.kp
            go_wp2_with (go_at_call 20; refine HR8.out.same.mono ?_; rintro e w10 ⟨rfl, hk10⟩)
            go_roundw
            case rel => exact ⟨k + 1, by have := HKL.out; omega, by go_num, (HR8.out.new stabTr hk10).le (by omega) (by omega)⟩
            case measure => have := HKL.out; simp [intOf]; omega
      · obtain rfl : l1 = k := by omega
        obtain ⟨p0, p1, hbw⟩ := HPK.out
        have HBX := Lib.hid hbw
        clear hbw
        go_wp2_with (first
          | (go_at_call 21; refine (HR.out.all (by have := HL.out; omega)).mono ?_; rintro e w9 ⟨rfl, hk9⟩)
          | (go_at_call 9; refine (lives22 _).mono ?_; rintro e w10 ⟨rfl, hk10⟩))
        go_ret
        exact ⟨rfl, below_then (below_then HBX.out hk9) hk10⟩
end Go.Proofs.YtepkpbhhiianpaaGreat
