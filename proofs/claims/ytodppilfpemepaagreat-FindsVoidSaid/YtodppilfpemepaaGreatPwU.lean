/- A pair of worlds: an item put into a slot. -/
import Derived.Test.YtodppilfpemepaaGreatPs6
import Derived.Deep.RegionHeld3
namespace Go.Proofs.YtodppilfpemepaaGreat
open Go.RowKit Go.Maps
set_option linter.unusedVariables false

theorem below_some {a b c : World} (h : Below a.heap.size a b) (hc : ∃ n, c = b.drewN n) : Below a.heap.size a c := by
  obtain ⟨n, rfl⟩ := hc
  exact below_then h (drewN_below _ _)
section
variable {w w' : World} {A R : Ad} {V : Wv} {S T : Nat → Prop}
set_option maxHeartbeats 2000000 in
set_option maxRecDepth 100000 in
theorem pw_put (h : Pw w A R V S T) (hc : V.cnt < 10000000) (hI : V.I.length ≤ 300) (hkz : ∀ x, x ∈ V.I → x.1.size ≤ maxLen) {many : Int} (hm : many = (V.I.length : Int)) (hm0 : 0 < many) {a b c : Int} (ha : 0 ≤ a ∧ a < 256) (hb : 0 ≤ b ∧ b < 256) (hc' : 0 ≤ c ∧ c < 256) :
    Calls Tryz.prog 24 #[.agg #[.pointer (some ⟨A.p, 0, none⟩), .pointer (some ⟨R.p, 0, none⟩)], .agg #[.int .u8 a, .int .u8 b, .int .u8 c], .int .i64 many] w fun e w' => e = .returned (.tuple #[]) ∧ ∃ V', V'.cnt = V.cnt + 2 ∧ V'.I = V.I ∧ Fix V V' ∧ PwPost w A R V' S T w' := by
  have HH := Lib.hid h
  clear h
  have e1 : IntKind.u8.wrap a = a := IntWalk.u8_in _ (by omega)
  have e2 : IntKind.i64.wrap a = a := IntWalk.i64_in _ (by omega)
  go_enter Tryz.func24, Tryz.ntmps24
  go_upto_region 1 with (fail)
  generalize hW : World.alloc (World.alloc w _) _ = W
  have bW : Below w.heap.size w W := by rw [← hW]; exact ((Below.refl _ _).alloc (Nat.le_refl _) _).alloc (by simp) _
  have x0 : W.cell? ⟨w.heap.size, 0, none⟩ = some (.pointer (some ⟨A.p, 0, none⟩)) := by rw [← hW]; simp [World.cell?_alloc_some]
  have x1 : W.cell? ⟨w.heap.size, 1, none⟩ = some (.pointer (some ⟨R.p, 0, none⟩)) := by rw [← hW]; simp [World.cell?_alloc_some]
  have y0 : W.cell? ⟨w.heap.size + 1, 0, none⟩ = some (.int .u8 a) := by rw [← hW]; exact at_new (by simp) rfl
  have y1 : W.cell? ⟨w.heap.size + 1, 1, none⟩ = some (.int .u8 b) := by rw [← hW]; exact at_new (by simp) rfl
  have y2 : W.cell? ⟨w.heap.size + 1, 2, none⟩ = some (.int .u8 c) := by rw [← hW]; exact at_new (by simp) rfl
  clear hW
  have d0 : (many == 0) = false := by simp; omega
  go_upto_region 2 with (fail)
  subst hm
  have r0 : 0 ≤ a % (V.I.length : Int) := Int.emod_nonneg _ (by omega)
  have r1 : a % (V.I.length : Int) < V.I.length := Int.emod_lt_of_pos _ hm0
  have hw : wrap64 (1 + a % (V.I.length : Int)) = a % (V.I.length : Int) + 1 := by rw [Int.add_comm]; exact IntWalk.wrap64_in _ (by omega)
  rw [hw]
  obtain ⟨i, hi⟩ : ∃ i : Nat, a % (V.I.length : Int) = (i : Int) := ⟨(a % (V.I.length : Int)).toNat, by omega⟩
  rw [hi] at r0 r1 ⊢
  obtain ⟨⟨k, vl, fl, idn, di, ge⟩, hx⟩ : ∃ x, V.I[i]? = some x := ⟨_, List.getElem?_eq_getElem (by omega)⟩
  have hq : Pw W A R V S T := HH.out.new bW
  obtain ⟨L, hr, hl, hn⟩ := id hq.r
  have hfl : ∀ W, (Instr.field 84 (.agg #[.string k, .string vl, .int .u32 fl, .int .u64 idn, .int .i64 di, .int .i64 ge]) 0).run Tryz.prog W = .ok (.string k) W := fun W => by kernel_rfl
  have C1 := Lib.hid (rw_item hr (by omega) hx (ref := (i : Int) + 1) rfl)
  have hk : k.size ≤ maxLen := hkz _ (List.mem_of_getElem? hx)
  go_upto_region 3 with (first
    | (go_at_call 60; ((with_reducible refine C1.out.mono ?_); rintro e w1 ⟨rfl, hb1⟩))
    | (go_at_call 59; ((with_reducible refine (refhash k _ hk).mono ?_); rintro e w2 ⟨rfl, rfl⟩)))
  have wlt : w.heap.size + 1 < W.heap.size := World.block_lt_of_cell? _ _ y0
  replace x0 := (hb1.cell (p := ⟨w.heap.size, 0, none⟩) (by show w.heap.size < _; omega)).trans x0
  replace x1 := (hb1.cell (p := ⟨w.heap.size, 1, none⟩) (by show w.heap.size < _; omega)).trans x1
  replace y1 := (hb1.cell (p := ⟨w.heap.size + 1, 1, none⟩) wlt).trans y1
  replace y2 := (hb1.cell (p := ⟨w.heap.size + 1, 2, none⟩) wlt).trans y2
  have C2 := Lib.hid (rw_peek (hr.new hb1) hl (a := 2) ⟨by decide, by decide⟩)
  have u2 : isU (V.f 2) := hq.a.rng ⟨by decide, by decide⟩
  have uh : isU (hsl k.data.toList) := hsl_isU _
  obtain ⟨n, hn⟩ : ∃ n, n = (placesF (hsl k.data.toList) (V.f 2)).length := ⟨_, rfl⟩
  have hn0 : 0 < n := by rw [hn]; exact List.length_pos_iff.mpr (placesF_some _ _)
  have hn4 : n ≤ 4 := by rw [hn]; exact placesF_four _ _
  have CP := Lib.hid (fun W => rplacesw (hsl k.data.toList) (V.f 2) W uh.1 uh.2 u2.1 u2.2)
  generalize placesF (hsl k.data.toList) (V.f 2) = PL at *
  go_upto_region 4 with (first
    | (go_at_call 62; ((with_reducible refine C2.out.mono ?_); rintro e w2 ⟨rfl, n2, rfl⟩))
    | (go_at_call 61; ((refine (CP.out _).mono ?_); rintro e w3 ⟨C, v, hC, rfl, hrow, hb3⟩)))
  have hb13 : Below w1.heap.size w1 w3 := (drewN_below w1 n2).trans hb3
  rw [← hn] at hrow
  obtain ⟨ac, cc, rfl, -, -, -, hlie⟩ := LieG.of (Lst.of_own hrow)
  obtain ⟨j, hj⟩ : ∃ j : Nat, b % (n : Int) = (j : Int) := ⟨(b % (n : Int)).toNat, by have := Int.emod_nonneg b (show (n : Int) ≠ 0 by omega); omega⟩
  have hjn : j < n := by have := Int.emod_lt_of_pos b (show (0 : Int) < n by omega); omega
  obtain ⟨⟨pb, pk⟩, hpx⟩ : ∃ x, PL[j]? = some x := ⟨_, List.getElem?_eq_getElem (by omega)⟩
  obtain ⟨g, rfl, hg, -, hnc, q0, q1⟩ := hlie.place hn hpx
  have e3 : IntKind.i64.wrap b = b := IntWalk.i64_in _ (by omega)
  have d1 : ((n : Int) == 0) = false := by simp; omega
  have d2 : ¬ n = 0 := by omega
  have d3 : ¬ (n : Int) = 0 := by omega
  have m1 : b.tmod (n : Int) = (j : Int) := by rw [Int.tmod_eq_emod_of_nonneg hb.1]; exact hj
  have m2 : IntKind.i64.wrap (j : Int) = (j : Int) := IntWalk.i64_in _ (by omega)
  obtain ⟨s4, hs4⟩ : ∃ s4, s4 = c.tmod 4 := ⟨_, rfl⟩
  have hs0 : 0 ≤ s4 ∧ s4 < 4 := by rw [hs4, Int.tmod_eq_emod_of_nonneg hc'.1]; omega
  have m3 : c.tmod 4 = s4 := hs4.symm
  clear hs4
  have m4 : IntKind.u8.wrap s4 = s4 := IntWalk.u8_in _ (by omega)
  have m5 : IntKind.i64.wrap s4 = s4 := IntWalk.i64_in _ (by omega)
  have j0 : (0 : Int) ≤ (j : Int) := by omega
  have j1 : (j : Int) < (n : Int) := by omega
  have y1' := (hb13.cell (p := ⟨w.heap.size + 1, 1, none⟩) (World.block_lt_of_cell? _ _ y1)).trans y1
  have y2' := (hb13.cell (p := ⟨w.heap.size + 1, 2, none⟩) (World.block_lt_of_cell? _ _ y2)).trans y2
  have KEEP : Hid (∀ o, (w3.alloc o).drew.cell? ⟨w.heap.size + 1, 1, none⟩ = some (.int .u8 b) ∧ (w3.alloc o).drew.cell? ⟨w.heap.size + 1, 2, none⟩ = some (.int .u8 c) ∧ (w3.alloc o).drew.cell? ⟨g, j * 2, none⟩ = some (.int .i64 pb) ∧ (w3.alloc o).drew.cell? ⟨g, j * 2 + 1, none⟩ = some (.int .i64 pk)) := Lib.hid (fun o =>
    ⟨(World.cell?_alloc_lt w3 o ⟨w.heap.size + 1, 1, none⟩ (World.block_lt_of_cell? _ _ y1')).trans y1', (World.cell?_alloc_lt w3 o ⟨w.heap.size + 1, 2, none⟩ (World.block_lt_of_cell? _ _ y2')).trans y2', (World.cell?_alloc_lt w3 o ⟨g, j * 2, none⟩ hg).trans q0, (World.cell?_alloc_lt w3 o ⟨g, j * 2 + 1, none⟩ hg).trans q1⟩)
  have H0 := Lib.hid ((hb13.cell (p := ⟨w.heap.size, 0, none⟩) (World.block_lt_of_cell? _ _ x0)).trans x0)
  have H1 := Lib.hid ((hb13.cell (p := ⟨w.heap.size, 1, none⟩) (World.block_lt_of_cell? _ _ x1)).trans x1)
  have HB3 := Lib.hid (hb1.trans (hb13.mono hb1.size))
  have HQ := Lib.hid hq
  have HU := Lib.hid uh
  have HW := Lib.hid wlt
  have HBW := Lib.hid bW
  have HI := Lib.hid hI
  have HR1 := Lib.hid r1
  have hlt3 : w.heap.size + 1 < w3.heap.size := World.block_lt_of_cell? _ _ y1'
  clear x0 x1 y0 y1 y2 hq hr hl hx C1 C2 CP uh u2 hb1 hb3 hb13 hrow hlie hpx hn wlt bW hI hw hfl hk r0 r1 hC e1 e2 d0 hm0 hkz
  go_region_held3 (fun X => X.cell? ⟨w.heap.size + 1, 1, none⟩ = some (.int .u8 b) ∧ X.cell? ⟨w.heap.size + 1, 2, none⟩ = some (.int .u8 c) ∧ X.cell? ⟨g, j * 2, none⟩ = some (.int .i64 pb) ∧ X.cell? ⟨g, j * 2 + 1, none⟩ = some (.int .i64 pk))
    (first | exact ⟨by assumption, by assumption, by assumption, by assumption⟩ | exact KEEP.out _)
    (fail)
  generalize hW4 : World.drew (World.alloc w3 _) = W4
  obtain ⟨B, hB⟩ : ∃ B, B = w3.heap.size := ⟨_, rfl⟩
  rw [← hB]
  have s0 : W4.cell? ⟨B, 0, none⟩ = some (.int .i64 pb) := by rw [← hW4, hB]; exact at_new rfl rfl
  have s1 : W4.cell? ⟨B, 1, none⟩ = some (.int .i64 pk) := by rw [← hW4, hB]; exact at_new rfl rfl
  have s2 : W4.cell? ⟨B, 2, none⟩ = some (.int .i64 s4) := by rw [← hW4, hB]; exact at_new rfl rfl
  have hb4 : Below w3.heap.size w3 W4 := by rw [← hW4]; exact ((Below.refl _ _).alloc (Nat.le_refl _) _).drew
  have x0 := (hb4.cell (p := ⟨w.heap.size, 0, none⟩) (World.block_lt_of_cell? _ _ H0.out)).trans H0.out
  have x1 := (hb4.cell (p := ⟨w.heap.size, 1, none⟩) (World.block_lt_of_cell? _ _ H1.out)).trans H1.out
  have HB4 := Lib.hid (HB3.out.trans (hb4.mono HB3.out.size))
  have HBN := Lib.hid (show W.heap.size ≤ B by rw [hB]; exact HB3.out.size)
  clear hW4 hb4 y1' y2' q0 q1 KEEP H0 H1 HB3 m1 m2 m3 m4 m5 e3 d1 d2 d3 j0 j1 hg hnc hlt3 hjn hj hB
  have CT := Lib.hid (rtags pb pk W4)
  have hiv : IntKind.u64.wrap ((i : Int) + 1) = (i : Int) + 1 := by rw [IntKind.wrap_u64]; have := HI.out; have := HR1.out; omega
  have ht0 : isU (tagsf pb pk) := tagsf_isU _ _
  have hi0 : isU (itemf pb pk s4) := itemf_isU _ _ _
  obtain ⟨tg, htg⟩ : ∃ tg, tg = max 1 (hsl k.data.toList / 72057594037927936) := ⟨_, rfl⟩
  have CG := Lib.hid (fun W => reftag (hsl k.data.toList) W HU.out.1 HU.out.2)
  rw [← htg] at CG
  clear htg
  have CI := Lib.hid (fun W => ritem pb pk s4 W)
  generalize itemf pb pk s4 = ia at *
  generalize tagsf pb pk = ta at *
  generalize hsl k.data.toList = hs at *
  go_upto_region 6 with (go_at_call 63; (refine CT.out.mono ?_; rintro e w5 ⟨rfl, hb5⟩))
  replace s0 := (hb5.cell (p := ⟨B, 0, none⟩) (World.block_lt_of_cell? _ _ s0)).trans s0
  replace s1 := (hb5.cell (p := ⟨B, 1, none⟩) (World.block_lt_of_cell? _ _ s1)).trans s1
  replace s2 := (hb5.cell (p := ⟨B, 2, none⟩) (World.block_lt_of_cell? _ _ s2)).trans s2
  replace x0 := (hb5.cell (p := ⟨w.heap.size, 0, none⟩) (World.block_lt_of_cell? _ _ x0)).trans x0
  replace x1 := (hb5.cell (p := ⟨w.heap.size, 1, none⟩) (World.block_lt_of_cell? _ _ x1)).trans x1
  have hb05 := HB4.out.trans (hb5.mono HB4.out.size)
  have PP : Hid (∀ X, Below w5.heap.size w5 X → Pw X A R V S T) := Lib.hid (fun X hb => (HQ.out.new hb05).new hb)
  have hSW : ∀ j, S j ∨ T j → j < w.heap.size := fun j s => by
    rcases s with s | s
    · exact HH.out.a.lt j s
    · obtain ⟨L, ⟨TC, TI, TN, r⟩, -⟩ := HH.out.r
      exact r.lt j s
  have nF : ¬ (S w.heap.size ∨ T w.heap.size) := fun s => by have := hSW _ s; omega
  have nB : ¬ (S B ∨ T B) := fun s => by have := hSW _ s; have := HBN.out; have := HBW.out.size; omega
  have KEEP : Hid (∀ X, Keeps (fun j => S j ∨ T j) w5 X → (X.cell? ⟨w.heap.size, 0, none⟩ = some (.pointer (some ⟨A.p, 0, none⟩)) ∧ X.cell? ⟨w.heap.size, 1, none⟩ = some (.pointer (some ⟨R.p, 0, none⟩)) ∧ X.cell? ⟨B, 0, none⟩ = some (.int .i64 pb) ∧ X.cell? ⟨B, 1, none⟩ = some (.int .i64 pk) ∧ X.cell? ⟨B, 2, none⟩ = some (.int .i64 s4))) := Lib.hid (fun X hk =>
    ⟨hk.cell (p := ⟨w.heap.size, 0, none⟩) nF x0, hk.cell (p := ⟨w.heap.size, 1, none⟩) nF x1, hk.cell (p := ⟨B, 0, none⟩) nB s0, hk.cell (p := ⟨B, 1, none⟩) nB s1, hk.cell (p := ⟨B, 2, none⟩) nB s2⟩)
  have KEEP3 : Hid (∀ X, Keeps (fun j => S j ∨ T j) w5 X → (X.cell? ⟨w.heap.size, 0, none⟩ = some (.pointer (some ⟨A.p, 0, none⟩)) ∧ X.cell? ⟨w.heap.size, 1, none⟩ = some (.pointer (some ⟨R.p, 0, none⟩)) ∧ X.cell? ⟨B, 2, none⟩ = some (.int .i64 s4))) := Lib.hid (fun X hk => ⟨(KEEP.out X hk).1, (KEEP.out X hk).2.1, (KEEP.out X hk).2.2.2.2⟩)
  have HB05 := Lib.hid (HBW.out.trans (hb05.mono HBW.out.size))
  have HNB := Lib.hid (And.intro nF nB)
  have hk0 : Keeps (fun j => S j ∨ T j) w5 w5.drew := Keeps.of_new (Below.refl _ _).drew
  have hb0 : Below w5.heap.size w5 w5.drew := (Below.refl _ _).drew
  obtain ⟨L2, hr2, hl2, -⟩ := (PP.out _ hb0).r
  have C2 := Lib.hid (rw_peek hr2 hl2 ht0)
  have hu : isU (V.f ta) := (PP.out _ hb0).a.rng ht0
  have CW := Lib.hid (fun W => refwithw (V.f ta) s4 tg W hu.1 hu.2)
  have hw0 : isU (withf (V.f ta) s4 tg) := withf_range _ _ _ hu.1 hu.2
  generalize hV1 : V.acc (upd V.f ta (withf (V.f ta) s4 tg)) 2 ta (V.f ta) (withf (V.f ta) s4 tg) = V1
  have HV1 := Lib.hid hV1
  clear hV1 hr2 hl2 x0 x1 s0 s1 s2 hb5 hb05 hSW nF nB hu CT HH HQ
  obtain ⟨x0, x1, s0, s1, s2⟩ := KEEP.out _ hk0
  go_region_held3 (fun X => X.cell? ⟨w.heap.size, 0, none⟩ = some (.pointer (some ⟨A.p, 0, none⟩)) ∧ X.cell? ⟨w.heap.size, 1, none⟩ = some (.pointer (some ⟨R.p, 0, none⟩)) ∧ X.cell? ⟨B, 2, none⟩ = some (.int .i64 s4))
    (first | exact KEEP3.out _ (by assumption))
    (first
      | (go_at_call 62; ((with_reducible refine C2.out.mono ?_); rintro e w6 ⟨rfl, hn6⟩; have hb6 : Below w5.heap.size w5 w6 := below_some hb0 hn6; have hk6 : Keeps (fun j => S j ∨ T j) w5 w6 := Keeps.of_new hb6; clear hn6))
      | (go_at_call 65; ((with_reducible refine (CG.out _).mono ?_); rintro e w7 ⟨rfl, rfl⟩))
      | (go_at_call 64; ((with_reducible refine (CW.out _).mono ?_); rintro e w8 ⟨rfl, hb8⟩; have hb58 : Below w5.heap.size w5 w8 := below_then hb6 hb8; have hk8 : Keeps (fun j => S j ∨ T j) w5 w8 := Keeps.of_new hb58; clear hb8))
      | (go_at_call 22; ((refine (pw_store (PP.out _ hb58) (by omega) ht0 hw0).mono ?_); rintro e w9 ⟨rfl, hp9⟩; rw [HV1.out] at hp9; have hk9 : Keeps (fun j => S j ∨ T j) w5 w9 := hk8.trans hp9.keeps (fun _ _ s => s))))
  all_goals
    clear x0 x1 s0 s1 s2
    obtain ⟨S', T', q9, k9, o9⟩ := hp9
    have s8 := hb58.size
    have s50 := HB05.out.size
    have hBl : B < w5.heap.size := World.block_lt_of_cell? _ _ (KEEP.out _ (Keeps.refl _ _)).2.2.1
    have hFl : w.heap.size < w5.heap.size := World.block_lt_of_cell? _ _ (KEEP.out _ (Keeps.refl _ _)).1
    have nF : ¬ (S' w.heap.size ∨ T' w.heap.size) := fun s => by
      rcases o9 _ s with s | s
      · exact HNB.out.1 s
      · omega
    have nB : ¬ (S' B ∨ T' B) := fun s => by
      rcases o9 _ s with s | s
      · exact HNB.out.2 s
      · omega
    have KEP2 : Hid (∀ X, Keeps (fun j => S' j ∨ T' j) w9 X → (X.cell? ⟨w.heap.size, 0, none⟩ = some (.pointer (some ⟨A.p, 0, none⟩)) ∧ X.cell? ⟨w.heap.size, 1, none⟩ = some (.pointer (some ⟨R.p, 0, none⟩)) ∧ X.cell? ⟨B, 0, none⟩ = some (.int .i64 pb) ∧ X.cell? ⟨B, 1, none⟩ = some (.int .i64 pk) ∧ X.cell? ⟨B, 2, none⟩ = some (.int .i64 s4))) := Lib.hid (fun X hk => by
      obtain ⟨x0, x1, s0, s1, s2⟩ := KEEP.out w9 (hk8.trans k9 (fun _ _ s => s))
      exact ⟨hk.cell (p := ⟨w.heap.size, 0, none⟩) nF x0, hk.cell (p := ⟨w.heap.size, 1, none⟩) nF x1, hk.cell (p := ⟨B, 0, none⟩) nB s0, hk.cell (p := ⟨B, 1, none⟩) nB s1, hk.cell (p := ⟨B, 2, none⟩) nB s2⟩)
    have QQ : Hid (∀ X, Below w9.heap.size w9 X → Pw X A R V1 S' T') := Lib.hid (fun X hb => q9.new hb)
    have HFIN : Hid (∀ X V2, Below w9.heap.size w9 X → ∀ Y, PwPost X A R V2 S' T' Y → PwPost w A R V2 S T Y) := Lib.hid (fun X V2 hb Y hp => PwPost.after (HB05.out.trans (hb58.mono s50)) (PwPost.chain k9 o9 (PwPost.after hb hp)))
    have hc1 : V1.cnt < 100000000 := by rw [← HV1.out]; show V.cnt + 1 < _; omega
    have hv1 : isU ((i : Int) + 1) := ⟨by omega, by have := HI.out; have := HR1.out; omega⟩
    generalize hV2 : V1.acc (upd V1.f ia ((i : Int) + 1)) 2 ia (V1.f ia) ((i : Int) + 1) = V2
    have HV2 := Lib.hid hV2
    have hk10 : Keeps (fun j => S' j ∨ T' j) w9 w9.drew := Keeps.of_new (Below.refl _ _).drew
    have hb10 : Below w9.heap.size w9 w9.drew := (Below.refl _ _).drew
    clear hV2 q9 k9 o9 nF nB hk9 hk8 hk6 hk0 KEEP KEEP3 hb58 hb6 hb0 C2 CW CG PP s8 s50 hBl hFl
    obtain ⟨x0, x1, s0, s1, s2⟩ := KEP2.out _ hk10
    go_wp2_with fail
    go_region_held3 (fun X => X.cell? ⟨w.heap.size, 0, none⟩ = some (.pointer (some ⟨A.p, 0, none⟩)) ∧ X.cell? ⟨w.heap.size, 1, none⟩ = some (.pointer (some ⟨R.p, 0, none⟩)) ∧ X.cell? ⟨B, 0, none⟩ = some (.int .i64 pb) ∧ X.cell? ⟨B, 1, none⟩ = some (.int .i64 pk) ∧ X.cell? ⟨B, 2, none⟩ = some (.int .i64 s4))
      (first | exact KEP2.out _ (by assumption))
      (first
        | (go_at_call 66; ((with_reducible refine (CI.out _).mono ?_); rintro e w11 ⟨rfl, hb11⟩; have hb911 : Below w9.heap.size w9 w11 := below_then hb10 hb11; have hk11 : Keeps (fun j => S' j ∨ T' j) w9 w11 := Keeps.of_new hb911; clear hb11))
        | (go_at_call 22; ((refine (pw_store (QQ.out _ hb911) hc1 hi0 hv1).mono ?_); rintro e w12 ⟨rfl, hp12⟩; rw [HV2.out] at hp12; have hk12 : Keeps (fun j => S' j ∨ T' j) w9 w12 := hk11.trans hp12.keeps (fun _ _ s => s); have HP12 := Lib.hid (HFIN.out _ _ hb911 _ hp12); clear hp12)))
  all_goals
    have HVV : Hid (V2.cnt = V.cnt + 2 ∧ V2.I = V.I ∧ Fix V V2) := Lib.hid (by
      rw [← HV2.out, ← HV1.out]
      exact ⟨by show V.cnt + 1 + 1 = V.cnt + 2; omega, rfl, ⟨rfl, rfl, rfl, rfl⟩⟩)
    first
      | exact ⟨rfl, V2, HVV.out.1, HVV.out.2.1, HVV.out.2.2, HP12.out⟩
      | (go_end0; exact ⟨rfl, V2, HVV.out.1, HVV.out.2.1, HVV.out.2.2, HP12.out⟩)
      | (go_wp2_with fail; go_end0; exact ⟨rfl, V2, HVV.out.1, HVV.out.2.1, HVV.out.2.2, HP12.out⟩)
end
end Go.Proofs.YtodppilfpemepaaGreat
