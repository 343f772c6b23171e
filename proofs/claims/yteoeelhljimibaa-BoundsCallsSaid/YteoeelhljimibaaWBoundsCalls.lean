/- BoundsCalls: of whatever bytes the calls are the chapter's, in new memory; the bytes stay. -/
import Derived.Test.YteoeelhljimibaaGRb
import Derived.Test.YteoeelhljimibaaBo8
import Derived.Test.YteoeelhljimibaaByO
import Derived.StillTailTactics
import Derived.BigRegion
import Derived.Deep.RegionHeld
namespace Go.Proofs.Yteoeelhljimibaa
open Go.RowKit Go.Maps
set_option linter.unusedVariables false

/-- A list's own calls, from a place on; they may be written. -/
structure CsA (W : World) (g k : Nat) (cs : List Cl) : Prop where
  range : W.rangeAt g (k * 7) (rowsC (cs.drop k))
  fz : ∀ j, j < cs.length * 7 → W.frozen? ⟨g, j, none⟩ = false
  lt : g < W.heap.size
theorem CsA.keep {W W' : World} {g k : Nat} {cs : List Cl} {T : Nat → Prop} (h : CsA W g k cs) (hk : Keeps T W W') (hg : ¬ T g) : CsA W' g k cs :=
  ⟨fun j v hj => hk.cell (p := ⟨g, k * 7 + j, none⟩) hg (h.range j v hj), fun j hj => hk.frozen (p := ⟨g, j, none⟩) hg h.lt (h.fz j hj), Nat.lt_of_lt_of_le h.lt hk.size⟩
theorem csA_of {W : World} {B : Nat} {a : Option Addr} {cs : List Cl} (h : Lst W B 7 (.slice a cs.length cs.length) cs.length (rowsC cs)) (h0 : 0 < cs.length) : ∃ g, a = some ⟨g, 0, none⟩ ∧ B ≤ g ∧ CsA W g 0 cs := by
  obtain ⟨_, ⟨_, h1⟩ | ⟨g', cap, hv, hB, hg, hn, hc, hx⟩⟩ := h
  · omega
  · injection hv with hv
    subst hv
    refine ⟨g', rfl, hB, fun j v hj => ?_, fun j hj => ?_, hg⟩
    · rw [Nat.zero_mul, Nat.zero_add]
      exact (hx j v hj).1
    · have hl := rowsC_len cs
      exact (hx j _ (List.getElem?_eq_getElem (by omega))).2
theorem rowsC_dropc {cs : List Cl} {k : Nat} {c : Cl} (h : cs[k]? = some c) : rowsC (cs.drop k) = callC c ++ rowsC (cs.drop (k + 1)) := by
  obtain ⟨hk, rfl⟩ := List.getElem?_eq_some_iff.mp h
  rw [List.drop_eq_getElem_cons hk]
  rfl
theorem CsA.cells {W : World} {g k : Nat} {cs : List Cl} {c : Cl} (h : CsA W g k cs) (hc : cs[k]? = some c) : ∀ j u, (callC c)[j]? = some u → W.cell? ⟨g, k * 7 + j, none⟩ = some u := fun j u hu => by
  refine h.range j u ?_
  rw [rowsC_dropc hc, List.getElem?_append_left (List.getElem?_eq_some_iff.mp hu).1]
  exact hu
theorem CsA.there {W : World} {g k : Nat} {cs : List Cl} {c : Cl} (h : CsA W g k cs) (hc : cs[k]? = some c) : W.there g (k * 7) 7 := fun j hj => by
  have hk := (List.getElem?_eq_some_iff.mp hc).1
  have hl : j < (callC c).length := hj
  refine ⟨?_, h.fz _ (by omega)⟩
  rw [h.cells hc j _ (List.getElem?_eq_getElem hl)]
  rfl
theorem CsA.next {W : World} {g k : Nat} {cs : List Cl} {c : Cl} {vs : List Value} (h : CsA W g k cs) (hc : cs[k]? = some c) (hv : vs.length = 7) : CsA (W.setCells g (k * 7) vs) g (k + 1) cs := by
  refine ⟨?_, fun j hj => by rw [frozen_setCells]; exact h.fz j hj, Nat.lt_of_lt_of_le h.lt (keeps_setCells g vs _ W).size⟩
  refine World.rangeAt_setCells_apart (fun j v hj => ?_) g (k * 7) vs (.inr (.inr (by omega)))
  have := h.range (7 + j) v (by rw [rowsC_dropc hc, List.getElem?_append_right (by show 7 ≤ 7 + j; omega)]; show (rowsC (cs.drop (k + 1)))[7 + j - 7]? = some v; rw [Nat.add_sub_cancel_left]; exact hj)
  rw [show (k + 1) * 7 + j = k * 7 + (7 + j) by omega]
  exact this
theorem ClR.cells {W : World} {v : Value} {cs : List Cl} (h : ClR W v cs) (h0 : 0 < cs.length) : ∃ g c, v = .slice (some ⟨g, 0, none⟩) cs.length c ∧ cs.length ≤ c ∧ c ≤ maxLen ∧ g < W.heap.size ∧ ∀ k x, cs[k]? = some x → ∀ j u, (callC x)[j]? = some u → W.cell? ⟨g, k * 7 + j, none⟩ = some u := by
  obtain ⟨A, c, rfl, h1, h2, _, h3⟩ := h.form
  obtain ⟨g, rfl, hg, hx⟩ := h3 h0
  exact ⟨g, c, rfl, h1, h2, hg, fun k x hk j u hu => hx _ u (rowsC_at cs k j x u hk hu)⟩
theorem info_callsz : (Try.prog.info? 33).map (·.size) = some 7 := by kernel_rfl
set_option maxHeartbeats 8000000 in
set_option maxRecDepth 100000 in
theorem walk_BoundsCalls (a0 : Option Addr) (l0 c0 : Nat) (w : World) (w0 : Reads Try.prog w 24 (.slice a0 l0 c0)) :
    Calls Try.prog 4 #[.slice a0 l0 c0] w fun e w' => e = .returned (.bool true) ∧ Below w.heap.size w w' := by
  obtain ⟨L, rfl, hLc, hLm, hA0, hrL⟩ := open_by (P := Try.prog) Try.underlying24 (by kernel_rfl) (by kernel_rfl) w0
  have HRL := Lib.hid (fun W (hb : Below w.heap.size w W) => (hrL.below hb (Nat.le_refl _)).mono hb.size)
  have hr0 := hrL
  clear w0 hrL
  by_cases h5 : 5000 < L.length
  · have d5 : decide (5000 < (L.length : Int)) = true := decide_eq_true (by omega)
    go_enter Try.func4, Try.ntmps4
    go_wp2_with fail
    refine (lives40 _).mono ?_
    rintro e wz ⟨rfl, hbz⟩
    go_wp2_with fail
    go_ret
    exact ⟨rfl, hbz⟩
  have d5 : decide (5000 < (L.length : Int)) = false := decide_eq_false (by omega)
  have hl2 : ([] : List UInt8).length + L.length ≤ 1048576 := by simp; omega
  go_enter Try.func4, Try.ntmps4
  go_wp2_with (at_builtin; refine wpList_append_by _ rfl (.const (.slice none 0 0)) (.tmp 12) 24 rfl w.heap.size 5 Try.underlying24 info_u8 (.slice none 0 0) [] rfl (World.ownsRow_nil _ _ _ _) w.heap.size a0 L c0 rfl hr0 hA0 hl2 (Nat.le_refl _) ?_; intro v3 W3 hown3 hgr3 hnil3; rw [List.nil_append] at hown3; have hb3 : Below w.heap.size w W3 := (Below.refl _ _).grown hgr3 (Nat.le_refl _) (fun k e => by simp [Value.ownBlock] at e); clear hgr3 hnil3)
  obtain ⟨a3, c3, rfl, hn3, hm3, ha3⟩ := row_slice hown3
  have hr3 := own_rd8 hown3
  refine (rcallsB a0 c0 L W3 (HRL.out _ hb3) hLc hLm (by omega)).mono ?_
  rintro e W4 ⟨v4, rfl, hC4, hb4⟩
  have hr4 : Rd W4 W4.heap.size a3 L := (hr3.below hb4 (Nat.le_refl _)).mono hb4.size
  have hbw4 : Below w.heap.size w W4 := hb3.trans (hb4.mono hb3.size)
  obtain ⟨cs, hcs⟩ : ∃ cs, cs = callsL (feedF Fst.new L).2 := ⟨_, rfl⟩
  rw [← hcs] at hC4
  have hca := callsB a3 c3 L W4 hn3 hm3 (by omega) hr4
  have HCA := Lib.hid (fun W (hb : Below W4.heap.size W4 W) => callsB a3 c3 L W hn3 hm3 (by omega) ((hr4.below hb (Nat.le_refl _)).mono hb.size))
  rw [← hcs] at hca
  have HR3 := Lib.hid (fun W (hb : Below W4.heap.size W4 W) => (hr4.below hb (Nat.le_refl _)).mono hb.size)
  have HC4 := Lib.hid hC4
  have HB4 := Lib.hid hbw4
  have HCS := Lib.hid hcs
  have HCA1 := Lib.hid hca
  clear hown3 hb3 hr3 hC4 hb4 hr4 hbw4 hca hr0
  go_wp2_with fail
  refine HCA1.out.mono ?_
  rintro e W5 ⟨a5, rfl, hL5, hR5, hb5⟩
  clear hcs
  obtain ⟨n, hn⟩ : ∃ n, n = cs.length := ⟨_, rfl⟩
  obtain ⟨A4, c4, hv4, hn4, hm4, h04, hx4⟩ := HC4.out.form
  subst hv4
  have hcv1 := conv_by (P := Try.prog) W5 24 9 5 (by kernel_rfl) (by kernel_rfl) (by kernel_rfl) c3 (HR3.out W5 hb5)
  have hcv2 := conv_by (P := Try.prog) W5 24 9 5 (by kernel_rfl) (by kernel_rfl) (by kernel_rfl) c0 (HRL.out W5 (HB4.out.trans (hb5.mono HB4.out.size)))
  have HL5 := Lib.hid hL5
  have HB5 := Lib.hid hb5
  have HNN := Lib.hid hn
  rw [← hn] at hn4 ⊢
  clear hL5 hR5 hb5 hx4 h04 hn HCA1
  unfold maxLen at hm4
  go_wp2_with fail
  go_loopw [6] (fun i wr => ∃ k : Nat, k ≤ n ∧ i = .int .i64 k ∧ Hid (Below W4.heap.size W4 wr) ∧ Hid (0 < n → ∃ g, a5 = some ⟨g, 0, none⟩ ∧ W4.heap.size ≤ g ∧ CsA wr g k cs)) (fun i _ => n - (intOf i).toNat)
  case atStart => exact ⟨0, by omega, rfl, HB5.out, fun h0 => csA_of HL5.out (by rw [← HNN.out]; exact h0)⟩
  case round =>
    obtain ⟨k, hk, rfl, hnx, hA⟩ := hrel
    by_cases hlt : k < n
    · obtain ⟨g5, rfl, hg5, hc5⟩ := hA.out (by omega)
      obtain ⟨g4, c4', hv4, -, -, hg4, hx4⟩ := HC4.out.cells (by rw [← HNN.out]; omega)
      injection hv4 with hv4 _ hv4c
      subst hv4 hv4c
      obtain ⟨cl, hcl⟩ : ∃ cl, cs[k]? = some cl := ⟨_, List.getElem?_eq_getElem (by rw [← HNN.out]; exact hlt)⟩
      obtain ⟨vb, ky, vl, fl, ex, id, by_⟩ := cl
      have r4 := fun j u hu => (hnx.out.cell (p := ⟨g4, k * 7 + j, none⟩) hg4).trans (hx4 k _ hcl j u hu)
      have r5 := hc5.cells hcl
      have x0 := r4 0 _ rfl; have x1 := r4 1 _ rfl; have x2 := r4 2 _ rfl; have x3 := r4 3 _ rfl; have x4 := r4 4 _ rfl; have x5 := r4 5 _ rfl; have x6 := r4 6 _ rfl
      have y0 := r5 0 _ rfl; have y1 := r5 1 _ rfl; have y2 := r5 2 _ rfl; have y3 := r5 3 _ rfl; have y4 := r5 4 _ rfl; have y5 := r5 5 _ rfl; have y6 := r5 6 _ rfl
      simp only [Nat.add_zero] at x0 x1 x2 x3 x4 x5 x6 y0 y1 y2 y3 y4 y5 y6
      have hkn : (k : Int) < (n : Int) := by omega
      have HCL := Lib.hid (And.intro hcl (And.intro hc5 hg5))
      clear r4 r5 hx4 hcl hc5 hA
      go_wp2_with fail
      go_quiet (fail)
      have hdn : Below wr.heap.size wr (wr.drewN nq) := belowNf (Below.refl _ _) nq
      have HC6 := Lib.hid (HCL.out.2.1.keep (T := fun _ => False) (Keeps.of_new hdn) (fun e => e))
      have HB6 := Lib.hid (hnx.out.trans (hdn.mono hnx.out.size))
      clear x0 x1 x2 x3 x4 x5 x6 y0 y1 y2 y3 y4 y5 y6 hdn hnx
      generalize wr.drewN nq = W6 at *
      have hth := HC6.out.there HCL.out.1
      have r6 := HC6.out.cells HCL.out.1
      have y0 := r6 0 _ rfl; have y1 := r6 1 _ rfl; have y2 := r6 2 _ rfl; have y3 := r6 3 _ rfl; have y4 := r6 4 _ rfl; have y5 := r6 5 _ rfl; have y6 := r6 6 _ rfl
      have f0 := (hth 0 (by decide)).2; have f1 := (hth 1 (by decide)).2; have f2 := (hth 2 (by decide)).2; have f3 := (hth 3 (by decide)).2; have f4 := (hth 4 (by decide)).2; have f5 := (hth 5 (by decide)).2; have f6 := (hth 6 (by decide)).2
      simp only [Nat.add_zero] at y0 y1 y2 y3 y4 y5 y6 f0 f1 f2 f3 f4 f5 f6
      clear r6 hth
      go_wp2
      have hset : Below W4.heap.size W4 (W6.setCells g5 (k * 7) [.int .u8 0, .string ⟨#[]⟩, .string ⟨#[]⟩, .int .u32 0, .int .i64 0, .int .u64 0, .int .u64 0]) := HB6.out.trans ((keeps_setCells g5 _ _ W6).to_below (fun j _ e => by have := HCL.out.2.2; omega) HB6.out.size)
      have hnxt : CsA (W6.setCells g5 (k * 7) [.int .u8 0, .string ⟨#[]⟩, .string ⟨#[]⟩, .int .u32 0, .int .i64 0, .int .u64 0, .int .u64 0]) g5 (k + 1) cs := HC6.out.next HCL.out.1 rfl
      go_roundw
      case rel => exact ⟨k + 1, by omega, by go_num, hset, fun _ => ⟨g5, rfl, HCL.out.2.2, hnxt⟩⟩
      case measure => simp [intOf]; omega
    · obtain rfl : k = n := by omega
      have hd : decide ((k : Int) < (k : Int)) = false := decide_eq_false (by omega)
      clear hA hcv1 hcv2
      go_wp2_with fail
      refine (HCA.out wr hnx.out).mono ?_
      rintro e W7 ⟨a7, rfl, hL7, hR7, hb7⟩
      rw [← HCS.out] at hR7 ⊢
      have hb47 : Below W4.heap.size W4 W7 := hnx.out.trans (hb7.mono hnx.out.size)
      have HC7 := Lib.hid (HC4.out.on hb47)
      have HR7 := Lib.hid hR7
      have HB7 := Lib.hid (HB4.out.trans (hb47.mono HB4.out.size))
      clear hL7 hR7 hb7 hb47 hnx
      rw [← HNN.out]
      rcases Nat.eq_zero_or_pos k with h0 | h0
      · subst h0
        clear hd hlt hk hn4
        go_wp2_with fail
        refine wp_region_held_drew (S := fun _ => True) (by kernel_rfl) trivial (fun hHeld => ?_)
        refine wpAnyH_take (i := 0) (oi := ({ dst := some 58, op := Op.move (Operand.tmp 7), type := 28, pos := "law.go:51", after := #[], guard := none })) (v := ?_) rfl (by kernel_rfl) (by kernel_rfl) (by kernel_rfl) (fun _ _ _ h => h) (Or.inl ⟨by rfl, ?_⟩) (by assumption) ?_
        rotate_left 1
        · (intro w9 hSw; (try dsimp only at hSw); go_simp; try with_reducible rfl)
        try simp only [Act.put, List.setIfInBounds_toArray, List.set_cons_zero, List.set_cons_succ]
        refine wpAnyH_take (i := 1) (oi := ({ dst := some 59, op := Op.call { callee := Callee.builtin Builtin.len, args := #[Operand.tmp 58], argTypes := #[28] }, type := 3, pos := "law.go:51", after := #[{ on := 0, ground := Ground.data }], guard := none })) (v := ?_) rfl (by kernel_rfl) (by kernel_rfl) (by kernel_rfl) (fun _ _ _ h => h) (Or.inl ⟨by rfl, ?_⟩) (by assumption) ?_
        rotate_left 1
        · (intro w9 hSw; (try dsimp only at hSw); go_simp; try with_reducible rfl)
        try simp only [Act.put, List.setIfInBounds_toArray, List.set_cons_zero, List.set_cons_succ]
        refine wpAnyH_take (i := 2) (oi := ({ dst := some 60, op := Op.move (Operand.tmp 4), type := 28, pos := "law.go:51", after := #[], guard := none })) (v := ?_) rfl (by kernel_rfl) (by kernel_rfl) (by kernel_rfl) (fun _ _ _ h => h) (Or.inl ⟨by rfl, ?_⟩) (by assumption) ?_
        rotate_left 1
        · (intro w9 hSw; (try dsimp only at hSw); go_simp; try with_reducible rfl)
        try simp only [Act.put, List.setIfInBounds_toArray, List.set_cons_zero, List.set_cons_succ]
        refine wpAnyH_take (i := 3) (oi := ({ dst := some 61, op := Op.call { callee := Callee.builtin Builtin.len, args := #[Operand.tmp 60], argTypes := #[28] }, type := 3, pos := "law.go:51", after := #[{ on := 2, ground := Ground.data }], guard := none })) (v := ?_) rfl (by kernel_rfl) (by kernel_rfl) (by kernel_rfl) (fun _ _ _ h => h) (Or.inl ⟨by rfl, ?_⟩) (by assumption) ?_
        rotate_left 1
        · (intro w9 hSw; (try dsimp only at hSw); go_simp; try with_reducible rfl)
        try simp only [Act.put, List.setIfInBounds_toArray, List.set_cons_zero, List.set_cons_succ]
        refine wpAnyH_take (i := 4) (oi := ({ dst := some 62, op := Op.binOp BinOp.eql 3 (Operand.tmp 59) (Operand.tmp 61) 3, type := 4, pos := "law.go:51", after := #[{ on := 1, ground := Ground.data }, { on := 3, ground := Ground.data }], guard := none })) (v := ?_) rfl (by kernel_rfl) (by kernel_rfl) (by kernel_rfl) (fun _ _ _ h => h) (Or.inl ⟨by rfl, ?_⟩) (by assumption) ?_
        rotate_left 1
        · (intro w9 hSw; (try dsimp only at hSw); go_simp; try with_reducible rfl)
        try simp only [Act.put, List.setIfInBounds_toArray, List.set_cons_zero, List.set_cons_succ]
        refine wpAnyH_take (i := 5) (oi := ({ dst := some 63, op := Op.move (Operand.tmp 62), type := 4, pos := "law.go:51", after := #[{ on := 4, ground := Ground.data }], guard := none })) (v := ?_) rfl (by kernel_rfl) (by kernel_rfl) (by kernel_rfl) (fun _ _ _ h => h) (Or.inl ⟨by rfl, ?_⟩) (by assumption) ?_
        rotate_left 1
        · (intro w9 hSw; (try dsimp only at hSw); go_simp; try with_reducible rfl)
        try simp only [Act.put, List.setIfInBounds_toArray, List.set_cons_zero, List.set_cons_succ]
        refine wpAnyH_take (i := 6) (oi := ({ dst := some 64, op := Op.move (Operand.tmp 7), type := 28, pos := "law.go:51", after := #[{ on := 5, ground := Ground.guard }], guard := some (5, true) })) (v := ?_) rfl (by kernel_rfl) (by kernel_rfl) (by kernel_rfl) (fun _ _ _ h => h) (Or.inl ⟨by rfl, ?_⟩) (by assumption) ?_
        rotate_left 1
        · (intro w9 hSw; (try dsimp only at hSw); go_simp; try with_reducible rfl)
        try simp only [Act.put, List.setIfInBounds_toArray, List.set_cons_zero, List.set_cons_succ]
        refine wpAnyH_take (i := 7) (oi := ({ dst := some 65, op := Op.call { callee := Callee.builtin Builtin.len, args := #[Operand.tmp 64], argTypes := #[28] }, type := 3, pos := "law.go:51", after := #[{ on := 6, ground := Ground.data }, { on := 5, ground := Ground.guard }], guard := some (5, true) })) (v := ?_) rfl (by kernel_rfl) (by kernel_rfl) (by kernel_rfl) (fun _ _ _ h => h) (Or.inl ⟨by rfl, ?_⟩) (by assumption) ?_
        rotate_left 1
        · (intro w9 hSw; (try dsimp only at hSw); go_simp; try with_reducible rfl)
        try simp only [Act.put, List.setIfInBounds_toArray, List.set_cons_zero, List.set_cons_succ]
        refine wpAnyH_take (i := 8) (oi := ({ dst := some 66, op := Op.binOp BinOp.eql 3 (Operand.tmp 65) (Operand.const (Value.int IntKind.i64 0)) 3, type := 4, pos := "law.go:51", after := #[{ on := 7, ground := Ground.data }, { on := 5, ground := Ground.guard }], guard := some (5, true) })) (v := ?_) rfl (by kernel_rfl) (by kernel_rfl) (by kernel_rfl) (fun _ _ _ h => h) (Or.inl ⟨by rfl, ?_⟩) (by assumption) ?_
        rotate_left 1
        · (intro w9 hSw; (try dsimp only at hSw); go_simp; try with_reducible rfl)
        try simp only [Act.put, List.setIfInBounds_toArray, List.set_cons_zero, List.set_cons_succ]
        refine wpAnyH_take (i := 9) (oi := ({ dst := some 67, op := Op.move (Operand.tmp 66), type := 4, pos := "law.go:51", after := #[{ on := 8, ground := Ground.data }, { on := 5, ground := Ground.chain }, { on := 5, ground := Ground.guard }], guard := some (5, true) })) (v := ?_) rfl (by kernel_rfl) (by kernel_rfl) (by kernel_rfl) (fun _ _ _ h => h) (Or.inl ⟨by rfl, ?_⟩) (by assumption) ?_
        rotate_left 1
        · (intro w9 hSw; (try dsimp only at hSw); go_simp; try with_reducible rfl)
        try simp only [Act.put, List.setIfInBounds_toArray, List.set_cons_zero, List.set_cons_succ]
        refine wpAnyH_take (i := 10) (oi := ({ dst := some 68, op := Op.move (Operand.tmp 7), type := 28, pos := "law.go:51", after := #[{ on := 9, ground := Ground.guard }], guard := some (9, false) })) (v := undef) rfl (by kernel_rfl) (by kernel_rfl) (by kernel_rfl) (fun _ _ _ h => h) (Or.inr ⟨by rfl, rfl⟩) (by assumption) ?_
        try simp only [Act.put, List.setIfInBounds_toArray, List.set_cons_zero, List.set_cons_succ]
        refine wpAnyH_take (i := 11) (oi := ({ dst := some 69, op := Op.indexAddr 28 (Operand.tmp 68) (Operand.const (Value.int IntKind.i64 0)), type := 0, pos := "law.go:51", after := #[{ on := 10, ground := Ground.data }, { on := 9, ground := Ground.guard }], guard := some (9, false) })) (v := undef) rfl (by kernel_rfl) (by kernel_rfl) (by kernel_rfl) (fun _ _ _ h => h) (Or.inr ⟨by rfl, rfl⟩) (by assumption) ?_
        try simp only [Act.put, List.setIfInBounds_toArray, List.set_cons_zero, List.set_cons_succ]
        refine wpAnyH_take (i := 12) (oi := ({ dst := some 70, op := Op.load 33 (Operand.tmp 69), type := 33, pos := "law.go:51", after := #[{ on := 11, ground := Ground.data }, { on := 9, ground := Ground.guard }], guard := some (9, false) })) (v := undef) rfl (by kernel_rfl) (by kernel_rfl) (by kernel_rfl) (fun _ _ _ h => h) (Or.inr ⟨by rfl, rfl⟩) (by assumption) ?_
        try simp only [Act.put, List.setIfInBounds_toArray, List.set_cons_zero, List.set_cons_succ]
        refine wpAnyH_take (i := 13) (oi := ({ dst := some 71, op := Op.move (Operand.tmp 4), type := 28, pos := "law.go:51", after := #[{ on := 9, ground := Ground.guard }], guard := some (9, false) })) (v := undef) rfl (by kernel_rfl) (by kernel_rfl) (by kernel_rfl) (fun _ _ _ h => h) (Or.inr ⟨by rfl, rfl⟩) (by assumption) ?_
        try simp only [Act.put, List.setIfInBounds_toArray, List.set_cons_zero, List.set_cons_succ]
        refine wpAnyH_take (i := 14) (oi := ({ dst := some 72, op := Op.indexAddr 28 (Operand.tmp 71) (Operand.const (Value.int IntKind.i64 0)), type := 0, pos := "law.go:51", after := #[{ on := 13, ground := Ground.data }, { on := 9, ground := Ground.guard }], guard := some (9, false) })) (v := undef) rfl (by kernel_rfl) (by kernel_rfl) (by kernel_rfl) (fun _ _ _ h => h) (Or.inr ⟨by rfl, rfl⟩) (by assumption) ?_
        try simp only [Act.put, List.setIfInBounds_toArray, List.set_cons_zero, List.set_cons_succ]
        refine wpAnyH_take (i := 15) (oi := ({ dst := some 73, op := Op.load 33 (Operand.tmp 72), type := 33, pos := "law.go:51", after := #[{ on := 14, ground := Ground.data }, { on := 9, ground := Ground.guard }], guard := some (9, false) })) (v := undef) rfl (by kernel_rfl) (by kernel_rfl) (by kernel_rfl) (fun _ _ _ h => h) (Or.inr ⟨by rfl, rfl⟩) (by assumption) ?_
        try simp only [Act.put, List.setIfInBounds_toArray, List.set_cons_zero, List.set_cons_succ]
        refine wpAnyH_take (i := 16) (oi := ({ dst := some 74, op := Op.binOp BinOp.eql 33 (Operand.tmp 70) (Operand.tmp 73) 33, type := 4, pos := "law.go:51", after := #[{ on := 12, ground := Ground.data }, { on := 15, ground := Ground.data }, { on := 9, ground := Ground.guard }], guard := some (9, false) })) (v := undef) rfl (by kernel_rfl) (by kernel_rfl) (by kernel_rfl) (fun _ _ _ h => h) (Or.inr ⟨by rfl, rfl⟩) (by assumption) ?_
        try simp only [Act.put, List.setIfInBounds_toArray, List.set_cons_zero, List.set_cons_succ]
        refine wpAnyH_take (i := 17) (oi := ({ dst := some 75, op := Op.pick (Operand.tmp 67) (Operand.const (Value.bool true)) (Operand.tmp 74), type := 4, pos := "law.go:51", after := #[{ on := 9, ground := Ground.data }, { on := 16, ground := Ground.data }, { on := 5, ground := Ground.guard }], guard := some (5, true) })) (v := ?_) rfl (by kernel_rfl) (by kernel_rfl) (by kernel_rfl) (fun _ _ _ h => h) (Or.inl ⟨by rfl, ?_⟩) (by assumption) ?_
        rotate_left 1
        · (intro w9 hSw; (try dsimp only at hSw); go_simp; try with_reducible rfl)
        try simp only [Act.put, List.setIfInBounds_toArray, List.set_cons_zero, List.set_cons_succ]
        refine wpAnyH_take (i := 18) (oi := ({ dst := some 76, op := Op.pick (Operand.tmp 63) (Operand.tmp 75) (Operand.const (Value.bool false)), type := 4, pos := "law.go:51", after := #[{ on := 5, ground := Ground.data }, { on := 17, ground := Ground.data }], guard := none })) (v := ?_) rfl (by kernel_rfl) (by kernel_rfl) (by kernel_rfl) (fun _ _ _ h => h) (Or.inl ⟨by rfl, ?_⟩) (by assumption) ?_
        rotate_left 1
        · (intro w9 hSw; (try dsimp only at hSw); go_simp; try with_reducible rfl)
        try simp only [Act.put, List.setIfInBounds_toArray, List.set_cons_zero, List.set_cons_succ]
        refine wpAnyH_take (i := 19) (oi := ({ dst := some 77, op := Op.move (Operand.tmp 76), type := 4, pos := "law.go:51", after := #[{ on := 18, ground := Ground.data }, { on := 9, ground := Ground.chain }], guard := none })) (v := ?_) rfl (by kernel_rfl) (by kernel_rfl) (by kernel_rfl) (fun _ _ _ h => h) (Or.inl ⟨by rfl, ?_⟩) (by assumption) ?_
        rotate_left 1
        · (intro w9 hSw; (try dsimp only at hSw); go_simp; try with_reducible rfl)
        try simp only [Act.put, List.setIfInBounds_toArray, List.set_cons_zero, List.set_cons_succ]
        refine wpAnyH_ready (rs := [20]) (by kernel_rfl) (by simp) ?_
        refine AllReadyH.cons (o := ({ dst := some 78, op := Op.call { callee := Callee.value (Operand.func 7), args := #[], argTypes := #[] }, type := 4, pos := "law.go:51", after := #[{ on := 19, ground := Ground.chain }, { on := 19, ground := Ground.guard }], guard := some (19, true) })) rfl (fun K hK => ?_) AllReadyH.nil
        go_simp
        refine (lives40 W7.drew).mono ?_
        rintro e W9 ⟨rfl, hb9⟩
        have HB9 := Lib.hid (HB7.out.trans (((Below.refl W7.heap.size W7).drew.trans hb9).mono HB7.out.size))
        clear hb9
        refine hK.out _ _ trivial (fun hHeld => ?_)
        clear hK K
        try simp only [Act.put, List.setIfInBounds_toArray, List.set_cons_zero, List.set_cons_succ]
        refine wpAnyH_take (i := 21) (oi := ({ dst := some 79, op := Op.pick (Operand.tmp 77) (Operand.tmp 78) (Operand.const (Value.bool false)), type := 4, pos := "law.go:51", after := #[{ on := 19, ground := Ground.data }, { on := 20, ground := Ground.data }], guard := none })) (v := ?_) rfl (by kernel_rfl) (by kernel_rfl) (by kernel_rfl) (fun _ _ _ h => h) (Or.inl ⟨by rfl, ?_⟩) (by assumption) ?_
        rotate_left 1
        · (intro w9 hSw; (try dsimp only at hSw); go_simp; try with_reducible rfl)
        try simp only [Act.put, List.setIfInBounds_toArray, List.set_cons_zero, List.set_cons_succ]
        refine wpAnyH_take (i := 22) (oi := ({ dst := some 2, op := Op.assign (Operand.tmp 79), type := 4, pos := "law.go:51", after := #[{ on := 21, ground := Ground.data }, { on := 20, ground := Ground.chain }, { on := 0, ground := Ground.phase }, { on := 1, ground := Ground.phase }, { on := 2, ground := Ground.phase }, { on := 3, ground := Ground.phase }, { on := 4, ground := Ground.phase }, { on := 5, ground := Ground.phase }, { on := 6, ground := Ground.phase }, { on := 7, ground := Ground.phase }, { on := 8, ground := Ground.phase }, { on := 9, ground := Ground.phase }, { on := 10, ground := Ground.phase }, { on := 11, ground := Ground.phase }, { on := 12, ground := Ground.phase }, { on := 13, ground := Ground.phase }, { on := 14, ground := Ground.phase }, { on := 15, ground := Ground.phase }, { on := 16, ground := Ground.phase }, { on := 17, ground := Ground.phase }, { on := 18, ground := Ground.phase }, { on := 19, ground := Ground.phase }, { on := 20, ground := Ground.phase }, { on := 21, ground := Ground.phase }], guard := none })) (v := ?_) rfl (by kernel_rfl) (by kernel_rfl) (by kernel_rfl) (fun _ _ _ h => h) (Or.inl ⟨by rfl, ?_⟩) (by assumption) ?_
        rotate_left 1
        · (intro w9 hSw; (try dsimp only at hSw); go_simp; try with_reducible rfl)
        try simp only [Act.put, List.setIfInBounds_toArray, List.set_cons_zero, List.set_cons_succ]
        refine wpAnyH_done (by kernel_rfl) ?_ _
        go_wp2_with fail
        go_ret
        exact ⟨rfl, HB9.out⟩
      · obtain ⟨g7, c7, hv7, -, -, hg7, hx7⟩ := HR7.out.cells (by rw [← HNN.out]; omega)
        injection hv7 with hv7 _ hv7c
        subst hv7 hv7c
        obtain ⟨g4, c4', hv4, -, -, hg4, hx4⟩ := HC7.out.cells (by rw [← HNN.out]; omega)
        injection hv4 with hv4 _ hv4c
        subst hv4 hv4c
        obtain ⟨cl, hcl⟩ : ∃ cl, cs[0]? = some cl := ⟨_, List.getElem?_eq_getElem (by rw [← HNN.out]; exact h0)⟩
        obtain ⟨vb, ky, vl, fl, ex, id, by_⟩ := cl
        have r4 := hx4 0 _ hcl
        have r5 := hx7 0 _ hcl
        have x0 := r4 0 _ rfl; have x1 := r4 1 _ rfl; have x2 := r4 2 _ rfl; have x3 := r4 3 _ rfl; have x4 := r4 4 _ rfl; have x5 := r4 5 _ rfl; have x6 := r4 6 _ rfl
        have y0 := r5 0 _ rfl; have y1 := r5 1 _ rfl; have y2 := r5 2 _ rfl; have y3 := r5 3 _ rfl; have y4 := r5 4 _ rfl; have y5 := r5 5 _ rfl; have y6 := r5 6 _ rfl
        simp only [Nat.zero_mul, Nat.zero_add] at x0 x1 x2 x3 x4 x5 x6 y0 y1 y2 y3 y4 y5 y6
        have hk0 : ((k : Int) == 0) = false := beq_eq_false_iff_ne.mpr (by omega)
        have hk1 : (0 : Int) < (k : Int) := by omega
        clear r4 r5 hx4 hx7 hcl
        go_wp2_with fail
        go_still_tail 20, (by kernel_rfl)
        change wpList _ _ _ _ _ W7.drew
        have hb8 := (Below.refl W7.heap.size W7).drew
        have HB8 := Lib.hid (HB7.out.trans (hb8.mono HB7.out.size))
        clear hb8 x0 x1 x2 x3 x4 x5 x6 y0 y1 y2 y3 y4 y5 y6
        generalize W7.drew = W8 at *
        go_wp2_with fail
        refine (lives40 W8).mono ?_
        rintro e W9 ⟨rfl, hb9⟩
        have HB9 := Lib.hid (HB8.out.trans (hb9.mono HB8.out.size))
        clear hb9
        go_wp2_with fail
        go_ret
        exact ⟨rfl, HB9.out⟩
end Go.Proofs.Yteoeelhljimibaa
