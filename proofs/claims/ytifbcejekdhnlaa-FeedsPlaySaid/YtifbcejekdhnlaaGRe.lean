/- The chapter's feeds: In, Left. -/
import Derived.Test.YtifbcejekdhnlaaGRd
import Derived.BigRegion
import Derived.Deep.RegionHeld
import Derived.IntWalk
import Derived.Test.YtifbcejekdhnlaaByO
namespace Go.Proofs.Ytifbcejekdhnlaa
open Go.RowKit Go.Maps
set_option linter.unusedVariables false

theorem run_size_k {P : Program} {e : TypeId} {K : Nat} (w : World) (hsz : (P.info? e).map (·.size) = some K) : (sizeOf e).run P w = .ok K w := by
  cases h : P.info? e with
  | none => simp [h] at hsz
  | some i =>
    have : i.size = K := by simpa [h] using hsz
    simp [sizeOf, typeInfo, h, this]
/-- The address a cut begins at, of elements of K cells. -/
def cutK (K : Nat) (A : Option Addr) (n c : Nat) : Option Addr := if c = n then A else A.map (·.add (n * K))
theorem wpList_cut_loK {P : Program} {ops : Array Oper} {rest : List Oper} {o : Oper} {a : Act} {w : World} {Q : Exit → Act → World → Prop} (hgd : o.guard = none) (t e : TypeId) (x y : Operand) (K : Nat) (ho : o.op = .slice t x (some y) none none) (ht : P.underlying t = some (.slice e)) (hsz : (P.info? e).map (·.size) = some K)
    (A : Option Addr) (m c n : Nat) (hx : a.eval x = .slice A m c) (hy : a.eval y = .int .i64 n) (hn : n ≤ m)
    (hK : wpList P ops Q rest (a.put o.dst (.slice (cutK K A n c) (m - n) (c - n))) w) : wpList P ops Q (o :: rest) a w := by
  have hel : P.elem t = e := by simp [Program.elem, ht]
  refine wpList_plain hgd fun K' hK' => ?_
  have hr : (Instr.sliceAt t (.slice A m c) (some (.int .i64 (n : Int))) none none).run P w = .ok (.slice (cutK K A n c) (m - n) (c - n)) w := by
    rw [run_sliceAt_slice w t _ _ _ _ (by rw [hel]; exact ht), run_slice_l w t A m c (by rw [hel]; exact ht) .i64 (n : Int) (by omega) (by omega), hel]
    simp only [run_size_k w hsz, Result.andThen, sliced, Int.toNat_natCast, cutK]
  unfold Oper.wp execOp
  simp only [ho, Sem.run_bind, Sem.run_pure, Result.andThen_ok, Option.map_some, Option.map_none, hx, hy, hr]
  exact hK' _ _ hK
/-- The chapter's events, as they can be read. -/
structure EvRR (W : World) (v : Value) (ps : List (Ev × Value)) : Prop where
  form : ∃ A c, v = .slice A ps.length c ∧ ps.length ≤ c ∧ c ≤ maxLen ∧ (0 < ps.length → ∃ g o, A = some ⟨g, o, none⟩ ∧ g < W.heap.size ∧ ∀ j u, (rowsR ps)[j]? = some u → W.cell? ⟨g, o + j, none⟩ = some u)
  keys : ∀ p ∈ ps, KyR W p.2 p.1.cmd.keys
theorem EvRR.on {W W' : World} {v : Value} {ps : List (Ev × Value)} (h : EvRR W v ps) (hb : Below W.heap.size W W') : EvRR W' v ps := by
  obtain ⟨A, c, e, h1, h2, h3⟩ := h.form
  refine ⟨⟨A, c, e, h1, h2, fun h0 => ?_⟩, fun p hp => (h.keys p hp).on hb⟩
  obtain ⟨g, o, e2, hg, hc⟩ := h3 h0
  exact ⟨g, o, e2, Nat.lt_of_lt_of_le hg hb.size, fun j u hu => (hb.cell (p := ⟨g, o + j, none⟩) hg).trans (hc j u hu)⟩
/-- The chapter's feed p, whose bytes lie in block g. -/
structure RfAt (W : World) (p g : Nat) (all : List UInt8) : Prop where
  form : ∃ A c, Cb W p [.slice A all.length c, .int .i64 ((feedF Fst.new all).2.length : Nat)] ∧ all.length ≤ c ∧ c ≤ maxLen ∧ Rd W W.heap.size A all ∧ (A = none → c = 0) ∧ (∀ g' o, A = some ⟨g', o, none⟩ → g' = g ∧ g ≠ p)
  lt : g < W.heap.size
theorem RfAt.keep {W W' : World} {p g : Nat} {all : List UInt8} {T : Nat → Prop} (h : RfAt W p g all) (hk : Keeps T W W') (hp : ¬ T p) (hg : ¬ T g) : RfAt W' p g all := by
  obtain ⟨A, c, h1, h2, h3, h4, h5, h6⟩ := h.form
  refine ⟨⟨A, c, h1.keep hk hp, h2, h3, fun h0 => ?_, h5, h6⟩, Nat.lt_of_lt_of_le h.lt hk.size⟩
  obtain ⟨g', o, e, hl, hc⟩ := h4 h0
  have := (h6 g' o e).1
  subst this
  exact ⟨g', o, e, Nat.lt_of_lt_of_le hl hk.size, fun j hj => hk.cell (p := ⟨g', o + j, none⟩) hg (hc j hj)⟩
theorem RfAt.new {W W' : World} {p g : Nat} {all : List UInt8} (h : RfAt W p g all) (hb : Below W.heap.size W W') : RfAt W' p g all := h.keep (T := fun _ => False) (Keeps.of_new hb) (fun e => e) (fun e => e)
theorem rowsR_drop (ps : List (Ev × Value)) (n : Nat) : rowsR ps = rowsR (ps.take n) ++ rowsR (ps.drop n) := by
  rw [← rowsR_app, List.take_append_drop]
/-- A list's tail, as it can be read, behind a write of one block. -/
theorem evRR_of {w W W' : World} {a : Option Addr} {n c q k : Nat} {ps : List (Ev × Value)} {u : Value} (h : RvS w W (.slice a n c) ps) (hk : Keeps (fun k => k = q) W W') (hq : q < w.heap.size) (hu : W.cell? ⟨q, 0, none⟩ = some u) (hus : ∀ x, u ≠ .string x) (hkn : k ≤ ps.length) : n = ps.length ∧ EvRR W' (.slice (cutK 13 a k c) (n - k) (c - k)) (ps.drop k) := by
  have hn : n = ps.length := by
    obtain ⟨_, _, e, _⟩ := row_slice h.row
    injection e
  subst hn
  obtain ⟨_, _, e, hc, hcm, _⟩ := row_slice h.row
  injection e with e1 _ e3
  subst e1 e3
  refine ⟨rfl, ⟨_, _, by rw [List.length_drop], by rw [List.length_drop]; omega, by unfold maxLen at *; omega, fun h0 => ?_⟩, fun p hp => (h.keys p (List.mem_of_mem_drop hp)).other hk (fun g e x hx => ?_)⟩
  · rw [List.length_drop] at h0
    rcases h.row.2 with ⟨he, h4⟩ | ⟨g, cap, cur, he, hB, hbk, _⟩
    · omega
    · injection he with e1 _ e3
      subst e1 e3
      have hg : ¬ g = q := by omega
      refine ⟨g, 0 + k * 13, by unfold cutK; rw [if_neg (by omega), Option.map_some, Addr.add_lit], Nat.lt_of_lt_of_le (h.row.lt g rfl).2 hk.size, fun j u hu => ?_⟩
      have hat : (rowsR ps)[k * 13 + j]? = some u := by
        rw [rowsR_drop ps k, List.getElem?_append_right (by rw [rowsR_len, List.length_take, Nat.min_eq_left hkn]; omega), rowsR_len, List.length_take, Nat.min_eq_left hkn, show k * 13 + j - k * 13 = j by omega]
        exact hu
      have := h.row.cells (g := g) rfl _ u hat
      rw [Addr.add_lit] at this
      rw [Nat.add_assoc]
      exact hk.cell (p := ⟨g, 0 + (k * 13 + j), none⟩) hg this
  · subst e
    rw [hu] at hx
    injection hx with hx
    exact hus x hx
end Go.Proofs.Ytifbcejekdhnlaa
/- Next: The chapter's feeds: In, Left: the walks. -/
namespace Go.Proofs.Ytifbcejekdhnlaa
open Go.RowKit Go.Maps
set_option linter.unusedVariables false

set_option maxHeartbeats 2000000 in
set_option maxRecDepth 100000 in
theorem rleftw (p g : Nat) (all : List UInt8) (w : World) (h : RfAt w p g all) (hl : all.length ≤ 100000) :
    Calls Try.prog 13 #[.pointer (some ⟨p, 0, none⟩)] w fun e w' => e = .returned (.int .i64 (leftF (feedF Fst.new all).1 : Nat)) ∧ Below w.heap.size w w' := by
  obtain ⟨A, c, hC, hc, hcm, hr, hc0, hA⟩ := h.form
  have c0 := hC.at_ 0 _ rfl
  have HE := Lib.hid (reventsw A c all w hr hc hcm hl)
  clear hr hA hC h
  go_enter Try.func13, Try.ntmps13
  go_wp2_with (go_at_call 21; refine HE.out.mono ?_; rintro e w1 ⟨v, ps, rfl, hps, hS⟩; have HB := Lib.hid hS.base; clear hS hps)
  go_ret
  exact ⟨rfl, HB.out⟩
/-- What the chapter's In leaves. -/
def RinPost (w : World) (p : Nat) (all b : List UInt8) (e : Ending) (w' : World) : Prop :=
  ∃ v ps g, e = .returned v ∧ EvRR w' v ps ∧ ps.map Prod.fst = (feedF (feedF Fst.new all).1 b).2 ∧ RfAt w' p g (all ++ b) ∧ Keeps (fun k => k = p) w w' ∧ (g = p ∨ w.heap.size ≤ g)
theorem rin_done {w W3 W4 W5 : World} {p n c3 k : Nat} {all b : List UInt8} {a3 : Option Addr} {ps : List (Ev × Value)} {A2 : Option Addr} {c2 : Nat} (hk3 : Keeps (fun k => k = p) w W3) (hp : p < w.heap.size) (hS : RvS W3 W4 (.slice a3 n c3) ps) (hps : ps.map Prod.fst = (feedF Fst.new (all ++ b)).2) (hk5 : Keeps (fun k => k = p) W4 W5) (hk : k = (feedF Fst.new all).2.length)
    (hC4 : Cb W4 p [.slice A2 (all ++ b).length c2, .int .i64 (k : Nat)]) (hC5 : Cb W5 p [.slice A2 (all ++ b).length c2, .int .i64 (n : Nat)]) (hc : (all ++ b).length ≤ c2) (hcm : c2 ≤ maxLen) (hr : Rd W3 W3.heap.size A2 (all ++ b)) (hc0 : A2 = none → c2 = 0) (hA : ∀ g o, A2 = some ⟨g, o, none⟩ → w.heap.size ≤ g) (hA0 : (all ++ b).length = 0 → A2 = none) :
    k ≤ n ∧ RinPost w p all b (.returned (.slice (cutK 13 a3 k c3) (n - k) (c3 - k))) W5 := by
  have hap : feedF Fst.new (all ++ b) = ((feedF (feedF Fst.new all).1 b).1, (feedF Fst.new all).2 ++ (feedF (feedF Fst.new all).1 b).2) := feedF_append _ _ _
  have hpl : ps.length = (feedF Fst.new all).2.length + (feedF (feedF Fst.new all).1 b).2.length := by
    have := congrArg List.length hps
    rw [List.length_map, hap, List.length_append] at this
    exact this
  have hs3 := hk3.size
  obtain ⟨hn, hE⟩ := evRR_of hS hk5 (by omega) (hC4.at_ 0 _ rfl) (by simp) (show k ≤ ps.length by omega)
  have hkp : Keeps (fun k => k = p) w W5 := (hk3.trans (T := fun _ => False) (Keeps.of_new hS.base) (fun _ _ e => e.elim)).trans hk5 (fun _ _ e => e)
  have hs5 := hkp.size
  refine ⟨by omega, .slice (cutK 13 a3 k c3) (n - k) (c3 - k), ps.drop k, ?_⟩
  have hr5 : ∀ g o, A2 = some ⟨g, o, none⟩ → 0 < (all ++ b).length → ∀ j (h : j < (all ++ b).length), W5.cell? ⟨g, o + j, none⟩ = some (.int .u8 ((all ++ b)[j].toNat : Int)) := by
    intro g o e h0 j hj
    obtain ⟨g', o', e', hl, hcc⟩ := hr h0
    rw [e] at e'
    injection e' with e'
    injection e' with e1 e2 _
    subst e1 e2
    have := hA g o e
    exact hk5.cell (p := ⟨g, o + j, none⟩) (show ¬ g = p by omega) ((hS.base.cell (p := ⟨g, o + j, none⟩) hl).trans (hcc j hj))
  have hm : (ps.drop k).map Prod.fst = (feedF (feedF Fst.new all).1 b).2 := by
    rw [List.map_drop, hps, hap, hk]
    simp
  have hmany : n = (feedF Fst.new (all ++ b)).2.length := by rw [hn, ← hps, List.length_map]
  rcases Nat.eq_zero_or_pos (all ++ b).length with h0 | h0
  · refine ⟨p, rfl, hE, hm, ⟨⟨A2, c2, by rw [← hmany]; exact hC5, hc, hcm, fun h => by omega, hc0, fun g o e => ?_⟩, by omega⟩, hkp, .inl rfl⟩
    rw [hA0 h0] at e
    simp at e
  · obtain ⟨g, o, e, hl, hcc⟩ := hr h0
    have hg := hA g o e
    refine ⟨g, rfl, hE, hm, ⟨⟨A2, c2, by rw [← hmany]; exact hC5, hc, hcm, fun h => ⟨g, o, e, ?_, hr5 g o e h0⟩, hc0, fun g' o' e' => ?_⟩, ?_⟩, hkp, .inr hg⟩
    · have := hS.base.size; have := hk5.size; omega
    · rw [e] at e'
      injection e' with e'
      injection e' with e1 _ _
      exact ⟨e1.symm, by omega⟩
    · have := hS.base.size; have := hk5.size; omega
set_option maxHeartbeats 2000000 in
set_option maxRecDepth 100000 in
theorem rinw (p g : Nat) (all b : List UInt8) (Ab : Option Addr) (cb : Nat) (w : World) (h : RfAt w p g all) (hl : (all ++ b).length ≤ 100000) (hrb : Rd w w.heap.size Ab b) (hb0 : Ab = none → cb = 0) :
    Calls Try.prog 11 #[.pointer (some ⟨p, 0, none⟩), .slice Ab b.length cb] w (RinPost w p all b) := by
  obtain ⟨A, c, hC, hc, hcm, hr, hc0, hA⟩ := h.form
  have hpl := hC.lt
  have c0 := hC.at_ 0 _ rfl
  have hln : all.length + b.length ≤ 100000 := by rw [List.length_append] at hl; exact hl
  have hln2 : all.length + b.length ≤ 1048576 := by omega
  have HC := Lib.hid hC
  have HR := Lib.hid hr
  have HRB := Lib.hid hrb
  have hsz13 : (Try.prog.info? 60).map (·.size) = some 13 := by kernel_rfl
  clear hr hA hC h hrb
  go_enter Try.func11, Try.ntmps11
  go_wp2_with (first
    | (at_builtin; refine wpList_append_by _ rfl (.const (.slice none 0 0)) (.tmp 12) 23 rfl w.heap.size 5 Try.underlying23 info_u8 (.slice none 0 0) [] rfl (World.ownsRow_nil _ _ _ _) w.heap.size A all c rfl HR.out hc0 (by simp; omega) (Nat.le_refl _) ?_; intro v1 w1 hown1 hgr1 hnil1; rw [List.nil_append] at hown1; have hbl1 : Below w.heap.size w w1 := (Below.refl _ _).grown hgr1 (Nat.le_refl _) (fun k e => by simp [Value.ownBlock] at e); have hrb1 := HRB.out.below hbl1 (Nat.le_refl _); have hs1 := hbl1.size; clear hgr1)
    | (at_builtin; refine wpList_append_by _ rfl (.tmp 13) (.tmp 14) 23 rfl w.heap.size 5 Try.underlying23 info_u8 v1 all rfl hown1 w.heap.size Ab b cb rfl hrb1 hb0 hln2 hs1 ?_; intro v2 w2 hown2 hgr2 hnil2; have hbl2 : Below w.heap.size w w2 := hbl1.grown hgr2 hs1 (fun k e => (hown1.lt k e).1); have hC2 := HC.out.new hbl2; have c02 := hC2.at_ 0 _ rfl; have f02 := hC2.fz 0 (by show 0 < 2; decide); obtain ⟨a2, c2, hv2, hc2, hcm2, ha2⟩ := row_slice hown2; obtain ⟨n2, hn2⟩ : ∃ n2, (all ++ b).length = n2 := ⟨_, rfl⟩; rw [hn2] at hv2; subst hv2; have H2 := Lib.hid (And.intro hown1 (And.intro hown2 (And.intro hnil1 hnil2))); have HBL2 := Lib.hid hbl2; have HC2 := Lib.hid hC2; clear hown1 hown2 hgr2 hnil1 hnil2 hrb1 hbl1 hs1 hbl2 hC2 c0))
  subst hn2
  obtain ⟨hown1, hown2, hn1, hnn⟩ := H2.out
  have hk2 : Keeps (fun k => k = p) w2 (w2.setCell ⟨p, 0, none⟩ (.slice a2 (all ++ b).length c2)) := Keeps.setCell (S := fun k => k = p) (Keeps.refl _ w2) (p := ⟨p, 0, none⟩) (.inl rfl) _
  have hrow3 := Keeps.ownsRow hown2 hk2 (fun g e n => by have := (hown2.lt g e).1; omega)
  have hr3 := own_rd8 hrow3
  have hC3 : Cb (w2.setCell ⟨p, 0, none⟩ (.slice a2 (all ++ b).length c2)) p [.slice a2 (all ++ b).length c2, .int .i64 ((feedF Fst.new all).2.length : Nat)] := HC2.out.set 0 (.slice a2 (all ++ b).length c2) (by show 0 < 2; decide) rfl
  have hk3 : Keeps (fun k => k = p) w (w2.setCell ⟨p, 0, none⟩ (.slice a2 (all ++ b).length c2)) := (Keeps.of_new HBL2.out).trans hk2 (fun _ _ e => e)
  have hA0 : (all ++ b).length = 0 → a2 = none := fun h0 => by
    rw [List.length_append] at h0
    have h1 : all = [] := List.eq_nil_of_length_eq_zero (by omega)
    have h2 : b = [] := List.eq_nil_of_length_eq_zero (by omega)
    have := hnn.mpr ⟨hn1.mpr ⟨trivial, h1⟩, h2⟩
    injection this
  have hA : ∀ g o, a2 = some ⟨g, o, none⟩ → w.heap.size ≤ g := fun g o e => by
    subst e
    exact (hown2.lt g rfl).1
  have HH := Lib.hid (And.intro hk3 (And.intro hr3 (And.intro hA0 hA)))
  have HC3 := Lib.hid hC3
  clear H2 hown1 hown2 hn1 hnn hk2 hrow3 hC3 hk3 hA0 hA HC HR HRB HC2 HBL2 c02 f02
  generalize w2.setCell _ _ = W3 at *
  refine (reventsw a2 c2 (all ++ b) W3 hr3 hc2 hcm2 hl).mono ?_
  rintro e W4 ⟨v3, ps, rfl, hps, hS⟩
  obtain ⟨a3, c3, hv3, hc3, hcm3, ha3⟩ := row_slice hS.row
  subst hv3
  have hC4 := HC3.out.new hS.base
  have c14 := hC4.at_ 1 _ rfl
  have f14 := hC4.fz 1 (by show 1 < 2; decide)
  obtain ⟨k, hk⟩ : ∃ k, k = (feedF Fst.new all).2.length := ⟨_, rfl⟩
  have hkn : k ≤ ps.length := by
    have := congrArg List.length hps
    rw [List.length_map] at this
    rw [this, hk]
    show _ ≤ (feedF Fst.new (all ++ b)).2.length
    rw [feedF_append]
    simp
  rw [← hk] at hC4 c14
  have HS := Lib.hid hS
  have HC4 := Lib.hid hC4
  have HK := Lib.hid hk
  have HPS := Lib.hid hps
  clear hS hC4 hk hps hr3
  go_wp2_with (refine wpList_cut_loK rfl 33 60 (.tmp 26) (.tmp 30) 13 rfl Try.underlying33 hsz13 a3 ps.length c3 k rfl rfl hkn ?_)
  go_ret
  obtain ⟨hk3, hr3, hA0, hA⟩ := HH.out
  exact (rin_done hk3 hpl HS.out HPS.out (Keeps.setCell (S := fun k => k = p) (Keeps.refl _ W4) (p := ⟨p, 1, none⟩) (.inl rfl) _) HK.out HC4.out (HC4.out.set 1 _ (by show 1 < 2; decide) rfl) hc2 hcm2 hr3 (fun e => (ha2 e).2) hA hA0).2
end Go.Proofs.Ytifbcejekdhnlaa
/- Next: Feeds: the program's events beside the chapter's. -/
namespace Go.Proofs.Ytifbcejekdhnlaa
open Go.RowKit Go.Maps
set_option linter.unusedVariables false

set_option maxHeartbeats 4000000 in
set_option maxRecDepth 100000 in
theorem samecw (e : Cmd) (kv1 kv2 : Value) (w : World) (h1 : KyR w kv1 e.keys) (h2 : KyR w kv2 e.keys) :
    Calls Try.prog 17 #[.agg (cmdC e kv1).toArray, .agg (cmdC e kv2).toArray] w fun r w' => r = .returned (.bool true) ∧ Below w.heap.size w w' := by
  obtain ⟨A1, c1, rfl, hc1, hm1, r1⟩ := h1.form
  obtain ⟨A2, c2, rfl, hc2, hm2, r2⟩ := h2.form
  unfold maxLen at hm1 hm2
  obtain ⟨vb, ks, cv, ky, vl, fl, ex, id, by_, bt, qt⟩ := e
  simp only at hc1 hc2 r1 r2
  obtain ⟨n, hnn⟩ : ∃ n, n = ks.length := ⟨_, rfl⟩
  simp only [cmdC]
  rw [← hnn] at hc1 hc2 ⊢
  have HN := Lib.hid hnn
  have R1 := Lib.hid r1
  have R2 := Lib.hid r2
  clear r1 r2 hnn h1 h2
  go_enter Try.func17, Try.ntmps17
  go_wp2_with fail
  go_loopw [5] (fun i wr => ∃ k : Nat, k ≤ n ∧ i = .int .i64 k ∧ Below w.heap.size w wr ∧ wr.cell? ⟨w.heap.size, 1, none⟩ = some (.slice A1 n c1) ∧ wr.cell? ⟨w.heap.size + 1, 1, none⟩ = some (.slice A2 n c2)) (fun i _ => n - (intOf i).toNat)
  case atStart => exact ⟨0, by omega, rfl, ((Below.refl _ _).alloc (Nat.le_refl _) _).alloc (by simp) _, by simp [World.cell?_alloc_lt], by simp⟩
  case round =>
    obtain ⟨k, hk, rfl, hnx, p1, p2⟩ := hrel
    by_cases hlt : k < n
    · obtain ⟨x, hx⟩ : ∃ x, ks[k]? = some x := ⟨_, List.getElem?_eq_getElem (by have := HN.out; omega)⟩
      obtain ⟨g1, rfl, l1, a1⟩ := R1.out k x hx
      obtain ⟨g2, rfl, l2, a2⟩ := R2.out k x hx
      have b1 := (hnx.cell (p := ⟨g1, k, none⟩) l1).trans a1
      have b2 := (hnx.cell (p := ⟨g2, k, none⟩) l2).trans a2
      clear a1 a2 l1 l2 hx
      go_wp2_with fail
      go_quiet (fail)
      go_wp2
      go_roundw
      case rel => exact ⟨k + 1, by omega, by go_num, belowNf hnx _, by simpa using p1, by simpa using p2⟩
      case measure => simp [intOf]; omega
    · have hd : decide (k < n) = false := decide_eq_false hlt
      go_wp2_with fail
      go_ret
      exact ⟨rfl, hnx⟩
set_option maxHeartbeats 4000000 in
set_option maxRecDepth 100000 in
theorem nonew (kv : Value) (w : World) (h : KyR w kv []) :
    Calls Try.prog 18 #[.agg (cmdC Cmd.none kv).toArray] w fun r w' => r = .returned (.bool true) ∧ Below w.heap.size w w' := by
  obtain ⟨A1, c1, rfl, hc1, hm1, r1⟩ := h.form
  simp only [List.length_nil] at hc1 ⊢
  clear r1 h
  show Calls Try.prog 18 #[.agg #[.int .u8 0, .slice A1 0 c1, .int .u8 0, .string ⟨#[]⟩, .string ⟨#[]⟩, .int .u32 0, .int .i64 0, .int .u64 0, .int .u64 0, .int .i64 0, .bool false]] w _
  have hf : ∀ W : World, (Instr.field 45 (.agg #[.int .u8 0, .slice none 0 0, .int .u8 0, .string ⟨#[]⟩, .string ⟨#[]⟩, .int .u32 0, .int .i64 0, .int .u64 0, .int .u64 0, .int .i64 0, .bool false]) 2).run Try.prog W = .ok (.agg #[.int .u8 0, .string ⟨#[]⟩, .string ⟨#[]⟩, .int .u32 0, .int .i64 0, .int .u64 0, .int .u64 0]) W := fun W => by rfl
  go_enter Try.func18, Try.ntmps18
  go_wp2_with fail
  go_ret
  exact ⟨rfl, (Below.refl _ _).alloc (Nat.le_refl _) _⟩
/-- What a told event is like. -/
def EvOk (e : Ev) : Prop := e.told = 0 ∨ (e = Ev.fault e.told ∧ e.told ≤ 6)
theorem evOk_step (s : Fst) (b : UInt8) : ∀ e ∈ (stepF s b).2, EvOk e := by
  intro e he
  have hpo := parseC_ok (cutCr s.held)
  have hto := hpo.told
  unfold stepF takeLineF takeDataF lineF endLine at he
  repeat' split at he
  all_goals first
    | (simp at he; done)
    | (simp only [Option.mem_def, Option.some.injEq] at he; subst he; first | exact .inl rfl | exact .inr ⟨rfl, by (simp only [Ev.fault]; omega)⟩)
theorem evOk_feed : ∀ (l : List UInt8) (s : Fst), ∀ e ∈ (feedF s l).2, EvOk e
  | [], s, e, he => by simp [feedF] at he
  | b :: l, s, e, he => by
    have e2 : feedF s (b :: l) = ((feedF (stepF s b).1 l).1, (stepF s b).2.toList ++ (feedF (stepF s b).1 l).2) := rfl
    rw [e2] at he
    rcases List.mem_append.mp he with he | he
    · exact evOk_step s b e (by simpa using he)
    · exact evOk_feed l _ e he
/-- The cells of an event and of its fellow. -/
theorem keep_two {W : World} {g1 g2 o2 k : Nat} {vb cv : Nat} {ks : List (List UInt8)} {ky vl : List UInt8} {fl ex id by_ bt : Int} {qt : Bool} {dt : List UInt8} {td : Nat} {kv1 kv2 : Value} (hg1 : g1 < W.heap.size) (hg2 : g2 < W.heap.size)
    (h1 : ∀ j u, (evC ⟨⟨vb, ks, cv, ky, vl, fl, ex, id, by_, bt, qt⟩, dt, td⟩ kv1)[j]? = some u → W.cell? ⟨g1, k * 13 + j, none⟩ = some u) (h2 : ∀ j u, (evCR ⟨⟨vb, ks, cv, ky, vl, fl, ex, id, by_, bt, qt⟩, dt, td⟩ kv2)[j]? = some u → W.cell? ⟨g2, o2 + k * 13 + j, none⟩ = some u) : ∀ X, Below W.heap.size W X → X.cell? ⟨g1, k * 13, none⟩ = some (.int .u8 (vb : Nat)) ∧ X.cell? ⟨g1, k * 13 + 1, none⟩ = some (kv1) ∧ X.cell? ⟨g1, k * 13 + 2, none⟩ = some (.int .u8 (cv : Nat)) ∧ X.cell? ⟨g1, k * 13 + 3, none⟩ = some (.string ⟨ky.toArray⟩) ∧ X.cell? ⟨g1, k * 13 + 4, none⟩ = some (.string ⟨vl.toArray⟩) ∧ X.cell? ⟨g1, k * 13 + 5, none⟩ = some (.int .u32 fl) ∧ X.cell? ⟨g1, k * 13 + 6, none⟩ = some (.int .i64 ex) ∧ X.cell? ⟨g1, k * 13 + 7, none⟩ = some (.int .u64 id) ∧ X.cell? ⟨g1, k * 13 + 8, none⟩ = some (.int .u64 by_) ∧ X.cell? ⟨g1, k * 13 + 9, none⟩ = some (.int .i64 bt) ∧ X.cell? ⟨g1, k * 13 + 10, none⟩ = some (.bool qt) ∧ X.cell? ⟨g1, k * 13 + 12, none⟩ = some (.int .u8 (td : Nat)) ∧ X.cell? ⟨g2, o2 + k * 13, none⟩ = some (.int .u8 (vb : Nat)) ∧ X.cell? ⟨g2, o2 + k * 13 + 1, none⟩ = some (kv2) ∧ X.cell? ⟨g2, o2 + k * 13 + 2, none⟩ = some (.int .u8 (cv : Nat)) ∧ X.cell? ⟨g2, o2 + k * 13 + 3, none⟩ = some (.string ⟨ky.toArray⟩) ∧ X.cell? ⟨g2, o2 + k * 13 + 4, none⟩ = some (.string ⟨vl.toArray⟩) ∧ X.cell? ⟨g2, o2 + k * 13 + 5, none⟩ = some (.int .u32 fl) ∧ X.cell? ⟨g2, o2 + k * 13 + 6, none⟩ = some (.int .i64 ex) ∧ X.cell? ⟨g2, o2 + k * 13 + 7, none⟩ = some (.int .u64 id) ∧ X.cell? ⟨g2, o2 + k * 13 + 8, none⟩ = some (.int .u64 by_) ∧ X.cell? ⟨g2, o2 + k * 13 + 9, none⟩ = some (.int .i64 bt) ∧ X.cell? ⟨g2, o2 + k * 13 + 10, none⟩ = some (.bool qt) := by
  intro X hb
  have a1 := fun j u hu => (hb.cell (p := ⟨g1, k * 13 + j, none⟩) hg1).trans (h1 j u hu)
  have a2 := fun j u hu => (hb.cell (p := ⟨g2, o2 + k * 13 + j, none⟩) hg2).trans (h2 j u hu)
  exact ⟨a1 0 _ rfl, a1 1 _ rfl, a1 2 _ rfl, a1 3 _ rfl, a1 4 _ rfl, a1 5 _ rfl, a1 6 _ rfl, a1 7 _ rfl, a1 8 _ rfl, a1 9 _ rfl, a1 10 _ rfl, a1 12 _ rfl, a2 0 _ rfl, a2 1 _ rfl, a2 2 _ rfl, a2 3 _ rfl, a2 4 _ rfl, a2 5 _ rfl, a2 6 _ rfl, a2 7 _ rfl, a2 8 _ rfl, a2 9 _ rfl, a2 10 _ rfl⟩
theorem ev_split (ps qs : List (Ev × Value)) (hm : ps.map Prod.fst = qs.map Prod.fst) (k : Nat) (hk : k < ps.length) : ∃ e kv1 kv2, ps[k]? = some (e, kv1) ∧ qs[k]? = some (e, kv2) := by
  have hl := congrArg List.length hm
  rw [List.length_map, List.length_map] at hl
  have h1 : (ps.map Prod.fst)[k]? = (qs.map Prod.fst)[k]? := by rw [hm]
  rw [List.getElem?_map, List.getElem?_map, List.getElem?_eq_getElem hk, List.getElem?_eq_getElem (show k < qs.length by omega)] at h1
  simp only [Option.map_some, Option.some.injEq] at h1
  refine ⟨ps[k].1, ps[k].2, qs[k].2, List.getElem?_eq_getElem hk, ?_⟩
  rw [List.getElem?_eq_getElem (show k < qs.length by omega), h1]
set_option maxHeartbeats 8000000 in
set_option maxRecDepth 100000 in
theorem samew (n : Nat) (Aa : Option Addr) (vb : Value) (ps qs : List (Ev × Value)) (w : World) (ha : EvR w (.slice Aa n n) ps) (hb : EvRR w vb qs) (hm : ps.map Prod.fst = qs.map Prod.fst) (hok : ∀ e ∈ ps.map Prod.fst, EvOk e) :
    Calls Try.prog 9 #[.slice Aa n n, vb] w fun r w' => r = .returned (.bool true) ∧ Below w.heap.size w w' := by
  have hl := congrArg List.length hm
  rw [List.length_map, List.length_map] at hl
  obtain ⟨A1, c1, e1, hc1, hm1, r1⟩ := ha.form
  injection e1 with e1 e2 e3
  subst e1 e2 e3
  obtain ⟨A2, c2, rfl, hc2, hm2, r2⟩ := hb.form
  rw [← hl] at hc2 ⊢
  obtain ⟨n, hn⟩ : ∃ n, n = ps.length := ⟨_, rfl⟩
  unfold maxLen at hm1 hm2
  rw [← hn] at hc1 hm1 hc2 ⊢
  have HN := Lib.hid hn
  have HL := Lib.hid hl
  have HA := Lib.hid ha
  have HB := Lib.hid hb
  have HM := Lib.hid hm
  have HO := Lib.hid hok
  have R1 := Lib.hid r1
  have R2 := Lib.hid r2
  clear ha hb hm hok r1 r2 hn hl
  go_enter Try.func9, Try.ntmps9
  go_wp2_with fail
  go_loopw [5] (fun i wr => ∃ k : Nat, k ≤ n ∧ i = .int .i64 k ∧ Below w.heap.size w wr) (fun i _ => n - (intOf i).toNat)
  case atStart => exact ⟨0, by omega, rfl, Below.refl _ _⟩
  case round =>
    obtain ⟨k, hk, rfl, hnx⟩ := hrel
    by_cases hlt : k < n
    · obtain ⟨e, kv1, kv2, hp, hq⟩ := ev_split ps qs HM.out k (by rw [← HN.out]; exact hlt)
      obtain ⟨g1, rfl, hg1, hx1⟩ := R1.out (by rw [← HN.out]; omega)
      obtain ⟨g2, o2, rfl, hg2, hx2⟩ := R2.out (by rw [← HL.out, ← HN.out]; omega)
      have K1 := Lib.hid (((HA.out.on hnx).keys _ (List.mem_of_getElem? hp)))
      have K2 := Lib.hid (((HB.out.on hnx).keys _ (List.mem_of_getElem? hq)))
      have hev := HO.out e (List.mem_map.mpr ⟨_, List.mem_of_getElem? hp, rfl⟩)
      have y1 : ∀ j u, (evC e kv1)[j]? = some u → wr.cell? ⟨g1, k * 13 + j, none⟩ = some u := fun j u hu => (hnx.cell (p := ⟨g1, k * 13 + j, none⟩) hg1).trans (hx1 _ u (rowsE_at ps k j _ u hp hu))
      have y2 : ∀ j u, (evCR e kv2)[j]? = some u → wr.cell? ⟨g2, o2 + k * 13 + j, none⟩ = some u := fun j u hu => by
        rw [Nat.add_assoc]
        exact (hnx.cell (p := ⟨g2, o2 + (k * 13 + j), none⟩) hg2).trans (hx2 _ u (rowsR_at qs k j _ u hq hu))
      obtain ⟨⟨vb, ks, cv, ky, vl, fl, ex, id, by_, bt, qt⟩, dt, td⟩ := e
      have hgw1 := Nat.lt_of_lt_of_le hg1 hnx.size
      have hgw2 := Nat.lt_of_lt_of_le hg2 hnx.size
      have KEEP := Lib.hid (keep_two hgw1 hgw2 y1 y2)
      have t1 := y1 12 _ rfl
      have t2 := y2 12 _ rfl
      have d1 := y1 11 _ rfl
      have d2 := y2 11 _ rfl
      simp only at t1 t2 d1 d2
      have htd : td ≤ 6 := by
        rcases hev with h | h
        · simp only at h; omega
        · exact h.2
      have hwt : IntKind.i64.wrap (td : Int) = (td : Int) := IntWalk.i64_in _ (by omega)
      have HEV := Lib.hid hev
      clear hp hq hx1 hx2 y1 y2 hev
      go_upto_region 8 with (go_quiet (fail))
      have hnq : Below wr.heap.size wr (wr.drewN nq) := belowNf (Below.refl _ _) nq
      obtain ⟨W6, hW6⟩ : ∃ W6, W6 = wr.drewN nq := ⟨_, rfl⟩
      rw [← hW6] at hnq ⊢
      clear hW6 t1 t2 d1 d2
      have hd6 : Below wr.heap.size wr W6.drew := hnq.trans ((Below.refl _ _).drew.mono hnq.size)
      have K1d := Lib.hid (K1.out.on hd6)
      have K2d := Lib.hid (K2.out.on hd6)
      clear hwt
      by_cases h0 : td = 0
      · subst h0
        clear htd
        have KEEP0 : Hid (∀ X, Below wr.heap.size wr X → X.cell? ⟨g1, k * 13, none⟩ = some (.int .u8 (vb : Nat)) ∧ X.cell? ⟨g1, k * 13 + 1, none⟩ = some (kv1) ∧ X.cell? ⟨g1, k * 13 + 2, none⟩ = some (.int .u8 (cv : Nat)) ∧ X.cell? ⟨g1, k * 13 + 3, none⟩ = some (.string ⟨ky.toArray⟩) ∧ X.cell? ⟨g1, k * 13 + 4, none⟩ = some (.string ⟨vl.toArray⟩) ∧ X.cell? ⟨g1, k * 13 + 5, none⟩ = some (.int .u32 fl) ∧ X.cell? ⟨g1, k * 13 + 6, none⟩ = some (.int .i64 ex) ∧ X.cell? ⟨g1, k * 13 + 7, none⟩ = some (.int .u64 id) ∧ X.cell? ⟨g1, k * 13 + 8, none⟩ = some (.int .u64 by_) ∧ X.cell? ⟨g1, k * 13 + 9, none⟩ = some (.int .i64 bt) ∧ X.cell? ⟨g1, k * 13 + 10, none⟩ = some (.bool qt) ∧ X.cell? ⟨g1, k * 13 + 12, none⟩ = some (.int .u8 0) ∧ X.cell? ⟨g2, o2 + k * 13, none⟩ = some (.int .u8 (vb : Nat)) ∧ X.cell? ⟨g2, o2 + k * 13 + 1, none⟩ = some (kv2) ∧ X.cell? ⟨g2, o2 + k * 13 + 2, none⟩ = some (.int .u8 (cv : Nat)) ∧ X.cell? ⟨g2, o2 + k * 13 + 3, none⟩ = some (.string ⟨ky.toArray⟩) ∧ X.cell? ⟨g2, o2 + k * 13 + 4, none⟩ = some (.string ⟨vl.toArray⟩) ∧ X.cell? ⟨g2, o2 + k * 13 + 5, none⟩ = some (.int .u32 fl) ∧ X.cell? ⟨g2, o2 + k * 13 + 6, none⟩ = some (.int .i64 ex) ∧ X.cell? ⟨g2, o2 + k * 13 + 7, none⟩ = some (.int .u64 id) ∧ X.cell? ⟨g2, o2 + k * 13 + 8, none⟩ = some (.int .u64 by_) ∧ X.cell? ⟨g2, o2 + k * 13 + 9, none⟩ = some (.int .i64 bt) ∧ X.cell? ⟨g2, o2 + k * 13 + 10, none⟩ = some (.bool qt)) := fun X hb => KEEP.out X hb
        have HSd := Lib.hid (KEEP0.out _ hd6)
        go_wp2_with fail
        refine wp_region_held_drew (S := fun X => X.cell? ⟨g1, k * 13, none⟩ = some (.int .u8 (vb : Nat)) ∧ X.cell? ⟨g1, k * 13 + 1, none⟩ = some (kv1) ∧ X.cell? ⟨g1, k * 13 + 2, none⟩ = some (.int .u8 (cv : Nat)) ∧ X.cell? ⟨g1, k * 13 + 3, none⟩ = some (.string ⟨ky.toArray⟩) ∧ X.cell? ⟨g1, k * 13 + 4, none⟩ = some (.string ⟨vl.toArray⟩) ∧ X.cell? ⟨g1, k * 13 + 5, none⟩ = some (.int .u32 fl) ∧ X.cell? ⟨g1, k * 13 + 6, none⟩ = some (.int .i64 ex) ∧ X.cell? ⟨g1, k * 13 + 7, none⟩ = some (.int .u64 id) ∧ X.cell? ⟨g1, k * 13 + 8, none⟩ = some (.int .u64 by_) ∧ X.cell? ⟨g1, k * 13 + 9, none⟩ = some (.int .i64 bt) ∧ X.cell? ⟨g1, k * 13 + 10, none⟩ = some (.bool qt) ∧ X.cell? ⟨g1, k * 13 + 12, none⟩ = some (.int .u8 0) ∧ X.cell? ⟨g2, o2 + k * 13, none⟩ = some (.int .u8 (vb : Nat)) ∧ X.cell? ⟨g2, o2 + k * 13 + 1, none⟩ = some (kv2) ∧ X.cell? ⟨g2, o2 + k * 13 + 2, none⟩ = some (.int .u8 (cv : Nat)) ∧ X.cell? ⟨g2, o2 + k * 13 + 3, none⟩ = some (.string ⟨ky.toArray⟩) ∧ X.cell? ⟨g2, o2 + k * 13 + 4, none⟩ = some (.string ⟨vl.toArray⟩) ∧ X.cell? ⟨g2, o2 + k * 13 + 5, none⟩ = some (.int .u32 fl) ∧ X.cell? ⟨g2, o2 + k * 13 + 6, none⟩ = some (.int .i64 ex) ∧ X.cell? ⟨g2, o2 + k * 13 + 7, none⟩ = some (.int .u64 id) ∧ X.cell? ⟨g2, o2 + k * 13 + 8, none⟩ = some (.int .u64 by_) ∧ X.cell? ⟨g2, o2 + k * 13 + 9, none⟩ = some (.int .i64 bt) ∧ X.cell? ⟨g2, o2 + k * 13 + 10, none⟩ = some (.bool qt)) (by kernel_rfl) HSd.out (fun hHeld => ?_)
        refine wpAnyH_take (i := 0) (oi := ({ dst := some 49, op := Op.move (Operand.tmp 0), type := 31, pos := "law.go:38", after := #[], guard := none })) (v := ?_) rfl (by kernel_rfl) (by kernel_rfl) (by kernel_rfl) (fun _ _ _ h => h) (Or.inl ⟨by rfl, ?_⟩) (by assumption) ?_
        rotate_left 1
        · (intro w9 hSw; (try dsimp only at hSw); go_simp; try with_reducible rfl)
        try simp only [Act.put, List.setIfInBounds_toArray, List.set_cons_zero, List.set_cons_succ]
        refine wpAnyH_take (i := 1) (oi := ({ dst := some 50, op := Op.move (Operand.tmp 5), type := 3, pos := "law.go:38", after := #[], guard := none })) (v := ?_) rfl (by kernel_rfl) (by kernel_rfl) (by kernel_rfl) (fun _ _ _ h => h) (Or.inl ⟨by rfl, ?_⟩) (by assumption) ?_
        rotate_left 1
        · (intro w9 hSw; (try dsimp only at hSw); go_simp; try with_reducible rfl)
        try simp only [Act.put, List.setIfInBounds_toArray, List.set_cons_zero, List.set_cons_succ]
        refine wpAnyH_take (i := 2) (oi := ({ dst := some 51, op := Op.indexAddr 31 (Operand.tmp 49) (Operand.tmp 50), type := 0, pos := "law.go:38", after := #[{ on := 0, ground := Ground.data }, { on := 1, ground := Ground.data }], guard := none })) (v := ?_) rfl (by kernel_rfl) (by kernel_rfl) (by kernel_rfl) (fun _ _ _ h => h) (Or.inl ⟨by rfl, ?_⟩) (by assumption) ?_
        rotate_left 1
        · (intro w9 hSw; (try dsimp only at hSw); go_simp; try with_reducible rfl)
        try simp only [Act.put, List.setIfInBounds_toArray, List.set_cons_zero, List.set_cons_succ]
        refine wpAnyH_take (i := 3) (oi := ({ dst := some 52, op := Op.fieldAddr 54 (Operand.tmp 51) 2, type := 0, pos := "law.go:38", after := #[{ on := 2, ground := Ground.data }], guard := none })) (v := ?_) rfl (by kernel_rfl) (by kernel_rfl) (by kernel_rfl) (fun _ _ _ h => h) (Or.inl ⟨by rfl, ?_⟩) (by assumption) ?_
        rotate_left 1
        · (intro w9 hSw; (try dsimp only at hSw); go_simp; try with_reducible rfl)
        try simp only [Act.put, List.setIfInBounds_toArray, List.set_cons_zero, List.set_cons_succ]
        refine wpAnyH_take (i := 4) (oi := ({ dst := some 53, op := Op.load 52 (Operand.tmp 52), type := 52, pos := "law.go:38", after := #[{ on := 3, ground := Ground.data }], guard := none })) (v := ?_) rfl (by kernel_rfl) (by kernel_rfl) (by kernel_rfl) (fun _ _ _ h => h) (Or.inl ⟨by rfl, ?_⟩) (by assumption) ?_
        rotate_left 1
        · (intro w9 hSw; (try dsimp only at hSw); go_simp; try with_reducible rfl)
        try simp only [Act.put, List.setIfInBounds_toArray, List.set_cons_zero, List.set_cons_succ]
        refine wpAnyH_take (i := 5) (oi := ({ dst := some 54, op := Op.binOp BinOp.eql 52 (Operand.tmp 53) (Operand.const (Value.int IntKind.u8 0)) 52, type := 4, pos := "law.go:38", after := #[{ on := 4, ground := Ground.data }], guard := none })) (v := ?_) rfl (by kernel_rfl) (by kernel_rfl) (by kernel_rfl) (fun _ _ _ h => h) (Or.inl ⟨by rfl, ?_⟩) (by assumption) ?_
        rotate_left 1
        · (intro w9 hSw; (try dsimp only at hSw); go_simp; try with_reducible rfl)
        try simp only [Act.put, List.setIfInBounds_toArray, List.set_cons_zero, List.set_cons_succ]
        refine wpAnyH_take (i := 6) (oi := ({ dst := some 55, op := Op.move (Operand.tmp 54), type := 4, pos := "law.go:38", after := #[{ on := 5, ground := Ground.data }], guard := none })) (v := ?_) rfl (by kernel_rfl) (by kernel_rfl) (by kernel_rfl) (fun _ _ _ h => h) (Or.inl ⟨by rfl, ?_⟩) (by assumption) ?_
        rotate_left 1
        · (intro w9 hSw; (try dsimp only at hSw); go_simp; try with_reducible rfl)
        try simp only [Act.put, List.setIfInBounds_toArray, List.set_cons_zero, List.set_cons_succ]
        refine wpAnyH_take (i := 7) (oi := ({ dst := some 56, op := Op.move (Operand.tmp 0), type := 31, pos := "law.go:38", after := #[{ on := 6, ground := Ground.guard }], guard := some (6, true) })) (v := ?_) rfl (by kernel_rfl) (by kernel_rfl) (by kernel_rfl) (fun _ _ _ h => h) (Or.inl ⟨by rfl, ?_⟩) (by assumption) ?_
        rotate_left 1
        · (intro w9 hSw; (try dsimp only at hSw); go_simp; try with_reducible rfl)
        try simp only [Act.put, List.setIfInBounds_toArray, List.set_cons_zero, List.set_cons_succ]
        refine wpAnyH_take (i := 8) (oi := ({ dst := some 57, op := Op.move (Operand.tmp 5), type := 3, pos := "law.go:38", after := #[{ on := 6, ground := Ground.guard }], guard := some (6, true) })) (v := ?_) rfl (by kernel_rfl) (by kernel_rfl) (by kernel_rfl) (fun _ _ _ h => h) (Or.inl ⟨by rfl, ?_⟩) (by assumption) ?_
        rotate_left 1
        · (intro w9 hSw; (try dsimp only at hSw); go_simp; try with_reducible rfl)
        try simp only [Act.put, List.setIfInBounds_toArray, List.set_cons_zero, List.set_cons_succ]
        refine wpAnyH_take (i := 9) (oi := ({ dst := some 58, op := Op.indexAddr 31 (Operand.tmp 56) (Operand.tmp 57), type := 0, pos := "law.go:38", after := #[{ on := 7, ground := Ground.data }, { on := 8, ground := Ground.data }, { on := 6, ground := Ground.guard }], guard := some (6, true) })) (v := ?_) rfl (by kernel_rfl) (by kernel_rfl) (by kernel_rfl) (fun _ _ _ h => h) (Or.inl ⟨by rfl, ?_⟩) (by assumption) ?_
        rotate_left 1
        · (intro w9 hSw; (try dsimp only at hSw); go_simp; try with_reducible rfl)
        try simp only [Act.put, List.setIfInBounds_toArray, List.set_cons_zero, List.set_cons_succ]
        refine wpAnyH_take (i := 10) (oi := ({ dst := some 59, op := Op.fieldAddr 54 (Operand.tmp 58) 0, type := 0, pos := "law.go:38", after := #[{ on := 9, ground := Ground.data }, { on := 6, ground := Ground.guard }], guard := some (6, true) })) (v := ?_) rfl (by kernel_rfl) (by kernel_rfl) (by kernel_rfl) (fun _ _ _ h => h) (Or.inl ⟨by rfl, ?_⟩) (by assumption) ?_
        rotate_left 1
        · (intro w9 hSw; (try dsimp only at hSw); go_simp; try with_reducible rfl)
        try simp only [Act.put, List.setIfInBounds_toArray, List.set_cons_zero, List.set_cons_succ]
        refine wpAnyH_take (i := 11) (oi := ({ dst := some 60, op := Op.load 45 (Operand.tmp 59), type := 45, pos := "law.go:38", after := #[{ on := 10, ground := Ground.data }, { on := 6, ground := Ground.guard }], guard := some (6, true) })) (v := ?_) rfl (by kernel_rfl) (by kernel_rfl) (by kernel_rfl) (fun _ _ _ h => h) (Or.inl ⟨by rfl, ?_⟩) (by assumption) ?_
        rotate_left 1
        · (intro w9 hSw; (try dsimp only at hSw); go_simp; try with_reducible rfl)
        try simp only [Act.put, List.setIfInBounds_toArray, List.set_cons_zero, List.set_cons_succ]
        refine wpAnyH_take (i := 12) (oi := ({ dst := some 61, op := Op.move (Operand.tmp 1), type := 33, pos := "law.go:38", after := #[{ on := 6, ground := Ground.guard }], guard := some (6, true) })) (v := ?_) rfl (by kernel_rfl) (by kernel_rfl) (by kernel_rfl) (fun _ _ _ h => h) (Or.inl ⟨by rfl, ?_⟩) (by assumption) ?_
        rotate_left 1
        · (intro w9 hSw; (try dsimp only at hSw); go_simp; try with_reducible rfl)
        try simp only [Act.put, List.setIfInBounds_toArray, List.set_cons_zero, List.set_cons_succ]
        refine wpAnyH_take (i := 13) (oi := ({ dst := some 62, op := Op.move (Operand.tmp 5), type := 3, pos := "law.go:38", after := #[{ on := 6, ground := Ground.guard }], guard := some (6, true) })) (v := ?_) rfl (by kernel_rfl) (by kernel_rfl) (by kernel_rfl) (fun _ _ _ h => h) (Or.inl ⟨by rfl, ?_⟩) (by assumption) ?_
        rotate_left 1
        · (intro w9 hSw; (try dsimp only at hSw); go_simp; try with_reducible rfl)
        try simp only [Act.put, List.setIfInBounds_toArray, List.set_cons_zero, List.set_cons_succ]
        refine wpAnyH_take (i := 14) (oi := ({ dst := some 63, op := Op.indexAddr 33 (Operand.tmp 61) (Operand.tmp 62), type := 0, pos := "law.go:38", after := #[{ on := 12, ground := Ground.data }, { on := 13, ground := Ground.data }, { on := 6, ground := Ground.guard }], guard := some (6, true) })) (v := ?_) rfl (by kernel_rfl) (by kernel_rfl) (by kernel_rfl) (fun _ _ _ h => h) (Or.inl ⟨by rfl, ?_⟩) (by assumption) ?_
        rotate_left 1
        · (intro w9 hSw; (try dsimp only at hSw); go_simp; try with_reducible rfl)
        try simp only [Act.put, List.setIfInBounds_toArray, List.set_cons_zero, List.set_cons_succ]
        refine wpAnyH_take (i := 15) (oi := ({ dst := some 64, op := Op.fieldAddr 60 (Operand.tmp 63) 0, type := 0, pos := "law.go:38", after := #[{ on := 14, ground := Ground.data }, { on := 6, ground := Ground.guard }], guard := some (6, true) })) (v := ?_) rfl (by kernel_rfl) (by kernel_rfl) (by kernel_rfl) (fun _ _ _ h => h) (Or.inl ⟨by rfl, ?_⟩) (by assumption) ?_
        rotate_left 1
        · (intro w9 hSw; (try dsimp only at hSw); go_simp; try with_reducible rfl)
        try simp only [Act.put, List.setIfInBounds_toArray, List.set_cons_zero, List.set_cons_succ]
        refine wpAnyH_take (i := 16) (oi := ({ dst := some 65, op := Op.load 58 (Operand.tmp 64), type := 58, pos := "law.go:38", after := #[{ on := 15, ground := Ground.data }, { on := 6, ground := Ground.guard }], guard := some (6, true) })) (v := ?_) rfl (by kernel_rfl) (by kernel_rfl) (by kernel_rfl) (fun _ _ _ h => h) (Or.inl ⟨by rfl, ?_⟩) (by assumption) ?_
        rotate_left 1
        · (intro w9 hSw; (try dsimp only at hSw); go_simp; try with_reducible rfl)
        try simp only [Act.put, List.setIfInBounds_toArray, List.set_cons_zero, List.set_cons_succ]
        refine wpAnyH_ready (rs := [17]) (by kernel_rfl) (by simp) ?_
        refine AllReadyH.cons (o := ({ dst := some 66, op := Op.call { callee := Callee.value (Operand.func 17), args := #[Operand.tmp 60, Operand.tmp 65], argTypes := #[45, 58] }, type := 4, pos := "law.go:38", after := #[{ on := 11, ground := Ground.data }, { on := 16, ground := Ground.data }, { on := 6, ground := Ground.chain }, { on := 6, ground := Ground.guard }], guard := some (6, true) })) rfl (fun K hK => ?_) AllReadyH.nil
        go_simp
        refine (samecw ⟨vb, ks, cv, ky, vl, fl, ex, id, by_, bt, qt⟩ kv1 kv2 _ K1d.out K2d.out).mono ?_
        rintro e w7 ⟨rfl, hb7⟩
        have hk7 := hd6.trans (hb7.mono hd6.size)
        refine hK.out _ _ (KEEP0.out _ hk7) (fun hHeld => ?_)
        clear hK K
        try simp only [Act.put, List.setIfInBounds_toArray, List.set_cons_zero, List.set_cons_succ]
        refine wpAnyH_take (i := 18) (oi := ({ dst := some 67, op := Op.unOp UnOp.not 4 (Operand.tmp 66), type := 4, pos := "law.go:38", after := #[{ on := 17, ground := Ground.data }, { on := 6, ground := Ground.guard }], guard := some (6, true) })) (v := ?_) rfl (by kernel_rfl) (by kernel_rfl) (by kernel_rfl) (fun _ _ _ h => h) (Or.inl ⟨by rfl, ?_⟩) (by assumption) ?_
        rotate_left 1
        · (intro w9 hSw; (try dsimp only at hSw); go_simp; try with_reducible rfl)
        try simp only [Act.put, List.setIfInBounds_toArray, List.set_cons_zero, List.set_cons_succ]
        refine wpAnyH_take (i := 19) (oi := ({ dst := some 68, op := Op.pick (Operand.tmp 55) (Operand.tmp 67) (Operand.const (Value.bool false)), type := 4, pos := "law.go:38", after := #[{ on := 6, ground := Ground.data }, { on := 18, ground := Ground.data }], guard := none })) (v := ?_) rfl (by kernel_rfl) (by kernel_rfl) (by kernel_rfl) (fun _ _ _ h => h) (Or.inl ⟨by rfl, ?_⟩) (by assumption) ?_
        rotate_left 1
        · (intro w9 hSw; (try dsimp only at hSw); go_simp; try with_reducible rfl)
        try simp only [Act.put, List.setIfInBounds_toArray, List.set_cons_zero, List.set_cons_succ]
        refine wpAnyH_take (i := 20) (oi := ({ dst := some 69, op := Op.move (Operand.tmp 68), type := 4, pos := "law.go:38", after := #[{ on := 19, ground := Ground.data }, { on := 17, ground := Ground.chain }], guard := none })) (v := ?_) rfl (by kernel_rfl) (by kernel_rfl) (by kernel_rfl) (fun _ _ _ h => h) (Or.inl ⟨by rfl, ?_⟩) (by assumption) ?_
        rotate_left 1
        · (intro w9 hSw; (try dsimp only at hSw); go_simp; try with_reducible rfl)
        try simp only [Act.put, List.setIfInBounds_toArray, List.set_cons_zero, List.set_cons_succ]
        refine wpAnyH_take (i := 21) (oi := ({ dst := some 70, op := Op.move (Operand.tmp 0), type := 31, pos := "law.go:38", after := #[{ on := 20, ground := Ground.guard }], guard := some (20, false) })) (v := ?_) rfl (by kernel_rfl) (by kernel_rfl) (by kernel_rfl) (fun _ _ _ h => h) (Or.inl ⟨by rfl, ?_⟩) (by assumption) ?_
        rotate_left 1
        · (intro w9 hSw; (try dsimp only at hSw); go_simp; try with_reducible rfl)
        try simp only [Act.put, List.setIfInBounds_toArray, List.set_cons_zero, List.set_cons_succ]
        refine wpAnyH_take (i := 22) (oi := ({ dst := some 71, op := Op.move (Operand.tmp 5), type := 3, pos := "law.go:38", after := #[{ on := 20, ground := Ground.guard }], guard := some (20, false) })) (v := ?_) rfl (by kernel_rfl) (by kernel_rfl) (by kernel_rfl) (fun _ _ _ h => h) (Or.inl ⟨by rfl, ?_⟩) (by assumption) ?_
        rotate_left 1
        · (intro w9 hSw; (try dsimp only at hSw); go_simp; try with_reducible rfl)
        try simp only [Act.put, List.setIfInBounds_toArray, List.set_cons_zero, List.set_cons_succ]
        refine wpAnyH_take (i := 23) (oi := ({ dst := some 72, op := Op.indexAddr 31 (Operand.tmp 70) (Operand.tmp 71), type := 0, pos := "law.go:38", after := #[{ on := 21, ground := Ground.data }, { on := 22, ground := Ground.data }, { on := 20, ground := Ground.guard }], guard := some (20, false) })) (v := ?_) rfl (by kernel_rfl) (by kernel_rfl) (by kernel_rfl) (fun _ _ _ h => h) (Or.inl ⟨by rfl, ?_⟩) (by assumption) ?_
        rotate_left 1
        · (intro w9 hSw; (try dsimp only at hSw); go_simp; try with_reducible rfl)
        try simp only [Act.put, List.setIfInBounds_toArray, List.set_cons_zero, List.set_cons_succ]
        refine wpAnyH_take (i := 24) (oi := ({ dst := some 73, op := Op.fieldAddr 54 (Operand.tmp 72) 2, type := 0, pos := "law.go:38", after := #[{ on := 23, ground := Ground.data }, { on := 20, ground := Ground.guard }], guard := some (20, false) })) (v := ?_) rfl (by kernel_rfl) (by kernel_rfl) (by kernel_rfl) (fun _ _ _ h => h) (Or.inl ⟨by rfl, ?_⟩) (by assumption) ?_
        rotate_left 1
        · (intro w9 hSw; (try dsimp only at hSw); go_simp; try with_reducible rfl)
        try simp only [Act.put, List.setIfInBounds_toArray, List.set_cons_zero, List.set_cons_succ]
        refine wpAnyH_take (i := 25) (oi := ({ dst := some 74, op := Op.load 52 (Operand.tmp 73), type := 52, pos := "law.go:38", after := #[{ on := 24, ground := Ground.data }, { on := 20, ground := Ground.guard }], guard := some (20, false) })) (v := ?_) rfl (by kernel_rfl) (by kernel_rfl) (by kernel_rfl) (fun _ _ _ h => h) (Or.inl ⟨by rfl, ?_⟩) (by assumption) ?_
        rotate_left 1
        · (intro w9 hSw; (try dsimp only at hSw); go_simp; try with_reducible rfl)
        try simp only [Act.put, List.setIfInBounds_toArray, List.set_cons_zero, List.set_cons_succ]
        refine wpAnyH_take (i := 26) (oi := ({ dst := some 75, op := Op.binOp BinOp.neq 52 (Operand.tmp 74) (Operand.const (Value.int IntKind.u8 0)) 52, type := 4, pos := "law.go:38", after := #[{ on := 25, ground := Ground.data }, { on := 20, ground := Ground.guard }], guard := some (20, false) })) (v := ?_) rfl (by kernel_rfl) (by kernel_rfl) (by kernel_rfl) (fun _ _ _ h => h) (Or.inl ⟨by rfl, ?_⟩) (by assumption) ?_
        rotate_left 1
        · (intro w9 hSw; (try dsimp only at hSw); go_simp; try with_reducible rfl)
        try simp only [Act.put, List.setIfInBounds_toArray, List.set_cons_zero, List.set_cons_succ]
        refine wpAnyH_take (i := 27) (oi := ({ dst := some 76, op := Op.move (Operand.tmp 75), type := 4, pos := "law.go:38", after := #[{ on := 26, ground := Ground.data }, { on := 20, ground := Ground.chain }, { on := 20, ground := Ground.guard }], guard := some (20, false) })) (v := ?_) rfl (by kernel_rfl) (by kernel_rfl) (by kernel_rfl) (fun _ _ _ h => h) (Or.inl ⟨by rfl, ?_⟩) (by assumption) ?_
        rotate_left 1
        · (intro w9 hSw; (try dsimp only at hSw); go_simp; try with_reducible rfl)
        try simp only [Act.put, List.setIfInBounds_toArray, List.set_cons_zero, List.set_cons_succ]
        refine wpAnyH_take (i := 28) (oi := ({ dst := some 77, op := Op.move (Operand.tmp 0), type := 31, pos := "law.go:38", after := #[{ on := 27, ground := Ground.guard }], guard := some (27, true) })) (v := undef) rfl (by kernel_rfl) (by kernel_rfl) (by kernel_rfl) (fun _ _ _ h => h) (Or.inr ⟨by rfl, rfl⟩) (by assumption) ?_
        try simp only [Act.put, List.setIfInBounds_toArray, List.set_cons_zero, List.set_cons_succ]
        refine wpAnyH_take (i := 29) (oi := ({ dst := some 78, op := Op.move (Operand.tmp 5), type := 3, pos := "law.go:38", after := #[{ on := 27, ground := Ground.guard }], guard := some (27, true) })) (v := undef) rfl (by kernel_rfl) (by kernel_rfl) (by kernel_rfl) (fun _ _ _ h => h) (Or.inr ⟨by rfl, rfl⟩) (by assumption) ?_
        try simp only [Act.put, List.setIfInBounds_toArray, List.set_cons_zero, List.set_cons_succ]
        refine wpAnyH_take (i := 30) (oi := ({ dst := some 79, op := Op.indexAddr 31 (Operand.tmp 77) (Operand.tmp 78), type := 0, pos := "law.go:38", after := #[{ on := 28, ground := Ground.data }, { on := 29, ground := Ground.data }, { on := 27, ground := Ground.guard }], guard := some (27, true) })) (v := undef) rfl (by kernel_rfl) (by kernel_rfl) (by kernel_rfl) (fun _ _ _ h => h) (Or.inr ⟨by rfl, rfl⟩) (by assumption) ?_
        try simp only [Act.put, List.setIfInBounds_toArray, List.set_cons_zero, List.set_cons_succ]
        refine wpAnyH_take (i := 31) (oi := ({ dst := some 80, op := Op.fieldAddr 54 (Operand.tmp 79) 0, type := 0, pos := "law.go:38", after := #[{ on := 30, ground := Ground.data }, { on := 27, ground := Ground.guard }], guard := some (27, true) })) (v := undef) rfl (by kernel_rfl) (by kernel_rfl) (by kernel_rfl) (fun _ _ _ h => h) (Or.inr ⟨by rfl, rfl⟩) (by assumption) ?_
        try simp only [Act.put, List.setIfInBounds_toArray, List.set_cons_zero, List.set_cons_succ]
        refine wpAnyH_take (i := 32) (oi := ({ dst := some 81, op := Op.load 45 (Operand.tmp 80), type := 45, pos := "law.go:38", after := #[{ on := 31, ground := Ground.data }, { on := 27, ground := Ground.guard }], guard := some (27, true) })) (v := undef) rfl (by kernel_rfl) (by kernel_rfl) (by kernel_rfl) (fun _ _ _ h => h) (Or.inr ⟨by rfl, rfl⟩) (by assumption) ?_
        try simp only [Act.put, List.setIfInBounds_toArray, List.set_cons_zero, List.set_cons_succ]
        refine wpAnyH_take (i := 33) (oi := ({ dst := some 82, op := Op.call { callee := Callee.value (Operand.func 18), args := #[Operand.tmp 81], argTypes := #[45] }, type := 4, pos := "law.go:38", after := #[{ on := 32, ground := Ground.data }, { on := 27, ground := Ground.chain }, { on := 27, ground := Ground.guard }], guard := some (27, true) })) (v := undef) rfl (by kernel_rfl) (by kernel_rfl) (by kernel_rfl) (fun _ _ _ h => h) (Or.inr ⟨by rfl, rfl⟩) (by assumption) ?_
        try simp only [Act.put, List.setIfInBounds_toArray, List.set_cons_zero, List.set_cons_succ]
        refine wpAnyH_take (i := 34) (oi := ({ dst := some 83, op := Op.unOp UnOp.not 4 (Operand.tmp 82), type := 4, pos := "law.go:38", after := #[{ on := 33, ground := Ground.data }, { on := 27, ground := Ground.guard }], guard := some (27, true) })) (v := undef) rfl (by kernel_rfl) (by kernel_rfl) (by kernel_rfl) (fun _ _ _ h => h) (Or.inr ⟨by rfl, rfl⟩) (by assumption) ?_
        try simp only [Act.put, List.setIfInBounds_toArray, List.set_cons_zero, List.set_cons_succ]
        refine wpAnyH_take (i := 35) (oi := ({ dst := some 84, op := Op.pick (Operand.tmp 76) (Operand.tmp 83) (Operand.const (Value.bool false)), type := 4, pos := "law.go:38", after := #[{ on := 27, ground := Ground.data }, { on := 34, ground := Ground.data }, { on := 20, ground := Ground.guard }], guard := some (20, false) })) (v := ?_) rfl (by kernel_rfl) (by kernel_rfl) (by kernel_rfl) (fun _ _ _ h => h) (Or.inl ⟨by rfl, ?_⟩) (by assumption) ?_
        rotate_left 1
        · (intro w9 hSw; (try dsimp only at hSw); go_simp; try with_reducible rfl)
        try simp only [Act.put, List.setIfInBounds_toArray, List.set_cons_zero, List.set_cons_succ]
        refine wpAnyH_take (i := 36) (oi := ({ dst := some 85, op := Op.pick (Operand.tmp 69) (Operand.const (Value.bool true)) (Operand.tmp 84), type := 4, pos := "law.go:38", after := #[{ on := 20, ground := Ground.data }, { on := 35, ground := Ground.data }], guard := none })) (v := ?_) rfl (by kernel_rfl) (by kernel_rfl) (by kernel_rfl) (fun _ _ _ h => h) (Or.inl ⟨by rfl, ?_⟩) (by assumption) ?_
        rotate_left 1
        · (intro w9 hSw; (try dsimp only at hSw); go_simp; try with_reducible rfl)
        try simp only [Act.put, List.setIfInBounds_toArray, List.set_cons_zero, List.set_cons_succ]
        refine wpAnyH_done (by kernel_rfl) ?_ _
        go_wp2_with fail
        go_roundw
        case rel => exact ⟨k + 1, by omega, by go_num, hnx.trans (hk7.mono hnx.size)⟩
        case measure => simp [intOf]; omega
      · have e0 : ((td : Int) == 0) = false := beq_eq_false_iff_ne.mpr (by omega)
        have e1 : ((td : Int) != 0) = true := bne_iff_ne.mpr (by omega)
        have HSd := Lib.hid (KEEP.out _ hd6)
        obtain ⟨h9, -⟩ : (⟨⟨vb, ks, cv, ky, vl, fl, ex, id, by_, bt, qt⟩, dt, td⟩ : Ev) = Ev.fault td ∧ True := by
          rcases HEV.out with h | h
          · exact absurd h h0
          · exact ⟨h.1, trivial⟩
        have hks : ks = [] := by injection h9 with h _ _; injection h
        have HNN : Hid (Calls Try.prog 18 #[.agg (cmdC ⟨vb, ks, cv, ky, vl, fl, ex, id, by_, bt, qt⟩ kv1).toArray] W6.drew fun r w' => r = .returned (.bool true) ∧ Below W6.drew.heap.size W6.drew w') := by
          have hc : (⟨vb, ks, cv, ky, vl, fl, ex, id, by_, bt, qt⟩ : Cmd) = Cmd.none := by injection h9
          rw [hc]
          exact nonew kv1 _ (by rw [← hks]; exact K1d.out)
        clear h9 hks h0 htd
        go_wp2_with fail
        refine wp_region_held_drew (S := fun X => X.cell? ⟨g1, k * 13, none⟩ = some (.int .u8 (vb : Nat)) ∧ X.cell? ⟨g1, k * 13 + 1, none⟩ = some (kv1) ∧ X.cell? ⟨g1, k * 13 + 2, none⟩ = some (.int .u8 (cv : Nat)) ∧ X.cell? ⟨g1, k * 13 + 3, none⟩ = some (.string ⟨ky.toArray⟩) ∧ X.cell? ⟨g1, k * 13 + 4, none⟩ = some (.string ⟨vl.toArray⟩) ∧ X.cell? ⟨g1, k * 13 + 5, none⟩ = some (.int .u32 fl) ∧ X.cell? ⟨g1, k * 13 + 6, none⟩ = some (.int .i64 ex) ∧ X.cell? ⟨g1, k * 13 + 7, none⟩ = some (.int .u64 id) ∧ X.cell? ⟨g1, k * 13 + 8, none⟩ = some (.int .u64 by_) ∧ X.cell? ⟨g1, k * 13 + 9, none⟩ = some (.int .i64 bt) ∧ X.cell? ⟨g1, k * 13 + 10, none⟩ = some (.bool qt) ∧ X.cell? ⟨g1, k * 13 + 12, none⟩ = some (.int .u8 (td : Nat)) ∧ X.cell? ⟨g2, o2 + k * 13, none⟩ = some (.int .u8 (vb : Nat)) ∧ X.cell? ⟨g2, o2 + k * 13 + 1, none⟩ = some (kv2) ∧ X.cell? ⟨g2, o2 + k * 13 + 2, none⟩ = some (.int .u8 (cv : Nat)) ∧ X.cell? ⟨g2, o2 + k * 13 + 3, none⟩ = some (.string ⟨ky.toArray⟩) ∧ X.cell? ⟨g2, o2 + k * 13 + 4, none⟩ = some (.string ⟨vl.toArray⟩) ∧ X.cell? ⟨g2, o2 + k * 13 + 5, none⟩ = some (.int .u32 fl) ∧ X.cell? ⟨g2, o2 + k * 13 + 6, none⟩ = some (.int .i64 ex) ∧ X.cell? ⟨g2, o2 + k * 13 + 7, none⟩ = some (.int .u64 id) ∧ X.cell? ⟨g2, o2 + k * 13 + 8, none⟩ = some (.int .u64 by_) ∧ X.cell? ⟨g2, o2 + k * 13 + 9, none⟩ = some (.int .i64 bt) ∧ X.cell? ⟨g2, o2 + k * 13 + 10, none⟩ = some (.bool qt)) (by kernel_rfl) HSd.out (fun hHeld => ?_)
        refine wpAnyH_take (i := 0) (oi := ({ dst := some 49, op := Op.move (Operand.tmp 0), type := 31, pos := "law.go:38", after := #[], guard := none })) (v := ?_) rfl (by kernel_rfl) (by kernel_rfl) (by kernel_rfl) (fun _ _ _ h => h) (Or.inl ⟨by rfl, ?_⟩) (by assumption) ?_
        rotate_left 1
        · (intro w9 hSw; (try dsimp only at hSw); go_simp; try with_reducible rfl)
        try simp only [Act.put, List.setIfInBounds_toArray, List.set_cons_zero, List.set_cons_succ]
        refine wpAnyH_take (i := 1) (oi := ({ dst := some 50, op := Op.move (Operand.tmp 5), type := 3, pos := "law.go:38", after := #[], guard := none })) (v := ?_) rfl (by kernel_rfl) (by kernel_rfl) (by kernel_rfl) (fun _ _ _ h => h) (Or.inl ⟨by rfl, ?_⟩) (by assumption) ?_
        rotate_left 1
        · (intro w9 hSw; (try dsimp only at hSw); go_simp; try with_reducible rfl)
        try simp only [Act.put, List.setIfInBounds_toArray, List.set_cons_zero, List.set_cons_succ]
        refine wpAnyH_take (i := 2) (oi := ({ dst := some 51, op := Op.indexAddr 31 (Operand.tmp 49) (Operand.tmp 50), type := 0, pos := "law.go:38", after := #[{ on := 0, ground := Ground.data }, { on := 1, ground := Ground.data }], guard := none })) (v := ?_) rfl (by kernel_rfl) (by kernel_rfl) (by kernel_rfl) (fun _ _ _ h => h) (Or.inl ⟨by rfl, ?_⟩) (by assumption) ?_
        rotate_left 1
        · (intro w9 hSw; (try dsimp only at hSw); go_simp; try with_reducible rfl)
        try simp only [Act.put, List.setIfInBounds_toArray, List.set_cons_zero, List.set_cons_succ]
        refine wpAnyH_take (i := 3) (oi := ({ dst := some 52, op := Op.fieldAddr 54 (Operand.tmp 51) 2, type := 0, pos := "law.go:38", after := #[{ on := 2, ground := Ground.data }], guard := none })) (v := ?_) rfl (by kernel_rfl) (by kernel_rfl) (by kernel_rfl) (fun _ _ _ h => h) (Or.inl ⟨by rfl, ?_⟩) (by assumption) ?_
        rotate_left 1
        · (intro w9 hSw; (try dsimp only at hSw); go_simp; try with_reducible rfl)
        try simp only [Act.put, List.setIfInBounds_toArray, List.set_cons_zero, List.set_cons_succ]
        refine wpAnyH_take (i := 4) (oi := ({ dst := some 53, op := Op.load 52 (Operand.tmp 52), type := 52, pos := "law.go:38", after := #[{ on := 3, ground := Ground.data }], guard := none })) (v := ?_) rfl (by kernel_rfl) (by kernel_rfl) (by kernel_rfl) (fun _ _ _ h => h) (Or.inl ⟨by rfl, ?_⟩) (by assumption) ?_
        rotate_left 1
        · (intro w9 hSw; (try dsimp only at hSw); go_simp; try with_reducible rfl)
        try simp only [Act.put, List.setIfInBounds_toArray, List.set_cons_zero, List.set_cons_succ]
        refine wpAnyH_take (i := 5) (oi := ({ dst := some 54, op := Op.binOp BinOp.eql 52 (Operand.tmp 53) (Operand.const (Value.int IntKind.u8 0)) 52, type := 4, pos := "law.go:38", after := #[{ on := 4, ground := Ground.data }], guard := none })) (v := ?_) rfl (by kernel_rfl) (by kernel_rfl) (by kernel_rfl) (fun _ _ _ h => h) (Or.inl ⟨by rfl, ?_⟩) (by assumption) ?_
        rotate_left 1
        · (intro w9 hSw; (try dsimp only at hSw); go_simp; try with_reducible rfl)
        try simp only [Act.put, List.setIfInBounds_toArray, List.set_cons_zero, List.set_cons_succ]
        refine wpAnyH_take (i := 6) (oi := ({ dst := some 55, op := Op.move (Operand.tmp 54), type := 4, pos := "law.go:38", after := #[{ on := 5, ground := Ground.data }], guard := none })) (v := ?_) rfl (by kernel_rfl) (by kernel_rfl) (by kernel_rfl) (fun _ _ _ h => h) (Or.inl ⟨by rfl, ?_⟩) (by assumption) ?_
        rotate_left 1
        · (intro w9 hSw; (try dsimp only at hSw); go_simp; try with_reducible rfl)
        try simp only [Act.put, List.setIfInBounds_toArray, List.set_cons_zero, List.set_cons_succ]
        refine wpAnyH_take (i := 7) (oi := ({ dst := some 56, op := Op.move (Operand.tmp 0), type := 31, pos := "law.go:38", after := #[{ on := 6, ground := Ground.guard }], guard := some (6, true) })) (v := undef) rfl (by kernel_rfl) (by kernel_rfl) (by kernel_rfl) (fun _ _ _ h => h) (Or.inr ⟨by rfl, rfl⟩) (by assumption) ?_
        try simp only [Act.put, List.setIfInBounds_toArray, List.set_cons_zero, List.set_cons_succ]
        refine wpAnyH_take (i := 8) (oi := ({ dst := some 57, op := Op.move (Operand.tmp 5), type := 3, pos := "law.go:38", after := #[{ on := 6, ground := Ground.guard }], guard := some (6, true) })) (v := undef) rfl (by kernel_rfl) (by kernel_rfl) (by kernel_rfl) (fun _ _ _ h => h) (Or.inr ⟨by rfl, rfl⟩) (by assumption) ?_
        try simp only [Act.put, List.setIfInBounds_toArray, List.set_cons_zero, List.set_cons_succ]
        refine wpAnyH_take (i := 9) (oi := ({ dst := some 58, op := Op.indexAddr 31 (Operand.tmp 56) (Operand.tmp 57), type := 0, pos := "law.go:38", after := #[{ on := 7, ground := Ground.data }, { on := 8, ground := Ground.data }, { on := 6, ground := Ground.guard }], guard := some (6, true) })) (v := undef) rfl (by kernel_rfl) (by kernel_rfl) (by kernel_rfl) (fun _ _ _ h => h) (Or.inr ⟨by rfl, rfl⟩) (by assumption) ?_
        try simp only [Act.put, List.setIfInBounds_toArray, List.set_cons_zero, List.set_cons_succ]
        refine wpAnyH_take (i := 10) (oi := ({ dst := some 59, op := Op.fieldAddr 54 (Operand.tmp 58) 0, type := 0, pos := "law.go:38", after := #[{ on := 9, ground := Ground.data }, { on := 6, ground := Ground.guard }], guard := some (6, true) })) (v := undef) rfl (by kernel_rfl) (by kernel_rfl) (by kernel_rfl) (fun _ _ _ h => h) (Or.inr ⟨by rfl, rfl⟩) (by assumption) ?_
        try simp only [Act.put, List.setIfInBounds_toArray, List.set_cons_zero, List.set_cons_succ]
        refine wpAnyH_take (i := 11) (oi := ({ dst := some 60, op := Op.load 45 (Operand.tmp 59), type := 45, pos := "law.go:38", after := #[{ on := 10, ground := Ground.data }, { on := 6, ground := Ground.guard }], guard := some (6, true) })) (v := undef) rfl (by kernel_rfl) (by kernel_rfl) (by kernel_rfl) (fun _ _ _ h => h) (Or.inr ⟨by rfl, rfl⟩) (by assumption) ?_
        try simp only [Act.put, List.setIfInBounds_toArray, List.set_cons_zero, List.set_cons_succ]
        refine wpAnyH_take (i := 12) (oi := ({ dst := some 61, op := Op.move (Operand.tmp 1), type := 33, pos := "law.go:38", after := #[{ on := 6, ground := Ground.guard }], guard := some (6, true) })) (v := undef) rfl (by kernel_rfl) (by kernel_rfl) (by kernel_rfl) (fun _ _ _ h => h) (Or.inr ⟨by rfl, rfl⟩) (by assumption) ?_
        try simp only [Act.put, List.setIfInBounds_toArray, List.set_cons_zero, List.set_cons_succ]
        refine wpAnyH_take (i := 13) (oi := ({ dst := some 62, op := Op.move (Operand.tmp 5), type := 3, pos := "law.go:38", after := #[{ on := 6, ground := Ground.guard }], guard := some (6, true) })) (v := undef) rfl (by kernel_rfl) (by kernel_rfl) (by kernel_rfl) (fun _ _ _ h => h) (Or.inr ⟨by rfl, rfl⟩) (by assumption) ?_
        try simp only [Act.put, List.setIfInBounds_toArray, List.set_cons_zero, List.set_cons_succ]
        refine wpAnyH_take (i := 14) (oi := ({ dst := some 63, op := Op.indexAddr 33 (Operand.tmp 61) (Operand.tmp 62), type := 0, pos := "law.go:38", after := #[{ on := 12, ground := Ground.data }, { on := 13, ground := Ground.data }, { on := 6, ground := Ground.guard }], guard := some (6, true) })) (v := undef) rfl (by kernel_rfl) (by kernel_rfl) (by kernel_rfl) (fun _ _ _ h => h) (Or.inr ⟨by rfl, rfl⟩) (by assumption) ?_
        try simp only [Act.put, List.setIfInBounds_toArray, List.set_cons_zero, List.set_cons_succ]
        refine wpAnyH_take (i := 15) (oi := ({ dst := some 64, op := Op.fieldAddr 60 (Operand.tmp 63) 0, type := 0, pos := "law.go:38", after := #[{ on := 14, ground := Ground.data }, { on := 6, ground := Ground.guard }], guard := some (6, true) })) (v := undef) rfl (by kernel_rfl) (by kernel_rfl) (by kernel_rfl) (fun _ _ _ h => h) (Or.inr ⟨by rfl, rfl⟩) (by assumption) ?_
        try simp only [Act.put, List.setIfInBounds_toArray, List.set_cons_zero, List.set_cons_succ]
        refine wpAnyH_take (i := 16) (oi := ({ dst := some 65, op := Op.load 58 (Operand.tmp 64), type := 58, pos := "law.go:38", after := #[{ on := 15, ground := Ground.data }, { on := 6, ground := Ground.guard }], guard := some (6, true) })) (v := undef) rfl (by kernel_rfl) (by kernel_rfl) (by kernel_rfl) (fun _ _ _ h => h) (Or.inr ⟨by rfl, rfl⟩) (by assumption) ?_
        try simp only [Act.put, List.setIfInBounds_toArray, List.set_cons_zero, List.set_cons_succ]
        refine wpAnyH_take (i := 17) (oi := ({ dst := some 66, op := Op.call { callee := Callee.value (Operand.func 17), args := #[Operand.tmp 60, Operand.tmp 65], argTypes := #[45, 58] }, type := 4, pos := "law.go:38", after := #[{ on := 11, ground := Ground.data }, { on := 16, ground := Ground.data }, { on := 6, ground := Ground.chain }, { on := 6, ground := Ground.guard }], guard := some (6, true) })) (v := undef) rfl (by kernel_rfl) (by kernel_rfl) (by kernel_rfl) (fun _ _ _ h => h) (Or.inr ⟨by rfl, rfl⟩) (by assumption) ?_
        try simp only [Act.put, List.setIfInBounds_toArray, List.set_cons_zero, List.set_cons_succ]
        refine wpAnyH_take (i := 18) (oi := ({ dst := some 67, op := Op.unOp UnOp.not 4 (Operand.tmp 66), type := 4, pos := "law.go:38", after := #[{ on := 17, ground := Ground.data }, { on := 6, ground := Ground.guard }], guard := some (6, true) })) (v := undef) rfl (by kernel_rfl) (by kernel_rfl) (by kernel_rfl) (fun _ _ _ h => h) (Or.inr ⟨by rfl, rfl⟩) (by assumption) ?_
        try simp only [Act.put, List.setIfInBounds_toArray, List.set_cons_zero, List.set_cons_succ]
        refine wpAnyH_take (i := 19) (oi := ({ dst := some 68, op := Op.pick (Operand.tmp 55) (Operand.tmp 67) (Operand.const (Value.bool false)), type := 4, pos := "law.go:38", after := #[{ on := 6, ground := Ground.data }, { on := 18, ground := Ground.data }], guard := none })) (v := ?_) rfl (by kernel_rfl) (by kernel_rfl) (by kernel_rfl) (fun _ _ _ h => h) (Or.inl ⟨by rfl, ?_⟩) (by assumption) ?_
        rotate_left 1
        · (intro w9 hSw; (try dsimp only at hSw); go_simp; try with_reducible rfl)
        try simp only [Act.put, List.setIfInBounds_toArray, List.set_cons_zero, List.set_cons_succ]
        refine wpAnyH_take (i := 20) (oi := ({ dst := some 69, op := Op.move (Operand.tmp 68), type := 4, pos := "law.go:38", after := #[{ on := 19, ground := Ground.data }, { on := 17, ground := Ground.chain }], guard := none })) (v := ?_) rfl (by kernel_rfl) (by kernel_rfl) (by kernel_rfl) (fun _ _ _ h => h) (Or.inl ⟨by rfl, ?_⟩) (by assumption) ?_
        rotate_left 1
        · (intro w9 hSw; (try dsimp only at hSw); go_simp; try with_reducible rfl)
        try simp only [Act.put, List.setIfInBounds_toArray, List.set_cons_zero, List.set_cons_succ]
        refine wpAnyH_take (i := 21) (oi := ({ dst := some 70, op := Op.move (Operand.tmp 0), type := 31, pos := "law.go:38", after := #[{ on := 20, ground := Ground.guard }], guard := some (20, false) })) (v := ?_) rfl (by kernel_rfl) (by kernel_rfl) (by kernel_rfl) (fun _ _ _ h => h) (Or.inl ⟨by rfl, ?_⟩) (by assumption) ?_
        rotate_left 1
        · (intro w9 hSw; (try dsimp only at hSw); go_simp; try with_reducible rfl)
        try simp only [Act.put, List.setIfInBounds_toArray, List.set_cons_zero, List.set_cons_succ]
        refine wpAnyH_take (i := 22) (oi := ({ dst := some 71, op := Op.move (Operand.tmp 5), type := 3, pos := "law.go:38", after := #[{ on := 20, ground := Ground.guard }], guard := some (20, false) })) (v := ?_) rfl (by kernel_rfl) (by kernel_rfl) (by kernel_rfl) (fun _ _ _ h => h) (Or.inl ⟨by rfl, ?_⟩) (by assumption) ?_
        rotate_left 1
        · (intro w9 hSw; (try dsimp only at hSw); go_simp; try with_reducible rfl)
        try simp only [Act.put, List.setIfInBounds_toArray, List.set_cons_zero, List.set_cons_succ]
        refine wpAnyH_take (i := 23) (oi := ({ dst := some 72, op := Op.indexAddr 31 (Operand.tmp 70) (Operand.tmp 71), type := 0, pos := "law.go:38", after := #[{ on := 21, ground := Ground.data }, { on := 22, ground := Ground.data }, { on := 20, ground := Ground.guard }], guard := some (20, false) })) (v := ?_) rfl (by kernel_rfl) (by kernel_rfl) (by kernel_rfl) (fun _ _ _ h => h) (Or.inl ⟨by rfl, ?_⟩) (by assumption) ?_
        rotate_left 1
        · (intro w9 hSw; (try dsimp only at hSw); go_simp; try with_reducible rfl)
        try simp only [Act.put, List.setIfInBounds_toArray, List.set_cons_zero, List.set_cons_succ]
        refine wpAnyH_take (i := 24) (oi := ({ dst := some 73, op := Op.fieldAddr 54 (Operand.tmp 72) 2, type := 0, pos := "law.go:38", after := #[{ on := 23, ground := Ground.data }, { on := 20, ground := Ground.guard }], guard := some (20, false) })) (v := ?_) rfl (by kernel_rfl) (by kernel_rfl) (by kernel_rfl) (fun _ _ _ h => h) (Or.inl ⟨by rfl, ?_⟩) (by assumption) ?_
        rotate_left 1
        · (intro w9 hSw; (try dsimp only at hSw); go_simp; try with_reducible rfl)
        try simp only [Act.put, List.setIfInBounds_toArray, List.set_cons_zero, List.set_cons_succ]
        refine wpAnyH_take (i := 25) (oi := ({ dst := some 74, op := Op.load 52 (Operand.tmp 73), type := 52, pos := "law.go:38", after := #[{ on := 24, ground := Ground.data }, { on := 20, ground := Ground.guard }], guard := some (20, false) })) (v := ?_) rfl (by kernel_rfl) (by kernel_rfl) (by kernel_rfl) (fun _ _ _ h => h) (Or.inl ⟨by rfl, ?_⟩) (by assumption) ?_
        rotate_left 1
        · (intro w9 hSw; (try dsimp only at hSw); go_simp; try with_reducible rfl)
        try simp only [Act.put, List.setIfInBounds_toArray, List.set_cons_zero, List.set_cons_succ]
        refine wpAnyH_take (i := 26) (oi := ({ dst := some 75, op := Op.binOp BinOp.neq 52 (Operand.tmp 74) (Operand.const (Value.int IntKind.u8 0)) 52, type := 4, pos := "law.go:38", after := #[{ on := 25, ground := Ground.data }, { on := 20, ground := Ground.guard }], guard := some (20, false) })) (v := ?_) rfl (by kernel_rfl) (by kernel_rfl) (by kernel_rfl) (fun _ _ _ h => h) (Or.inl ⟨by rfl, ?_⟩) (by assumption) ?_
        rotate_left 1
        · (intro w9 hSw; (try dsimp only at hSw); go_simp; try with_reducible rfl)
        try simp only [Act.put, List.setIfInBounds_toArray, List.set_cons_zero, List.set_cons_succ]
        refine wpAnyH_take (i := 27) (oi := ({ dst := some 76, op := Op.move (Operand.tmp 75), type := 4, pos := "law.go:38", after := #[{ on := 26, ground := Ground.data }, { on := 20, ground := Ground.chain }, { on := 20, ground := Ground.guard }], guard := some (20, false) })) (v := ?_) rfl (by kernel_rfl) (by kernel_rfl) (by kernel_rfl) (fun _ _ _ h => h) (Or.inl ⟨by rfl, ?_⟩) (by assumption) ?_
        rotate_left 1
        · (intro w9 hSw; (try dsimp only at hSw); go_simp; try with_reducible rfl)
        try simp only [Act.put, List.setIfInBounds_toArray, List.set_cons_zero, List.set_cons_succ]
        refine wpAnyH_take (i := 28) (oi := ({ dst := some 77, op := Op.move (Operand.tmp 0), type := 31, pos := "law.go:38", after := #[{ on := 27, ground := Ground.guard }], guard := some (27, true) })) (v := ?_) rfl (by kernel_rfl) (by kernel_rfl) (by kernel_rfl) (fun _ _ _ h => h) (Or.inl ⟨by rfl, ?_⟩) (by assumption) ?_
        rotate_left 1
        · (intro w9 hSw; (try dsimp only at hSw); go_simp; try with_reducible rfl)
        try simp only [Act.put, List.setIfInBounds_toArray, List.set_cons_zero, List.set_cons_succ]
        refine wpAnyH_take (i := 29) (oi := ({ dst := some 78, op := Op.move (Operand.tmp 5), type := 3, pos := "law.go:38", after := #[{ on := 27, ground := Ground.guard }], guard := some (27, true) })) (v := ?_) rfl (by kernel_rfl) (by kernel_rfl) (by kernel_rfl) (fun _ _ _ h => h) (Or.inl ⟨by rfl, ?_⟩) (by assumption) ?_
        rotate_left 1
        · (intro w9 hSw; (try dsimp only at hSw); go_simp; try with_reducible rfl)
        try simp only [Act.put, List.setIfInBounds_toArray, List.set_cons_zero, List.set_cons_succ]
        refine wpAnyH_take (i := 30) (oi := ({ dst := some 79, op := Op.indexAddr 31 (Operand.tmp 77) (Operand.tmp 78), type := 0, pos := "law.go:38", after := #[{ on := 28, ground := Ground.data }, { on := 29, ground := Ground.data }, { on := 27, ground := Ground.guard }], guard := some (27, true) })) (v := ?_) rfl (by kernel_rfl) (by kernel_rfl) (by kernel_rfl) (fun _ _ _ h => h) (Or.inl ⟨by rfl, ?_⟩) (by assumption) ?_
        rotate_left 1
        · (intro w9 hSw; (try dsimp only at hSw); go_simp; try with_reducible rfl)
        try simp only [Act.put, List.setIfInBounds_toArray, List.set_cons_zero, List.set_cons_succ]
        refine wpAnyH_take (i := 31) (oi := ({ dst := some 80, op := Op.fieldAddr 54 (Operand.tmp 79) 0, type := 0, pos := "law.go:38", after := #[{ on := 30, ground := Ground.data }, { on := 27, ground := Ground.guard }], guard := some (27, true) })) (v := ?_) rfl (by kernel_rfl) (by kernel_rfl) (by kernel_rfl) (fun _ _ _ h => h) (Or.inl ⟨by rfl, ?_⟩) (by assumption) ?_
        rotate_left 1
        · (intro w9 hSw; (try dsimp only at hSw); go_simp; try with_reducible rfl)
        try simp only [Act.put, List.setIfInBounds_toArray, List.set_cons_zero, List.set_cons_succ]
        refine wpAnyH_take (i := 32) (oi := ({ dst := some 81, op := Op.load 45 (Operand.tmp 80), type := 45, pos := "law.go:38", after := #[{ on := 31, ground := Ground.data }, { on := 27, ground := Ground.guard }], guard := some (27, true) })) (v := ?_) rfl (by kernel_rfl) (by kernel_rfl) (by kernel_rfl) (fun _ _ _ h => h) (Or.inl ⟨by rfl, ?_⟩) (by assumption) ?_
        rotate_left 1
        · (intro w9 hSw; (try dsimp only at hSw); go_simp; try with_reducible rfl)
        try simp only [Act.put, List.setIfInBounds_toArray, List.set_cons_zero, List.set_cons_succ]
        refine wpAnyH_ready (rs := [33]) (by kernel_rfl) (by simp) ?_
        refine AllReadyH.cons (o := ({ dst := some 82, op := Op.call { callee := Callee.value (Operand.func 18), args := #[Operand.tmp 81], argTypes := #[45] }, type := 4, pos := "law.go:38", after := #[{ on := 32, ground := Ground.data }, { on := 27, ground := Ground.chain }, { on := 27, ground := Ground.guard }], guard := some (27, true) })) rfl (fun K hK => ?_) AllReadyH.nil
        go_simp
        refine HNN.out.mono ?_
        rintro e w7 ⟨rfl, hb7⟩
        have hk7 := hd6.trans (hb7.mono hd6.size)
        refine hK.out _ _ (KEEP.out _ hk7) (fun hHeld => ?_)
        clear hK K
        try simp only [Act.put, List.setIfInBounds_toArray, List.set_cons_zero, List.set_cons_succ]
        refine wpAnyH_take (i := 34) (oi := ({ dst := some 83, op := Op.unOp UnOp.not 4 (Operand.tmp 82), type := 4, pos := "law.go:38", after := #[{ on := 33, ground := Ground.data }, { on := 27, ground := Ground.guard }], guard := some (27, true) })) (v := ?_) rfl (by kernel_rfl) (by kernel_rfl) (by kernel_rfl) (fun _ _ _ h => h) (Or.inl ⟨by rfl, ?_⟩) (by assumption) ?_
        rotate_left 1
        · (intro w9 hSw; (try dsimp only at hSw); go_simp; try with_reducible rfl)
        try simp only [Act.put, List.setIfInBounds_toArray, List.set_cons_zero, List.set_cons_succ]
        refine wpAnyH_take (i := 35) (oi := ({ dst := some 84, op := Op.pick (Operand.tmp 76) (Operand.tmp 83) (Operand.const (Value.bool false)), type := 4, pos := "law.go:38", after := #[{ on := 27, ground := Ground.data }, { on := 34, ground := Ground.data }, { on := 20, ground := Ground.guard }], guard := some (20, false) })) (v := ?_) rfl (by kernel_rfl) (by kernel_rfl) (by kernel_rfl) (fun _ _ _ h => h) (Or.inl ⟨by rfl, ?_⟩) (by assumption) ?_
        rotate_left 1
        · (intro w9 hSw; (try dsimp only at hSw); go_simp; try with_reducible rfl)
        try simp only [Act.put, List.setIfInBounds_toArray, List.set_cons_zero, List.set_cons_succ]
        refine wpAnyH_take (i := 36) (oi := ({ dst := some 85, op := Op.pick (Operand.tmp 69) (Operand.const (Value.bool true)) (Operand.tmp 84), type := 4, pos := "law.go:38", after := #[{ on := 20, ground := Ground.data }, { on := 35, ground := Ground.data }], guard := none })) (v := ?_) rfl (by kernel_rfl) (by kernel_rfl) (by kernel_rfl) (fun _ _ _ h => h) (Or.inl ⟨by rfl, ?_⟩) (by assumption) ?_
        rotate_left 1
        · (intro w9 hSw; (try dsimp only at hSw); go_simp; try with_reducible rfl)
        try simp only [Act.put, List.setIfInBounds_toArray, List.set_cons_zero, List.set_cons_succ]
        refine wpAnyH_done (by kernel_rfl) ?_ _
        go_wp2_with fail
        go_roundw
        case rel => exact ⟨k + 1, by omega, by go_num, hnx.trans (hk7.mono hnx.size)⟩
        case measure => simp [intOf]; omega
    · have hd : decide (k < n) = false := decide_eq_false hlt
      go_wp2_with fail
      go_ret
      exact ⟨rfl, hnx⟩
end Go.Proofs.Ytifbcejekdhnlaa
/- Next: Feeds: none at all; new ones, of both kinds; chunks of bytes. -/
namespace Go.Proofs.Ytifbcejekdhnlaa
open Go.RowKit Go.Maps
set_option linter.unusedVariables false

theorem in_nil (v : Value) (w : World) : Calls Try.prog 10 #[.pointer none, v] w fun e w' => e = .returned (.slice none 0 0) ∧ w = w' := by
  go_enter Try.func10, Try.ntmps10
  go_wp2
  go_ret
  exact ⟨rfl, rfl⟩
theorem rf_new (w : World) : RfAt (w.alloc (.cells #[.slice none 0 0, .int .i64 0] 29)) w.heap.size w.heap.size [] :=
  ⟨⟨none, 0, cb_new rfl, by simp, by simp [maxLen], Rd.nil _ _ _, fun _ => rfl, fun g o e => by simp at e⟩, by simp⟩
theorem fd_zero (w : World) : FdAt (w.alloc (.cells #[.int .i64 0, .slice none 0 0, .bool false, .int .u8 0, .slice none 0 0, .int .u8 0, .string ⟨#[]⟩, .string ⟨#[]⟩, .int .u32 0, .int .i64 0, .int .u64 0, .int .u64 0, .int .i64 0, .bool false, .int .i64 0] 47)) w.heap.size (fun k => k = w.heap.size) Fst.new (.slice none 0 0) (.slice none 0 0) :=
  fd_mk (w := w) (cb_new rfl)
theorem feed_ok (L : List UInt8) : (feedF Fst.new L).1.held.length ≤ 2048 := (FOk.new.feed L).held
theorem EvAt.rd_keep {W W' : World} {U : Nat → Prop} {B q : Nat} {v u : Value} {ps : List (Ev × Value)} (h : EvAt W U B v ps) (hm : ps.length ≤ 1048576) (hk : Keeps (fun k => k = q) W W') (hq : q < B) (hu : W.cell? ⟨q, 0, none⟩ = some u) (hus : ∀ x, u ≠ .string x) : EvR W' v ps := by
  have hr := h.rd hm
  obtain ⟨A, c, e, h1, h2, h3⟩ := hr.form
  refine ⟨⟨A, c, e, h1, h2, fun h0 => ?_⟩, fun p hp => (hr.keys p hp).other hk (fun g t x hx => ?_)⟩
  · obtain ⟨g, e2, hg, hc⟩ := h3 h0
    have hgq : ¬ g = q := by
      obtain ⟨_, ⟨_, h4⟩ | ⟨g', cap, hv, hB, _⟩⟩ := h.lst
      · omega
      · rw [e, e2] at hv
        injection hv with hv
        injection hv with hv
        injection hv with hv
        omega
    exact ⟨g, e2, Nat.lt_of_lt_of_le hg hk.size, fun j u hu => hk.cell (p := ⟨g, j, none⟩) hgq (hc j u hu)⟩
  · subst t
    rw [hu] at hx
    injection hx with hx
    exact hus x hx
theorem RfAt.head {W : World} {p g : Nat} {all : List UInt8} (h : RfAt W p g all) : ∃ u, W.cell? ⟨p, 0, none⟩ = some u ∧ (∀ x, u ≠ .string x) ∧ p < W.heap.size := by
  obtain ⟨A, c, h1, _⟩ := h.form
  exact ⟨_, h1.at_ 0 _ rfl, by simp, h1.lt⟩
end Go.Proofs.Ytifbcejekdhnlaa
