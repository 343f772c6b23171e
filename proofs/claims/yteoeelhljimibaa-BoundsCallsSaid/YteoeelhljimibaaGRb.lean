/- The chapter's calls: an event's call in a list; events that are told have a verb. -/
import Derived.Test.YteoeelhljimibaaGRd
import Derived.Test.YteoeelhljimibaaGBc
namespace Go.Proofs.Yteoeelhljimibaa
open Go.RowKit Go.Maps
set_option linter.unusedVariables false

/-- 'append' of one call. -/
theorem wpList_append_c1 {ops : Array Oper} {rest : List Oper} {o : Oper} {a : Act} {w : World} {Q : Exit → Act → World → Prop} (hgd : o.guard = none) (s x : Operand)
    (ho : o.op = .call { callee := .builtin .append, args := #[s, x], argTypes := #[28, 28] })
    (B : Nat) (W : World) (t : TypeId) (v : Value) (L : List Cl) (c : Cl) (hw : w = W.alloc (.cells (callC c).toArray t)) (hown : W.ownsRow B 33 7 v L.length (rowsC L)) (hs : a.eval s = v) (hx : a.eval x = .slice (some ⟨W.heap.size, 0, none⟩) 1 1) (hlen : L.length ≤ 1000000) (hB : B ≤ W.heap.size)
    (hK : ∀ v' w', w'.ownsRow B 33 7 v' (L ++ [c]).length (rowsC (L ++ [c])) → Keeps (fun k => v.ownBlock = some k) W w' → (∀ k, v.ownBlock = some k → B ≤ k) → (v'.ownBlock = v.ownBlock ∨ ∃ k, v'.ownBlock = some k ∧ W.heap.size ≤ k) → wpList Try.prog ops Q rest (a.put o.dst v') w') : wpList Try.prog ops Q (o :: rest) a w := by
  subst hw
  obtain ⟨i0, hi, hz0, hz1, hz2⟩ := info_parts info_call
  refine wpList_append_own_at _ hgd s x 28 ho B 33 i0 _ 7 72 Try.underlying28 hi hz0 hz1 hz2 rfl (by decide) v L.length (rowsC L) hs (hown.alloc _) ⟨W.heap.size, 0, none⟩ 1 1 (callC c) hx rfl (fun j u hj => by rw [Addr.add_lit, Nat.zero_add]; exact cl_new_at (c := c) (by simp) j u hj) (fun u hu => rowsC_one [c] u (by show u ∈ callC c ++ []; rw [List.append_nil]; exact hu)) (by unfold maxLen; omega) (by omega) (by simp; omega) ?_
  intro v' w' h1 h2 h3 h4
  refine hK v' w' ?_ (((Keeps.refl (fun k => v.ownBlock = some k) W).alloc _).grown h2 fun k e => .inl e) (fun k e => (hown.lt k e).1) (h4.imp id fun e => ⟨_, e, by simp⟩)
  rw [List.length_append, rowsC_app]
  have : rowsC [c] = callC c := by show callC c ++ [] = _; rw [List.append_nil]
  rw [this]
  exact h1
/-- A told command has a verb. -/
theorem parse_verb_pos (l : List UInt8) : (parseC l).2 = 0 ∨ (parseC l).2 = 5 → 1 ≤ (parseC l).1.verb := by
  intro h
  unfold parseC at h ⊢
  by_cases hlen : 2048 < l.length
  · rw [if_pos hlen] at h; simp at h
  rw [if_neg hlen] at h ⊢
  cases hws : wordsF l with
  | nil => rw [hws] at h; simp [parseN] at h
  | cons n ws =>
  rw [hws] at h
  cases hf : formOf n with
  | none => simp [parseN, hf] at h
  | some f =>
  have e2 : parseN (n :: ws) = parseW f ws := by simp [parseN, hf]
  rw [e2] at h ⊢
  have hv : 1 ≤ f.verb := (form_facts (form_mem hf)).2.2.2.2.2.2.2.2.2.1
  unfold parseW keyedW at h ⊢
  by_cases h1 : (restW f ws).length < f.fewest ∨ f.greatest < (restW f ws).length
  · rw [if_pos h1] at h; simp at h
  rw [if_neg h1] at h ⊢
  by_cases h2 : ((restW f ws).take f.most).all okF = true
  · rw [if_pos h2] at h ⊢
    have : ∀ (fs : List Nat) (xs : List (List UInt8)) (c : Cmd), (readFs fs xs c).2 = 0 ∨ (readFs fs xs c).2 = 5 → (readFs fs xs c).1.verb = c.verb := by
      intro fs
      induction fs with
      | nil =>
        intro xs c h
        have e : readFs [] xs c = if 1024 < c.bytes then (c, 5) else (c, 0) := by cases xs <;> rfl
        rw [e]
        split <;> rfl
      | cons f fs ih =>
        intro xs c h
        cases xs with
        | nil => rw [readFs_end]; split <;> rfl
        | cons x xs =>
          cases hr : readF f x c with
          | none =>
            rw [readFs_none hr] at h
            exact absurd h (faultF_ne f)
          | some d =>
            rw [readFs_some hr] at h ⊢
            rw [ih xs d h]
            unfold readF at hr
            repeat' split at hr
            all_goals first | (injection hr with hr; subst hr; rfl) | simp at hr
    rw [this _ _ _ h]
    exact hv
  · rw [if_neg h2] at h; simp at h
/-- Where data is awaited, its command has a verb. -/
def PV (s : Fst) : Prop := s.way = 1 → 1 ≤ s.cmd.verb
theorem pv_end {l : List UInt8} : PV (lineF l).1 ∧ ∀ e, (lineF l).2 = some e → e.told = 0 → 1 ≤ e.cmd.verb := by
  have hv := parse_verb_pos (cutCr l)
  unfold lineF endLine
  by_cases h5 : (parseC (cutCr l)).2 = 5
  · rw [if_pos h5]
    exact ⟨fun h => by simp [Fst.at] at h, fun e he ht => by simp only [Option.some.injEq] at he; subst he; simp [Ev.fault] at ht⟩
  rw [if_neg h5]
  by_cases h0 : (parseC (cutCr l)).2 = 0
  · have hv := hv (.inl h0)
    rw [if_neg (by omega)]
    split
    · exact ⟨fun h => by simp [Fst.at] at h, fun e he ht => by simp only [Option.some.injEq] at he; subst he; exact hv⟩
    · exact ⟨fun _ => hv, fun e he => by simp at he⟩
  · rw [if_pos h0]
    exact ⟨fun h => by simp [Fst.at] at h, fun e he ht => by simp only [Option.some.injEq] at he; subst he; exact absurd ht h0⟩
theorem pv_step (s : Fst) (b : UInt8) (h : PV s) : PV (stepF s b).1 ∧ ∀ e, (stepF s b).2 = some e → e.told = 0 → 1 ≤ e.cmd.verb := by
  have hat : ∀ w, w ≠ 1 → PV (Fst.at w) := fun w hw e => absurd e hw
  unfold stepF
  split
  · next hw =>
    unfold takeLineF
    split
    · exact pv_end
    split
    · exact ⟨hat 2 (by omega), fun e he ht => by simp only [Option.some.injEq] at he; subst he; simp [Ev.fault] at ht⟩
    · exact ⟨fun e => by have : s.way = 1 := e; omega, fun e he => by simp at he⟩
  split
  · next hw =>
    unfold takeDataF
    split
    · exact ⟨fun _ => h hw, fun e he => by simp at he⟩
    split
    · exact ⟨fun _ => h hw, fun e he => by simp at he⟩
    split
    · exact ⟨hat 0 (by omega), fun e he ht => by simp only [Option.some.injEq] at he; subst he; exact h hw⟩
    split
    · exact ⟨hat 0 (by omega), fun e he ht => by simp only [Option.some.injEq] at he; subst he; simp [Ev.fault] at ht⟩
    · exact ⟨hat 2 (by omega), fun e he ht => by simp only [Option.some.injEq] at he; subst he; simp [Ev.fault] at ht⟩
  split
  · split
    · exact ⟨hat 0 (by omega), fun e he => by simp at he⟩
    · exact ⟨h, fun e he => by simp at he⟩
  split
  · exact ⟨hat 0 (by omega), fun e he => by simp at he⟩
  · exact ⟨fun e => absurd e (by assumption), fun e he => by simp at he⟩
theorem pv_feed : ∀ (l : List UInt8) (s : Fst), PV s → ∀ e ∈ (feedF s l).2, e.told = 0 → 1 ≤ e.cmd.verb
  | [], s, hs, e, he, ht => by simp [feedF] at he
  | b :: l, s, hs, e, he, ht => by
    have e' : feedF s (b :: l) = ((feedF (stepF s b).1 l).1, (stepF s b).2.toList ++ (feedF (stepF s b).1 l).2) := rfl
    rw [e'] at he
    rcases List.mem_append.mp he with he | he
    · exact (pv_step s b hs).2 e (by simpa using he) ht
    · exact pv_feed l _ (pv_step s b hs).1 e he ht
theorem pv_new : PV Fst.new := fun e => by simp [Fst.new, Fst.at] at e
/-- The chapter's events as they lie. -/
theorem rv_cells {w W : World} {v : Value} {ps : List (Ev × Value)} (h : RvS w W v ps) : ∃ A c, v = .slice A ps.length c ∧ ps.length ≤ c ∧ c ≤ maxLen ∧ (0 < ps.length → ∃ g, A = some ⟨g, 0, none⟩ ∧ g < W.heap.size ∧ ∀ k e kv, ps[k]? = some (e, kv) → KyR W kv e.cmd.keys ∧ ∀ j u, (evCR e kv)[j]? = some u → W.cell? ⟨g, k * 13 + j, none⟩ = some u) := by
  obtain ⟨A, c, rfl, hc, hcm, _⟩ := row_slice h.row
  refine ⟨A, c, rfl, hc, hcm, fun h0 => ?_⟩
  rcases h.row.2 with ⟨he, h4⟩ | ⟨g, cap, cur, he, hB, hbk, _⟩
  · omega
  · injection he with e1 _ e3
    subst e1 e3
    refine ⟨g, rfl, (h.row.lt g rfl).2, fun k e kv hk => ⟨h.keys _ (List.mem_of_getElem? hk), fun j u hu => ?_⟩⟩
    have := h.row.cells (g := g) rfl _ u (rowsR_at ps k j _ u hk hu)
    rwa [Addr.add_lit, Nat.zero_add] at this
end Go.Proofs.Yteoeelhljimibaa
/- Next: The chapter's calls of bytes. -/
namespace Go.Proofs.Yteoeelhljimibaa
open Go.RowKit Go.Maps
set_option linter.unusedVariables false

/-- What the chapter's Calls leaves. -/
def RcPost (w : World) (l : List Cl) (e : Ending) (w' : World) : Prop := ∃ v, e = .returned v ∧ ClR w' v l ∧ Below w.heap.size w w'
set_option maxHeartbeats 8000000 in
set_option maxRecDepth 100000 in
theorem rcallsB (A : Option Addr) (c : Nat) (L : List UInt8) (w : World) (hr : Rd w w.heap.size A L) (hc : L.length ≤ c) (hcm : c ≤ maxLen) (hl : L.length ≤ 15000) :
    Calls Try.prog 19 #[.slice A L.length c] w (RcPost w (callsL (feedF Fst.new L).2)) := by
  have HE := Lib.hid (reventsw A c L w hr hc hcm (by omega))
  obtain ⟨es, hes⟩ : ∃ es, es = (feedF Fst.new L).2 := ⟨_, rfl⟩
  have hkeys : ∀ e ∈ es, e.cmd.keys.length ≤ 64 := by rw [hes]; exact feed_keys L _ FOk.new
  have hverb : ∀ e ∈ es, e.told = 0 → 1 ≤ e.cmd.verb := by rw [hes]; exact pv_feed L _ pv_new
  have hcnt : es.length ≤ 15000 := by rw [hes]; exact Nat.le_trans (feedF_count _ _) hl
  have hr2 : (resF Fst.new L).1 = es := by rw [hes]; rfl
  rw [← hes]
  have HKY := Lib.hid hkeys
  have HVB := Lib.hid hverb
  have HR2 := Lib.hid hr2
  clear hes hkeys hverb hr2 hr
  go_enter Try.func19, Try.ntmps19
  go_wp2_with fail
  refine HE.out.mono ?_
  rintro e W1 ⟨v1, ps, rfl, hps, hS⟩
  obtain ⟨A1, c1, rfl, hc1, hcm1, hx⟩ := rv_cells hS
  rw [HR2.out] at hps
  have hn : ps.length = es.length := by rw [← hps, List.length_map]
  obtain ⟨N, hN⟩ : ∃ N, N = ps.length := ⟨_, rfl⟩
  rw [← hN] at hc1 hx ⊢
  obtain ⟨B, hB⟩ : ∃ B, B = W1.heap.size := ⟨_, rfl⟩
  have hNe : N ≤ 15000 := by omega
  have HX := Lib.hid hx
  have HPS := Lib.hid hps
  have HN := Lib.hid (And.intro hN hn)
  have HBB := Lib.hid (And.intro hB hS.base)
  have hBs : W1.heap.size = B := hB.symm
  clear hS hx hps hn hN hB HE
  unfold maxLen at hcm1
  go_wp2_with fail
  go_loopw [3, 6] (fun v i wr => ∃ k : Nat, k ≤ N ∧ i = .int .i64 k ∧ Hid (wr.ownsRow B 33 7 v (callsL (es.take k)).length (rowsC (callsL (es.take k)))) ∧ Hid (Below B W1 wr)) (fun _ i _ => N - (intOf i).toNat)
  case atStart => exact ⟨0, by omega, rfl, World.ownsRow_nil _ _ _ _, Below.refl _ _⟩
  case round =>
    obtain ⟨k, hk, rfl, hown, hnx⟩ := hrel
    by_cases hlt : k < N
    · obtain ⟨⟨ev, kv⟩, hpk⟩ : ∃ p, ps[k]? = some p := ⟨_, List.getElem?_eq_getElem (by have := HN.out.1; omega)⟩
      have hek : es[k]? = some ev := by rw [← HPS.out, List.getElem?_map, hpk]; rfl
      obtain ⟨g, rfl, hg, hxk⟩ := HX.out (by omega)
      obtain ⟨hky, hce⟩ := hxk k ev kv hpk
      have hce2 : ∀ (X : World) (hb : Below B W1 X) j u, (evCR ev kv)[j]? = some u → X.cell? ⟨g, k * 13 + j, none⟩ = some u := fun X hb j u hu => (hb.cell (p := ⟨g, k * 13 + j, none⟩) (by rw [HBB.out.1]; exact hg)).trans (hce j u hu)
      have hk64 : ev.cmd.keys.length ≤ 64 := HKY.out ev (List.mem_of_getElem? hek)
      have hvb := HVB.out ev (List.mem_of_getElem? hek)
      have HT := Lib.hid (callsL_take hek)
      have hcl1 := callsL_len (es.take k) (fun e he => HKY.out e (List.mem_of_mem_take he))
      have htk : (es.take k).length ≤ 15000 := by rw [List.length_take]; omega
      obtain ⟨base, hbase⟩ : ∃ base, base = callsL (es.take k) := ⟨_, rfl⟩
      rw [← hbase] at hown hcl1 HT
      have hbl : base.length ≤ 960000 := by omega
      have HCE := Lib.hid hce2
      have HKV := Lib.hid (And.intro hky hk64)
      obtain ⟨ka, kc, hkv, hkc, hkm, hkx⟩ := hky.form
      subst hkv
      have HKX := Lib.hid hkx
      have r := HCE.out wr hnx.out
      obtain ⟨⟨vb, ks, cv, ky, vl, fl, ex, id, by_, bt, qt⟩, dt, td⟩ := ev
      simp only at hkc hk64 hvb HKX
      have r0 := r 0 _ rfl; have r2 := r 2 _ rfl; have r3 := r 3 _ rfl; have r4 := r 4 _ rfl; have r5 := r 5 _ rfl; have r6 := r 6 _ rfl; have r7 := r 7 _ rfl; have r8 := r 8 _ rfl; have r12 := r 12 _ rfl
      simp only [Nat.add_zero] at r0 r2 r3 r4 r5 r6 r7 r8 r12
      have HVV := Lib.hid hvb
      clear hce hce2 hxk hpk hek hky hkx hbase hcl1 htk r hvb
      have hBw : B ≤ wr.heap.size := by have := hnx.out.size; omega
      go_upto_region 7 with (fail)
      clear r0 r2 r3 r4 r5 r6 r7 r8 r12
      have hcb : Cb (wr.alloc (.cells #[.int .u8 cv, .string ⟨ky.toArray⟩, .string ⟨vl.toArray⟩, .int .u32 fl, .int .i64 ex, .int .u64 id, .int .u64 by_] 33)) wr.heap.size (callC ⟨cv, ky, vl, fl, ex, id, by_⟩) := cl_new rfl rfl
      have hb2 : Below wr.heap.size wr (wr.alloc (.cells #[.int .u8 cv, .string ⟨ky.toArray⟩, .string ⟨vl.toArray⟩, .int .u32 fl, .int .i64 ex, .int .u64 id, .int .u64 by_] 33)) := (Below.refl _ _).alloc (Nat.le_refl _) _
      generalize wr.alloc _ = W2 at *
      obtain ⟨q, hq⟩ : ∃ q, q = wr.heap.size := ⟨_, rfl⟩
      rw [← hq] at hcb ⊢
      have hrow2 := Keeps.ownsRow hown.out (Keeps.of_new (S := fun _ => False) hb2) (fun _ _ e => e)
      have hnx2 : Below B W1 W2 := hnx.out.trans (hb2.mono hBw)
      have hoq : ∀ x, u3.ownBlock = some x → x ≠ q := fun x e => by have := (hown.out.lt x e).2; omega
      have hqB : B ≤ q := by omega
      have r := HCE.out W2 hnx2
      have r0 := r 0 _ rfl; have r1 := r 1 _ rfl; have r11 := r 11 _ rfl; have r12 := r 12 _ rfl
      simp only [Nat.add_zero] at r0 r1 r11 r12
      have HROW := Lib.hid hrow2
      have HNX := Lib.hid hnx2
      have HCB := Lib.hid hcb
      have HOQ := Lib.hid hoq
      have hB2 : B ≤ W2.heap.size := by have := hcb.lt; omega
      clear hq hown hnx hb2 hrow2 hnx2 hoq hcb hBw r
      obtain ⟨cl, hcl⟩ : ∃ cl : Cl, cl = ⟨cv, ky, vl, fl, ex, id, by_⟩ := ⟨_, rfl⟩
      rw [← hcl] at HCB
      by_cases ht : td = 0
      · subst ht
        have hv1 := HVV.out rfl
        by_cases hx : vb = 12 ∨ vb = 13
        · have HO := Lib.hid (show callsO ⟨⟨vb, ks, cv, ky, vl, fl, ex, id, by_, bt, qt⟩, dt, 0⟩ = [] by unfold callsO; rw [if_pos rfl]; exact callsE_none (.inr hx))
          rcases hx with rfl | rfl
          all_goals
            go_wp2_with fail
            go_roundw
            case rel => exact ⟨k + 1, by omega, by go_num, by rw [HT.out, HO.out, List.append_nil]; exact HROW.out, HNX.out⟩
            case measure => simp [intOf]; omega
        · by_cases hg2 : vb = 1 ∨ vb = 2
          · have HO := Lib.hid (show callsO ⟨⟨vb, ks, cv, ky, vl, fl, ex, id, by_, bt, qt⟩, dt, 0⟩ = ks.map (withKey cl) by unfold callsO; rw [if_pos rfl, callsE_get hg2, hcl]; rfl)
            obtain ⟨n, hn⟩ : ∃ n, n = ks.length := ⟨_, rfl⟩
            simp only [← hn] at r1 hkc hk64
            have HNN := Lib.hid hn
            clear hn hx hv1 hcl r11
            unfold maxLen at hkm
            rcases hg2 with rfl | rfl
            · go_wp2_with fail
              clear r0 r1 r12
              go_loopw [3, 9] (fun v i wx => ∃ (t : Nat) (K : List UInt8), t ≤ n ∧ i = .int .i64 t ∧ Hid (wx.ownsRow B 33 7 v (base ++ (ks.take t).map (withKey cl)).length (rowsC (base ++ (ks.take t).map (withKey cl)))) ∧ Hid (Cb wx q (callC (withKey cl K))) ∧ Hid (Below B W1 wx) ∧ Hid (∀ x, v.ownBlock = some x → x ≠ q)) (fun _ i _ => n - (intOf i).toNat)
              case atStart => exact ⟨0, cl.key, by omega, rfl, by simp only [List.take_zero, List.map_nil, List.append_nil]; exact HROW.out, HCB.out, HNX.out, HOQ.out⟩
              case round =>
                obtain ⟨t, K, ht, rfl, hrow, hcb, hnx, hoq⟩ := hrel
                have r := HCE.out wr hnx.out
                have r1 := r 1 _ rfl
                simp only [← HNN.out] at r1
                by_cases htl : t < n
                · obtain ⟨x, hxt⟩ : ∃ x, ks[t]? = some x := ⟨_, List.getElem?_eq_getElem (by rw [← HNN.out]; exact htl)⟩
                  obtain ⟨g2, rfl, hg2, hc2⟩ := HKX.out t x hxt
                  have cx := (hnx.out.cell (p := ⟨g2, t, none⟩) (by rw [← hBs]; exact hg2)).trans hc2
                  have c1 := hcb.out.at_ 1 _ rfl
                  have f1 := hcb.out.fz 1 (by show 1 < 7; decide)
                  have hBr : B ≤ wr.heap.size := by have := hnx.out.size; omega
                  have hk3 : Keeps (fun j => j = q) wr (wr.setCell ⟨q, 1, none⟩ (.string ⟨x.toArray⟩)) := Keeps.setCell (S := fun j => j = q) (Keeps.refl _ _) (p := ⟨q, 1, none⟩) (.inl rfl) _
                  have hcb3 : Cb (wr.setCell ⟨q, 1, none⟩ (.string ⟨x.toArray⟩)) q (callC (withKey cl x)) := hcb.out.set 1 (.string ⟨x.toArray⟩) (by show 1 < 7; decide) rfl
                  have hrow3 := Keeps.ownsRow hrow.out hk3 (fun y e n => hoq.out y e n)
                  have hnx3 : Below B W1 (wr.setCell ⟨q, 1, none⟩ (.string ⟨x.toArray⟩)) := hnx.out.setCell hqB _
                  have hB3 : B ≤ (wr.setCell ⟨q, 1, none⟩ (.string ⟨x.toArray⟩)).heap.size := by simpa [World.setCell] using hBr
                  have H3 := Lib.hid (And.intro hrow3 (And.intro hnx3 (And.intro hcb3 hoq.out)))
                  have HMT := Lib.hid (map_take_snoc (withKey cl) hxt)
                  have hlen : (base ++ (ks.take t).map (withKey cl)).length ≤ 1000000 := by rw [List.length_append, List.length_map, List.length_take]; omega
                  have htn : (t : Int) < (n : Int) := by omega
                  clear hk3 hcb3 hrow3 hnx3 hxt hc2 hg2 hrow hcb hnx hoq r
                  go_upto_region 16 with (fail)
                  generalize wr.setCell _ _ = W3 at *
                  obtain ⟨z0, z1, z2, z3, z4, z5, z6⟩ : W3.cell? ⟨q, 0, none⟩ = some (.int .u8 (cl.verb : Nat)) ∧ W3.cell? ⟨q, 1, none⟩ = some (.string ⟨x.toArray⟩) ∧ W3.cell? ⟨q, 2, none⟩ = some (.string ⟨cl.value.toArray⟩) ∧ W3.cell? ⟨q, 3, none⟩ = some (.int .u32 cl.flags) ∧ W3.cell? ⟨q, 4, none⟩ = some (.int .i64 cl.exp) ∧ W3.cell? ⟨q, 5, none⟩ = some (.int .u64 cl.id) ∧ W3.cell? ⟨q, 6, none⟩ = some (.int .u64 cl.by_) := ⟨H3.out.2.2.1.at_ 0 _ rfl, H3.out.2.2.1.at_ 1 _ rfl, H3.out.2.2.1.at_ 2 _ rfl, H3.out.2.2.1.at_ 3 _ rfl, H3.out.2.2.1.at_ 4 _ rfl, H3.out.2.2.1.at_ 5 _ rfl, H3.out.2.2.1.at_ 6 _ rfl⟩
                  clear c1 f1 r1 cx
                  go_wp2_with (at_builtin; refine wpList_append_c1 rfl (.tmp 84) (.tmp 86) rfl B W3 _ _ _ (withKey cl x) rfl H3.out.1 rfl rfl hlen hB3 ?_; intro v' W4 hrow4 hk4 hB4 hat4; have hcb4 := H3.out.2.2.1.keep hk4 (fun e => H3.out.2.2.2 q e rfl); have hoq4 : ∀ y, v'.ownBlock = some y → y ≠ q := (fun y e => by rcases hat4 with h | ⟨z, h, hz⟩; exact H3.out.2.2.2 y (h ▸ e); rw [h] at e; injection e with e; have := H3.out.2.2.1.lt; omega); have H4 := Lib.hid (And.intro hrow4 (And.intro hcb4 (And.intro (H3.out.2.1.trans (hk4.to_below (fun k _ e => hB4 k e) hB3)) hoq4))); clear hrow4 hk4 hB4 hat4 hcb4 hoq4)
                  go_roundw
                  case rel => exact ⟨t + 1, x, by omega, by go_num, by rw [HMT.out, ← List.append_assoc]; exact H4.out.1, H4.out.2.1, H4.out.2.2.1, H4.out.2.2.2⟩
                  case measure => simp [intOf]; omega
                · obtain rfl : t = n := by omega
                  have hd5 : decide ((t : Int) < (t : Int)) = false := decide_eq_false (by omega)
                  have htk : ks.take t = ks := List.take_of_length_le (by rw [← HNN.out]; exact Nat.le_refl _)
                  rw [htk] at hrow
                  clear hcb hoq htk r
                  go_wp2_with fail
                  go_roundw
                  case rel => exact ⟨k + 1, by omega, by go_num, by rw [HT.out, HO.out]; exact hrow.out, hnx.out⟩
                  case measure => simp [intOf]; omega
            · go_wp2_with fail
              clear r0 r1 r12
              go_loopw [3, 9] (fun v i wx => ∃ (t : Nat) (K : List UInt8), t ≤ n ∧ i = .int .i64 t ∧ Hid (wx.ownsRow B 33 7 v (base ++ (ks.take t).map (withKey cl)).length (rowsC (base ++ (ks.take t).map (withKey cl)))) ∧ Hid (Cb wx q (callC (withKey cl K))) ∧ Hid (Below B W1 wx) ∧ Hid (∀ x, v.ownBlock = some x → x ≠ q)) (fun _ i _ => n - (intOf i).toNat)
              case atStart => exact ⟨0, cl.key, by omega, rfl, by simp only [List.take_zero, List.map_nil, List.append_nil]; exact HROW.out, HCB.out, HNX.out, HOQ.out⟩
              case round =>
                obtain ⟨t, K, ht, rfl, hrow, hcb, hnx, hoq⟩ := hrel
                have r := HCE.out wr hnx.out
                have r1 := r 1 _ rfl
                simp only [← HNN.out] at r1
                by_cases htl : t < n
                · obtain ⟨x, hxt⟩ : ∃ x, ks[t]? = some x := ⟨_, List.getElem?_eq_getElem (by rw [← HNN.out]; exact htl)⟩
                  obtain ⟨g2, rfl, hg2, hc2⟩ := HKX.out t x hxt
                  have cx := (hnx.out.cell (p := ⟨g2, t, none⟩) (by rw [← hBs]; exact hg2)).trans hc2
                  have c1 := hcb.out.at_ 1 _ rfl
                  have f1 := hcb.out.fz 1 (by show 1 < 7; decide)
                  have hBr : B ≤ wr.heap.size := by have := hnx.out.size; omega
                  have hk3 : Keeps (fun j => j = q) wr (wr.setCell ⟨q, 1, none⟩ (.string ⟨x.toArray⟩)) := Keeps.setCell (S := fun j => j = q) (Keeps.refl _ _) (p := ⟨q, 1, none⟩) (.inl rfl) _
                  have hcb3 : Cb (wr.setCell ⟨q, 1, none⟩ (.string ⟨x.toArray⟩)) q (callC (withKey cl x)) := hcb.out.set 1 (.string ⟨x.toArray⟩) (by show 1 < 7; decide) rfl
                  have hrow3 := Keeps.ownsRow hrow.out hk3 (fun y e n => hoq.out y e n)
                  have hnx3 : Below B W1 (wr.setCell ⟨q, 1, none⟩ (.string ⟨x.toArray⟩)) := hnx.out.setCell hqB _
                  have hB3 : B ≤ (wr.setCell ⟨q, 1, none⟩ (.string ⟨x.toArray⟩)).heap.size := by simpa [World.setCell] using hBr
                  have H3 := Lib.hid (And.intro hrow3 (And.intro hnx3 (And.intro hcb3 hoq.out)))
                  have HMT := Lib.hid (map_take_snoc (withKey cl) hxt)
                  have hlen : (base ++ (ks.take t).map (withKey cl)).length ≤ 1000000 := by rw [List.length_append, List.length_map, List.length_take]; omega
                  have htn : (t : Int) < (n : Int) := by omega
                  clear hk3 hcb3 hrow3 hnx3 hxt hc2 hg2 hrow hcb hnx hoq r
                  go_upto_region 16 with (fail)
                  generalize wr.setCell _ _ = W3 at *
                  obtain ⟨z0, z1, z2, z3, z4, z5, z6⟩ : W3.cell? ⟨q, 0, none⟩ = some (.int .u8 (cl.verb : Nat)) ∧ W3.cell? ⟨q, 1, none⟩ = some (.string ⟨x.toArray⟩) ∧ W3.cell? ⟨q, 2, none⟩ = some (.string ⟨cl.value.toArray⟩) ∧ W3.cell? ⟨q, 3, none⟩ = some (.int .u32 cl.flags) ∧ W3.cell? ⟨q, 4, none⟩ = some (.int .i64 cl.exp) ∧ W3.cell? ⟨q, 5, none⟩ = some (.int .u64 cl.id) ∧ W3.cell? ⟨q, 6, none⟩ = some (.int .u64 cl.by_) := ⟨H3.out.2.2.1.at_ 0 _ rfl, H3.out.2.2.1.at_ 1 _ rfl, H3.out.2.2.1.at_ 2 _ rfl, H3.out.2.2.1.at_ 3 _ rfl, H3.out.2.2.1.at_ 4 _ rfl, H3.out.2.2.1.at_ 5 _ rfl, H3.out.2.2.1.at_ 6 _ rfl⟩
                  clear c1 f1 r1 cx
                  go_wp2_with (at_builtin; refine wpList_append_c1 rfl (.tmp 84) (.tmp 86) rfl B W3 _ _ _ (withKey cl x) rfl H3.out.1 rfl rfl hlen hB3 ?_; intro v' W4 hrow4 hk4 hB4 hat4; have hcb4 := H3.out.2.2.1.keep hk4 (fun e => H3.out.2.2.2 q e rfl); have hoq4 : ∀ y, v'.ownBlock = some y → y ≠ q := (fun y e => by rcases hat4 with h | ⟨z, h, hz⟩; exact H3.out.2.2.2 y (h ▸ e); rw [h] at e; injection e with e; have := H3.out.2.2.1.lt; omega); have H4 := Lib.hid (And.intro hrow4 (And.intro hcb4 (And.intro (H3.out.2.1.trans (hk4.to_below (fun k _ e => hB4 k e) hB3)) hoq4))); clear hrow4 hk4 hB4 hat4 hcb4 hoq4)
                  go_roundw
                  case rel => exact ⟨t + 1, x, by omega, by go_num, by rw [HMT.out, ← List.append_assoc]; exact H4.out.1, H4.out.2.1, H4.out.2.2.1, H4.out.2.2.2⟩
                  case measure => simp [intOf]; omega
                · obtain rfl : t = n := by omega
                  have hd5 : decide ((t : Int) < (t : Int)) = false := decide_eq_false (by omega)
                  have htk : ks.take t = ks := List.take_of_length_le (by rw [← HNN.out]; exact Nat.le_refl _)
                  rw [htk] at hrow
                  clear hcb hoq htk r
                  go_wp2_with fail
                  go_roundw
                  case rel => exact ⟨k + 1, by omega, by go_num, by rw [HT.out, HO.out]; exact hrow.out, hnx.out⟩
                  case measure => simp [intOf]; omega
          · have HO := Lib.hid (show callsO ⟨⟨vb, ks, cv, ky, vl, fl, ex, id, by_, bt, qt⟩, dt, 0⟩ = [{ cl with value := dt }] by unfold callsO; rw [if_pos rfl, callsE_one (by simp only; omega) hg2, hcl]; rfl)
            have e1 : ((vb : Int) != 1) = true := bne_iff_ne.mpr (by omega)
            have e2 : ((vb : Int) != 2) = true := bne_iff_ne.mpr (by omega)
            have e12 : ((vb : Int) == 12) = false := beq_eq_false_iff_ne.mpr (by omega)
            have e13 : ((vb : Int) == 13) = false := beq_eq_false_iff_ne.mpr (by omega)
            have c2 := HCB.out.at_ 2 _ rfl
            have f2 := HCB.out.fz 2 (by show 2 < 7; decide)
            have hk3 : Keeps (fun j => j = q) W2 (W2.setCell ⟨q, 2, none⟩ (.string ⟨dt.toArray⟩)) := Keeps.setCell (S := fun j => j = q) (Keeps.refl _ _) (p := ⟨q, 2, none⟩) (.inl rfl) _
            have hcb3 : Cb (W2.setCell ⟨q, 2, none⟩ (.string ⟨dt.toArray⟩)) q (callC { cl with value := dt }) := HCB.out.set 2 (.string ⟨dt.toArray⟩) (by show 2 < 7; decide) rfl
            have hrow3 := Keeps.ownsRow HROW.out hk3 (fun x e n => HOQ.out x e n)
            have hnx3 : Below B W1 (W2.setCell ⟨q, 2, none⟩ (.string ⟨dt.toArray⟩)) := HNX.out.setCell hqB _
            have hB3 : B ≤ (W2.setCell ⟨q, 2, none⟩ (.string ⟨dt.toArray⟩)).heap.size := by simpa [World.setCell] using hB2
            have H3 := Lib.hid (And.intro hrow3 (And.intro hnx3 hcb3))
            clear hk3 hcb3 hrow3 hnx3 hx hg2 hv1
            go_upto_region 11 with (fail)
            generalize W2.setCell _ _ = W3 at *
            obtain ⟨z0, z1, z2, z3, z4, z5, z6⟩ : W3.cell? ⟨q, 0, none⟩ = some (.int .u8 (cl.verb : Nat)) ∧ W3.cell? ⟨q, 1, none⟩ = some (.string ⟨cl.key.toArray⟩) ∧ W3.cell? ⟨q, 2, none⟩ = some (.string ⟨dt.toArray⟩) ∧ W3.cell? ⟨q, 3, none⟩ = some (.int .u32 cl.flags) ∧ W3.cell? ⟨q, 4, none⟩ = some (.int .i64 cl.exp) ∧ W3.cell? ⟨q, 5, none⟩ = some (.int .u64 cl.id) ∧ W3.cell? ⟨q, 6, none⟩ = some (.int .u64 cl.by_) := ⟨H3.out.2.2.at_ 0 _ rfl, H3.out.2.2.at_ 1 _ rfl, H3.out.2.2.at_ 2 _ rfl, H3.out.2.2.at_ 3 _ rfl, H3.out.2.2.at_ 4 _ rfl, H3.out.2.2.at_ 5 _ rfl, H3.out.2.2.at_ 6 _ rfl⟩
            clear c2 f2 hcl
            go_wp2_with (at_builtin; refine wpList_append_c1 rfl (.tmp 59) (.tmp 61) rfl B W3 _ _ base { cl with value := dt } rfl H3.out.1 rfl rfl (by omega) hB3 ?_; intro v' W4 hrow4 hk4 hB4 hat4; have H4 := Lib.hid (And.intro hrow4 (H3.out.2.1.trans (hk4.to_below (fun k _ e => hB4 k e) hB3))); clear hrow4 hk4 hB4 hat4)
            go_roundw
            case rel => exact ⟨k + 1, by omega, by go_num, by rw [HT.out, HO.out]; exact H4.out.1, H4.out.2⟩
            case measure => simp [intOf]; omega
      · have d0 : ((td : Int) != 0) = true := bne_iff_ne.mpr (by omega)
        have HO := Lib.hid (show callsO ⟨⟨vb, ks, cv, ky, vl, fl, ex, id, by_, bt, qt⟩, dt, td⟩ = [] by unfold callsO; rw [if_neg ht])
        clear ht
        go_wp2_with fail
        go_roundw
        case rel => exact ⟨k + 1, by omega, by go_num, by rw [HT.out, HO.out, List.append_nil]; exact HROW.out, HNX.out⟩
        case measure => simp [intOf]; omega
    · obtain rfl : k = N := by omega
      have hd : decide ((k : Int) < (k : Int)) = false := decide_eq_false (by omega)
      have htk : es.take k = es := List.take_of_length_le (by have := HN.out; omega)
      rw [htk] at hown
      clear htk
      go_wp2_with fail
      go_ret
      exact ⟨_, rfl, ClR.of_row hown.out rfl, HBB.out.2.trans (hnx.out.mono (by have := HBB.out.1; have := HBB.out.2.size; omega))⟩
end Go.Proofs.Yteoeelhljimibaa
