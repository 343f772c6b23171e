/- Feeds: In. -/
import Derived.Test.YtifbcejekdhnlaaDoorFt
import Derived.Maps.AppendAt
import Derived.Maps.OwnIn
namespace Go.Proofs.YtifbcejekdhnlaaDoor
open Go.RowKit Go.Maps Go.Shelf
set_option linter.unusedVariables false
attribute [local go_sem] Oper.semAt_some

theorem eventsw (q : Nat) (A : Option Addr) (n c : Nat) (w : World) : Calls Tryd.prog 62 #[.pointer (some ⟨q, 0, none⟩), .slice A n c] w fun e w' => e = .returned (.func (.func 90) #[] #[.pointer (some ⟨w.heap.size + 1, 0, none⟩), .pointer (some ⟨w.heap.size, 0, none⟩)]) ∧ (w.alloc (.cells #[.pointer (some ⟨q, 0, none⟩)] 62)).alloc (.cells #[.slice A n c] 46) = w' := by
  go_enter Tryd.func62, Tryd.ntmps62
  go_wp2_with fail
  go_ret
  exact ⟨rfl, rfl⟩
theorem clipe (a : Option Addr) (n c : Nat) (w : World) (hn : n ≤ c) (hc : c ≤ maxLen) (h0 : a = none → n = 0 ∧ c = 0) :
    Calls Tryd.prog 63 #[.slice a n c] w fun e w' => e = .returned (.slice a n n) ∧ w = w' := by
  unfold maxLen at hc
  cases a with
  | none =>
    obtain ⟨rfl, rfl⟩ := h0 rfl
    go_enter Tryd.func63, Tryd.ntmps63
    go_wp2
    go_ret
    exact ⟨rfl, rfl⟩
  | some a =>
    clear h0
    go_enter Tryd.func63, Tryd.ntmps63
    go_wp2
    go_ret
    exact ⟨rfl, rfl⟩
/-- Events that are told: a list of the call's own, with no room behind. -/
structure EvAt (w : World) (U : Nat → Prop) (B : Nat) (v : Value) (ps : List (Ev × Value)) : Prop where
  lst : Lst w B 13 v ps.length (rowsE ps)
  form : ∃ a, v = .slice a ps.length ps.length
  keys : ∀ p ∈ ps, KyS w U p.2 p.1.cmd.keys
  free : ∀ g o n c, v = .slice (some ⟨g, o, none⟩) n c → ¬ U g
/-- What In leaves. -/
def InPost (w : World) (q : Nat) (U0 : Nat → Prop) (r : Fst × List Ev) (e : Ending) (w' : World) : Prop :=
  ∃ U hv kv v ps, e = .returned v ∧ FdAt w' q U r.1 hv kv ∧ Keeps U0 w w' ∧ (∀ k, U k → U0 k ∨ w.heap.size ≤ k) ∧ ps.map Prod.fst = r.2 ∧ EvAt w' U w.heap.size v ps
theorem cb_firm {B b : Nat} {C : List Value} {u : Value} (h0 : C[0]? = some u) : Firm B (fun W => Cb W b C) := by
  intro W W' row h hg hr
  refine h.keep (T := fun k => row = some k) ((Keeps.refl (fun k => row = some k) W).grown hg (fun k e => .inl e)) (fun e => ?_)
  obtain ⟨o, ho, hcc⟩ := cells_of_cell (h.at_ 0 _ h0)
  obtain ⟨_, o', ho', hcc'⟩ := hr b e
  rw [ho'] at ho
  injection ho with ho
  rw [ho, hcc] at hcc'
  simp at hcc'
theorem info_evb : (Tryd.prog.info? 67).map (fun i => (i.zero, i.size, i.bytes)) = some (some zeroEv, 13, 144) := by kernel_rfl
/-- What a round begins with. -/
def StB (E : Env) (q n c : Nat) (A : Option Addr) (y : Yd) (b : Act) (W : World) : Prop :=
  StY E y W ∧ ∃ be, Cb W be (evC y.ev y.kv) ∧ b = { tmps := #[.pointer (some ⟨q, 0, none⟩), .slice A n c, undef, undef, .slice none 0 0, .pointer (some ⟨E.bx, 0, none⟩), .pointer (some ⟨be, 0, none⟩), .pointer (some ⟨q, 0, none⟩), .bool false, .pointer (some ⟨q, 0, none⟩), .slice A n c, .func (.func 90) #[] #[.pointer (some ⟨E.bb, 0, none⟩), .pointer (some ⟨E.bf, 0, none⟩)], .agg (evC y.ev y.kv).toArray, undef, undef, undef, undef, undef, undef], defers := [] }
theorem stB_firm {E : Env} {B : Nat} (hB : E.w0.heap.size ≤ B) (q n c : Nat) (A : Option Addr) (y : Yd) (b : Act) : Firm B (StB E q n c A y b) := by
  rintro W W' row ⟨h, be, hc, e⟩ hg hr
  exact ⟨stY_firm hB y W W' row h hg hr, be, cb_firm (u := .int .u8 y.ev.cmd.verb) rfl W W' row hc hg hr, e⟩
set_option maxHeartbeats 4000000 in
set_option maxRecDepth 100000 in
theorem inw (q : Nat) (U0 : Nat → Prop) (s0 : Fst) (hv kv : Value) (A : Option Addr) (c : Nat) (L : List UInt8) (w : World) (h : FdAt w q U0 s0 hv kv) (hs : FOk s0) (hc : L.length ≤ c ∧ c ≤ maxLen) (hl : L.length ≤ 1048576) (hr : Rd w w.heap.size A L) (hU : ∀ g o, A = some ⟨g, o, none⟩ → 0 < L.length → ¬ U0 g) :
    Calls Tryd.prog 27 #[.pointer (some ⟨q, 0, none⟩), .slice A L.length c] w (InPost w q U0 (feedF s0 L)) := by
  obtain ⟨i0, hi, hz0, hz1, hz2⟩ := info_parts info_evb
  obtain ⟨n, hn⟩ : ∃ n, L.length = n := ⟨_, rfl⟩
  obtain ⟨w3, hw3⟩ : ∃ w3, w3 = ((w.alloc (.cells #[.slice none 0 0] 64)).alloc (.cells #[.pointer (some ⟨q, 0, none⟩)] 62)).alloc (.cells #[.slice A n c] 46) := ⟨_, rfl⟩
  have hsz : w3.heap.size = w.heap.size + 1 + 1 + 1 := by rw [hw3]; simp
  have hb3 : Below w.heap.size w w3 := by rw [hw3]; exact (((Below.refl _ _).alloc (Nat.le_refl _) _).alloc (by simp) _).alloc (by simp; omega) _
  obtain ⟨E, hE⟩ : ∃ E : Env, E = { w0 := w, U0 := U0, q := q, bx := w.heap.size, bb := w.heap.size + 1 + 1, bf := w.heap.size + 1, B := w3.heap.size, A := A, c := c, L := L, N := fun k => k = w3.heap.size + 1 ∨ k = w3.heap.size } := ⟨_, rfl⟩
  have hEo : E.Ok := by
    rw [hE]
    exact ⟨by show w.heap.size ≤ w3.heap.size; omega, ⟨Nat.le_refl _, by show w.heap.size < w3.heap.size; omega⟩, ⟨by show w.heap.size ≤ w.heap.size + 1 + 1; omega, by show w.heap.size + 1 + 1 < w3.heap.size; omega, by show w.heap.size + 1 + 1 ≠ w.heap.size; omega⟩, ⟨by show w.heap.size ≤ w.heap.size + 1; omega, by show w.heap.size + 1 < w3.heap.size; omega, by show w.heap.size + 1 ≠ w.heap.size; omega⟩, hr, hU, hl, hc⟩
  have h0 : StA E s0 [] w3 := by
    have hbx : Cb w3 w.heap.size [.slice none 0 0] := by
      rw [hw3]
      exact ((cb_new (W := w) (C := #[.slice none 0 0]) rfl).new ((Below.refl _ _).alloc (Nat.le_refl _) _)).new ((Below.refl _ _).alloc (Nat.le_refl _) _)
    have hbb : Cb w3 (w.heap.size + 1 + 1) [.slice A n c] := by
      rw [hw3]
      have := cb_new (W := (w.alloc (.cells #[.slice none 0 0] 64)).alloc (.cells #[.pointer (some ⟨q, 0, none⟩)] 62)) (C := #[.slice A n c]) (T := 46) (L := [.slice A n c]) rfl
      rwa [World.size_alloc, World.size_alloc] at this
    have hbf : Cb w3 (w.heap.size + 1) [.pointer (some ⟨q, 0, none⟩)] := by
      rw [hw3]
      have := cb_new (W := w.alloc (.cells #[.slice none 0 0] 64)) (C := #[.pointer (some ⟨q, 0, none⟩)]) (T := 62) (L := [.pointer (some ⟨q, 0, none⟩)]) rfl
      rw [World.size_alloc] at this
      exact this.new ((Below.refl _ _).alloc (Nat.le_refl _) _)
    refine ⟨U0, hv, kv, .slice none 0 0, [], ⟨?_, ?_, World.ownsRow_nil _ _ _ _, fun p hp => by simp at hp, fun g e => by simp [Value.ownBlock] at e, ?_, fun _ => rfl, ?_, fun k u => .inl ?_, ?_, ?_, ?_⟩, rfl, ?_⟩
    · rw [hE]; exact h.new hb3
    · rw [hE]; exact hbx
    · rw [hE]; exact ⟨fun u => by have := h.lt _ u; simp at this, fun u => by have := h.lt _ u; simp at this; omega, fun u => by have := h.lt _ u; simp at this; omega⟩
    · rw [hE]; exact Keeps.of_new hb3
    · rw [hE]; exact u
    · rw [hE]; show w3.cell? ⟨w.heap.size + 1 + 1, 0, none⟩ = some (.slice A L.length c); rw [hn]; exact hbb.at_ 0 _ rfl
    · rw [hE]; exact hbf.at_ 0 _ rfl
    · rw [hE]; exact Nat.le_refl _
    · rw [hE]
      rintro k (rfl | rfl) u
      · have := h.lt _ u; omega
      · have := h.lt _ u; omega
  have hEq : E.q = q := by rw [hE]
  have hEx : E.bx = w.heap.size := by rw [hE]
  have hEb : E.bb = w.heap.size + 1 + 1 := by rw [hE]
  have hEf : E.bf = w.heap.size + 1 := by rw [hE]
  have hEB : E.B = w3.heap.size := by rw [hE]
  have hEw : E.w0 = w := by rw [hE]
  have hEU : E.U0 = U0 := by rw [hE]
  have hEL : E.L = L := by rw [hE]
  have hEN : ∀ k, E.N k ↔ k = w3.heap.size + 1 ∨ k = w3.heap.size := by rw [hE]; exact fun k => Iff.rfl
  have HE := Lib.hid (And.intro hEo (And.intro hEq (And.intro hEx (And.intro hEb (And.intro hEf (And.intro hEB (And.intro hEw (And.intro hEU (And.intro hEL hEN)))))))))
  have H0 := Lib.hid h0
  have HS := Lib.hid hs
  have HW := Lib.hid hw3
  have HSZ := Lib.hid hsz
  clear hEo hEq hEx hEb hEf hEB hEw hEU hEL hEN hE h0 hs hw3 hsz hb3 h hr hU hc hl
  rw [hn]
  clear hn
  have h1 : 1 ≤ 3 := by omega
  refine (callsIn_wide (n := 3)).1 ?_
  refine callsIn_of_wp_marks Tryd.func27 rfl trivial ?_ rfl
  simp only [Tryd.ntmps27, List.size_toArray, List.length_cons, List.length_nil, Nat.reduceAdd, Nat.reduceSub, Array.replicate_succ, Array.replicate_zero, List.push_toArray, List.append_toArray, List.nil_append, List.cons_append]
  gi_wp2
  refine ⟨trivial, ?_⟩
  refine CallsIn.mono (callsIn_wide.2 (eventsw _ _ _ _ _)) ?_
  rintro e w1 ⟨rfl, rfl⟩
  gi_wp2
  rw [show ((w.alloc (Obj.cells #[Value.slice none 0 0] 64)).alloc (Obj.cells #[Value.pointer (some ⟨q, 0, none⟩)] 62)).alloc (Obj.cells #[Value.slice A n c] 46) = w3 from HW.out.symm]
  refine wpIn_range_firm rfl h1 (gf := 90) (lb := #[.pointer (some ⟨w.heap.size + 1 + 1, 0, none⟩), .pointer (some ⟨w.heap.size + 1, 0, none⟩)]) rfl trivial (enters_of Tryd.func90 (by kernel_rfl) rfl) Yd.args (fun _ => rfl)
    (StA E s0 []) (StA E (feedF s0 L).1 (feedF s0 L).2) (StY E) (StZ E) (StB E q n c A) (stA_firm ?b1 _ _) (stA_firm ?b2 _ _) (fun y => stA_firm ?b3 _ _) (fun y b => stB_firm ?b4 _ _ _ _ _ _) H0.out ?iter ?assign ?body ?done
  case b1 => rw [HE.out.2.2.2.2.2.2.1, HSZ.out]; omega
  case b2 => rw [HE.out.2.2.2.2.2.2.1, HSZ.out]; omega
  case b3 => rw [HE.out.2.2.2.2.2.2.1, HSZ.out]; omega
  case b4 => rw [HE.out.2.2.2.2.2.2.1, HSZ.out]; omega
  case iter =>
    obtain ⟨eo, eq, ex, eb, ef, eB, ew, eU, eL, eN⟩ := HE.out
    intro o1 o2 W1 _ _ hl hD _ hJ hY
    have := iterw E eo s0 HS.out 2 (w3.heap.size + 1) w3.heap.size (by omega) o1 o2 W1 eN hl hD hJ hY
    rw [eb, ef, eL] at this
    exact this
  case assign =>
    rintro l ⟨s, es, ev, kv2⟩ W K ⟨U, hv', kv', v, ps, hU, hps, hk2, hN, hes⟩ hK
    obtain ⟨ka, kc, hkv, _⟩ := hk2.len
    simp only at hkv
    subst hkv
    have hfm := hU.firm (Nat.le_refl _) (World.grownBy_alloc W (.cells (evC ev (.slice ka ev.cmd.keys.length kc)).toArray 67) Option.none) (fun r e => by simp at e)
    have hKK := hK { tmps := #[.pointer (some ⟨q, 0, none⟩), .slice A n c, undef, undef, .slice none 0 0, .pointer (some ⟨E.bx, 0, none⟩), .pointer (some ⟨W.heap.size, 0, none⟩), .pointer (some ⟨q, 0, none⟩), .bool false, .pointer (some ⟨q, 0, none⟩), .slice A n c, .func (.func 90) #[] #[.pointer (some ⟨E.bb, 0, none⟩), .pointer (some ⟨E.bf, 0, none⟩)], .agg (evC ev (.slice ka ev.cmd.keys.length kc)).toArray, undef, undef, undef, undef, undef, undef], defers := [] } (W.alloc (.cells (evC ev (.slice ka ev.cmd.keys.length kc)).toArray 67)) (KeepsOthers.alloc _ _) ⟨⟨U, hv', kv', v, ps, hfm.1, hps, hfm.2 _ _ hk2, hN, hes⟩, W.heap.size, cb_new (by simp), rfl⟩
    rw [HE.out.2.2.1, HE.out.2.2.2.1, HE.out.2.2.2.2.1] at hKK
    have HKK := Lib.hid hKK
    clear hKK hK hfm hU
    simp only [Yd.args, evC, cmdC, List.cons_append, List.nil_append] at HKK ⊢
    gi_wp2
    exact HKK.out
  case body =>
    rintro l ⟨s, es, ev, kv2⟩ b W ⟨⟨U, hv', kv', v, ps, hU, hps, hk2, hN, hes⟩, be, hcb, rfl⟩
    obtain ⟨ka, kc, hkv, _⟩ := hk2.len
    simp only at hkv
    subst hkv
    obtain ⟨eo, eq, ex, eb, ef, eB, ew, eU, eL, eN⟩ := HE.out
    have cx := hU.box.at_ 0 _ rfl
    obtain ⟨k0, k1, k2, k3, k4, k5, k6, k7, k8, k9, k10, k11, k12⟩ := ev_cells hcb
    simp only at k0 k1 k2 k3 k4 k5 k6 k7 k8 k9 k10 k11 k12
    simp only at hps hes
    have hpl : ps.length ≤ 1048576 := by
      have : ps.length = es.length := by rw [← hps]; simp
      omega
    have hrow := hU.row
    have hsz := hU.size
    obtain ⟨pl, hpe⟩ : ∃ pl, pl = ps.length := ⟨_, rfl⟩
    rw [← hpe] at hrow hpl
    have HU := Lib.hid (And.intro hU (And.intro hps (And.intro hk2 (And.intro hN hes))))
    have HPE := Lib.hid hpe
    have HEO := Lib.hid eo
    clear hU hps hk2 hN hes hpe eo eq ex eb ef eB ew eU eL eN
    gi_wp2_with (gi_at_builtin; refine wpListIn_append_own_at _ rfl _ _ 64 rfl E.B 67 i0 zeroEv 13 144 Tryd.underlying64 hi hz0 hz1 hz2 rfl (by decide) _ _ _ rfl (hrow.alloc _) ⟨W.heap.size, 0, none⟩ 1 1 (evC ev (.slice ka ev.cmd.keys.length kc)) rfl rfl ?c1 ?c2 ?c3 ?c4 ?c5 ?_)
    case c1 =>
      intro j u hj
      exact hj
    case c2 =>
      intro u hu
      exact Array.all_eq_true_iff_forall_mem.1 (evC_one (e := ev) (kv := .slice ka ev.cmd.keys.length kc) rfl) u (by simpa using hu)
    case c3 => unfold maxLen; omega
    case c4 => omega
    case c5 => omega
    intro v' W1 hown' hgrow _ hat
    obtain ⟨a', n', c', rfl⟩ := own_slice hown'
    obtain rfl : pl = ps.length := HPE.out
    obtain ⟨hp1, hp2, hp3, hp4⟩ := HU.out.1.push (ev := ev) HEO.out HU.out.2.2.1 hown' hgrow (by simpa using hat)
    have HP := Lib.hid (And.intro hp1 hp2)
    clear hown' hgrow hat hp1 hp2 hrow
    gi_wp2
    obtain ⟨hU, hps, hk2, hN, hes⟩ := HU.out
    exact ⟨HP.out.2, ⟨U, hv', kv', _, ps ++ [(ev, .slice ka ev.cmd.keys.length kc)], HP.out.1, by simp [hps], hN⟩⟩
  case done =>
    rintro D W hD ⟨U, hv', kv', v, ps, hU, hps, hN⟩ hK
    obtain ⟨eo, eq, ex, eb, ef, eB, ew, eU, eL, eN⟩ := HE.out
    obtain ⟨a, m, cc, hv, hm, hcc, ha0, L'⟩ := lst_clip hU.row
    have hml : m = ps.length := by
      obtain ⟨a2, c2, e2, _⟩ := row_slice hU.row
      rw [hv] at e2
      injection e2
    subst hml
    have cx := hU.box.at_ 0 _ rfl
    rw [hv, ex] at cx
    have hfm := hU.firm (B := w3.heap.size) (by rw [ew, HSZ.out]; omega) (grownBy_putObj' W D (.deferred none)) (fun r e => by injection e with e; subst e; exact ⟨hD, _, hK, rfl⟩)
    have HF := Lib.hid (And.intro hfm.1 (And.intro hps L'))
    have HA := Lib.hid ha0
    have HK := Lib.hid hK
    have HEE := Lib.hid (And.intro eq (And.intro eB (And.intro ew eU)))
    clear hU hps hN eo eq ex eb ef eB ew eU eL eN L' hfm ha0
    gi_wp2
    refine ⟨trivial, ?_⟩
    refine CallsIn.mono (callsIn_wide.2 (clipe a ps.length cc W hm hcc HA.out)) ?_
    rintro e w2 ⟨rfl, rfl⟩
    gi_wp2
    refine ⟨by simp, .inl ⟨_, _, rfl, run_takeDeferred HK.out, ?_⟩⟩
    refine ⟨_, results_tmp rfl _ _ _, ?_⟩
    obtain ⟨hU, hps, L'⟩ := HF.out
    obtain ⟨eq, eB, ew, eU⟩ := HEE.out
    have hbase := hU.base
    rw [ew, eU] at hbase
    have hgrow := hU.grow
    rw [ew, eU] at hgrow
    have hfd := hU.fd
    rw [eq] at hfd
    have hB := HSZ.out
    obtain ⟨a2, m2, cc2, hv2, hm2, hcc2, ha02, L2⟩ := lst_clip hU.row
    rw [hv] at hv2
    injection hv2 with e1 e2 e3
    subst e1 e2 e3
    refine ⟨U, hv', kv', .slice a ps.length ps.length, ps, rfl, hfd, hbase, hgrow, hps, ⟨L2.mono (by rw [eB, hB]; omega), ⟨a, rfl⟩, hU.keys, fun g o n c e u => ?_⟩⟩
    injection e with e1 e2 e3
    refine hU.own g ?_ u
    rw [hv, e1]
    rfl
end Go.Proofs.YtifbcejekdhnlaaDoor
