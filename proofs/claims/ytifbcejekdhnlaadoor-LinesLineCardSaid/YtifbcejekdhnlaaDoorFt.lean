/- Feeds: the events of some bytes, one by one. -/
import Derived.Test.YtifbcejekdhnlaaDoorFs
import Derived.Shelf.Abstract
import Derived.Shelf.RegionOpen
import Derived.OwnWalkIn
import Derived.TacticsInMore
import Derived.LoopNIn
import Derived.LoopIn
namespace Go.Proofs.YtifbcejekdhnlaaDoor
open Go.RowKit Go.Maps Go.Shelf
set_option linter.unusedVariables false
attribute [local go_sem] Oper.semAt_some

theorem feed_take (s : Fst) (L : List UInt8) (k : Nat) (hk : k < L.length) : feedF s (L.take (k + 1)) = ((stepF (feedF s (L.take k)).1 L[k]).1, (feedF s (L.take k)).2 ++ (stepF (feedF s (L.take k)).1 L[k]).2.toList) := by
  rw [List.take_succ_eq_append_getElem hk, feedF_snoc]
theorem feedF_count : ∀ (s : Fst) (l : List UInt8), (feedF s l).2.length ≤ l.length
  | s, [] => by simp [feedF]
  | s, b :: l => by
    have := feedF_count (stepF s b).1 l
    have e : feedF s (b :: l) = ((feedF (stepF s b).1 l).1, (stepF s b).2.toList ++ (feedF (stepF s b).1 l).2) := rfl
    rw [e]
    have h2 : (stepF s b).2.toList.length ≤ 1 := by cases (stepF s b).2 <;> simp
    simp only [List.length_append, List.length_cons]
    omega
set_option maxHeartbeats 4000000 in
set_option maxRecDepth 100000 in
theorem iterw (E : Env) (hE : E.Ok) (s0 : Fst) (hs0 : FOk s0) (n l D : Nat) (hn : 1 ≤ n) (o1 o2 : Obj) (W : World) (hN : ∀ k, E.N k ↔ k = l ∨ k = D) (h1 : W.heap[l]? = some o1) (h2 : W.heap[D]? = some o2) (h0 : StA E s0 [] W)
    (hY : ∀ y W, StY E y W → W.heap[l]? = some o1 → W.heap[D]? = some o2 → YieldAt Fence.wide (n - 1) Tryd.prog l y.args W fun e W' => e = .returned (.bool true) ∧ StZ E y W' ∧ W'.heap[l]? = some o1 ∧ W'.heap[D]? = some o2) :
    CallsIn Fence.wide n Tryd.prog 90 #[.func (.yield l) #[] #[], .pointer (some ⟨E.bb, 0, none⟩), .pointer (some ⟨E.bf, 0, none⟩)] W fun e W' => (∃ v, e = .returned v) ∧ StA E (feedF s0 E.L).1 (feedF s0 E.L).2 W' ∧ W'.heap[l]? = some o1 ∧ W'.heap[D]? = some o2 := by
  have cb0 : W.cell? ⟨E.bb, 0, none⟩ = some (.slice E.A E.L.length E.c) := by obtain ⟨U, hv, kv, v, ps, h, _⟩ := h0; exact h.cb
  have HY := Lib.hid hY
  have HN := Lib.hid hN
  have H0 := Lib.hid (And.intro h0 (And.intro h1 h2))
  have HE := Lib.hid hE
  have HS := Lib.hid hs0
  have hcap := hE.cap
  have hlen := hE.len
  obtain ⟨m, hm⟩ : ∃ m, E.L.length = m := ⟨_, rfl⟩
  rw [hm] at cb0 hcap hlen
  have HM := Lib.hid hm
  unfold maxLen at hcap
  obtain ⟨hc1, hc2⟩ := hcap
  have hrd0 := hE.rd
  clear hY hN h0 h1 h2 hE hs0 hm
  by_cases hm0 : m = 0
  · have hL : E.L = [] := List.eq_nil_of_length_eq_zero (by rw [HM.out]; exact hm0)
    have HL := Lib.hid hL
    subst hm0
    clear hL hrd0
    refine callsIn_of_wp Tryd.func90 rfl trivial ?_ rfl
    simp only [Tryd.ntmps90, List.size_toArray, List.length_cons, List.length_nil, Nat.reduceAdd, Nat.reduceSub, Array.replicate_succ, Array.replicate_zero, List.push_toArray, List.append_toArray, List.nil_append, List.cons_append]
    gi_wp2
    gi_loopw [10] (fun i wr => i = .int .i64 ((0 : Nat) : Int) ∧ wr = W) (fun i _ => 0)
    case atStart => exact ⟨rfl, rfl⟩
    case round =>
      obtain ⟨rfl, rfl⟩ := hrel
      gi_wp2
      go_end0
      rw [HL.out]
      exact ⟨⟨_, rfl⟩, H0.out⟩
  obtain ⟨g, off, hA, hgw, _⟩ := hrd0 (by rw [HM.out]; omega)
  rw [hA] at cb0
  have HA := Lib.hid hA
  clear hA hrd0
  refine callsIn_of_wp Tryd.func90 rfl trivial ?_ rfl
  simp only [Tryd.ntmps90, List.size_toArray, List.length_cons, List.length_nil, Nat.reduceAdd, Nat.reduceSub, Array.replicate_succ, Array.replicate_zero, List.push_toArray, List.append_toArray, List.nil_append, List.cons_append]
  gi_wp2
  gi_loopw [10] (fun i wr => ∃ k : Nat, k ≤ m ∧ i = .int .i64 k ∧ Hid (StA E (feedF s0 (E.L.take k)).1 (feedF s0 (E.L.take k)).2 wr ∧ wr.heap[l]? = some o1 ∧ wr.heap[D]? = some o2)) (fun i _ => m - (intOf i).toNat)
  case atStart => exact ⟨0, by omega, rfl, H0.out⟩
  case round =>
    obtain ⟨k, hk, rfl, hS⟩ := hrel
    by_cases hlt : k < m
    · have hkL : k < E.L.length := by rw [HM.out]; exact hlt
      obtain ⟨⟨U, hv, kv, v, ps, hU, hps, hNU⟩, hl, hD⟩ := hS.out
      obtain ⟨g', off', hA', hg, hrd⟩ := hU.rd HE.out (by omega)
      rw [HA.out] at hA'
      injection hA' with hA'
      injection hA' with e1 e2
      subst e1 e2
      have cx := hrd k hkL
      have cf := hU.cf
      have hd : decide ((k : Int) < (m : Int)) = true := decide_eq_true (by omega)
      have hfk := feed_take s0 E.L k hkL
      obtain ⟨b, hb⟩ : ∃ b, b = E.L[k] := ⟨_, rfl⟩
      rw [← hb] at cx hfk
      obtain ⟨s, hs⟩ : ∃ s, s = (feedF s0 (E.L.take k)).1 := ⟨_, rfl⟩
      obtain ⟨es, hes⟩ : ∃ es, es = (feedF s0 (E.L.take k)).2 := ⟨_, rfl⟩
      rw [← hs] at hU
      rw [← hes] at hps
      rw [← hs, ← hes] at hfk
      have hsok : FOk s := by rw [hs]; exact HS.out.feed _
      have HT := Lib.hid (takew E.q U s b hv kv wr hU.fd hsok)
      have HU := Lib.hid (And.intro hU (And.intro hps (And.intro hNU (And.intro hl hD))))
      have HF := Lib.hid hfk
      have hesl : es.length ≤ 1048576 := by
        rw [hes]
        have := feedF_count s0 (E.L.take k)
        rw [List.length_take] at this
        omega
      clear hS hU hps hNU hl hD hrd hg hfk hb hs hes hsok hkL
      gi_wp2
      refine ⟨trivial, ?_⟩
      refine CallsIn.mono (callsIn_wide.2 HT.out) ?_
      rintro e w1 ⟨U', hv', kv', ev, kv2, rfl, hev, ht, hfd, hky⟩
      obtain ⟨hU, hps, hNU, hl, hD⟩ := HU.out
      have hU1 := hU.step HE.out ht hfd
      have hNU1 : ∀ k, E.N k → ¬ U' k := fun k hk u => by
        rcases ht.only k u with u | u
        · exact hNU k hk u
        · have hlt : k < wr.heap.size := by
            rcases (HN.out k).1 hk with rfl | rfl
            · exact (Array.getElem?_eq_some_iff.1 hl).1
            · exact (Array.getElem?_eq_some_iff.1 hD).1
          omega
      have hl1 : w1.heap[l]? = some o1 := (ht.keeps.block l (Array.getElem?_eq_some_iff.1 hl).1 (hNU l ((HN.out l).2 (.inl rfl)))).trans hl
      have hD1 : w1.heap[D]? = some o2 := (ht.keeps.block D (Array.getElem?_eq_some_iff.1 hD).1 (hNU D ((HN.out D).2 (.inr rfl)))).trans hD
      obtain ⟨ka, kc, rfl, _⟩ := hky.len
      have cf1 := hU1.cf
      have hn1 := fun o => (World.grownBy_alloc w1 o Option.none)
      have hblk : ∀ o, (w1.alloc o).heap[l]? = some o1 ∧ (w1.alloc o).heap[D]? = some o2 := fun o => ⟨(Below.heap_alloc w1 o l (Array.getElem?_eq_some_iff.1 hl1).1).trans hl1, (Below.heap_alloc w1 o D (Array.getElem?_eq_some_iff.1 hD1).1).trans hD1⟩
      have hst : ∀ o, StU E U' (stepF s b).1 hv' kv' v ps (w1.alloc o) ∧ ∀ kv2 l, KyS w1 U' kv2 l → KyS (w1.alloc o) U' kv2 l := fun o => hU1.firm (Nat.le_refl _) (hn1 o) (fun r e => by simp at e)
      have HST := Lib.hid hst
      have HBL := Lib.hid hblk
      have HKY := Lib.hid hky
      have HNU1 := Lib.hid hNU1
      have HPS := Lib.hid hps
      clear hU hps hNU hl hD hU1 hNU1 hl1 hD1 hn1 hblk hst hky ht hfd HU HT
      cases hr : (stepF s b).2 with
      | none =>
        rw [hr] at hev
        have hev' : ev = Ev.none := by rcases hev with h | h; simp at h; exact h.2
        subst hev'
        have HR := Lib.hid (show feedF s0 (E.L.take (k + 1)) = ((stepF s b).1, es) by rw [HF.out, hr]; simp)
        clear hr hev
        rw [show (Option.isSome (Option.none : Option Ev)) = false from rfl]
        simp only [evC, cmdC, List.cons_append, List.nil_append]
        gi_wp2
        refine ⟨fun _ h => (by cases h), ?_⟩
        gi_wp2
        go_roundw
        case rel => exact ⟨k + 1, by omega, by go_num, by rw [HR.out]; exact ⟨⟨U', hv', kv', v, ps, (HST.out _).1, HPS.out, HNU1.out⟩, HBL.out _⟩⟩
        case measure => simp [intOf]; omega
      | some ev' =>
        rw [hr] at hev
        have hev' : ev' = ev := by rcases hev with h | h; injection h; simp at h
        subst hev'
        have HR := Lib.hid (show feedF s0 (E.L.take (k + 1)) = ((stepF s b).1, es ++ [ev']) by rw [HF.out, hr]; simp)
        clear hr hev
        obtain ⟨s1, hs1⟩ : ∃ s1, s1 = (stepF s b).1 := ⟨_, rfl⟩
        obtain ⟨o, ho⟩ : ∃ o : Obj, o = .cells (evC ev' (.slice ka ev'.cmd.keys.length kc)).toArray 67 := ⟨_, rfl⟩
        have hyy := HY.out ⟨s1, es, ev', .slice ka ev'.cmd.keys.length kc⟩ (w1.alloc o) ⟨U', hv', kv', v, ps, by rw [hs1]; exact (HST.out o).1, HPS.out, (HST.out o).2 _ _ HKY.out, HNU1.out, hesl⟩ (HBL.out o).1 (HBL.out o).2
        rw [ho] at hyy
        obtain ⟨fn, tmps, assign, body, hy, hR⟩ := hyy
        have HRR := Lib.hid hR
        simp only [Yd.args, evC, cmdC, List.cons_append, List.nil_append] at hy
        rw [show (Option.isSome (some ev' : Option Ev)) = true from rfl]
        simp only [evC, cmdC, List.cons_append, List.nil_append]
        gi_wp2
        refine HRR.out.mono ?_
        rintro e w3 ⟨rfl, hz, hl3, hD3⟩
        have HZ := Lib.hid (show StA E (feedF s0 (E.L.take (k + 1))).1 (feedF s0 (E.L.take (k + 1))).2 w3 ∧ w3.heap[l]? = some o1 ∧ w3.heap[D]? = some o2 from ⟨by rw [HR.out, ← hs1]; exact hz, hl3, hD3⟩)
        clear hz hl3 hD3 hy hR hs1 ho
        gi_wp2
        go_roundw
        case rel => exact ⟨k + 1, by omega, by go_num, HZ.out⟩
        case measure => simp [intOf]; omega
    · obtain rfl : k = m := by omega
      have htk : E.L.take k = E.L := List.take_of_length_le (by rw [HM.out]; exact Nat.le_refl _)
      have hd : decide ((k : Int) < (k : Int)) = false := decide_eq_false (by omega)
      rw [htk] at hS
      clear htk
      gi_wp2
      go_end0
      exact ⟨⟨_, rfl⟩, hS.out⟩
end Go.Proofs.YtifbcejekdhnlaaDoor
