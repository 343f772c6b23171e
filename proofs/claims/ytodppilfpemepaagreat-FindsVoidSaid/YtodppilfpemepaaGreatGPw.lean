/- law05.Same of cells, the program's and the chapter's: whatever words stand. -/
import Derived.Test.YtodppilfpemepaaGreatCp
import Derived.Test.YtodppilfpemepaaGreatWds
import Derived.Test.YtodppilfpemepaaGreatGCl
import Derived.Deep.MidRow
import Derived.Test.YtodppilfpemepaaGreatPwS
import Derived.Test.YtodppilfpemepaaGreatRaT
import Derived.Test.YtodppilfpemepaaGreatGNl
import Derived.Test.YtodppilfpemepaaGreatNlA
import Derived.Deep.Cut
import Derived.Test.YtodppilfpemepaaGreatHf
import Derived.Test.YtodppilfpemepaaGreatWs
import Derived.Deep.RegionHeld3
namespace Go.Proofs.YtodppilfpemepaaGreat
open Go.RowKit
set_option linter.unusedVariables false

theorem sm_keeps2 {S : Nat → Prop} {a w : World} (h : Keeps S a w) {b : Nat} (hb : S b) (o : Nat) (u0 u1 : Value) : Keeps S a (w.setCells b o [u0, u1]) := by
  have e : w.setCells b o [u0, u1] = (w.setCell ⟨b, o, none⟩ u0).setCell ⟨b, o + 1, none⟩ u1 := by simp [World.setCells]
  rw [e]
  exact (Keeps.setCell h (p := ⟨b, o, none⟩) (.inl hb) u0).setCell (p := ⟨b, o + 1, none⟩) (.inl hb) u1
theorem sm_size : (Tryz.prog.info? 134).map (·.size) = some 2 := by kernel_rfl
theorem sm_there {w : World} {q o : Nat} {u0 u1 : Value} (q0 : w.cell? ⟨q, o, none⟩ = some u0) (q1 : w.cell? ⟨q, o + 1, none⟩ = some u1) (z0 : w.frozen? ⟨q, o, none⟩ = false) (z1 : w.frozen? ⟨q, o + 1, none⟩ = false) : w.there q o 2 := fun j hj => by
  match j, hj with
  | 0, _ => exact ⟨by rw [show (⟨q, o + 0, none⟩ : Addr) = ⟨q, o, none⟩ from rfl, q0]; rfl, z0⟩
  | 1, _ => exact ⟨by rw [show (⟨q, o + 1, none⟩ : Addr) = ⟨q, o + 1, none⟩ from rfl, q1]; rfl, z1⟩
/-- The program's list, as far as it has not been cleared. -/
def QL (w : World) (a1 : Option Addr) (L : List (Int × Int)) (k : Nat) : Prop := ∀ q, a1 = some ⟨q, 0, none⟩ → ∀ i x, k ≤ i → L[i]? = some x → (w.cell? ⟨q, i * 2, none⟩ = some (.int .u64 x.1) ∧ w.frozen? ⟨q, i * 2, none⟩ = false) ∧ w.cell? ⟨q, i * 2 + 1, none⟩ = some (.int .u64 x.2) ∧ w.frozen? ⟨q, i * 2 + 1, none⟩ = false
theorem sm_wl {w : World} {B : Nat} {v : Value} {L : List (Int × Int)} (h : WL w B v L) : ∃ a1, v = .slice a1 L.length L.length ∧ L.length ≤ 9223372036854775807 ∧ (0 < L.length → ∃ q, a1 = some ⟨q, 0, none⟩ ∧ B ≤ q ∧ q < w.heap.size) ∧ QL w a1 L 0 := by
  rcases h with ⟨rfl, a, rfl⟩ | ⟨g, rfl, h1, h2, h3, h4⟩
  · exact ⟨a, rfl, by simp, fun h => by simp at h, fun q _ i x _ hx => by simp at hx⟩
  · unfold maxLen at h3
    refine ⟨_, rfl, by omega, fun _ => ⟨g, rfl, h1, h2⟩, fun q hq i x _ hx => ?_⟩
    injection hq with hq
    injection hq with hq
    subst hq
    exact h4 i x hx
theorem sm_rl {w : World} {v : Value} {L : List (Int × Int)} {T : Nat → Prop} (h : RL w v L T) : ∃ a2 c2, v = .slice a2 L.length c2 ∧ L.length ≤ c2 ∧ (0 < L.length → ∃ g, a2 = some ⟨g, 0, none⟩ ∧ T g ∧ g < w.heap.size ∧ ∀ i x, L[i]? = some x → w.cell? ⟨g, i * 2, none⟩ = some (.int .u64 x.1) ∧ w.cell? ⟨g, i * 2 + 1, none⟩ = some (.int .u64 x.2)) := by
  rcases h with ⟨rfl, rfl⟩ | ⟨g, cap, rfl, h2, h3, h4, h5, h6⟩
  · exact ⟨none, 0, rfl, by simp, fun h => by simp at h⟩
  · exact ⟨_, cap, rfl, h4, fun _ => ⟨g, rfl, h2, h3, h6⟩⟩
theorem sm_other {w : World} {q o i j : Nat} {a b v : Value} (h : w.cell? ⟨q, o, none⟩ = some v) (hi : o ≠ i) (hj : o ≠ j) : ((w.setCell ⟨q, i, none⟩ a).setCell ⟨q, j, none⟩ b).drew.cell? ⟨q, o, none⟩ = some v := by
  show ((w.setCell ⟨q, i, none⟩ a).setCell ⟨q, j, none⟩ b).cell? ⟨q, o, none⟩ = some v
  rw [World.cell?_setCell_other _ _ _ _ (by intro e; injection e with _ e; omega), World.cell?_setCell_other _ _ _ _ (by intro e; injection e with _ e; omega)]
  exact h
theorem sm_frozen {w : World} {q o i j : Nat} {a b : Value} (h : w.frozen? ⟨q, o, none⟩ = false) : ((w.setCell ⟨q, i, none⟩ a).setCell ⟨q, j, none⟩ b).drew.frozen? ⟨q, o, none⟩ = false := by
  show ((w.setCell ⟨q, i, none⟩ a).setCell ⟨q, j, none⟩ b).frozen? ⟨q, o, none⟩ = false
  simpa using h
section
variable {w : World} {p r n : Nat} {f : Int → Int} {cnt k0 a0 x0 y0 : Int} {L : List (Int × Int)} {S T : Nat → Prop}
set_option maxHeartbeats 4000000 in
set_option maxRecDepth 100000 in
theorem same_all (h : CP w p r f cnt k0 a0 x0 y0 L n S T) (hn : n ≤ 100000000) :
    Calls Tryz.prog 32 #[.pointer (some ⟨p, 0, none⟩), .pointer (some ⟨r, 0, none⟩)] w fun e w' => e = .returned (.bool true) ∧ Below w.heap.size w w' := by
  have C1 := Lib.hid (words_any h.c (by omega))
  have HH := Lib.hid h
  clear h
  go_enter Tryz.func32, Tryz.ntmps32
  go_wp2_with (go_at_call 77; ((with_reducible refine C1.out.mono ?_); rintro e w1 ⟨v, L', rfl, hl, hwl, hb⟩))
  obtain rfl : L = L' := HH.out.l.uniq hl
  obtain ⟨a1, rfl, hlen, hq, hql⟩ := sm_wl hwl
  have h1 : CP w1 p r f cnt k0 a0 x0 y0 L n S T := HH.out.new hb
  have h1d : CP w1.drew p r f cnt k0 a0 x0 y0 L n S T := HH.out.new hb.drew
  have C2 := Lib.hid (count_any h1d.c)
  have C3 := Lib.hid (last_any h1d.c)
  obtain ⟨⟨v2, s0, srl⟩, s1, s2, s3, s4, s5, -, -, -⟩ := id h1d.g
  obtain ⟨a2, c2, rfl, hc2, hg⟩ := sm_rl srl
  have H1 := Lib.hid h1
  have HB := Lib.hid hb
  have HQ := Lib.hid hq
  have HQL := Lib.hid hql
  have HG := Lib.hid hg
  clear h1 h1d hb hq hql hwl hl srl hg C1
  go_region_held3 (fun w' => w'.cell? ⟨r, 0, none⟩ = some (.slice a2 L.length c2) ∧ w'.cell? ⟨r, 1, none⟩ = some (.int .i64 cnt) ∧ w'.cell? ⟨r, 2, none⟩ = some (.int .u8 k0) ∧ w'.cell? ⟨r, 3, none⟩ = some (.int .u64 a0) ∧ w'.cell? ⟨r, 4, none⟩ = some (.int .u64 x0) ∧ w'.cell? ⟨r, 5, none⟩ = some (.int .u64 y0))
    (first | exact ⟨by assumption, by assumption, by assumption, by assumption, by assumption, by assumption⟩)
    (first
      | (go_at_call 78; ((with_reducible refine C2.out.mono ?_); rintro e w2 ⟨rfl, rfl⟩))
      | (go_at_call 74; ((with_reducible refine C3.out.mono ?_); rintro e w2 ⟨rfl, hk⟩; (have t0 : w2.cell? ⟨r, 0, none⟩ = some (.slice a2 L.length c2) := (hk.cell (p := ⟨r, 0, none⟩) (World.block_lt_of_cell? _ _ s0)).trans s0); obtain ⟨-, t1, t2, t3, t4, t5, tz, -, -⟩ := Rg.after (w := w1.drew) (show Rg w1.drew r L cnt k0 a0 x0 y0 T from H1.out.g.keep (S := fun _ => False) ((Keeps.refl _ w1).drew) (fun _ _ s => s)) hk; have HK := Lib.hid hk; clear hk tz)))
  have hk1 : Below w1.heap.size w1 w2 := ⟨HK.out.os, HK.out.tape, HK.out.output, HK.out.size, HK.out.block⟩
  have h2 : CP w2 p r f cnt k0 a0 x0 y0 L n S T := H1.out.new hk1
  have hql2 : QL w2 a1 L 0 := fun q hq i x hi hx => by
    obtain ⟨⟨e0, z0⟩, e1, z1⟩ := HQL.out q hq i x hi hx
    have hlt := World.block_lt_of_cell? _ _ e0
    exact ⟨⟨(hk1.cell (p := ⟨q, i * 2, none⟩) hlt).trans e0, (hk1.frozen (p := ⟨q, i * 2, none⟩) hlt).trans z0⟩, (hk1.cell (p := ⟨q, i * 2 + 1, none⟩) hlt).trans e1, (hk1.frozen (p := ⟨q, i * 2 + 1, none⟩) hlt).trans z1⟩
  have hb2 : Below w.heap.size w w2 := HB.out.trans (hk1.mono HB.out.size)
  have hqn : ∀ j, a1 = some ⟨j, 0, none⟩ → 0 < L.length → w.heap.size ≤ j := fun j e hl => by
    obtain ⟨q, e2, h3, _⟩ := HQ.out hl
    rw [e2] at e
    injection e with e
    injection e with e
    omega
  have hgg : 0 < L.length → ∃ g, a2 = some ⟨g, 0, none⟩ ∧ g < w.heap.size ∧ ∀ i x, L[i]? = some x → w2.cell? ⟨g, i * 2, none⟩ = some (.int .u64 x.1) ∧ w2.cell? ⟨g, i * 2 + 1, none⟩ = some (.int .u64 x.2) := fun hl => by
    obtain ⟨g, e1, hT, hlt, hx⟩ := HG.out hl
    refine ⟨g, e1, HH.out.g.lt g hT, fun i x hi => ?_⟩
    obtain ⟨y1, y2⟩ := hx i x hi
    exact ⟨(hk1.cell (p := ⟨g, i * 2, none⟩) hlt).trans y1, (hk1.cell (p := ⟨g, i * 2 + 1, none⟩) hlt).trans y2⟩
  have H2 := Lib.hid h2
  have HQL2 := Lib.hid hql2
  have HB2 := Lib.hid hb2
  have HQN := Lib.hid hqn
  have HGG := Lib.hid hgg
  have HT0 := Lib.hid t0
  clear s0 s1 s2 s3 s4 s5 t1 t2 t3 t4 t5 h2 hk1 hql2 hb2 hqn hgg HG HQL HB H1 HK C2 C3 t0
  go_wp2_with fail
  go_loopw [6] (fun i wr => ∃ (k : Nat), k ≤ L.length ∧ i = .int .i64 k ∧ Keeps (fun j => a1 = some ⟨j, 0, none⟩ ∧ 0 < L.length) w2 wr ∧ QL wr a1 L k) (fun i _ => L.length - (intOf i).toNat)
  case atStart => exact ⟨0, Nat.zero_le _, rfl, Keeps.refl _ _, HQL2.out⟩
  case round =>
    obtain ⟨k, hk, rfl, hkp, hqk⟩ := hrel
    by_cases hlt : k < L.length
    · have hlt' : decide ((k : Int) < (L.length : Int)) = true := decide_eq_true (by omega)
      obtain ⟨q, rfl, hqB, hqlt⟩ := HQ.out (by omega)
      obtain ⟨g, rfl, hgl, hgx⟩ := HGG.out (by omega)
      obtain ⟨z, hz⟩ : ∃ z, L[k]? = some z := ⟨_, List.getElem?_eq_getElem hlt⟩
      obtain ⟨ux, uv, -, hfx⟩ := H2.out.l.at_ z (List.mem_of_getElem? hz)
      have hw2 := HB2.out.size
      have hK : ∀ j, j < w.heap.size → ¬ ((some (⟨q, 0, none⟩ : Addr) = some ⟨j, 0, none⟩) ∧ 0 < L.length) := fun j hj e => by
        have := HQN.out j e.1 e.2; omega
      have hcp : CP wr p r f cnt k0 a0 x0 y0 L n S T := H2.out.keep hkp (fun j s => hK j (HH.out.lt j s)) (fun j s => hK j (HH.out.g.lt j s))
      have C4 := Lib.hid (peek_any (w := wr.drew) (hcp.new ((Below.refl _ _).drew)).c z.1 ux)
      rw [hfx] at C4
      obtain ⟨⟨q0, z0⟩, q1, z1⟩ := hqk q rfl k z (Nat.le_refl _) hz
      obtain ⟨g0', g1'⟩ := hgx k z hz
      have g0 : wr.drew.cell? ⟨g, k * 2, none⟩ = some (.int .u64 z.1) := hkp.cell (p := ⟨g, k * 2, none⟩) (hK g hgl) g0'
      have g1 : wr.drew.cell? ⟨g, k * 2 + 1, none⟩ = some (.int .u64 z.2) := hkp.cell (p := ⟨g, k * 2 + 1, none⟩) (hK g hgl) g1'
      have t0 : wr.drew.cell? ⟨r, 0, none⟩ = some (.slice (some ⟨g, 0, none⟩) L.length c2) := hkp.cell (p := ⟨r, 0, none⟩) (hK r (HH.out.g.lt r HH.out.g.tr)) HT0.out
      replace q0 : wr.drew.cell? ⟨q, k * 2, none⟩ = some (.int .u64 z.1) := q0
      replace q1 : wr.drew.cell? ⟨q, k * 2 + 1, none⟩ = some (.int .u64 z.2) := q1
      have hkc : k < c2 := by omega
      have HQK := Lib.hid hqk
      have HKP := Lib.hid hkp
      have HZ := Lib.hid hz
      have HZ0 := Lib.hid z0
      have HZ1 := Lib.hid z1
      have HKK := Lib.hid hK
      have HZQ := Lib.hid hqB
      clear hcp g0' g1' hgx hkp hqk hz hfx ux uv hgl hqlt hqB hK z0 z1 hw2
      go_wp2_with fail
      go_region_held3 (fun w' => w'.cell? ⟨q, k * 2, none⟩ = some (.int .u64 z.1) ∧ w'.cell? ⟨q, k * 2 + 1, none⟩ = some (.int .u64 z.2) ∧ w'.cell? ⟨g, k * 2, none⟩ = some (.int .u64 z.1) ∧ w'.cell? ⟨g, k * 2 + 1, none⟩ = some (.int .u64 z.2) ∧ w'.cell? ⟨r, 0, none⟩ = some (.slice (some ⟨g, 0, none⟩) L.length c2))
        (first | exact ⟨by assumption, by assumption, by assumption, by assumption, by assumption⟩)
        (first
          | (go_at_call 79; ((with_reducible refine C4.out.mono ?_); rintro e w3 ⟨rfl, rfl⟩)))
      all_goals
        have y0 : wr.frozen? ⟨q, k * 2, none⟩ = false := HZ0.out
        have y1 : wr.frozen? ⟨q, k * 2 + 1, none⟩ = false := HZ1.out
        have x0 : wr.cell? ⟨q, k * 2, none⟩ = some (.int .u64 z.1) := q0
        have x1 : wr.cell? ⟨q, k * 2 + 1, none⟩ = some (.int .u64 z.2) := q1
        have z0 : wr.drew.frozen? ⟨q, k * 2, none⟩ = false := HZ0.out
        have z1 : wr.drew.frozen? ⟨q, k * 2 + 1, none⟩ = false := HZ1.out
        clear g0 g1 t0 C4
        go_wp2_with fail
        go_roundw
        case rel =>
          refine ⟨k + 1, by omega, by go_num, ((HKP.out.setCell (.inl ⟨rfl, by omega⟩) _).setCell (.inl ⟨rfl, by omega⟩) _).drew, fun q' hq' i x hi hx => ?_⟩
          injection hq' with hq'
          injection hq' with hq'
          subst hq'
          obtain ⟨⟨a0, b0⟩, a1, b1⟩ := HQK.out q rfl i x (by omega) hx
          exact ⟨⟨sm_other a0 (by omega) (by omega), sm_frozen b0⟩, sm_other a1 (by omega) (by omega), sm_frozen b1⟩
        case measure => simp [intOf]; omega
    · obtain rfl : k = L.length := by omega
      have hlt' : decide ((L.length : Int) < (L.length : Int)) = false := decide_eq_false (by omega)
      have hfin := hkp.to_below (B := w.heap.size) (fun j _ e => HQN.out j e.1 e.2) HB2.out.size
      have HF := Lib.hid (HB2.out.trans hfin)
      clear hkp hqk hfin
      go_wp2_with fail
      go_ret
      exact ⟨rfl, HF.out⟩
end
end Go.Proofs.YtodppilfpemepaaGreat
/- Next: A pair of worlds without notes: SameAll. -/
namespace Go.Proofs.YtodppilfpemepaaGreat
open Go.RowKit Go.Maps
set_option linter.unusedVariables false
section
variable {w : World} {A R : Ad} {V : Wv} {S T : Nat → Prop}
theorem pw_cells (h : Pw w A R V S T) (hc : V.cnt ≤ 1000000) : Calls Tryz.prog 32 #[.pointer (some ⟨A.pc, 0, none⟩), .pointer (some ⟨R.pc, 0, none⟩)] w fun e w' => e = .returned (.bool true) ∧ Below w.heap.size w w' := by
  obtain ⟨L, n, SC, TC, hcp, hn⟩ := h.cp
  exact same_all hcp (by omega)
theorem pw_notes (h : Pw w A R V S T) (hM : V.M = []) : Calls Tryz.prog 33 #[.pointer (some ⟨A.pn, 0, none⟩)] w fun e w' => ∃ a cap, e = .returned (.slice a 0 cap) ∧ Below w.heap.size w w' := by
  obtain ⟨n, SC, SI, SN, ha⟩ := h.a
  have hnt := ha.nt
  rw [hM] at hnt
  obtain ⟨v, hv⟩ := hnt
  obtain rfl := hv.nil rfl
  refine (allw w A.pn [] ⟨_, hv.c0, hv.f0, World.ownsRow_nil _ _ _ _, fun _ => rfl⟩ (by simp)).mono ?_
  rintro e w' ⟨v, rfl, ⟨_, ⟨rfl, _⟩ | ⟨g, cap, rfl, _⟩⟩, hb⟩
  · exact ⟨_, _, rfl, hb⟩
  · exact ⟨_, _, rfl, hb⟩
theorem pw_ats (h : Pw w A R V S T) (hI : V.I.length ≤ 300) (ref : Int) : ∃ (xk xv : ByteArray) (x2 x3 x4 x5 : Int) (b : Bool),
    (Calls Tryz.prog 35 #[.pointer (some ⟨A.pi, 0, none⟩), .int .i64 ref] w fun e w' => e = .returned (.tuple #[.agg #[.string xk, .string xv, .int .u32 x2, .int .u64 x3, .int .i64 x4, .int .i64 x5], .bool b]) ∧ Below w.heap.size w w') ∧
    (∀ w2, Below w.heap.size w w2 → Calls Tryz.prog 36 #[.pointer (some ⟨R.pi, 0, none⟩), .int .i64 ref] w2 fun e w' => e = .returned (.tuple #[.agg #[.string xk, .string xv, .int .u32 x2, .int .u64 x3, .int .i64 x4, .int .i64 x5], .bool b]) ∧ Below w2.heap.size w2 w') := by
  obtain ⟨xk, xv, x2, x3, x4, x5, b, PA, PB⟩ := at_both V.I hI ref
  refine ⟨xk, xv, x2, x3, x4, x5, b, ?_, fun w2 hb => ?_⟩
  · obtain ⟨n, SC, SI, SN, ha⟩ := h.a
    exact PA ha.it
  · obtain ⟨L, ⟨TC, TI, TN, r⟩, -⟩ := (h.new hb).r
    exact PB r.it
set_option maxHeartbeats 4000000 in
set_option maxRecDepth 100000 in
theorem pw_all (h : Pw w A R V S T) (hM : V.M = []) (hI : V.I.length ≤ 300) (hc : V.cnt ≤ 1000000) :
    Calls Tryz.prog 10 #[.agg #[.pointer (some ⟨A.p, 0, none⟩), .pointer (some ⟨R.p, 0, none⟩)]] w fun e w' => e = .returned (.bool true) ∧ Below w.heap.size w w' := by
  obtain ⟨B, hB⟩ : ∃ B, B = w.heap.size := ⟨_, rfl⟩
  obtain ⟨m, hm⟩ : ∃ m, m = V.I.length := ⟨_, rfl⟩
  have hm3 : m ≤ 300 := by omega
  have HH : Hid (∀ X, Below w.heap.size w X → Pw X A R V S T) := Lib.hid (fun X hb => h.new hb)
  obtain ⟨ga, gc, hf⟩ := pw_facts h
  have HF := Lib.hid hf
  have HM := Lib.hid hM
  have HI := Lib.hid hI
  have HB := Lib.hid hB
  have HMM := Lib.hid hm
  have HML := Lib.hid (show V.M.length = 0 by rw [hM]; rfl)
  clear h hf hM hI hB hm
  go_enter Tryz.func10, Tryz.ntmps10
  go_wp2_with fail
  generalize hW : w.alloc _ = W
  have bW : Below w.heap.size w W := by rw [← hW]; exact (Below.refl _ _).alloc (Nat.le_refl _) _
  have e0 : W.cell? ⟨w.heap.size, 0, none⟩ = some (.pointer (some ⟨A.p, 0, none⟩)) := by rw [← hW]; simp
  have e1 : W.cell? ⟨w.heap.size, 1, none⟩ = some (.pointer (some ⟨R.p, 0, none⟩)) := by rw [← hW]; simp
  rw [show w.heap.size = B from HB.out.symm]
  rw [show w.heap.size = B from HB.out.symm] at e0 e1
  have KEEP : Hid (∀ X, Below W.heap.size W X → (X.cell? ⟨B, 0, none⟩ = some (.pointer (some ⟨A.p, 0, none⟩)) ∧ X.cell? ⟨B, 1, none⟩ = some (.pointer (some ⟨R.p, 0, none⟩)) ∧ X.cell? ⟨A.p, 0, none⟩ = some (.pointer (some ⟨A.pc, 0, none⟩)) ∧ X.cell? ⟨R.p, 0, none⟩ = some (.pointer (some ⟨R.pc, 0, none⟩)) ∧ X.cell? ⟨A.p, 1, none⟩ = some (.pointer (some ⟨A.pi, 0, none⟩)) ∧ X.cell? ⟨R.p, 1, none⟩ = some (.pointer (some ⟨R.pi, 0, none⟩)) ∧ X.cell? ⟨A.p, 2, none⟩ = some (.pointer (some ⟨A.pn, 0, none⟩)) ∧ X.cell? ⟨R.p, 2, none⟩ = some (.pointer (some ⟨R.pn, 0, none⟩)) ∧ X.cell? ⟨R.pn, 0, none⟩ = some (.slice ga 0 gc))) := Lib.hid (fun X hb => by
    obtain ⟨a0, a1, a2, a72, r0, r1, r2, r72, c2, c3, c4, c5, n0, t1, t2⟩ := HF.out X (below_then bW hb)
    rw [HML.out] at n0
    exact ⟨(hb.cell (p := ⟨B, 0, none⟩) (World.block_lt_of_cell? _ _ e0)).trans e0, (hb.cell (p := ⟨B, 1, none⟩) (World.block_lt_of_cell? _ _ e1)).trans e1, a0, r0, a1, r1, a2, r2, n0⟩)
  have PP : Hid (∀ X, Below W.heap.size W X → Pw X A R V S T) := Lib.hid (fun X hb => HH.out X (below_then bW hb))
  have HBW := Lib.hid bW
  have hb0 : Below W.heap.size W W.drew := (Below.refl _ _).drew
  have C1 := Lib.hid (pw_same (PP.out _ hb0) (by rw [HML.out]; decide))
  clear hW bW e0 e1 HH HF
  obtain ⟨f0, f1, f2, f3, f4, f5, f6, f7, f8⟩ := KEEP.out _ hb0
  clear f4 f5 f6 f7 f8
  go_region_held3 (fun w' => w'.cell? ⟨B, 0, none⟩ = some (.pointer (some ⟨A.p, 0, none⟩)) ∧ w'.cell? ⟨B, 1, none⟩ = some (.pointer (some ⟨R.p, 0, none⟩)) ∧ w'.cell? ⟨A.p, 0, none⟩ = some (.pointer (some ⟨A.pc, 0, none⟩)) ∧ w'.cell? ⟨R.p, 0, none⟩ = some (.pointer (some ⟨R.pc, 0, none⟩)))
    (first | exact ⟨by assumption, by assumption, by assumption, by assumption⟩)
    (first
      | (go_at_call 31; ((with_reducible refine C1.out.mono ?_); rintro e w2 ⟨rfl, hk2⟩; have hb2 : Below W.heap.size W w2 := hb0.trans hk2; have C2 := Lib.hid (pw_cells (PP.out _ hb2) hc); clear hk2 f0 f1 f2 f3; obtain ⟨f0, f1, f2, f3, f4, f5, f6, f7, f8⟩ := KEEP.out _ hb2; clear f4 f5 f6 f7 f8))
      | (go_at_call 32; ((with_reducible refine C2.out.mono ?_); rintro e w3 ⟨rfl, hk3⟩; have hb3 : Below W.heap.size W w3 := below_then hb2 hk3; clear hk3 f0 f1 f2 f3; obtain ⟨f0, f1, f2, f3, f4, f5, f6, f7, f8⟩ := KEEP.out _ hb3)))
  have C3 := Lib.hid (pw_notes (PP.out _ hb3) HM.out)
  clear hb0 hb2 f4 f5 C1 C2
  go_wp2_with (go_at_call 33; ((with_reducible refine C3.out.mono ?_); rintro e w4 ⟨al, ac, rfl, hk4⟩; have hb4 : Below W.heap.size W w4 := below_then hb3 hk4; clear hk4 hb3 f0 f1 f2 f3 f6 f7 f8 C3; obtain ⟨f0, f1, f2, f3, f4, f5, f6, f7, f8⟩ := KEEP.out _ hb4))
  go_wp2_with fail
  refine wp_loop_rounds 1 ?_
  rw [rounds_succ]
  go_wp2_with fail
  clear f0 f1 f2 f3 f4 f5 f6 f7 f8
  go_loopw [6] (fun i X => ∃ k : Nat, k ≤ m + 2 ∧ i = .int .i64 k ∧ Below W.heap.size W X) (fun i _ => m + 2 - (intOf i).toNat)
  case atStart => exact ⟨0, Nat.zero_le _, rfl, hb4⟩
  case round =>
    obtain ⟨k, hk, rfl, hb⟩ := hrel
    clear hb4
    have HBX := Lib.hid hb
    have CC := Lib.hid (pw_rcount (PP.out _ hb) (z := m) (by have := HMM.out; omega))
    obtain ⟨f0, f1, f2, f3, f4, f5, f6, f7, f8⟩ := KEEP.out _ hb
    have hw1 : IntKind.i64.wrap ((m : Int) + 1) = (m : Int) + 1 := IntWalk.i64_in _ (by omega)
    by_cases hlt : k ≤ m + 1
    · have hd : decide ((k : Int) ≤ (m : Int) + 1) = true := decide_eq_true (by omega)
      obtain ⟨xk, xv, x2, x3, x4, x5, b, hA1, hB1⟩ := pw_ats (PP.out _ hb) HI.out (k : Int)
      have CA := Lib.hid hA1
      have CB := Lib.hid hB1
      clear hA1 hB1 hb
      go_wp2_with (first
        | (go_at_call 34; ((with_reducible refine CC.out.mono ?_); rintro e w5 ⟨rfl, rfl⟩))
        | (go_at_call 35; ((with_reducible refine CA.out.mono ?_); rintro e w6 ⟨rfl, hk6⟩; have hb6 : Below W.heap.size W w6 := below_then HBX.out hk6; have G := fun o => KEEP.out (w6.alloc o) (hb6.alloc hb6.size o); have g1 := fun o => (G o).2.1; have g5 := fun o => (G o).2.2.2.2.2.1; clear G f0 f1 f2 f3 f4 f5 f6 f7 f8)))
      generalize hX : World.alloc _ _ = X
      have kx : Below wr.heap.size wr X := by rw [← hX]; exact hk6.alloc (by have := hk6.size; omega) _
      have sx : w6.heap.size < X.heap.size := by rw [← hX]; simp
      have e0 : X.cell? ⟨w6.heap.size, 0, none⟩ = some (.string xk) := by rw [← hX]; simp
      have e1 : X.cell? ⟨w6.heap.size, 1, none⟩ = some (.string xv) := by rw [← hX]; simp
      have e2 : X.cell? ⟨w6.heap.size, 2, none⟩ = some (.int .u32 x2) := by rw [← hX]; simp
      have e3 : X.cell? ⟨w6.heap.size, 3, none⟩ = some (.int .u64 x3) := by rw [← hX]; simp
      have e4 : X.cell? ⟨w6.heap.size, 4, none⟩ = some (.int .i64 x4) := by rw [← hX]; simp
      have e5 : X.cell? ⟨w6.heap.size, 5, none⟩ = some (.int .i64 x5) := by rw [← hX]; simp
      clear hX g1 g5 hk6 CA CC
      refine (CB.out _ kx).mono ?_
      rintro e w7 ⟨rfl, k7⟩
      replace e0 := (k7.cell (p := ⟨w6.heap.size, 0, none⟩) sx).trans e0
      replace e1 := (k7.cell (p := ⟨w6.heap.size, 1, none⟩) sx).trans e1
      replace e2 := (k7.cell (p := ⟨w6.heap.size, 2, none⟩) sx).trans e2
      replace e3 := (k7.cell (p := ⟨w6.heap.size, 3, none⟩) sx).trans e3
      replace e4 := (k7.cell (p := ⟨w6.heap.size, 4, none⟩) sx).trans e4
      replace e5 := (k7.cell (p := ⟨w6.heap.size, 5, none⟩) sx).trans e5
      have hb7 := below_then (below_then HBX.out kx) k7
      have s7 : w6.heap.size < w7.heap.size := by have := k7.size; omega
      clear CB k7 kx sx hb6
      go_wp2_with fail
      generalize hY : World.alloc _ _ = Y
      have hbY : Below W.heap.size W Y := by rw [← hY]; exact hb7.alloc hb7.size _
      clear hY
      exact ⟨⟨k + 1, by omega, by go_num, hbY⟩, by simp [intOf]; omega⟩
    · obtain rfl : k = m + 2 := by omega
      have hd : decide (((m + 2 : Nat) : Int) ≤ (m : Int) + 1) = false := decide_eq_false (by omega)
      clear hb
      go_wp2_with (first
        | (go_at_call 34; ((with_reducible refine CC.out.mono ?_); rintro e w5 ⟨rfl, rfl⟩)))
      go_ret
      exact ⟨rfl, below_then HBW.out HBX.out⟩
end
end Go.Proofs.YtodppilfpemepaaGreat
/- Next: A pair of worlds with notes: SameAll. -/
namespace Go.Proofs.YtodppilfpemepaaGreat
open Go.RowKit Go.Maps
set_option linter.unusedVariables false
section
variable {w : World} {A R : Ad} {V : Wv} {S T : Nat → Prop}
theorem rows_len {α : Type} {M : List α} {i : Nat} {x : α} (h : M[i]? = some x) : ∃ hi : i < M.length, M[i] = x := by
  rcases Nat.lt_or_ge i M.length with hi | hi
  · exact ⟨hi, by rw [List.getElem?_eq_getElem hi] at h; injection h⟩
  · rw [List.getElem?_eq_none hi] at h; simp at h
/-- All the notes of the program's list, as they are handed back. -/
theorem pw_notesn (h : Pw w A R V S T) {n : Nat} (hn : n = V.M.length) (h0 : 0 < n) (hM : n ≤ 1000) : Calls Tryz.prog 33 #[.pointer (some ⟨A.pn, 0, none⟩)] w fun e w' => ∃ g cap, e = .returned (.slice (some ⟨g, 0, none⟩) n cap) ∧ n ≤ cap ∧ (∀ X, Below w'.heap.size w' X → ∀ i x, V.M[i]? = some x → ∀ j v, j < 8 → x.cells[j]? = some v → X.cell? ⟨g, i * 8 + j, none⟩ = some v) ∧ Below w.heap.size w w' := by
  subst hn
  obtain ⟨n, SC, SI, SN, ha⟩ := h.a
  refine (allT w A.pn V.M ha.nt (by omega)).mono ?_
  rintro e w' ⟨v, rfl, ⟨hl, ⟨-, e0⟩ | ⟨g, cap, rfl, hB, hg, hnc, hcm, hx⟩⟩, hb⟩
  · omega
  · refine ⟨g, cap, rfl, hnc, fun X hbx i x hi j u hj hu => ?_, hb⟩
    obtain ⟨hi', rfl⟩ := rows_len hi
    have := hx (i * 8 + j) u ((rowsN_at V.M i j hi' hj).trans hu)
    exact (hbx.cell (p := ⟨g, i * 8 + j, none⟩) hg).trans this.1
/-- The chapter's notes, as they lie. -/
theorem pw_rows (h : Pw w A R V S T) {n : Nat} (hn : n = V.M.length) (h0 : 0 < n) : ∃ g cap, n ≤ cap ∧ ∀ X, Below w.heap.size w X → X.cell? ⟨R.pn, 0, none⟩ = some (.slice (some ⟨g, 0, none⟩) n cap) ∧ ∀ i x, V.M[i]? = some x → ∀ j v, j < 8 → x.rcells[j]? = some v → X.cell? ⟨g, i * 8 + j, none⟩ = some v := by
  subst hn
  obtain ⟨L, ⟨TC, TI, TN, r⟩, -⟩ := h.r
  obtain ⟨v, hv⟩ := r.nt
  obtain ⟨hl, ⟨-, e0⟩ | ⟨g, cap, rfl, hB, hg, hnc, hcm, hx⟩⟩ := Lst.of_own hv.row
  · omega
  · have hp := hv.c0
    refine ⟨g, cap, hnc, fun X hb => ⟨(hb.cell (p := ⟨R.pn, 0, none⟩) (World.block_lt_of_cell? _ _ hp)).trans hp, fun i x hi j u hj hu => ?_⟩⟩
    obtain ⟨hi', rfl⟩ := rows_len hi
    have := hx (i * 8 + j) u ((rowsR_at V.M i j hi' hj).trans hu)
    exact (hb.cell (p := ⟨g, i * 8 + j, none⟩) hg).trans this.1
set_option maxHeartbeats 4000000 in
set_option maxRecDepth 100000 in
theorem pw_alln (h : Pw w A R V S T) {n : Nat} (hn : n = V.M.length) (h0 : 0 < n) (hM : n ≤ 1000) (hK : ∀ x, x ∈ V.M → 0 ≤ x.k ∧ x.k ≤ 255) (hI : V.I.length ≤ 300) (hc : V.cnt ≤ 1000000) :
    Calls Tryz.prog 10 #[.agg #[.pointer (some ⟨A.p, 0, none⟩), .pointer (some ⟨R.p, 0, none⟩)]] w fun e w' => e = .returned (.bool true) ∧ Below w.heap.size w w' := by
  obtain ⟨B, hB⟩ : ∃ B, B = w.heap.size := ⟨_, rfl⟩
  obtain ⟨m, hm⟩ : ∃ m, m = V.I.length := ⟨_, rfl⟩
  have hm3 : m ≤ 300 := by omega
  have HH : Hid (∀ X, Below w.heap.size w X → Pw X A R V S T) := Lib.hid (fun X hb => h.new hb)
  obtain ⟨ga, gc, hf⟩ := pw_facts h
  have HF := Lib.hid hf
  obtain ⟨gr, cr, hcr, hrows⟩ := pw_rows h hn h0
  have HRW := Lib.hid hrows
  have HN := Lib.hid (And.intro hn (And.intro h0 (And.intro hM hcr)))
  have HKK := Lib.hid hK
  have HI := Lib.hid hI
  have HB := Lib.hid hB
  have HMM := Lib.hid hm
  clear h hf hM hI hB hm hn h0 hcr hrows hK
  go_enter Tryz.func10, Tryz.ntmps10
  go_wp2_with fail
  generalize hW : w.alloc _ = W
  have bW : Below w.heap.size w W := by rw [← hW]; exact (Below.refl _ _).alloc (Nat.le_refl _) _
  have e0 : W.cell? ⟨w.heap.size, 0, none⟩ = some (.pointer (some ⟨A.p, 0, none⟩)) := by rw [← hW]; simp
  have e1 : W.cell? ⟨w.heap.size, 1, none⟩ = some (.pointer (some ⟨R.p, 0, none⟩)) := by rw [← hW]; simp
  rw [show w.heap.size = B from HB.out.symm]
  rw [show w.heap.size = B from HB.out.symm] at e0 e1
  have KEEP : Hid (∀ X, Below W.heap.size W X → (X.cell? ⟨B, 0, none⟩ = some (.pointer (some ⟨A.p, 0, none⟩)) ∧ X.cell? ⟨B, 1, none⟩ = some (.pointer (some ⟨R.p, 0, none⟩)) ∧ X.cell? ⟨A.p, 0, none⟩ = some (.pointer (some ⟨A.pc, 0, none⟩)) ∧ X.cell? ⟨R.p, 0, none⟩ = some (.pointer (some ⟨R.pc, 0, none⟩)) ∧ X.cell? ⟨A.p, 1, none⟩ = some (.pointer (some ⟨A.pi, 0, none⟩)) ∧ X.cell? ⟨R.p, 1, none⟩ = some (.pointer (some ⟨R.pi, 0, none⟩)) ∧ X.cell? ⟨A.p, 2, none⟩ = some (.pointer (some ⟨A.pn, 0, none⟩)) ∧ X.cell? ⟨R.p, 2, none⟩ = some (.pointer (some ⟨R.pn, 0, none⟩)) ∧ X.cell? ⟨R.pn, 0, none⟩ = some (.slice (some ⟨gr, 0, none⟩) n cr))) := Lib.hid (fun X hb => by
    obtain ⟨a0, a1, a2, a72, r0, r1, r2, r72, c2, c3, c4, c5, n0, t1, t2⟩ := HF.out X (below_then bW hb)
    replace n0 := (HRW.out X (below_then bW hb)).1
    exact ⟨(hb.cell (p := ⟨B, 0, none⟩) (World.block_lt_of_cell? _ _ e0)).trans e0, (hb.cell (p := ⟨B, 1, none⟩) (World.block_lt_of_cell? _ _ e1)).trans e1, a0, r0, a1, r1, a2, r2, n0⟩)
  have PP : Hid (∀ X, Below W.heap.size W X → Pw X A R V S T) := Lib.hid (fun X hb => HH.out X (below_then bW hb))
  have HBW := Lib.hid bW
  have hb0 : Below W.heap.size W W.drew := (Below.refl _ _).drew
  have C1 := Lib.hid (pw_same (PP.out _ hb0) (by rw [← HN.out.1]; have := HN.out.2.2.1; omega))
  clear hW bW e0 e1 HH HF
  obtain ⟨f0, f1, f2, f3, f4, f5, f6, f7, f8⟩ := KEEP.out _ hb0
  clear f4 f5 f6 f7 f8
  go_region_held3 (fun w' => w'.cell? ⟨B, 0, none⟩ = some (.pointer (some ⟨A.p, 0, none⟩)) ∧ w'.cell? ⟨B, 1, none⟩ = some (.pointer (some ⟨R.p, 0, none⟩)) ∧ w'.cell? ⟨A.p, 0, none⟩ = some (.pointer (some ⟨A.pc, 0, none⟩)) ∧ w'.cell? ⟨R.p, 0, none⟩ = some (.pointer (some ⟨R.pc, 0, none⟩)))
    (first | exact ⟨by assumption, by assumption, by assumption, by assumption⟩)
    (first
      | (go_at_call 31; ((with_reducible refine C1.out.mono ?_); rintro e w2 ⟨rfl, hk2⟩; have hb2 : Below W.heap.size W w2 := hb0.trans hk2; have C2 := Lib.hid (pw_cells (PP.out _ hb2) hc); clear hk2 f0 f1 f2 f3; obtain ⟨f0, f1, f2, f3, f4, f5, f6, f7, f8⟩ := KEEP.out _ hb2; clear f4 f5 f6 f7 f8))
      | (go_at_call 32; ((with_reducible refine C2.out.mono ?_); rintro e w3 ⟨rfl, hk3⟩; have hb3 : Below W.heap.size W w3 := below_then hb2 hk3; clear hk3 f0 f1 f2 f3; obtain ⟨f0, f1, f2, f3, f4, f5, f6, f7, f8⟩ := KEEP.out _ hb3)))
  have C3 := Lib.hid (pw_notesn (PP.out _ hb3) HN.out.1 HN.out.2.1 HN.out.2.2.1)
  clear hb0 hb2 f4 f5 C1 C2
  go_wp2_with (go_at_call 33; ((with_reducible refine C3.out.mono ?_); rintro e w4 ⟨g, cap, rfl, hnc, hnl, hk4⟩; have HNC := Lib.hid hnc; have HNL := Lib.hid hnl; clear hnc hnl; have hb4 : Below W.heap.size W w4 := below_then hb3 hk4; clear hk4 hb3 f0 f1 f2 f3 f6 f7 f8 C3; obtain ⟨f0, f1, f2, f3, f4, f5, f6, f7, f8⟩ := KEEP.out _ hb4))
  go_wp2_with fail
  clear f0 f1 f2 f3 f4 f5 f6 f7 f8
  have HB4 := Lib.hid hb4
  clear hb4
  go_loopw [4] (fun i X => ∃ k : Nat, k ≤ n ∧ i = .int .i64 k ∧ Below w4.heap.size w4 X) (fun i _ => n - (intOf i).toNat)
  case atStart => exact ⟨0, Nat.zero_le _, rfl, Below.refl _ _⟩
  case round =>
  obtain ⟨k, hk, rfl, hb⟩ := hrel
  by_cases hlt : k < n
  · have hbw : Below W.heap.size W wr := below_then HB4.out hb
    obtain ⟨f0, f1, f2, f3, f4, f5, f6, f7, f8⟩ := KEEP.out _ hbw
    obtain ⟨⟨s, th, kd, r, b, c, d, v⟩, hx⟩ : ∃ x, V.M[k]? = some x := ⟨_, List.getElem?_eq_getElem (by have := HN.out.1; omega)⟩
    have hkd : 0 ≤ kd ∧ kd ≤ 255 := HKK.out _ (List.mem_of_getElem? hx)
    have hrw := fun j u hj hu => (HRW.out wr (below_then HBW.out hbw)).2 k _ hx j u hj hu
    have d0 : wr.cell? ⟨gr, k * 8, none⟩ = some (.int .i64 s) := hrw 0 _ (by decide) rfl
    have d1 := hrw 1 _ (by decide) rfl
    have d2 := hrw 2 _ (by decide) rfl
    have d3 := hrw 3 _ (by decide) rfl
    have d4 := hrw 4 _ (by decide) rfl
    have d5 := hrw 5 _ (by decide) rfl
    have d6 := hrw 6 _ (by decide) rfl
    have d7 := hrw 7 _ (by decide) rfl
    have hcr : k < cr := by have := HN.out.2.2.2; omega
    have hcp : k < cap := by have := HNC.out; omega
    have j0 : (0 : Int) ≤ (k : Int) := by omega
    have j1 : (k : Int) < (n : Int) := by omega
    have HB := Lib.hid hb
    have HX := Lib.hid hx
    have HKD := Lib.hid hkd
    obtain ⟨Q, hQ⟩ : ∃ Q, Q = wr.heap.size := ⟨_, rfl⟩
    clear hrw hx hb hbw hkd f0 f2 f3 f4 f5 f6
    go_upto_region 10 with (fail)
    generalize hW5 : World.alloc wr _ = W5
    rw [← hQ]
    have hb5 : Below wr.heap.size wr W5 := by rw [← hW5]; exact (Below.refl _ _).alloc (Nat.le_refl _) _
    have q0 : W5.cell? ⟨Q, 0, none⟩ = some (.int .i64 s) := by rw [← hW5, hQ]; simp
    have q1 : W5.cell? ⟨Q, 1, none⟩ = some (.int .i64 th) := by rw [← hW5, hQ]; simp
    have q2 : W5.cell? ⟨Q, 2, none⟩ = some (.int .i64 kd) := by rw [← hW5, hQ]; simp
    have q3 : W5.cell? ⟨Q, 3, none⟩ = some (.int .i64 r) := by rw [← hW5, hQ]; simp
    have q4 : W5.cell? ⟨Q, 4, none⟩ = some (.int .i64 b) := by rw [← hW5, hQ]; simp
    have q5 : W5.cell? ⟨Q, 5, none⟩ = some (.int .i64 c) := by rw [← hW5, hQ]; simp
    have q6 : W5.cell? ⟨Q, 6, none⟩ = some (.int .i64 d) := by rw [← hW5, hQ]; simp
    have q7 : W5.cell? ⟨Q, 7, none⟩ = some (.int .i64 v) := by rw [← hW5, hQ]; simp
    have hnl := fun j u hj hu => HNL.out W5 (below_then HB.out hb5) k _ HX.out j u hj hu
    clear d0 d1 d2 d3 d4 d5 d6 d7 f1 f7 f8
    have d0 : W5.cell? ⟨g, k * 8, none⟩ = some (.int .i64 s) := hnl 0 _ (by decide) rfl
    have d1 := hnl 1 _ (by decide) rfl
    have d2 := hnl 2 _ (by decide) rfl
    have d3 := hnl 3 _ (by decide) rfl
    have d4 := hnl 4 _ (by decide) rfl
    have d5 := hnl 5 _ (by decide) rfl
    have d6 := hnl 6 _ (by decide) rfl
    have d7 := hnl 7 _ (by decide) rfl
    have mk : IntKind.i64.wrap kd = kd := IntWalk.i64_in _ (by have := HKD.out; omega)
    have n0 : (s != s) = false := by simp
    have n1 : (th != th) = false := by simp
    have n2 : (kd != kd) = false := by simp
    have n3 : (r != r) = false := by simp
    have n7 : (v != v) = false := by simp
    have hk1000 : k < 1000 := by have := HN.out.2.2.1; omega
    clear hnl hW5 hQ hcr
    go_quiet (fail)
    clear d0 d1 d2 d3 d4 d5 d6 d7 q0 q1 q2 q3 q4 q5 q6 q7 mk n0 n1 n2 n3 n7
    go_wp2_with fail
    go_roundw
    case rel => exact ⟨k + 1, by omega, by go_num, belowNd (below_then HB.out hb5) _⟩
    case measure => simp [intOf]; omega
  · obtain rfl : n = k := by omega
    have hb4 : Below W.heap.size W wr := below_then HB4.out hb
    clear hb
    go_wp2_with fail
    go_loopw [6] (fun i X => ∃ k : Nat, k ≤ m + 2 ∧ i = .int .i64 k ∧ Below W.heap.size W X) (fun i _ => m + 2 - (intOf i).toNat)
    case atStart => exact ⟨0, Nat.zero_le _, rfl, hb4⟩
    case round =>
      obtain ⟨k, hk, rfl, hb⟩ := hrel
      clear hb4
      have HBX := Lib.hid hb
      have CC := Lib.hid (pw_rcount (PP.out _ hb) (z := m) (by have := HMM.out; omega))
      obtain ⟨f0, f1, f2, f3, f4, f5, f6, f7, f8⟩ := KEEP.out _ hb
      have hw1 : IntKind.i64.wrap ((m : Int) + 1) = (m : Int) + 1 := IntWalk.i64_in _ (by omega)
      by_cases hlt : k ≤ m + 1
      · have hd : decide ((k : Int) ≤ (m : Int) + 1) = true := decide_eq_true (by omega)
        obtain ⟨xk, xv, x2, x3, x4, x5, b, hA1, hB1⟩ := pw_ats (PP.out _ hb) HI.out (k : Int)
        have CA := Lib.hid hA1
        have CB := Lib.hid hB1
        clear hA1 hB1 hb
        go_wp2_with (first
          | (go_at_call 34; ((with_reducible refine CC.out.mono ?_); rintro e w5 ⟨rfl, rfl⟩))
          | (go_at_call 35; ((with_reducible refine CA.out.mono ?_); rintro e w6 ⟨rfl, hk6⟩; have hb6 : Below W.heap.size W w6 := below_then HBX.out hk6; have G := fun o => KEEP.out (w6.alloc o) (hb6.alloc hb6.size o); have g1 := fun o => (G o).2.1; have g5 := fun o => (G o).2.2.2.2.2.1; clear G f0 f1 f2 f3 f4 f5 f6 f7 f8)))
        generalize hX : World.alloc _ _ = X
        have kx : Below wr.heap.size wr X := by rw [← hX]; exact hk6.alloc (by have := hk6.size; omega) _
        have sx : w6.heap.size < X.heap.size := by rw [← hX]; simp
        have e0 : X.cell? ⟨w6.heap.size, 0, none⟩ = some (.string xk) := by rw [← hX]; simp
        have e1 : X.cell? ⟨w6.heap.size, 1, none⟩ = some (.string xv) := by rw [← hX]; simp
        have e2 : X.cell? ⟨w6.heap.size, 2, none⟩ = some (.int .u32 x2) := by rw [← hX]; simp
        have e3 : X.cell? ⟨w6.heap.size, 3, none⟩ = some (.int .u64 x3) := by rw [← hX]; simp
        have e4 : X.cell? ⟨w6.heap.size, 4, none⟩ = some (.int .i64 x4) := by rw [← hX]; simp
        have e5 : X.cell? ⟨w6.heap.size, 5, none⟩ = some (.int .i64 x5) := by rw [← hX]; simp
        clear hX g1 g5 hk6 CA CC
        refine (CB.out _ kx).mono ?_
        rintro e w7 ⟨rfl, k7⟩
        replace e0 := (k7.cell (p := ⟨w6.heap.size, 0, none⟩) sx).trans e0
        replace e1 := (k7.cell (p := ⟨w6.heap.size, 1, none⟩) sx).trans e1
        replace e2 := (k7.cell (p := ⟨w6.heap.size, 2, none⟩) sx).trans e2
        replace e3 := (k7.cell (p := ⟨w6.heap.size, 3, none⟩) sx).trans e3
        replace e4 := (k7.cell (p := ⟨w6.heap.size, 4, none⟩) sx).trans e4
        replace e5 := (k7.cell (p := ⟨w6.heap.size, 5, none⟩) sx).trans e5
        have hb7 := below_then (below_then HBX.out kx) k7
        have s7 : w6.heap.size < w7.heap.size := by have := k7.size; omega
        clear CB k7 kx sx hb6
        go_wp2_with fail
        generalize hY : World.alloc _ _ = Y
        have hbY : Below W.heap.size W Y := by rw [← hY]; exact hb7.alloc hb7.size _
        clear hY
        exact ⟨⟨k + 1, by omega, by go_num, hbY⟩, by simp [intOf]; omega⟩
      · obtain rfl : k = m + 2 := by omega
        have hd : decide (((m + 2 : Nat) : Int) ≤ (m : Int) + 1) = false := decide_eq_false (by omega)
        clear hb
        go_wp2_with (first
          | (go_at_call 34; ((with_reducible refine CC.out.mono ?_); rintro e w5 ⟨rfl, rfl⟩)))
        go_ret
        exact ⟨rfl, below_then HBW.out HBX.out⟩
/-- SameAll, of whatever notes. -/
theorem pw_alla (h : Pw w A R V S T) (hM : V.M.length ≤ 1000) (hK : ∀ x, x ∈ V.M → 0 ≤ x.k ∧ x.k ≤ 255) (hI : V.I.length ≤ 300) (hc : V.cnt ≤ 1000000) :
    Calls Tryz.prog 10 #[.agg #[.pointer (some ⟨A.p, 0, none⟩), .pointer (some ⟨R.p, 0, none⟩)]] w fun e w' => e = .returned (.bool true) ∧ Below w.heap.size w w' := by
  rcases Nat.eq_zero_or_pos V.M.length with e | e
  · exact pw_all h (List.eq_nil_of_length_eq_zero e) hI hc
  · exact pw_alln h rfl e hM hK hI hc
end
end Go.Proofs.YtodppilfpemepaaGreat
/- Next: Both worlds of a pair, each by itself: notes, loads; is it full; an act of chapter 10's law. -/
namespace Go.Proofs.YtodppilfpemepaaGreat
open Go.RowKit Go.Maps
set_option linter.unusedVariables false
section
variable {G : Nat → Prop} {w w' : World} {A R : Ad} {V V2 : Wv} {S T : Nat → Prop}
/-- What is done in the program's world alone. -/
theorem Hf.wpost (h : Hf G w A R V V2) : ∃ S, Wd w A V S ∧ ∀ w' V', WdPost w A V' S w' → Hf G w' A R V' V2 ∧ Kp G w w' := by
  obtain ⟨S, T, L, h1, ⟨r, hl, hn⟩, c, hd, hg, hlt⟩ := h
  have hT : ∀ j, T j → j < w.heap.size := by
    obtain ⟨TC, TI, TN, r⟩ := r
    exact r.lt
  refine ⟨S, h1, fun w' V' ⟨S', t, hw⟩ => ⟨⟨S', T, L, hw, ⟨r.keep t.keeps (fun k s s' => hd k s' s), hl, hn⟩, c, fun j s t' => ?_, fun k g s => ?_, fun k g => Nat.lt_of_lt_of_le (hlt k g) t.keeps.size⟩, t.keeps.mono (fun k _ s g => hg k g (.inl s))⟩⟩
  · rcases t.only j s with s | s
    · exact hd j s t'
    · have := hT j t'; omega
  · rcases s with s | s
    · rcases t.only k s with s | s
      · exact hg k g (.inl s)
      · have := hlt k g; omega
    · exact hg k g (.inr s)
theorem Hf.wload (h : Hf G w A R V V2) (hc : V.cnt < 1000000000) {a : Int} (ha : isU a) :
    Calls Tryz.prog 50 #[.pointer (some ⟨A.pc, 0, none⟩), .int .u64 a] w fun e w' => e = .returned (.int .u64 (V.f a)) ∧ Hf G w' A R (V.acc V.f 1 a (V.f a) (V.f a)) V2 ∧ Kp G w w' := by
  obtain ⟨S, h1, h2⟩ := h.wpost
  exact (Proofs.YtodppilfpemepaaGreat.wload h1 ha hc).mono fun e w' ⟨he, hp⟩ => ⟨he, h2 w' _ hp⟩
theorem Hf.wnote (h : Hf G w A R V V2) (hM : V.M.length ≤ 1048576) (k r b c d v : Int) :
    Calls Tryz.prog 139 #[.pointer (some ⟨A.p, 0, none⟩), .int .u8 k, .int .i64 r, .agg #[.int .i64 b, .int .i64 c, .int .i64 d], .int .i64 v] w fun e w' => e = .returned (.tuple #[]) ∧ Hf G w' A R (V.note (V.cnt, V.h, k, r, b, c, d, v)) V2 ∧ Kp G w w' := by
  obtain ⟨S, h1, h2⟩ := h.wpost
  exact (Proofs.YtodppilfpemepaaGreat.wnote h1 hM k r b c d v).mono fun e w' ⟨he, hp⟩ => ⟨he, h2 w' _ hp⟩
/-- A note more, in the chapter's world. -/
theorem RwAt.note {L : List (Int × Int)} {TC TI TN TN' : Nat → Prop} (h : RwAt w R V L T TC TI TN) (x : Nv) (t : Turn TN TN' w w') (q : Nrs w' R.pn (addL V.M x) TN') : ∃ T', Turn T T' w w' ∧ Rw w' R (V.note x) L T' := by
  have hsz := t.keeps.size
  have hne : ∀ k, TN' k → TN k ∨ w.heap.size ≤ k := fun k s => (t.only k s).imp id (fun h => h.1)
  refine ⟨fun k => T k ∨ TN' k, ⟨t.keeps.mono (fun k _ s => (h.tn k s).1), fun k s => ?_⟩, TC, TI, TN', h.box.keep t.keeps (fun s => (h.tn _ s).2 rfl), h.cel.keep t.keeps (fun k s s' => (h.tc k s).2.2.2 s'), h.it.keep t.keeps (fun k s s' => (h.ti k s).2.2 s'), q, .inl h.here, fun k s => ⟨.inl (h.tc k s).1, (h.tc k s).2.1, (h.tc k s).2.2.1, fun s' => ?_⟩, fun k s => ⟨.inl (h.ti k s).1, (h.ti k s).2.1, fun s' => ?_⟩, fun k s => ?_, fun k s => ?_⟩
  · rcases s with s | s
    · exact .inl s
    · rcases t.only k s with s | s
      · exact .inl (h.tn k s).1
      · exact .inr s
  · rcases hne k s' with s' | s'
    · exact (h.tc k s).2.2.2 s'
    · have := h.lt k (h.tc k s).1; omega
  · rcases hne k s' with s' | s'
    · exact (h.ti k s).2.2 s'
    · have := h.lt k (h.ti k s).1; omega
  · refine ⟨.inr s, ?_⟩
    rcases hne k s with s | s
    · exact (h.tn k s).2
    · intro e
      have := h.box.lt; omega
  · rcases s with s | s
    · have := h.lt k s; omega
    · rcases t.only k s with s | s
      · have := h.lt k (h.tn k s).1; omega
      · exact s.2
end
end Go.Proofs.YtodppilfpemepaaGreat
