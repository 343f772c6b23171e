/- law05.Same of cells, the program's and the chapter's: whatever words stand. -/
import Derived.Test.YtepkpbhhiianpaaGreatCp
import Derived.Test.YtepkpbhhiianpaaGreatWds
import Derived.Test.YtepkpbhhiianpaaGreatGCl
import Derived.Deep.MidRow
namespace Go.Proofs.YtepkpbhhiianpaaGreat
open Go.RowKit
set_option linter.unusedVariables false

theorem sm_keeps2 {S : Nat → Prop} {a w : World} (h : Keeps S a w) {b : Nat} (hb : S b) (o : Nat) (u0 u1 : Value) : Keeps S a (w.setCells b o [u0, u1]) := by
  have e : w.setCells b o [u0, u1] = (w.setCell ⟨b, o, none⟩ u0).setCell ⟨b, o + 1, none⟩ u1 := by simp [World.setCells]
  rw [e]
  exact (Keeps.setCell h (p := ⟨b, o, none⟩) (.inl hb) u0).setCell (p := ⟨b, o + 1, none⟩) (.inl hb) u1
theorem sm_size : (Tryz.prog.info? 203).map (·.size) = some 2 := by kernel_rfl
theorem sm_there {w : World} {q o : Nat} {u0 u1 : Value} (q0 : w.cell? ⟨q, o, none⟩ = some u0) (q1 : w.cell? ⟨q, o + 1, none⟩ = some u1) (z0 : w.frozen? ⟨q, o, none⟩ = false) (z1 : w.frozen? ⟨q, o + 1, none⟩ = false) : w.there q o 2 := fun j hj => by
  match j, hj with
  | 0, _ => exact ⟨by rw [show (⟨q, o + 0, none⟩ : Addr) = ⟨q, o, none⟩ from rfl, q0]; rfl, z0⟩
  | 1, _ => exact ⟨by rw [show (⟨q, o + 1, none⟩ : Addr) = ⟨q, o + 1, none⟩ from rfl, q1]; rfl, z1⟩
/-- The program's list, as far as it has not been cleared. -/
def QL (w : World) (a1 : Option Addr) (L : List (Int × Int)) (k : Nat) : Prop := ∀ q, a1 = some ⟨q, 0, none⟩ → ∀ i x, k ≤ i → L[i]? = some x → (w.cell? ⟨q, i * 2, none⟩ = some (.int .u64 x.1) ∧ w.frozen? ⟨q, i * 2, none⟩ = false) ∧ w.cell? ⟨q, i * 2 + 1, none⟩ = some (.int .u64 x.2) ∧ w.frozen? ⟨q, i * 2 + 1, none⟩ = false
theorem sm_wl {w : World} {B : Nat} {v : Value} {L : List (Int × Int)} (h : WL w B v L) : ∃ a1, v = .slice a1 L.length L.length ∧ L.length ≤ 9223372036854775807 ∧ (0 < L.length → ∃ q, a1 = some ⟨q, 0, none⟩ ∧ B ≤ q ∧ q < w.heap.size) ∧ QL w a1 L 0 := by
  rcases h with ⟨rfl, a, rfl⟩ | ⟨g, rfl, h1, h2, h3, h4⟩
  · exact ⟨a, rfl, by simp, fun h => by simp at h, fun q _ i x _ hx => by simp at hx⟩
  · unfold maxLen at h3
    refine ⟨_, rfl, by omega, fun _ => ⟨g, rfl, h1, h2⟩, fun q hq i x _ hx => ?_⟩
    injection hq with hq
    injection hq with hq
    subst hq
    exact h4 i x hx
theorem sm_rl {w : World} {v : Value} {L : List (Int × Int)} {T : Nat → Prop} (h : RL w v L T) : ∃ a2 c2, v = .slice a2 L.length c2 ∧ L.length ≤ c2 ∧ (0 < L.length → ∃ g, a2 = some ⟨g, 0, none⟩ ∧ T g ∧ g < w.heap.size ∧ ∀ i x, L[i]? = some x → w.cell? ⟨g, i * 2, none⟩ = some (.int .u64 x.1) ∧ w.cell? ⟨g, i * 2 + 1, none⟩ = some (.int .u64 x.2)) := by
  rcases h with ⟨rfl, rfl⟩ | ⟨g, cap, rfl, h2, h3, h4, h5, h6⟩
  · exact ⟨none, 0, rfl, by simp, fun h => by simp at h⟩
  · exact ⟨_, cap, rfl, h4, fun _ => ⟨g, rfl, h2, h3, h6⟩⟩
theorem sm_other {w : World} {q o i j : Nat} {a b v : Value} (h : w.cell? ⟨q, o, none⟩ = some v) (hi : o ≠ i) (hj : o ≠ j) : ((w.setCell ⟨q, i, none⟩ a).setCell ⟨q, j, none⟩ b).drew.cell? ⟨q, o, none⟩ = some v := by
  show ((w.setCell ⟨q, i, none⟩ a).setCell ⟨q, j, none⟩ b).cell? ⟨q, o, none⟩ = some v
  rw [World.cell?_setCell_other _ _ _ _ (by intro e; injection e with _ e; omega), World.cell?_setCell_other _ _ _ _ (by intro e; injection e with _ e; omega)]
  exact h
theorem sm_frozen {w : World} {q o i j : Nat} {a b : Value} (h : w.frozen? ⟨q, o, none⟩ = false) : ((w.setCell ⟨q, i, none⟩ a).setCell ⟨q, j, none⟩ b).drew.frozen? ⟨q, o, none⟩ = false := by
  show ((w.setCell ⟨q, i, none⟩ a).setCell ⟨q, j, none⟩ b).frozen? ⟨q, o, none⟩ = false
  simpa using h
section
variable {w : World} {p r n : Nat} {f : Int → Int} {cnt k0 a0 x0 y0 : Int} {L : List (Int × Int)} {S T : Nat → Prop}
set_option maxHeartbeats 4000000 in
set_option maxRecDepth 100000 in
theorem same_all (h : CP w p r f cnt k0 a0 x0 y0 L n S T) (hn : n ≤ 100000000) :
    Calls Tryz.prog 70 #[.pointer (some ⟨p, 0, none⟩), .pointer (some ⟨r, 0, none⟩)] w fun e w' => e = .returned (.bool true) ∧ Below w.heap.size w w' := by
  have C1 := Lib.hid (words_any h.c (by omega))
  have HH := Lib.hid h
  clear h
  go_enter Tryz.func70, Tryz.ntmps70
  go_wp2_with (go_at_call 117; ((with_reducible refine C1.out.mono ?_); rintro e w1 ⟨v, L', rfl, hl, hwl, hb⟩))
  obtain rfl : L = L' := HH.out.l.uniq hl
  obtain ⟨a1, rfl, hlen, hq, hql⟩ := sm_wl hwl
  have h1 : CP w1 p r f cnt k0 a0 x0 y0 L n S T := HH.out.new hb
  have h1d : CP w1.drew p r f cnt k0 a0 x0 y0 L n S T := HH.out.new hb.drew
  have C2 := Lib.hid (count_any h1d.c)
  have C3 := Lib.hid (last_any h1d.c)
  obtain ⟨⟨v2, s0, srl⟩, s1, s2, s3, s4, s5, -, -, -⟩ := id h1d.g
  obtain ⟨a2, c2, rfl, hc2, hg⟩ := sm_rl srl
  have H1 := Lib.hid h1
  have HB := Lib.hid hb
  have HQ := Lib.hid hq
  have HQL := Lib.hid hql
  have HG := Lib.hid hg
  clear h1 h1d hb hq hql hwl hl srl hg C1
  go_region_held3 (fun w' => w'.cell? ⟨r, 0, none⟩ = some (.slice a2 L.length c2) ∧ w'.cell? ⟨r, 1, none⟩ = some (.int .i64 cnt) ∧ w'.cell? ⟨r, 2, none⟩ = some (.int .u8 k0) ∧ w'.cell? ⟨r, 3, none⟩ = some (.int .u64 a0) ∧ w'.cell? ⟨r, 4, none⟩ = some (.int .u64 x0) ∧ w'.cell? ⟨r, 5, none⟩ = some (.int .u64 y0))
    (first | exact ⟨by assumption, by assumption, by assumption, by assumption, by assumption, by assumption⟩)
    (first
      | (go_at_call 116; ((with_reducible refine C2.out.mono ?_); rintro e w2 ⟨rfl, rfl⟩))
      | (go_at_call 66; ((with_reducible refine C3.out.mono ?_); rintro e w2 ⟨rfl, hk⟩; (have t0 : w2.cell? ⟨r, 0, none⟩ = some (.slice a2 L.length c2) := (hk.cell (p := ⟨r, 0, none⟩) (World.block_lt_of_cell? _ _ s0)).trans s0); obtain ⟨-, t1, t2, t3, t4, t5, tz, -, -⟩ := Rg.after (w := w1.drew) (show Rg w1.drew r L cnt k0 a0 x0 y0 T from H1.out.g.keep (S := fun _ => False) ((Keeps.refl _ w1).drew) (fun _ _ s => s)) hk; have HK := Lib.hid hk; clear hk tz)))
  have hk1 : Below w1.heap.size w1 w2 := ⟨HK.out.os, HK.out.tape, HK.out.output, HK.out.size, HK.out.block⟩
  have h2 : CP w2 p r f cnt k0 a0 x0 y0 L n S T := H1.out.new hk1
  have hql2 : QL w2 a1 L 0 := fun q hq i x hi hx => by
    obtain ⟨⟨e0, z0⟩, e1, z1⟩ := HQL.out q hq i x hi hx
    have hlt := World.block_lt_of_cell? _ _ e0
    exact ⟨⟨(hk1.cell (p := ⟨q, i * 2, none⟩) hlt).trans e0, (hk1.frozen (p := ⟨q, i * 2, none⟩) hlt).trans z0⟩, (hk1.cell (p := ⟨q, i * 2 + 1, none⟩) hlt).trans e1, (hk1.frozen (p := ⟨q, i * 2 + 1, none⟩) hlt).trans z1⟩
  have hb2 : Below w.heap.size w w2 := HB.out.trans (hk1.mono HB.out.size)
  have hqn : ∀ j, a1 = some ⟨j, 0, none⟩ → 0 < L.length → w.heap.size ≤ j := fun j e hl => by
    obtain ⟨q, e2, h3, _⟩ := HQ.out hl
    rw [e2] at e
    injection e with e
    injection e with e
    omega
  have hgg : 0 < L.length → ∃ g, a2 = some ⟨g, 0, none⟩ ∧ g < w.heap.size ∧ ∀ i x, L[i]? = some x → w2.cell? ⟨g, i * 2, none⟩ = some (.int .u64 x.1) ∧ w2.cell? ⟨g, i * 2 + 1, none⟩ = some (.int .u64 x.2) := fun hl => by
    obtain ⟨g, e1, hT, hlt, hx⟩ := HG.out hl
    refine ⟨g, e1, HH.out.g.lt g hT, fun i x hi => ?_⟩
    obtain ⟨y1, y2⟩ := hx i x hi
    exact ⟨(hk1.cell (p := ⟨g, i * 2, none⟩) hlt).trans y1, (hk1.cell (p := ⟨g, i * 2 + 1, none⟩) hlt).trans y2⟩
  have H2 := Lib.hid h2
  have HQL2 := Lib.hid hql2
  have HB2 := Lib.hid hb2
  have HQN := Lib.hid hqn
  have HGG := Lib.hid hgg
  have HT0 := Lib.hid t0
  clear s0 s1 s2 s3 s4 s5 t1 t2 t3 t4 t5 h2 hk1 hql2 hb2 hqn hgg HG HQL HB H1 HK C2 C3 t0
  go_wp2_with fail
  go_loopw [6] (fun i wr => ∃ (k : Nat), k ≤ L.length ∧ i = .int .i64 k ∧ Keeps (fun j => a1 = some ⟨j, 0, none⟩ ∧ 0 < L.length) w2 wr ∧ QL wr a1 L k) (fun i _ => L.length - (intOf i).toNat)
  case atStart => exact ⟨0, Nat.zero_le _, rfl, Keeps.refl _ _, HQL2.out⟩
  case round =>
    obtain ⟨k, hk, rfl, hkp, hqk⟩ := hrel
    by_cases hlt : k < L.length
    · have hlt' : decide ((k : Int) < (L.length : Int)) = true := decide_eq_true (by omega)
      obtain ⟨q, rfl, hqB, hqlt⟩ := HQ.out (by omega)
      obtain ⟨g, rfl, hgl, hgx⟩ := HGG.out (by omega)
      obtain ⟨z, hz⟩ : ∃ z, L[k]? = some z := ⟨_, List.getElem?_eq_getElem hlt⟩
      obtain ⟨ux, uv, -, hfx⟩ := H2.out.l.at_ z (List.mem_of_getElem? hz)
      have hw2 := HB2.out.size
      have hK : ∀ j, j < w.heap.size → ¬ ((some (⟨q, 0, none⟩ : Addr) = some ⟨j, 0, none⟩) ∧ 0 < L.length) := fun j hj e => by
        have := HQN.out j e.1 e.2; omega
      have hcp : CP wr p r f cnt k0 a0 x0 y0 L n S T := H2.out.keep hkp (fun j s => hK j (HH.out.lt j s)) (fun j s => hK j (HH.out.g.lt j s))
      have C4 := Lib.hid (peek_any (w := wr.drew) (hcp.new ((Below.refl _ _).drew)).c z.1 ux)
      rw [hfx] at C4
      obtain ⟨⟨q0, z0⟩, q1, z1⟩ := hqk q rfl k z (Nat.le_refl _) hz
      obtain ⟨g0', g1'⟩ := hgx k z hz
      have g0 : wr.drew.cell? ⟨g, k * 2, none⟩ = some (.int .u64 z.1) := hkp.cell (p := ⟨g, k * 2, none⟩) (hK g hgl) g0'
      have g1 : wr.drew.cell? ⟨g, k * 2 + 1, none⟩ = some (.int .u64 z.2) := hkp.cell (p := ⟨g, k * 2 + 1, none⟩) (hK g hgl) g1'
      have t0 : wr.drew.cell? ⟨r, 0, none⟩ = some (.slice (some ⟨g, 0, none⟩) L.length c2) := hkp.cell (p := ⟨r, 0, none⟩) (hK r (HH.out.g.lt r HH.out.g.tr)) HT0.out
      replace q0 : wr.drew.cell? ⟨q, k * 2, none⟩ = some (.int .u64 z.1) := q0
      replace q1 : wr.drew.cell? ⟨q, k * 2 + 1, none⟩ = some (.int .u64 z.2) := q1
      have hkc : k < c2 := by omega
      have HQK := Lib.hid hqk
      have HKP := Lib.hid hkp
      have HZ := Lib.hid hz
      have HZ0 := Lib.hid z0
      have HZ1 := Lib.hid z1
      have HKK := Lib.hid hK
      have HZQ := Lib.hid hqB
      clear hcp g0' g1' hgx hkp hqk hz hfx ux uv hgl hqlt hqB hK z0 z1 hw2
      go_wp2_with fail
      go_region_held3 (fun w' => w'.cell? ⟨q, k * 2, none⟩ = some (.int .u64 z.1) ∧ w'.cell? ⟨q, k * 2 + 1, none⟩ = some (.int .u64 z.2) ∧ w'.cell? ⟨g, k * 2, none⟩ = some (.int .u64 z.1) ∧ w'.cell? ⟨g, k * 2 + 1, none⟩ = some (.int .u64 z.2) ∧ w'.cell? ⟨r, 0, none⟩ = some (.slice (some ⟨g, 0, none⟩) L.length c2))
        (first | exact ⟨by assumption, by assumption, by assumption, by assumption, by assumption⟩)
        (first
          | (go_at_call 46; ((with_reducible refine C4.out.mono ?_); rintro e w3 ⟨rfl, rfl⟩)))
      all_goals
        have y0 : wr.frozen? ⟨q, k * 2, none⟩ = false := HZ0.out
        have y1 : wr.frozen? ⟨q, k * 2 + 1, none⟩ = false := HZ1.out
        have x0 : wr.cell? ⟨q, k * 2, none⟩ = some (.int .u64 z.1) := q0
        have x1 : wr.cell? ⟨q, k * 2 + 1, none⟩ = some (.int .u64 z.2) := q1
        have z0 : wr.drew.frozen? ⟨q, k * 2, none⟩ = false := HZ0.out
        have z1 : wr.drew.frozen? ⟨q, k * 2 + 1, none⟩ = false := HZ1.out
        clear g0 g1 t0 C4
        go_wp2_with fail
        go_roundw
        case rel =>
          refine ⟨k + 1, by omega, by go_num, ((HKP.out.setCell (.inl ⟨rfl, by omega⟩) _).setCell (.inl ⟨rfl, by omega⟩) _).drew, fun q' hq' i x hi hx => ?_⟩
          injection hq' with hq'
          injection hq' with hq'
          subst hq'
          obtain ⟨⟨a0, b0⟩, a1, b1⟩ := HQK.out q rfl i x (by omega) hx
          exact ⟨⟨sm_other a0 (by omega) (by omega), sm_frozen b0⟩, sm_other a1 (by omega) (by omega), sm_frozen b1⟩
        case measure => simp [intOf]; omega
    · obtain rfl : k = L.length := by omega
      have hlt' : decide ((L.length : Int) < (L.length : Int)) = false := decide_eq_false (by omega)
      have hfin := hkp.to_below (B := w.heap.size) (fun j _ e => HQN.out j e.1 e.2) HB2.out.size
      have HF := Lib.hid (HB2.out.trans hfin)
      clear hkp hqk hfin
      go_wp2_with fail
      go_ret
      exact ⟨rfl, HF.out⟩
end
end Go.Proofs.YtepkpbhhiianpaaGreat
