/- Scripts: commands as the chapter has them. -/
import Derived.Test.YtcmogfdbjppdeaaScRd
import Derived.Test.YtcmogfdbjppdeaaScFeed
import Derived.BigRegion
import Derived.Deep.RegionHeld
import Derived.Deep.RegionLaw
import Derived.IntWalk
namespace Go.Proofs.Ytcmogfdbjppdeaa
open Go.RowKit
set_option linter.unusedVariables false

theorem info_ocmd : (Try.prog.info? 42).map (fun i => (i.zero, i.size, i.bytes)) = some (some (.agg #[.int .i64 0, .int .i64 0, .slice none 0 0]), 3, 40) := by kernel_rfl
theorem other_none (A : Option Addr) (c : Nat) (w : World) : Calls Try.prog 12 #[.slice A 0 c] w fun e w' => e = .returned (.slice none 0 0) ∧ w = w' := by
  go_enter Try.func12, Try.ntmps12
  go_wp2_with fail
  refine wp_loop_rounds 1 ?_
  rw [rounds_succ]
  go_wp2_with fail
  go_ret
  exact ⟨rfl, rfl⟩
/-- Of the chapter's type. -/
def OCms (w : World) (cs : List Cm) (e : Ending) (w' : World) : Prop := ∃ v, e = .returned v ∧ Cms w' w.heap.size 42 5 .i64 v cs ∧ Below w.heap.size w w'
theorem grown_undrew2 {w w1 : World} {row : Option Nat} (h : w.drew.grownBy w1 row) : w.grownBy w1 row := ⟨h.os, h.tape, h.output, h.size, h.block⟩
theorem other_mid {w wr w1 : World} {B n : Nat} {v v1 : Value} {cs : List Cm} {vs : List Value} {bs : List UInt8} {xs : List Value} (hsB : B ≤ wr.heap.size) (hnx : Below B w wr) (ho : OwnAll wr B 5 cs vs) (hown : wr.ownsRow B 42 3 v n xs) (h1 : w1.ownsRow wr.heap.size 5 1 v1 ([] ++ bs).length (byv ([] ++ bs))) (hg : wr.drew.grownBy w1 (Value.slice none 0 0).ownBlock) (hz : v1 = .slice none 0 0 ↔ Value.slice none 0 0 = .slice none 0 0 ∧ bs = []) :
    ∃ a1 c1, v1 = .slice a1 bs.length c1 ∧ OwnAll w1 B 5 cs vs ∧ w1.ownsRow B 42 3 v n xs ∧ Own w1 B 5 v1 bs ∧ Below B w w1 ∧ B ≤ w1.heap.size ∧ Below wr.heap.size wr w1 := by
  rw [List.nil_append] at h1
  have hb : Below wr.heap.size wr w1 := (Below.refl _ _).grown (grown_undrew2 hg) (Nat.le_refl _) (by simp [Value.ownBlock])
  obtain ⟨_, _, _, _, _, _, _, hO⟩ := Own.of_row h1 (fun e => hz.2 ⟨rfl, e⟩)
  obtain ⟨a1, c1, hv1, _⟩ := hO.rd
  exact ⟨a1, c1, hv1, ho.map fun v l h => h.below hb, Keeps.ownsRow (S := fun _ => False) hown (Keeps.of_new hb) (fun g hg => id), hO.mono hsB, hnx.trans (hb.mono hsB), Nat.le_trans hsB hb.size, hb⟩
theorem other_end {w w1 w2 : World} {B k g cap : Nat} {v v1 : Value} {cs cs' : List Cm} {vs : List Value} {x : Cm} {o : Obj} (hS : cs' = cs ++ [x]) (hl : cs.length = k) (hnx : Below B w w1) (hB : B ≤ w1.heap.size) (ho : OwnAll w1 B 5 cs vs) (hown : w1.ownsRow B 42 3 v k (rows3 .i64 cs vs)) (hu : Own w1 B 5 v1 x.2.2) (hown' : w2.ownsRow B 42 3 (.slice (some ⟨g, 0, none⟩) (k + 1) cap) (k + 1) (rows3 .i64 cs vs ++ cells3 .i64 x v1)) (hg : (w1.alloc o).grownBy w2 v.ownBlock) :
    Mk w2 B 42 5 .i64 (.slice (some ⟨g, 0, none⟩) (k + 1) cap) cs' ∧ Below B w w2 := by
  subst hS hl
  have hn : Below w1.heap.size w1 (w1.alloc o) := (Below.refl _ _).alloc (Nat.le_refl _) o
  have hown0 : (w1.alloc o).ownsRow B 42 3 v cs.length (rows3 .i64 cs vs) := hown.alloc _
  have hb : Below B (w1.alloc o) w2 := (Below.refl _ _).grown hg (by simp; omega) (fun k hk => (hown.lt k hk).1)
  exact ⟨Mk.snoc (w0 := w) (by decide) (ho.map fun v l h => h.below hn) (hu.below hn) hown0 hown' hg (by simp), hnx.trans ((hn.mono hB).trans hb)⟩
theorem news3o {W : World} {x y z : Value} {t : TypeId} {j : Nat} {u : Value} (hj : [x, y, z][j]? = some u) : (W.alloc (.cells #[x, y, z] t)).cell? ((⟨W.heap.size, 0, none⟩ : Addr).add j) = some u :=
  World.news_of_block (B := W.heap.size) (cs := #[x, y, z]) (t := t) (fr := (0, 0)) (by show (W.heap.push _)[W.heap.size]? = _; simp) j u hj
set_option maxHeartbeats 4000000 in
set_option maxRecDepth 100000 in
theorem other_some (g off c : Nat) (cs : List Cm) (w : World) (hn : cs.length ≤ 1048576) (hbl : ∀ x ∈ cs, x.2.2.length ≤ 1048576) (hkd : ∀ x ∈ cs, 0 ≤ x.1 ∧ x.1 ≤ 255) (hc : cs.length ≤ c) (hcm : c ≤ maxLen) (h : RdC w w.heap.size .u8 (some ⟨g, off, none⟩) cs) :
    Calls Try.prog 12 #[.slice (some ⟨g, off, none⟩) cs.length c] w (OCms w cs) := by
  obtain ⟨i0, hi, hz0, hz1, hz2⟩ := info_parts info_ocmd
  unfold maxLen at hcm
  obtain ⟨n, hnn⟩ : ∃ n, n = cs.length := ⟨_, rfl⟩
  obtain ⟨B, hB⟩ : ∃ B, B = w.heap.size := ⟨_, rfl⟩
  have HA := Lib.hid (fun i x hx => h.at_ i x hx)
  have HBL := Lib.hid hbl
  have HK := Lib.hid hkd
  rw [← hnn] at hn hc ⊢
  have HN := Lib.hid hnn
  have HB := Lib.hid hB
  clear h hnn hbl hkd hB
  go_enter Try.func12, Try.ntmps12
  go_wp2_with fail
  go_loopw [3, 4] (fun v i wr => ∃ k : Nat, k ≤ n ∧ i = .int .i64 k ∧ Mk wr B 42 5 .i64 v (cs.take k) ∧ Below B w wr) (fun _ i _ => n - (intOf i).toNat)
  case atStart => exact ⟨0, by omega, rfl, Mk.nil _ _ _ _ _, Below.refl _ _⟩
  case round =>
    obtain ⟨k, hk, rfl, hmk, hnx⟩ := hrel
    by_cases hlt : k < n
    · obtain ⟨x, hx⟩ : ∃ x, cs[k]? = some x := ⟨_, List.getElem?_eq_getElem (by have := HN.out; omega)⟩
      obtain ⟨g1, a0, a1, ab, cb, a2, l1, l2, r1, r2⟩ := (HA.out k x hx).keep (fun q o hq => hnx.cell (p := ⟨q, o, none⟩) (by rw [HB.out]; exact hq))
      obtain ⟨kk0, kk1⟩ := HK.out x (List.mem_of_getElem? hx)
      have hbs := HBL.out x (List.mem_of_getElem? hx)
      have hwr : IntKind.i64.wrap x.1 = x.1 := IntWalk.i64_in _ (by omega)
      have HS : Hid (cs.take (k + 1) = cs.take k ++ [x]) := by
        show _ = _
        rw [List.take_add_one, hx]; rfl
      have htl : (cs.take k).length = k := by have := HN.out; simp; omega
      obtain ⟨vs, ho, hown, hnil⟩ := hmk
      obtain ⟨kk, cn, bs⟩ := x
      simp only at a0 a1 a2 hwr kk0 kk1 r1 l1 hbs
      have hs := hnx.size
      have hsB : B ≤ wr.heap.size := by have := HB.out; omega
      have hkM : k < 1048576 := by omega
      have hgl : g < wr.heap.size := by omega
      have HKM := Lib.hid hkM
      have R2 := Lib.hid r2
      have HTL := Lib.hid htl
      rw [htl] at hown
      clear hx hnil htl r2
      go_wp2_with fail
      go_region_law (first
        | (refine step_append_by _ rfl (.const (.slice none 0 0)) (.tmp 27) 22 rfl wr.heap.size 5 Try.underlying22 info_u8 (.slice none 0 0) [] rfl (World.ownsRow_nil _ _ _ _) w.heap.size ab bs cb (by first | rfl | (simp [Act.eval]; done)) (r1 : Rd wr.drew _ _ _) R2.out (by simp; omega) (Nat.le_refl _) ?_; intro v1 w1 hown1 hgrow1 hnil1; obtain ⟨av, cv, rfl, m1, m2, m3, m4, m5, m6⟩ := other_mid hsB hnx ho hown hown1 hgrow1 hnil1; have z0 := box_cell m6 hgl a0; have z1 := box_cell m6 hgl a1; have z2 := box_cell m6 hgl a2)
        | (refine step_append_lies _ rfl (.tmp 11) (.tmp 30) 24 rfl B 42 i0 (.agg #[.int .i64 0, .int .i64 0, .slice none 0 0]) 3 40 Try.underlying24 hi hz0 hz1 hz2 rfl (by decide) _ _ _ (by first | rfl | (simp [Act.eval]; done)) (m2.alloc _) ⟨w1.heap.size, 0, none⟩ 1 1 (cells3 .i64 (kk, cn, bs) (.slice av bs.length cv)) (by first | rfl | (simp [Act.eval]; done)) rfl (by intro j u hj; exact news3o hj) (cells3_one (own_one m3)) (by decide) (by unfold maxLen; omega) (by omega) (by simp; omega) _ rfl ?_; intro g2 cap2 w2 hown2 hgrow2 hg2 hlt2))
      all_goals
        obtain ⟨R1, R3⟩ := other_end HS.out HTL.out m4 m5 m1 m2 m3 hown2 hgrow2
        clear hown2 hgrow2 m1 m2 m3 m4 m6
        go_wp2
        go_roundw
        case rel => exact ⟨k + 1, by omega, by go_num, R1, R3⟩
        case measure => simp [intOf]; omega
    · have hE : k = n := by omega
      have htk : cs.take k = cs := List.take_of_length_le (by have := HN.out; omega)
      rw [htk] at hmk
      obtain ⟨a, m, c', hv, hm, hnc, hcm', h0, _, hC⟩ := Mk.form hmk
      have HC := Lib.hid hC
      have hd : decide (k < n) = false := decide_eq_false hlt
      clear hmk hv hC hm hE htk
      go_wp2_with fail
      go_ret
      exact ⟨_, rfl, HB.out ▸ HC.out, HB.out ▸ hnx⟩
end Go.Proofs.Ytcmogfdbjppdeaa
