/- The law PutsNever. -/
import Derived.Test.YthlebfiedejhhaaPuN
import Derived.Test.YthlebfiedejhhaaOpen
import Derived.Deep.Cut
import Derived.Deep.CutBlock
import Derived.Deep.RegionHeld3
namespace Go.Proofs.Ythlebfiedejhhaa
open Go.RowKit Go.Maps
set_option linter.unusedVariables false
theorem reads_u8s {w : World} {t e : TypeId} {a : Option Addr} {len cap : Nat} (ht : Try.prog.underlying t = some (.slice e)) (hk : leaves Try.prog 9 e = some [.inl .u8]) (hc : Try.prog.cellsOf e = 1) (h : Reads Try.prog w t (.slice a len cap)) :
    ∃ b off, (0 < len → len ≤ cap ∧ a = some ⟨b, off, none⟩) ∧ ∀ i, i < len → ∃ x : Int, (0 ≤ x ∧ x < 256) ∧ w.cell? ⟨b, off + i, none⟩ = some (.int .u8 x) := by
  rcases Reads.slice ht hk h with ⟨_, rfl, _⟩ | ⟨b, off, sp, rfl, h1, h2, h3, h4⟩
  · exact ⟨0, 0, fun h => by omega, fun i hi => by omega⟩
  · refine ⟨b, off, fun h => ⟨h1, by rw [h3 (by omega) (by omega)]⟩, fun i hi => ?_⟩
    obtain ⟨l, hl, hll, hx⟩ := h4 i (by omega)
    obtain ⟨_, _, rfl, ⟨x, rfl, hw⟩, g1⟩ := all2_cons hl
    obtain rfl := all2_nil g1
    rw [hc, Nat.mul_one] at hx
    have := bounds_u8 hw
    exact ⟨x, ⟨this.1, by omega⟩, hx 0 _ rfl⟩
/-- Between two changes. -/
def PnI (G : Nat → Prop) (X : World) (A : Ad) (HB : Nat) (t : Int) (i : Nat) : Prop := ∃ (V : Wv) (hs : Nat → Bool), WdG G X A V ∧ V.cnt ≤ 3 * (i : Int) ∧ (∀ j : Nat, j < 4 → tagf (V.f 4136) j = if hs j then t else 0) ∧ (∀ j : Nat, j < 4 → hs j = true → V.f (4137 + j) ≠ 0) ∧ (∀ j, j < 4 → X.cell? ⟨HB, j, none⟩ = some (.bool (hs j)) ∧ X.frozen? ⟨HB, j, none⟩ = false)
theorem pn_next {o : Bool} {k : Nat} {t ref T : Int} {I : Int → Int} {hs : Nat → Bool} {V : Wv} {tags : Int} (h : NvF o k t ref T I 3 V tags) (hk : k < 4) (hT : isU T) (ht : 1 ≤ t ∧ t ≤ 255) (hr : 1 ≤ ref) (h1 : ∀ j : Nat, j < 4 → tagf T j = if hs j then t else 0) (h2 : ∀ j : Nat, j < 4 → hs j = true → I j ≠ 0) :
    (∀ j : Nat, j < 4 → tagf (V.f 4136) j = if (if j = k then !o else hs j) then t else 0) ∧ (∀ j : Nat, j < 4 → (if j = k then !o else hs j) = true → V.f (4137 + j) ≠ 0) ∧ tagf (V.f 4136) k = (if o then 0 else t) ∧ withf (V.f 4136) k (tagf T k) = T := by
  obtain ⟨f1, f2, f3, -⟩ := h
  simp at f1 f2
  have f1' : V.f 4136 = withf T k (if o then 0 else t) := by rw [f1]; cases o <;> simp
  have hw : ∀ j : Nat, j < 4 → tagf (V.f 4136) j = if (j : Int) = k then (if o then 0 else t) else tagf T j := fun j hj => by
    rw [f1']
    exact tag_with hT ⟨by omega, by omega⟩ (by cases o <;> simp <;> omega) ⟨by omega, by omega⟩
  refine ⟨fun j hj => ?_, fun j hj hh => ?_, ?_, ?_⟩
  · rw [hw j hj]
    by_cases e : j = k
    · subst e
      cases o <;> simp
    · rw [if_neg (by omega), if_neg e]
      exact h1 j hj
  · by_cases e : j = k
    · subst e
      rw [f2]
      rw [if_pos rfl] at hh
      cases o
      · simp; omega
      · simp at hh
    · rw [if_neg e] at hh
      rw [f3 j (by omega) (by omega) (by omega)]
      exact h2 j hj hh
  · rw [hw k hk, if_pos rfl]
  · rw [f1']
    exact with_back hT ⟨by omega, by omega⟩ (by cases o <;> simp <;> omega)
set_option maxHeartbeats 8000000 in
set_option maxRecDepth 100000 in
theorem walk_PutsNever (a0 : Option Addr) (l0 c0 : Nat) (a1 : Int) (w : World) (w0 : Reads Try.prog w 22 (.slice a0 l0 c0)) (w1 : (Lit.int .u8 a1).wf = true) :
    Calls Try.prog 5 #[.slice a0 l0 c0, .int .u8 a1] w fun e w' => e = .returned (.bool true) ∧ Below w.heap.size w w' := by
  obtain ⟨b, off, hp, hl⟩ := reads_u8s (e := 5) Try.underlying22 (by kernel_rfl) (by kernel_rfl) w0
  have h8 := bounds_u8 w1
  obtain ⟨t0, ht0⟩ : ∃ t0 : Int, a1.tmod 255 = t0 := ⟨_, rfl⟩
  have ht : 0 ≤ t0 ∧ t0 ≤ 254 := by rw [Int.tmod_eq_emod_of_nonneg h8.1] at ht0; omega
  have m1 : IntKind.u8.wrap t0 = t0 := IntWalk.u8_in _ (by omega)
  have m2 : IntKind.i64.wrap t0 = t0 := IntWalk.i64_in _ (by omega)
  have m3 : IntKind.i64.wrap (1 + t0) = 1 + t0 := IntWalk.i64_in _ (by omega)
  have MT := Lib.hid (And.intro ht0 (And.intro m1 (And.intro m2 m3)))
  have HT := Lib.hid ht
  have HP := Lib.hid hp
  have HL := Lib.hid hl
  clear w0 w1 hp hl h8 ht0 ht m1 m2 m3
  obtain ⟨G0, hG0⟩ : ∃ G : Nat → Prop, G = fun k => k < w.heap.size := ⟨_, rfl⟩
  have HGG := Lib.hid hG0
  clear hG0
  go_enter Try.func5, Try.ntmps5
  go_wp2_with fail
  refine (world2 _).mono ?_
  rintro e w1 ⟨A, rfl, hW, k1⟩
  have HW := Lib.hid (show WdG G0 w1 A V10 by rw [HGG.out]; exact hW.g k1.size)
  have K1 := Lib.hid k1
  clear hW k1
  by_cases hbig : 60 < l0
  · have d1 : decide (60 < (l0 : Int)) = true := decide_eq_true (by omega)
    go_wp2_with fail
    refine (lives13 _).mono ?_
    rintro e w9 ⟨rfl, hk9⟩
    go_wp2_with fail
    go_ret
    exact ⟨rfl, below_then K1.out hk9⟩
  have d1 : decide (60 < (l0 : Int)) = false := decide_eq_false (by omega)
  have HL60 := Lib.hid (show l0 ≤ 60 by omega)
  go_wp2_with fail
  obtain ⟨HB, hHB⟩ : ∃ HB, HB = w1.heap.size := ⟨_, rfl⟩
  generalize hW2 : World.alloc w1 _ = W2
  have hb2 : Below w1.heap.size w1 W2 := by rw [← hW2]; exact bs_alloc (Below.refl _ _)
  have hI0 : PnI (fun k => G0 k ∨ k = HB) W2 A HB (1 + t0) 0 := by
    refine ⟨V10, fun _ => false, HW.out.add hb2 (q := HB) (by omega) (by rw [← hW2, hHB]; simp), by decide, fun j hj => ?_, fun j hj h => by simp at h, fun j hj => ?_⟩
    · rw [show V10.f 4136 = 0 from rfl]
      have : tagf 0 (j : Int) = 0 := by
        match j, hj with
        | 0, _ => decide
        | 1, _ => decide
        | 2, _ => decide
        | 3, _ => decide
      rw [this]
      simp
    · rw [← hW2, hHB]
      match j, hj with
      | 0, _ => exact ⟨new_at rfl rfl, new_fz rfl⟩
      | 1, _ => exact ⟨new_at rfl rfl, new_fz rfl⟩
      | 2, _ => exact ⟨new_at rfl rfl, new_fz rfl⟩
      | 3, _ => exact ⟨new_at rfl rfl, new_fz rfl⟩
  have HI0 := Lib.hid hI0
  have HHB2 := Lib.hid (show w.heap.size ≤ HB by rw [hHB]; exact K1.out.size)
  have K2 := Lib.hid (below_then K1.out hb2)
  rw [← hHB]
  clear hW2 hb2 hI0 hHB d1 hbig
  go_loopw [7] (fun i X => ∃ n : Nat, n ≤ l0 ∧ i = .int .i64 n ∧ PnI (fun k => G0 k ∨ k = HB) X A HB (1 + t0) n ∧ Kp G0 W2 X) (fun i _ => l0 - (intOf i).toNat)
  case atStart => exact ⟨0, by omega, rfl, HI0.out, Keeps.refl _ _⟩
  case round =>
    obtain ⟨n, hn, rfl, hI, hK⟩ := hrel
    have HK := Lib.hid hK
    by_cases hlt : n < l0
    · obtain ⟨V, hs, hV, hc, htg, hit, hhs⟩ := hI
      obtain ⟨x, hx, hcx⟩ := HL.out n hlt
      obtain ⟨hcap, rfl⟩ := HP.out (by omega)
      have hcx' : wr.cell? ⟨b, off + n, none⟩ = some (.int .u8 x) := by
        have hlt' := World.block_lt_of_cell? _ _ hcx
        have h1 := (K2.out.cell (p := ⟨b, off + n, none⟩) hlt').trans hcx
        refine hK.cell (p := ⟨b, off + n, none⟩) (fun nn => nn ?_) h1
        rw [HGG.out]
        exact hlt'
      obtain ⟨k, hk⟩ : ∃ k : Nat, x.tmod 4 = (k : Int) := ⟨(x.tmod 4).toNat, by rw [Int.tmod_eq_emod_of_nonneg hx.1]; omega⟩
      have hk4 : k < 4 := by rw [Int.tmod_eq_emod_of_nonneg hx.1] at hk; omega
      have m4 : IntKind.u8.wrap (k : Int) = (k : Int) := IntWalk.u8_in _ (by omega)
      have m5 : IntKind.i64.wrap (k : Int) = (k : Int) := IntWalk.i64_in _ (by omega)
      have j0 : (0 : Int) ≤ (n : Int) := by omega
      have j1 : (n : Int) < (l0 : Int) := by omega
      have j2 : n < c0 := by omega
      clear hK
      have HCN := Lib.hid hc
      have HTG := Lib.hid htg
      have HIS := Lib.hid hit
      have HHS := Lib.hid hhs
      have HVG := Lib.hid hV
      have HK4 := Lib.hid hk4
      have HN60 := Lib.hid (show n < l0 from hlt)
      clear hc htg hit hhs hV
      go_wp2_with fail
      refine (spotw (b := 2) (m := 4) (k' := 1) (s' := (k : Int)) (.inr (.inl ⟨rfl, rfl⟩)) (by decide) (by rw [Int.tmod_eq_emod_of_nonneg (by omega)]; omega) (by omega) (by omega) _).mono ?_
      rintro e w3 ⟨rfl, hb3⟩
      have HB3 := Lib.hid hb3
      clear hb3 hcx hcx' hk m4 m5 j0 j1 j2
      go_upto_region 10 with (fail)
      obtain ⟨F, hF⟩ : ∃ F, F = w3.heap.size := ⟨_, rfl⟩
      generalize hW4 : World.alloc w3 _ = W4
      have hb4 : Below w3.heap.size w3 W4 := by rw [← hW4]; exact bs_alloc (Below.refl _ _)
      have f0 : W4.cell? ⟨F, 0, none⟩ = some (.int .i64 2) := by rw [← hW4, hF]; exact new_at rfl rfl
      have f1 : W4.cell? ⟨F, 1, none⟩ = some (.int .i64 1) := by rw [← hW4, hF]; exact new_at rfl rfl
      have f2 : W4.cell? ⟨F, 2, none⟩ = some (.int .i64 k) := by rw [← hW4, hF]; exact new_at rfl rfl
      have HW4 := Lib.hid ((HVG.out.new HB3.out).add (q := F) hb4 (by omega) (by rw [← hW4, hF]; simp))
      have HB4 := Lib.hid (below_then HB3.out hb4)
      have FK : Hid (∀ X, Kp (fun j => (G0 j ∨ j = HB) ∨ j = F) W4 X → X.cell? ⟨F, 0, none⟩ = some (.int .i64 2) ∧ X.cell? ⟨F, 1, none⟩ = some (.int .i64 1) ∧ X.cell? ⟨F, 2, none⟩ = some (.int .i64 k)) := Lib.hid (fun X hk => ⟨hk.cell (p := ⟨F, 0, none⟩) (fun n => n (.inr rfl)) f0, hk.cell (p := ⟨F, 1, none⟩) (fun n => n (.inr rfl)) f1, hk.cell (p := ⟨F, 2, none⟩) (fun n => n (.inr rfl)) f2⟩)
      have HHB : HB < wr.heap.size := World.block_lt_of_cell? _ _ (HHS.out 0 (by decide)).1
      have HFB := Lib.hid (show ¬ F = HB by have := HB3.out.size; omega)
      have HNB := Lib.hid (show ¬ G0 HB by rw [HGG.out]; have := HHB2.out; exact Nat.not_lt_of_le this)
      have CT := Lib.hid (fun W => tagsw 2 1 W)
      rw [tags21] at CT
      have CP := Lib.hid (fun W (hb : Below W4.heap.size W4 W) => gpeek (a := 4136) (HW4.out.new hb) ⟨by decide, by decide⟩)
      have KEEP : Hid (∀ X, Below W4.heap.size W4 X → X.cell? ⟨A.p, 0, none⟩ = some (.pointer (some ⟨A.pc, 0, none⟩)) ∧ X.cell? ⟨F, 0, none⟩ = some (.int .i64 2) ∧ X.cell? ⟨F, 1, none⟩ = some (.int .i64 1)) := Lib.hid (fun X hb => ⟨(HW4.out.new hb).box.c0, (FK.out X (Kp.of hb)).1, (FK.out X (Kp.of hb)).2.1⟩)
      rw [← hF]
      clear hW4 hF hb4 f0 f1 f2 HHB
      have hb0 : Below W4.heap.size W4 W4.drew := (Below.refl _ _).drew
      obtain ⟨s0, s1, s2⟩ := KEEP.out _ hb0
      go_region_held3 (fun X => X.cell? ⟨A.p, 0, none⟩ = some (.pointer (some ⟨A.pc, 0, none⟩)) ∧ X.cell? ⟨F, 0, none⟩ = some (.int .i64 2) ∧ X.cell? ⟨F, 1, none⟩ = some (.int .i64 1))
        (first | exact ⟨by assumption, by assumption, by assumption⟩)
        (first
          | (go_at_call 24; ((with_reducible refine (CT.out _).mono ?_); rintro e w5 ⟨rfl, hk5⟩; have hb5 : Below W4.heap.size W4 w5 := below_then hb0 hk5; clear hk5 s0 s1 s2; obtain ⟨s0, s1, s2⟩ := KEEP.out _ hb5))
          | (go_at_call 11; ((with_reducible refine (CP.out _ hb5).mono ?_); rintro e w55 ⟨rfl, rfl⟩)))
      have HB5 := Lib.hid hb5
      clear s0 s1 s2 hb0 hb5 CT CP KEEP
      obtain ⟨g0, g1, g2⟩ := FK.out _ (Kp.of HB5.out)
      obtain ⟨mt0, mt1, mt2, mt3⟩ := MT.out
      have mn : IntKind.i64.wrap (1 + (n : Int)) = 1 + (n : Int) := IntWalk.i64_in _ (by have := HL60.out; omega)
      have HIT := Lib.hid (item21 (k := (k : Int)) ⟨by omega, by have := HK4.out; omega⟩)
      go_wp2_with fail
      refine (newPut 2 1 (k : Int) (1 + t0) (1 + (n : Int)) _ (z := 3) (by rw [HIT.out, if_pos ⟨by omega, by have := HT.out; omega, by have := HT.out; omega, by omega⟩])).mono ?_
      rintro e w6 ⟨q, rfl, ho6, hq6, hb6⟩
      have HW5 := Lib.hid (HW4.out.new HB5.out)
      have HOP := Lib.hid (op_newQ HW5.out ho6 hq6 hb6)
      have HW6 := Lib.hid (HW5.out.new hb6)
      have hb46 := below_then HB5.out hb6
      have HK6 := Lib.hid (Kp.of (G := fun j => (G0 j ∨ j = HB) ∨ j = F) hb46)
      have HH6 := Lib.hid (show ∀ j, j < 4 → w6.cell? ⟨HB, j, none⟩ = some (.bool (hs j)) ∧ w6.frozen? ⟨HB, j, none⟩ = false from fun j hj => ⟨((below_then HB4.out hb46).cell (p := ⟨HB, j, none⟩) (World.block_lt_of_cell? _ _ (HHS.out j hj).1)).trans (HHS.out j hj).1, ((below_then HB4.out hb46).frozen (p := ⟨HB, j, none⟩) (World.block_lt_of_cell? _ _ (HHS.out j hj).1)).trans (HHS.out j hj).2⟩)
      have HK24 := Lib.hid (Kp.to HK.out (Kp.of HB4.out))
      clear ho6 hq6 hb6 hb46 g0 g1 g2 mt0 mt1 mt2 mt3 mn HW4 HW5 HB5 HHS HB3 HB4 HK
      obtain ⟨h6, z6⟩ := HH6.out k HK4.out
      obtain ⟨g0, g1, g2⟩ := FK.out _ HK6.out
      have kl0 : (0 : Int) ≤ (k : Int) := by omega
      have kl1 : (k : Int) < 4 := by omega
      cases hbk : hs k with
      | false =>
        rw [hbk] at h6
        have HO7 := Lib.hid HOP.out
        have HK7 := Lib.hid HK6.out
        have HH7 := Lib.hid HH6.out
        go_upto_block 4 with (fail)
        have hO8 : Opw (fun j => (G0 j ∨ j = HB) ∨ j = F) (w6.setCell ⟨HB, k, none⟩ (.bool true)) A V q (puC 2 1 k (1 + t0) (1 + n) 0 3) := by
          obtain ⟨S, a1, a2, a3, a4, a5, a6⟩ := HO7.out
          have kk := Keeps.setCell (S := fun j => j = HB) (Keeps.refl _ w6) (p := ⟨HB, k, none⟩) (.inl rfl) (.bool true)
          exact ⟨S, a1.keep kk (fun j s e => a2 j (.inl (.inr e)) s), a2, a3, a4.keep kk (fun e => a5 (.inl (.inr e))), a5, fun j g => Nat.lt_of_lt_of_le (a6 j g) kk.size⟩
        have hk8 : Kp G0 W2 (w6.setCell ⟨HB, k, none⟩ (.bool true)) := Keeps.setCell (S := fun j => ¬ G0 j) (Kp.to HK24.out (HK7.out.less (fun j g => .inl (.inl g)))) (p := ⟨HB, k, none⟩) (.inl HNB.out) _
        have hh8 : ∀ j, j < 4 → (w6.setCell ⟨HB, k, none⟩ (.bool true)).cell? ⟨HB, j, none⟩ = some (.bool (if j = k then true else hs j)) ∧ (w6.setCell ⟨HB, k, none⟩ (.bool true)).frozen? ⟨HB, j, none⟩ = false := fun j hj => by
          refine ⟨?_, by rw [World.frozen?_setCell]; exact (HH7.out j hj).2⟩
          by_cases e : j = k
          · subst e
            rw [if_pos rfl]
            exact World.cell?_setCell_same _ _ _ (HH7.out j hj).1
          · rw [if_neg e]
            exact setO (fun h => e h.symm) (HH7.out j hj).1
        have hF8 : (w6.setCell ⟨HB, k, none⟩ (.bool true)).cell? ⟨F, 0, none⟩ = some (.int .i64 2) ∧ (w6.setCell ⟨HB, k, none⟩ (.bool true)).cell? ⟨F, 1, none⟩ = some (.int .i64 1) ∧ (w6.setCell ⟨HB, k, none⟩ (.bool true)).cell? ⟨F, 2, none⟩ = some (.int .i64 k) := by
          have kk := Keeps.setCell (S := fun j => j = HB) (Keeps.refl _ w6) (p := ⟨HB, k, none⟩) (.inl rfl) (.bool true)
          obtain ⟨a, b, c⟩ := FK.out _ HK7.out
          exact ⟨kk.cell (p := ⟨F, 0, none⟩) HFB.out a, kk.cell (p := ⟨F, 1, none⟩) HFB.out b, kk.cell (p := ⟨F, 2, none⟩) HFB.out c⟩
        generalize hW8 : w6.setCell ⟨HB, k, none⟩ (.bool true) = W8 at hO8 hk8 hh8 hF8 ⊢
        clear hW8
        have HN8 : Hid (NvP (fun j => (G0 j ∨ j = HB) ∨ j = F) W8 A q k (1 + t0) (1 + n) (V.f 4136) (fun j => V.f (4137 + j)) V.cnt 0) := Lib.hid ⟨V, 0, hO8, ⟨by simp, by simp, fun j _ _ _ => rfl, fun h => by simp at h⟩, by simp⟩
        have HK8 := Lib.hid hk8
        have HH8 := Lib.hid hh8
        have HF8 := Lib.hid hF8
        obtain ⟨T, hT⟩ : ∃ T, T = V.f 4136 := ⟨_, rfl⟩
        obtain ⟨I, hI⟩ : ∃ I : Int → Int, I = (fun j => V.f (4137 + j)) := ⟨_, rfl⟩
        obtain ⟨cc, hcc⟩ : ∃ cc, cc = V.cnt := ⟨_, rfl⟩
        rw [← hT, ← hI, ← hcc] at HN8
        have HUT := Lib.hid (show isU T by rw [hT]; exact HVG.out.rng ⟨by decide, by decide⟩)
        have HBT := Lib.hid (show ∀ j, 0 ≤ j → j < 4 → tagf T j ≠ 0 → I j ≠ 0 from fun j j0 j4 hne => by
          obtain ⟨m, rfl⟩ := Int.eq_ofNat_of_zero_le j0
          have hm4 : m < 4 := by omega
          rw [hT, HTG.out m hm4] at hne
          rw [hI]
          refine HIS.out m hm4 ?_
          cases hm : hs m
          · rw [hm] at hne; simp at hne
          · rfl)
        have HTK := Lib.hid (show tagf T k = 0 by rw [hT, HTG.out k HK4.out, hbk]; simp)
        have HC := Lib.hid (show cc ≤ 3 * (n : Int) by rw [hcc]; exact HCN.out)
        have HTJ := Lib.hid (show ∀ j : Nat, j < 4 → tagf T j = if hs j then 1 + t0 else 0 by rw [hT]; exact HTG.out)
        have HIJ := Lib.hid (show ∀ j : Nat, j < 4 → hs j = true → I j ≠ 0 by rw [hI]; exact HIS.out)
        rw [← hT]
        clear hO8 hk8 hh8 hF8 HO7 HK7 HH7 HK6 HH6 HOP HW6 FK HFB HTG HIS HVG HCN h6 z6 hI hcc hT
        go_wp2_with fail
        go_loopw [12] (fun i X => ∃ m : Nat, m ≤ 3 ∧ i = .int .i64 m ∧ NvP (fun j => (G0 j ∨ j = HB) ∨ j = F) X A q k (1 + t0) (1 + n) T I cc m ∧ Kp (fun j => (G0 j ∨ j = HB) ∨ j = F) W8 X) (fun i _ => 3 - (intOf i).toNat)
        case atStart => exact ⟨0, by omega, rfl, HN8.out, Keeps.refl _ _⟩
        case round =>
          clear HN8
          obtain ⟨m, hm, rfl, hN, hK⟩ := hrel
          have HKM := Lib.hid hK
          have HNM := Lib.hid hN
          clear hN hK
          by_cases hlm : m < 3
          · go_wp2_with fail
            refine (nvp_step hlm HNM.out ⟨by omega, by have := HK4.out; omega⟩ HUT.out ⟨by omega, by have := HL60.out; have := HN60.out; omega⟩ (by have := HC.out; have := HN60.out; have := HL60.out; omega)).mono ?_
            rintro e w8 ⟨⟨bb, rfl⟩, hN8, k8⟩
            have HK9 := Lib.hid (Kp.to HKM.out k8)
            have HN9 := Lib.hid hN8
            have HOK : Hid (∃ V', WdG (fun j => (G0 j ∨ j = HB) ∨ j = F) w8 A V' ∧ ∀ j, 0 ≤ j ∧ j < 4 → tagf (V'.f 4136) j ≠ 0 → V'.f (4137 + j) ≠ 0) := Lib.hid (by
              obtain ⟨V', tags, a1, a2, a3⟩ := hN8
              exact ⟨V', a1.wd, fun j hj => nv_ok a2 ⟨by omega, by have := HK4.out; omega⟩ HUT.out ⟨by have := HT.out; omega, by have := HT.out; omega⟩ (by omega) HBT.out hj⟩)
            clear hN8 k8 HNM HKM
            obtain ⟨V', HV', HNZ⟩ := HOK.out
            have HV' := Lib.hid HV'
            have HNZ := Lib.hid HNZ
            clear HOK
            go_wp2_with fail
            go_loopw [13] (fun i X => ∃ j : Nat, j ≤ 4 ∧ i = .int .i64 j ∧ Below w8.heap.size w8 X) (fun i _ => 4 - (intOf i).toNat)
            case atStart => exact ⟨0, by omega, rfl, Below.refl _ _⟩
            case round =>
              obtain ⟨j, hj, rfl, hb⟩ := hrel
              have HBJ := Lib.hid hb
              clear hb
              by_cases hlj : j < 4
              · go_wp2_with fail
                refine (spotw (b := 2) (m := 4) (k' := 1) (s' := (j : Int)) (.inr (.inl ⟨rfl, rfl⟩)) (by decide) (by rw [Int.tmod_eq_emod_of_nonneg (by omega)]; omega) (by omega) (by omega) _).mono ?_
                rintro e w10 ⟨rfl, hb10⟩
                have HB10 := Lib.hid (below_then HBJ.out hb10)
                clear hb10
                have CSL := slotw (HV'.out.new HB10.out) 2 1 (j : Int)
                rw [tags21, item21 ⟨by omega, by omega⟩] at CSL
                have hnz := HNZ.out j ⟨by omega, by omega⟩
                generalize tagf (V'.f 4136) (j : Int) = y at CSL hnz
                generalize V'.f (4137 + (j : Int)) = z at CSL hnz
                have CSL := Lib.hid CSL
                by_cases hy : y = 0
                · have e1 : (y != 0) = false := by simp [hy]
                  go_wp2_with fail
                  refine CSL.out.mono ?_
                  rintro e w11 ⟨rfl, hb11⟩
                  go_wp2_with fail
                  go_roundw
                  case rel => exact ⟨j + 1, by omega, by go_num, below_then HB10.out hb11⟩
                  case measure => simp [intOf]; omega
                · have e1 : (y != 0) = true := by simp [hy]
                  have e2 : (z == 0) = false := by simp [hnz hy]
                  go_wp2_with fail
                  refine CSL.out.mono ?_
                  rintro e w11 ⟨rfl, hb11⟩
                  go_wp2_with fail
                  go_roundw
                  case rel => exact ⟨j + 1, by omega, by go_num, below_then HB10.out hb11⟩
                  case measure => simp [intOf]; omega
              · obtain rfl : j = 4 := by omega
                go_wp2_with fail
                go_roundw
                case rel => exact ⟨m + 1, by omega, by go_num, (by
                  obtain ⟨V', tags, a1, a2, a3⟩ := HN9.out
                  exact ⟨V', tags, a1.new HBJ.out, a2, a3⟩), Kp.to HK9.out (Kp.of HBJ.out)⟩
                case measure => simp [intOf]; omega
          · obtain rfl : m = 3 := by omega
            obtain ⟨V', tags, a1, a2, a3⟩ := HNM.out
            obtain ⟨n1, n2, n3, n4⟩ := pn_next (hs := hs) a2 HK4.out HUT.out ⟨by have := HT.out; omega, by have := HT.out; omega⟩ (by omega) HTJ.out HIJ.out
            simp only [Bool.false_eq_true, if_false] at n3
            have CSL := slotw a1.wd 2 1 (k : Int)
            rw [tags21, HIT.out, n3] at CSL
            have CSL := Lib.hid CSL
            have HV' := Lib.hid a1.wd
            have HOB := Lib.hid a1.ob
            have HNN := Lib.hid (And.intro n1 n2)
            have HC3 := Lib.hid (show V'.cnt ≤ 3 * ((n : Int) + 1) by have := HC.out; omega)
            have CT := Lib.hid (fun W => tagsw 2 1 W)
            rw [tags21] at CT
            have CG := Lib.hid (fun W => tagw T k W (isU_lt HUT.out).1 (isU_lt HUT.out).2)
            have CW := Lib.hid (fun W => withw (V'.f 4136) k (tagf T k) W (isU_lt (a1.rng (a := 4136) ⟨by decide, by decide⟩)).1 (isU_lt (a1.rng (a := 4136) ⟨by decide, by decide⟩)).2)
            rw [n4] at CW
            have CP := Lib.hid (fun W (hb : Below wr.heap.size wr W) => gpeek (a := 4136) (HV'.out.new hb) ⟨by decide, by decide⟩)
            generalize tagf T (k : Int) = tk at CG CW
            have g0 := HKM.out.cell (p := ⟨F, 0, none⟩) (fun nn => nn (.inr rfl)) HF8.out.1
            have g1 := HKM.out.cell (p := ⟨F, 1, none⟩) (fun nn => nn (.inr rfl)) HF8.out.2.1
            have g2 := HKM.out.cell (p := ⟨F, 2, none⟩) (fun nn => nn (.inr rfl)) HF8.out.2.2
            have KEEP : Hid (∀ X, Below wr.heap.size wr X → X.cell? ⟨A.p, 0, none⟩ = some (.pointer (some ⟨A.pc, 0, none⟩)) ∧ X.cell? ⟨F, 0, none⟩ = some (.int .i64 2) ∧ X.cell? ⟨F, 1, none⟩ = some (.int .i64 1) ∧ X.cell? ⟨HB, k, none⟩ = some (.bool true)) := Lib.hid (fun X hb => by
              have hh := (HH8.out k HK4.out).1
              rw [if_pos rfl] at hh
              have up := Kp.to HKM.out (Kp.of hb)
              exact ⟨(HV'.out.new hb).box.c0, up.cell (p := ⟨F, 0, none⟩) (fun nn => nn (.inr rfl)) HF8.out.1, up.cell (p := ⟨F, 1, none⟩) (fun nn => nn (.inr rfl)) HF8.out.2.1, up.cell (p := ⟨HB, k, none⟩) (fun nn => nn (.inl (.inr rfl))) hh⟩)
            clear a1 a2 a3 n1 n2 n3 n4
            go_wp2_with fail
            refine CSL.out.mono ?_
            rintro e w11 ⟨rfl, hb11⟩
            have HB11 := Lib.hid hb11
            clear g0 g1 g2 CSL
            go_upto_region 26 with (fail)
            have hb0 : Below wr.heap.size wr w11.drew := hb11.drew
            have CO := Lib.hid (pu_over (o := true) (HOB.out.new hb0) (by decide))
            have e1 : ((1 + t0) != 0) = true := by have := HT.out; simp; omega
            have e2 : (T != T) = false := by simp
            clear hb11
            obtain ⟨s0, s1, s2, s3⟩ := KEEP.out _ hb0
            go_region_held3 (fun X => X.cell? ⟨A.p, 0, none⟩ = some (.pointer (some ⟨A.pc, 0, none⟩)) ∧ X.cell? ⟨F, 0, none⟩ = some (.int .i64 2) ∧ X.cell? ⟨F, 1, none⟩ = some (.int .i64 1) ∧ X.cell? ⟨HB, k, none⟩ = some (.bool true))
              (first | exact ⟨by assumption, by assumption, by assumption, by assumption⟩)
              (first
                | (go_at_call 142; ((with_reducible refine CO.out.mono ?_); rintro e w12 ⟨rfl, rfl⟩))
                | (go_at_call 24; ((with_reducible refine (CT.out _).mono ?_); rintro e w13 ⟨rfl, hk13⟩; have hb13 : Below wr.heap.size wr w13 := below_then hb0 hk13; clear hk13 s0 s1 s2 s3; obtain ⟨s0, s1, s2, s3⟩ := KEEP.out _ hb13))
                | (go_at_call 11; ((with_reducible refine (CP.out _ hb13).mono ?_); rintro e w14 ⟨rfl, rfl⟩))
                | (go_at_call 29; ((with_reducible refine (CG.out _).mono ?_); rintro e w15 ⟨rfl, hk15⟩; have hb15 : Below wr.heap.size wr w15 := below_then hb13 hk15; clear hk15 s0 s1 s2 s3; obtain ⟨s0, s1, s2, s3⟩ := KEEP.out _ hb15))
                | (go_at_call 28; ((with_reducible refine (CW.out _).mono ?_); rintro e w16 ⟨rfl, hk16⟩; have hb16 : Below wr.heap.size wr w16 := below_then hb15 hk16; clear hk16 s0 s1 s2 s3; obtain ⟨s0, s1, s2, s3⟩ := KEEP.out _ hb16)))
            all_goals
              have hl60 := HL60.out
              go_wp2_with fail
              have up := Kp.to HKM.out (Kp.of hb16)


              go_roundw
              case rel => exact ⟨n + 1, by omega, by go_num, ⟨V', fun j => if j = k then true else hs j, (HV'.out.less (fun j g => .inl g)).new hb16, by have := HC3.out; omega, HNN.out.1, HNN.out.2, fun j hj => ⟨up.cell (p := ⟨HB, j, none⟩) (fun nn => nn (.inl (.inr rfl))) (HH8.out j hj).1, up.frozen (p := ⟨HB, j, none⟩) (fun nn => nn (.inl (.inr rfl))) (World.block_lt_of_cell? _ _ (HH8.out j hj).1) (HH8.out j hj).2⟩⟩, Kp.to HK8.out (Kp.less up (fun j g => .inl (.inl g)))⟩
              case measure => simp [intOf]; omega
      | true =>
        rw [hbk] at h6
        go_wp2_with fail
        refine (newOut 2 1 (k : Int) _ (z := 3) (by rw [HIT.out, if_pos (by omega)])).mono ?_
        rintro e w7 ⟨q, rfl, ho7, hq7, hb7⟩
        have HO7 := Lib.hid (op_newQ (HW6.out) ho7 hq7 hb7)
        have HK7 := Lib.hid (Kp.to HK6.out (Kp.of (G := fun j => (G0 j ∨ j = HB) ∨ j = F) hb7))
        have HH7 := Lib.hid (show ∀ j, j < 4 → w7.cell? ⟨HB, j, none⟩ = some (.bool (hs j)) ∧ w7.frozen? ⟨HB, j, none⟩ = false from fun j hj => ⟨(hb7.cell (p := ⟨HB, j, none⟩) (World.block_lt_of_cell? _ _ (HH6.out j hj).1)).trans (HH6.out j hj).1, (hb7.frozen (p := ⟨HB, j, none⟩) (World.block_lt_of_cell? _ _ (HH6.out j hj).1)).trans (HH6.out j hj).2⟩)
        clear ho7 hq7 hb7 g0 g1 g2 h6 z6
        obtain ⟨h6, z6⟩ := HH7.out k HK4.out
        rw [hbk] at h6
        go_upto_block 4 with (fail)
        have hO8 : Opw (fun j => (G0 j ∨ j = HB) ∨ j = F) (w7.setCell ⟨HB, k, none⟩ (.bool false)) A V q (ouC 2 1 k 0 3 false) := by
          obtain ⟨S, a1, a2, a3, a4, a5, a6⟩ := HO7.out
          have kk := Keeps.setCell (S := fun j => j = HB) (Keeps.refl _ w7) (p := ⟨HB, k, none⟩) (.inl rfl) (.bool false)
          exact ⟨S, a1.keep kk (fun j s e => a2 j (.inl (.inr e)) s), a2, a3, a4.keep kk (fun e => a5 (.inl (.inr e))), a5, fun j g => Nat.lt_of_lt_of_le (a6 j g) kk.size⟩
        have hk8 : Kp G0 W2 (w7.setCell ⟨HB, k, none⟩ (.bool false)) := Keeps.setCell (S := fun j => ¬ G0 j) (Kp.to HK24.out (HK7.out.less (fun j g => .inl (.inl g)))) (p := ⟨HB, k, none⟩) (.inl HNB.out) _
        have hh8 : ∀ j, j < 4 → (w7.setCell ⟨HB, k, none⟩ (.bool false)).cell? ⟨HB, j, none⟩ = some (.bool (if j = k then false else hs j)) ∧ (w7.setCell ⟨HB, k, none⟩ (.bool false)).frozen? ⟨HB, j, none⟩ = false := fun j hj => by
          refine ⟨?_, by rw [World.frozen?_setCell]; exact (HH7.out j hj).2⟩
          by_cases e : j = k
          · subst e
            rw [if_pos rfl]
            exact World.cell?_setCell_same _ _ _ (HH7.out j hj).1
          · rw [if_neg e]
            exact setO (fun h => e h.symm) (HH7.out j hj).1
        have hF8 : (w7.setCell ⟨HB, k, none⟩ (.bool false)).cell? ⟨F, 0, none⟩ = some (.int .i64 2) ∧ (w7.setCell ⟨HB, k, none⟩ (.bool false)).cell? ⟨F, 1, none⟩ = some (.int .i64 1) ∧ (w7.setCell ⟨HB, k, none⟩ (.bool false)).cell? ⟨F, 2, none⟩ = some (.int .i64 k) := by
          have kk := Keeps.setCell (S := fun j => j = HB) (Keeps.refl _ w7) (p := ⟨HB, k, none⟩) (.inl rfl) (.bool false)
          obtain ⟨a, b, c⟩ := FK.out _ HK7.out
          exact ⟨kk.cell (p := ⟨F, 0, none⟩) HFB.out a, kk.cell (p := ⟨F, 1, none⟩) HFB.out b, kk.cell (p := ⟨F, 2, none⟩) HFB.out c⟩
        generalize hW8 : w7.setCell ⟨HB, k, none⟩ (.bool false) = W8 at hO8 hk8 hh8 hF8 ⊢
        clear hW8
        have HN8 : Hid (NvO (fun j => (G0 j ∨ j = HB) ∨ j = F) W8 A q k (1 + t0) (1 + n) (V.f 4136) (fun j => V.f (4137 + j)) V.cnt 0) := Lib.hid ⟨V, 0, false, hO8, ⟨by simp, by simp, fun j _ _ _ => rfl, fun h => by simp at h⟩, by simp⟩
        have HK8 := Lib.hid hk8
        have HH8 := Lib.hid hh8
        have HF8 := Lib.hid hF8
        obtain ⟨T, hT⟩ : ∃ T, T = V.f 4136 := ⟨_, rfl⟩
        obtain ⟨I, hI⟩ : ∃ I : Int → Int, I = (fun j => V.f (4137 + j)) := ⟨_, rfl⟩
        obtain ⟨cc, hcc⟩ : ∃ cc, cc = V.cnt := ⟨_, rfl⟩
        rw [← hT, ← hI, ← hcc] at HN8
        have HUT := Lib.hid (show isU T by rw [hT]; exact HVG.out.rng ⟨by decide, by decide⟩)
        have HBT := Lib.hid (show ∀ j, 0 ≤ j → j < 4 → tagf T j ≠ 0 → I j ≠ 0 from fun j j0 j4 hne => by
          obtain ⟨m, rfl⟩ := Int.eq_ofNat_of_zero_le j0
          have hm4 : m < 4 := by omega
          rw [hT, HTG.out m hm4] at hne
          rw [hI]
          refine HIS.out m hm4 ?_
          cases hm : hs m
          · rw [hm] at hne; simp at hne
          · rfl)
        have HTK := Lib.hid (show tagf T k = 1 + t0 by rw [hT, HTG.out k HK4.out, hbk]; simp)
        have HC := Lib.hid (show cc ≤ 3 * (n : Int) by rw [hcc]; exact HCN.out)
        have HTJ := Lib.hid (show ∀ j : Nat, j < 4 → tagf T j = if hs j then 1 + t0 else 0 by rw [hT]; exact HTG.out)
        have HIJ := Lib.hid (show ∀ j : Nat, j < 4 → hs j = true → I j ≠ 0 by rw [hI]; exact HIS.out)
        rw [← hT]
        clear hO8 hk8 hh8 hF8 HO7 HK7 HH7 HK6 HH6 HOP HW6 FK HFB HTG HIS HVG HCN h6 z6 hI hcc hT
        go_wp2_with fail
        go_loopw [12] (fun i X => ∃ m : Nat, m ≤ 3 ∧ i = .int .i64 m ∧ NvO (fun j => (G0 j ∨ j = HB) ∨ j = F) X A q k (1 + t0) (1 + n) T I cc m ∧ Kp (fun j => (G0 j ∨ j = HB) ∨ j = F) W8 X) (fun i _ => 3 - (intOf i).toNat)
        case atStart => exact ⟨0, by omega, rfl, HN8.out, Keeps.refl _ _⟩
        case round =>
          clear HN8
          obtain ⟨m, hm, rfl, hN, hK⟩ := hrel
          have HKM := Lib.hid hK
          have HNM := Lib.hid hN
          clear hN hK
          by_cases hlm : m < 3
          · go_wp2_with fail
            refine (nvo_step hlm HNM.out ⟨by omega, by have := HK4.out; omega⟩ HUT.out (by have := HC.out; have := HN60.out; have := HL60.out; omega)).mono ?_
            rintro e w8 ⟨⟨bb, rfl⟩, hN8, k8⟩
            have HK9 := Lib.hid (Kp.to HKM.out k8)
            have HN9 := Lib.hid hN8
            have HOK : Hid (∃ V', WdG (fun j => (G0 j ∨ j = HB) ∨ j = F) w8 A V' ∧ ∀ j, 0 ≤ j ∧ j < 4 → tagf (V'.f 4136) j ≠ 0 → V'.f (4137 + j) ≠ 0) := Lib.hid (by
              obtain ⟨V', tags, g, a1, a2, a3⟩ := hN8
              exact ⟨V', a1.wd, fun j hj => nv_ok a2 ⟨by omega, by have := HK4.out; omega⟩ HUT.out ⟨by have := HT.out; omega, by have := HT.out; omega⟩ (by omega) HBT.out hj⟩)
            clear hN8 k8 HNM HKM
            obtain ⟨V', HV', HNZ⟩ := HOK.out
            have HV' := Lib.hid HV'
            have HNZ := Lib.hid HNZ
            clear HOK
            go_wp2_with fail
            go_loopw [13] (fun i X => ∃ j : Nat, j ≤ 4 ∧ i = .int .i64 j ∧ Below w8.heap.size w8 X) (fun i _ => 4 - (intOf i).toNat)
            case atStart => exact ⟨0, by omega, rfl, Below.refl _ _⟩
            case round =>
              obtain ⟨j, hj, rfl, hb⟩ := hrel
              have HBJ := Lib.hid hb
              clear hb
              by_cases hlj : j < 4
              · go_wp2_with fail
                refine (spotw (b := 2) (m := 4) (k' := 1) (s' := (j : Int)) (.inr (.inl ⟨rfl, rfl⟩)) (by decide) (by rw [Int.tmod_eq_emod_of_nonneg (by omega)]; omega) (by omega) (by omega) _).mono ?_
                rintro e w10 ⟨rfl, hb10⟩
                have HB10 := Lib.hid (below_then HBJ.out hb10)
                clear hb10
                have CSL := slotw (HV'.out.new HB10.out) 2 1 (j : Int)
                rw [tags21, item21 ⟨by omega, by omega⟩] at CSL
                have hnz := HNZ.out j ⟨by omega, by omega⟩
                generalize tagf (V'.f 4136) (j : Int) = y at CSL hnz
                generalize V'.f (4137 + (j : Int)) = z at CSL hnz
                have CSL := Lib.hid CSL
                by_cases hy : y = 0
                · have e1 : (y != 0) = false := by simp [hy]
                  go_wp2_with fail
                  refine CSL.out.mono ?_
                  rintro e w11 ⟨rfl, hb11⟩
                  go_wp2_with fail
                  go_roundw
                  case rel => exact ⟨j + 1, by omega, by go_num, below_then HB10.out hb11⟩
                  case measure => simp [intOf]; omega
                · have e1 : (y != 0) = true := by simp [hy]
                  have e2 : (z == 0) = false := by simp [hnz hy]
                  go_wp2_with fail
                  refine CSL.out.mono ?_
                  rintro e w11 ⟨rfl, hb11⟩
                  go_wp2_with fail
                  go_roundw
                  case rel => exact ⟨j + 1, by omega, by go_num, below_then HB10.out hb11⟩
                  case measure => simp [intOf]; omega
              · obtain rfl : j = 4 := by omega
                go_wp2_with fail
                go_roundw
                case rel => exact ⟨m + 1, by omega, by go_num, (by
                  obtain ⟨V', tags, g, a1, a2, a3⟩ := HN9.out
                  exact ⟨V', tags, g, a1.new HBJ.out, a2, a3⟩), Kp.to HK9.out (Kp.of HBJ.out)⟩
                case measure => simp [intOf]; omega
          · obtain rfl : m = 3 := by omega
            obtain ⟨V', tags, g, a1, a2, a3⟩ := HNM.out
            obtain ⟨n1, n2, n3, n4⟩ := pn_next (hs := hs) a2 HK4.out HUT.out ⟨by have := HT.out; omega, by have := HT.out; omega⟩ (by omega) HTJ.out HIJ.out
            simp only [if_true] at n3
            have CSL := slotw a1.wd 2 1 (k : Int)
            rw [tags21, HIT.out, n3] at CSL
            have CSL := Lib.hid CSL
            have HV' := Lib.hid a1.wd
            have HOB := Lib.hid a1.ob
            have HNN := Lib.hid (And.intro n1 n2)
            have HC3 := Lib.hid (show V'.cnt ≤ 3 * ((n : Int) + 1) by have := HC.out; omega)
            have CT := Lib.hid (fun W => tagsw 2 1 W)
            rw [tags21] at CT
            have CG := Lib.hid (fun W => tagw T k W (isU_lt HUT.out).1 (isU_lt HUT.out).2)
            have CW := Lib.hid (fun W => withw (V'.f 4136) k (tagf T k) W (isU_lt (a1.rng (a := 4136) ⟨by decide, by decide⟩)).1 (isU_lt (a1.rng (a := 4136) ⟨by decide, by decide⟩)).2)
            rw [n4] at CW
            have CP := Lib.hid (fun W (hb : Below wr.heap.size wr W) => gpeek (a := 4136) (HV'.out.new hb) ⟨by decide, by decide⟩)
            generalize tagf T (k : Int) = tk at CG CW
            have g0 := HKM.out.cell (p := ⟨F, 0, none⟩) (fun nn => nn (.inr rfl)) HF8.out.1
            have g1 := HKM.out.cell (p := ⟨F, 1, none⟩) (fun nn => nn (.inr rfl)) HF8.out.2.1
            have g2 := HKM.out.cell (p := ⟨F, 2, none⟩) (fun nn => nn (.inr rfl)) HF8.out.2.2
            have KEEP : Hid (∀ X, Below wr.heap.size wr X → X.cell? ⟨A.p, 0, none⟩ = some (.pointer (some ⟨A.pc, 0, none⟩)) ∧ X.cell? ⟨F, 0, none⟩ = some (.int .i64 2) ∧ X.cell? ⟨F, 1, none⟩ = some (.int .i64 1) ∧ X.cell? ⟨HB, k, none⟩ = some (.bool false)) := Lib.hid (fun X hb => by
              have hh := (HH8.out k HK4.out).1
              rw [if_pos rfl] at hh
              have up := Kp.to HKM.out (Kp.of hb)
              exact ⟨(HV'.out.new hb).box.c0, up.cell (p := ⟨F, 0, none⟩) (fun nn => nn (.inr rfl)) HF8.out.1, up.cell (p := ⟨F, 1, none⟩) (fun nn => nn (.inr rfl)) HF8.out.2.1, up.cell (p := ⟨HB, k, none⟩) (fun nn => nn (.inl (.inr rfl))) hh⟩)
            clear a1 a2 a3 n1 n2 n3 n4
            go_wp2_with fail
            refine CSL.out.mono ?_
            rintro e w11 ⟨rfl, hb11⟩
            have HB11 := Lib.hid hb11
            clear g0 g1 g2 CSL
            go_upto_region 26 with (fail)
            have hb0 : Below wr.heap.size wr w11.drew := hb11.drew
            have CO := Lib.hid (ou_over (o := true) (HOB.out.new hb0) (by decide))
            have e1 : ((1 + t0) != 0) = true := by have := HT.out; simp; omega
            have e2 : (T != T) = false := by simp
            clear hb11
            obtain ⟨s0, s1, s2, s3⟩ := KEEP.out _ hb0
            go_region_held3 (fun X => X.cell? ⟨A.p, 0, none⟩ = some (.pointer (some ⟨A.pc, 0, none⟩)) ∧ X.cell? ⟨F, 0, none⟩ = some (.int .i64 2) ∧ X.cell? ⟨F, 1, none⟩ = some (.int .i64 1) ∧ X.cell? ⟨HB, k, none⟩ = some (.bool false))
              (first | exact ⟨by assumption, by assumption, by assumption, by assumption⟩)
              (first
                | (go_at_call 73; ((with_reducible refine CO.out.mono ?_); rintro e w12 ⟨rfl, rfl⟩))
                | (go_at_call 24; ((with_reducible refine (CT.out _).mono ?_); rintro e w13 ⟨rfl, hk13⟩; have hb13 : Below wr.heap.size wr w13 := below_then hb0 hk13; clear hk13 s0 s1 s2 s3; obtain ⟨s0, s1, s2, s3⟩ := KEEP.out _ hb13))
                | (go_at_call 11; ((with_reducible refine (CP.out _ hb13).mono ?_); rintro e w14 ⟨rfl, rfl⟩))
                | (go_at_call 29; ((with_reducible refine (CG.out _).mono ?_); rintro e w15 ⟨rfl, hk15⟩; have hb15 : Below wr.heap.size wr w15 := below_then hb13 hk15; clear hk15 s0 s1 s2 s3; obtain ⟨s0, s1, s2, s3⟩ := KEEP.out _ hb15))
                | (go_at_call 28; ((with_reducible refine (CW.out _).mono ?_); rintro e w16 ⟨rfl, hk16⟩; have hb16 : Below wr.heap.size wr w16 := below_then hb15 hk16; clear hk16 s0 s1 s2 s3; obtain ⟨s0, s1, s2, s3⟩ := KEEP.out _ hb16)))
            all_goals
              have hl60 := HL60.out
              go_wp2_with fail
              have up := Kp.to HKM.out (Kp.of hb16)


              go_roundw
              case rel => exact ⟨n + 1, by omega, by go_num, ⟨V', fun j => if j = k then false else hs j, (HV'.out.less (fun j g => .inl g)).new hb16, by have := HC3.out; omega, HNN.out.1, HNN.out.2, fun j hj => ⟨up.cell (p := ⟨HB, j, none⟩) (fun nn => nn (.inl (.inr rfl))) (HH8.out j hj).1, up.frozen (p := ⟨HB, j, none⟩) (fun nn => nn (.inl (.inr rfl))) (World.block_lt_of_cell? _ _ (HH8.out j hj).1) (HH8.out j hj).2⟩⟩, Kp.to HK8.out (Kp.less up (fun j g => .inl (.inl g)))⟩
              case measure => simp [intOf]; omega
    · obtain rfl : n = l0 := by omega
      go_wp2_with fail
      refine (lives13 _).mono ?_
      rintro e w9 ⟨rfl, hk9⟩
      go_wp2_with fail
      go_ret
      refine ⟨rfl, ?_⟩
      have kk := HK.out
      rw [HGG.out] at kk
      exact below_then (K2.out.trans (Kp.below kk K2.out.size)) hk9
end Go.Proofs.Ythlebfiedejhhaa
