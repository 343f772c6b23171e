/- Contracts of package items: a record comes. -/
import Derived.Test.YtmdofhdjikapgaaArP
import Derived.RegionTactic
import Derived.BigRegion
import Derived.Deep.AppendLies
namespace Go.Proofs.Ytmdofhdjikapgaa
open Go.RowKit
set_option linter.unusedVariables false

theorem put_facts {W2 W3 : World} {b r : Nat} {x : It} (hW : W3 = (W2.setCells b (r * 6) (It.cells x)).drew) (bt : W2.there b 0 1536) (hr : r < 256) :
    Keeps (fun k => k = b) W2 W3 ∧ W3.rangeAt b (r * 6) (It.cells x) ∧ W3.there b 0 1536 ∧ (∀ o cs, W2.rangeAt b o cs → o + cs.length ≤ r * 6 → W3.rangeAt b o cs) ∧ (∀ q, W3.frozen? q = W2.frozen? q) ∧ (∀ q : Addr, q.block ≠ b → ∀ u, W2.cell? q = some u → W3.cell? q = some u) := by
  have hl : (It.cells x).length = 6 := rfl
  have hk : ∀ (cs : List Value) (o : Nat) (W : World), Keeps (fun k => k = b) W2 W → Keeps (fun k => k = b) W2 (W.setCells b o cs) := by
    intro cs
    induction cs with
    | nil => intro o W h; exact h
    | cons c cs ih => intro o W h; exact ih (o + 1) _ (Keeps.setCell (S := fun k => k = b) h (p := ⟨b, o, none⟩) (.inl rfl) c)
  generalize It.cells x = cs at hW hl ⊢
  obtain ⟨V, hV⟩ : ∃ V, V = W2.setCells b (r * 6) cs := ⟨_, rfl⟩
  have kV : Keeps (fun k => k = b) W2 V := by rw [hV]; exact hk _ _ _ (Keeps.refl _ _)
  have g1 : V.rangeAt b (r * 6) cs := by
    rw [hV]
    refine World.rangeAt_setCells_same W2 b (r * 6) cs (fun j hj => ?_)
    rw [hl] at hj
    have := bt (r * 6 + j) (by omega)
    rwa [Nat.zero_add] at this
  have g2 : V.there b 0 1536 := by rw [hV]; exact World.there_setCells bt b (r * 6) cs
  have g3 : ∀ o cs', W2.rangeAt b o cs' → o + cs'.length ≤ r * 6 → V.rangeAt b o cs' := fun o cs' hrg ho => by rw [hV]; exact World.rangeAt_setCells_apart hrg b (r * 6) cs (.inr (.inl ho))
  have g4 : ∀ q, V.frozen? q = W2.frozen? q := fun q => by rw [hV]; exact World.frozen?_setCells ..
  rw [← hV] at hW
  subst hW
  exact ⟨kV.drew, g1, g2, g3, g4, fun q hq u hu => kV.drew.cell (p := q) hq hu⟩
/-- What an added record leaves. -/
def AddPost (w : World) (p : Nat) (its : List It) (n : Nat) (S : Nat → Prop) (w' : World) : Prop := ∃ bs v S', Turn S S' w w' ∧ IsAr 140 w' p its bs v S' ∧ bs.length = n
set_option maxRecDepth 100000 in
set_option maxHeartbeats 1000000 in
theorem iadd_in {w : World} {p : Nat} {its : List It} {bs : List Nat} {v : Value} {S : Nat → Prop} (h : IsAr 140 w p its bs v S) (hn : its.length < 1048576) (hm : its.length % 256 ≠ 0) (hbs : its.length ≤ 256 * bs.length) (k vl : ByteArray) (fl id di ge : Int) :
    Calls Try.prog 29 #[.pointer (some ⟨p, 0, none⟩), .agg #[.string k, .string vl, .int .u32 fl, .int .u64 id, .int .i64 di, .int .i64 ge]] w fun e w' => e = .returned (.tuple #[.int .i64 ((its.length : Int) + 1), .int .i64 0]) ∧ AddPost w p (its ++ [(k, vl, fl, id, di, ge)]) bs.length S w' := by
  have hbl : its.length / 256 < bs.length := by omega
  obtain ⟨b, hb⟩ : ∃ b, bs[its.length / 256]? = some b := ⟨_, List.getElem?_eq_getElem hbl⟩
  obtain ⟨bt, bS, bp, bv⟩ := h.blk _ b hb
  obtain ⟨g, cap, hv⟩ : ∃ g cap, v = .slice (some ⟨g, 0, none⟩) bs.length cap := by
    rcases h.row.2 with ⟨_, e⟩ | ⟨g, cap, cur, e, _⟩
    · omega
    · exact ⟨g, cap, e⟩
  have hcell : w.cell? ⟨g, its.length / 256, none⟩ = some (.pointer (some ⟨b, 0, none⟩)) := by
    have := h.row.cells (g := g) (by rw [hv]; rfl) _ _ (ptrs_at hb)
    rwa [Addr.add_mid, Nat.zero_add] at this
  have hgp : g ≠ p := (h.own g (by rw [hv]; rfl)).2
  have hc0 := h.c0
  rw [hv] at hc0
  have hc1 := h.c1
  have hf1 := h.f1
  have hlt := h.lt
  have hblt := h.blt hb
  have up : ∀ (o : Obj) (q : Addr) (u : Value), w.cell? q = some u → (w.alloc o).cell? q = some u := fun o q u hq => ((Keeps.refl (fun _ => False) w).alloc o).cell (p := q) (by simp) hq
  have HH := Lib.hid h
  have HN := Lib.hid hn
  have HB := Lib.hid hb
  have HV := Lib.hid hv
  have HLT := Lib.hid hlt
  have HBLT := Lib.hid hblt
  have HBT := Lib.hid bt
  generalize hj : its.length / 256 = j at *
  generalize hr : its.length % 256 = r at *
  generalize hl : its.length = n at *
  have HJ := Lib.hid hj
  have HR := Lib.hid hr
  have HL := Lib.hid hl
  generalize hnb : bs.length = nb at *
  have HNB := Lib.hid hnb
  clear hnb
  have hr0 : (0 : Int) ≤ (r : Int) := by omega
  have hr1 : (r : Int) < 256 := by omega
  have d1 : decide ((1048576 : Int) ≤ (n : Int)) = false := decide_eq_false (by omega)
  have e1 : (n : Int) % 256 = (r : Int) := by omega
  have e1' : (n : Int).tmod 256 = (r : Int) := by rw [Int.tmod_eq_emod_of_nonneg (by omega)]; exact e1
  have d2 : ((r : Int) == 0) = false := beq_eq_false_iff_ne.2 (by omega)
  have d3 : decide ((r : Int) = 0) = false := decide_eq_false (by omega)
  have y1 : IntKind.i64.wrap ((n : Int) + 1) = (n : Int) + 1 := IntWalk.i64_in _ (by omega)
  have e2 : (n : Int) / 256 = (j : Int) := by omega
  have hn2 : (n : Int) < 2000000 := by omega
  have m1 := fun o => up o _ _ hc1
  have m2 : ∀ o, (w.alloc o).frozen? ⟨p, 1, none⟩ = false := fun o => ((Keeps.refl (fun _ => False) w).alloc o).frozen (p := ⟨p, 1, none⟩) (by simp) hlt hf1
  have UP := Lib.hid up
  have C0 := Lib.hid hc0
  have C1 := Lib.hid hc1
  have HC := Lib.hid hcell
  have HG := Lib.hid hgp
  have HF := Lib.hid hf1
  have BP := Lib.hid bp
  have HBL := Lib.hid hbl
  have E1 := Lib.hid e1
  have E2 := Lib.hid e2
  clear h hn hb bt bS bv hv hcell hgp hc0 hc1 hf1 hlt hblt up hj hr hl bp hbl e2
  go_enter Try.func29, Try.ntmps29
  go_wp2_with fail
  generalize hW2 : World.setCell _ _ _ = W2
  have hk2 : Keeps (fun k => k = p) w W2 := by rw [← hW2]; exact Keeps.setCell (S := fun k => k = p) ((Keeps.refl _ w).alloc _) (p := ⟨p, 1, none⟩) (.inl rfl) _
  have hz2 : W2.heap.size = w.heap.size + 1 := by rw [← hW2]; simp [World.setCell]
  have p1 : W2.cell? ⟨p, 1, none⟩ = some (.int .i64 ((n : Int) + 1)) := by rw [← hW2]; exact World.cell?_setCell_same _ _ _ (m1 _)
  have p0 : W2.cell? ⟨p, 0, none⟩ = some (.slice (some ⟨g, 0, none⟩) nb cap) := by rw [← hW2, World.cell?_setCell_other _ _ _ _ (by intro e; injection e with _ e; omega)]; exact UP.out _ _ _ C0.out
  have nx : ∀ o, (⟨p, 1, none⟩ : Addr) ≠ ⟨w.heap.size, o, none⟩ := fun o e => by have := HLT.out; injection e with e; omega
  have x0 : W2.cell? ⟨w.heap.size, 0, none⟩ = some (.string k) := by rw [← hW2, World.cell?_setCell_other _ _ _ _ (nx _)]; simp
  have x1 : W2.cell? ⟨w.heap.size, 1, none⟩ = some (.string vl) := by rw [← hW2, World.cell?_setCell_other _ _ _ _ (nx _)]; simp
  have x2 : W2.cell? ⟨w.heap.size, 2, none⟩ = some (.int .u32 fl) := by rw [← hW2, World.cell?_setCell_other _ _ _ _ (nx _)]; simp
  have x3 : W2.cell? ⟨w.heap.size, 3, none⟩ = some (.int .u64 id) := by rw [← hW2, World.cell?_setCell_other _ _ _ _ (nx _)]; simp
  have x4 : W2.cell? ⟨w.heap.size, 4, none⟩ = some (.int .i64 di) := by rw [← hW2, World.cell?_setCell_other _ _ _ _ (nx _)]; simp
  have x5 : W2.cell? ⟨w.heap.size, 5, none⟩ = some (.int .i64 ge) := by rw [← hW2, World.cell?_setCell_other _ _ _ _ (nx _)]; simp
  have f0 : W2.frozen? ⟨p, 0, none⟩ = false := by rw [← hW2, World.frozen?_setCell]; exact ((Keeps.refl (fun _ => False) w).alloc _).frozen (p := ⟨p, 0, none⟩) (by simp) HLT.out HH.out.f0
  have f1 : W2.frozen? ⟨p, 1, none⟩ = false := by rw [← hW2, World.frozen?_setCell]; exact m2 _
  have gc := hk2.cell (p := ⟨g, j, none⟩) HG.out HC.out
  have bt := Keeps.there hk2 (b := b) (o := 0) (n := 1536) BP.out HBT.out
  have BT := Lib.hid bt
  have bu : ∀ i, i < 6 → ∃ u, W2.cell? ⟨b, r * 6 + i, none⟩ = some u := fun i hi => by
    have := (bt (r * 6 + i) (by omega)).1
    rw [Nat.zero_add] at this
    exact Option.isSome_iff_exists.1 this
  have bf : ∀ i, i < 6 → W2.frozen? ⟨b, r * 6 + i, none⟩ = false := fun i hi => by
    have := (bt (r * 6 + i) (by omega)).2
    rwa [Nat.zero_add] at this
  obtain ⟨u0, b0⟩ := bu 0 (by omega)
  obtain ⟨u1, b1⟩ := bu 1 (by omega)
  obtain ⟨u2, b2⟩ := bu 2 (by omega)
  obtain ⟨u3, b3⟩ := bu 3 (by omega)
  obtain ⟨u4, b4⟩ := bu 4 (by omega)
  obtain ⟨u5, b5⟩ := bu 5 (by omega)
  have z0 := bf 0 (by omega)
  have z1 := bf 1 (by omega)
  have z2 := bf 2 (by omega)
  have z3 := bf 3 (by omega)
  have z4 := bf 4 (by omega)
  have z5 := bf 5 (by omega)
  rw [Nat.add_zero] at b0 z0
  have HP := Lib.hid (iplace n j r b g nb cap p W2 hn2 E2.out E1.out HBL.out p0 gc)
  have K2 := Lib.hid hk2
  have Z2 := Lib.hid hz2
  have F0 := Lib.hid f0
  have F1 := Lib.hid f1
  clear hW2 hk2 hz2 nx bt bu bf m1 m2 gc f0 f1 e1 e1' d1 d2 d3 hm
  have P0 := Lib.hid p0
  clear p0
  go_wp2_with (go_at_call 73; refine HP.out.mono ?_; rintro e w' ⟨rfl, rfl⟩)
  go_region
  all_goals
    have hs := six_is W2 b (r * 6) (.string k) (.string vl) (.int .u32 fl) (.int .u64 id) (.int .i64 di) (.int .i64 ge)
    unfold six at hs
    rw [hs]
    generalize hW3 : World.drew _ = W3
    have hW : W3 = (W2.setCells b (r * 6) (It.cells (k, vl, fl, id, di, ge))).drew := hW3.symm
    clear hs
    have Q := Lib.hid (put_facts (x := (k, vl, fl, id, di, ge)) hW BT.out (by omega))
    have p1' : W3.cell? ⟨p, 1, none⟩ = some (.int .i64 ((n : Int) + 1)) := Q.out.2.2.2.2.2 ⟨p, 1, none⟩ (fun e => BP.out e.symm) _ p1
    clear hW3 hW p1 b0 b1 b2 b3 b4 b5 z0 z1 z2 z3 z4 z5 x0 x1 x2 x3 x4 x5
    go_wp2_with fail
    go_ret2
    obtain ⟨k3, q1, q2, q3, q4, q5⟩ := Q.out
    refine ⟨rfl, bs, v, S, ?_, ?_, HNB.out⟩
    · have hh := HH.out
      have hb := HB.out
      refine ⟨((K2.out.mono (fun i _ e => by rw [e]; exact hh.here)).trans (k3.mono (fun i _ e => by rw [e]; exact (hh.blk _ _ hb).2.1)) (fun _ _ s => s)), fun _ s => .inl s⟩
    · have hl := HL.out
      subst hl
      have hj := HJ.out
      have hr := HR.out
      have hb := HB.out
      have hh := HH.out
      subst hj hr
      have hv := HV.out
      refine IsAr.put hh hb (W := W3) ?_ ?_ (by push_cast; exact p1') ?_ ?_ q1 q2 (fun o cs hrg ho => q3 o cs (Keeps.rangeAt K2.out BP.out hrg) ho)
      · exact (K2.out.mono (fun i _ e => .inl e)).trans (k3.mono (fun i _ e => .inr e)) (fun _ _ s => s)
      · rw [hv]; exact q5 ⟨p, 0, none⟩ (fun e => BP.out e.symm) _ P0.out
      · rw [q4]; exact F0.out
      · rw [q4]; exact F1.out
end Go.Proofs.Ytmdofhdjikapgaa
