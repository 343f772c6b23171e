/- The law PutsPlay. -/
import Derived.Test.YthlebfiedejhhaaGreatGPo
import Derived.Test.YthlebfiedejhhaaGreatPlR
import Derived.Test.YthlebfiedejhhaaGreatOpen
import Derived.Deep.Cut
import Derived.Deep.CutBlock
import Derived.Deep.RegionHeld3
import Derived.Deep.CutRange
namespace Go.Proofs.YthlebfiedejhhaaGreat
open Go.RowKit Go.Maps
set_option linter.unusedVariables false
theorem info_op13 : (Tryz.prog.info? 113).map (fun i => (i.zero, i.size, i.bytes)) = some (some (.agg #[.pointer none, .pointer none, .pointer none]), 3, 24) := by kernel_rfl
/-- What holds at a round's head. -/
abbrev Pl13 := PlR 113 3 PoS
theorem po_stepG {G : Nat → Prop} {w : World} {A R : Ad} {V : Wv} {x : Ox} (h : Hf G w A R V V) (hx : PoS w x) (hG : ∀ k, x.own k → G k) (hc : V.cnt < 100000000) :
    Calls Tryz.prog 43 #[.agg x.vals.toArray, .agg #[.pointer (some ⟨A.p, 0, none⟩), .pointer (some ⟨R.p, 0, none⟩)]] w (PoG PoS G w A R V x) := po_step h hx hG hc
/-- A new Put, and the chapter's. -/
theorem put_ox {X : World} {p r : Nat} {b k s tg ref z z' : Int} (hz : z = if itemf b k s ≠ 0 ∧ 1 ≤ tg ∧ tg ≤ 255 ∧ 1 ≤ ref then 3 else 0) (hz' : z' = if itemf b k s ≠ 0 ∧ 1 ≤ tg ∧ tg ≤ 255 ∧ 1 ≤ ref then 1 else 0) (hr : ref ≤ 9223372036854775807) (o1 : Ob X p (puC b k s tg ref 0 z)) (o2 : Ob X r (roC z' false false b k s tg ref 0)) (hpr : p ≠ r) : PoS X ⟨[.pointer (some ⟨p, 0, none⟩), .pointer none, .pointer (some ⟨r, 0, none⟩)], fun j => j = p ∨ j = r⟩ := by
  by_cases hc : itemf b k s ≠ 0 ∧ 1 ≤ tg ∧ tg ≤ 255 ∧ 1 ≤ ref
  · rw [if_pos hc] at hz hz'
    subst hz hz'
    exact .inl ⟨p, r, b, k, s, tg, ref, 0, 1, rfl, rfl, hpr, by decide, o1, o2, ⟨by decide, by decide⟩, fun _ => ⟨hc.2.2.2, hr⟩⟩
  · rw [if_neg hc] at hz hz'
    subst hz hz'
    exact .inl ⟨p, r, b, k, s, tg, ref, 0, 0, rfl, rfl, hpr, by decide, o1, o2, ⟨by decide, by decide⟩, fun e => absurd rfl e⟩
theorem out_ox {X : World} {p r : Nat} {b k s z z' : Int} (hz : z = if itemf b k s ≠ 0 then 3 else 0) (hz' : z' = if itemf b k s ≠ 0 then 1 else 0) (o1 : Ob X p (ouC b k s 0 z false)) (o2 : Ob X r (roC z' false true b k s 0 0 0)) (hpr : p ≠ r) : PoS X ⟨[.pointer none, .pointer (some ⟨p, 0, none⟩), .pointer (some ⟨r, 0, none⟩)], fun j => j = p ∨ j = r⟩ := by
  by_cases hc : itemf b k s ≠ 0
  · rw [if_pos hc] at hz hz'
    subst hz hz'
    exact .inr ⟨p, r, b, k, s, 0, 1, false, rfl, rfl, hpr, by decide, o1, o2, ⟨by decide, by decide⟩⟩
  · rw [if_neg hc] at hz hz'
    subst hz hz'
    exact .inr ⟨p, r, b, k, s, 0, 0, false, rfl, rfl, hpr, by decide, o1, o2, ⟨by decide, by decide⟩⟩
/-- What a new operation leaves: its struct, in a block of its own, and its own blocks. -/
def Np13 (X wx : World) (s : Value) : Prop := ∃ (n : Nat) (x : Ox) (v0 v1 v2 : Value), s = .pointer (some ⟨n, 0, none⟩) ∧ x.vals = [v0, v1, v2] ∧ (wx.cell? ⟨n, 0, none⟩ = some v0 ∧ wx.cell? ⟨n, 1, none⟩ = some v1 ∧ wx.cell? ⟨n, 2, none⟩ = some v2) ∧ (wx.frozen? ⟨n, 0, none⟩ = false ∧ wx.frozen? ⟨n, 1, none⟩ = false ∧ wx.frozen? ⟨n, 2, none⟩ = false) ∧ PoS wx x ∧ (∀ j, x.own j → X.heap.size ≤ j ∧ j < wx.heap.size) ∧ X.heap.size ≤ n ∧ n < wx.heap.size ∧ (∀ j, x.own j → j ≠ n) ∧ Below X.heap.size X wx
theorem new3_at {X Y : World} {a b c : Value} {t : TypeId} (h : Below (X.alloc (.cells #[a, b, c] t)).heap.size (X.alloc (.cells #[a, b, c] t)) Y) : Y.cell? ⟨X.heap.size, 0, none⟩ = some a ∧ Y.cell? ⟨X.heap.size, 1, none⟩ = some b ∧ Y.cell? ⟨X.heap.size, 2, none⟩ = some c ∧ Y.frozen? ⟨X.heap.size, 0, none⟩ = false ∧ Y.frozen? ⟨X.heap.size, 1, none⟩ = false ∧ Y.frozen? ⟨X.heap.size, 2, none⟩ = false :=
  ⟨(h.cell (p := ⟨X.heap.size, 0, none⟩) (by simp)).trans (by simp), (h.cell (p := ⟨X.heap.size, 1, none⟩) (by simp)).trans (by simp), (h.cell (p := ⟨X.heap.size, 2, none⟩) (by simp)).trans (by simp), (h.frozen (p := ⟨X.heap.size, 0, none⟩) (by simp)).trans (by simp), (h.frozen (p := ⟨X.heap.size, 1, none⟩) (by simp)).trans (by simp), (h.frozen (p := ⟨X.heap.size, 2, none⟩) (by simp)).trans (by simp)⟩
theorem new3_up {X Y : World} {n : Nat} {a b c : Value} (h : Below X.heap.size X Y) (z0 : X.cell? ⟨n, 0, none⟩ = some a) (z1 : X.cell? ⟨n, 1, none⟩ = some b) (z2 : X.cell? ⟨n, 2, none⟩ = some c) (y0 : X.frozen? ⟨n, 0, none⟩ = false) (y1 : X.frozen? ⟨n, 1, none⟩ = false) (y2 : X.frozen? ⟨n, 2, none⟩ = false) : Y.cell? ⟨n, 0, none⟩ = some a ∧ Y.cell? ⟨n, 1, none⟩ = some b ∧ Y.cell? ⟨n, 2, none⟩ = some c ∧ Y.frozen? ⟨n, 0, none⟩ = false ∧ Y.frozen? ⟨n, 1, none⟩ = false ∧ Y.frozen? ⟨n, 2, none⟩ = false := by
  have hl : n < X.heap.size := World.block_lt_of_cell? _ _ z0
  exact ⟨(h.cell (p := ⟨n, 0, none⟩) hl).trans z0, (h.cell (p := ⟨n, 1, none⟩) hl).trans z1, (h.cell (p := ⟨n, 2, none⟩) hl).trans z2, (h.frozen (p := ⟨n, 0, none⟩) hl).trans y0, (h.frozen (p := ⟨n, 1, none⟩) hl).trans y1, (h.frozen (p := ⟨n, 2, none⟩) hl).trans y2⟩
theorem new3_atK {X Y : World} {a b c : Value} {t : TypeId} {Z : Prop} (h : Below (X.alloc (.cells #[a, b, c] t)).heap.size (X.alloc (.cells #[a, b, c] t)) Y) (k : Y.cell? ⟨X.heap.size, 0, none⟩ = some a → Y.cell? ⟨X.heap.size, 1, none⟩ = some b → Y.cell? ⟨X.heap.size, 2, none⟩ = some c → Y.frozen? ⟨X.heap.size, 0, none⟩ = false → Y.frozen? ⟨X.heap.size, 1, none⟩ = false → Y.frozen? ⟨X.heap.size, 2, none⟩ = false → Z) : Z := by
  obtain ⟨a, b, c, d, e, f⟩ := new3_at h
  exact k a b c d e f
theorem new3_atN {X Y : World} {n : Nat} {a b c : Value} {t : TypeId} {Z : Prop} (hn : n = X.heap.size) (h : Below (X.alloc (.cells #[a, b, c] t)).heap.size (X.alloc (.cells #[a, b, c] t)) Y) (k : Y.cell? ⟨n, 0, none⟩ = some a → Y.cell? ⟨n, 1, none⟩ = some b → Y.cell? ⟨n, 2, none⟩ = some c → Y.frozen? ⟨n, 0, none⟩ = false → Y.frozen? ⟨n, 1, none⟩ = false → Y.frozen? ⟨n, 2, none⟩ = false → Z) : Z := by
  subst hn
  exact new3_atK h k
theorem new3_upK {X Y : World} {n : Nat} {a b c : Value} {Z : Prop} (h : Below X.heap.size X Y) (z0 : X.cell? ⟨n, 0, none⟩ = some a) (z1 : X.cell? ⟨n, 1, none⟩ = some b) (z2 : X.cell? ⟨n, 2, none⟩ = some c) (y0 : X.frozen? ⟨n, 0, none⟩ = false) (y1 : X.frozen? ⟨n, 1, none⟩ = false) (y2 : X.frozen? ⟨n, 2, none⟩ = false) (k : Y.cell? ⟨n, 0, none⟩ = some a → Y.cell? ⟨n, 1, none⟩ = some b → Y.cell? ⟨n, 2, none⟩ = some c → Y.frozen? ⟨n, 0, none⟩ = false → Y.frozen? ⟨n, 1, none⟩ = false → Y.frozen? ⟨n, 2, none⟩ = false → Z) : Z := by
  obtain ⟨a, b, c, d, e, f⟩ := new3_up h z0 z1 z2 y0 y1 y2
  exact k a b c d e f
theorem np13_set {X w7 : World} {n q r : Nat} {C D : List Value} {x : Ox} {v0 v1 v2 c0 c1 c2 : Value} (hk7 : Below X.heap.size X w7) (o6 : Ob w7 q C) (o7 : Ob w7 r D) (z0 : w7.cell? ⟨n, 0, none⟩ = some c0) (z1 : w7.cell? ⟨n, 1, none⟩ = some c1) (z2 : w7.cell? ⟨n, 2, none⟩ = some c2) (y0 : w7.frozen? ⟨n, 0, none⟩ = false) (y1 : w7.frozen? ⟨n, 1, none⟩ = false) (y2 : w7.frozen? ⟨n, 2, none⟩ = false) (hn : X.heap.size ≤ n) (hqn : q ≠ n) (hrn : r ≠ n) (hq : X.heap.size ≤ q) (hr : X.heap.size ≤ r) (hv : x.vals = [v0, v1, v2]) (ho : x.own = fun j => j = q ∨ j = r) (hP : ∀ Y, Ob Y q C → Ob Y r D → PoS Y x) :
    Np13 X (((w7.setCell ⟨n, 0, none⟩ v0).setCell ⟨n, 1, none⟩ v1).setCell ⟨n, 2, none⟩ v2) (.pointer (some ⟨n, 0, none⟩)) := by
  have hlt : n < w7.heap.size := World.block_lt_of_cell? _ _ z0
  have k3 : Keeps (fun j => j = n) w7 (((w7.setCell ⟨n, 0, none⟩ v0).setCell ⟨n, 1, none⟩ v1).setCell ⟨n, 2, none⟩ v2) := (((Keeps.refl (fun j => j = n) w7).setCell (p := ⟨n, 0, none⟩) (.inl rfl) v0).setCell (p := ⟨n, 1, none⟩) (.inl rfl) v1).setCell (p := ⟨n, 2, none⟩) (.inl rfl) v2
  have so : ∀ {w : World} {i j : Nat} {u v : Value}, i ≠ j → w.cell? ⟨n, j, none⟩ = some v → (w.setCell ⟨n, i, none⟩ u).cell? ⟨n, j, none⟩ = some v := fun hij hc => set_other hij hc
  have q0 : (((w7.setCell ⟨n, 0, none⟩ v0).setCell ⟨n, 1, none⟩ v1).setCell ⟨n, 2, none⟩ v2).cell? ⟨n, 0, none⟩ = some v0 := so (by decide) (so (by decide) (World.cell?_setCell_same _ _ _ z0))
  have q1 : (((w7.setCell ⟨n, 0, none⟩ v0).setCell ⟨n, 1, none⟩ v1).setCell ⟨n, 2, none⟩ v2).cell? ⟨n, 1, none⟩ = some v1 := so (by decide) (World.cell?_setCell_same _ _ _ (so (by decide) z1))
  have q2 : (((w7.setCell ⟨n, 0, none⟩ v0).setCell ⟨n, 1, none⟩ v1).setCell ⟨n, 2, none⟩ v2).cell? ⟨n, 2, none⟩ = some v2 := World.cell?_setCell_same _ _ _ (so (by decide) (so (by decide) z2))
  have hsz := k3.size
  refine ⟨n, x, v0, v1, v2, rfl, hv, ⟨q0, q1, q2⟩, ⟨by simp [World.frozen?_setCell, y0], by simp [World.frozen?_setCell, y1], by simp [World.frozen?_setCell, y2]⟩, hP _ (o6.keep k3 hqn) (o7.keep k3 hrn), fun j oj => ?_, hn, by omega, fun j oj => ?_, bs_set (bs_set (bs_set hk7 hn) hn) hn⟩
  · rw [ho] at oj
    have := o6.lt
    have := o7.lt
    rcases oj with rfl | rfl
    · exact ⟨hq, by omega⟩
    · exact ⟨hr, by omega⟩
  · rw [ho] at oj
    rcases oj with rfl | rfl
    · exact hqn
    · exact hrn
theorem np13_new {X w7 : World} {q r : Nat} {C D : List Value} {x : Ox} {v0 v1 v2 : Value} {t : TypeId} (hk7 : Below X.heap.size X w7) (o6 : Ob w7 q C) (o7 : Ob w7 r D) (hq : X.heap.size ≤ q) (hr : X.heap.size ≤ r) (hv : x.vals = [v0, v1, v2]) (ho : x.own = fun j => j = q ∨ j = r) (hP : ∀ Y, Ob Y q C → Ob Y r D → PoS Y x) :
    Np13 X (w7.alloc (.cells #[v0, v1, v2] t)) (.pointer (some ⟨w7.heap.size, 0, none⟩)) := by
  have hb : Below w7.heap.size w7 (w7.alloc (.cells #[v0, v1, v2] t)) := bs_alloc (Below.refl _ _)
  have l6 := o6.lt
  have l7 := o7.lt
  have hs := hk7.size
  refine ⟨w7.heap.size, x, v0, v1, v2, rfl, hv, ⟨by simp, by simp, by simp⟩, ⟨by simp, by simp, by simp⟩, hP _ (o6.new hb) (o7.new hb), fun j oj => ?_, hs, by simp, fun j oj => ?_, bs_alloc hk7⟩
  · rw [ho] at oj
    rcases oj with rfl | rfl
    · exact ⟨hq, by simp; omega⟩
    · exact ⟨hr, by simp; omega⟩
  · rw [ho] at oj
    rcases oj with rfl | rfl
    · omega
    · omega
theorem po_same {w : World} {x : Ox} (hx : PoS w x) {v0 v1 v2 : Value} (hv : x.vals = [v0, v1, v2]) : Calls Tryz.prog 42 #[.agg #[v0, v1, v2]] w fun e w' => e = .returned (.bool true) ∧ Below w.heap.size w w' := by
  rcases hx with ⟨p, r, b, k, s, tg, ref, tags, n, hv', ho, hpr, hn, h1, h2, h3, h4⟩ | ⟨p, r, b, k, s, tags, n, g, hv', ho, hpr, hn, h1, h2, h3⟩
  · rw [hv] at hv'
    injection hv' with e0 hv'
    injection hv' with e1 hv'
    injection hv' with e2 hv'
    subst e0 e1 e2
    exact same_put h1 h2 (lfN_over n hn) rfl
  · rw [hv] at hv'
    injection hv' with e0 hv'
    injection hv' with e1 hv'
    injection hv' with e2 hv'
    subst e0 e1 e2
    exact same_out h1 h2 (lfN_over n hn) rfl
theorem po_one {w : World} {x : Ox} (hx : PoS w x) : ∀ u, u ∈ x.vals → u.oneCell' = true := by
  rcases hx with ⟨p, r, b, k, s, tg, ref, tags, n, hv', -⟩ | ⟨p, r, b, k, s, tags, n, g, hv', -⟩ <;> (rw [hv']; simp [Value.oneCell'])
theorem news3 {W : World} {v0 v1 v2 : Value} {t : TypeId} {j : Nat} {u : Value} (hj : [v0, v1, v2][j]? = some u) : (W.alloc (.cells #[v0, v1, v2] t)).cell? ((⟨W.heap.size, 0, none⟩ : Addr).add j) = some u :=
  World.news_of_block (B := W.heap.size) (cs := #[v0, v1, v2]) (t := t) (fr := (0, 0)) (by show (W.heap.push _)[W.heap.size]? = _; simp) j u hj
theorem po_stepV {G : Nat → Prop} {w : World} {A R : Ad} {V : Wv} {x : Ox} {v0 v1 v2 : Value} (hv : x.vals = [v0, v1, v2]) (h : Hf G w A R V V) (hx : PoS w x) (hG : ∀ k, x.own k → G k) (hc : V.cnt < 100000000) :
    Calls Tryz.prog 43 #[.agg #[v0, v1, v2], .agg #[.pointer (some ⟨A.p, 0, none⟩), .pointer (some ⟨R.p, 0, none⟩)]] w (PoG PoS G w A R V x) := by
  have := po_step h hx hG hc
  rw [hv] at this
  exact this
theorem pl13_app {B P : Nat} {W X0 X2 X Y : World} {A R : Ad} {s : Value} {k nl : Nat} {c : Int} {V : Wv} {L : List Ox} {G GL : Nat → Prop} (h1 : Hf G X0 A R V V) (h2 : ∀ j, j < B ∨ j = P → G j) (h3 : OxL 113 3 PoS GL X0 s L) (h4 : ∀ j, GL j → G j ∧ ¬ (j < B ∨ j = P)) (h5 : Kp (fun j => j < B ∨ j = P) W X0) (h6 : V.M = [] ∧ V.I.length ≤ 300 ∧ V.cnt ≤ c) (h7 : L.length ≤ k) (hb : Below X0.heap.size X0 X2) (hb2 : Below X2.heap.size X2 X) {x : Ox} {v0 v1 v2 : Value} (hx : PoS X2 x) (hv : x.vals = [v0, v1, v2]) (hxo : ∀ j, x.own j → X0.heap.size ≤ j ∧ j < X2.heap.size) (hnl : nl = L.length) {o : Obj} {g cap : Nat} (hown : Y.ownsRow 0 113 3 (.slice (some ⟨g, 0, none⟩) (nl + 1) cap) (nl + 1) (rowsX L ++ [v0, v1, v2])) (hgr : (X.alloc o).grownBy Y s.ownBlock) (hat : s.ownBlock = some g ∨ g = X.heap.size + 1) (hlt : g < Y.heap.size) :
    Pl13 B P W A R Y (.slice (some ⟨g, 0, none⟩) (nl + 1) cap) (k + 1) c := by
  subst hnl
  exact PlR.app stabPo h1 h2 h3 h4 h5 h6 h7 (below_then hb hb2) (x := x) (stabPo _ _ _ (fun _ => False) hx (Keeps.of_new hb2) (fun _ _ s => s)) (by rw [hv]; rfl) (fun j o => ⟨(hxo j o).1, Nat.lt_of_lt_of_le (hxo j o).2 hb2.size⟩) (by rw [hv]; exact hown) hgr hat hlt
set_option maxHeartbeats 8000000 in
set_option maxRecDepth 100000 in
theorem walk_PutsPlay (a0_0 : Int) (a0_1 : Int) (a0_2 : Int) (a0_3 : Int) (a0_4 : Int) (a0_5 : Bool) (a0_6 : Option Addr) (l0_6 c0_6 : Nat) (a0_7 : Option Addr) (l0_7 c0_7 : Nat) (a0_8 : Option Addr) (l0_8 c0_8 : Nat) (a0_9 : Int) (a1 : Option Addr) (l1 c1 : Nat) (w : World) (w0_0 : (Lit.int .i64 a0_0).wf = true) (w0_1 : (Lit.int .i64 a0_1).wf = true) (w0_2 : (Lit.int .i64 a0_2).wf = true) (w0_3 : (Lit.int .i64 a0_3).wf = true) (w0_4 : (Lit.int .i64 a0_4).wf = true) (w0_6 : Reads Tryz.prog w 24 (.slice a0_6 l0_6 c0_6)) (w0_7 : Reads Tryz.prog w 25 (.slice a0_7 l0_7 c0_7)) (w0_8 : Reads Tryz.prog w 26 (.slice a0_8 l0_8 c0_8)) (w0_9 : (Lit.int .i64 a0_9).wf = true) (w1 : Reads Tryz.prog w 103 (.slice a1 l1 c1)) :
    Calls Tryz.prog 7 #[.agg #[.int .i64 a0_0, .int .i64 a0_1, .int .i64 a0_2, .int .i64 a0_3, .int .i64 a0_4, .bool a0_5, .slice a0_6 l0_6 c0_6, .slice a0_7 l0_7 c0_7, .slice a0_8 l0_8 c0_8, .int .i64 a0_9], .slice a1 l1 c1] w fun e w' => e = .returned (.bool true) ∧ Below w.heap.size w w' := by
  obtain ⟨L, hLl, hG, hBg⟩ := first_open w0_6 w0_7 w0_8 a0_0 a0_1 a0_2 a0_3 a0_4 a0_9 a0_5
  obtain ⟨hm1, bA, oA, hA1, hA2⟩ := reads_acts13 (e := 106) Tryz.underlying103 (by kernel_rfl) (by kernel_rfl) w1
  have CG := Lib.hid hG
  have CB := Lib.hid hBg
  have HLL := Lib.hid hLl
  have HA1 := Lib.hid hA1
  have HA2 := Lib.hid hA2
  have HM1 := Lib.hid hm1
  clear hG hBg hLl hA1 hA2 hm1 w0_0 w0_1 w0_2 w0_3 w0_4 w0_6 w0_7 w0_8 w0_9 w1
  go_enter Tryz.func7, Tryz.ntmps7
  go_wp2_with fail
  obtain ⟨F, hF⟩ : ∃ F, F = w.heap.size := ⟨_, rfl⟩
  generalize hW : World.alloc w _ = W
  have bW : Below w.heap.size w W := by rw [← hW]; exact (Below.refl _ _).alloc (Nat.le_refl _) _
  have HBW := Lib.hid bW
  have KEEP : Hid (∀ X, Below W.heap.size W X → X.cell? ⟨F, 0, none⟩ = some (.int .i64 a0_0) ∧ X.cell? ⟨F, 1, none⟩ = some (.int .i64 a0_1) ∧ X.cell? ⟨F, 2, none⟩ = some (.int .i64 a0_2) ∧ X.cell? ⟨F, 3, none⟩ = some (.int .i64 a0_3) ∧ X.cell? ⟨F, 4, none⟩ = some (.int .i64 a0_4) ∧ X.cell? ⟨F, 5, none⟩ = some (.bool a0_5) ∧ X.cell? ⟨F, 6, none⟩ = some (.slice a0_6 l0_6 c0_6) ∧ X.cell? ⟨F, 7, none⟩ = some (.slice a0_7 l0_7 c0_7) ∧ X.cell? ⟨F, 8, none⟩ = some (.slice a0_8 l0_8 c0_8) ∧ X.cell? ⟨F, 9, none⟩ = some (.int .i64 a0_9)) := Lib.hid (fun X hb => by
    have lt : F < W.heap.size := by rw [← hW, hF]; simp
    have up : ∀ {j v}, W.cell? ⟨F, j, none⟩ = some v → X.cell? ⟨F, j, none⟩ = some v := fun {j v} hc => (hb.cell (p := ⟨F, j, none⟩) lt).trans hc
    refine ⟨up ?_, up ?_, up ?_, up ?_, up ?_, up ?_, up ?_, up ?_, up ?_, up ?_⟩ <;> (rw [← hW, hF]; exact new_at rfl rfl))
  rw [← hF]
  clear hW bW hF
  refine (CG.out _ HBW.out).mono ?_
  rintro e w1 ⟨r, rfl, k1, hr⟩
  obtain ⟨f0, f1, f2, f3, f4, f5, f6, f7, f8, f9⟩ := KEEP.out _ k1
  have HB1 := Lib.hid (below_then HBW.out k1)
  clear k1
  cases r with
  | true =>
    clear f0 f1 f2 f3 f4 f5 f6 f7 f8 f9 hr
    go_wp2_with (go_at_call 37; refine (lives13 _).mono ?_; rintro e w9 ⟨rfl, hk9⟩)
    go_ret
    exact ⟨rfl, below_then HB1.out hk9⟩
  | false =>
    have HBIG := Lib.hid (show BigOk l0_6 l0_7 l0_8 L from hr rfl)
    clear hr
    by_cases hl : l1 ≤ 200
    rotate_left
    · have hd : decide ((200 : Int) < (l1 : Int)) = true := decide_eq_true (by omega)
      clear f0 f1 f2 f3 f4 f5 f6 f7 f8 f9
      go_wp2_with (go_at_call 37; refine (lives13 _).mono ?_; rintro e w9 ⟨rfl, hk9⟩)
      go_ret
      exact ⟨rfl, below_then HB1.out hk9⟩
    have hd : decide ((200 : Int) < (l1 : Int)) = false := decide_eq_false (by omega)
    have HL := Lib.hid hl
    clear hl
    go_wp2_with fail
    refine (CB.out _ HB1.out HBIG.out).mono ?_
    rintro e w2 ⟨A, R, V, S, T, rfl, hP, ⟨hM0, -, -⟩, -, hI, hcnt, hST, k2⟩
    have hPG : PwG (fun k => k < w.heap.size) w2 A R V := (PwG.of_begin (L := L) hP hST k2).less (fun k g => Nat.lt_of_lt_of_le g HB1.out.size)
    have HG2 := Lib.hid hPG.hf
    have HB2 := Lib.hid (below_then HB1.out k2)
    have HV := Lib.hid (show V.M = [] ∧ V.I.length ≤ 300 ∧ V.cnt ≤ 1000 from ⟨hM0, by rw [hI, HLL.out]; have := HBIG.out.1; omega, hcnt⟩)
    clear hP hM0 hI hcnt hST k2 hPG f0 f1 f2 f3 f4 f5 f6 f7 f8 f9 KEEP CG CB hd
    obtain ⟨P, hPq⟩ : ∃ P, P = w2.heap.size := ⟨_, rfl⟩
    go_upto_region 4 with (fail)
    generalize hW3 : World.alloc w2 _ = W3
    rw [← hPq]
    have k23 : Below w2.heap.size w2 W3 := by rw [← hW3]; exact bs_alloc (Below.refl _ _)
    have p0 : W3.cell? ⟨P, 0, none⟩ = some (.pointer (some ⟨A.p, 0, none⟩)) := by rw [← hW3, hPq]; exact new_at rfl rfl
    have p1 : W3.cell? ⟨P, 1, none⟩ = some (.pointer (some ⟨R.p, 0, none⟩)) := by rw [← hW3, hPq]; exact new_at rfl rfl
    have HG3 := HG2.out.add k23 (q := P) (by omega) (by rw [← hW3, hPq]; simp)
    have HB3 := Lib.hid (below_then HB2.out k23)
    have HR0 : Hid (Pl13 w.heap.size P W3 A R W3 (.slice none 0 0) 0 1000) := Lib.hid (PlR.first HG3 (fun j hj => hj) HV.out.1 HV.out.2.1 HV.out.2.2)
    have PK : Hid (∀ X, Kp (fun j => j < w.heap.size ∨ j = P) W3 X → X.cell? ⟨P, 0, none⟩ = some (.pointer (some ⟨A.p, 0, none⟩)) ∧ X.cell? ⟨P, 1, none⟩ = some (.pointer (some ⟨R.p, 0, none⟩)) ∧ Below w.heap.size w X) := Lib.hid (fun X hk => ⟨hk.cell (p := ⟨P, 0, none⟩) (fun n => n (.inr rfl)) p0, hk.cell (p := ⟨P, 1, none⟩) (fun n => n (.inr rfl)) p1, HB3.out.trans ((hk.less (fun j h => .inl h)).below HB3.out.size)⟩)
    clear hW3 k23 hPq p0 p1 HG3 HG2 HV HB2 HB1
    go_wp2_with fail
    go_loopw [6, 7] (fun s6 i X => ∃ k : Nat, k ≤ l1 ∧ i = .int .i64 k ∧ Pl13 w.heap.size P W3 A R X s6 k (1000 + k)) (fun _ i _ => l1 - (intOf i).toNat)
    case atStart => exact ⟨0, by omega, rfl, HR0.out⟩
    case round =>
      clear HR0
      obtain ⟨k, hk, rfl, hR⟩ := hrel
      have HR := Lib.hid hR
      have HPK := Lib.hid (PK.out _ hR.kp)
      clear hR
      by_cases hlt : k < l1
      · obtain ⟨hlc, rfl⟩ := HA1.out (by omega)
        obtain ⟨x0, x1, x2, x3, x4, x5, x6, x7, x8, hx0, hx1, hrf, hsa, hsv, e0, e1, e2, e3, e4, e5, e6, e7, e8⟩ := (HA2.out k hlt).new HPK.out.2.2
        have hkc : k < c1 := by omega
        have j0 : (0 : Int) ≤ (k : Int) := by omega
        have j1 : (k : Int) < (l1 : Int) := by omega
        obtain ⟨Q, hQ⟩ : ∃ Q, Q = wr.heap.size := ⟨_, rfl⟩
        go_upto_region 9 with (fail)
        generalize hW5 : World.alloc wr _ = W5
        rw [← hQ]
        have hb5 : Below wr.heap.size wr W5 := by rw [← hW5]; exact bs_alloc (Below.refl _ _)
        have hsz : Q < W5.heap.size := by rw [← hW5, hQ]; simp
        have FX : Hid (∀ X, Below W5.heap.size W5 X → X.cell? ⟨Q, 0, none⟩ = some (.int .u8 x0) ∧ X.cell? ⟨Q, 1, none⟩ = some (.int .u8 x1) ∧ X.cell? ⟨Q, 2, none⟩ = some (.int .i64 x2) ∧ X.cell? ⟨Q, 3, none⟩ = some (.int .i64 x3) ∧ X.cell? ⟨Q, 4, none⟩ = some (.int .i64 x4) ∧ X.cell? ⟨Q, 5, none⟩ = some (.int .i64 x5) ∧ X.cell? ⟨Q, 6, none⟩ = some (.int .i64 x6) ∧ X.cell? ⟨Q, 7, none⟩ = some (.int .u64 x7) ∧ X.cell? ⟨Q, 8, none⟩ = some (.int .u64 x8)) := Lib.hid (fun X hb => by
          have up : ∀ {j v}, W5.cell? ⟨Q, j, none⟩ = some v → X.cell? ⟨Q, j, none⟩ = some v := fun {j v} hc => (hb.cell (p := ⟨Q, j, none⟩) hsz).trans hc
          refine ⟨up ?_, up ?_, up ?_, up ?_, up ?_, up ?_, up ?_, up ?_, up ?_⟩ <;> (rw [← hW5, hQ]; exact new_at rfl rfl))
        have HR5 := Lib.hid (HR.out.new stabPo hb5)
        have HQS := Lib.hid (show Below wr.heap.size wr W5 ∧ wr.heap.size ≤ Q ∧ Q < W5.heap.size from ⟨hb5, by omega, hsz⟩)
        have HPK5 := Lib.hid (PK.out _ HR5.out.kp)
        have HKL := Lib.hid (And.intro hk hlt)
        have hk200 : k < 200 := by have := HL.out; omega
        clear hW5 hb5 hQ hsz e0 e1 e2 e3 e4 e5 e6 e7 e8 HPK j0 j1 hlc hkc hk hlt
        obtain ⟨m, hm⟩ : ∃ m, x0.tmod 10 = m := ⟨_, rfl⟩
        have hmr : 0 ≤ m ∧ m < 10 := by rw [Int.tmod_eq_emod_of_nonneg hx0.1] at hm; omega
        obtain ⟨f0, f1, f2, f3, f4, f5, f6, f7, f8⟩ := FX.out _ (Below.refl _ _)
        obtain ⟨p0, p1, -⟩ := HPK5.out
        have hd5 : Below W5.heap.size W5 W5.drew := (Below.refl _ _).drew
        rcases (by omega : m = 3 ∨ (m ≠ 3 ∧ m < 3) ∨ (m ≠ 3 ∧ ¬ m < 3)) with h3 | ⟨h3, h2⟩ | ⟨h3, h2⟩
        · have t3 : (m == 3) = true := by simp [h3]
          clear f1 f2 f3 f4 f5 f6 h3 hmr hd5
          go_wp2_with (first
            | (go_at_call 21; refine (HR5.out.store stabPo (by have := HKL.out; have := HL.out; omega) hsa hsv).mono ?_; rintro e w6 ⟨rfl, h6⟩; clear p0 p1 f0 f7 f8; obtain ⟨p0, p1, -⟩ := PK.out _ h6.kp; have HR6 := Lib.hid h6; clear h6)
            | (go_at_call 15; refine HR6.out.same.mono ?_; rintro e w7 ⟨rfl, hk7⟩))
          go_roundw
          case rel => exact ⟨k + 1, by have := HKL.out; omega, by go_num, (HR6.out.new stabPo hk7).le (by omega) (by omega)⟩
          case measure => have := HKL.out; simp [intOf]; omega
        · have t3 : (m == 3) = false := by simp [h3]
          have t2 : decide (m < 3) = true := decide_eq_true h2
          have HM2 := Lib.hid (show (m == 2) = true ∨ (m == 2) = false by cases m == 2 <;> simp)
          clear h3 h2 hmr f1 f7 f8
          go_upto_region 13 with (fail)
          clear f0 t3 t2
          go_cut [10] from 21 to 95 (fun s10 wx => Np13 W5 wx s10)
          case first =>
            obtain ⟨z, hz⟩ : ∃ z : Int, z = if itemf x2 x3 x4 ≠ 0 ∧ 1 ≤ x5 ∧ x5 ≤ 255 ∧ 1 ≤ x6 then 3 else 0 := ⟨_, rfl⟩
            obtain ⟨z', hz'⟩ : ∃ z' : Int, z' = if itemf x2 x3 x4 ≠ 0 ∧ 1 ≤ x5 ∧ x5 ≤ 255 ∧ 1 ≤ x6 then 1 else 0 := ⟨_, rfl⟩
            have CP := Lib.hid (fun W => newPut x2 x3 x4 x5 x6 W hz)
            have CR := Lib.hid (fun W => rnewPut x2 x3 x4 x5 x6 W hz')
            have HZ := Lib.hid (And.intro hz hz')
            have KB : Hid (∀ X, Below W5.heap.size W5 X → X.cell? ⟨Q, 2, none⟩ = some (.int .i64 x2) ∧ X.cell? ⟨Q, 3, none⟩ = some (.int .i64 x3) ∧ X.cell? ⟨Q, 4, none⟩ = some (.int .i64 x4) ∧ X.cell? ⟨Q, 5, none⟩ = some (.int .i64 x5) ∧ X.cell? ⟨Q, 6, none⟩ = some (.int .i64 x6)) := Lib.hid (fun X hb => by
              obtain ⟨-, -, a, b, c, d, e, -⟩ := FX.out X hb
              exact ⟨a, b, c, d, e⟩)
            clear hz hz' f2 f3 f4 f5 f6 p0 p1
            obtain ⟨f2, f3, f4, f5, f6⟩ := KB.out _ hd5
            go_region_held3 (fun X => X.cell? ⟨Q, 2, none⟩ = some (.int .i64 x2) ∧ X.cell? ⟨Q, 3, none⟩ = some (.int .i64 x3) ∧ X.cell? ⟨Q, 4, none⟩ = some (.int .i64 x4) ∧ X.cell? ⟨Q, 5, none⟩ = some (.int .i64 x5) ∧ X.cell? ⟨Q, 6, none⟩ = some (.int .i64 x6))
              (first | exact ⟨by assumption, by assumption, by assumption, by assumption, by assumption⟩ | exact KB.out _ (by assumption) | exact KB.out _ (bs_alloc (by assumption)) | exact KB.out _ (bs_set (bs_set (bs_set hk7 (Nat.le_refl _)) (Nat.le_refl _)) (Nat.le_refl _)) | exact KB.out _ (bs_set (bs_set (bs_set hk7 hk6.size) hk6.size) hk6.size))
              (first
                | (go_at_call 38; ((with_reducible refine (CP.out _).mono ?_); rintro e w6 ⟨q, rfl, o6, hq6, hb6⟩; have hk6 : Below W5.heap.size W5 w6 := (by first | exact below_then hd5 hb6 | exact below_then (bs_alloc hd5) hb6); (first | (refine new3_atN (n := W5.heap.size) rfl hb6 (fun z0 z1 z2 y0 y1 y2 => ?_)) | (refine new3_atN (X := W5.drew) (n := W5.heap.size) rfl hb6 (fun z0 z1 z2 y0 y1 y2 => ?_)) | (refine new3_atN (X := W5) (n := W5.heap.size) rfl hb6 (fun z0 z1 z2 y0 y1 y2 => ?_)) | (trace_state)); clear f2 f3 f4 f5 f6; obtain ⟨f2, f3, f4, f5, f6⟩ := KB.out _ hk6))
                | (go_at_call 39; ((with_reducible refine (CR.out _).mono ?_); rintro e w7 ⟨r, rfl, o7, hq7, hb7⟩; have hk67 : Below w6.heap.size w6 w7 := (by first | exact hb7 | exact below_then (bs_alloc (Below.refl _ _)) hb7); have hk7 : Below W5.heap.size W5 w7 := below_then hk6 hk67; (first | (refine new3_upK hk67 z0 z1 z2 y0 y1 y2 (fun z0 z1 z2 y0 y1 y2 => ?_)) | (refine new3_atK hb7 (fun z0 z1 z2 y0 y1 y2 => ?_)) | skip); clear f2 f3 f4 f5 f6; obtain ⟨f2, f3, f4, f5, f6⟩ := KB.out _ hk7)))
            · have l6 := o6.lt
              have h6 : W5.heap.size ≤ q := hq6
              have h7 : w6.heap.size ≤ r := hq7
              have hs := hk6.size
              have O6 := Lib.hid (o6.new hk67)
              have O7 := Lib.hid o7
              have HK7 := Lib.hid hk7
              have HS := Lib.hid (show q ≠ r ∧ W5.heap.size ≤ q ∧ W5.heap.size ≤ r by omega)
              clear f2 f3 f4 f5 f6 hq6 hq7 hb6 hb7 hk6 hk67 hk7 o6 o7 l6 h6 h7 hs
              go_wp2_with fail
              go_meet
              case rel => exact np13_new (x := ⟨[.pointer (some ⟨q, 0, none⟩), .pointer none, .pointer (some ⟨r, 0, none⟩)], fun j => j = q ∨ j = r⟩) HK7.out O6.out O7.out HS.out.2.1 HS.out.2.2 rfl rfl (fun Y a b => put_ox HZ.out.1 HZ.out.2 hrf a b HS.out.1)
            · have l6 := o6.lt
              have h6 : W5.heap.size ≤ q := hq6
              have h7 : w6.heap.size + 1 ≤ r := by simpa using hq7
              have hs := hk6.size
              have O6 := Lib.hid (o6.new hk67)
              have O7 := Lib.hid o7
              have HK7 := Lib.hid hk7
              have HS := Lib.hid (show q ≠ r ∧ W5.heap.size ≤ q ∧ W5.heap.size ≤ r ∧ W5.heap.size ≤ w6.heap.size ∧ q ≠ w6.heap.size ∧ r ≠ w6.heap.size by omega)
              have HZZ := Lib.hid (And.intro z0 (And.intro z1 (And.intro z2 (And.intro y0 (And.intro y1 y2)))))
              clear f2 f3 f4 f5 f6 hq6 hq7 hb6 hb7 hk6 hk67 hk7 o6 o7 l6 h6 h7 hs z0 z1 z2 y0 y1 y2
              go_wp2_with fail
              go_meet
              case rel => exact np13_set (x := ⟨[.pointer (some ⟨q, 0, none⟩), .pointer none, .pointer (some ⟨r, 0, none⟩)], fun j => j = q ∨ j = r⟩) HK7.out O6.out O7.out HZZ.out.1 HZZ.out.2.1 HZZ.out.2.2.1 HZZ.out.2.2.2.1 HZZ.out.2.2.2.2.1 HZZ.out.2.2.2.2.2 HS.out.2.2.2.1 HS.out.2.2.2.2.1 HS.out.2.2.2.2.2 HS.out.2.1 HS.out.2.2.1 rfl rfl (fun Y a b => put_ox HZ.out.1 HZ.out.2 hrf a b HS.out.1)
            · have l6 := o6.lt
              have h6 : W5.heap.size + 1 ≤ q := by simpa using hq6
              have h7 : w6.heap.size ≤ r := hq7
              have hs := hk6.size
              have O6 := Lib.hid (o6.new hk67)
              have O7 := Lib.hid o7
              have HK7 := Lib.hid hk7
              have HS := Lib.hid (show q ≠ r ∧ W5.heap.size ≤ q ∧ W5.heap.size ≤ r ∧ W5.heap.size ≤ W5.heap.size ∧ q ≠ W5.heap.size ∧ r ≠ W5.heap.size by omega)
              have HZZ := Lib.hid (And.intro z0 (And.intro z1 (And.intro z2 (And.intro y0 (And.intro y1 y2)))))
              clear f2 f3 f4 f5 f6 hq6 hq7 hb6 hb7 hk6 hk67 hk7 o6 o7 l6 h6 h7 hs z0 z1 z2 y0 y1 y2
              go_wp2_with fail
              go_meet
              case rel => exact np13_set (x := ⟨[.pointer (some ⟨q, 0, none⟩), .pointer none, .pointer (some ⟨r, 0, none⟩)], fun j => j = q ∨ j = r⟩) HK7.out O6.out O7.out HZZ.out.1 HZZ.out.2.1 HZZ.out.2.2.1 HZZ.out.2.2.2.1 HZZ.out.2.2.2.2.1 HZZ.out.2.2.2.2.2 HS.out.2.2.2.1 HS.out.2.2.2.2.1 HS.out.2.2.2.2.2 HS.out.2.1 HS.out.2.2.1 rfl rfl (fun Y a b => put_ox HZ.out.1 HZ.out.2 hrf a b HS.out.1)
          have HN1 := Lib.hid hcut
          clear hcut f2 f3 f4 f5 f6 p0 p1
          generalize wc = X1 at *
          obtain ⟨n, x, v0, v1, v2, rfl, hxv, ⟨z0, z1, z2⟩, ⟨y0, y1, y2⟩, -, -, hn5, -, -, hb1⟩ := HN1.out
          have HZ1 := Lib.hid (And.intro z0 (And.intro z1 (And.intro z2 (And.intro y0 (And.intro y1 (And.intro y2 (And.intro hn5 hb1)))))))
          clear z0 z1 z2 y0 y1 y2 hn5 hb1 hxv
          go_upto_if 58 with (fail)
          go_cut [10] from 21 to 95 (fun s10 wx => Np13 W5 wx s10)
          case first =>
            rcases HM2.out with t22 | t22
            · obtain ⟨z, hz⟩ : ∃ z : Int, z = if itemf x2 x3 x4 ≠ 0 then 3 else 0 := ⟨_, rfl⟩
              obtain ⟨z', hz'⟩ : ∃ z' : Int, z' = if itemf x2 x3 x4 ≠ 0 then 1 else 0 := ⟨_, rfl⟩
              have CP := Lib.hid (fun W => newOut x2 x3 x4 W hz)
              have CR := Lib.hid (fun W => rnewOut x2 x3 x4 W hz')
              have HZ := Lib.hid (And.intro hz hz')
              have HB1 := Lib.hid HZ1.out.2.2.2.2.2.2.2
              have KBW : Hid (∀ X, Below W5.heap.size W5 X → X.cell? ⟨Q, 2, none⟩ = some (.int .i64 x2) ∧ X.cell? ⟨Q, 3, none⟩ = some (.int .i64 x3) ∧ X.cell? ⟨Q, 4, none⟩ = some (.int .i64 x4)) := Lib.hid (fun X hb => by
                obtain ⟨-, -, a, b, c, -⟩ := FX.out X hb
                exact ⟨a, b, c⟩)
              have KB : Hid (∀ X, Below X1.heap.size X1 X → X.cell? ⟨Q, 2, none⟩ = some (.int .i64 x2) ∧ X.cell? ⟨Q, 3, none⟩ = some (.int .i64 x3) ∧ X.cell? ⟨Q, 4, none⟩ = some (.int .i64 x4)) := Lib.hid (fun X hb => by
                obtain ⟨-, -, a, b, c, -⟩ := FX.out X (below_then HB1.out hb)
                exact ⟨a, b, c⟩)
              have hd1 : Below X1.heap.size X1 X1.drew := (Below.refl _ _).drew
              have hn5 := HZ1.out.2.2.2.2.2.2.1
              have hnl : n < X1.heap.size := World.block_lt_of_cell? _ _ HZ1.out.1
              clear hz hz'
              obtain ⟨f2, f3, f4⟩ := KB.out _ hd1
              go_wp2_with fail
              go_region_held3 (fun X => X.cell? ⟨Q, 2, none⟩ = some (.int .i64 x2) ∧ X.cell? ⟨Q, 3, none⟩ = some (.int .i64 x3) ∧ X.cell? ⟨Q, 4, none⟩ = some (.int .i64 x4))
                (first | exact ⟨by assumption, by assumption, by assumption⟩ | exact KBW.out _ (bs_set (bs_set (bs_set hkw hn5) hn5) hn5))
                (first
                  | (go_at_call 40; ((with_reducible refine (CP.out _).mono ?_); rintro e w6 ⟨q, rfl, o6, hq6, hb6⟩; have hk6 : Below X1.heap.size X1 w6 := below_then hd1 hb6; clear f2 f3 f4; obtain ⟨f2, f3, f4⟩ := KB.out _ hk6))
                  | (go_at_call 41; ((with_reducible refine (CR.out _).mono ?_); rintro e w7 ⟨r, rfl, o7, hq7, hb7⟩; have hk7 : Below X1.heap.size X1 w7 := below_then hk6 hb7; have hkw : Below W5.heap.size W5 w7 := below_then HB1.out hk7; refine new3_upK hk7 HZ1.out.1 HZ1.out.2.1 HZ1.out.2.2.1 HZ1.out.2.2.2.1 HZ1.out.2.2.2.2.1 HZ1.out.2.2.2.2.2.1 (fun z0 z1 z2 y0 y1 y2 => ?_); clear f2 f3 f4; obtain ⟨f2, f3, f4⟩ := KB.out _ hk7)))
              have l6 := o6.lt
              have h6 : X1.heap.size ≤ q := hq6
              have h7 : w6.heap.size ≤ r := hq7
              have hs := HB1.out.size
              have hs6 := hk6.size
              have hnp := np13_set (v0 := .pointer none) (v1 := .pointer (some ⟨q, 0, none⟩)) (v2 := .pointer (some ⟨r, 0, none⟩)) (x := ⟨[.pointer none, .pointer (some ⟨q, 0, none⟩), .pointer (some ⟨r, 0, none⟩)], fun j => j = q ∨ j = r⟩) hkw (o6.new hb7) o7 z0 z1 z2 y0 y1 y2 hn5 (by omega) (by omega) (by omega) (by omega) rfl rfl (fun Y a b => out_ox HZ.out.1 HZ.out.2 a b (by omega))
              have q1 : ((((w7.setCell ⟨n, 0, none⟩ (.pointer none)).setCell ⟨n, 1, none⟩ (.pointer (some ⟨q, 0, none⟩))).setCell ⟨n, 2, none⟩ (.pointer (some ⟨r, 0, none⟩))).cell? ⟨n, 1, none⟩) = some (.pointer (some ⟨q, 0, none⟩)) := set_other (by decide) (World.cell?_setCell_same _ _ _ (set_other (by decide) z1))
              clear f2 f3 f4 hq6 hq7 hb6 hb7 hk6 hk7 hkw o6 o7 l6 h6 h7 hs hs6 z0 z1 z2 y0 y1 y2 hd1 hn5 hnl
              go_upto_region 16 with (fail)
              generalize hW7 : World.setCell (World.setCell (World.setCell w7 _ _) _ _) _ _ = W7 at *
              have HNP := Lib.hid hnp
              clear hW7 hnp
              go_wp2_with fail
              go_meet
              case rel => exact HNP.out
            · clear HZ1
              go_wp2_with fail
              go_meet
              case rel => exact HN1.out
          clear HN1 HZ1
          have HN2 := Lib.hid hcut
          clear hcut
          generalize wc = X2 at *
          obtain ⟨n2, x, v0, v1, v2, rfl, hxv, ⟨z0, z1, z2⟩, -, hxs, hxo, hn5, hnl, -, hb2⟩ := HN2.out
          have CS := Lib.hid (po_same hxs hxv)
          have HX := Lib.hid (And.intro hxv (And.intro hxs (And.intro hxo hb2)))
          have HR2 := Lib.hid (And.intro z0 (And.intro z1 (And.intro z2 hnl)))
          obtain ⟨V, LL, G, GL, h1, h2, h3, h4, h5, h6, h7⟩ := HR5.out
          have HA := Lib.hid (And.intro h1 (And.intro h2 (And.intro h4 (And.intro h5 (And.intro h6 h7)))))
          have H3 := Lib.hid h3
          have hown2 := own_below h3.row hb2
          obtain ⟨nl, hnl2⟩ : ∃ nl, nl = LL.length := ⟨_, rfl⟩
          have HNL := Lib.hid hnl2
          have hnlk : nl ≤ k := by rw [hnl2]; exact h7
          rw [← hnl2] at hown2
          have HO2 := Lib.hid hown2
          obtain ⟨i0, hi, hz0, hz1, hz2⟩ := info_parts info_op13
          clear hxv hxs hxo hn5 hnl hb2 h1 h2 h3 h4 h5 h6 h7 hown2 hnl2 HN2
          go_wp2_with (first
            | (go_at_call 42; ((with_reducible refine CS.out.mono ?_); rintro e w8 ⟨rfl, hb8⟩; replace z0 := (hb8.cell (p := ⟨n2, 0, none⟩) HR2.out.2.2.2).trans z0; replace z1 := (hb8.cell (p := ⟨n2, 1, none⟩) HR2.out.2.2.2).trans z1; replace z2 := (hb8.cell (p := ⟨n2, 2, none⟩) HR2.out.2.2.2).trans z2;have HO8 := Lib.hid (own_below HO2.out hb8)))
            | (at_builtin; refine wpList_append_lies _ rfl _ _ 104 rfl 0 113 i0 _ 3 24 Tryz.underlying104 hi hz0 hz1 hz2 rfl (by decide) u6 nl (rowsX LL) rfl (HO8.out.alloc _) ⟨w8.heap.size, 0, none⟩ 1 1 [v0, v1, v2] rfl rfl ?p1 ?p2 (by decide) ?p3 ?p4 (Nat.zero_le _) (w8.heap.size + 1) (by simp) ?_))
          case p1 => intro j u hj; exact news3 hj
          case p2 => intro u hu; exact po_one HX.out.2.1 u (by rw [HX.out.1]; exact hu)
          case p3 => unfold maxLen; omega
          case p4 => omega
          intro g cap w9 hown9 hgrow hat hlt9
          have HPL := Lib.hid (pl13_app HA.out.1 HA.out.2.1 H3.out HA.out.2.2.1 HA.out.2.2.2.1 HA.out.2.2.2.2.1 HA.out.2.2.2.2.2 HX.out.2.2.2 hb8 HX.out.2.1 HX.out.1 HX.out.2.2.1 HNL.out hown9 hgrow hat hlt9)
          clear hown9 hgrow hat hlt9 hb8 z0 z1 z2 HO8 HO2 HX HR2 CS HA H3 hi hz0 hz1 hz2 hnlk
          obtain ⟨p0, p1, -⟩ := PK.out _ HPL.out.kp
          go_wp2_with (go_at_call 15; refine HPL.out.same.mono ?_; rintro e w10 ⟨rfl, hk10⟩)
          go_roundw
          case rel => exact ⟨k + 1, by have := HKL.out; omega, by go_num, (HPL.out.new stabPo hk10).le (by omega) (by omega)⟩
          case measure => have := HKL.out; simp [intOf]; omega
        · have t3 : (m == 3) = false := by simp [h3]
          have t2 : decide (m < 3) = false := decide_eq_false h2
          clear h3 h2 hmr f2 f3 f4 f5 f6 f7 f8
          rcases HR5.out.form with ⟨a, cap, rfl⟩ | ⟨g, n, cap, hn0, hnc, hnk, rfl⟩
          · go_upto_region 21 with (fail)
            clear f0 t3 t2
            go_wp2_with fail
            go_quiet (fail)
            have HRq := Lib.hid (HR5.out.new stabPo (belowNd (Below.refl _ _) nq))
            obtain ⟨p0, p1, -⟩ := PK.out _ HRq.out.kp
            go_wp2_with (go_at_call 15; refine HRq.out.same.mono ?_; rintro e w10 ⟨rfl, hk10⟩)
            go_roundw
            case rel => exact ⟨k + 1, by have := HKL.out; omega, by go_num, (HRq.out.new stabPo hk10).le (by omega) (by omega)⟩
            case measure => have := HKL.out; simp [intOf]; omega
          · obtain ⟨i, hi, hin⟩ : ∃ i : Nat, x1.tmod (n : Int) = (i : Int) ∧ i < n := by
              have h1 := Int.emod_nonneg x1 (show (n : Int) ≠ 0 by omega)
              have h2 := Int.emod_lt_of_pos x1 (show (0 : Int) < n by omega)
              exact ⟨(x1.tmod n).toNat, by rw [Int.tmod_eq_emod_of_nonneg hx1.1]; omega, by rw [Int.tmod_eq_emod_of_nonneg hx1.1]; omega⟩
            obtain ⟨x, hxs, -, hcell, hstep⟩ := HR.out.step stabPo hin
            obtain ⟨v0, v1, v2, hv⟩ := hxs.three
            have hwd : Below wr.heap.size wr W5.drew := HQS.out.1.drew
            have CS := Lib.hid (hstep 43 #[.agg #[v0, v1, v2], .agg #[.pointer (some ⟨A.p, 0, none⟩), .pointer (some ⟨R.p, 0, none⟩)]] W5.drew hwd (fun V G hf hx ho hc => po_stepV hv hf hx ho (by have := HL.out; omega)))
            have c0 : W5.drew.cell? ⟨g, i * 3, none⟩ = some v0 := hcell _ hwd 0 v0 (by rw [hv]; rfl)
            have c1 : W5.drew.cell? ⟨g, i * 3 + 1, none⟩ = some v1 := hcell _ hwd 1 v1 (by rw [hv]; rfl)
            have c2 : W5.drew.cell? ⟨g, i * 3 + 2, none⟩ = some v2 := hcell _ hwd 2 v2 (by rw [hv]; rfl)
            have HV := Lib.hid hv
            have mk : IntKind.i64.wrap x1 = x1 := IntWalk.i64_in _ (by omega)
            have hnz : ((n : Int) == 0) = false := by simp; omega
            have dn2 : ¬ n = 0 := by omega
            have dn3 : ¬ (n : Int) = 0 := by omega
            have mi2 : IntKind.i64.wrap (i : Int) = (i : Int) := IntWalk.i64_in _ (by omega)
            have hni : (0 : Int) < (n : Int) := by omega
            have hd0 : decide ((0 : Int) < (n : Int)) = true := decide_eq_true hni
            have j0 : (0 : Int) ≤ (i : Int) := by omega
            have j1 : (i : Int) < (n : Int) := by omega
            have hic : i < cap := by omega
            clear hxs hcell hstep hv hwd
            go_upto_region 21 with (fail)
            clear f0 t3 t2
            go_wp2_with fail
            have s1 : W5.drew.cell? ⟨Q, 1, none⟩ = some (.int .u8 x1) := f1
            have q0 : W5.drew.cell? ⟨P, 0, none⟩ = some (.pointer (some ⟨A.p, 0, none⟩)) := p0
            have q1 : W5.drew.cell? ⟨P, 1, none⟩ = some (.pointer (some ⟨R.p, 0, none⟩)) := p1
            clear f1 p0 p1
            go_region_held3 (fun X => X.cell? ⟨Q, 1, none⟩ = some (.int .u8 x1) ∧ X.cell? ⟨g, i * 3, none⟩ = some v0 ∧ X.cell? ⟨g, i * 3 + 1, none⟩ = some v1 ∧ X.cell? ⟨g, i * 3 + 2, none⟩ = some v2 ∧ X.cell? ⟨P, 0, none⟩ = some (.pointer (some ⟨A.p, 0, none⟩)) ∧ X.cell? ⟨P, 1, none⟩ = some (.pointer (some ⟨R.p, 0, none⟩)))
              (first | exact ⟨by assumption, by assumption, by assumption, by assumption, by assumption, by assumption⟩)
              (first
                | (go_at_call 43; ((with_reducible refine CS.out.mono ?_); rintro e w6 ⟨rfl, h6, k6, c6⟩; replace s1 := k6.cell (p := ⟨Q, 1, none⟩) (fun n => n HQS.out.2) s1; clear c0 c1 c2 q0 q1; have c0 : w6.cell? ⟨g, i * 3, none⟩ = some v0 := c6 0 v0 (by rw [HV.out]; rfl); have c1 : w6.cell? ⟨g, i * 3 + 1, none⟩ = some v1 := c6 1 v1 (by rw [HV.out]; rfl); have c2 : w6.cell? ⟨g, i * 3 + 2, none⟩ = some v2 := c6 2 v2 (by rw [HV.out]; rfl); obtain ⟨q0, q1, -⟩ := PK.out _ h6.kp; have HR6 := Lib.hid h6; clear h6 k6 c6)))
            go_wp2_with (go_at_call 15; refine HR6.out.same.mono ?_; rintro e w10 ⟨rfl, hk10⟩)
            go_roundw
            case rel => exact ⟨k + 1, by have := HKL.out; omega, by go_num, (HR6.out.new stabPo hk10).le (by omega) (by omega)⟩
            case measure => have := HKL.out; simp [intOf]; omega
      · obtain rfl : l1 = k := by omega
        obtain ⟨p0, p1, hbw⟩ := HPK.out
        have HBX := Lib.hid hbw
        clear hbw
        go_wp2_with (first
          | (go_at_call 13; refine (HR.out.all (by have := HL.out; omega)).mono ?_; rintro e w9 ⟨rfl, hk9⟩)
          | (go_at_call 37; refine (lives13 _).mono ?_; rintro e w10 ⟨rfl, hk10⟩))
        go_ret
        exact ⟨rfl, below_then (below_then HBX.out hk9) hk10⟩
end Go.Proofs.YthlebfiedejhhaaGreat
