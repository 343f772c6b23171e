/- The chapter's Puts and Outs. -/
import Derived.Test.YtepkpbhhiianpaaGreatHf
import Derived.Test.YtepkpbhhiianpaaGreatGPu
import Derived.Deep.AppendLies
namespace Go.Proofs.YtepkpbhhiianpaaGreat
open Go.RowKit Go.Maps
set_option linter.unusedVariables false
/-- The chapter's operation. -/
def roC (ln : Int) (g o : Bool) (b k s tg ref wd : Int) : List Value := [.int .i64 ln, .bool g, .bool o, .int .i64 b, .int .i64 k, .int .i64 s, .int .i64 tg, .int .i64 ref, .int .u64 wd]
/-- What a step of it leaves. -/
def RoP (G : Nat → Prop) (A R : Ad) (V V2 : Wv) (q : Nat) (D : List Value) (w : World) (e : Ending) (w' : World) : Prop := e = .returned (.tuple #[]) ∧ Hf G w' A R V V2 ∧ Ob w' q D ∧ Kp (fun j => G j ∧ j ≠ q) w w'
section
variable {G : Nat → Prop} {w : World} {A R : Ad} {V V2 : Wv} {q : Nat} {b k s tg ref wd a z y : Int} {g o : Bool}
end
end Go.Proofs.YtepkpbhhiianpaaGreat
/- Next: A list of operations beside a pair of worlds: each has blocks of its own. -/
namespace Go.Proofs.YtepkpbhhiianpaaGreat
open Go.RowKit Go.Maps
set_option linter.unusedVariables false
/-- An operation in a list: its cells there, its own blocks. -/
structure Ox where
  vals : List Value
  own : Nat → Prop
/-- What an operation is stands as long as its own blocks do. -/
def Stab (P : World → Ox → Prop) : Prop := ∀ (w W : World) (x : Ox) (U : Nat → Prop), P w x → Keeps U w W → (∀ k, x.own k → ¬ U k) → P W x
def rowsX (L : List Ox) : List Value := L.flatMap (fun x => x.vals)
theorem rowsX_len {n : Nat} : ∀ (L : List Ox), (∀ x, x ∈ L → x.vals.length = n) → (rowsX L).length = L.length * n
  | [], _ => by simp [rowsX]
  | x :: L, h => by
    have := rowsX_len L (fun y hy => h y (List.mem_cons_of_mem _ hy))
    unfold rowsX at *
    rw [List.flatMap_cons, List.length_append, this, h x (List.mem_cons_self ..), List.length_cons, Nat.succ_mul]
    omega
theorem rowsX_at {n : Nat} : ∀ (L : List Ox), (∀ x, x ∈ L → x.vals.length = n) → ∀ i x, L[i]? = some x → ∀ j, j < n → (rowsX L)[i * n + j]? = x.vals[j]?
  | [], _, i, x, h, _, _ => by simp at h
  | y :: L, h, i, x, hi, j, hj => by
    have hy := h y (List.mem_cons_self ..)
    unfold rowsX
    rw [List.flatMap_cons]
    cases i with
    | zero =>
      simp at hi
      subst hi
      rw [List.getElem?_append_left (by omega)]
      congr 1
      omega
    | succ i =>
      rw [List.getElem?_append_right (by rw [hy, Nat.succ_mul]; omega), hy]
      have := rowsX_at L (fun z hz => h z (List.mem_cons_of_mem _ hz)) i x (by simpa using hi) j hj
      unfold rowsX at this
      rw [← this]
      congr 1
      rw [Nat.succ_mul]
      omega
/-- The slice that has them. -/
structure OxL (e : TypeId) (size : Nat) (P : World → Ox → Prop) (G : Nat → Prop) (w : World) (s : Value) (L : List Ox) : Prop where
  row : w.ownsRow 0 e size s L.length (rowsX L)
  len : ∀ x, x ∈ L → x.vals.length = size
  all : ∀ x, x ∈ L → P w x ∧ ∀ k, x.own k → G k
  dis : ∀ (i j : Nat) (x y : Ox), i ≠ j → L[i]? = some x → L[j]? = some y → ∀ k, x.own k → ¬ y.own k
  gin : ∀ g, s.ownBlock = some g → G g ∧ ∀ x, x ∈ L → ¬ x.own g
section
variable {e : TypeId} {size : Nat} {P : World → Ox → Prop} {G G' : Nat → Prop} {w W : World} {s : Value} {L : List Ox} {U : Nat → Prop}
theorem OxL.nil (e : TypeId) (size : Nat) (P : World → Ox → Prop) (G : Nat → Prop) (w : World) : OxL e size P G w (.slice none 0 0) [] :=
  ⟨World.ownsRow_nil _ _ _ _, fun x h => by simp at h, fun x h => by simp at h, fun i j x y _ h => by simp at h, fun g h => by simp [Value.ownBlock] at h⟩
theorem OxL.more (h : OxL e size P G w s L) (hG : ∀ k, G k → G' k) : OxL e size P G' w s L :=
  ⟨h.row, h.len, fun x hx => ⟨(h.all x hx).1, fun k o => hG k ((h.all x hx).2 k o)⟩, h.dis, fun g hg => ⟨hG g (h.gin g hg).1, (h.gin g hg).2⟩⟩
theorem OxL.keep (h : OxL e size P G w s L) (hP : Stab P) (hk : Keeps U w W) (hU : ∀ k, G k → ¬ U k) : OxL e size P G W s L :=
  ⟨Keeps.ownsRow h.row hk (fun g hg u => hU g (h.gin g hg).1 u), h.len, fun x hx => ⟨hP _ _ _ _ (h.all x hx).1 hk (fun k o u => hU k ((h.all x hx).2 k o) u), (h.all x hx).2⟩, h.dis, h.gin⟩
/-- A step of one of them. -/
theorem OxL.step (h : OxL e size P G w s L) (hP : Stab P) {i : Nat} {x : Ox} (hi : L[i]? = some x) (hk : Keeps U w W) (hU : ∀ k, G k → U k → x.own k) (hx : P W x) : OxL e size P G W s L := by
  refine ⟨Keeps.ownsRow h.row hk (fun g hg u => (h.gin g hg).2 x (List.mem_of_getElem? hi) (hU g (h.gin g hg).1 u)), h.len, fun y hy => ⟨?_, (h.all y hy).2⟩, h.dis, h.gin⟩
  obtain ⟨j, hj⟩ := List.getElem?_of_mem hy
  by_cases e : j = i
  · subst e
    rw [hi] at hj
    injection hj with hj
    rw [← hj]
    exact hx
  · exact hP _ _ _ _ (h.all y hy).1 hk (fun k o u => h.dis j i y x e hj hi k o (hU k ((h.all y hy).2 k o) u))
/-- Where an element lies. -/
theorem OxL.at_ (h : OxL e size P G w s L) {i : Nat} {x : Ox} (hi : L[i]? = some x) : ∃ g cap, s = .slice (some ⟨g, 0, none⟩) L.length cap ∧ L.length ≤ cap ∧ cap ≤ maxLen ∧ G g ∧ (∀ j u, x.vals[j]? = some u → w.cell? ⟨g, i * size + j, none⟩ = some u) := by
  have hlt : i < L.length := by
    rcases Nat.lt_or_ge i L.length with h | h
    · exact h
    · rw [List.getElem?_eq_none h] at hi; simp at hi
  obtain ⟨_, ⟨_, h0⟩ | ⟨g, cap, rfl, -, hg, hn, hc, hx⟩⟩ := Lst.of_own h.row
  · omega
  · refine ⟨g, cap, rfl, hn, hc, (h.gin g rfl).1, fun j u hu => ?_⟩
    have hj : j < size := by
      have := h.len x (List.mem_of_getElem? hi)
      rcases Nat.lt_or_ge j x.vals.length with h | h
      · omega
      · rw [List.getElem?_eq_none h] at hu; simp at hu
    have := rowsX_at L h.len i x hi j hj
    exact (hx _ _ (this.trans hu)).1
/-- One more, behind append. -/
theorem OxL.app (h : OxL e size P G w s L) (hP : Stab P) {x : Ox} (hx : P w x) (hn : x.vals.length = size) (hG : ∀ k, x.own k → G k ∧ (∀ y, y ∈ L → ¬ y.own k) ∧ s.ownBlock ≠ some k) (hGl : ∀ k, G k → k < w.heap.size) {g cap : Nat} (hown : W.ownsRow 0 e size (.slice (some ⟨g, 0, none⟩) (L.length + 1) cap) (L.length + 1) (rowsX L ++ x.vals)) (hgr : w.grownBy W s.ownBlock) (hat : s.ownBlock = some g ∨ w.heap.size ≤ g) :
    OxL e size P (fun k => G k ∨ k = g) W (.slice (some ⟨g, 0, none⟩) (L.length + 1) cap) (L ++ [x]) ∧ Keeps (fun k => s.ownBlock = some k) w W := by
  have hk : Keeps (fun k => s.ownBlock = some k) w W := (Keeps.refl _ w).grown hgr (fun k e => .inl e)
  have hxo : ∀ y, y ∈ L ++ [x] → ∀ k, y.own k → s.ownBlock ≠ some k := fun y hy k o => by
    rcases List.mem_append.1 hy with hy | hy
    · exact fun e => (h.gin k e).2 y hy o
    · simp at hy
      subst hy
      exact (hG k o).2.2
  have hPk : ∀ y, y ∈ L ++ [x] → P w y ∧ ∀ k, y.own k → G k := fun y hy => by
    rcases List.mem_append.1 hy with hy | hy
    · exact h.all y hy
    · simp at hy
      subst hy
      exact ⟨hx, fun k o => (hG k o).1⟩
  refine ⟨⟨?_, fun y hy => ?_, fun y hy => ⟨hP _ _ _ _ (hPk y hy).1 hk (fun k o e => hxo y hy k o e), fun k o => .inl ((hPk y hy).2 k o)⟩, fun i j y z hij hy hz k o => ?_, fun g' e => ?_⟩, hk⟩
  · have e1 : (L ++ [x]).length = L.length + 1 := by simp
    have e2 : rowsX (L ++ [x]) = rowsX L ++ x.vals := by simp [rowsX]
    rw [e1, e2]
    exact hown
  · rcases List.mem_append.1 hy with hy | hy
    · exact h.len y hy
    · simp at hy
      subst hy
      exact hn
  · have cut : ∀ {i : Nat} {y : Ox}, (L ++ [x])[i]? = some y → (i < L.length ∧ L[i]? = some y) ∨ (i = L.length ∧ y = x) := fun {i y} hy => by
      rcases Nat.lt_or_ge i L.length with hi | hi
      · rw [List.getElem?_append_left hi] at hy
        exact .inl ⟨hi, hy⟩
      · rw [List.getElem?_append_right hi] at hy
        rcases Nat.eq_or_lt_of_le hi with hi | hi
        · rw [hi] at hy
          simp at hy
          exact .inr ⟨hi.symm, hy.symm⟩
        · rw [List.getElem?_eq_none (by simp; omega)] at hy
          simp at hy
    rcases cut hy with ⟨hi, hy2⟩ | ⟨hi, ey⟩
    · rcases cut hz with ⟨hj, hz2⟩ | ⟨hj, ez⟩
      · exact h.dis i j y z hij hy2 hz2 k o
      · subst ez
        exact fun o' => (hG k o').2.1 y (List.mem_of_getElem? hy2) o
    · rcases cut hz with ⟨hj, hz2⟩ | ⟨hj, ez⟩
      · subst ey
        exact (hG k o).2.1 z (List.mem_of_getElem? hz2)
      · omega
  · simp [Value.ownBlock] at e
    subst e
    refine ⟨.inr rfl, fun y hy o => ?_⟩
    rcases hat with hat | hat
    · exact hxo y hy _ o hat
    · have := hGl _ ((hPk y hy).2 _ o)
      omega
end
end Go.Proofs.YtepkpbhhiianpaaGreat
/- Next: A Put or an Out beside the chapter's: what they tell, and their steps, in a pair of worlds. -/
namespace Go.Proofs.YtepkpbhhiianpaaGreat
open Go.RowKit Go.Maps
set_option linter.unusedVariables false
/-- How many lines are left, by the chapter's line. -/
def lfN (n : Nat) : Int := if n = 0 then 0 else 4 - n
theorem lfN_over (n : Nat) (h : n ≤ 3) : (lfN n == 0) = ((n : Int) == 0) := by
  match n, h with
  | 0, _ => decide
  | 1, _ => decide
  | 2, _ => decide
  | 3, _ => decide
/-- A Put and the chapter's; an Out and the chapter's. -/
def PoP (w : World) (x : Ox) : Prop := ∃ (p r : Nat) (b k s tg ref tags : Int) (n : Nat), x.vals = [.pointer (some ⟨p, 0, none⟩), .pointer none, .pointer (some ⟨r, 0, none⟩)] ∧ x.own = (fun j => j = p ∨ j = r) ∧ p ≠ r ∧ n ≤ 3 ∧ Ob w p (puC b k s tg ref tags (lfN n)) ∧ Ob w r (roC n false false b k s tg ref tags) ∧ isU tags ∧ (n ≠ 0 → 1 ≤ ref ∧ ref ≤ 9223372036854775807)
def PoO (w : World) (x : Ox) : Prop := ∃ (p r : Nat) (b k s tags : Int) (n : Nat) (g : Bool), x.vals = [.pointer none, .pointer (some ⟨p, 0, none⟩), .pointer (some ⟨r, 0, none⟩)] ∧ x.own = (fun j => j = p ∨ j = r) ∧ p ≠ r ∧ n ≤ 3 ∧ Ob w p (ouC b k s tags (lfN n) g) ∧ Ob w r (roC n g true b k s 0 0 tags) ∧ isU tags
def PoS (w : World) (x : Ox) : Prop := PoP w x ∨ PoO w x
theorem stabPo : Stab PoS := by
  intro w W x U h hk hU
  rcases h with ⟨p, r, b, k, s, tg, ref, tags, n, hv, ho, hpr, hn, h1, h2, h3, h4⟩ | ⟨p, r, b, k, s, tags, n, g, hv, ho, hpr, hn, h1, h2, h3⟩
  · exact .inl ⟨p, r, b, k, s, tg, ref, tags, n, hv, ho, hpr, hn, h1.keep hk (hU p (by rw [ho]; exact .inl rfl)), h2.keep hk (hU r (by rw [ho]; exact .inr rfl)), h3, h4⟩
  · exact .inr ⟨p, r, b, k, s, tags, n, g, hv, ho, hpr, hn, h1.keep hk (hU p (by rw [ho]; exact .inl rfl)), h2.keep hk (hU r (by rw [ho]; exact .inr rfl)), h3⟩
section
variable {G : Nat → Prop} {w : World} {A R : Ad} {V V' V2 : Wv} {p r : Nat} {b k s tg ref tags wd ln lf : Int} {g o ov : Bool}
/-- A step of an operation of the program's, in a pair. -/
theorem lift_op {f : FuncId} {q : Nat} {X : World} {C C' : List Value} (HW : ∀ (G : Nat → Prop), Opw G X A V q C → Calls Tryz.prog f #[.pointer (some ⟨q, 0, none⟩), .pointer (some ⟨A.p, 0, none⟩)] X (OpP G X A V' q C' ov)) (h : Hf G X A R V V2) (hq : G q) (ho : Ob X q C) :
    Calls Tryz.prog f #[.pointer (some ⟨q, 0, none⟩), .pointer (some ⟨A.p, 0, none⟩)] X fun e w' => e = .returned (.bool ov) ∧ Hf G w' A R V' V2 ∧ Ob w' q C' ∧ Kp (fun j => G j ∧ j ≠ q) X w' := by
  obtain ⟨T, h1, h2⟩ := h.opw hq ho
  exact (HW _ h1).mono fun e w' ⟨he, hO, hk⟩ => ⟨he, h2 w' V' C' hO hk⟩
end
end Go.Proofs.YtepkpbhhiianpaaGreat
/- Next: A step of an operation in a list; what comes in with the acts. -/
namespace Go.Proofs.YtepkpbhhiianpaaGreat
open Go.RowKit Go.Maps
set_option linter.unusedVariables false
/-- What a step of an operation in a pair leaves. -/
def PoR (G : Nat → Prop) (w : World) (A R : Ad) (V : Wv) (x : Ox) (e : Ending) (w' : World) : Prop := e = .returned (.bool true) ∧ ∃ V', Hf G w' A R V' V' ∧ PoS w' x ∧ Kp (fun j => G j ∧ ¬ x.own j) w w' ∧ V'.M = V.M ∧ V'.I = V.I ∧ V'.cnt ≤ V.cnt + 1
section
variable {G : Nat → Prop} {w : World} {A R : Ad} {V : Wv} {x : Ox}
theorem PoS.three (hx : PoS w x) : ∃ v0 v1 v2, x.vals = [v0, v1, v2] := by
  rcases hx with ⟨p, r, b, k, s, tg, ref, tags, n, hv, -⟩ | ⟨p, r, b, k, s, tags, n, g, hv, -⟩
  · exact ⟨_, _, _, hv⟩
  · exact ⟨_, _, _, hv⟩
end
/-- An act of this chapter's law, as it lies. -/
def Act13 (w : World) (b o : Nat) : Prop := ∃ k wh b0 k0 s0 tg rf sa sv : Int, (0 ≤ k ∧ k < 256) ∧ (0 ≤ wh ∧ wh < 256) ∧ rf ≤ 9223372036854775807 ∧ isU sa ∧ isU sv ∧ w.cell? ⟨b, o, none⟩ = some (.int .u8 k) ∧ w.cell? ⟨b, o + 1, none⟩ = some (.int .u8 wh) ∧ w.cell? ⟨b, o + 2, none⟩ = some (.int .i64 b0) ∧ w.cell? ⟨b, o + 3, none⟩ = some (.int .i64 k0) ∧ w.cell? ⟨b, o + 4, none⟩ = some (.int .i64 s0) ∧ w.cell? ⟨b, o + 5, none⟩ = some (.int .i64 tg) ∧ w.cell? ⟨b, o + 6, none⟩ = some (.int .i64 rf) ∧ w.cell? ⟨b, o + 7, none⟩ = some (.int .u64 sa) ∧ w.cell? ⟨b, o + 8, none⟩ = some (.int .u64 sv)
theorem reads_acts13 {w : World} {t e : TypeId} {a : Option Addr} {len cap : Nat} (ht : Tryz.prog.underlying t = some (.slice e)) (hk : leaves Tryz.prog 9 e = some [.inl .u8, .inl .u8, .inl .i64, .inl .i64, .inl .i64, .inl .i64, .inl .i64, .inl .u64, .inl .u64]) (hc : Tryz.prog.cellsOf e = 9) (h : Reads Tryz.prog w t (.slice a len cap)) :
    len ≤ 9223372036854775807 ∧ ∃ b off, (0 < len → len ≤ cap ∧ a = some ⟨b, off, none⟩) ∧ ∀ i, i < len → Act13 w b (off + i * 9) := by
  rcases Reads.slice ht hk h with ⟨_, rfl, _⟩ | ⟨b, off, sp, rfl, h1, h2, h3, h4⟩
  · exact ⟨by omega, 0, 0, fun h => by omega, fun i hi => by omega⟩
  · refine ⟨by unfold maxLen at h2; omega, b, off, fun h => ⟨h1, by rw [h3 (by omega) (by omega)]⟩, fun i hi => ?_⟩
    obtain ⟨l, hl, hll, hx⟩ := h4 i (by omega)
    obtain ⟨_, _, rfl, ⟨x0, rfl, y0⟩, g0⟩ := all2_cons hl
    obtain ⟨_, _, rfl, ⟨x1, rfl, y1⟩, g1⟩ := all2_cons g0
    obtain ⟨_, _, rfl, ⟨x2, rfl, y2⟩, g2⟩ := all2_cons g1
    obtain ⟨_, _, rfl, ⟨x3, rfl, y3⟩, g3⟩ := all2_cons g2
    obtain ⟨_, _, rfl, ⟨x4, rfl, y4⟩, g4⟩ := all2_cons g3
    obtain ⟨_, _, rfl, ⟨x5, rfl, y5⟩, g5⟩ := all2_cons g4
    obtain ⟨_, _, rfl, ⟨x6, rfl, y6⟩, g6⟩ := all2_cons g5
    obtain ⟨_, _, rfl, ⟨x7, rfl, y7⟩, g7⟩ := all2_cons g6
    obtain ⟨_, _, rfl, ⟨x8, rfl, y8⟩, g8⟩ := all2_cons g7
    obtain rfl := all2_nil g8
    rw [hc] at hx
    have b0 := bounds_u8 y0
    have b1 := bounds_u8 y1
    have b6 := bounds_i64 y6
    have b7 := bounds_u64 y7
    have b8 := bounds_u64 y8
    exact ⟨x0, x1, x2, x3, x4, x5, x6, x7, x8, by omega, by omega, by omega, ⟨b7.1, by omega⟩, ⟨b8.1, by omega⟩, hx 0 _ rfl, hx 1 _ rfl, hx 2 _ rfl, hx 3 _ rfl, hx 4 _ rfl, hx 5 _ rfl, hx 6 _ rfl, hx 7 _ rfl, hx 8 _ rfl⟩
theorem Act13.new {w W : World} {b o : Nat} (h : Act13 w b o) (hb : Below w.heap.size w W) : Act13 W b o := by
  obtain ⟨k, wh, b0, k0, s0, tg, rf, sa, sv, r1, r2, r3, r4, r5, c0, c1, c2, c3, c4, c5, c6, c7, c8⟩ := h
  have up : ∀ {o v}, w.cell? ⟨b, o, none⟩ = some v → W.cell? ⟨b, o, none⟩ = some v := fun {o v} hc => (hb.cell (p := ⟨b, o, none⟩) (World.block_lt_of_cell? _ _ hc)).trans hc
  exact ⟨k, wh, b0, k0, s0, tg, rf, sa, sv, r1, r2, r3, r4, r5, up c0, up c1, up c2, up c3, up c4, up c5, up c6, up c7, up c8⟩
end Go.Proofs.YtepkpbhhiianpaaGreat
