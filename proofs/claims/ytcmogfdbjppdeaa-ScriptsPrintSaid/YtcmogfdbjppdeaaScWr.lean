/- Scripts: what is written over. -/
import Derived.Test.YtcmogfdbjppdeaaScRows
namespace Go.Proofs.Ytcmogfdbjppdeaa
open Go.RowKit
set_option linter.unusedVariables false

/-- A block of a type that has as many cells, none frozen. -/
def Blk (w : World) (e : TypeId) (g n : Nat) : Prop := ∃ cur : Array Value, w.heap[g]? = some (Obj.cells cur e (0, 0)) ∧ n ≤ cur.size
theorem Blk.cell {w : World} {e : TypeId} {g n j : Nat} (h : Blk w e g n) (hj : j < n) : ∃ u, w.cell? ⟨g, j, none⟩ = some u := by
  obtain ⟨cur, h1, h2⟩ := h
  refine ⟨cur[j]'(by omega), ?_⟩
  simp [World.cell?, h1]
theorem Blk.frozen {w : World} {e : TypeId} {g n : Nat} (h : Blk w e g n) (j : Nat) : w.frozen? ⟨g, j, none⟩ = false := by
  obtain ⟨cur, h1, h2⟩ := h
  simp [World.frozen?, h1]
theorem Blk.lt {w : World} {e : TypeId} {g n : Nat} (h : Blk w e g n) : g < w.heap.size := by
  obtain ⟨cur, h1, h2⟩ := h
  exact blk_lt h1
theorem set_heap {w : World} {g : Nat} {cur : Array Value} {e : TypeId} (h : w.heap[g]? = some (Obj.cells cur e (0, 0))) (j : Nat) (u : Value) : (w.setCell ⟨g, j, none⟩ u).heap[g]? = some (Obj.cells (cur.setIfInBounds j u) e (0, 0)) := by
  have hlt := blk_lt h
  have h' : w.heap[g] = .cells cur e (0, 0) := by simpa [Array.getElem?_eq_getElem hlt] using h
  show (w.heap.modify g _)[g]? = _
  rw [Array.getElem?_eq_getElem (by simpa using hlt), Array.getElem_modify_self, h']
  rfl
theorem Blk.set {w : World} {e e' : TypeId} {g g' n n' : Nat} (h : Blk w e g n) (h' : Blk w e' g' n') (j : Nat) (u : Value) : Blk (w.setCell ⟨g', j, none⟩ u) e g n := by
  obtain ⟨cur, h1, h2⟩ := h
  by_cases hg : g = g'
  · subst hg
    exact ⟨_, set_heap h1 j u, by simpa using h2⟩
  · exact ⟨cur, (Below.heap_setCell w ⟨g', j, none⟩ u g hg).trans h1, h2⟩
theorem Blk.keeps {S : Nat → Prop} {w w' : World} {e : TypeId} {g n : Nat} (h : Blk w e g n) (hk : Keeps S w w') (hg : ¬ S g) : Blk w' e g n := by
  obtain ⟨cur, h1, h2⟩ := h
  exact ⟨cur, (hk.block g (blk_lt h1) hg).trans h1, h2⟩
/-- A slice of bytes that may be written over. -/
def Wr (w : World) (B : Nat) (e : TypeId) (v : Value) (n : Nat) : Prop := ∃ a c, v = .slice a n c ∧ c ≤ maxLen ∧ n ≤ c ∧ (0 < n → ∃ g, a = some ⟨g, 0, none⟩ ∧ B ≤ g ∧ Blk w e g n)
theorem byv_size {cur : Array Value} {l : List UInt8} (h : cur.toList.take l.length = byv l) : l.length ≤ cur.size := by
  have h1 := congrArg List.length h
  have h2 : cur.toList.length = cur.size := by simp
  rw [byv_len, List.length_take, h2] at h1
  omega
theorem Own.wr {w : World} {B : Nat} {e : TypeId} {v : Value} {l : List UInt8} (h : Own w B e v l) : Wr w B e v l.length := by
  rcases h with ⟨rfl, rfl⟩ | ⟨g, c, cur, rfl, hn, hm, hB, hg, hx⟩
  · exact ⟨none, 0, rfl, by simp [maxLen], by simp, fun h => absurd h (by simp)⟩
  · exact ⟨_, c, rfl, hm, hn, fun _ => ⟨g, rfl, hB, cur, hg, byv_size hx⟩⟩
theorem Wr.set {w : World} {B : Nat} {e e' : TypeId} {v : Value} {n g' n' : Nat} (h : Wr w B e v n) (h' : Blk w e' g' n') (j : Nat) (u : Value) : Wr (w.setCell ⟨g', j, none⟩ u) B e v n := by
  obtain ⟨a, c, h1, h2, h3, h4⟩ := h
  refine ⟨a, c, h1, h2, h3, fun h0 => ?_⟩
  obtain ⟨g, e1, hB, hb⟩ := h4 h0
  exact ⟨g, e1, hB, hb.set h' j u⟩
/-- A list of commands whose cells may be written over, and whose bytes' slices stand. -/
def St (w : World) (B : Nat) (T e : TypeId) (ga : Nat) (cs : List Cm) : Prop :=
  B ≤ ga ∧ Blk w T ga (cs.length * 3) ∧ ∀ (i : Nat) (x : Cm), cs[i]? = some x → ∃ v, w.cell? ⟨ga, i * 3 + 2, none⟩ = some v ∧ Wr w B e v x.2.2.length
theorem Cms.st {w : World} {B : Nat} {T e : TypeId} {K : IntKind} {g n c : Nat} {cs : List Cm} (h : Cms w B T e K (.slice (some ⟨g, 0, none⟩) n c) cs) : St w B T e g cs := by
  have hat := h.at_
  obtain ⟨vs, ho, ⟨he, _⟩ | ⟨g', cap, cur, he, hB, hg, hn, hm, hrow⟩⟩ := h
  · simp at he
  · injection he with e1 e2 e3
    injection e1 with e1
    injection e1 with e1
    subst e1
    refine ⟨hB, ⟨cur, hg, ?_⟩, fun i x hx => ?_⟩
    · have := congrArg List.length hrow
      have h2 : cur.toList.length = cur.size := by simp
      rw [rows3_len K cs vs ho.len, List.length_take, h2] at this
      omega
    · obtain ⟨g2, v, e1, _, _, _, _, c2, hO⟩ := hat i x hx
      injection e1 with e1
      injection e1 with e1
      subst e1
      exact ⟨v, c2, hO.wr⟩
theorem blk_ne {w : World} {e e' : TypeId} {g g' n n' : Nat} (h : Blk w e g n) (h' : Blk w e' g' n') (hne : e ≠ e') : g ≠ g' := by
  obtain ⟨cur, h1, _⟩ := h
  obtain ⟨cur', h2, _⟩ := h'
  rintro rfl
  rw [h1] at h2
  injection h2 with h2
  injection h2 with _ h2
  exact hne h2
theorem St.byte {w : World} {B : Nat} {T e : TypeId} {ga : Nat} {cs : List Cm} (h : St w B T e ga cs) (hne : T ≠ e) {g n : Nat} (hb : Blk w e g n) (j : Nat) (u : Value) : St (w.setCell ⟨g, j, none⟩ u) B T e ga cs := by
  obtain ⟨h0, h1, h2⟩ := h
  refine ⟨h0, h1.set hb j u, fun i x hx => ?_⟩
  obtain ⟨v, hv, hw⟩ := h2 i x hx
  exact ⟨v, (World.cell?_setCell_other w ⟨g, j, none⟩ ⟨ga, i * 3 + 2, none⟩ u (by intro h; injection h with h; exact blk_ne h1 hb hne h.symm)).trans hv, hw.set hb j u⟩
theorem St.conn {w : World} {B : Nat} {T e : TypeId} {ga : Nat} {cs : List Cm} (h : St w B T e ga cs) (i : Nat) (u : Value) : St (w.setCell ⟨ga, i * 3 + 1, none⟩ u) B T e ga cs := by
  obtain ⟨h0, h1, h2⟩ := h
  refine ⟨h0, h1.set h1 _ u, fun k x hx => ?_⟩
  obtain ⟨v, hv, hw⟩ := h2 k x hx
  exact ⟨v, (World.cell?_setCell_other w ⟨ga, i * 3 + 1, none⟩ ⟨ga, k * 3 + 2, none⟩ u (by intro h; injection h with _ h; omega)).trans hv, hw.set h1 _ u⟩
theorem Cms.keeps {S : Nat → Prop} {w w' : World} {B : Nat} {T e : TypeId} {K : IntKind} {v : Value} {cs : List Cm} (h : Cms w B T e K v cs) (hk : Keeps S w w') (hS : ∀ k, B ≤ k → ¬ S k) : Cms w' B T e K v cs := by
  obtain ⟨vs, ho, h⟩ := h
  refine ⟨vs, ho.map fun u l hu => ?_, ?_⟩
  · rcases hu with hu | ⟨g, c, cur, hv, hn, hm, hB, hg, hx⟩
    · exact .inl hu
    · exact .inr ⟨g, c, cur, hv, hn, hm, hB, (hk.block g (blk_lt hg) (hS g hB)).trans hg, hx⟩
  · rcases h with h | ⟨g, cap, cur, hv, hB, hg, r⟩
    · exact .inl h
    · exact .inr ⟨g, cap, cur, hv, hB, (hk.block g (blk_lt hg) (hS g hB)).trans hg, r⟩
end Go.Proofs.Ytcmogfdbjppdeaa
