/- Scripts: lists of commands in memory. -/
import Derived.Test.YtcmogfdbjppdeaaBy
import Derived.Test.YtcmogfdbjppdeaaScMath
import Derived.Test.YtcmogfdbjppdeaaKeep
import Derived.OwnWalk
namespace Go.Proofs.Ytcmogfdbjppdeaa
open Go.RowKit
set_option linter.unusedVariables false

/-- A command's three cells; its kind is an integer of some type. -/
def cells3 (K : IntKind) (x : Cm) (v : Value) : List Value := [.int K x.1, .int .i64 x.2.1, v]
def rows3 (K : IntKind) : List Cm → List Value → List Value
  | x :: cs, v :: vs => cells3 K x v ++ rows3 K cs vs
  | _, _ => []
def OwnAll (w : World) (B : Nat) (e : TypeId) : List Cm → List Value → Prop
  | [], [] => True
  | x :: cs, v :: vs => Own w B e v x.2.2 ∧ OwnAll w B e cs vs
  | _, _ => False
theorem OwnAll.len {w : World} {B : Nat} {e : TypeId} : ∀ {cs : List Cm} {vs : List Value}, OwnAll w B e cs vs → vs.length = cs.length
  | [], [], _ => rfl
  | _ :: _, _ :: _, h => by simp [h.2.len]
  | [], _ :: _, h => h.elim
  | _ :: _, [], h => h.elim
theorem OwnAll.map {w w' : World} {B B' : Nat} {e : TypeId} (hf : ∀ v l, Own w B e v l → Own w' B' e v l) : ∀ {cs : List Cm} {vs : List Value}, OwnAll w B e cs vs → OwnAll w' B' e cs vs
  | [], [], _ => trivial
  | _ :: _, _ :: _, h => ⟨hf _ _ h.1, h.2.map hf⟩
  | [], _ :: _, h => h.elim
  | _ :: _, [], h => h.elim
theorem OwnAll.snoc {w : World} {B : Nat} {e : TypeId} {x : Cm} {v : Value} (hv : Own w B e v x.2.2) : ∀ {cs : List Cm} {vs : List Value}, OwnAll w B e cs vs → OwnAll w B e (cs ++ [x]) (vs ++ [v])
  | [], [], _ => ⟨hv, trivial⟩
  | _ :: _, _ :: _, h => ⟨h.1, h.2.snoc hv⟩
  | [], _ :: _, h => h.elim
  | _ :: _, [], h => h.elim
theorem OwnAll.at_ {w : World} {B : Nat} {e : TypeId} : ∀ {cs : List Cm} {vs : List Value}, OwnAll w B e cs vs → ∀ (i : Nat) (x : Cm), cs[i]? = some x → ∃ v, vs[i]? = some v ∧ Own w B e v x.2.2
  | [], [], _, i, x, hx => by simp at hx
  | y :: cs, v :: vs, h, 0, x, hx => by
    simp at hx
    subst hx
    exact ⟨v, rfl, h.1⟩
  | y :: cs, v :: vs, h, i + 1, x, hx => by
    obtain ⟨u, h1, h2⟩ := h.2.at_ i x (by simpa using hx)
    exact ⟨u, by simpa using h1, h2⟩
  | [], _ :: _, h, _, _, _ => h.elim
  | _ :: _, [], h, _, _, _ => h.elim
theorem rows3_snoc (K : IntKind) (x : Cm) (v : Value) : ∀ (cs : List Cm) (vs : List Value), vs.length = cs.length → rows3 K (cs ++ [x]) (vs ++ [v]) = rows3 K cs vs ++ cells3 K x v
  | [], [], _ => by simp [rows3]
  | y :: cs, u :: vs, h => by
    have := rows3_snoc K x v cs vs (by simpa using h)
    simp [rows3, this]
  | [], _ :: _, h => by simp at h
  | _ :: _, [], h => by simp at h
theorem rows3_len (K : IntKind) : ∀ (cs : List Cm) (vs : List Value), vs.length = cs.length → (rows3 K cs vs).length = cs.length * 3
  | [], [], _ => by simp [rows3]
  | y :: cs, u :: vs, h => by
    have := rows3_len K cs vs (by simpa using h)
    simp [rows3, cells3, this]; omega
  | [], _ :: _, h => by simp at h
  | _ :: _, [], h => by simp at h
theorem rows3_at (K : IntKind) : ∀ (cs : List Cm) (vs : List Value) (i : Nat) (x : Cm) (v : Value), cs[i]? = some x → vs[i]? = some v → (rows3 K cs vs)[i * 3]? = some (.int K x.1) ∧ (rows3 K cs vs)[i * 3 + 1]? = some (.int .i64 x.2.1) ∧ (rows3 K cs vs)[i * 3 + 2]? = some v
  | [], _, i, x, v, h, _ => by simp at h
  | _ :: _, [], i, x, v, _, h => by simp at h
  | y :: cs, u :: vs, 0, x, v, h, h' => by
    simp at h h'
    subst h h'
    simp [rows3, cells3]
  | y :: cs, u :: vs, i + 1, x, v, h, h' => by
    have := rows3_at K cs vs i x v (by simpa using h) (by simpa using h')
    have e : ∀ j, (rows3 K (y :: cs) (u :: vs))[(i + 1) * 3 + j]? = (rows3 K cs vs)[i * 3 + j]? := by
      intro j
      have : (rows3 K (y :: cs) (u :: vs)) = cells3 K y u ++ rows3 K cs vs := rfl
      rw [this, List.getElem?_append_right (by simp [cells3]; omega)]
      congr 1
      simp [cells3]; omega
    exact ⟨(e 0).trans this.1, (e 1).trans this.2.1, (e 2).trans this.2.2⟩
theorem own_one {w : World} {B : Nat} {e : TypeId} {v : Value} {l : List UInt8} (h : Own w B e v l) : v.oneCell' = true := by
  rcases h with ⟨rfl, _⟩ | ⟨g, c, cur, rfl, _⟩ <;> rfl
theorem cells3_one {K : IntKind} {x : Cm} {v : Value} (h : v.oneCell' = true) : ∀ u ∈ cells3 K x v, u.oneCell' = true := by
  intro u hu
  simp only [cells3, List.mem_cons, List.not_mem_nil, or_false] at hu
  rcases hu with rfl | rfl | rfl
  · rfl
  · rfl
  · exact h
/-- A list of commands of a call's own: its rows, and each one's bytes. -/
def Cms (w : World) (B : Nat) (T e : TypeId) (K : IntKind) (v : Value) (cs : List Cm) : Prop :=
  ∃ vs, OwnAll w B e cs vs ∧ ((v = .slice none 0 0 ∧ cs = []) ∨ ∃ g cap cur, v = .slice (some ⟨g, 0, none⟩) cs.length cap ∧ B ≤ g ∧ w.heap[g]? = some (Obj.cells cur T (0, 0)) ∧ cs.length ≤ cap ∧ cap ≤ maxLen ∧ cur.toList.take (cs.length * 3) = rows3 K cs vs)
/-- While it is made. -/
def Mk (w : World) (B : Nat) (T e : TypeId) (K : IntKind) (v : Value) (cs : List Cm) : Prop :=
  ∃ vs, OwnAll w B e cs vs ∧ w.ownsRow B T 3 v cs.length (rows3 K cs vs) ∧ (cs = [] → v = .slice none 0 0)
theorem Mk.nil (w : World) (B : Nat) (T e : TypeId) (K : IntKind) : Mk w B T e K (.slice none 0 0) [] := ⟨[], trivial, World.ownsRow_nil _ _ _ _, fun _ => rfl⟩
theorem Mk.form {w : World} {B : Nat} {T e : TypeId} {K : IntKind} {v : Value} {cs : List Cm} (h : Mk w B T e K v cs) : ∃ a n c, v = .slice a n c ∧ n = cs.length ∧ n ≤ c ∧ c ≤ maxLen ∧ (a = none → n = 0 ∧ c = 0) ∧ Cms w B T e K (.slice a n n) cs ∧ Cms w B T e K v cs := by
  obtain ⟨vs, ho, hown, h0⟩ := h
  rcases hown.2 with ⟨rfl, hn⟩ | ⟨g, cap, cur, rfl, hB, hg, hn, hm, hs, hx⟩
  · have : cs = [] := List.eq_nil_of_length_eq_zero hn
    subst this
    exact ⟨none, 0, 0, rfl, rfl, Nat.le_refl _, by simp [maxLen], fun _ => ⟨rfl, rfl⟩, ⟨vs, ho, .inl ⟨rfl, rfl⟩⟩, ⟨vs, ho, .inl ⟨rfl, rfl⟩⟩⟩
  · exact ⟨_, _, _, rfl, rfl, hn, hm, (fun e => by simp at e), ⟨vs, ho, .inr ⟨g, _, cur, rfl, hB, hg, Nat.le_refl _, by omega, hx⟩⟩, ⟨vs, ho, .inr ⟨g, _, cur, rfl, hB, hg, hn, hm, hx⟩⟩⟩
/-- One command more, its bytes in a block of their own: behind the append. -/
theorem Mk.snoc {w0 w w' : World} {B : Nat} {T e : TypeId} {K : IntKind} {v v' u : Value} {cs : List Cm} {vs : List Value} {x : Cm} (hne : T ≠ e) (ho : OwnAll w B e cs vs) (hu : Own w B e u x.2.2) (hown0 : w.ownsRow B T 3 v cs.length (rows3 K cs vs)) (hown : w'.ownsRow B T 3 v' (cs.length + 1) (rows3 K cs vs ++ cells3 K x u)) (hg : w.grownBy w' v.ownBlock) (hv : ¬ v' = .slice none 0 0) : Mk w' B T e K v' (cs ++ [x]) := by
  have h1 := (ho.map (w' := w') (B' := B) fun v l h => h.grown hown0 hne hg).snoc (hu.grown hown0 hne hg)
  refine ⟨_, h1, ?_, fun h => by simp at h⟩
  rw [rows3_snoc K x u cs vs ho.len]
  simpa using hown
theorem Mk.keeps {w w' : World} {B p : Nat} {T e : TypeId} {K : IntKind} {v : Value} {cs : List Cm} (h : Mk w B T e K v cs) (hk : Keeps (fun k => k = p) w w') (hp : p < B) : Mk w' B T e K v cs := by
  obtain ⟨vs, ho, hown, h0⟩ := h
  refine ⟨vs, ho.map (fun u l hu => ?_), Keeps.ownsRow hown hk (fun g hg => by have := (hown.lt g hg).1; omega), h0⟩
  rcases hu with hu | ⟨g, c, cur, hv, hn, hm, hB, hg, hx⟩
  · exact .inl hu
  · exact .inr ⟨g, c, cur, hv, hn, hm, hB, (hk.block g (blk_lt hg) (by omega)).trans hg, hx⟩
theorem Mk.new {w w' : World} {B : Nat} {T e : TypeId} {K : IntKind} {v : Value} {cs : List Cm} (h : Mk w B T e K v cs) (hk : Below w.heap.size w w') : Mk w' B T e K v cs := by
  obtain ⟨vs, ho, hown, h0⟩ := h
  exact ⟨vs, ho.map (fun u l hu => hu.below hk), Keeps.ownsRow (S := fun _ => False) hown (Keeps.of_new hk) (fun g hg => id), h0⟩
theorem Cms.below {w w' : World} {B : Nat} {T e : TypeId} {K : IntKind} {v : Value} {cs : List Cm} (h : Cms w B T e K v cs) (hb : Below w.heap.size w w') : Cms w' B T e K v cs := by
  obtain ⟨vs, ho, h⟩ := h
  refine ⟨vs, ho.map fun v l h => h.below hb, ?_⟩
  rcases h with h | ⟨g, cap, cur, hv, hB, hg, r⟩
  · exact .inl h
  · exact .inr ⟨g, cap, cur, hv, hB, (hb.block g (blk_lt hg)).trans hg, r⟩
theorem Cms.mono {w : World} {B B' : Nat} {T e : TypeId} {K : IntKind} {v : Value} {cs : List Cm} (h : Cms w B T e K v cs) (hB : B' ≤ B) : Cms w B' T e K v cs := by
  obtain ⟨vs, ho, h⟩ := h
  refine ⟨vs, ho.map fun v l h => h.mono hB, ?_⟩
  rcases h with h | ⟨g, cap, cur, hv, hB', r⟩
  · exact .inl h
  · exact .inr ⟨g, cap, cur, hv, Nat.le_trans hB hB', r⟩
/-- A command's cells, and its bytes. -/
theorem Cms.at_ {w : World} {B : Nat} {T e : TypeId} {K : IntKind} {a : Option Addr} {n c : Nat} {cs : List Cm} (h : Cms w B T e K (.slice a n c) cs) (i : Nat) (x : Cm) (hx : cs[i]? = some x) : ∃ g v, a = some ⟨g, 0, none⟩ ∧ B ≤ g ∧ g < w.heap.size ∧ w.cell? ⟨g, i * 3, none⟩ = some (.int K x.1) ∧ w.cell? ⟨g, i * 3 + 1, none⟩ = some (.int .i64 x.2.1) ∧ w.cell? ⟨g, i * 3 + 2, none⟩ = some v ∧ Own w B e v x.2.2 := by
  obtain ⟨vs, ho, h⟩ := h
  obtain ⟨v, hv, hO⟩ := ho.at_ i x hx
  obtain ⟨r0, r1, r2⟩ := rows3_at K cs vs i x v hx hv
  rcases h with ⟨_, rfl⟩ | ⟨g, cap, cur, he, hB, hg, hn, hm, hrow⟩
  · simp at hx
  · injection he with e1 e2 e3
    have hi : i < cs.length := by
      rcases Nat.lt_or_ge i cs.length with h | h
      · exact h
      · rw [List.getElem?_eq_none h] at hx; simp at hx
    have key : ∀ j u, j < cs.length * 3 → (rows3 K cs vs)[j]? = some u → w.cell? ⟨g, j, none⟩ = some u := by
      intro j u hj hu
      rw [← hrow, List.getElem?_take_of_lt hj, Array.getElem?_toList] at hu
      simp [World.cell?, hg, hu]
    exact ⟨g, v, e1, hB, blk_lt hg, key _ _ (by omega) r0, key _ _ (by omega) r1, key _ _ (by omega) r2, hO⟩
theorem Cms.len {w : World} {B : Nat} {T e : TypeId} {K : IntKind} {v : Value} {cs : List Cm} (h : Cms w B T e K v cs) : ∃ a c, v = .slice a cs.length c ∧ cs.length ≤ c ∧ c ≤ maxLen ∧ (a = none → c = 0) := by
  obtain ⟨vs, ho, ⟨rfl, rfl⟩ | ⟨g, cap, cur, rfl, hB, hg, hn, hm, hrow⟩⟩ := h
  · exact ⟨none, 0, rfl, by simp, by simp [maxLen], fun _ => rfl⟩
  · exact ⟨_, _, rfl, hn, hm, fun h => by simp at h⟩
end Go.Proofs.Ytcmogfdbjppdeaa
