/- A list of operations beside a pair of worlds, as acts go. -/
import Derived.Test.YtepkpbhhiianpaaGreatGPo
import Derived.Test.YtepkpbhhiianpaaGreatPwA
namespace Go.Proofs.YtepkpbhhiianpaaGreat
open Go.RowKit Go.Maps
set_option linter.unusedVariables false
/-- What stands between two acts: the pair; the list; the blocks below B, and P. -/
def PlR (e : TypeId) (size : Nat) (PS : World → Ox → Prop) (B P : Nat) (W : World) (A R : Ad) (X : World) (s : Value) (k : Nat) (c : Int) : Prop :=
  ∃ (V : Wv) (L : List Ox) (G GL : Nat → Prop), Hf G X A R V V ∧ (∀ j, j < B ∨ j = P → G j) ∧ OxL e size PS GL X s L ∧ (∀ j, GL j → G j ∧ ¬ (j < B ∨ j = P)) ∧ Kp (fun j => j < B ∨ j = P) W X ∧ (V.M = [] ∧ V.I.length ≤ 300 ∧ V.cnt ≤ c) ∧ L.length ≤ k
/-- What a step of an operation in a pair leaves. -/
def PoG (PS : World → Ox → Prop) (G : Nat → Prop) (w : World) (A R : Ad) (V : Wv) (x : Ox) (e : Ending) (w' : World) : Prop := e = .returned (.bool true) ∧ ∃ V', Hf G w' A R V' V' ∧ PS w' x ∧ Kp (fun j => G j ∧ ¬ x.own j) w w' ∧ V'.M = V.M ∧ V'.I = V.I ∧ V'.cnt ≤ V.cnt + 1
section
variable {e : TypeId} {size : Nat} {PS : World → Ox → Prop} {B P : Nat} {W X Y X0 : World} {A R : Ad} {s : Value} {k k' : Nat} {c c' : Int}
theorem PlR.new (h : PlR e size PS B P W A R X s k c) (hP : Stab PS) (hb : Below X.heap.size X Y) : PlR e size PS B P W A R Y s k c := by
  obtain ⟨V, L, G, GL, h1, h2, h3, h4, h5, h6, h7⟩ := h
  exact ⟨V, L, G, GL, h1.new hb, h2, h3.keep hP (Keeps.of_new (S := fun _ => False) hb) (fun _ _ s => s), h4, Kp.to h5 (Kp.of hb), h6, h7⟩
theorem PlR.le (h : PlR e size PS B P W A R X s k c) (hk : k ≤ k') (hc : c ≤ c') : PlR e size PS B P W A R X s k' c' := by
  obtain ⟨V, L, G, GL, h1, h2, h3, h4, h5, ⟨a, b, d⟩, h7⟩ := h
  exact ⟨V, L, G, GL, h1, h2, h3, h4, h5, ⟨a, b, by omega⟩, by omega⟩
theorem PlR.kp (h : PlR e size PS B P W A R X s k c) : Kp (fun j => j < B ∨ j = P) W X := by
  obtain ⟨V, L, G, GL, h1, h2, h3, h4, h5, h6, h7⟩ := h
  exact h5
theorem PlR.store (h : PlR e size PS B P W A R X s k c) (hP : Stab PS) (hc : c < 1000000) {a v : Int} (ha : isU a) (hv : isU v) :
    Calls Tryz.prog 14 #[.agg #[.pointer (some ⟨A.p, 0, none⟩), .pointer (some ⟨R.p, 0, none⟩)], .agg #[.int .u64 a, .int .u64 v]] X fun e' w' => e' = .returned (.tuple #[]) ∧ PlR e size PS B P W A R w' s k (c + 1) := by
  obtain ⟨V, L, G, GL, h1, h2, h3, h4, h5, ⟨m1, m2, m3⟩, h7⟩ := h
  refine (h1.pw.store (by omega) ha hv).mono ?_
  rintro e' w' ⟨he, h', hk⟩
  exact ⟨he, _, L, G, GL, h'.hf, h2, h3.keep hP hk (fun j g n => n (h4 j g).1), h4, Kp.to h5 (hk.less h2), ⟨m1, m2, by show V.cnt + 1 ≤ _; omega⟩, h7⟩
theorem PlR.same (h : PlR e size PS B P W A R X s k c) :
    Calls Tryz.prog 20 #[.agg #[.pointer (some ⟨A.p, 0, none⟩), .pointer (some ⟨R.p, 0, none⟩)]] X fun e' w' => e' = .returned (.bool true) ∧ Below X.heap.size X w' := by
  obtain ⟨V, L, G, GL, h1, h2, h3, h4, h5, ⟨m1, m2, m3⟩, h7⟩ := h
  obtain ⟨S, T, hp, -⟩ := h1.pw
  exact pw_same hp (by rw [m1]; decide)
theorem PlR.all (h : PlR e size PS B P W A R X s k c) (hc : c ≤ 1000000) :
    Calls Tryz.prog 21 #[.agg #[.pointer (some ⟨A.p, 0, none⟩), .pointer (some ⟨R.p, 0, none⟩)]] X fun e' w' => e' = .returned (.bool true) ∧ Below X.heap.size X w' := by
  obtain ⟨V, L, G, GL, h1, h2, h3, h4, h5, ⟨m1, m2, m3⟩, h7⟩ := h
  obtain ⟨S, T, hp, -⟩ := h1.pw
  exact pw_all hp m1 m2 (by omega)
/-- The list's slice: of no element, or of some. -/
theorem PlR.form (h : PlR e size PS B P W A R X s k c) : (∃ a cap, s = .slice a 0 cap) ∨ ∃ g n cap, 0 < n ∧ n ≤ cap ∧ n ≤ k ∧ s = .slice (some ⟨g, 0, none⟩) n cap := by
  obtain ⟨V, L, G, GL, h1, h2, h3, h4, h5, h6, h7⟩ := h
  obtain ⟨_, ⟨rfl, h0⟩ | ⟨g, cap, rfl, -, hg, hn, hc, hx⟩⟩ := Lst.of_own h3.row
  · exact .inl ⟨_, _, rfl⟩
  · rcases Nat.eq_zero_or_pos L.length with e | e
    · rw [e]
      exact .inl ⟨_, _, rfl⟩
    · exact .inr ⟨g, L.length, cap, e, hn, h7, rfl⟩
/-- One of them takes a step. -/
theorem PlR.step {g n cap i : Nat} (h : PlR e size PS B P W A R X (.slice (some ⟨g, 0, none⟩) n cap) k c) (hP : Stab PS) (hi : i < n) : ∃ x, PS X x ∧ x.vals.length = size ∧ (∀ Y, Below X.heap.size X Y → ∀ j u, x.vals[j]? = some u → Y.cell? ⟨g, i * size + j, none⟩ = some u) ∧
    ∀ (f : FuncId) (args : Array Value) (Y : World), Below X.heap.size X Y → (∀ (V : Wv) (G : Nat → Prop), Hf G Y A R V V → PS Y x → (∀ j, x.own j → G j) → V.cnt ≤ c → Calls Tryz.prog f args Y (PoG PS G Y A R V x)) → Calls Tryz.prog f args Y fun e' w' => e' = .returned (.bool true) ∧ PlR e size PS B P W A R w' (.slice (some ⟨g, 0, none⟩) n cap) k (c + 1) ∧ Kp (fun j => X.heap.size ≤ j ∧ j < Y.heap.size) Y w' ∧ ∀ j u, x.vals[j]? = some u → w'.cell? ⟨g, i * size + j, none⟩ = some u := by
  obtain ⟨V, L, G, GL, h1, h2, h3, h4, h5, ⟨m1, m2, m3⟩, h7⟩ := h
  have lt0 := h1.lts
  have hln : L.length = n := by
    obtain ⟨_, ⟨h, h0⟩ | ⟨g', cap', h, -⟩⟩ := Lst.of_own h3.row
    · simp at h
    · simp at h
      exact h.2.1.symm
  obtain ⟨x, hx⟩ : ∃ x, L[i]? = some x := ⟨_, List.getElem?_eq_getElem (by omega)⟩
  have hxm := List.mem_of_getElem? hx
  have lies : ∀ Y, OxL e size PS GL Y (.slice (some ⟨g, 0, none⟩) n cap) L → ∀ j u, x.vals[j]? = some u → Y.cell? ⟨g, i * size + j, none⟩ = some u := fun Y hY j u hu => by
    obtain ⟨g', cap', hs, -, -, -, hat⟩ := hY.at_ hx
    simp at hs
    obtain ⟨rfl, -, rfl⟩ := hs
    exact hat j u hu
  refine ⟨x, (h3.all x hxm).1, h3.len x hxm, fun Y hb => lies Y (h3.keep hP (Keeps.of_new (S := fun _ => False) hb) (fun _ _ s => s)), fun f args Y hb HS => ?_⟩
  have h3' := h3.keep hP (Keeps.of_new (S := fun _ => False) hb) (fun _ _ s => s)
  have ho : ∀ j, x.own j → G j := fun j o => (h4 j ((h3.all x hxm).2 j o)).1
  refine (HS V _ (h1.addN hb) (h3'.all x hxm).1 (fun j o => .inl (ho j o)) m3).mono ?_
  rintro e' w' ⟨he, V', hf, hx', hk, r1, r2, r3⟩
  have hk' : Kp (fun j => j < B ∨ j = P) Y w' := hk.less (fun j hj => ⟨.inl (h2 j hj), fun o => (h4 j ((h3.all x hxm).2 j o)).2 hj⟩)
  have h3'' := h3'.step hP hx hk (fun j g n => Classical.byContradiction (fun no => n ⟨.inl (h4 j g).1, no⟩)) hx'
  exact ⟨he, ⟨V', L, G, GL, hf.less (fun j g => .inl g), h2, h3'', h4, Kp.to (Kp.to h5 (Kp.of hb)) hk', ⟨r1.trans m1, by rw [r2]; exact m2, by omega⟩, h7⟩, hk.less (fun j hj => ⟨.inr hj, fun o => by have := lt0 j (ho j o); omega⟩), lies w' h3''⟩
/-- One more. -/
theorem PlR.app {V : Wv} {L : List Ox} {G GL : Nat → Prop} (hP : Stab PS) (h1 : Hf G X0 A R V V) (h2 : ∀ j, j < B ∨ j = P → G j) (h3 : OxL e size PS GL X0 s L) (h4 : ∀ j, GL j → G j ∧ ¬ (j < B ∨ j = P)) (h5 : Kp (fun j => j < B ∨ j = P) W X0) (h6 : V.M = [] ∧ V.I.length ≤ 300 ∧ V.cnt ≤ c) (h7 : L.length ≤ k) (hb : Below X0.heap.size X0 X) {x : Ox} (hx : PS X x) (hn : x.vals.length = size) (hxo : ∀ j, x.own j → X0.heap.size ≤ j ∧ j < X.heap.size) {o : Obj} {g cap : Nat} (hown : Y.ownsRow 0 e size (.slice (some ⟨g, 0, none⟩) (L.length + 1) cap) (L.length + 1) (rowsX L ++ x.vals)) (hgr : (X.alloc o).grownBy Y s.ownBlock) (hat : s.ownBlock = some g ∨ g = X.heap.size + 1) (hlt : g < Y.heap.size) :
    PlR e size PS B P W A R Y (.slice (some ⟨g, 0, none⟩) (L.length + 1) cap) (k + 1) c := by
  have lt0 := h1.lts
  have hbo : Below X.heap.size X (X.alloc o) := bs_alloc (Below.refl _ _)
  have hbx : Below X0.heap.size X0 (X.alloc o) := below_then hb hbo
  have hsz := hb.size
  have hF := (h1.addN hb).new hbo
  have hL := (h3.keep hP (Keeps.of_new (S := fun _ => False) hbx) (fun _ _ s => s)).more (G' := fun j => GL j ∨ (X0.heap.size ≤ j ∧ j < X.heap.size)) (fun j g => .inl g)
  have hGL : ∀ j, GL j → j < X0.heap.size := fun j g => lt0 j (h4 j g).1
  have r := hL.app hP (x := x) (hP _ _ _ _ hx (Keeps.of_new (S := fun _ => False) hbo) (fun _ _ s => s)) hn (fun j oj => ⟨.inr (hxo j oj), fun y hy yo => by
    have := hGL j ((h3.all y hy).2 j yo); have := hxo j oj; omega, fun es => by
    have := hGL j (h3.gin j es).1; have := hxo j oj; omega⟩) (fun j gj => by
    rcases gj with gj | gj
    · have := hGL j gj; simp; omega
    · simp; omega) hown hgr (by
    rcases hat with h | h
    · exact .inl h
    · right; simp; omega)
  obtain ⟨r1, r2⟩ := r
  have hsG : ∀ j, s.ownBlock = some j → GL j := fun j es => (h3.gin j es).1
  have hg' : (G g ∨ (X0.heap.size ≤ g ∧ g < X.heap.size)) ∨ (X.alloc o).heap.size ≤ g := by
    rcases hat with h | h
    · exact .inl (.inl (h4 g (hsG g h)).1)
    · right; simp; omega
  refine ⟨V, L ++ [x], _, _, hF.addK r2 (fun j es => .inl (h4 j (hsG j es)).1) hg' hlt, fun j hj => .inl (.inl (h2 j hj)), by simpa using r1, fun j gj => ?_, Kp.to (Kp.to h5 (Kp.of hbx)) (r2.mono (fun j _ es hj => (h4 j (hsG j es)).2 hj)), h6, by simp; omega⟩
  have far : ∀ j, X0.heap.size ≤ j → ¬ (j < B ∨ j = P) := fun j hj hh => by
    have := lt0 j (h2 j hh)
    omega
  rcases gj with (gj | gj) | rfl
  · exact ⟨.inl (.inl (h4 j gj).1), (h4 j gj).2⟩
  · exact ⟨.inl (.inr gj), far j gj.1⟩
  · refine ⟨.inr rfl, ?_⟩
    rcases hat with h | h
    · exact (h4 _ (hsG _ h)).2
    · exact far _ (by omega)
/-- At first. -/
theorem PlR.first {V : Wv} {G : Nat → Prop} (h1 : Hf G X A R V V) (h2 : ∀ j, j < B ∨ j = P → G j) (hM : V.M = []) (hI : V.I.length ≤ 300) (hc : V.cnt ≤ c) : PlR e size PS B P X A R X (.slice none 0 0) 0 c :=
  ⟨V, [], G, fun _ => False, h1, h2, OxL.nil _ _ _ _ _, fun j h => h.elim, Keeps.refl _ _, ⟨hM, hI, hc⟩, Nat.le_refl _⟩
end
end Go.Proofs.YtepkpbhhiianpaaGreat
