/- A range over a function whose iterator turns cells of its own between two rounds; its body never leaves early. -/
import Derived.Test.YtifbcejekdhnlaaDoorLib
import Derived.RangeFuncNested
import Derived.RangeFuncBound
import Derived.RangeFuncCalls
import Derived.RangeFuncLeaves
namespace Go.Proofs.YtifbcejekdhnlaaDoor
open Go.RowKit
set_option linter.unusedVariables false

/-- It abides new blocks, and the turn of a block from B on that holds no cells. -/
def Firm (B : Nat) (I : World → Prop) : Prop :=
  ∀ W W' row, I W → W.grownBy W' row → (∀ r, row = some r → B ≤ r ∧ ∃ o : Obj, W.heap[r]? = some o ∧ o.isCells = false) → I W'
theorem Firm.alloc {B : Nat} {I : World → Prop} (h : Firm B I) {W : World} (o : Obj) (hI : I W) : I (W.alloc o) :=
  h W _ Option.none hI (World.grownBy_alloc W o Option.none) (fun r e => by simp at e)
theorem Firm.put {B l : Nat} {I : World → Prop} (h : Firm B I) {W : World} {o : Obj} (o' : Obj) (hI : I W) (hB : B ≤ l) (hl : W.heap[l]? = some o) (ho : o.isCells = false) : I (W.putObj l o') :=
  h W _ (some l) hI (grownBy_putObj' W l o') (fun r e => by injection e with e; subst e; exact ⟨hB, o, hl, ho⟩)
/-- How a round's body is left: it goes on. -/
def goesOn (Z : World → Prop) (W : World) : Exit → Act → World → Prop
  | .normal, _, W' => KeepsOthers W W' ∧ Z W'
  | _, _, _ => False
theorem wpIn_range_firm {α : Type} {F : Fence} {n : Nat} {P : Program} {g : Operand} {ps : Array Tmp} {assign body : Code} {Q : Exit → Act → World → Prop} {a : Act} {w : World}
    (hro : F.round = none) (h1 : 1 ≤ n) {gf : Nat} {lb : Array Value} (hg : a.eval g = .func (.func gf) #[] lb) (hFg : F.fn gf) (eg : ∀ args w, (callFunc gf args).run P w = .ok (.enter gf args) w)
    (encs : α → Array Value) (hps : ∀ x, (encs x).size = ps.size) (J E : World → Prop) (Y Z : α → World → Prop) (Y2 : α → Act → World → Prop)
    (hJ : Firm w.heap.size J) (hE : Firm w.heap.size E) (hZ : ∀ x, Firm w.heap.size (Z x)) (hY2 : ∀ x b, Firm w.heap.size (Y2 x b)) (h0 : J w)
    (hiter : ∀ (o1 o2 : Obj) (W1 : World), o1.isCells = false → o2.isCells = false → W1.heap[w.heap.size + 1]? = some o1 → W1.heap[w.heap.size]? = some o2 → Below w.heap.size w W1 → J W1 →
      (∀ x W, Y x W → W.heap[w.heap.size + 1]? = some o1 → W.heap[w.heap.size]? = some o2 → YieldAt F (n - 1 - 1) P (w.heap.size + 1) (encs x) W fun e W' => e = .returned (.bool true) ∧ Z x W' ∧ W'.heap[w.heap.size + 1]? = some o1 ∧ W'.heap[w.heap.size]? = some o2) →
      CallsIn F (n - 1) P gf (#[.func (.yield (w.heap.size + 1)) #[] #[]] ++ lb) W1 fun e W' => (∃ v, e = .returned v) ∧ E W' ∧ W'.heap[w.heap.size + 1]? = some o1 ∧ W'.heap[w.heap.size]? = some o2)
    (hassign : ∀ (l : Nat) (x : α) (W : World) (K : Act → World → Prop), Y x W → (∀ b W', KeepsOthers W W' → Y2 x b W' → K b W') →
      assign.wpIn (F.inRound l) (n - 1 - 1) P (Exit.then K (fun _ _ _ => False)) { tmps := (ps.zip (encs x)).foldl (fun t (p, v) => t.setIfInBounds p v) a.tmps, defers := [] } W)
    (hbody : ∀ (l : Nat) (x : α) (b : Act) (W : World), Y2 x b W → body.wpIn (F.inRound l) (n - 1 - 1) P (goesOn (Z x) W) b W)
    (hdone : ∀ (D : Nat) (W : World), w.heap.size ≤ D → E W → W.heap[D]? = some (.deferred (some [])) → Q .normal { a with defers := { target := .collected D, args := #[] } :: a.defers } W) :
    (Code.rangeFunc g ps assign body).wpIn F n P Q a w := by
  refine wpIn_rangeFunc fun fn hfn => ?_
  rw [hro]
  have he := run_enterLoop_outer (P := P) (w := w) fn a.tmps ps assign body
  obtain ⟨r0, hr0⟩ : ∃ r : Loop, r = { state := .ready, pending := Option.none, fn, tmps := a.tmps, params := ps, assign, body, defers := w.heap.size } := ⟨_, rfl⟩
  rw [← hr0] at he
  have hbw : Below w.heap.size w ((w.alloc (.deferred (some []))).alloc (.loop r0)) := ((Below.refl _ w).alloc (Nat.le_refl _) _).alloc (by simp) _
  have hl0 : ((w.alloc (.deferred (some []))).alloc (.loop r0)).heap[w.heap.size + 1]? = some (.loop r0) := by
    have := World.alloc_heap_new (w.alloc (.deferred (some []))) (.loop r0)
    rwa [World.size_alloc] at this
  have hd0 : ((w.alloc (.deferred (some []))).alloc (.loop r0)).heap[w.heap.size]? = some (.deferred (some [])) :=
    (Below.heap_alloc _ _ _ (by simp)).trans (World.alloc_heap_new w _)
  have hJ0 : J ((w.alloc (.deferred (some []))).alloc (.loop r0)) := hJ.alloc _ (hJ.alloc _ h0)
  refine ⟨_, _, _, { target := .fn (.func gf) lb, args := #[.func (.yield (w.heap.size + 1)) #[] #[]] }, (w.alloc (.deferred (some []))).alloc (.loop r0), gf, #[.func (.yield (w.heap.size + 1)) #[] #[]] ++ lb, (w.alloc (.deferred (some []))).alloc (.loop r0), he, ?_, ?_, ?_, fun _ => h1, ?_⟩
  · simp only [resolve, hg]
    simp [go_sem]
  · intro f' hf'
    simp [Target.leads] at hf'
    exact hf' ▸ hFg
  · simp [invoke, go_sem, eg]
  generalize (w.alloc (.deferred (some []))).alloc (.loop r0) = W1 at *
  have hst : r0.state = .ready := by rw [hr0]
  have hpa : r0.params = ps := by rw [hr0]
  refine (hiter (.loop r0) (.deferred (some [])) W1 rfl rfl hl0 hd0 hbw hJ0 (fun x W hY hl hd => ?_)).mono ?_
  · -- one round
    have hy := run_yield (P := P) (args := encs x) hl (by rw [hpa]; exact hps x)
    refine ⟨r0.fn, _, r0.assign, r0.body, hy, roundIn_of_wpIn (by rw [hr0]; exact hfn) ?_⟩
    rw [show r0.assign = assign by rw [hr0], show r0.body = body by rw [hr0], hpa, show r0.tmps = a.tmps by rw [hr0]]
    refine hassign _ x W _ hY fun b W' hk hY' => ?_
    have hl1 := hk.same _ _ hl rfl
    have hd1 := hk.same _ _ hd rfl
    have hlt : w.heap.size + 1 < W'.heap.size := (Array.getElem?_eq_some_iff.1 hl1).1
    refine ⟨_, run_beginRound hl1 hst, ?_⟩
    have hl2 : (W'.putObj (w.heap.size + 1) (.loop { r0 with state := .busy })).heap[w.heap.size + 1]? = some (.loop { r0 with state := .busy }) := World.putObj_heap_same hlt
    have hd2 : (W'.putObj (w.heap.size + 1) (.loop { r0 with state := .busy })).heap[w.heap.size]? = some (.deferred (some [])) := (World.putObj_heap_other (by omega)).trans hd1
    refine wpIn_mono (hbody _ x b _ ((hY2 x b).put _ hY' (by omega) hl1 rfl)) ?_
    intro e b3 W3 hp
    cases e <;> try exact hp.elim
    obtain ⟨hk3, hz⟩ := hp
    have hl3 := hk3.same _ _ hl2 rfl
    have hd3 := hk3.same _ _ hd2 rfl
    have hlt3 : w.heap.size + 1 < W3.heap.size := (Array.getElem?_eq_some_iff.1 hl3).1
    refine ⟨_, _, run_endRound Option.none hl3, rfl, (hZ x).put _ hz (by omega) hl3 rfl, ?_, (World.putObj_heap_other (by omega)).trans hd3⟩
    rw [World.putObj_heap_same hlt3]
    rw [hr0]
    rfl
  · -- behind the iterator
    rintro e W2 ⟨⟨v, rfl⟩, hE2, hl, hd⟩
    have hrun := run_endLoop (P := P) hl (by rw [hst]; simp)
    rw [show r0.pending = Option.none by rw [hr0]] at hrun
    exact ⟨Option.none, _, hrun, hdone w.heap.size _ (Nat.le_refl _) (hE.put _ hE2 (by omega) hl rfl) ((World.putObj_heap_other (by omega)).trans hd)⟩
end Go.Proofs.YtifbcejekdhnlaaDoor
