/- Maps of counts by words, as functions; a world's notes, as they stand behind two more. -/
import Derived.Test.YtepkpbhhiianpaaGw4
namespace Go.Proofs.Ytepkpbhhiianpaa
open Go.RowKit Go.Maps
set_option linter.unusedVariables false
theorem lawI : Keyed Try.prog 22 := int_keyed Try.underlying22
theorem keyI {a : Int} (h : isU a) : keyOf Try.prog 22 (.int .u64 a) = some (kA a) := keyOf_int_mk Try.underlying22 (isU_wf h)
/-- A count, not so great. -/
def isC (v : Int) : Prop := 0 ≤ v ∧ v ≤ 1000000
theorem isC_wf {v : Int} (h : isC v) : (Lit.int .i64 v).wf = true := WalkArith.wf_i64 (by obtain ⟨h1, h2⟩ := h; omega)
/-- The map's block has these counts: 0 where nothing lies. -/
def Mi (w : World) (m n : Nat) (D : DataW Unit) (f : Int → Int) : Prop := w.ownsMap Try.prog 22 (plainElem Try.prog 3) m n D ∧ (∀ a, isU a → D.atKey (kA a) (.lit (.int .i64 0)) = .lit (.int .i64 (f a))) ∧ ∀ a, isU a → isC (f a)
theorem zeroI (w : World) : (zeroValue 3).run Try.prog w = .ok (.int .i64 0) w := by kernel_rfl
section
variable {w W : World} {m n : Nat} {D : DataW Unit} {f : Int → Int} {a v : Int}
set_option maxRecDepth 100000 in
theorem Mi.look (h : Mi w m n D f) (ha : isU a) : (Instr.lookup 48 (.map (some m)) (.int .u64 a) false).run Try.prog w = .ok (.int .i64 (f a)) w := by
  obtain ⟨c, hrun, hat, -⟩ := h.1.lookup_int lawI Try.underlying48 Try.underlying3 (zeroI w) (keyI ha)
  rw [h.2.1 a ha] at hat
  injection hat with hat
  injection hat with _ hat
  rw [hat]
  exact hrun
theorem Mi.put (h : Mi w m n D f) (ha : isU a) (hv : isC v) (ho : W.ownsMap Try.prog 22 (plainElem Try.prog 3) m (n + 1) (D.put (kA a) (.lit (.int .i64 v)))) : Mi W m (n + 1) (D.put (kA a) (.lit (.int .i64 v))) (upd f a v) := by
  refine ⟨ho, fun b hb => ?_, fun b hb => ?_⟩
  · by_cases e : b = a
    · subst e
      rw [Maps.atKey_put_same h.1.isMap (kA_key b), upd_same]
    · rw [Maps.atKey_put_other (kA_ne e), upd_other e]
      exact h.2.1 b hb
  · by_cases e : b = a
    · subst e
      rw [upd_same]; exact hv
    · rw [upd_other e]; exact h.2.2 b hb
theorem Mi.keep {S : Nat → Prop} (h : Mi w m n D f) (hk : Keeps S w W) (hS : ¬ S m) : Mi W m n D f := ⟨hk.ownsMap h.1 hS, h.2⟩
theorem Mi.made (w : World) : Mi (w.alloc (.map #[] 0)) w.heap.size 0 (.map []) (fun _ => 0) := ⟨World.ownsMap_made w _ _ _, fun a ha => by rfl, fun a ha => by show isC 0; exact ⟨by decide, by decide⟩⟩
theorem Mi.lt (h : Mi w m n D f) : m < w.heap.size := h.1.lt
end
/-- A note behind such as have no later step. -/
theorem addL_snoc {L : List Nv} {x : Nv} (h : ∀ y, y ∈ L → y.s ≤ x.s) (hl : L.length < 1048576) (hk : iskf x.k = true) : addL L x = L ++ [x] := by
  unfold addL addF
  have e : lowN L x = false := by
    unfold lowN
    cases hg : L.getLast? with
    | none => rfl
    | some y => exact decide_eq_false (by have := h y (List.mem_of_getLast? hg); omega)
  rw [e, hk]
  simp
  omega
/-- The notes' slice, of two at least. -/
def NtsAt (w : World) (g : Nat) (M : List Nv) : Prop := g < w.heap.size ∧ ∀ (i : Nat) x, M[i]? = some x → ∀ j v, j < 8 → x.cells[j]? = some v → w.cell? ⟨g, i * 8 + j, none⟩ = some v
theorem NtsAt.new {w W : World} {g : Nat} {M : List Nv} (h : NtsAt w g M) (hb : Below w.heap.size w W) : NtsAt W g M :=
  ⟨Nat.lt_of_lt_of_le h.1 hb.size, fun i x hi j v hj hv => (hb.cell (p := ⟨g, i * 8 + j, none⟩) h.1).trans (h.2 i x hi j v hj hv)⟩
theorem gnotes {G : Nat → Prop} {w : World} {A : Ad} {V : Wv} (h : WdG G w A V) (h0 : 0 < V.M.length) (hM : V.M.length ≤ 1000) : Calls Try.prog 24 #[.pointer (some ⟨A.pn, 0, none⟩)] w fun e w' => ∃ g cap, e = .returned (.slice (some ⟨g, 0, none⟩) V.M.length cap) ∧ V.M.length ≤ cap ∧ NtsAt w' g V.M ∧ Below w.heap.size w w' := by
  obtain ⟨S, h1, h2, h3⟩ := h
  refine (wall h1 (by omega)).mono ?_
  rintro e w' ⟨v, rfl, ⟨hl, ⟨-, e0⟩ | ⟨g, cap, rfl, hB, hg, hnc, hcm, hx⟩⟩, hb⟩
  · omega
  · refine ⟨g, cap, rfl, hnc, ⟨hg, fun i x hi j u hj hu => ?_⟩, hb⟩
    have hi' : i < V.M.length := by
      rcases Nat.lt_or_ge i V.M.length with h | h
      · exact h
      · rw [List.getElem?_eq_none h] at hi; simp at hi
    have hxe : V.M[i] = x := by rw [List.getElem?_eq_getElem hi'] at hi; injection hi
    subst hxe
    exact (hx (i * 8 + j) u ((rowsN_at V.M i j hi' hj).trans hu)).1
theorem gsteps {G : Nat → Prop} {w : World} {A : Ad} {V : Wv} (h : WdG G w A V) : Calls Try.prog 25 #[.pointer (some ⟨A.p, 0, none⟩)] w fun e w' => e = .returned (.int .i64 V.cnt) ∧ w = w' := by
  obtain ⟨S, h1, h2, h3⟩ := h
  exact wsteps h1
end Go.Proofs.Ytepkpbhhiianpaa
