/- Bytes behind a row of the call's own, in a region whose order is open; a text of bytes. -/
import Derived.Test.YtifbcejekdhnlaaDoorBy
import Derived.Laws.OwnMore
import Derived.Deep.AppendLies
namespace Go.Proofs.YtifbcejekdhnlaaDoor
open Go.RowKit
set_option linter.unusedVariables false

theorem run_append_by {P : Program} (w : World) (base : Nat) (t ty e : TypeId) (ht : P.underlying t = some (.slice e)) (hinfo : (P.info? e).map (fun i => (i.zero, i.size, i.bytes)) = some (some (.int .u8 0), 1, 1))
    (v : Value) (l : List UInt8) (hown : w.ownsRow base e 1 v l.length (byv l)) (B : Nat) (A : Option Addr) (m : List UInt8) (c : Nat) (hr : Rd w B A m) (hc0 : A = none → c = 0) (hlen : l.length + m.length ≤ 1048576) (hbase : base ≤ w.heap.size) :
    ∃ v' w', (Builtin.append_ #[t, t] ty #[v, .slice A m.length c]).run P w = .ok v' w' ∧ w'.ownsRow base e 1 v' (l ++ m).length (byv (l ++ m)) ∧ w.grownBy w' v.ownBlock ∧ (v' = .slice none 0 0 ↔ v = .slice none 0 0 ∧ m = []) := by
  obtain ⟨i0, hi, hz0, hz1, hz2⟩ := info_parts hinfo
  cases A with
  | none =>
    have hm : m = [] := by
      cases m with
      | nil => rfl
      | cons b m => obtain ⟨g, off, e, _⟩ := hr (by simp); simp at e
    subst hm
    have hc := hc0 rfl
    subst hc
    exact ⟨v, w, run_append_owned_none (P := P) (w := w) base t ty e i0 1 ht hi v _ _ hown, by simpa using hown, World.grownBy.refl w _, by simp⟩
  | some ad =>
    have hcell : ∀ j u, (byv m)[j]? = some u → w.cell? (ad.add j) = some u := by
      intro j u hj
      have hjl : j < m.length := by
        rcases Nat.lt_or_ge j m.length with h | h
        · exact h
        · rw [List.getElem?_eq_none (by rw [byv_len]; exact h)] at hj; simp at hj
      obtain ⟨g, off, e, _, hc⟩ := hr (by omega)
      injection e with e
      subst e
      rw [Addr.add_lit, hc j hjl, ← hj, byv_at hjl]
    obtain ⟨v', w', hrun, h1, h2, h3⟩ := run_append_own (P := P) w base t ty e i0 (.int .u8 0) 1 1 ht hi hz0 hz1 hz2 rfl (by decide) v _ _ hown ad m.length c (byv m) (by rw [byv_len]; omega) hcell (fun u hu => byv_one hu) (by unfold maxLen; omega) (by omega) hbase
    rw [← byv_app] at h1
    exact ⟨v', w', hrun, by rw [List.length_append]; exact h1, h2, by rw [h3]; simp⟩
theorem step_append_by {P : Program} (w : World) {ops : Array Oper} {o : Oper} {a : Act} {K : Act → World → Prop} {Q : Exit → Act → World → Prop} {E : Prop} (hgd : o.guard = none) (s x : Operand) (t : TypeId)
    (ho : o.op = .call { callee := .builtin .append, args := #[s, x], argTypes := #[t, t] })
    (base : Nat) (e : TypeId) (ht : P.underlying t = some (.slice e)) (hinfo : (P.info? e).map (fun i => (i.zero, i.size, i.bytes)) = some (some (.int .u8 0), 1, 1))
    (v : Value) (l : List UInt8) (hs : a.eval s = v) (hown : w.ownsRow base e 1 v l.length (byv l))
    (B : Nat) (A : Option Addr) (m : List UInt8) (c : Nat) (hx : a.eval x = .slice A m.length c) (hr : Rd w B A m) (hc0 : A = none → c = 0)
    (hlen : l.length + m.length ≤ 1048576) (hbase : base ≤ w.heap.size)
    (h : ∀ v' w', w'.ownsRow base e 1 v' (l ++ m).length (byv (l ++ m)) → w.grownBy w' v.ownBlock → (v' = .slice none 0 0 ↔ v = .slice none 0 0 ∧ m = []) → K (a.put o.dst v') w') :
    if Region.wanted o (yielded ops a.tmps) = true then Oper.wp P o a w K Q else E := by
  have hw : Region.wanted o (yielded ops a.tmps) = true := by simp [Region.wanted, hgd]
  rw [if_pos hw]
  obtain ⟨v', w', hrun, h2, h3, h4⟩ := run_append_by (P := P) w base t o.type e ht hinfo v l hown B A m c hr hc0 hlen hbase
  unfold Oper.wp execOp
  simp only [ho, resolve, invoke, builtin, Sem.run_bind, Sem.run_pure, Result.andThen_ok, List.map_toArray, List.map_cons, List.map_nil, hs, hx, hrun]
  exact h v' w' h2 h3 h4
theorem conv_by {P : Program} (w : World) (src dst e : TypeId) (hs : P.underlying src = some (.slice e)) (he : P.underlying e = some (.int .u8)) (hd : P.underlying dst = some .string) {B : Nat} {A : Option Addr} {l : List UInt8} (c : Nat) (hr : Rd w B A l) :
    (convert src dst (.slice A l.length c)).run P w = .ok (.string ⟨l.toArray⟩) w := by
  cases A with
  | none =>
    have hl : l = [] := by
      cases l with
      | nil => rfl
      | cons b m => obtain ⟨g, off, e, _⟩ := hr (by simp); simp at e
    subst hl
    exact run_convert_bytes_nil (P := P) w src e hs he 0 c dst hd
  | some a =>
    refine run_convert_bytes_back (P := P) w src dst e a c l hs he hd fun j hj => ?_
    obtain ⟨g, off, e, _, hc⟩ := hr (by omega)
    injection e with e
    subst e
    rw [Addr.add_lit]
    exact hc j hj
end Go.Proofs.YtifbcejekdhnlaaDoor
