/- Feeds: a new one; how much is left. -/
import Derived.Test.YtifbcejekdhnlaaDoorFu
namespace Go.Proofs.YtifbcejekdhnlaaDoor
open Go.RowKit Go.Maps
set_option linter.unusedVariables false

theorem fd_mk {w W : World} {q : Nat} (h : Cb W q (fdC Fst.new (.slice none 0 0) (.slice none 0 0))) : FdAt W q (fun k => k = q) Fst.new (.slice none 0 0) (.slice none 0 0) :=
  fd_at h rfl (fun k e => by subst e; exact h.lt)
theorem newFd (w : World) : Calls Tryd.prog 26 #[] w fun e w' => e = .returned (.pointer (some ⟨w.heap.size, 0, none⟩)) ∧ FdAt w' w.heap.size (fun k => k = w.heap.size) Fst.new (.slice none 0 0) (.slice none 0 0) ∧ Below w.heap.size w w' := by
  go_enter Tryd.func26, Tryd.ntmps26
  go_wp2_with fail
  go_ret
  exact ⟨rfl, fd_mk (w := w) (cb_new rfl), (Below.refl _ _).alloc (Nat.le_refl _) _⟩
set_option maxHeartbeats 1000000 in
theorem leftw (q : Nat) (s : Fst) (hv kv : Value) (w : World) (h : Cb w q (fdC s hv kv)) (hr : w.ownsRow 0 5 1 hv s.held.length (byv s.held)) (hl : s.held.length ≤ 2048) :
    Calls Tryd.prog 29 #[.pointer (some ⟨q, 0, none⟩)] w fun e w' => e = .returned (.int .i64 (leftF s : Nat)) ∧ w = w' := by
  obtain ⟨a, cap, rfl, hnc, hcm, ha0⟩ := row_slice hr
  have c1 := h.at_ 1 _ rfl
  have c2 := h.at_ 2 _ rfl
  obtain ⟨n, hn⟩ : ∃ n, s.held.length = n := ⟨_, rfl⟩
  rw [hn] at c1 hl
  cases he : s.ended with
  | true =>
    have HL := Lib.hid (show leftF s = n + 1 by unfold leftF; rw [he, if_pos rfl, hn])
    rw [he] at c2
    clear he hn h hr
    go_enter Tryd.func29, Tryd.ntmps29
    go_wp2
    go_ret
    rw [HL.out]
    exact ⟨rfl, rfl⟩
  | false =>
    have HL := Lib.hid (show leftF s = n by unfold leftF; rw [he, if_neg (by simp), hn])
    rw [he] at c2
    clear he hn h hr
    go_enter Tryd.func29, Tryd.ntmps29
    go_wp2
    go_ret
    rw [HL.out]
    exact ⟨rfl, rfl⟩
theorem left_nil (w : World) : Calls Tryd.prog 29 #[.pointer none] w fun e w' => e = .returned (.int .i64 0) ∧ w = w' := by
  go_enter Tryd.func29, Tryd.ntmps29
  go_wp2
  go_ret
  exact ⟨rfl, rfl⟩
end Go.Proofs.YtifbcejekdhnlaaDoor
