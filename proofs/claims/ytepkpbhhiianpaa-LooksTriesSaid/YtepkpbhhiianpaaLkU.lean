/- A Mark of one place beside a world, run; what lies between. -/
import Derived.Test.YtepkpbhhiianpaaLkT
import Derived.Test.YtepkpbhhiianpaaMk
namespace Go.Proofs.Ytepkpbhhiianpaa
open Go.RowKit Go.Maps
set_option linter.unusedVariables false
theorem wd_addNT {G : Nat → Prop} {w W : World} {A : Ad} {V : Wv} (h : WdG G w A V) (hb : Below w.heap.size w W) : WdG (fun k => G k ∨ (w.heap.size ≤ k ∧ k < W.heap.size)) W A V := by
  obtain ⟨S, h1, h2, h3⟩ := h
  refine ⟨S, h1.new hb, fun k g s => ?_, fun k g => ?_⟩
  · rcases g with g | g
    · exact h2 k g s
    · have := h1.lt _ s; omega
  · rcases g with g | g
    · exact Nat.lt_of_lt_of_le (h3 k g) hb.size
    · exact g.2
set_option maxHeartbeats 2000000 in
set_option maxRecDepth 100000 in
theorem run1T {G : Nat → Prop} {w : World} {A : Ad} {V : Wv} {q g : Nat} {x : Int} (h : Mw G w A V q [x] g) (hc : V.cnt < 1000000) (hx : isU x) (h1 : V.f x = 0) :
    Calls Try.prog 20 #[.pointer (some ⟨A.p, 0, none⟩), .iface 73 (.pointer (some ⟨q, 0, none⟩)), .int .i64 9] w fun e w' => e = .returned (.int .i64 1) ∧ WdG G w' A (V.acc (upd V.f x 1) 4 x 0 1) ∧ Kp G w w' := by
  have C0 := Lib.hid (h.over (b := false) rfl)
  have C1 := Lib.hid (mk_step h (by decide) hx (by omega) h1 (u := 1) (by decide) (b := true) rfl)
  generalize V.acc (upd V.f x 1) 4 x 0 1 = V1 at *
  clear h h1
  go_enter Try.func20, Try.ntmps20
  go_wp2_with fail
  refine wp_loop_rounds 2 ?_
  rw [rounds_succ]
  go_wp2_with fail
  refine C0.out.mono ?_
  rintro e w1 ⟨rfl, rfl⟩
  go_wp2_with fail
  refine C1.out.mono ?_
  rintro e w2 ⟨rfl, hm2, k2⟩
  have C2 := Lib.hid (hm2.over (b := true) rfl)
  have H2 := Lib.hid hm2
  have K2 := Lib.hid k2
  clear hm2 k2
  go_wp2_with fail
  rw [rounds_succ]
  go_wp2_with fail
  refine C2.out.mono ?_
  rintro e w3 ⟨rfl, rfl⟩
  go_wp2_with fail
  go_ret
  exact ⟨rfl, H2.out.wd, K2.out⟩
end Go.Proofs.Ytepkpbhhiianpaa
