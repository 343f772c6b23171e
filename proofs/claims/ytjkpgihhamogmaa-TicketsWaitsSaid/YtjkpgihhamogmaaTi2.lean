/- Takes and Gives of the lock: steps. -/
import Derived.Test.YtjkpgihhamogmaaTi
namespace Go.Proofs.Ytjkpgihhamogmaa
open Go.RowKit Go.Maps
set_option linter.unusedVariables false
/-- What a step leaves. -/
def OpP (G : Nat → Prop) (w : World) (A : Ad) (V : Wv) (q : Nat) (C : List Value) (over : Bool) (e : Ending) (w' : World) : Prop := e = .returned (.bool over) ∧ Opw G w' A V q C ∧ Kp G w w'
section
variable {G : Nat → Prop} {w : World} {A : Ad} {V : Wv} {q : Nat} {t tick : Int} {dr : Bool}
set_option maxHeartbeats 1000000 in
set_option maxRecDepth 100000 in
theorem tk_step1 {n : Nat} (hn : n < 64) (h : Opw G w A V q (tkC n tick dr (mV 36 q))) (hc : V.cnt < 1000000000) {z u : Int} (hz : V.f 0 = z) (hu : IntKind.u64.wrap (z + 1) = u) :
    Calls Try.prog 9 #[.pointer (some ⟨q, 0, none⟩), .pointer (some ⟨A.p, 0, none⟩)] w (OpP G w A ((V.acc (upd V.f 0 u) 4 0 z u).tkset n u) q (tkC n z true (mV 65 q)) false) := by
  have C1 := Lib.hid (tk_overn h.ob)
  have C2 := Lib.hid (tk_draw hn h hc hz hu)
  have c3 := h.ob.at_ 3 _ rfl
  unfold mV at c3
  generalize (V.acc (upd V.f 0 u) 4 0 z u).tkset n u = V2 at *
  clear h hz hu
  go_enter Try.func9, Try.ntmps9
  go_wp2_with (first
    | (go_at_call 37; ((with_reducible refine C1.out.mono ?_); rintro e w1 ⟨rfl, rfl⟩))
    | (go_at_call 36; refine C2.out.mono ?_; rintro e w2 ⟨rfl, h2, k2⟩; have C1 := Lib.hid (tk_overn h2.ob); have H2 := Lib.hid h2; have K2 := Lib.hid k2; clear h2 k2 c3))
  go_ret
  exact ⟨rfl, H2.out, K2.out⟩
set_option maxHeartbeats 1000000 in
set_option maxRecDepth 100000 in
theorem tk_step2n (h : Opw G w A V q (tkC t tick dr (mV 65 q))) (hc : V.cnt < 1000000000) {s : Int} (hs : V.f 1 = s) (hn : (s != tick) = true) :
    Calls Try.prog 9 #[.pointer (some ⟨q, 0, none⟩), .pointer (some ⟨A.p, 0, none⟩)] w (OpP G w A (V.acc V.f 1 1 s s) q (tkC t tick dr (mV 65 q)) false) := by
  have C1 := Lib.hid (tk_overn h.ob)
  have C2 := Lib.hid (tk_await_no h hc hs hn)
  have c3 := h.ob.at_ 3 _ rfl
  unfold mV at c3
  generalize V.acc V.f 1 1 s s = V2 at *
  clear h hs hn
  go_enter Try.func9, Try.ntmps9
  go_wp2_with (first
    | (go_at_call 37; ((with_reducible refine C1.out.mono ?_); rintro e w1 ⟨rfl, rfl⟩))
    | (go_at_call 65; refine C2.out.mono ?_; rintro e w2 ⟨rfl, h2, k2⟩; have C1 := Lib.hid (tk_overn h2.ob); have H2 := Lib.hid h2; have K2 := Lib.hid k2; clear h2 k2 c3))
  go_ret
  exact ⟨rfl, H2.out, K2.out⟩
set_option maxHeartbeats 1000000 in
set_option maxRecDepth 100000 in
theorem tk_step2 {n : Nat} (hn : n < 64) (h : Opw G w A V q (tkC n tick dr (mV 65 q))) (hc : V.cnt < 1000000000) (hs : V.f 1 = tick) :
    Calls Try.prog 9 #[.pointer (some ⟨q, 0, none⟩), .pointer (some ⟨A.p, 0, none⟩)] w (OpP G w A (((V.acc V.f 1 1 tick tick).tkset n 0).hset n) q (tkC n tick dr .nilFunc) true) := by
  have C1 := Lib.hid (tk_overn h.ob)
  have C2 := Lib.hid (tk_await hn h hc hs)
  have c3 := h.ob.at_ 3 _ rfl
  unfold mV at c3
  generalize ((V.acc V.f 1 1 tick tick).tkset n 0).hset n = V2 at *
  clear h hs
  go_enter Try.func9, Try.ntmps9
  go_wp2_with (first
    | (go_at_call 37; first | ((with_reducible refine C1.out.mono ?_); rintro e w1 ⟨rfl, rfl⟩) | (refine C3.out.mono ?_; rintro e w1 ⟨rfl, rfl⟩))
    | (go_at_call 65; refine C2.out.mono ?_; rintro e w2 ⟨rfl, h2, k2⟩; have C3 := Lib.hid (tk_over h2.ob); have H2 := Lib.hid h2; have K2 := Lib.hid k2; clear h2 k2 c3 C1))
  go_ret
  exact ⟨rfl, H2.out, K2.out⟩
/-- Nothing is done by one that is over. -/
theorem tk_step0 (h : Ob w q (tkC t tick dr .nilFunc)) (x : Value) : Calls Try.prog 9 #[.pointer (some ⟨q, 0, none⟩), x] w fun e w' => e = .returned (.bool true) ∧ w = w' := by
  have C1 := Lib.hid (tk_over h)
  clear h
  go_enter Try.func9, Try.ntmps9
  go_wp2_with (go_at_call 37; ((with_reducible refine C1.out.mono ?_); rintro e w1 ⟨rfl, rfl⟩))
  go_ret
  exact ⟨rfl, rfl⟩
theorem tk_step_nil (x : Value) (w : World) : Calls Try.prog 9 #[.pointer none, x] w fun e w' => e = .returned (.bool true) ∧ w = w' := by
  have C1 := Lib.hid (tk_over_nil w)
  go_enter Try.func9, Try.ntmps9
  go_wp2_with (go_at_call 37; ((with_reducible refine C1.out.mono ?_); rintro e w1 ⟨rfl, rfl⟩))
  go_ret
  exact ⟨rfl, rfl⟩
theorem tk_step_no {f : FuncId} (h : Ob w q (tkC t tick dr (mV f q))) : Calls Try.prog 9 #[.pointer (some ⟨q, 0, none⟩), .pointer none] w fun e w' => e = .returned (.bool false) ∧ w = w' := by
  have C1 := Lib.hid (tk_overn h)
  clear h
  go_enter Try.func9, Try.ntmps9
  go_wp2_with (go_at_call 37; ((with_reducible refine C1.out.mono ?_); rintro e w1 ⟨rfl, rfl⟩))
  go_ret
  exact ⟨rfl, rfl⟩
end
end Go.Proofs.Ytjkpgihhamogmaa
