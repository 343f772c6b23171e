/- Touches of an item: the examples of chapter 22. -/
import Derived.Test.YthlebfiedejhhaaTo3
namespace Go.Proofs.Ythlebfiedejhhaa
open Go.RowKit Go.Maps
set_option linter.unusedVariables false

def lessF (v : Int) : Int := if v % 2 = 1 then IntKind.u64.wrap (v + 1) else v
/-- The worlds of the examples. -/
def W1 : Wv := V0 ⟨1, 8, 3, 1, 16⟩
def IsW1 (w : World) (e : Ending) (w' : World) : Prop := ∃ A, e = .returned (.pointer (some ⟨A.p, 0, none⟩)) ∧ WdB w' A W1 w.heap.size ∧ Below w.heap.size w w'
theorem world1 (w : World) : Calls Try.prog 12 #[.int .i64 1] w (IsW1 w) := by
  have C := Lib.hid (newW 1 8 3 1 16 w (by decide))
  go_enter Try.func12, Try.ntmps12
  go_wp2_with fail
  refine C.out.mono ?_
  rintro e w1 ⟨A, rfl, hW, K⟩
  have HW := Lib.hid hW
  have HK := Lib.hid K
  clear hW K C
  go_wp2_with fail
  go_ret
  exact ⟨A, rfl, HW.out, HK.out⟩
theorem w1_f (z : Int) (h : z ≠ 2) : W1.f z = 0 := by show upd (fun _ => 0) 2 1 z = 0; exact upd_other h
theorem w1_cnt : W1.cnt = 0 := rfl
section
variable {G : Nat → Prop} {w : World} {A : Ad} {V : Wv} {q : Nat} {m v : Int}
/-- What a run leaves: its world's words, but for one; its touch. -/
def RunP (G : Nat → Prop) (w : World) (A : Ad) (V : Wv) (q : Nat) (m nv word : Int) (done : Bool) (k : Int) (e : Ending) (w' : World) : Prop := e = .returned (.int .i64 k) ∧ ∃ V' : Wv, Tw G w' A V' q m word 0 done ∧ (V'.f m = nv ∧ (∀ z, z ≠ m → V'.f z = V.f z) ∧ V'.cnt = V.cnt + k) ∧ Kp G w w'
theorem WdG.less {G' : Nat → Prop} (h : WdG G w A V) (hG : ∀ k, G' k → G k) : WdG G' w A V := by
  obtain ⟨S, h1, h2, h3⟩ := h
  exact ⟨S, h1, fun k g => h2 k (hG k g), fun k g => h3 k (hG k g)⟩
end
end Go.Proofs.Ythlebfiedejhhaa
