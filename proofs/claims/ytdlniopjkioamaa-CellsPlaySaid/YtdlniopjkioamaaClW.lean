/- Contracts of package cells: the words of cells that are all 0. -/
import Derived.Test.YtdlniopjkioamaaClN
import Derived.Maps.RangeWalk
import Derived.Laws.RangeAny
namespace Go.Proofs.Ytdlniopjkioamaa
open Go.RowKit Go.Maps
set_option linter.unusedVariables false

theorem wf_isU {a : Int} (h : (Lit.int .u64 a).wf = true) : isU a := by
  simp [Lit.wf, IntKind.min, IntKind.max, IntKind.signed, IntKind.bits] at h
  unfold isU; omega
def cV : Option Nat → Value
  | none => .pointer none
  | some b => .pointer (some ⟨b, 0, none⟩)
theorem cV_inv (v : Value) (y : DataW Unit × List MemPlace) (h : cR v = some y) : ∃ c, v = cV c := by
  unfold cR at h
  split at h
  · exact ⟨some _, rfl⟩
  · exact ⟨none, rfl⟩
  · simp at h
def SortNone : Prop := ∀ (fv : Value) (w : World), Calls Try.prog 33 #[.slice none 0 0, fv] w fun e w' => e = .returned (.tuple #[]) ∧ w' = w
theorem clip_none (w : World) : Calls Try.prog 36 #[.slice none 0 0] w fun e w' => e = .returned (.slice none 0 0) ∧ w = w' := by
  go_enter Try.func36, Try.ntmps36
  go_wp2_with fail
  go_ret
  exact ⟨rfl, rfl⟩
section
variable {w : World} {p m n : Nat} {D : DataW Unit} {f : Int → Int} {cnt k a0 x y : Int} {S : Nat → Prop}
theorem words_none (HS : SortNone) (hm : w.cell? ⟨p, 0, none⟩ = some (.map none)) :
    Calls Try.prog 17 #[.pointer (some ⟨p, 0, none⟩)] w fun e w' => e = .returned (.slice none 0 0) ∧ Below w.heap.size w w' := by
  have hr := run_range_nilMap (P := Try.prog) w 52 27 56 Try.underlying52
  have hx : ∀ ty, (Instr.next (.pointer (some ⟨w.heap.size, 0, none⟩)) false ty).run Try.prog (w.alloc (.mapIter none 0 #[] 0)) = _ := fun ty => run_next_nilMap w ty 0 0 #[]
  go_enter Try.func17, Try.ntmps17
  go_wp2_with fail
  refine wp_loop_rounds 1 ?_
  rw [rounds_succ]
  go_wp2_with (first
    | (go_at_call 33; refine (HS _ _).mono ?_; rintro e w' ⟨rfl, rfl⟩)
    | (go_at_call 36; refine (clip_none _).mono ?_; rintro e w' ⟨rfl, rfl⟩))
  go_ret
  exact ⟨rfl, (Below.refl _ _).alloc (Nat.le_refl _) _⟩
theorem words_empty (HS : SortNone) (h : Cel w p f cnt k a0 x y n S) (hf : ∀ a, isU a → f a = 0) (hm : w.cell? ⟨p, 0, none⟩ = some (.map (some m))) (H : MapOk Try.prog 27 w p m n D f S) :
    Calls Try.prog 17 #[.pointer (some ⟨p, 0, none⟩)] w fun e w' => e = .returned (.slice none 0 0) ∧ Below w.heap.size w w' := by
  have hown := H.own
  have hno : ∀ z kl, Go.keyOf Try.prog 27 (.int .u64 z) = some kl → Maps.has D kl = true → False := by
    intro z kl hk hh
    obtain ⟨z', e1, rfl, hw⟩ := Maps.keyOf_int_inv Try.underlying27 hk
    have hz : isU z' := wf_isU hw
    have := H.has z' hz
    rw [hf z' hz] at this
    unfold kA at this
    rw [this] at hh
    simp at hh
  have HNO := Lib.hid hno
  clear hno h H
  go_enter Try.func17, Try.ntmps17
  go_wp2_with (at_range; refine wpList_range_own _ rfl _ 52 rfl 27 56 lawA Try.underlying52 cR m n D rfl hown ?_; intro w0 hrg0 hg0 hs0)
  refine wp_loop_rounds 1 ?_
  rw [rounds_succ]
  go_wp2_with (at_next; refine wpList_next_ranges _ rfl _ rfl 27 lawA cR (fun z : Int => .int .u64 z) cV (fun key kl hk => by obtain ⟨z, rfl, _⟩ := Maps.keyOf_int_inv Try.underlying27 hk; exact ⟨z, rfl⟩) cV_inv m w.heap.size n D (Maps.has D) (Maps.size D) rfl hrg0 (fun _ _ => ?_) (fun z c kl y w1 cnt1 hk hl => (HNO.out z kl hk hl).elim))
  go_wp2_with (first
    | (go_at_call 33; refine (HS _ _).mono ?_; rintro e w' ⟨rfl, rfl⟩)
    | (go_at_call 36; refine (clip_none _).mono ?_; rintro e w' ⟨rfl, rfl⟩))
  go_ret
  exact ⟨rfl, (Below.refl _ _).grown hg0 (Nat.le_refl _) (fun k e => by simp at e)⟩
theorem words_zero (HS : SortNone) (h : Cel w p f cnt k a0 x y n S) (hf : ∀ a, isU a → f a = 0) :
    Calls Try.prog 17 #[.pointer (some ⟨p, 0, none⟩)] w fun e w' => e = .returned (.slice none 0 0) ∧ Below w.heap.size w w' := by
  rcases h.map with ⟨hm, -⟩ | ⟨m, D, hm, H⟩
  · exact words_none HS hm
  · exact words_empty HS h hf hm H
end
end Go.Proofs.Ytdlniopjkioamaa
