/- Contracts of package cells: what is told without an access. -/
import Derived.Test.YtdlniopjkioamaaChecked
import Derived.Test.YtdlniopjkioamaaCl
import Derived.Laws.LoneSync
namespace Go.Proofs.Ytdlniopjkioamaa
open Go.RowKit Go.Maps
set_option linter.unusedVariables false

theorem lawA : Keyed Try.prog 27 := int_keyed Try.underlying27
theorem keyA {a : Int} (h : isU a) : Go.keyOf Try.prog 27 (.int .u64 a) = some (kA a) := keyOf_int_mk Try.underlying27 (isU_wf h)
theorem zeroP (w : World) : (zeroValue 56).run Try.prog w = .ok (.pointer none) w := by kernel_rfl
/-- Cells of this program. -/
def Cel (w : World) (p : Nat) (f : Int → Int) (cnt k a x y : Int) (n : Nat) (S : Nat → Prop) : Prop := IsCells Try.prog 27 w p f cnt k a x y n S

theorem aload (b : Nat) (v : Int) (w : World) (hc : w.cell? ⟨b, 0, none⟩ = some (.int .u64 v)) :
    Calls Try.prog 26 #[.pointer (some ⟨b, 0, none⟩)] w fun e w' => e = .returned (.int .u64 v) ∧ w = w' := by
  have hl := run_call_load (P := Try.prog) Try.func39 (by kernel_rfl) (by kernel_rfl) (by kernel_rfl) .u64 (by kernel_rfl) hc
  go_enter Try.func26, Try.ntmps26
  go_wp2_with fail
  go_ret
  exact ⟨rfl, rfl⟩
theorem astore (b : Nat) (u v : Int) (w : World) (hc : w.cell? ⟨b, 0, none⟩ = some (.int .u64 u)) (hf : w.frozen? ⟨b, 0, none⟩ = false) :
    Calls Try.prog 37 #[.pointer (some ⟨b, 0, none⟩), .int .u64 v] w fun e w' => e = .returned (.tuple #[]) ∧ w' = w.setCell ⟨b, 0, none⟩ (.int .u64 v) := by
  have hl := run_call_store (P := Try.prog) Try.func43 (by kernel_rfl) (by kernel_rfl) (by kernel_rfl) (by kernel_rfl) (k := .u64) (y := v) hc hf
  go_enter Try.func37, Try.ntmps37
  go_wp2_with fail
  go_end0
  exact ⟨rfl, rfl⟩
theorem peek_nil (a : Int) (w : World) : Calls Try.prog 10 #[.pointer none, .int .u64 a] w fun e w' => e = .returned (.int .u64 0) ∧ w = w' := by
  go_enter Try.func10, Try.ntmps10
  go_wp2_with fail
  go_ret
  exact ⟨rfl, rfl⟩
theorem peek_any {w : World} {p n : Nat} {f : Int → Int} {cnt k a0 x y : Int} {S : Nat → Prop} (h : Cel w p f cnt k a0 x y n S) (a : Int) (ha : isU a) :
    Calls Try.prog 10 #[.pointer (some ⟨p, 0, none⟩), .int .u64 a] w fun e w' => e = .returned (.int .u64 (f a)) ∧ w = w' := by
  rcases h.map with ⟨hm, hf⟩ | ⟨m, D, hm, H⟩
  · have hl := Maps.look_nil (P := Try.prog) (w := w) true lawA Try.underlying52 (zeroP w) (keyA ha)
    rw [hf a ha]
    clear hf h
    go_enter Try.func10, Try.ntmps10
    go_wp2_with fail
    go_ret
    exact ⟨rfl, rfl⟩
  · obtain ⟨v, ps, hrun, hv⟩ := H.own.look_ok lawA Try.underlying52 (zeroP w) cR_nil (keyA ha)
    rw [H.has a ha] at hrun
    by_cases h0 : f a = 0
    · have e : (f a != 0) = false := by rw [h0]; rfl
      rw [e] at hrun
      rw [h0]
      clear h H hv e h0
      go_enter Try.func10, Try.ntmps10
      go_wp2_with fail
      go_ret
      exact ⟨rfl, rfl⟩
    · have e : (f a != 0) = true := bne_iff_ne.2 h0
      obtain ⟨b, hb, hc, hfz, -⟩ := H.at_ a ha h0
      rw [hb] at hv
      obtain rfl := cR_lit hv
      rw [e] at hrun
      clear h H hv e h0 hb
      generalize f a = z at hc ⊢
      go_enter Try.func10, Try.ntmps10
      go_wp2_with (go_at_call 26; refine (aload _ _ _ hc).mono ?_; rintro e w' ⟨rfl, rfl⟩)
      go_ret
      exact ⟨rfl, rfl⟩
theorem count_nil (w : World) : Calls Try.prog 18 #[.pointer none] w fun e w' => e = .returned (.int .i64 0) ∧ w = w' := by
  go_enter Try.func18, Try.ntmps18
  go_wp2_with fail
  go_ret
  exact ⟨rfl, rfl⟩
theorem count_any {w : World} {p n : Nat} {f : Int → Int} {cnt k a0 x y : Int} {S : Nat → Prop} (h : Cel w p f cnt k a0 x y n S) :
    Calls Try.prog 18 #[.pointer (some ⟨p, 0, none⟩)] w fun e w' => e = .returned (.int .i64 cnt) ∧ w = w' := by
  have hc := h.c1
  clear h
  go_enter Try.func18, Try.ntmps18
  go_wp2_with fail
  go_ret
  exact ⟨rfl, rfl⟩
theorem last_nil (w : World) : Calls Try.prog 9 #[.pointer none] w fun e w' => e = .returned (.agg #[.int .u8 0, .int .u64 0, .int .u64 0, .int .u64 0]) ∧ Below w.heap.size w w' := by
  go_enter Try.func9, Try.ntmps9
  go_wp2_with fail
  refine bodyPost_ret (v := .agg #[.int .u8 0, .int .u64 0, .int .u64 0, .int .u64 0]) (by simp [results, Try.results9, go_sem]) rfl ⟨rfl, ?_⟩
  exact (Below.refl w.heap.size w).alloc (Nat.le_refl _) _
end Go.Proofs.Ytdlniopjkioamaa
