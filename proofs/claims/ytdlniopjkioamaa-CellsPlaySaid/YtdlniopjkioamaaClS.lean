/- Contracts of package cells: Swap. -/
import Derived.Test.YtdlniopjkioamaaClO
namespace Go.Proofs.Ytdlniopjkioamaa
open Go.RowKit Go.Maps
set_option linter.unusedVariables false

theorem cl_swap (z v : Int) (b : Nat) (w : World) (hc : w.cell? ⟨b, 0, none⟩ = some (.int .u64 v)) : Calls Try.prog 32 (#[.int .u64 z] ++ #[.pointer (some ⟨b, 0, none⟩)]) w fun e w' => e = .returned (.int .u64 v) ∧ w = w' := by
  go_enter Try.func32, Try.ntmps32
  go_wp2_with fail
  go_ret
  exact ⟨rfl, rfl⟩
section
variable {w : World} {p n : Nat} {f : Int → Int} {cnt k a0 x y a v : Int} {S : Nat → Prop}
theorem swap_any (h : Cel w p f cnt k a0 x y n S) (ha : isU a) (hv : isU v) (hn : n < 1099511627776) (hc0 : 0 ≤ cnt) (hc1 : cnt < 1000000000000) :
    Calls Try.prog 16 #[.pointer (some ⟨p, 0, none⟩), .int .u64 a, .int .u64 v] w fun e w' => e = .returned (.int .u64 (f a)) ∧ AccPost w p (upd f a v) (cnt + 1) 5 a (f a) v (n + 1) S w' := by
  have h1 : ∀ o, Cel (w.alloc o) p f cnt k a0 x y n S := fun o => IsCells.keep h ((Keeps.refl (fun _ => False) w).alloc o) (fun _ _ s => s)
  have HA := Lib.hid (fun T => access_any (kk := 5) (is := v) 32 #[.pointer (some ⟨w.heap.size, 0, none⟩)] (h1 (.cells #[.int .u64 v] T)) ha hv hn hc0 hc1 (enter_of Try.func32 (by kernel_rfl) rfl) (cl_swap _ v w.heap.size _ (by simp)) (Keeps.refl (fun _ => False) _) (fun _ _ s => s))
  clear h h1
  generalize f a = z at *
  go_enter Try.func16, Try.ntmps16
  go_wp2_with (go_at_call 27; refine (HA.out _).mono ?_; rintro e w' ⟨rfl, hk⟩)
  go_ret
  exact ⟨rfl, hk.after ((Below.refl _ _).alloc (Nat.le_refl _) _)⟩
end
end Go.Proofs.Ytdlniopjkioamaa
