/- Contracts of package cells: Load, Store, Swap, Add, CAS. -/
import Derived.Test.YtdlniopjkioamaaClX
import Derived.RegionTactic
import Derived.Laws.NewBlocks
namespace Go.Proofs.Ytdlniopjkioamaa
open Go.RowKit Go.Maps
set_option linter.unusedVariables false

theorem enter_of {P : Program} {f : FuncId} {fn : Func} {c : Code} (hf : P.funcs[f]? = some fn) (hname : (fn.name == "runtime.NumGoroutine") = false) (hb : fn.body = some c) (args : Array Value) (w : World) :
    (callFunc f args).run P w = .ok (.enter f args) w := by
  have h1 : fn.name ≠ "runtime.NumGoroutine" := by simpa using hname
  simp [callFunc, hf, h1, hb]
theorem cl_load (z : Int) (w : World) : Calls Try.prog 29 (#[.int .u64 z] ++ #[]) w fun e w' => e = .returned (.int .u64 z) ∧ w = w' := by
  go_enter Try.func29, Try.ntmps29
  go_wp2_with fail
  go_ret
  exact ⟨rfl, rfl⟩
theorem cl_store (z v : Int) (b : Nat) (w : World) (hc : w.cell? ⟨b, 0, none⟩ = some (.int .u64 v)) : Calls Try.prog 28 (#[.int .u64 z] ++ #[.pointer (some ⟨b, 0, none⟩)]) w fun e w' => e = .returned (.int .u64 v) ∧ w = w' := by
  go_enter Try.func28, Try.ntmps28
  go_wp2_with fail
  go_ret
  exact ⟨rfl, rfl⟩
theorem cl_add (z v : Int) (b : Nat) (w : World) (hc : w.cell? ⟨b, 0, none⟩ = some (.int .u64 v)) : Calls Try.prog 31 (#[.int .u64 z] ++ #[.pointer (some ⟨b, 0, none⟩)]) w fun e w' => e = .returned (.int .u64 (IntKind.u64.wrap (z + v))) ∧ w = w' := by
  go_enter Try.func31, Try.ntmps31
  go_wp2_with fail
  go_ret
  exact ⟨rfl, rfl⟩
theorem isU_wrap (z : Int) : isU (IntKind.u64.wrap z) := by
  rw [IntKind.wrap_u64]; unfold isU; omega
theorem cl_cas (z was is : Int) (b0 b1 b2 : Nat) (d : Bool) (w : World) (r : Bool) (hr : (z == was) = r) (hd : ¬ b0 = b1) (hd2 : ¬ b2 = b1) (hc0 : w.cell? ⟨b0, 0, none⟩ = some (.int .u64 was)) (hc1 : w.cell? ⟨b1, 0, none⟩ = some (.bool d)) (hf : w.frozen? ⟨b1, 0, none⟩ = false) (hc2 : w.cell? ⟨b2, 0, none⟩ = some (.int .u64 is)) :
    Calls Try.prog 30 (#[.int .u64 z] ++ #[.pointer (some ⟨b0, 0, none⟩), .pointer (some ⟨b1, 0, none⟩), .pointer (some ⟨b2, 0, none⟩)]) w fun e w' => e = .returned (.int .u64 (if r then is else z)) ∧ w.setCell ⟨b1, 0, none⟩ (.bool r) = w' := by
  cases r
  all_goals
    go_enter Try.func30, Try.ntmps30
    go_wp2_with fail
    go_ret
    exact ⟨rfl, rfl⟩
theorem AccPost.after {w w1 : World} {p n : Nat} {f : Int → Int} {cnt k a0 x y : Int} {S : Nat → Prop} {w' : World} (hb : Below w.heap.size w w1) (h : AccPost w1 p f cnt k a0 x y n S w') : AccPost w p f cnt k a0 x y n S w' := by
  obtain ⟨S', t, q⟩ := h
  exact ⟨S', Turn.after hb t, q⟩
section
variable {w : World} {p n : Nat} {f : Int → Int} {cnt k a0 x y a v : Int} {S : Nat → Prop}
theorem load_any (h : Cel w p f cnt k a0 x y n S) (ha : isU a) (hn : n < 1099511627776) (hc0 : 0 ≤ cnt) (hc1 : cnt < 1000000000000) :
    Calls Try.prog 13 #[.pointer (some ⟨p, 0, none⟩), .int .u64 a] w fun e w' => e = .returned (.int .u64 (f a)) ∧ AccPost w p f (cnt + 1) 1 a (f a) (f a) (n + 1) S w' := by
  have HA := access_any (kk := 1) 29 #[] h ha (h.rng a ha) hn hc0 hc1 (enter_of Try.func29 (by kernel_rfl) rfl) (cl_load _ _) (Keeps.refl (fun _ => False) _) (fun _ _ s => s)
  rw [upd_id] at HA
  have HA := Lib.hid HA
  clear h
  generalize f a = z at *
  go_enter Try.func13, Try.ntmps13
  go_wp2_with (go_at_call 27; refine HA.out.mono ?_; rintro e w' ⟨rfl, hk⟩)
  go_ret
  exact ⟨rfl, hk⟩
theorem store_any (h : Cel w p f cnt k a0 x y n S) (ha : isU a) (hv : isU v) (hn : n < 1099511627776) (hc0 : 0 ≤ cnt) (hc1 : cnt < 1000000000000) :
    Calls Try.prog 12 #[.pointer (some ⟨p, 0, none⟩), .int .u64 a, .int .u64 v] w fun e w' => e = .returned (.int .u64 (f a)) ∧ AccPost w p (upd f a v) (cnt + 1) 2 a (f a) v (n + 1) S w' := by
  have h1 : ∀ o, Cel (w.alloc o) p f cnt k a0 x y n S := fun o => IsCells.keep h ((Keeps.refl (fun _ => False) w).alloc o) (fun _ _ s => s)
  have HA := Lib.hid (fun T => access_any (kk := 2) (is := v) 28 #[.pointer (some ⟨w.heap.size, 0, none⟩)] (h1 (.cells #[.int .u64 v] T)) ha hv hn hc0 hc1 (enter_of Try.func28 (by kernel_rfl) rfl) (cl_store _ v w.heap.size _ (by simp)) (Keeps.refl (fun _ => False) _) (fun _ _ s => s))
  clear h h1
  generalize f a = z at *
  go_enter Try.func12, Try.ntmps12
  go_wp2_with (go_at_call 27; refine (HA.out _).mono ?_; rintro e w' ⟨rfl, hk⟩)
  go_ret
  exact ⟨rfl, hk.after ((Below.refl _ _).alloc (Nat.le_refl _) _)⟩
theorem add_any (h : Cel w p f cnt k a0 x y n S) (ha : isU a) (hn : n < 1099511627776) (hc0 : 0 ≤ cnt) (hc1 : cnt < 1000000000000) :
    Calls Try.prog 15 #[.pointer (some ⟨p, 0, none⟩), .int .u64 a, .int .u64 v] w fun e w' => e = .returned (.int .u64 (f a)) ∧ AccPost w p (upd f a (IntKind.u64.wrap (f a + v))) (cnt + 1) 4 a (f a) (IntKind.u64.wrap (f a + v)) (n + 1) S w' := by
  have h1 : ∀ o, Cel (w.alloc o) p f cnt k a0 x y n S := fun o => IsCells.keep h ((Keeps.refl (fun _ => False) w).alloc o) (fun _ _ s => s)
  have HA := Lib.hid (fun T => access_any (kk := 4) (is := IntKind.u64.wrap (f a + v)) 31 #[.pointer (some ⟨w.heap.size, 0, none⟩)] (h1 (.cells #[.int .u64 v] T)) ha (isU_wrap _) hn hc0 hc1 (enter_of Try.func31 (by kernel_rfl) rfl) (cl_add _ v w.heap.size _ (by simp)) (Keeps.refl (fun _ => False) _) (fun _ _ s => s))
  clear h h1
  generalize IntKind.u64.wrap (f a + v) = u at *
  generalize f a = z at *
  go_enter Try.func15, Try.ntmps15
  go_wp2_with (go_at_call 27; refine (HA.out _).mono ?_; rintro e w' ⟨rfl, hk⟩)
  go_ret
  exact ⟨rfl, hk.after ((Below.refl _ _).alloc (Nat.le_refl _) _)⟩
end
end Go.Proofs.Ytdlniopjkioamaa
