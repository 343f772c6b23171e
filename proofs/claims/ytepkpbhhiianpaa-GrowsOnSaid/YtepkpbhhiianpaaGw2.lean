/- Growths and swaps of tables: New, Step, Run. -/
import Derived.Test.YtepkpbhhiianpaaGw
import Derived.LoopTactic
namespace Go.Proofs.Ytepkpbhhiianpaa
open Go.RowKit Go.Maps
set_option linter.unusedVariables false
theorem gw_at {W : World} {C : Array Value} {T : TypeId} {L : List Value} {n : Nat} (hn : n = W.heap.size) (hL : L = C.toList) : Ob (W.alloc (.cells C T)) n L := by
  subst hn
  exact ob_new hL
theorem gw_bs {a w : World} {o : Obj} (h : Below a.heap.size a w) : Below a.heap.size a (w.alloc o) := h.alloc h.size o
/-- A new one that is over. -/
def NwG0 (T : TypeId) (w : World) (e : Ending) (w' : World) : Prop := ∃ q, e = .returned (.pointer (some ⟨q, 0, none⟩)) ∧ Ob w' q (gwC (.slice none 0 0) 0 0) ∧ Shp w' q T ∧ w.heap.size ≤ q ∧ Below w.heap.size w w'
/-- A new one, of so many acts. -/
def NwG1 (T : TypeId) (w : World) (k : Nat) (L : List Value) (o n : Int) (e : Ending) (w' : World) : Prop := ∃ q b, e = .returned (.pointer (some ⟨q, 0, none⟩)) ∧ Ob w' q (gwC (.slice (some ⟨b, 0, none⟩) k k) o n) ∧ Ob w' b L ∧ Shp w' q T ∧ w.heap.size ≤ q ∧ w.heap.size ≤ b ∧ q ≠ b ∧ Below w.heap.size w w'
theorem nw_g0 {w w1 : World} {T : TypeId} (hb : Below w.heap.size w w1) : NwG0 T w (.returned (.pointer (some ⟨w1.heap.size, 0, none⟩))) (w1.alloc (.cells #[.slice none 0 0, .int .i64 0, .int .i64 0] T)) :=
  ⟨_, rfl, gw_at rfl rfl, shp_new rfl rfl, hb.size, below_then hb (gw_bs (Below.refl _ _))⟩
theorem nw_g1 {w w1 : World} {k : Nat} {L : List Value} {C : Array Value} {o n : Int} {T1 T2 : TypeId} (hb : Below w.heap.size w w1) (hL : L = C.toList) : NwG1 T2 w k L o n (.returned (.pointer (some ⟨w1.heap.size + 1, 0, none⟩))) ((w1.alloc (.cells C T1)).alloc (.cells #[.slice (some ⟨w1.heap.size, 0, none⟩) k k, .int .i64 o, .int .i64 n] T2)) := by
  have h1 : Below (w1.alloc (.cells C T1)).heap.size (w1.alloc (.cells C T1)) ((w1.alloc (.cells C T1)).alloc (.cells #[.slice (some ⟨w1.heap.size, 0, none⟩) k k, .int .i64 o, .int .i64 n] T2)) := gw_bs (Below.refl _ _)
  have hs := hb.size
  exact ⟨_, w1.heap.size, rfl, gw_at (by simp) rfl, (gw_at rfl hL).new h1, shp_new (by simp) rfl, by omega, hs, by omega, below_then hb (gw_bs (gw_bs (Below.refl _ _)))⟩
theorem newGrow_no (t : Int) (w : World) (ht : isU t) (hn : asN t ≠ 0 ∨ asO t = 12) : Calls Try.prog 21 #[.int .u64 t] w (NwG0 110 w) := by
  have CA := Lib.hid (fun W => asw t W ht.1 (by have := ht.2; omega))
  have hr := as_range t
  clear ht
  generalize asO t = o at *
  generalize asN t = n at *
  by_cases c : n = 0
  · subst c
    have e1 : ((0 : Int) != 0) = false := by simp
    have ho : o = 12 := by omega
    subst ho
    clear hn hr
    go_enter Try.func21, Try.ntmps21
    go_wp2_with (go_at_call 22; ((with_reducible refine (CA.out _).mono ?_); rintro e w1 ⟨rfl, K1⟩; have HK := Lib.hid K1; clear K1))
    go_ret
    obtain ⟨q, he, r⟩ := nw_g0 HK.out
    exact ⟨q, he, r⟩
  · have e1 : (n != 0) = true := by simp [c]
    clear hn hr c
    go_enter Try.func21, Try.ntmps21
    go_wp2_with (go_at_call 22; ((with_reducible refine (CA.out _).mono ?_); rintro e w1 ⟨rfl, K1⟩; have HK := Lib.hid K1; clear K1))
    go_ret
    obtain ⟨q, he, r⟩ := nw_g0 HK.out
    exact ⟨q, he, r⟩
theorem newGrow (t : Int) (w : World) (ht : isU t) {o : Int} (hn : asN t = 0) (ho : asO t = o) (h12 : o ≠ 12) : Calls Try.prog 21 #[.int .u64 t] w (NwG1 110 w 2 [.int .i64 0, .int .i64 1] o (o + 1)) := by
  have CA := Lib.hid (fun W => asw t W ht.1 (by have := ht.2; omega))
  have hr := as_range t
  rw [hn, ho] at CA
  have hr1 : 1 ≤ o ∧ o ≤ 12 := by omega
  have e1 : (o == 12) = false := by simp [h12]
  clear ht hn ho hr h12
  go_enter Try.func21, Try.ntmps21
  go_wp2_with (go_at_call 22; ((with_reducible refine (CA.out _).mono ?_); rintro e w1 ⟨rfl, K1⟩; have HK := Lib.hid K1; clear K1))
  go_ret
  obtain ⟨q, b, he, r⟩ := nw_g1 HK.out rfl
  exact ⟨q, b, he, r⟩
theorem newSwap_no (t : Int) (w : World) (ht : isU t) (hn : asN t = 0) : Calls Try.prog 18 #[.int .u64 t] w (NwG0 102 w) := by
  have CA := Lib.hid (fun W => asw t W ht.1 (by have := ht.2; omega))
  rw [hn] at CA
  clear ht hn
  generalize asO t = o at *
  go_enter Try.func18, Try.ntmps18
  go_wp2_with (go_at_call 22; ((with_reducible refine (CA.out _).mono ?_); rintro e w1 ⟨rfl, K1⟩; have HK := Lib.hid K1; clear K1))
  go_ret
  obtain ⟨q, he, r⟩ := nw_g0 HK.out
  exact ⟨q, he, r⟩
theorem newSwap (t : Int) (w : World) (ht : isU t) {o n : Int} (hn : asN t = n) (ho : asO t = o) (h0 : n ≠ 0) : Calls Try.prog 18 #[.int .u64 t] w (NwG1 102 w 1 [.int .i64 2] o n) := by
  have CA := Lib.hid (fun W => asw t W ht.1 (by have := ht.2; omega))
  rw [hn, ho] at CA
  have e1 : (n == 0) = false := by simp [h0]
  clear ht hn ho h0
  go_enter Try.func18, Try.ntmps18
  go_wp2_with (go_at_call 22; ((with_reducible refine (CA.out _).mono ?_); rintro e w1 ⟨rfl, K1⟩; have HK := Lib.hid K1; clear K1))
  go_ret
  obtain ⟨q, b, he, r⟩ := nw_g1 HK.out rfl
  exact ⟨q, b, he, r⟩
section
variable {G : Nat → Prop} {w W : World} {A : Ad} {V : Wv} {q b : Nat} {o n : Int} {a : Option Addr} {l c : Nat} {r : Bool} {P : World → Prop} {x : Value}
theorem gst_nil (w : World) (x : Value) : Calls Try.prog 119 #[.pointer none, x] w fun e w' => e = .returned (.bool true) ∧ w = w' := by
  go_enter Try.func119, Try.ntmps119
  go_wp2_with fail
  go_ret
  exact ⟨rfl, rfl⟩
theorem sst_nil (w : World) (x : Value) : Calls Try.prog 116 #[.pointer none, x] w fun e w' => e = .returned (.bool true) ∧ w = w' := by
  go_enter Try.func116, Try.ntmps116
  go_wp2_with fail
  go_ret
  exact ⟨rfl, rfl⟩
theorem gst (h : Calls Try.prog 120 #[.pointer (some ⟨q, 0, none⟩), x] w fun e w' => e = .returned (.bool r) ∧ P w') : Calls Try.prog 119 #[.pointer (some ⟨q, 0, none⟩), x] w fun e w' => e = .returned (.bool r) ∧ P w' := by
  have C := Lib.hid h
  clear h
  go_enter Try.func119, Try.ntmps119
  go_wp2_with (go_at_call 120; ((with_reducible refine C.out.mono ?_); rintro e w2 ⟨rfl, hp⟩; have HP := Lib.hid hp; clear hp))
  go_ret
  exact ⟨rfl, HP.out⟩
theorem sst (h : Calls Try.prog 117 #[.pointer (some ⟨q, 0, none⟩), x] w fun e w' => e = .returned (.bool r) ∧ P w') : Calls Try.prog 116 #[.pointer (some ⟨q, 0, none⟩), x] w fun e w' => e = .returned (.bool r) ∧ P w' := by
  have C := Lib.hid h
  clear h
  go_enter Try.func116, Try.ntmps116
  go_wp2_with (go_at_call 117; ((with_reducible refine C.out.mono ?_); rintro e w2 ⟨rfl, hp⟩; have HP := Lib.hid hp; clear hp))
  go_ret
  exact ⟨rfl, HP.out⟩
theorem gc_over (h : Ob w q (gwC (.slice a 0 c) o n)) (x : Value) : Calls Try.prog 120 #[.pointer (some ⟨q, 0, none⟩), x] w fun e w' => e = .returned (.bool true) ∧ w = w' := by
  have C := Lib.hid (gcov_t h)
  clear h
  go_enter Try.func120, Try.ntmps120
  go_wp2_with (go_at_call 45; ((with_reducible refine C.out.mono ?_); rintro e w2 ⟨rfl, rfl⟩))
  go_ret
  exact ⟨rfl, rfl⟩
theorem sc_over (h : Ob w q (gwC (.slice a 0 c) o n)) (x : Value) : Calls Try.prog 117 #[.pointer (some ⟨q, 0, none⟩), x] w fun e w' => e = .returned (.bool true) ∧ w = w' := by
  have C := Lib.hid (scov_t h)
  clear h
  go_enter Try.func117, Try.ntmps117
  go_wp2_with (go_at_call 43; ((with_reducible refine C.out.mono ?_); rintro e w2 ⟨rfl, rfl⟩))
  go_ret
  exact ⟨rfl, rfl⟩
theorem gc_no (h : Ob w q (gwC (.slice a l c) o n)) (hl : ((l : Int) == 0) = false) : Calls Try.prog 120 #[.pointer (some ⟨q, 0, none⟩), .pointer none] w fun e w' => e = .returned (.bool false) ∧ w = w' := by
  have C := Lib.hid (gcov_f h hl)
  clear h hl
  go_enter Try.func120, Try.ntmps120
  go_wp2_with (go_at_call 45; ((with_reducible refine C.out.mono ?_); rintro e w2 ⟨rfl, rfl⟩))
  go_ret
  exact ⟨rfl, rfl⟩
theorem sc_no (h : Ob w q (gwC (.slice a l c) o n)) (hl : ((l : Int) == 0) = false) : Calls Try.prog 117 #[.pointer (some ⟨q, 0, none⟩), .pointer none] w fun e w' => e = .returned (.bool false) ∧ w = w' := by
  have C := Lib.hid (scov_f h hl)
  clear h hl
  go_enter Try.func117, Try.ntmps117
  go_wp2_with (go_at_call 43; ((with_reducible refine C.out.mono ?_); rintro e w2 ⟨rfl, rfl⟩))
  go_ret
  exact ⟨rfl, rfl⟩
end
end Go.Proofs.Ytepkpbhhiianpaa
