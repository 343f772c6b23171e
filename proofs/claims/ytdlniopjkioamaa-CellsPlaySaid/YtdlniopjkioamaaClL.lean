/- Cells that a call has made: Swap, Words; the chapter's examples. -/
import Derived.Test.YtdlniopjkioamaaClZ
import Derived.Test.YtdlniopjkioamaaClW
import Derived.Test.YtdlniopjkioamaaClS
namespace Go.Proofs.Ytdlniopjkioamaa
open Go.RowKit Go.Maps
set_option linter.unusedVariables false
theorem swap_nil (a v : Int) (w : World) : Calls Try.prog 16 #[.pointer none, .int .u64 a, .int .u64 v] w fun e w' => e = .returned (.int .u64 0) ∧ Below w.heap.size w w' := by
  go_enter Try.func16, Try.ntmps16
  go_wp2_with (go_at_call 27; refine (access_nil _ _ _ _).mono ?_; rintro e w' ⟨rfl, rfl⟩)
  go_ret
  exact ⟨rfl, (Below.refl _ _).alloc (Nat.le_refl _) _⟩
section
variable {w : World} {B p : Nat} {f : Int → Int} {cnt k a0 x y a v u : Int}
theorem zswap (h : Cls w B p f cnt k a0 x y) (hB : B ≤ w.heap.size) (ha : isU a) (hv : isU v) (hc0 : 0 ≤ cnt) (hc1 : cnt < 1000000000) (hu : f a = u) :
    Calls Try.prog 16 #[.pointer (some ⟨p, 0, none⟩), .int .u64 a, .int .u64 v] w fun e w' => e = .returned (.int .u64 u) ∧ ClsPost B w p (upd f a v) (cnt + 1) 5 a u v w' := by
  subst hu
  obtain ⟨n, S, q, hS, hn⟩ := h
  refine (swap_any q ha hv (by omega) hc0 (by omega)).mono ?_
  rintro e w' ⟨rfl, hk⟩
  exact ⟨rfl, hk.cls hS hn hB⟩
theorem zwords (HS : SortNone) (h : Cls w B p f cnt k a0 x y) (hf : ∀ a, isU a → f a = 0) :
    Calls Try.prog 17 #[.pointer (some ⟨p, 0, none⟩)] w fun e w' => e = .returned (.slice none 0 0) ∧ Below w.heap.size w w' := by
  obtain ⟨n, S, q, hS, hn⟩ := h
  exact words_zero HS q hf
end
set_option maxRecDepth 100000 in
set_option maxHeartbeats 1000000 in
theorem lives05 (HS : SortNone) (w : World) : Calls Try.prog 4 #[] w fun e w' => e = .returned (.bool true) ∧ Below w.heap.size w w' := by
  have u0 : isU 0 := by unfold isU; omega
  have u5 : isU 5 := by unfold isU; omega
  have u7 : isU 7 := by unfold isU; omega
  have u9 : isU 9 := by unfold isU; omega
  have u1 : isU 1 := by unfold isU; omega
  go_enter Try.func4, Try.ntmps4
  go_wp2_with (go_at_call 5; refine (znew _).mono ?_; rintro e w1 ⟨rfl, b1, h1⟩)
  have g1 := b1.size
  refine (zstore h1 g1 u7 u5 (by omega) (by omega) rfl).mono ?_
  rintro e w2 ⟨rfl, b2, h2⟩
  replace b2 := b1.trans b2
  have g2 := b2.size
  change Cls w2 _ _ (one 7 5) _ _ _ _ _ at h2
  clear b1 g1 h1
  have C3 := Lib.hid (zload h2 g2 u7 (by omega) (by omega) (one_at _ _))
  go_wp2_with (go_at_call 13; ((with_reducible refine (C3.out).mono ?_); rintro e w3 ⟨rfl, b3, h3⟩))
  replace b3 := b2.trans b3
  have g3 := b3.size
  clear b2 g2 h2 C3
  have C4 := Lib.hid (zcas_hit (v := 9) h3 g3 u7 u9 (by omega) (by omega) (one_at _ _))
  go_wp2_with (go_at_call 14; ((with_reducible refine (C4.out).mono ?_); rintro e w4 ⟨rfl, b4, h4⟩))
  replace b4 := b3.trans b4
  have g4 := b4.size
  rw [one_upd] at h4
  clear b3 g3 h3 C4
  have C5 := Lib.hid (zcas_miss (v := 1) (z := 5) h4 g4 u7 u1 (by omega) (by omega) (one_at _ _) (by omega))
  go_wp2_with (go_at_call 14; ((with_reducible refine (C5.out).mono ?_); rintro e w5 ⟨rfl, b5, h5⟩))
  replace b5 := b4.trans b5
  have g5 := b5.size
  clear b4 g4 h4 C5
  have C6 := Lib.hid (zadd (v := 2) h5 g5 u7 (by omega) (by omega) (one_at _ _) (z := 11) (by decide))
  go_wp2_with (go_at_call 15; ((with_reducible refine (C6.out).mono ?_); rintro e w6 ⟨rfl, b6, h6⟩))
  replace b6 := b5.trans b6
  have g6 := b6.size
  rw [one_upd] at h6
  clear b5 g5 h5 C6
  have C7 := Lib.hid (zswap h6 g6 u7 u0 (by omega) (by omega) (one_at _ _))
  go_wp2_with (go_at_call 16; ((with_reducible refine (C7.out).mono ?_); rintro e w7 ⟨rfl, b7, h7⟩))
  replace b7 := b6.trans b7
  have g7 := b7.size
  rw [one_upd] at h7
  clear b6 g6 h6 C7
  have C8 := Lib.hid (zwords HS h7 (one_zero 7))
  go_wp2_with (go_at_call 17; ((with_reducible refine (C8.out).mono ?_); rintro e w8 ⟨rfl, hk⟩))
  have h8 := h7.keep hk
  replace b7 := below_then b7 hk
  have C9 := Lib.hid (zcount h8)
  clear hk h7 g7 C8 h8
  go_wp2_with (go_at_call 18; ((with_reducible refine (C9.out).mono ?_); rintro e w9 ⟨rfl, rfl⟩))
  go_ret
  exact ⟨rfl, b7⟩
end Go.Proofs.Ytdlniopjkioamaa
