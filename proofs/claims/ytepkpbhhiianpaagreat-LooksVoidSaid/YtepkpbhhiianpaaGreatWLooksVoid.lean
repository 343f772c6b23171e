/- The law LooksVoid. -/
import Derived.Test.YtepkpbhhiianpaaGreatBg0
import Derived.Test.YtepkpbhhiianpaaGreatGPw
import Derived.Test.YtepkpbhhiianpaaGreatGLk
import Derived.Test.YtepkpbhhiianpaaGreatOpen
import Derived.Deep.Cut
import Derived.Deep.CutBlock
import Derived.Deep.QuietTactic
import Derived.BigQuiet
namespace Go.Proofs.YtepkpbhhiianpaaGreat
open Go.RowKit Go.Maps
set_option linter.unusedVariables false
def lkZ : List Value := lkC ⟨#[]⟩ 0 .nilFunc false 0 (.slice none 0 0) (.slice none 0 0) (.slice none 0 0) 0 (.slice none 0 0) 0 0 0
def vaL (q k : Nat) : Value := if k = 0 then .pointer none else .pointer (some ⟨q, 0, none⟩)
def OvL (X : World) (v : Value) : Prop := v = .pointer none ∨ ∃ b, v = .pointer (some ⟨b, 0, none⟩) ∧ Ob X b lkZ
theorem ovl_over {X : World} {v : Value} (h : OvL X v) : Calls Tryz.prog 34 #[v] X fun e w' => e = .returned (.bool true) ∧ X = w' := by
  rcases h with rfl | ⟨b, rfl, h⟩
  · exact lk_over_nil _
  · exact lk_over h
theorem ovl_step {X : World} {v : Value} (h : OvL X v) (x : Value) : Calls Tryz.prog 35 #[v, x] X fun e w' => e = .returned (.bool true) ∧ X = w' := by
  rcases h with rfl | ⟨b, rfl, h⟩
  · exact lk_st_nil _ _
  · exact lk_st_over h _
theorem ovl_fails {X : World} {v : Value} (h : OvL X v) : Calls Tryz.prog 36 #[v] X fun e w' => e = .returned (.bool false) ∧ X = w' := by
  rcases h with rfl | ⟨b, rfl, h⟩
  · exact lk_fails_nil _
  · exact lk_fails h
theorem ovl_got {X : World} {v : Value} (h : OvL X v) : Calls Tryz.prog 33 #[v] X fun e w' => e = .returned (.tuple #[.int .i64 0, .int .u64 0, .int .i64 0]) ∧ Below X.heap.size X w' := by
  rcases h with rfl | ⟨b, rfl, h⟩
  · exact lk_got_nil _
  · exact lk_got h
theorem belowNk {w : World} (n : Nat) : Below w.heap.size w (w.drewN n) := by
  induction n with
  | zero => exact Below.refl _ _
  | succ n ih => exact ih.drew
theorem lk_at {W : World} {C : Array Value} {T : TypeId} {L : List Value} {n : Nat} (hn : n = W.heap.size) (hL : L = C.toList) : Ob (W.alloc (.cells C T)) n L := by
  subst hn hL
  exact ob_new rfl
theorem lk_bs {a w : World} {o : Obj} (h : Below a.heap.size a w) : Below a.heap.size a (w.alloc o) := h.alloc h.size o
set_option maxHeartbeats 4000000 in
set_option maxRecDepth 100000 in
theorem walk_LooksVoid (a0 : ByteArray) (a1 : Int) (w : World) (w0 : a0.size ≤ maxLen) (w1 : (Lit.int .i64 a1).wf = true) :
    Calls Tryz.prog 6 #[.string a0, .int .i64 a1] w fun e w' => e = .returned (.bool true) ∧ Below w.heap.size w w' := by
  by_cases hgr : (2000 : Int) < (a0.size : Int)
  · have d1 : decide ((a0.size : Int) > 2000) = true := decide_eq_true hgr
    have d2 : decide ((2000 : Int) < (a0.size : Int)) = true := decide_eq_true hgr
    have d3 : decide (2000 < a0.size) = true := decide_eq_true (by omega)
    clear hgr
    go_enter Tryz.func6, Tryz.ntmps6
    go_wp2_with (go_at_call 32; refine (lives14 _).mono ?_; rintro e w9 ⟨rfl, hk9⟩; have HK9 := Lib.hid hk9; clear hk9)
    go_ret
    exact ⟨rfl, HK9.out⟩
  have d1 : decide ((a0.size : Int) > 2000) = false := decide_eq_false hgr
  have d2 : decide ((2000 : Int) < (a0.size : Int)) = false := decide_eq_false hgr
  have d3 : decide (2000 < a0.size) = false := decide_eq_false (by omega)
  clear hgr w0 w1
  go_enter Tryz.func6, Tryz.ntmps6
  go_wp2_with fail
  refine (begin0 _).mono ?_
  rintro e w1 ⟨A, R, S, T, rfl, hP, hST, hb1⟩
  have HP := Lib.hid hP
  have HB1 := Lib.hid hb1
  clear hP hST hb1
  go_upto_block 1 with fail
  obtain ⟨P, hPq⟩ : ∃ P, P = w1.heap.size := ⟨_, rfl⟩
  generalize hW2 : World.alloc w1 _ = W2
  generalize hW3 : World.alloc W2 _ = W3
  generalize hW4 : World.alloc W3 _ = W4
  have z2 : W2.heap.size = P + 1 := by rw [← hW2, hPq]; simp
  have z3 : W3.heap.size = P + 2 := by rw [← hW3]; simp [z2]
  have b2 : Below w1.heap.size w1 W2 := by rw [← hW2]; exact lk_bs (Below.refl _ _)
  have b3 : Below W2.heap.size W2 W3 := by rw [← hW3]; exact lk_bs (Below.refl _ _)
  have b4 : Below W3.heap.size W3 W4 := by rw [← hW4]; exact lk_bs (Below.refl _ _)
  have p0 : W2.cell? ⟨P, 0, none⟩ = some (.pointer (some ⟨A.p, 0, none⟩)) := by rw [← hW2]; exact new_at hPq rfl
  have p1 : W2.cell? ⟨P, 1, none⟩ = some (.pointer (some ⟨R.p, 0, none⟩)) := by rw [← hW2]; exact new_at hPq rfl
  have o3 : Ob W3 (P + 1) lkZ := by rw [← hW3]; exact lk_at z2.symm rfl
  have a0' : W4.cell? ⟨P + 1 + 1, 0, none⟩ = some (.pointer none) := by rw [← hW4]; exact new_at z3.symm rfl
  have a1' : W4.cell? ⟨P + 1 + 1, 1, none⟩ = some (.pointer (some ⟨P + 1, 0, none⟩)) := by rw [← hW4, ← hPq]; exact new_at z3.symm rfl
  rw [← hPq]
  obtain ⟨GA, hGA⟩ : ∃ Q, Q = P + 1 + 1 := ⟨_, rfl⟩
  rw [← hGA]
  have HX : Hid (∀ X, Below W4.heap.size W4 X → (X.cell? ⟨P, 0, none⟩ = some (.pointer (some ⟨A.p, 0, none⟩)) ∧ X.cell? ⟨P, 1, none⟩ = some (.pointer (some ⟨R.p, 0, none⟩)) ∧ Pw X A R V10 S T) ∧ ∀ k, k < 2 → X.cell? ⟨GA, k, none⟩ = some (vaL (P + 1) k) ∧ OvL X (vaL (P + 1) k)) := Lib.hid (fun X b46 => by
    have b36 := below_then b4 b46
    have b26 := below_then b3 b36
    have up2 : ∀ {b o v}, W2.cell? ⟨b, o, none⟩ = some v → X.cell? ⟨b, o, none⟩ = some v := fun {b o v} hc => (b26.cell (p := ⟨b, o, none⟩) (World.block_lt_of_cell? _ _ hc)).trans hc
    have up4 : ∀ {b o v}, W4.cell? ⟨b, o, none⟩ = some v → X.cell? ⟨b, o, none⟩ = some v := fun {b o v} hc => (b46.cell (p := ⟨b, o, none⟩) (World.block_lt_of_cell? _ _ hc)).trans hc
    refine ⟨⟨up2 p0, up2 p1, HP.out.new (below_then b2 b26)⟩, fun k hk => ?_⟩
    rcases (by omega : k = 0 ∨ k = 1) with rfl | rfl
    · exact ⟨by rw [hGA]; exact up4 a0', .inl rfl⟩
    · exact ⟨by rw [hGA]; exact up4 a1', .inr ⟨_, rfl, o3.new b36⟩⟩)
  have HB4 := Lib.hid (below_then (below_then (below_then HB1.out b2) b3) b4)
  clear hPq hW2 hW3 hW4 z2 z3 b2 b3 b4 p0 p1 o3 a0' a1' hGA HP HB1
  generalize P + 1 = QG at *
  go_loopw [9] (fun i X => ∃ k : Nat, k ≤ 2 ∧ i = .int .i64 k ∧ Below W4.heap.size W4 X) (fun i _ => 2 - (intOf i).toNat)
  case atStart => exact ⟨0, by omega, rfl, Below.refl _ _⟩
  case round =>
    obtain ⟨k, hk, rfl, hb⟩ := hrel
    have HB := Lib.hid hb
    by_cases hlt : k < 2
    · have s0 := ((HX.out wr hb).2 k hlt).1
      have CG := Lib.hid (ovl_got ((HX.out wr hb).2 k hlt).2)
      have j0 : (0 : Int) ≤ (k : Int) := by omega
      have j1 : (k : Int) < 2 := by omega
      have HLT := Lib.hid hlt
      have KX := Lib.hid (fun (W : World) (hW : Below wr.heap.size wr W) => HX.out W (below_then hb hW))
      have HV := Lib.hid (show ∃ va, va = vaL QG k from ⟨_, rfl⟩)
      obtain ⟨va, hva⟩ := HV.out
      have HVA := Lib.hid hva
      rw [← hva] at s0 CG
      clear hb hk HV hva
      go_upto_region 11 with (go_at_call 33; ((with_reducible refine CG.out.mono ?_); rintro e w2 ⟨rfl, b2⟩; have K2 := Lib.hid b2; clear b2))
      obtain ⟨⟨s2, -, -⟩, hv⟩ := KX.out w2 K2.out
      clear s0
      have s0 := (hv k HLT.out).1
      rw [← HVA.out] at s0
      have KO : ∀ n, OvL (w2.drewN n) va := fun n => by rw [HVA.out]; exact ((KX.out (w2.drewN n) (below_then K2.out (belowNk n))).2 k HLT.out).2
      have CO := Lib.hid (fun n => ovl_over (KO n))
      have CT := Lib.hid (fun n x => ovl_step (KO n) x)
      have CF := Lib.hid (fun n => ovl_fails (KO n))
      clear hv KO HVA
      go_wp2_with fail
      go_quiet (first
        | (go_at_call 34; exact quiet_left (CO.out _))
        | (go_at_call 35; exact quiet_left (CT.out _ _))
        | (go_at_call 36; exact quiet_left (CF.out _)))
      clear s0 s2
      go_wp2_with fail
      go_roundw
      case rel => exact ⟨k + 1, by have := HLT.out; omega, by go_num, below_then HB.out (below_then K2.out (belowNk _))⟩
      case measure => have := HLT.out; simp [intOf]; omega
    · obtain rfl : k = 2 := by omega
      clear hlt hk hb
      go_wp2_with fail
      refine (newLook _ _ _).mono ?_
      rintro e w3 ⟨rfl, o3, b3⟩
      have HB3 := Lib.hid (below_then HB.out b3)
      have D1 := Lib.hid (lk_st_no o3)
      have D2 := Lib.hid (lk_overn o3)
      have D3 := Lib.hid (lk_fails o3)
      obtain ⟨⟨f0, f1, hpw⟩, -⟩ := HX.out w3 HB3.out
      have CA := Lib.hid (pw_all hpw rfl (by decide) (by decide))
      clear hpw o3 b3
      go_wp2_with (first
        | (go_at_call 35; ((with_reducible refine D1.out.mono ?_); rintro e w7 ⟨rfl, rfl⟩))
        | (go_at_call 34; ((with_reducible refine D2.out.mono ?_); rintro e w7 ⟨rfl, rfl⟩))
        | (go_at_call 36; ((with_reducible refine D3.out.mono ?_); rintro e w7 ⟨rfl, rfl⟩))
        | (go_at_call 21; ((with_reducible refine CA.out.mono ?_); rintro e w8 ⟨rfl, hk8⟩; have HK8 := Lib.hid (below_then HB3.out hk8); clear hk8))
        | (go_at_call 32; refine (lives14 _).mono ?_; rintro e w9 ⟨rfl, hk9⟩; have HK9 := Lib.hid (below_then HK8.out hk9); clear hk9))
      go_ret
      exact ⟨rfl, below_then HB4.out HK9.out⟩
end Go.Proofs.YtepkpbhhiianpaaGreat
