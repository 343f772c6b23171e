/- The law FindsVoid. -/
import Derived.Test.YtodppilfpemepaaGreatBg0
import Derived.Test.YtodppilfpemepaaGreatGPw
import Derived.Test.YtodppilfpemepaaGreatGFd
import Derived.Test.YtodppilfpemepaaGreatOpen
import Derived.Deep.Cut
import Derived.Deep.CutBlock
import Derived.Deep.QuietTactic
import Derived.BigQuiet
namespace Go.Proofs.YtodppilfpemepaaGreat
open Go.RowKit Go.Maps
set_option linter.unusedVariables false
def vaF (q k : Nat) : Value := if k = 0 then .pointer (some ⟨q, 0, none⟩) else .pointer none
def OvF (X : World) (v : Value) : Prop := v = .pointer none ∨ ∃ b, v = .pointer (some ⟨b, 0, none⟩) ∧ Ob X b fd0
theorem ovf_over {X : World} {v : Value} (h : OvF X v) : Calls Tryz.prog 13 #[v] X fun e w' => e = .returned (.bool true) ∧ X = w' := by
  rcases h with rfl | ⟨b, rfl, h⟩
  · exact fd_over_nil _
  · exact fd_over (r := true) h rfl
theorem ovf_step {X : World} {v : Value} (h : OvF X v) (x : Value) : Calls Tryz.prog 14 #[v, x] X fun e w' => e = .returned (.bool true) ∧ X = w' := by
  rcases h with rfl | ⟨b, rfl, h⟩
  · exact fd_st_nil _ _
  · exact fd_st_over h _
theorem ovf_word {X : World} {v : Value} (h : OvF X v) : Calls Tryz.prog 15 #[v] X fun e w' => e = .returned (.int .u64 0) ∧ X = w' := by
  rcases h with rfl | ⟨b, rfl, h⟩
  · exact fd_word_nil _
  · exact fd_word h
theorem ovf_got {X : World} {v : Value} (h : OvF X v) : Calls Tryz.prog 12 #[v] X fun e w' => e = .returned (.tuple #[.agg #[.int .i64 0, .int .i64 0, .int .i64 0], .int .i64 0]) ∧ Below X.heap.size X w' := by
  rcases h with rfl | ⟨b, rfl, h⟩
  · exact fd_got_nil _
  · exact fd_got h
theorem belowNv {w : World} (n : Nat) : Below w.heap.size w (w.drewN n) := by
  induction n with
  | zero => exact Below.refl _ _
  | succ n ih => exact ih.drew
set_option maxHeartbeats 4000000 in
set_option maxRecDepth 100000 in
theorem walk_FindsVoid (a0 : ByteArray) (w : World) (w0 : a0.size ≤ maxLen) :
    Calls Tryz.prog 4 #[.string a0] w fun e w' => e = .returned (.bool true) ∧ Below w.heap.size w w' := by
  clear w0
  go_enter Tryz.func4, Tryz.ntmps4
  go_wp2_with fail
  refine (begin0 _).mono ?_
  rintro e w1 ⟨A, R, S, T, rfl, hP, hST, hb1⟩
  have HP := Lib.hid hP
  have HB1 := Lib.hid hb1
  clear hP hST hb1
  go_upto_region 5 with fail
  obtain ⟨P, hPq⟩ : ∃ P, P = w1.heap.size := ⟨_, rfl⟩
  generalize hW2 : World.alloc w1 _ = W2
  generalize hW3 : World.alloc W2 _ = W3
  generalize hW4 : World.alloc W3 _ = W4
  have z2 : W2.heap.size = P + 1 := by rw [← hW2, hPq]; simp
  have z3 : W3.heap.size = P + 1 + 1 := by rw [← hW3]; simp [z2]
  have b2 : Below w1.heap.size w1 W2 := by rw [← hW2]; exact fd_bs (Below.refl _ _)
  have b3 : Below W2.heap.size W2 W3 := by rw [← hW3]; exact fd_bs (Below.refl _ _)
  have b4 : Below W3.heap.size W3 W4 := by rw [← hW4]; exact fd_bs (Below.refl _ _)
  have p0 : W2.cell? ⟨P, 0, none⟩ = some (.pointer (some ⟨A.p, 0, none⟩)) := by rw [← hW2]; exact fd_newat hPq rfl
  have p1 : W2.cell? ⟨P, 1, none⟩ = some (.pointer (some ⟨R.p, 0, none⟩)) := by rw [← hW2]; exact fd_newat hPq rfl
  have o3 : Ob W3 (P + 1) fd0 := by rw [← hW3]; exact fd_ob z2.symm rfl
  have a0' : W4.cell? ⟨P + 1 + 1, 0, none⟩ = some (.pointer (some ⟨P + 1, 0, none⟩)) := by rw [← hW4, ← hPq]; exact fd_newat z3.symm rfl
  have a1' : W4.cell? ⟨P + 1 + 1, 1, none⟩ = some (.pointer none) := by rw [← hW4]; exact fd_newat z3.symm rfl
  rw [← hPq]
  obtain ⟨GA, hGA⟩ : ∃ Q, Q = P + 1 + 1 := ⟨_, rfl⟩
  rw [← hGA]
  have HX : Hid (∀ X, Below W4.heap.size W4 X → (X.cell? ⟨P, 0, none⟩ = some (.pointer (some ⟨A.p, 0, none⟩)) ∧ X.cell? ⟨P, 1, none⟩ = some (.pointer (some ⟨R.p, 0, none⟩)) ∧ Pw X A R V10 S T) ∧ ∀ k, k < 2 → X.cell? ⟨GA, k, none⟩ = some (vaF (P + 1) k) ∧ OvF X (vaF (P + 1) k)) := Lib.hid (fun X b46 => by
    have b36 := below_then b4 b46
    have b26 := below_then b3 b36
    have up2 : ∀ {b o v}, W2.cell? ⟨b, o, none⟩ = some v → X.cell? ⟨b, o, none⟩ = some v := fun {b o v} hc => (b26.cell (p := ⟨b, o, none⟩) (World.block_lt_of_cell? _ _ hc)).trans hc
    have up4 : ∀ {b o v}, W4.cell? ⟨b, o, none⟩ = some v → X.cell? ⟨b, o, none⟩ = some v := fun {b o v} hc => (b46.cell (p := ⟨b, o, none⟩) (World.block_lt_of_cell? _ _ hc)).trans hc
    refine ⟨⟨up2 p0, up2 p1, HP.out.new (below_then b2 b26)⟩, fun k hk => ?_⟩
    rcases (by omega : k = 0 ∨ k = 1) with rfl | rfl
    · exact ⟨by rw [hGA]; exact up4 a0', .inr ⟨_, rfl, o3.new b36⟩⟩
    · exact ⟨by rw [hGA]; exact up4 a1', .inl rfl⟩)
  have HB4 := Lib.hid (below_then (below_then (below_then HB1.out b2) b3) b4)
  clear hPq hW2 hW3 hW4 z2 z3 b2 b3 b4 p0 p1 o3 a0' a1' hGA HP HB1
  generalize P + 1 = QG at *
  go_wp2_with fail
  go_loopw [7] (fun i X => ∃ k : Nat, k ≤ 2 ∧ i = .int .i64 k ∧ Below W4.heap.size W4 X) (fun i _ => 2 - (intOf i).toNat)
  case atStart => exact ⟨0, by omega, rfl, Below.refl _ _⟩
  case round =>
    obtain ⟨k, hk, rfl, hb⟩ := hrel
    have HB := Lib.hid hb
    by_cases hlt : k < 2
    · have s0 := ((HX.out wr hb).2 k hlt).1
      have CG := Lib.hid (ovf_got ((HX.out wr hb).2 k hlt).2)
      have j0 : (0 : Int) ≤ (k : Int) := by omega
      have j1 : (k : Int) < 2 := by omega
      have HLT := Lib.hid hlt
      have KX := Lib.hid (fun (W : World) (hW : Below wr.heap.size wr W) => HX.out W (below_then hb hW))
      have HV := Lib.hid (show ∃ va, va = vaF QG k from ⟨_, rfl⟩)
      obtain ⟨va, hva⟩ := HV.out
      have HVA := Lib.hid hva
      rw [← hva] at s0 CG
      clear hb hk HV hva
      go_upto_region 9 with (go_at_call 12; ((with_reducible refine CG.out.mono ?_); rintro e w2 ⟨rfl, b2⟩; have K2 := Lib.hid b2; clear b2))
      generalize hWG : World.alloc w2 _ = wg
      have K2 := Lib.hid (below_then K2.out (show Below w2.heap.size w2 wg by rw [← hWG]; exact fd_bs (Below.refl _ _)))
      obtain ⟨⟨s2, -, -⟩, hv⟩ := KX.out wg K2.out
      clear s0 hWG
      have s0 := (hv k HLT.out).1
      rw [← HVA.out] at s0
      have KO : ∀ n, OvF (wg.drewN n) va := fun n => by rw [HVA.out]; exact ((KX.out (wg.drewN n) (below_then K2.out (belowNv n))).2 k HLT.out).2
      have CO := Lib.hid (fun n => ovf_over (KO n))
      have CT := Lib.hid (fun n x => ovf_step (KO n) x)
      have CF := Lib.hid (fun n => ovf_word (KO n))
      clear hv KO HVA
      go_quiet (first
        | (go_at_call 13; exact quiet_left (CO.out _))
        | (go_at_call 14; exact quiet_left (CT.out _ _))
        | (go_at_call 15; exact quiet_left (CF.out _)))
      clear s0 s2
      go_wp2_with fail
      go_roundw
      case rel => exact ⟨k + 1, by have := HLT.out; omega, by go_num, below_then HB.out (below_then K2.out (belowNv _))⟩
      case measure => have := HLT.out; simp [intOf]; omega
    · obtain rfl : k = 2 := by omega
      clear hlt hk hb
      by_cases hgr : (2000 : Int) < (a0.size : Int)
      · have d1 : decide ((a0.size : Int) > 2000) = true := decide_eq_true hgr
        have d2 : decide ((2000 : Int) < (a0.size : Int)) = true := decide_eq_true hgr
        have d3 : decide (2000 < a0.size) = true := decide_eq_true (by omega)
        clear hgr
        go_wp2_with (go_at_call 16; refine (lives15 _).mono ?_; rintro e w9 ⟨rfl, hk9⟩; have HK9 := Lib.hid (below_then HB.out hk9); clear hk9)
        go_ret
        exact ⟨rfl, below_then HB4.out HK9.out⟩
      have d1 : decide ((a0.size : Int) > 2000) = false := decide_eq_false hgr
      have d2 : decide ((2000 : Int) < (a0.size : Int)) = false := decide_eq_false hgr
      have d3 : decide (2000 < a0.size) = false := decide_eq_false (by omega)
      clear hgr
      go_wp2_with fail
      refine (newFind a0 _).mono ?_
      rintro e w3 ⟨q, bx, bk, g, c, rfl, o3, -, -, -, -, b3⟩
      have HB3 := Lib.hid (below_then HB.out b3)
      have D1 := Lib.hid (fd_st_no o3 rfl)
      have D2 := Lib.hid (fd_over (r := false) o3 rfl)
      have D3 := Lib.hid (fd_got_n o3 rfl)
      have D4 := Lib.hid (fun W (hb : Below w3.heap.size w3 W) => fd_word_n (o3.new hb) rfl)
      clear o3 b3 d1 d2 d3
      unfold gotF at D3
      go_upto_region 16 with (first
        | (go_at_call 14; ((with_reducible refine D1.out.mono ?_); rintro e w7 ⟨rfl, rfl⟩))
        | (go_at_call 13; ((with_reducible refine D2.out.mono ?_); rintro e w7 ⟨rfl, rfl⟩))
        | (go_at_call 12; ((with_reducible refine D3.out.mono ?_); rintro e w4 ⟨rfl, b4⟩; have HB4' := Lib.hid b4; clear b4)))
      generalize hWH : World.alloc w4 _ = wh
      have bh : Below w3.heap.size w3 wh := below_then HB4'.out (by rw [← hWH]; exact fd_bs (Below.refl _ _))
      have HB5 := Lib.hid (below_then HB3.out bh)
      have D5 := Lib.hid (D4.out _ bh)
      clear hWH bh D1 D2 D3 D4
      obtain ⟨⟨f0, f1, hpw⟩, -⟩ := HX.out wh HB5.out
      have CA := Lib.hid (pw_all hpw rfl (by decide) (by decide))
      clear hpw
      go_wp2_with (first
        | (go_at_call 15; ((with_reducible refine D5.out.mono ?_); rintro e w7 ⟨rfl, rfl⟩))
        | (go_at_call 10; ((with_reducible refine CA.out.mono ?_); rintro e w8 ⟨rfl, hk8⟩; have HK8 := Lib.hid (below_then HB5.out hk8); clear hk8))
        | (go_at_call 16; refine (lives15 _).mono ?_; rintro e w9 ⟨rfl, hk9⟩; have HK9 := Lib.hid (below_then HK8.out hk9); clear hk9))
      go_ret
      exact ⟨rfl, below_then HB4.out HK9.out⟩
end Go.Proofs.YtodppilfpemepaaGreat
