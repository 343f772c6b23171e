/- Worlds: steps, full, grows, tick. -/
import Derived.Test.YtodppilfpemepaaGreatWd2
import Derived.Test.YtodppilfpemepaaGreatGEp
import Derived.Deep.QuietTactic
import Derived.BigQuiet
namespace Go.Proofs.YtodppilfpemepaaGreat
open Go.RowKit Go.Maps
set_option linter.unusedVariables false

theorem belowWd {B : Nat} {a w : World} (h : Below B a w) (n : Nat) : Below B a (w.drewN n) := by
  induction n with
  | zero => exact h
  | succ n ih => exact ih.drew
theorem wsteps {w : World} {A : Ad} {V : Wv} {S : Nat → Prop} (h : Wd w A V S) :
    Calls Tryz.prog 72 #[.pointer (some ⟨A.p, 0, none⟩)] w fun e w' => e = .returned (.int .i64 V.cnt) ∧ w = w' := by
  have c0 := h.box.c0
  have C := Lib.hid (wcount h)
  clear h
  go_enter Tryz.func72, Tryz.ntmps72
  go_wp2_with fail
  refine C.out.mono ?_
  rintro e w' ⟨rfl, rfl⟩
  go_wp2_with fail
  go_ret
  exact ⟨rfl, rfl⟩
/-- May the tables grow? -/
def growsF (V : Wv) : Bool := (asN (V.f 2) == 0) && mayf V.c.bits V.c.budget (asO (V.f 2))
theorem isU_tick (x : Int) : isU (tickf x) := by
  obtain ⟨⟨a1, a2⟩, ⟨a3, a4⟩, ⟨a5, a6⟩⟩ := ep_range x
  unfold tickf
  generalize nowf x = n at *
  generalize atf x = a at *
  generalize genf x = g at *
  unfold putf isU
  split <;> split <;> (try split) <;> constructor <;> omega
set_option maxHeartbeats 1000000 in
set_option maxRecDepth 100000 in
theorem wtick {w : World} {A : Ad} {V : Wv} {S : Nat → Prop} (h : Wd w A V S) (hc : V.cnt < 1000000000) :
    Calls Tryz.prog 67 #[.pointer (some ⟨A.p, 0, none⟩)] w fun e w' => e = .returned (.tuple #[]) ∧ WdPost w A (V.acc (upd V.f 8 (tickf (V.f 8))) 3 8 (V.f 8) (tickf (V.f 8))) S w' := by
  have c0 := h.box.c0
  have hlt := h.box.lt
  obtain ⟨u1, u2⟩ := h.rng (a := 8) ⟨by decide, by decide⟩
  have C := Lib.hid (wpeek h (a := 8) ⟨by decide, by decide⟩)
  have CT := Lib.hid (fun W => tickw (V.f 8) W u1 (by omega))
  have CC : Hid (∀ W, Below w.heap.size w W → Calls Tryz.prog 106 #[.pointer (some ⟨A.pc, 0, none⟩), .int .u64 8, .int .u64 (V.f 8), .int .u64 (tickf (V.f 8))] W fun e w' => e = .returned (.tuple #[.int .u64 (V.f 8), .bool true]) ∧ WdPost W A (V.acc (upd V.f 8 (tickf (V.f 8))) 3 8 (V.f 8) (tickf (V.f 8))) S w') :=
    Lib.hid (fun W hb => wcas (h.new hb) (a := 8) ⟨by decide, by decide⟩ (isU_tick _) hc (r := true) (by simp))
  clear h
  generalize V.acc _ _ _ _ _ = V' at *
  generalize tickf (V.f 8) = t at *
  generalize V.f 8 = z at *
  go_enter Tryz.func67, Tryz.ntmps67
  go_wp2_with fail
  refine C.out.mono ?_
  rintro e w' ⟨rfl, rfl⟩
  go_wp2_with fail
  have c0d : w.drew.cell? ⟨A.p, 0, none⟩ = some (.pointer (some ⟨A.pc, 0, none⟩)) := c0
  go_region_held3 (fun w' => w'.cell? ⟨A.p, 0, none⟩ = some (.pointer (some ⟨A.pc, 0, none⟩)))
    (first | assumption)
    (first
      | (go_at_call 107; ((with_reducible refine (CT.out _).mono ?_); rintro e w1 ⟨rfl, K1⟩; have hK := ((Below.refl w.heap.size w).drew.trans K1); replace c0 := (hK.cell (p := ⟨A.p, 0, none⟩) hlt).trans c0; have C2 := Lib.hid (CC.out _ hK); have HK := Lib.hid hK; clear K1 hK c0d))
      | (go_at_call 106; ((with_reducible refine C2.out.mono ?_); rintro e w2 ⟨rfl, S', ht, hw⟩; have HT := Lib.hid ht; have HW := Lib.hid hw; replace c0 := hw.box.c0; clear C2 ht hw)))
  clear c0
  go_wp2_with fail
  go_end0
  exact ⟨rfl, S', Turn.after HK.out HT.out, HW.out⟩
end Go.Proofs.YtodppilfpemepaaGreat
