/- The law TagwordsParts. -/
import Derived.Test.YtbfokakglanbdaaTagParts
import Derived.Deep.RegionHeld3
import Derived.Deep.RegionWith
import Derived.IntWalk
namespace Go.Proofs.Ytbfokakglanbdaa
open Go.RowKit
set_option linter.unusedVariables false
set_option linter.unusedSimpArgs false

/-- The list's cells. -/
def HasL (w : World) (g : Nat) (L : List Int) : Prop := ∀ j (hj : j < L.length), w.cell? ⟨g, j, none⟩ = some (.int .i64 L[j])
theorem HasL.below {w w' : World} {g B : Nat} {L : List Int} (h : HasL w g L) (hb : Below B w w') (hg : g < B) : HasL w' g L := fun j hj => (hb.cell (p := ⟨g, j, none⟩) hg).trans (h j hj)
theorem HasL.set {w : World} {g P m : Nat} {L : List Int} {v : Value} (h : HasL w g L) (hne : P ≠ g) : HasL (w.setCell ⟨P, m, none⟩ v) g L := fun j hj => by
  rw [World.cell?_setCell_other _ _ _ _ (by intro h; injection h with h; exact hne h)]
  exact h j hj
set_option maxHeartbeats 8000000 in
set_option maxRecDepth 100000 in
/-- The rounds over one tag's slots. -/
theorem walk_TagwordsParts (a0 : Int) (a1 : Int) (w : World) (w0 : (Lit.int .u64 a0).wf = true) (w1 : (Lit.int .u8 a1).wf = true) :
    Calls Try.prog 12 #[.int .u64 a0, .int .u8 a1] w fun e w' => e = .returned (.bool true) ∧ Below w.heap.size w w' := by
  obtain ⟨l0, u0⟩ := bounds_u64 w0
  obtain ⟨l1, u1⟩ := bounds_u8 w1
  clear w0 w1
  have u0' : a0 < 18446744073709551616 := by omega
  obtain ⟨P, hP⟩ : ∃ P, P = w.heap.size := ⟨_, rfl⟩
  have HP := Lib.hid hP
  have U0 := Lib.hid u0'
  clear hP u0 u0'
  go_enter Try.func12, Try.ntmps12
  go_wp2_with fail
  rw [← HP.out]
  go_loopw [6] (fun tv wr => ∃ t : Nat, 1 ≤ t ∧ t ≤ 256 ∧ tv = .int .i64 t ∧ Hid (Cells4 wr P (sn a0 t)) ∧ Below P w wr ∧ P < wr.heap.size) (fun tv _ => 256 - (intOf tv).toNat)
  case atStart =>
    refine ⟨1, by omega, by omega, rfl, ?_, ?_, ?_⟩
    · intro s hs
      have hc : s = 0 ∨ s = 1 ∨ s = 2 ∨ s = 3 := by omega
      have h0 : sn a0 ((1 : Nat) : Int) s = 0 := sn_one a0 s
      rw [h0, HP.out]
      rcases hc with rfl | rfl | rfl | rfl <;> simp
    · rw [HP.out]; exact (Below.refl _ _).alloc (Nat.le_refl _) _
    · rw [HP.out]; simp
  case round =>
    obtain ⟨t, ht1, ht2, rfl, hC, hbr, hPr⟩ := hrel
    by_cases hlt : t < 256
    · have hd : decide ((t : Int) < 256) = true := decide_eq_true (by omega)
      go_wp2_with fail
      refine (hasw a0 t _ (by omega) l0 U0.out).mono ?_
      rintro e w2 ⟨u, rfl, hL, hb2⟩
      have hC2 : Hid (Cells4 w2 P (sn a0 t)) := hC.out.below hb2 hPr
      have hbr2 := hbr.trans (hb2.mono (Nat.le_of_lt hPr))
      have hP2 : P < w2.heap.size := Nat.lt_of_lt_of_le hPr hb2.size
      have HEnd : Hid (∀ s : Nat, s < 4 → sn a0 ((t + 1 : Nat) : Int) s = mid a0 t (hasl a0 t 4) s) := fun s hs => by
        rw [mid_end (by omega) hs]; rfl
      clear hC hbr
      obtain ⟨_, ⟨rfl, hn0⟩ | ⟨g, cap, rfl, hgB, hg, hn, hc, hx⟩⟩ := hL
      · have hE : Hid (Cells4 w2 P (sn a0 ((t + 1 : Nat) : Int))) := hC2.out.congr fun s hs => by
          rw [HEnd.out s hs, List.eq_nil_of_length_eq_zero hn0, mid_nil]
        clear hn0 hC2
        go_wp2_with fail
        refine wp_loop_rounds 1 ?_
        rw [rounds_succ]
        go_wp2_with fail
        go_roundw
        case rel => exact ⟨t + 1, by omega, by omega, by go_num, hE, hbr2, hP2⟩
        case measure => simp [intOf]; omega
      · have hle := hasl_le a0 t 4
        obtain ⟨L, hLL⟩ : ∃ L, L = hasl a0 t 4 := ⟨_, rfl⟩
        have HAt : Hid (∀ i (hi : i < L.length), ∃ m : Nat, L[i] = (m : Int) ∧ m < 4 ∧ tagf a0 m = t) := by subst hLL; exact fun i hi => hasl_at hi
        have HLt : Hid (∀ j i (hj : j < i) (hi : i < L.length), L[j] < L[i]) := by subst hLL; exact fun j i hj hi => hasl_lt hj hi
        have HSt : Hid (∀ i (hi : i < L.length) (s : Int), mid a0 t (L.take (i + 1)) s = if s = L[i] then mid a0 t (L.take i) s + 1 else mid a0 t (L.take i) s) := by subst hLL; exact fun i hi s => mid_step hi s
        have HRg : Hid (∀ I s, 0 ≤ mid a0 t I s ∧ mid a0 t I s ≤ 2) := fun I s => mid_range a0 t I s
        have hHL : Hid (HasL w2 g L) := by subst hLL; exact fun j hj => (hx j _ (by simp [ints, hj])).1
        have hC3 : Hid (Cells4 w2 P (mid a0 t (L.take 0))) := hC2.out.congr fun s hs => by rw [List.take_zero, mid_nil]
        have hne : P ≠ g := by omega
        rw [← hLL] at HEnd hn hle ⊢
        unfold maxLen at hc
        clear hx hC2 hLL hgB
        go_wp2_with fail
        go_loopw [8] (fun iv wq => ∃ i : Nat, i ≤ L.length ∧ iv = .int .i64 i ∧ Hid (Cells4 wq P (mid a0 t (L.take i))) ∧ Below P w wq ∧ P < wq.heap.size ∧ Hid (HasL wq g L) ∧ g < wq.heap.size) (fun iv _ => L.length - (intOf iv).toNat)
        case atStart => exact ⟨0, by omega, rfl, hC3, hbr2, hP2, hHL, hg⟩
        case round =>
          obtain ⟨i, hi, rfl, hCi, hbi, hPi, hHi, hgi⟩ := hrel
          clear hC3 hHL
          by_cases hil : i < L.length
          · obtain ⟨m, hm1, hm2, hm3⟩ := HAt.out i hil
            have hLi : L[i]? = some (m : Int) := by rw [List.getElem?_eq_getElem hil, hm1]
            have ci : wr.cell? ⟨g, i, none⟩ = some (.int .i64 m) := by rw [hHi.out i hil, hm1]
            have d0 : decide ((m : Int) < 0) = false := decide_eq_false (by omega)
            have d1 : decide (3 < (m : Int)) = false := decide_eq_false (by omega)
            have d4 : (tagf a0 m != (t : Int)) = false := by rw [hm3]; simp
            have d5 : decide ((i : Int) < (L.length : Int)) = true := decide_eq_true (by omega)
            have hBq : Below wr.heap.size wr wr.drew := (Below.refl _ _).drew
            have hNq : wr.heap.size ≤ wr.heap.size := Nat.le_refl _
            have hln : (L.length : Int) ≤ 4 := by omega
            by_cases hi0 : i = 0
            case' pos =>
              have d6 : decide (0 < i) = false := decide_eq_false (by omega)
              clear hi0
              go_wp2_with fail
              refine wp_region_held_drew (S := fun w' => w'.cell? ⟨g, i, none⟩ = some (.int .i64 m)) (by kernel_rfl) (box_cell (by assumption) hgi ci) (fun hHeld => ?_)
              refine wpAnyH_take (i := 0) (oi := { dst := some 26, op := Op.move (Operand.tmp 7), type := 42, pos := "outright.go:39", after := #[], guard := none }) (v := ?_) rfl (by kernel_rfl) (by kernel_rfl) (by kernel_rfl) (fun _ _ _ h => h) (Or.inl ⟨by rfl, (by intro w hSw; (try dsimp only at hSw); go_simp; try with_reducible rfl)⟩) hHeld ?_
              simp only [Act.put, List.setIfInBounds_toArray, List.set_cons_zero, List.set_cons_succ]
              refine wpAnyH_take (i := 1) (oi := { dst := some 27, op := Op.move (Operand.tmp 8), type := 3, pos := "outright.go:39", after := #[], guard := none }) (v := ?_) rfl (by kernel_rfl) (by kernel_rfl) (by kernel_rfl) (fun _ _ _ h => h) (Or.inl ⟨by rfl, (by intro w hSw; (try dsimp only at hSw); go_simp; try with_reducible rfl)⟩) hHeld ?_
              simp only [Act.put, List.setIfInBounds_toArray, List.set_cons_zero, List.set_cons_succ]
              refine wpAnyH_take (i := 2) (oi := { dst := some 28, op := Op.indexAddr 42 (Operand.tmp 26) (Operand.tmp 27), type := 0, pos := "outright.go:39", after := #[{ on := 0, ground := Ground.data }, { on := 1, ground := Ground.data }], guard := none }) (v := ?_) rfl (by kernel_rfl) (by kernel_rfl) (by kernel_rfl) (fun _ _ _ h => h) (Or.inl ⟨by rfl, (by intro w hSw; (try dsimp only at hSw); go_simp; try with_reducible rfl)⟩) hHeld ?_
              simp only [Act.put, List.setIfInBounds_toArray, List.set_cons_zero, List.set_cons_succ]
              refine wpAnyH_take (i := 3) (oi := { dst := some 29, op := Op.load 3 (Operand.tmp 28), type := 3, pos := "outright.go:39", after := #[{ on := 2, ground := Ground.data }], guard := none }) (v := ?_) rfl (by kernel_rfl) (by kernel_rfl) (by kernel_rfl) (fun _ _ _ h => h) (Or.inl ⟨by rfl, (by intro w hSw; (try dsimp only at hSw); go_simp; try with_reducible rfl)⟩) hHeld ?_
              simp only [Act.put, List.setIfInBounds_toArray, List.set_cons_zero, List.set_cons_succ]
              refine wpAnyH_take (i := 4) (oi := { dst := some 30, op := Op.binOp BinOp.lss 3 (Operand.tmp 29) (Operand.const (Value.int IntKind.i64 0)) 3, type := 4, pos := "outright.go:39", after := #[{ on := 3, ground := Ground.data }], guard := none }) (v := ?_) rfl (by kernel_rfl) (by kernel_rfl) (by kernel_rfl) (fun _ _ _ h => h) (Or.inl ⟨by rfl, (by intro w hSw; (try dsimp only at hSw); go_simp; try with_reducible rfl)⟩) hHeld ?_
              simp only [Act.put, List.setIfInBounds_toArray, List.set_cons_zero, List.set_cons_succ]
              refine wpAnyH_take (i := 5) (oi := { dst := some 31, op := Op.move (Operand.tmp 30), type := 4, pos := "outright.go:39", after := #[{ on := 4, ground := Ground.data }], guard := none }) (v := ?_) rfl (by kernel_rfl) (by kernel_rfl) (by kernel_rfl) (fun _ _ _ h => h) (Or.inl ⟨by rfl, (by intro w hSw; (try dsimp only at hSw); go_simp; try with_reducible rfl)⟩) hHeld ?_
              simp only [Act.put, List.setIfInBounds_toArray, List.set_cons_zero, List.set_cons_succ]
              refine wpAnyH_take (i := 6) (oi := { dst := some 32, op := Op.move (Operand.tmp 7), type := 42, pos := "outright.go:39", after := #[{ on := 5, ground := Ground.guard }], guard := some (5, false) }) (v := ?_) rfl (by kernel_rfl) (by kernel_rfl) (by kernel_rfl) (fun _ _ _ h => h) (Or.inl ⟨by rfl, (by intro w hSw; (try dsimp only at hSw); go_simp; try with_reducible rfl)⟩) hHeld ?_
              simp only [Act.put, List.setIfInBounds_toArray, List.set_cons_zero, List.set_cons_succ]
              refine wpAnyH_take (i := 7) (oi := { dst := some 33, op := Op.move (Operand.tmp 8), type := 3, pos := "outright.go:39", after := #[{ on := 5, ground := Ground.guard }], guard := some (5, false) }) (v := ?_) rfl (by kernel_rfl) (by kernel_rfl) (by kernel_rfl) (fun _ _ _ h => h) (Or.inl ⟨by rfl, (by intro w hSw; (try dsimp only at hSw); go_simp; try with_reducible rfl)⟩) hHeld ?_
              simp only [Act.put, List.setIfInBounds_toArray, List.set_cons_zero, List.set_cons_succ]
              refine wpAnyH_take (i := 8) (oi := { dst := some 34, op := Op.indexAddr 42 (Operand.tmp 32) (Operand.tmp 33), type := 0, pos := "outright.go:39", after := #[{ on := 6, ground := Ground.data }, { on := 7, ground := Ground.data }, { on := 5, ground := Ground.guard }], guard := some (5, false) }) (v := ?_) rfl (by kernel_rfl) (by kernel_rfl) (by kernel_rfl) (fun _ _ _ h => h) (Or.inl ⟨by rfl, (by intro w hSw; (try dsimp only at hSw); go_simp; try with_reducible rfl)⟩) hHeld ?_
              simp only [Act.put, List.setIfInBounds_toArray, List.set_cons_zero, List.set_cons_succ]
              refine wpAnyH_take (i := 9) (oi := { dst := some 35, op := Op.load 3 (Operand.tmp 34), type := 3, pos := "outright.go:39", after := #[{ on := 8, ground := Ground.data }, { on := 5, ground := Ground.guard }], guard := some (5, false) }) (v := ?_) rfl (by kernel_rfl) (by kernel_rfl) (by kernel_rfl) (fun _ _ _ h => h) (Or.inl ⟨by rfl, (by intro w hSw; (try dsimp only at hSw); go_simp; try with_reducible rfl)⟩) hHeld ?_
              simp only [Act.put, List.setIfInBounds_toArray, List.set_cons_zero, List.set_cons_succ]
              refine wpAnyH_take (i := 10) (oi := { dst := some 36, op := Op.binOp BinOp.gtr 3 (Operand.tmp 35) (Operand.const (Value.int IntKind.i64 3)) 3, type := 4, pos := "outright.go:39", after := #[{ on := 9, ground := Ground.data }, { on := 5, ground := Ground.guard }], guard := some (5, false) }) (v := ?_) rfl (by kernel_rfl) (by kernel_rfl) (by kernel_rfl) (fun _ _ _ h => h) (Or.inl ⟨by rfl, (by intro w hSw; (try dsimp only at hSw); go_simp; try with_reducible rfl)⟩) hHeld ?_
              simp only [Act.put, List.setIfInBounds_toArray, List.set_cons_zero, List.set_cons_succ]
              refine wpAnyH_take (i := 11) (oi := { dst := some 37, op := Op.pick (Operand.tmp 31) (Operand.const (Value.bool true)) (Operand.tmp 36), type := 4, pos := "outright.go:39", after := #[{ on := 5, ground := Ground.data }, { on := 10, ground := Ground.data }], guard := none }) (v := ?_) rfl (by kernel_rfl) (by kernel_rfl) (by kernel_rfl) (fun _ _ _ h => h) (Or.inl ⟨by rfl, (by intro w hSw; (try dsimp only at hSw); go_simp; try with_reducible rfl)⟩) hHeld ?_
              simp only [Act.put, List.setIfInBounds_toArray, List.set_cons_zero, List.set_cons_succ]
              refine wpAnyH_take (i := 12) (oi := { dst := some 38, op := Op.move (Operand.tmp 37), type := 4, pos := "outright.go:39", after := #[{ on := 11, ground := Ground.data }, { on := 5, ground := Ground.chain }], guard := none }) (v := ?_) rfl (by kernel_rfl) (by kernel_rfl) (by kernel_rfl) (fun _ _ _ h => h) (Or.inl ⟨by rfl, (by intro w hSw; (try dsimp only at hSw); go_simp; try with_reducible rfl)⟩) hHeld ?_
              simp only [Act.put, List.setIfInBounds_toArray, List.set_cons_zero, List.set_cons_succ]
              refine wpAnyH_take (i := 13) (oi := { dst := some 39, op := Op.move (Operand.tmp 8), type := 3, pos := "outright.go:39", after := #[{ on := 12, ground := Ground.guard }], guard := some (12, false) }) (v := ?_) rfl (by kernel_rfl) (by kernel_rfl) (by kernel_rfl) (fun _ _ _ h => h) (Or.inl ⟨by rfl, (by intro w hSw; (try dsimp only at hSw); go_simp; try with_reducible rfl)⟩) hHeld ?_
              simp only [Act.put, List.setIfInBounds_toArray, List.set_cons_zero, List.set_cons_succ]
              refine wpAnyH_take (i := 14) (oi := { dst := some 40, op := Op.binOp BinOp.gtr 3 (Operand.tmp 39) (Operand.const (Value.int IntKind.i64 0)) 3, type := 4, pos := "outright.go:39", after := #[{ on := 13, ground := Ground.data }, { on := 12, ground := Ground.guard }], guard := some (12, false) }) (v := ?_) rfl (by kernel_rfl) (by kernel_rfl) (by kernel_rfl) (fun _ _ _ h => h) (Or.inl ⟨by rfl, (by intro w hSw; (try dsimp only at hSw); go_simp; try with_reducible rfl)⟩) hHeld ?_
              simp only [Act.put, List.setIfInBounds_toArray, List.set_cons_zero, List.set_cons_succ]
              refine wpAnyH_take (i := 15) (oi := { dst := some 41, op := Op.move (Operand.tmp 40), type := 4, pos := "outright.go:39", after := #[{ on := 14, ground := Ground.data }, { on := 12, ground := Ground.chain }, { on := 12, ground := Ground.guard }], guard := some (12, false) }) (v := ?_) rfl (by kernel_rfl) (by kernel_rfl) (by kernel_rfl) (fun _ _ _ h => h) (Or.inl ⟨by rfl, (by intro w hSw; (try dsimp only at hSw); go_simp; try with_reducible rfl)⟩) hHeld ?_
              simp only [Act.put, List.setIfInBounds_toArray, List.set_cons_zero, List.set_cons_succ]
              refine wpAnyH_take (i := 16) (oi := { dst := some 42, op := Op.move (Operand.tmp 7), type := 42, pos := "outright.go:39", after := #[{ on := 15, ground := Ground.guard }], guard := some (15, true) }) (v := undef) rfl (by kernel_rfl) (by kernel_rfl) (by kernel_rfl) (fun _ _ _ h => h) (Or.inr ⟨by rfl, rfl⟩) hHeld ?_
              simp only [Act.put, List.setIfInBounds_toArray, List.set_cons_zero, List.set_cons_succ]
              refine wpAnyH_take (i := 17) (oi := { dst := some 43, op := Op.move (Operand.tmp 8), type := 3, pos := "outright.go:39", after := #[{ on := 15, ground := Ground.guard }], guard := some (15, true) }) (v := undef) rfl (by kernel_rfl) (by kernel_rfl) (by kernel_rfl) (fun _ _ _ h => h) (Or.inr ⟨by rfl, rfl⟩) hHeld ?_
              simp only [Act.put, List.setIfInBounds_toArray, List.set_cons_zero, List.set_cons_succ]
              refine wpAnyH_take (i := 18) (oi := { dst := some 44, op := Op.indexAddr 42 (Operand.tmp 42) (Operand.tmp 43), type := 0, pos := "outright.go:39", after := #[{ on := 16, ground := Ground.data }, { on := 17, ground := Ground.data }, { on := 15, ground := Ground.guard }], guard := some (15, true) }) (v := undef) rfl (by kernel_rfl) (by kernel_rfl) (by kernel_rfl) (fun _ _ _ h => h) (Or.inr ⟨by rfl, rfl⟩) hHeld ?_
              simp only [Act.put, List.setIfInBounds_toArray, List.set_cons_zero, List.set_cons_succ]
              refine wpAnyH_take (i := 19) (oi := { dst := some 45, op := Op.load 3 (Operand.tmp 44), type := 3, pos := "outright.go:39", after := #[{ on := 18, ground := Ground.data }, { on := 15, ground := Ground.guard }], guard := some (15, true) }) (v := undef) rfl (by kernel_rfl) (by kernel_rfl) (by kernel_rfl) (fun _ _ _ h => h) (Or.inr ⟨by rfl, rfl⟩) hHeld ?_
              simp only [Act.put, List.setIfInBounds_toArray, List.set_cons_zero, List.set_cons_succ]
              refine wpAnyH_take (i := 20) (oi := { dst := some 46, op := Op.move (Operand.tmp 7), type := 42, pos := "outright.go:39", after := #[{ on := 15, ground := Ground.guard }], guard := some (15, true) }) (v := undef) rfl (by kernel_rfl) (by kernel_rfl) (by kernel_rfl) (fun _ _ _ h => h) (Or.inr ⟨by rfl, rfl⟩) hHeld ?_
              simp only [Act.put, List.setIfInBounds_toArray, List.set_cons_zero, List.set_cons_succ]
              refine wpAnyH_take (i := 21) (oi := { dst := some 47, op := Op.move (Operand.tmp 8), type := 3, pos := "outright.go:39", after := #[{ on := 15, ground := Ground.guard }], guard := some (15, true) }) (v := undef) rfl (by kernel_rfl) (by kernel_rfl) (by kernel_rfl) (fun _ _ _ h => h) (Or.inr ⟨by rfl, rfl⟩) hHeld ?_
              simp only [Act.put, List.setIfInBounds_toArray, List.set_cons_zero, List.set_cons_succ]
              refine wpAnyH_take (i := 22) (oi := { dst := some 48, op := Op.binOp BinOp.sub 3 (Operand.tmp 47) (Operand.const (Value.int IntKind.i64 1)) 3, type := 3, pos := "outright.go:39", after := #[{ on := 21, ground := Ground.data }, { on := 15, ground := Ground.guard }], guard := some (15, true) }) (v := undef) rfl (by kernel_rfl) (by kernel_rfl) (by kernel_rfl) (fun _ _ _ h => h) (Or.inr ⟨by rfl, rfl⟩) hHeld ?_
              simp only [Act.put, List.setIfInBounds_toArray, List.set_cons_zero, List.set_cons_succ]
              refine wpAnyH_take (i := 23) (oi := { dst := some 49, op := Op.indexAddr 42 (Operand.tmp 46) (Operand.tmp 48), type := 0, pos := "outright.go:39", after := #[{ on := 20, ground := Ground.data }, { on := 22, ground := Ground.data }, { on := 15, ground := Ground.guard }], guard := some (15, true) }) (v := undef) rfl (by kernel_rfl) (by kernel_rfl) (by kernel_rfl) (fun _ _ _ h => h) (Or.inr ⟨by rfl, rfl⟩) hHeld ?_
              simp only [Act.put, List.setIfInBounds_toArray, List.set_cons_zero, List.set_cons_succ]
              refine wpAnyH_take (i := 24) (oi := { dst := some 50, op := Op.load 3 (Operand.tmp 49), type := 3, pos := "outright.go:39", after := #[{ on := 23, ground := Ground.data }, { on := 15, ground := Ground.guard }], guard := some (15, true) }) (v := undef) rfl (by kernel_rfl) (by kernel_rfl) (by kernel_rfl) (fun _ _ _ h => h) (Or.inr ⟨by rfl, rfl⟩) hHeld ?_
              simp only [Act.put, List.setIfInBounds_toArray, List.set_cons_zero, List.set_cons_succ]
              refine wpAnyH_take (i := 25) (oi := { dst := some 51, op := Op.binOp BinOp.leq 3 (Operand.tmp 45) (Operand.tmp 50) 3, type := 4, pos := "outright.go:39", after := #[{ on := 19, ground := Ground.data }, { on := 24, ground := Ground.data }, { on := 15, ground := Ground.guard }], guard := some (15, true) }) (v := undef) rfl (by kernel_rfl) (by kernel_rfl) (by kernel_rfl) (fun _ _ _ h => h) (Or.inr ⟨by rfl, rfl⟩) hHeld ?_
              simp only [Act.put, List.setIfInBounds_toArray, List.set_cons_zero, List.set_cons_succ]
              refine wpAnyH_take (i := 26) (oi := { dst := some 52, op := Op.pick (Operand.tmp 41) (Operand.tmp 51) (Operand.const (Value.bool false)), type := 4, pos := "outright.go:39", after := #[{ on := 15, ground := Ground.data }, { on := 25, ground := Ground.data }, { on := 12, ground := Ground.guard }], guard := some (12, false) }) (v := ?_) rfl (by kernel_rfl) (by kernel_rfl) (by kernel_rfl) (fun _ _ _ h => h) (Or.inl ⟨by rfl, (by intro w hSw; (try dsimp only at hSw); go_simp; try with_reducible rfl)⟩) hHeld ?_
              simp only [Act.put, List.setIfInBounds_toArray, List.set_cons_zero, List.set_cons_succ]
              refine wpAnyH_take (i := 27) (oi := { dst := some 53, op := Op.pick (Operand.tmp 38) (Operand.const (Value.bool true)) (Operand.tmp 52), type := 4, pos := "outright.go:39", after := #[{ on := 12, ground := Ground.data }, { on := 26, ground := Ground.data }], guard := none }) (v := ?_) rfl (by kernel_rfl) (by kernel_rfl) (by kernel_rfl) (fun _ _ _ h => h) (Or.inl ⟨by rfl, (by intro w hSw; (try dsimp only at hSw); go_simp; try with_reducible rfl)⟩) hHeld ?_
              simp only [Act.put, List.setIfInBounds_toArray, List.set_cons_zero, List.set_cons_succ]
              refine wpAnyH_take (i := 28) (oi := { dst := some 54, op := Op.move (Operand.tmp 53), type := 4, pos := "outright.go:39", after := #[{ on := 27, ground := Ground.data }, { on := 15, ground := Ground.chain }], guard := none }) (v := ?_) rfl (by kernel_rfl) (by kernel_rfl) (by kernel_rfl) (fun _ _ _ h => h) (Or.inl ⟨by rfl, (by intro w hSw; (try dsimp only at hSw); go_simp; try with_reducible rfl)⟩) hHeld ?_
              simp only [Act.put, List.setIfInBounds_toArray, List.set_cons_zero, List.set_cons_succ]
              refine wpAnyH_take (i := 29) (oi := { dst := some 55, op := Op.move (Operand.tmp 0), type := 22, pos := "outright.go:39", after := #[{ on := 28, ground := Ground.guard }], guard := some (28, false) }) (v := ?_) rfl (by kernel_rfl) (by kernel_rfl) (by kernel_rfl) (fun _ _ _ h => h) (Or.inl ⟨by rfl, (by intro w hSw; (try dsimp only at hSw); go_simp; try with_reducible rfl)⟩) hHeld ?_
              simp only [Act.put, List.setIfInBounds_toArray, List.set_cons_zero, List.set_cons_succ]
              refine wpAnyH_take (i := 30) (oi := { dst := some 56, op := Op.move (Operand.tmp 7), type := 42, pos := "outright.go:39", after := #[{ on := 28, ground := Ground.guard }], guard := some (28, false) }) (v := ?_) rfl (by kernel_rfl) (by kernel_rfl) (by kernel_rfl) (fun _ _ _ h => h) (Or.inl ⟨by rfl, (by intro w hSw; (try dsimp only at hSw); go_simp; try with_reducible rfl)⟩) hHeld ?_
              simp only [Act.put, List.setIfInBounds_toArray, List.set_cons_zero, List.set_cons_succ]
              refine wpAnyH_take (i := 31) (oi := { dst := some 57, op := Op.move (Operand.tmp 8), type := 3, pos := "outright.go:39", after := #[{ on := 28, ground := Ground.guard }], guard := some (28, false) }) (v := ?_) rfl (by kernel_rfl) (by kernel_rfl) (by kernel_rfl) (fun _ _ _ h => h) (Or.inl ⟨by rfl, (by intro w hSw; (try dsimp only at hSw); go_simp; try with_reducible rfl)⟩) hHeld ?_
              simp only [Act.put, List.setIfInBounds_toArray, List.set_cons_zero, List.set_cons_succ]
              refine wpAnyH_take (i := 32) (oi := { dst := some 58, op := Op.indexAddr 42 (Operand.tmp 56) (Operand.tmp 57), type := 0, pos := "outright.go:39", after := #[{ on := 30, ground := Ground.data }, { on := 31, ground := Ground.data }, { on := 28, ground := Ground.guard }], guard := some (28, false) }) (v := ?_) rfl (by kernel_rfl) (by kernel_rfl) (by kernel_rfl) (fun _ _ _ h => h) (Or.inl ⟨by rfl, (by intro w hSw; (try dsimp only at hSw); go_simp; try with_reducible rfl)⟩) hHeld ?_
              simp only [Act.put, List.setIfInBounds_toArray, List.set_cons_zero, List.set_cons_succ]
              refine wpAnyH_take (i := 33) (oi := { dst := some 59, op := Op.load 3 (Operand.tmp 58), type := 3, pos := "outright.go:39", after := #[{ on := 32, ground := Ground.data }, { on := 28, ground := Ground.guard }], guard := some (28, false) }) (v := ?_) rfl (by kernel_rfl) (by kernel_rfl) (by kernel_rfl) (fun _ _ _ h => h) (Or.inl ⟨by rfl, (by intro w hSw; (try dsimp only at hSw); go_simp; try with_reducible rfl)⟩) hHeld ?_
              simp only [Act.put, List.setIfInBounds_toArray, List.set_cons_zero, List.set_cons_succ]
              refine wpAnyH_take (i := 35) (oi := { dst := some 61, op := Op.move (Operand.tmp 6), type := 3, pos := "outright.go:39", after := #[{ on := 28, ground := Ground.guard }], guard := some (28, false) }) (v := ?_) rfl (by kernel_rfl) (by kernel_rfl) (by kernel_rfl) (fun _ _ _ h => h) (Or.inl ⟨by rfl, (by intro w hSw; (try dsimp only at hSw); go_simp; try with_reducible rfl)⟩) hHeld ?_
              simp only [Act.put, List.setIfInBounds_toArray, List.set_cons_zero, List.set_cons_succ]
              refine wpAnyH_ready (rs := [34]) (by kernel_rfl) (by simp) ?_
              refine AllReadyH.cons (o := { dst := some 60, op := Op.call { callee := Callee.value (Operand.func 27), args := #[Operand.tmp 55, Operand.tmp 59], argTypes := #[22, 3] }, type := 3, pos := "outright.go:39", after := #[{ on := 29, ground := Ground.data }, { on := 33, ground := Ground.data }, { on := 28, ground := Ground.chain }, { on := 28, ground := Ground.guard }], guard := some (28, false) }) rfl (fun K hK => ?_) AllReadyH.nil
              go_simp
              go_at_call 27
              refine (tagw _ _ _ l0 U0.out).mono ?_
              rintro e w' ⟨rfl, hk⟩
              have hq := box_then (by assumption) hNq hk
              clear hk
              go_wp2_with fail
              refine hK.out _ _ ?_ (fun hHeld => ?_)
              · exact box_cell (by assumption) hgi ci
              clear hK K
              try simp only [Act.put, List.setIfInBounds_toArray, List.set_cons_zero, List.set_cons_succ]
              refine wpAnyH_take (i := 36) (oi := { dst := some 62, op := Op.binOp BinOp.neq 3 (Operand.tmp 60) (Operand.tmp 61) 3, type := 4, pos := "outright.go:39", after := #[{ on := 34, ground := Ground.data }, { on := 35, ground := Ground.data }, { on := 28, ground := Ground.guard }], guard := some (28, false) }) (v := ?_) rfl (by kernel_rfl) (by kernel_rfl) (by kernel_rfl) (fun _ _ _ h => h) (Or.inl ⟨by rfl, (by intro w hSw; (try dsimp only at hSw); go_simp; try with_reducible rfl)⟩) hHeld ?_
              simp only [Act.put, List.setIfInBounds_toArray, List.set_cons_zero, List.set_cons_succ]
              refine wpAnyH_take (i := 37) (oi := { dst := some 63, op := Op.pick (Operand.tmp 54) (Operand.const (Value.bool true)) (Operand.tmp 62), type := 4, pos := "outright.go:39", after := #[{ on := 28, ground := Ground.data }, { on := 36, ground := Ground.data }], guard := none }) (v := ?_) rfl (by kernel_rfl) (by kernel_rfl) (by kernel_rfl) (fun _ _ _ h => h) (Or.inl ⟨by rfl, (by intro w hSw; (try dsimp only at hSw); go_simp; try with_reducible rfl)⟩) hHeld ?_
              simp only [Act.put, List.setIfInBounds_toArray, List.set_cons_zero, List.set_cons_succ]
              refine wpAnyH_done (by kernel_rfl) ?_ _
              clear d6
            case' neg =>
              obtain ⟨j, hj⟩ : ∃ j, i = j + 1 := ⟨i - 1, by omega⟩
              have hjl : j < L.length := by omega
              obtain ⟨m', hm1', hm2', hm3'⟩ := HAt.out j hjl
              have cj : wr.cell? ⟨g, j, none⟩ = some (.int .i64 m') := by rw [hHi.out j hjl, hm1']
              have hmm : m' < m := by
                have := HLt.out j i (by omega) hil
                rw [hm1, hm1'] at this; omega
              have d6 : decide (0 < i) = true := decide_eq_true (by omega)
              have d7 : decide (m ≤ m') = false := decide_eq_false (by omega)
              have hwj : IntKind.i64.wrap ((i : Int) - 1) = (j : Int) := by rw [IntWalk.i64_in _ (by omega)]; omega
              clear hi0 hj hm1' hm3' hmm
              go_wp2_with fail
              go_region_held3 (fun w' => w'.cell? ⟨g, i, none⟩ = some (.int .i64 m) ∧ w'.cell? ⟨g, j, none⟩ = some (.int .i64 m'))
                (first
                  | exact ⟨box_cell (by assumption) hgi ci, box_cell (by assumption) hgi cj⟩)
                (first
                  | (go_at_call 27; refine (tagw _ _ _ l0 U0.out).mono ?_; rintro e w' ⟨rfl, hk⟩; have hq := box_then (by assumption) hNq hk; clear hk))
              clear d6 d7 hwj cj hm2' hjl
            all_goals
              clear d0 d1 d4 hBq
              have hHq : Hid (HasL w' g L) := hHi.out.below hq hgi
              have hCq : Hid (Cells4 w' P (mid a0 t (L.take i))) := hCi.out.below hq hPi
              have ci2 : w'.cell? ⟨g, i, none⟩ = some (.int .i64 m) := by rw [hHq.out i hil, hm1]
              obtain ⟨z, hz⟩ : ∃ z, z = mid a0 t (L.take i) m := ⟨_, rfl⟩
              have cm : w'.cell? ⟨P, m, none⟩ = some (.int .i64 z) := by rw [hz]; exact (hCq.out m hm2).1
              have cf : w'.frozen? ⟨P, m, none⟩ = false := (hCq.out m hm2).2
              obtain ⟨hz1, hz2⟩ : 0 ≤ z ∧ z ≤ 2 := by rw [hz]; exact HRg.out _ _
              have HZ := Lib.hid hz
              have hbw := hbi.trans (hq.mono (Nat.le_of_lt hPi))
              have hPw : P < w'.heap.size := Nat.lt_of_lt_of_le hPi hq.size
              have hgw : g < w'.heap.size := Nat.lt_of_lt_of_le hgi hq.size
              clear hz hHi hCi hbi hPi hgi hq ci hNq hbr2 hP2 hg
              go_wp2_with fail
              refine ⟨⟨i + 1, by omega, by go_num, ?_, hbw.setCell (Nat.le_refl _) _, by simpa using hPw, hHq.out.set hne, by simpa using hgw⟩, ?_⟩
              · refine hCq.out.set hm2 fun s hs => ?_
                rw [HSt.out i hil, hm1, HZ.out]
                by_cases e : s = m
                · subst e; rw [if_pos rfl, if_pos rfl]
                · rw [if_neg (by omega), if_neg e]
              · simp [intOf]; omega
          · have hiL : i = L.length := by omega
            subst hiL
            have hE : Hid (Cells4 wr P (sn a0 ((t + 1 : Nat) : Int))) := hCi.out.congr fun s hs => by rw [HEnd.out s hs, List.take_length]
            clear hCi hHi
            go_wp2_with fail
            go_roundw
            case rel => exact ⟨t + 1, by omega, by omega, by go_num, hE, hbi, hPi⟩
            case measure => simp [intOf]; omega
    · have ht : t = 256 := by omega
      have hC9 : Hid (Cells4 wr P (sn a0 256)) := by rw [ht] at hC; exact hC
      have hd : decide ((t : Int) < 256) = false := decide_eq_false (by omega)
      clear hC hlt ht ht1 ht2
      go_wp2_with fail
      go_loopw [9, 10, 11] (fun nv lv sv wq => ∃ d : Nat, d ≤ 4 ∧ nv = .int .i64 (cD a0 d) ∧ lv = .int .i64 (lD a0 d) ∧ sv = .int .i64 (3 - d) ∧ Hid (Cells4 wq P (sn a0 256)) ∧ Below P w wq ∧ P < wq.heap.size) (fun _ _ sv _ => (intOf sv + 1).toNat)
      case atStart => exact ⟨0, by omega, rfl, rfl, rfl, hC9, hbr, hPr⟩
      case round =>
        obtain ⟨d, hd4, rfl, rfl, rfl, hCd, hbd, hPd⟩ := hrel
        clear hC9 hbr hPr
        by_cases hdl : d < 4
        · obtain ⟨k, hk⟩ : ∃ k : Nat, k + d = 3 := ⟨3 - d, by omega⟩
          have hk3 : (3 - d : Int) = k := by omega
          have hk4 : k < 4 := by omega
          have hk0i : (0 : Int) ≤ k := by omega
          have hk4i : (k : Int) < 4 := by omega
          have hc1 := (hCd.out k hk4).1
          have hcr := cD_range a0 d
          have hcs : cD a0 (d + 1) = cD a0 d + if tagf a0 (3 - d : Int) = 0 then 0 else 1 := rfl
          have hls : lD a0 (d + 1) = if tagf a0 (3 - d : Int) = 0 then (3 - d : Int) else lD a0 d := rfl
          rw [sn_all] at hc1
          have hBq : Below wr.heap.size wr wr.drew := (Below.refl _ _).drew
          have hNq : wr.heap.size ≤ wr.heap.size := Nat.le_refl _
          rw [hk3] at hcs hls ⊢
          by_cases h0 : tagf a0 k = 0
          · rw [if_pos h0] at hc1 hcs hls
            rw [Int.add_zero] at hcs
            have hb0 : (tagf a0 k == 0) = true := by simpa using h0
            have HCS := Lib.hid hcs
            have HLS := Lib.hid hls
            have HK := Lib.hid hk
            clear hcs hls hk h0 hk3
            go_wp2_with fail
            go_region_held3 (fun w' => w'.cell? ⟨P, k, none⟩ = some (.int .i64 0))
              (first
                | exact box_cell (by assumption) hPd hc1)
              (first
                | (go_at_call 27; refine (tagw _ _ _ l0 U0.out).mono ?_; rintro e w' ⟨rfl, hk⟩; have hq := box_then (by assumption) hNq hk; clear hk))
            have hCw : Hid (Cells4 w' P (sn a0 256)) := hCd.out.below hq hPd
            have hc2 : w'.cell? ⟨P, k, none⟩ = some (.int .i64 0) := (hq.cell (p := ⟨P, k, none⟩) hPd).trans hc1
            have hbw := hbd.trans (hq.mono (Nat.le_of_lt hPd))
            have hPw : P < w'.heap.size := Nat.lt_of_lt_of_le hPd hq.size
            clear hb0 hBq hNq hc1 hCd hbd hPd hq
            go_wp2_with fail
            have hk := HK.out
            go_roundw
            case rel => exact ⟨d + 1, by omega, by rw [HCS.out], by rw [HLS.out], by go_num, hCw, hbw, hPw⟩
            case measure => simp [intOf]
          · rw [if_neg h0] at hc1 hcs hls
            have hb0 : (tagf a0 k == 0) = false := by simpa using h0
            have HCS := Lib.hid hcs
            have HLS := Lib.hid hls
            have HK := Lib.hid hk
            clear hcs hls hk h0 hk3
            go_wp2_with fail
            go_region_held3 (fun w' => w'.cell? ⟨P, k, none⟩ = some (.int .i64 1))
              (first
                | exact box_cell (by assumption) hPd hc1)
              (first
                | (go_at_call 27; refine (tagw _ _ _ l0 U0.out).mono ?_; rintro e w' ⟨rfl, hk⟩; have hq := box_then (by assumption) hNq hk; clear hk))
            have hCw : Hid (Cells4 w' P (sn a0 256)) := hCd.out.below hq hPd
            have hc2 : w'.cell? ⟨P, k, none⟩ = some (.int .i64 1) := (hq.cell (p := ⟨P, k, none⟩) hPd).trans hc1
            have hbw := hbd.trans (hq.mono (Nat.le_of_lt hPd))
            have hPw : P < w'.heap.size := Nat.lt_of_lt_of_le hPd hq.size
            clear hb0 hBq hNq hc1 hCd hbd hPd hq
            go_wp2_with fail
            have hk := HK.out
            go_roundw
            case rel => exact ⟨d + 1, by omega, by rw [HCS.out], by rw [HLS.out], by go_num, hCw, hbw, hPw⟩
            case measure => simp [intOf]
        · have hd : d = 4 := by omega
          subst hd
          have h3 : (3 - ((4 : Nat) : Int)) = -1 := by decide
          have hNq : wr.heap.size ≤ wr.heap.size := Nat.le_refl _
          have hBq : Below wr.heap.size wr wr := Below.refl _ _
          have hBd : Below wr.heap.size wr wr.drew := (Below.refl _ _).drew
          obtain ⟨c, hc⟩ : ∃ c, c = cntk a0 4 := ⟨_, rfl⟩
          obtain ⟨l, hl⟩ : ∃ l, fr4 a0 = l := ⟨_, rfl⟩
          have hcr := cntk_range a0 4
          rw [cD_all, lD_all, h3, hl, ← hc]
          rw [← hc] at hcr
          have hlr : l = -1 ∨ 0 ≤ l := by rw [← hl]; unfold fr4; split <;> (try split) <;> (try split) <;> (try split) <;> simp
          by_cases hl0 : l < 0
          · have : l = -1 := by omega
            subst this
            clear hlr hl0
            go_wp2_with (first
              | (go_at_call 37; refine (countw _ _ l0 U0.out).mono ?_; rintro e w' ⟨rfl, hk⟩; have hq := box_then (by assumption) hNq hk; clear hk)
              | (go_at_call 35; refine (freew _ _ l0 U0.out).mono ?_; rintro e w' ⟨rfl, hk⟩; have hq := box_then (by assumption) hNq hk; clear hk)
              | (go_at_call 31; refine (lives02 _).mono ?_; rintro e w' ⟨rfl, hk⟩; have hq := box_then (by assumption) hNq hk; clear hk))
            go_ret
            exact ⟨rfl, by rw [← HP.out]; exact hbd.trans (hq.mono (Nat.le_of_lt hPd))⟩
          · have hlp : 0 ≤ l := by omega
            have hdl : decide (l < 0) = false := decide_eq_false hl0
            obtain ⟨T, hT⟩ : ∃ T, T = 1 + a1 % 255 := ⟨_, rfl⟩
            have hTr : 1 ≤ T ∧ T ≤ 255 := by omega
            obtain ⟨y, hy⟩ : ∃ y, withf a0 l T = y := ⟨_, rfl⟩
            have hyr := withf_range a0 l T l0 U0.out
            obtain ⟨e1, e2⟩ := with_low l0 U0.out hTr.1 hTr.2 hl hlp
            rw [hy] at e1 e2 hyr
            rw [← hc] at e1
            obtain ⟨y1, y2⟩ := hyr
            have hW : ∀ w, Calls Try.prog 29 #[.int .u64 a0, .int .i64 l, .int .i64 (1 + a1 % 255)] w fun e w' => e = .returned (.int .u64 y) ∧ Below w.heap.size w w' := fun w => by
              rw [← hy, hT]; exact withw _ _ _ _ l0 U0.out
            have HW := Lib.hid hW
            have u0 := U0.out
            have hb1 : (cntk y 4 == c + 1) = true := by simpa using e1
            have hb2 : (fr4 y != l) = true := by simpa using e2
            have hb3 : (cntk a0 4 != c) = false := by rw [← hc]; simp
            have hb4 : (fr4 a0 != l) = false := by rw [hl]; simp
            clear hW hy hT e1 e2 hl hc hlr hl0
            go_wp2_with (first
              | (go_at_call 29; refine (HW.out _).mono ?_; rintro e w' ⟨rfl, hk⟩; have hq := box_then (by assumption) hNq hk; clear hk)
              | (go_at_call 37; refine (countw _ _ (by assumption) (by assumption)).mono ?_; rintro e w' ⟨rfl, hk⟩; have hq := box_then (by assumption) hNq hk; clear hk)
              | (go_at_call 35; refine (freew _ _ (by assumption) (by assumption)).mono ?_; rintro e w' ⟨rfl, hk⟩; have hq := box_then (by assumption) hNq hk; clear hk)
              | (go_at_call 31; refine (lives02 _).mono ?_; rintro e w' ⟨rfl, hk⟩; have hq := box_then (by assumption) hNq hk; clear hk))
            go_ret
            exact ⟨rfl, by rw [← HP.out]; exact hbd.trans (hq.mono (Nat.le_of_lt hPd))⟩
end Go.Proofs.Ytbfokakglanbdaa
