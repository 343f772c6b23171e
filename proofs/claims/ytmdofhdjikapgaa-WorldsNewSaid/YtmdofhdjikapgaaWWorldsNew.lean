/- The law WorldsNew. -/
import Derived.Test.YtmdofhdjikapgaaPwN
import Derived.Test.YtmdofhdjikapgaaWd4
import Derived.Test.YtmdofhdjikapgaaOpen
namespace Go.Proofs.Ytmdofhdjikapgaa
open Go.RowKit Go.Maps
set_option linter.unusedVariables false
theorem isLs_list (M : List (Int × Int)) (hU : ∀ x ∈ M, isU x.1 ∧ isU x.2) : IsLs (listL M) (wordsF M) := by
  have key : ∀ (M L : List (Int × Int)) (f : Int → Int), (∀ x ∈ M, isU x.1 ∧ isU x.2) → IsLs L f → IsLs (M.foldl (fun L x => putL L x.1 x.2) L) (M.foldl (fun f x => upd f x.1 x.2) f) := by
    intro M
    induction M with
    | nil => intro L f _ h; exact h
    | cons x r ih =>
      intro L f hu h
      exact ih _ _ (fun y hy => hu y (by simp [hy])) (h.put (hu x (by simp)).1 (hu x (by simp)).2)
  exact key M [] (fun _ => 0) hU IsLs.nil
/-- Both, as at first. -/
theorem pw_made {w1 X w2 : World} {A : Ad} {B : Nat} {b u t q y : Int} {e : Ending} (hb : 1 ≤ b ∧ b ≤ 12) (hW : WdB w1 A (V0 ⟨b, u, t, q, y⟩) B) (hx : Below w1.heap.size w1 X) (hB : B ≤ w1.heap.size) (h : NewR X b u t q y e w2) :
    ∃ R S T, e = .returned (.tuple #[.pointer (some ⟨R.p, 0, none⟩), .int .i64 0]) ∧ Pw w2 A R (V0 ⟨b, u, t, q, y⟩) S T ∧ (∀ j, S j ∨ T j → B ≤ j) ∧ Below X.heap.size X w2 := by
  obtain ⟨R, T, rfl, hr, hT, hk⟩ := h
  obtain ⟨S, hw, hS⟩ := hW
  have hs := hx.size
  refine ⟨R, S, T, rfl, ⟨(hw.new hx).new hk, ⟨_, hr, isLs_list _ (fun x hx => ?_), ?_⟩, fun j s t => ?_⟩, fun j s => ?_, hk⟩
  · simp at hx
    subst hx
    exact ⟨⟨by show (0 : Int) ≤ 2; decide, by show (2 : Int) < 18446744073709551616; decide⟩, ⟨by show 0 ≤ b; omega, by show b < 18446744073709551616; omega⟩⟩
  · have := listL_len [((2 : Int), b)]
    simp at this
    simp [V0]
    omega
  · have := hw.lt j s
    have := hT j t
    omega
  · rcases s with s | s
    · exact hS j s
    · have := hT j s; omega
theorem full0 {w : World} {A : Ad} {b u t q y : Int} {S : Nat → Prop} (h : Wd w A (V0 ⟨b, u, t, q, y⟩) S) (h1 : 1 ≤ u) (h2 : u ≤ 65536) :
    Calls Try.prog 21 #[.pointer (some ⟨A.p, 0, none⟩)] w fun e w' => e = .returned (.bool false) ∧ Below w.heap.size w w' := by
  have hf := wfull h (by show 0 ≤ u; omega) (by show u ≤ 9223372036854775807; omega)
  have e : decide ((V0 ⟨b, u, t, q, y⟩).c.budget ≤ (V0 ⟨b, u, t, q, y⟩).f 6) = false := by
    refine decide_eq_false ?_
    show ¬ u ≤ one 2 b 6
    rw [show one 2 b 6 = 0 from upd_other (by decide)]
    omega
  rw [e] at hf
  exact hf
set_option maxHeartbeats 4000000 in
set_option maxRecDepth 100000 in
theorem walk_WorldsNew (a0_0 : Int) (a0_1 : Int) (a0_2 : Int) (a0_3 : Int) (a0_4 : Int) (w : World) (w0_0 : (Lit.int .i64 a0_0).wf = true) (w0_1 : (Lit.int .i64 a0_1).wf = true) (w0_2 : (Lit.int .i64 a0_2).wf = true) (w0_3 : (Lit.int .i64 a0_3).wf = true) (w0_4 : (Lit.int .i64 a0_4).wf = true) :
    Calls Try.prog 3 #[.agg #[.int .i64 a0_0, .int .i64 a0_1, .int .i64 a0_2, .int .i64 a0_3, .int .i64 a0_4]] w fun e w' => e = .returned (.bool true) ∧ Below w.heap.size w w' := by
  clear w0_0 w0_1 w0_2 w0_3 w0_4
  have CM := Lib.hid (fun X => wmay a0_0 a0_1 a0_2 a0_3 a0_4 X)
  have CN := Lib.hid (fun X => rmay10 a0_0 a0_1 a0_2 a0_3 a0_4 X)
  have CO := Lib.hid (fun X => other10 a0_0 a0_1 a0_2 a0_3 a0_4 X)
  obtain ⟨Q, hQ⟩ : ∃ Q, Q = w.heap.size := ⟨_, rfl⟩
  have HQ := Lib.hid hQ
  clear hQ
  cases hm : mayc a0_0 a0_1 a0_2 a0_3 a0_4 with
  | false =>
    rw [hm] at CM CN
    have CW := Lib.hid (fun X => newW_no a0_0 a0_1 a0_2 a0_3 a0_4 X hm)
    have CR := Lib.hid (fun X => newR_no a0_0 a0_1 a0_2 a0_3 a0_4 X hm)
    clear hm
    go_enter Try.func3, Try.ntmps3
    go_wp2_with fail
    generalize hW : w.alloc _ = W
    have bW : Below w.heap.size w W := by rw [← hW]; exact (Below.refl _ _).alloc (Nat.le_refl _) _
    have e0 : W.cell? ⟨w.heap.size, 0, none⟩ = some (.int .i64 a0_0) := by rw [← hW]; simp
    have e1 : W.cell? ⟨w.heap.size, 1, none⟩ = some (.int .i64 a0_1) := by rw [← hW]; simp
    have e2 : W.cell? ⟨w.heap.size, 2, none⟩ = some (.int .i64 a0_2) := by rw [← hW]; simp
    have e3 : W.cell? ⟨w.heap.size, 3, none⟩ = some (.int .i64 a0_3) := by rw [← hW]; simp
    have e4 : W.cell? ⟨w.heap.size, 4, none⟩ = some (.int .i64 a0_4) := by rw [← hW]; simp
    rw [show w.heap.size = Q from HQ.out.symm]
    rw [show w.heap.size = Q from HQ.out.symm] at e0 e1 e2 e3 e4
    have KEEP : Hid (∀ X, Below W.heap.size W X → X.cell? ⟨Q, 0, none⟩ = some (.int .i64 a0_0) ∧ X.cell? ⟨Q, 1, none⟩ = some (.int .i64 a0_1) ∧ X.cell? ⟨Q, 2, none⟩ = some (.int .i64 a0_2) ∧ X.cell? ⟨Q, 3, none⟩ = some (.int .i64 a0_3) ∧ X.cell? ⟨Q, 4, none⟩ = some (.int .i64 a0_4)) := Lib.hid (fun X hb =>
      ⟨(hb.cell (p := ⟨Q, 0, none⟩) (World.block_lt_of_cell? _ _ e0)).trans e0, (hb.cell (p := ⟨Q, 1, none⟩) (World.block_lt_of_cell? _ _ e1)).trans e1, (hb.cell (p := ⟨Q, 2, none⟩) (World.block_lt_of_cell? _ _ e2)).trans e2, (hb.cell (p := ⟨Q, 3, none⟩) (World.block_lt_of_cell? _ _ e3)).trans e3, (hb.cell (p := ⟨Q, 4, none⟩) (World.block_lt_of_cell? _ _ e4)).trans e4⟩)
    have HBW := Lib.hid bW
    clear hW bW
    go_wp2_with (first
      | (go_at_call 12; ((with_reducible refine (CW.out _).mono ?_); rintro e w2 ⟨rfl, hk2⟩; have hb2 := hk2; clear hk2 e0 e1 e2 e3 e4; obtain ⟨e0, e1, e2, e3, e4⟩ := KEEP.out _ hb2))
      | (go_at_call 14; ((with_reducible refine (CO.out _).mono ?_); rintro e w3 ⟨rfl, hk3⟩; have hb3 : Below W.heap.size W w3 := below_then hb2 hk3; clear hk3))
      | (go_at_call 13; ((with_reducible refine (CR.out _).mono ?_); rintro e w4 ⟨rfl, hk4⟩; have hb4 : Below W.heap.size W w4 := below_then hb3 hk4; clear hk4 hb3 hb2 e0 e1 e2 e3 e4)))
    have hb5 : Below W.heap.size W w4.drew := hb4.drew
    go_region_held3 (fun X => X.cell? ⟨Q, 0, none⟩ = some (.int .i64 a0_0) ∧ X.cell? ⟨Q, 1, none⟩ = some (.int .i64 a0_1) ∧ X.cell? ⟨Q, 2, none⟩ = some (.int .i64 a0_2) ∧ X.cell? ⟨Q, 3, none⟩ = some (.int .i64 a0_3) ∧ X.cell? ⟨Q, 4, none⟩ = some (.int .i64 a0_4))
      (first | exact KEEP.out _ (by assumption))
      (first
        | (go_at_call 15; ((with_reducible refine (CM.out _).mono ?_); rintro e w6 ⟨rfl, hk6⟩; have hb6 : Below W.heap.size W w6 := below_then hb5 hk6; clear hk6))
        | (go_at_call 14; ((with_reducible refine (CO.out _).mono ?_); rintro e w7 ⟨rfl, hk7⟩; have hb7 : Below W.heap.size W w7 := below_then hb6 hk7; clear hk7))
        | (go_at_call 16; ((with_reducible refine (CN.out _).mono ?_); rintro e w8 ⟨rfl, hk8⟩; have hb8 : Below W.heap.size W w8 := below_then hb7 hk8; clear hk8)))
    all_goals
      have HB8 := Lib.hid (below_then HBW.out hb8)
      clear hb4 hb5 hb6 hb7 hb8
      go_wp2_with (go_at_call 17; refine (lives10 _).mono ?_; rintro e w9 ⟨rfl, hk9⟩)
      go_ret
      exact ⟨rfl, below_then HB8.out hk9⟩
  | true =>
    rw [hm] at CM CN
    have hb1 : (1 ≤ a0_0 ∧ a0_0 ≤ 12) ∧ 1 ≤ a0_1 ∧ a0_1 ≤ 65536 := by
      have := of_decide_eq_true (show decide _ = true from hm)
      omega
    obtain ⟨hbits, hu1, hu2⟩ := hb1
    have CW := Lib.hid (fun X => newW a0_0 a0_1 a0_2 a0_3 a0_4 X hm)
    have CR := Lib.hid (fun X => newR a0_0 a0_1 a0_2 a0_3 a0_4 X hm)
    have HBT := Lib.hid hbits
    clear hm hbits
    go_enter Try.func3, Try.ntmps3
    go_wp2_with fail
    generalize hW : w.alloc _ = W
    have bW : Below w.heap.size w W := by rw [← hW]; exact (Below.refl _ _).alloc (Nat.le_refl _) _
    have e0 : W.cell? ⟨w.heap.size, 0, none⟩ = some (.int .i64 a0_0) := by rw [← hW]; simp
    have e1 : W.cell? ⟨w.heap.size, 1, none⟩ = some (.int .i64 a0_1) := by rw [← hW]; simp
    have e2 : W.cell? ⟨w.heap.size, 2, none⟩ = some (.int .i64 a0_2) := by rw [← hW]; simp
    have e3 : W.cell? ⟨w.heap.size, 3, none⟩ = some (.int .i64 a0_3) := by rw [← hW]; simp
    have e4 : W.cell? ⟨w.heap.size, 4, none⟩ = some (.int .i64 a0_4) := by rw [← hW]; simp
    rw [show w.heap.size = Q from HQ.out.symm]
    rw [show w.heap.size = Q from HQ.out.symm] at e0 e1 e2 e3 e4
    have KEEP : Hid (∀ X, Below W.heap.size W X → X.cell? ⟨Q, 0, none⟩ = some (.int .i64 a0_0) ∧ X.cell? ⟨Q, 1, none⟩ = some (.int .i64 a0_1) ∧ X.cell? ⟨Q, 2, none⟩ = some (.int .i64 a0_2) ∧ X.cell? ⟨Q, 3, none⟩ = some (.int .i64 a0_3) ∧ X.cell? ⟨Q, 4, none⟩ = some (.int .i64 a0_4)) := Lib.hid (fun X hb =>
      ⟨(hb.cell (p := ⟨Q, 0, none⟩) (World.block_lt_of_cell? _ _ e0)).trans e0, (hb.cell (p := ⟨Q, 1, none⟩) (World.block_lt_of_cell? _ _ e1)).trans e1, (hb.cell (p := ⟨Q, 2, none⟩) (World.block_lt_of_cell? _ _ e2)).trans e2, (hb.cell (p := ⟨Q, 3, none⟩) (World.block_lt_of_cell? _ _ e3)).trans e3, (hb.cell (p := ⟨Q, 4, none⟩) (World.block_lt_of_cell? _ _ e4)).trans e4⟩)
    have HBW := Lib.hid bW
    clear hW bW
    go_wp2_with (first
      | (go_at_call 12; ((with_reducible refine (CW.out _).mono ?_); rintro e w2 ⟨A, rfl, hwd, hk2⟩; have hb2 := hk2; have HWD := Lib.hid hwd; clear hk2 hwd e0 e1 e2 e3 e4; obtain ⟨e0, e1, e2, e3, e4⟩ := KEEP.out _ hb2))
      | (go_at_call 14; ((with_reducible refine (CO.out _).mono ?_); rintro e w3 ⟨rfl, hk3⟩; have hb3 : Below W.heap.size W w3 := below_then hb2 hk3; have HK3 := Lib.hid hk3; clear hk3))
      | (go_at_call 13; ((with_reducible refine (CR.out _).mono ?_); intro e w4 hnr; obtain ⟨R, S, T, rfl, hpw, hST, hk4⟩ := pw_made HBT.out HWD.out HK3.out hb2.size hnr; have hb4 : Below W.heap.size W w4 := below_then hb3 hk4; have HPW := Lib.hid hpw; clear hk4 hb3 hb2 e0 e1 e2 e3 e4 hnr hpw hST)))
    have hb5 : Below W.heap.size W w4.drew := hb4.drew
    have hc5 : Below w4.heap.size w4 w4.drew := (Below.refl _ _).drew
    go_region_held3 (fun X => X.cell? ⟨Q, 0, none⟩ = some (.int .i64 a0_0) ∧ X.cell? ⟨Q, 1, none⟩ = some (.int .i64 a0_1) ∧ X.cell? ⟨Q, 2, none⟩ = some (.int .i64 a0_2) ∧ X.cell? ⟨Q, 3, none⟩ = some (.int .i64 a0_3) ∧ X.cell? ⟨Q, 4, none⟩ = some (.int .i64 a0_4))
      (first | exact KEEP.out _ (by assumption))
      (first
        | (go_at_call 15; ((with_reducible refine (CM.out _).mono ?_); rintro e w6 ⟨rfl, hk6⟩; have hb6 : Below W.heap.size W w6 := below_then hb5 hk6; have hc6 := below_then hc5 hk6; clear hk6))
        | (go_at_call 14; ((with_reducible refine (CO.out _).mono ?_); rintro e w7 ⟨rfl, hk7⟩; have hb7 : Below W.heap.size W w7 := below_then hb6 hk7; have hc7 := below_then hc6 hk7; clear hk7))
        | (go_at_call 16; ((with_reducible refine (CN.out _).mono ?_); rintro e w8 ⟨rfl, hk8⟩; have hb8 : Below W.heap.size W w8 := below_then hb7 hk8; have hc8 := below_then hc7 hk8; clear hk8)))
    have HB8 := Lib.hid (below_then HBW.out hb8)
    have PP : Hid (∀ X, Below w8.heap.size w8 X → Pw X A R (V0 ⟨a0_0, a0_1, a0_2, a0_3, a0_4⟩) S T) := Lib.hid (fun X hb => HPW.out.new (below_then hc8 hb))
    have KEEP2 : Hid (∀ X, Below w8.heap.size w8 X → X.cell? ⟨Q, 0, none⟩ = some (.int .i64 a0_0) ∧ X.cell? ⟨Q, 1, none⟩ = some (.int .i64 a0_1) ∧ X.cell? ⟨Q, 2, none⟩ = some (.int .i64 a0_2) ∧ X.cell? ⟨Q, 3, none⟩ = some (.int .i64 a0_3) ∧ X.cell? ⟨Q, 4, none⟩ = some (.int .i64 a0_4) ∧ X.cell? ⟨A.p, 3, none⟩ = some (.int .i64 a0_0) ∧ X.cell? ⟨A.p, 4, none⟩ = some (.int .i64 a0_1) ∧ X.cell? ⟨A.p, 5, none⟩ = some (.int .i64 a0_2) ∧ X.cell? ⟨A.p, 6, none⟩ = some (.int .i64 a0_3) ∧ X.cell? ⟨A.p, 7, none⟩ = some (.int .i64 a0_4)) := Lib.hid (fun X hb => by
      obtain ⟨g0, g1, g2, g3, g4⟩ := KEEP.out X (below_then hb8 hb)
      have bx := (PP.out X hb).a.box
      exact ⟨g0, g1, g2, g3, g4, bx.c3, bx.c4, bx.c5, bx.c6, bx.c7⟩)
    clear hb4 hb5 hb6 hb7 hb8 hc5 hc6 hc7 hc8 KEEP HPW HWD HK3
    have hd0 : Below w8.heap.size w8 w8.drew := (Below.refl _ _).drew
    go_wp2_with fail
    go_region_held3 (fun X => X.cell? ⟨Q, 0, none⟩ = some (.int .i64 a0_0) ∧ X.cell? ⟨Q, 1, none⟩ = some (.int .i64 a0_1) ∧ X.cell? ⟨Q, 2, none⟩ = some (.int .i64 a0_2) ∧ X.cell? ⟨Q, 3, none⟩ = some (.int .i64 a0_3) ∧ X.cell? ⟨Q, 4, none⟩ = some (.int .i64 a0_4) ∧ X.cell? ⟨A.p, 3, none⟩ = some (.int .i64 a0_0) ∧ X.cell? ⟨A.p, 4, none⟩ = some (.int .i64 a0_1) ∧ X.cell? ⟨A.p, 5, none⟩ = some (.int .i64 a0_2) ∧ X.cell? ⟨A.p, 6, none⟩ = some (.int .i64 a0_3) ∧ X.cell? ⟨A.p, 7, none⟩ = some (.int .i64 a0_4))
      (first | exact KEEP2.out _ (by assumption))
      (first
        | (go_at_call 18; refine (pw_all (PP.out _ hd0) rfl (by simp [V0]) (by simp [V0])).mono ?_; rintro e w10 ⟨rfl, hk10⟩; have hd1 : Below w8.heap.size w8 w10 := below_then hd0 hk10; clear hk10)
        | (go_at_call 19; refine (wgrows (PP.out _ hd1).a).mono ?_; rintro e w11 ⟨rfl, hk11⟩; have hd2 : Below w8.heap.size w8 w11 := below_then hd1 hk11; clear hk11)
        | (go_at_call 20; refine (pw_rgrows (PP.out _ hd2)).mono ?_; rintro e w12 ⟨rfl, hk12⟩; have hd3 : Below w8.heap.size w8 w12 := below_then hd2 hk12; clear hk12)
        | (go_at_call 21; refine (full0 (PP.out _ hd3).a hu1 hu2).mono ?_; rintro e w13 ⟨rfl, hk13⟩; have hd4 : Below w8.heap.size w8 w13 := below_then hd3 hk13; clear hk13)
        | (go_at_call 17; refine (lives10 _).mono ?_; rintro e w14 ⟨rfl, hk14⟩; have hd5 : Below w8.heap.size w8 w14 := below_then hd4 hk14; clear hk14))
    all_goals
      have HD5 := Lib.hid (below_then HB8.out hd5)
      clear hd0 hd1 hd2 hd3 hd4 hd5
      go_wp2_with fail
      go_ret
      exact ⟨rfl, HD5.out⟩
end Go.Proofs.Ytmdofhdjikapgaa
