/- A pair of worlds with notes: SameAll. -/
import Derived.Test.YthlebfiedejhhaaGreatPwA
import Derived.Test.YthlebfiedejhhaaGreatNlA
import Derived.Deep.Cut
namespace Go.Proofs.YthlebfiedejhhaaGreat
open Go.RowKit Go.Maps
set_option linter.unusedVariables false
section
variable {w : World} {A R : Ad} {V : Wv} {S T : Nat → Prop}
theorem rows_len {α : Type} {M : List α} {i : Nat} {x : α} (h : M[i]? = some x) : ∃ hi : i < M.length, M[i] = x := by
  rcases Nat.lt_or_ge i M.length with hi | hi
  · exact ⟨hi, by rw [List.getElem?_eq_getElem hi] at h; injection h⟩
  · rw [List.getElem?_eq_none hi] at h; simp at h
/-- All the notes of the program's list, as they are handed back. -/
theorem pw_notesn (h : Pw w A R V S T) {n : Nat} (hn : n = V.M.length) (h0 : 0 < n) (hM : n ≤ 1000) : Calls Tryz.prog 66 #[.pointer (some ⟨A.pn, 0, none⟩)] w fun e w' => ∃ g cap, e = .returned (.slice (some ⟨g, 0, none⟩) n cap) ∧ n ≤ cap ∧ (∀ X, Below w'.heap.size w' X → ∀ i x, V.M[i]? = some x → ∀ j v, j < 8 → x.cells[j]? = some v → X.cell? ⟨g, i * 8 + j, none⟩ = some v) ∧ Below w.heap.size w w' := by
  subst hn
  obtain ⟨n, SC, SI, SN, ha⟩ := h.a
  refine (allT w A.pn V.M ha.nt (by omega)).mono ?_
  rintro e w' ⟨v, rfl, ⟨hl, ⟨-, e0⟩ | ⟨g, cap, rfl, hB, hg, hnc, hcm, hx⟩⟩, hb⟩
  · omega
  · refine ⟨g, cap, rfl, hnc, fun X hbx i x hi j u hj hu => ?_, hb⟩
    obtain ⟨hi', rfl⟩ := rows_len hi
    have := hx (i * 8 + j) u ((rowsN_at V.M i j hi' hj).trans hu)
    exact (hbx.cell (p := ⟨g, i * 8 + j, none⟩) hg).trans this.1
/-- The chapter's notes, as they lie. -/
theorem pw_rows (h : Pw w A R V S T) {n : Nat} (hn : n = V.M.length) (h0 : 0 < n) : ∃ g cap, n ≤ cap ∧ ∀ X, Below w.heap.size w X → X.cell? ⟨R.pn, 0, none⟩ = some (.slice (some ⟨g, 0, none⟩) n cap) ∧ ∀ i x, V.M[i]? = some x → ∀ j v, j < 8 → x.rcells[j]? = some v → X.cell? ⟨g, i * 8 + j, none⟩ = some v := by
  subst hn
  obtain ⟨L, ⟨TC, TI, TN, r⟩, -⟩ := h.r
  obtain ⟨v, hv⟩ := r.nt
  obtain ⟨hl, ⟨-, e0⟩ | ⟨g, cap, rfl, hB, hg, hnc, hcm, hx⟩⟩ := Lst.of_own hv.row
  · omega
  · have hp := hv.c0
    refine ⟨g, cap, hnc, fun X hb => ⟨(hb.cell (p := ⟨R.pn, 0, none⟩) (World.block_lt_of_cell? _ _ hp)).trans hp, fun i x hi j u hj hu => ?_⟩⟩
    obtain ⟨hi', rfl⟩ := rows_len hi
    have := hx (i * 8 + j) u ((rowsR_at V.M i j hi' hj).trans hu)
    exact (hb.cell (p := ⟨g, i * 8 + j, none⟩) hg).trans this.1
set_option maxHeartbeats 4000000 in
set_option maxRecDepth 100000 in
theorem pw_alln (h : Pw w A R V S T) {n : Nat} (hn : n = V.M.length) (h0 : 0 < n) (hM : n ≤ 1000) (hK : ∀ x, x ∈ V.M → 0 ≤ x.k ∧ x.k ≤ 255) (hI : V.I.length ≤ 300) (hc : V.cnt ≤ 1000000) :
    Calls Tryz.prog 13 #[.agg #[.pointer (some ⟨A.p, 0, none⟩), .pointer (some ⟨R.p, 0, none⟩)]] w fun e w' => e = .returned (.bool true) ∧ Below w.heap.size w w' := by
  obtain ⟨B, hB⟩ : ∃ B, B = w.heap.size := ⟨_, rfl⟩
  obtain ⟨m, hm⟩ : ∃ m, m = V.I.length := ⟨_, rfl⟩
  have hm3 : m ≤ 300 := by omega
  have HH : Hid (∀ X, Below w.heap.size w X → Pw X A R V S T) := Lib.hid (fun X hb => h.new hb)
  obtain ⟨ga, gc, hf⟩ := pw_facts h
  have HF := Lib.hid hf
  obtain ⟨gr, cr, hcr, hrows⟩ := pw_rows h hn h0
  have HRW := Lib.hid hrows
  have HN := Lib.hid (And.intro hn (And.intro h0 (And.intro hM hcr)))
  have HKK := Lib.hid hK
  have HI := Lib.hid hI
  have HB := Lib.hid hB
  have HMM := Lib.hid hm
  clear h hf hM hI hB hm hn h0 hcr hrows hK
  go_enter Tryz.func13, Tryz.ntmps13
  go_wp2_with fail
  generalize hW : w.alloc _ = W
  have bW : Below w.heap.size w W := by rw [← hW]; exact (Below.refl _ _).alloc (Nat.le_refl _) _
  have e0 : W.cell? ⟨w.heap.size, 0, none⟩ = some (.pointer (some ⟨A.p, 0, none⟩)) := by rw [← hW]; simp
  have e1 : W.cell? ⟨w.heap.size, 1, none⟩ = some (.pointer (some ⟨R.p, 0, none⟩)) := by rw [← hW]; simp
  rw [show w.heap.size = B from HB.out.symm]
  rw [show w.heap.size = B from HB.out.symm] at e0 e1
  have KEEP : Hid (∀ X, Below W.heap.size W X → (X.cell? ⟨B, 0, none⟩ = some (.pointer (some ⟨A.p, 0, none⟩)) ∧ X.cell? ⟨B, 1, none⟩ = some (.pointer (some ⟨R.p, 0, none⟩)) ∧ X.cell? ⟨A.p, 0, none⟩ = some (.pointer (some ⟨A.pc, 0, none⟩)) ∧ X.cell? ⟨R.p, 0, none⟩ = some (.pointer (some ⟨R.pc, 0, none⟩)) ∧ X.cell? ⟨A.p, 1, none⟩ = some (.pointer (some ⟨A.pi, 0, none⟩)) ∧ X.cell? ⟨R.p, 1, none⟩ = some (.pointer (some ⟨R.pi, 0, none⟩)) ∧ X.cell? ⟨A.p, 2, none⟩ = some (.pointer (some ⟨A.pn, 0, none⟩)) ∧ X.cell? ⟨R.p, 2, none⟩ = some (.pointer (some ⟨R.pn, 0, none⟩)) ∧ X.cell? ⟨R.pn, 0, none⟩ = some (.slice (some ⟨gr, 0, none⟩) n cr))) := Lib.hid (fun X hb => by
    obtain ⟨a0, a1, a2, a72, r0, r1, r2, r72, c2, c3, c4, c5, n0, t1, t2⟩ := HF.out X (below_then bW hb)
    replace n0 := (HRW.out X (below_then bW hb)).1
    exact ⟨(hb.cell (p := ⟨B, 0, none⟩) (World.block_lt_of_cell? _ _ e0)).trans e0, (hb.cell (p := ⟨B, 1, none⟩) (World.block_lt_of_cell? _ _ e1)).trans e1, a0, r0, a1, r1, a2, r2, n0⟩)
  have PP : Hid (∀ X, Below W.heap.size W X → Pw X A R V S T) := Lib.hid (fun X hb => HH.out X (below_then bW hb))
  have HBW := Lib.hid bW
  have hb0 : Below W.heap.size W W.drew := (Below.refl _ _).drew
  have C1 := Lib.hid (pw_same (PP.out _ hb0) (by rw [← HN.out.1]; have := HN.out.2.2.1; omega))
  clear hW bW e0 e1 HH HF
  obtain ⟨f0, f1, f2, f3, f4, f5, f6, f7, f8⟩ := KEEP.out _ hb0
  clear f4 f5 f6 f7 f8
  go_region_held3 (fun w' => w'.cell? ⟨B, 0, none⟩ = some (.pointer (some ⟨A.p, 0, none⟩)) ∧ w'.cell? ⟨B, 1, none⟩ = some (.pointer (some ⟨R.p, 0, none⟩)) ∧ w'.cell? ⟨A.p, 0, none⟩ = some (.pointer (some ⟨A.pc, 0, none⟩)) ∧ w'.cell? ⟨R.p, 0, none⟩ = some (.pointer (some ⟨R.pc, 0, none⟩)))
    (first | exact ⟨by assumption, by assumption, by assumption, by assumption⟩)
    (first
      | (go_at_call 15; ((with_reducible refine C1.out.mono ?_); rintro e w2 ⟨rfl, hk2⟩; have hb2 : Below W.heap.size W w2 := hb0.trans hk2; have C2 := Lib.hid (pw_cells (PP.out _ hb2) hc); clear hk2 f0 f1 f2 f3; obtain ⟨f0, f1, f2, f3, f4, f5, f6, f7, f8⟩ := KEEP.out _ hb2; clear f4 f5 f6 f7 f8))
      | (go_at_call 65; ((with_reducible refine C2.out.mono ?_); rintro e w3 ⟨rfl, hk3⟩; have hb3 : Below W.heap.size W w3 := below_then hb2 hk3; clear hk3 f0 f1 f2 f3; obtain ⟨f0, f1, f2, f3, f4, f5, f6, f7, f8⟩ := KEEP.out _ hb3)))
  have C3 := Lib.hid (pw_notesn (PP.out _ hb3) HN.out.1 HN.out.2.1 HN.out.2.2.1)
  clear hb0 hb2 f4 f5 C1 C2
  go_wp2_with (go_at_call 66; ((with_reducible refine C3.out.mono ?_); rintro e w4 ⟨g, cap, rfl, hnc, hnl, hk4⟩; have HNC := Lib.hid hnc; have HNL := Lib.hid hnl; clear hnc hnl; have hb4 : Below W.heap.size W w4 := below_then hb3 hk4; clear hk4 hb3 f0 f1 f2 f3 f6 f7 f8 C3; obtain ⟨f0, f1, f2, f3, f4, f5, f6, f7, f8⟩ := KEEP.out _ hb4))
  go_wp2_with fail
  clear f0 f1 f2 f3 f4 f5 f6 f7 f8
  have HB4 := Lib.hid hb4
  clear hb4
  go_loopw [4] (fun i X => ∃ k : Nat, k ≤ n ∧ i = .int .i64 k ∧ Below w4.heap.size w4 X) (fun i _ => n - (intOf i).toNat)
  case atStart => exact ⟨0, Nat.zero_le _, rfl, Below.refl _ _⟩
  case round =>
  obtain ⟨k, hk, rfl, hb⟩ := hrel
  by_cases hlt : k < n
  · have hbw : Below W.heap.size W wr := below_then HB4.out hb
    obtain ⟨f0, f1, f2, f3, f4, f5, f6, f7, f8⟩ := KEEP.out _ hbw
    obtain ⟨⟨s, th, kd, r, b, c, d, v⟩, hx⟩ : ∃ x, V.M[k]? = some x := ⟨_, List.getElem?_eq_getElem (by have := HN.out.1; omega)⟩
    have hkd : 0 ≤ kd ∧ kd ≤ 255 := HKK.out _ (List.mem_of_getElem? hx)
    have hrw := fun j u hj hu => (HRW.out wr (below_then HBW.out hbw)).2 k _ hx j u hj hu
    have d0 : wr.cell? ⟨gr, k * 8, none⟩ = some (.int .i64 s) := hrw 0 _ (by decide) rfl
    have d1 := hrw 1 _ (by decide) rfl
    have d2 := hrw 2 _ (by decide) rfl
    have d3 := hrw 3 _ (by decide) rfl
    have d4 := hrw 4 _ (by decide) rfl
    have d5 := hrw 5 _ (by decide) rfl
    have d6 := hrw 6 _ (by decide) rfl
    have d7 := hrw 7 _ (by decide) rfl
    have hcr : k < cr := by have := HN.out.2.2.2; omega
    have hcp : k < cap := by have := HNC.out; omega
    have j0 : (0 : Int) ≤ (k : Int) := by omega
    have j1 : (k : Int) < (n : Int) := by omega
    have HB := Lib.hid hb
    have HX := Lib.hid hx
    have HKD := Lib.hid hkd
    obtain ⟨Q, hQ⟩ : ∃ Q, Q = wr.heap.size := ⟨_, rfl⟩
    clear hrw hx hb hbw hkd f0 f2 f3 f4 f5 f6
    go_upto_region 10 with (fail)
    generalize hW5 : World.alloc wr _ = W5
    rw [← hQ]
    have hb5 : Below wr.heap.size wr W5 := by rw [← hW5]; exact (Below.refl _ _).alloc (Nat.le_refl _) _
    have q0 : W5.cell? ⟨Q, 0, none⟩ = some (.int .i64 s) := by rw [← hW5, hQ]; simp
    have q1 : W5.cell? ⟨Q, 1, none⟩ = some (.int .i64 th) := by rw [← hW5, hQ]; simp
    have q2 : W5.cell? ⟨Q, 2, none⟩ = some (.int .i64 kd) := by rw [← hW5, hQ]; simp
    have q3 : W5.cell? ⟨Q, 3, none⟩ = some (.int .i64 r) := by rw [← hW5, hQ]; simp
    have q4 : W5.cell? ⟨Q, 4, none⟩ = some (.int .i64 b) := by rw [← hW5, hQ]; simp
    have q5 : W5.cell? ⟨Q, 5, none⟩ = some (.int .i64 c) := by rw [← hW5, hQ]; simp
    have q6 : W5.cell? ⟨Q, 6, none⟩ = some (.int .i64 d) := by rw [← hW5, hQ]; simp
    have q7 : W5.cell? ⟨Q, 7, none⟩ = some (.int .i64 v) := by rw [← hW5, hQ]; simp
    have hnl := fun j u hj hu => HNL.out W5 (below_then HB.out hb5) k _ HX.out j u hj hu
    clear d0 d1 d2 d3 d4 d5 d6 d7 f1 f7 f8
    have d0 : W5.cell? ⟨g, k * 8, none⟩ = some (.int .i64 s) := hnl 0 _ (by decide) rfl
    have d1 := hnl 1 _ (by decide) rfl
    have d2 := hnl 2 _ (by decide) rfl
    have d3 := hnl 3 _ (by decide) rfl
    have d4 := hnl 4 _ (by decide) rfl
    have d5 := hnl 5 _ (by decide) rfl
    have d6 := hnl 6 _ (by decide) rfl
    have d7 := hnl 7 _ (by decide) rfl
    have mk : IntKind.i64.wrap kd = kd := IntWalk.i64_in _ (by have := HKD.out; omega)
    have n0 : (s != s) = false := by simp
    have n1 : (th != th) = false := by simp
    have n2 : (kd != kd) = false := by simp
    have n3 : (r != r) = false := by simp
    have n7 : (v != v) = false := by simp
    have hk1000 : k < 1000 := by have := HN.out.2.2.1; omega
    clear hnl hW5 hQ hcr
    go_quiet (fail)
    clear d0 d1 d2 d3 d4 d5 d6 d7 q0 q1 q2 q3 q4 q5 q6 q7 mk n0 n1 n2 n3 n7
    go_wp2_with fail
    go_roundw
    case rel => exact ⟨k + 1, by omega, by go_num, belowNd (below_then HB.out hb5) _⟩
    case measure => simp [intOf]; omega
  · obtain rfl : n = k := by omega
    have hb4 : Below W.heap.size W wr := below_then HB4.out hb
    clear hb
    go_wp2_with fail
    go_loopw [6] (fun i X => ∃ k : Nat, k ≤ m + 2 ∧ i = .int .i64 k ∧ Below W.heap.size W X) (fun i _ => m + 2 - (intOf i).toNat)
    case atStart => exact ⟨0, Nat.zero_le _, rfl, hb4⟩
    case round =>
      obtain ⟨k, hk, rfl, hb⟩ := hrel
      clear hb4
      have HBX := Lib.hid hb
      have CC := Lib.hid (pw_rcount (PP.out _ hb) (z := m) (by have := HMM.out; omega))
      obtain ⟨f0, f1, f2, f3, f4, f5, f6, f7, f8⟩ := KEEP.out _ hb
      have hw1 : IntKind.i64.wrap ((m : Int) + 1) = (m : Int) + 1 := IntWalk.i64_in _ (by omega)
      by_cases hlt : k ≤ m + 1
      · have hd : decide ((k : Int) ≤ (m : Int) + 1) = true := decide_eq_true (by omega)
        obtain ⟨xk, xv, x2, x3, x4, x5, b, hA1, hB1⟩ := pw_ats (PP.out _ hb) HI.out (k : Int)
        have CA := Lib.hid hA1
        have CB := Lib.hid hB1
        clear hA1 hB1 hb
        go_wp2_with (first
          | (go_at_call 67; ((with_reducible refine CC.out.mono ?_); rintro e w5 ⟨rfl, rfl⟩))
          | (go_at_call 68; ((with_reducible refine CA.out.mono ?_); rintro e w6 ⟨rfl, hk6⟩; have hb6 : Below W.heap.size W w6 := below_then HBX.out hk6; have G := fun o => KEEP.out (w6.alloc o) (hb6.alloc hb6.size o); have g1 := fun o => (G o).2.1; have g5 := fun o => (G o).2.2.2.2.2.1; clear G f0 f1 f2 f3 f4 f5 f6 f7 f8)))
        generalize hX : World.alloc _ _ = X
        have kx : Below wr.heap.size wr X := by rw [← hX]; exact hk6.alloc (by have := hk6.size; omega) _
        have sx : w6.heap.size < X.heap.size := by rw [← hX]; simp
        have e0 : X.cell? ⟨w6.heap.size, 0, none⟩ = some (.string xk) := by rw [← hX]; simp
        have e1 : X.cell? ⟨w6.heap.size, 1, none⟩ = some (.string xv) := by rw [← hX]; simp
        have e2 : X.cell? ⟨w6.heap.size, 2, none⟩ = some (.int .u32 x2) := by rw [← hX]; simp
        have e3 : X.cell? ⟨w6.heap.size, 3, none⟩ = some (.int .u64 x3) := by rw [← hX]; simp
        have e4 : X.cell? ⟨w6.heap.size, 4, none⟩ = some (.int .i64 x4) := by rw [← hX]; simp
        have e5 : X.cell? ⟨w6.heap.size, 5, none⟩ = some (.int .i64 x5) := by rw [← hX]; simp
        clear hX g1 g5 hk6 CA CC
        refine (CB.out _ kx).mono ?_
        rintro e w7 ⟨rfl, k7⟩
        replace e0 := (k7.cell (p := ⟨w6.heap.size, 0, none⟩) sx).trans e0
        replace e1 := (k7.cell (p := ⟨w6.heap.size, 1, none⟩) sx).trans e1
        replace e2 := (k7.cell (p := ⟨w6.heap.size, 2, none⟩) sx).trans e2
        replace e3 := (k7.cell (p := ⟨w6.heap.size, 3, none⟩) sx).trans e3
        replace e4 := (k7.cell (p := ⟨w6.heap.size, 4, none⟩) sx).trans e4
        replace e5 := (k7.cell (p := ⟨w6.heap.size, 5, none⟩) sx).trans e5
        have hb7 := below_then (below_then HBX.out kx) k7
        have s7 : w6.heap.size < w7.heap.size := by have := k7.size; omega
        clear CB k7 kx sx hb6
        go_wp2_with fail
        generalize hY : World.alloc _ _ = Y
        have hbY : Below W.heap.size W Y := by rw [← hY]; exact hb7.alloc hb7.size _
        clear hY
        exact ⟨⟨k + 1, by omega, by go_num, hbY⟩, by simp [intOf]; omega⟩
      · obtain rfl : k = m + 2 := by omega
        have hd : decide (((m + 2 : Nat) : Int) ≤ (m : Int) + 1) = false := decide_eq_false (by omega)
        clear hb
        go_wp2_with (first
          | (go_at_call 67; ((with_reducible refine CC.out.mono ?_); rintro e w5 ⟨rfl, rfl⟩)))
        go_ret
        exact ⟨rfl, below_then HBW.out HBX.out⟩
/-- SameAll, of whatever notes. -/
theorem pw_alla (h : Pw w A R V S T) (hM : V.M.length ≤ 1000) (hK : ∀ x, x ∈ V.M → 0 ≤ x.k ∧ x.k ≤ 255) (hI : V.I.length ≤ 300) (hc : V.cnt ≤ 1000000) :
    Calls Tryz.prog 13 #[.agg #[.pointer (some ⟨A.p, 0, none⟩), .pointer (some ⟨R.p, 0, none⟩)]] w fun e w' => e = .returned (.bool true) ∧ Below w.heap.size w w' := by
  rcases Nat.eq_zero_or_pos V.M.length with e | e
  · exact pw_all h (List.eq_nil_of_length_eq_zero e) hI hc
  · exact pw_alln h rfl e hM hK hI hc
end
end Go.Proofs.YthlebfiedejhhaaGreat
