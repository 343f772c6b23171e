/- Maps: may an epoch come? -/
import Derived.Test.YtmjklkcjinfmaaaDoorMaQ
namespace Go.Proofs.YtmjklkcjinfmaaaDoor
open Go.RowKit Go.Maps
set_option linter.unusedVariables false
set_option maxHeartbeats 4000000 in
set_option maxRecDepth 100000 in
theorem afterw (E t : Int) (w : World) (h1 : 0 ≤ E) (h2 : E < 18446744073709551616) (t0 : -16777215 ≤ t) (t1 : t ≤ 16777216) :
    Calls Tryd.prog 58 #[.int .u64 E, .int .i64 t] w fun e w' => e = .returned (.int .u64 (after E t)) ∧ Below w.heap.size w w' := by
  obtain ⟨⟨a1, a2⟩, ⟨a3, a4⟩, ⟨a5, a6⟩⟩ := ep_range E
  by_cases ht : t ≤ 0
  · rw [show after E t = E by unfold after; rw [if_pos ht]]
    go_enter Tryd.func58, Tryd.ntmps58
    go_wp2_with fail
    go_ret
    exact ⟨rfl, Below.refl _ _⟩
  · have he : Hid (after E t = if 0 < atf E ∧ atf E ≤ min (nowf E + t) 16777215 then putf (min (nowf E + t) 16777215) 0 (min (genf E + 1) 65535) else putf (min (nowf E + t) 16777215) (atf E) (genf E)) := Lib.hid (by unfold after; rw [if_neg ht])
    obtain ⟨r, hr⟩ : ∃ r, after E t = r := ⟨_, rfl⟩
    rw [hr] at he ⊢
    obtain ⟨n, hn⟩ : ∃ n, nowf E = n := ⟨_, rfl⟩
    obtain ⟨a, ha⟩ : ∃ n, atf E = n := ⟨_, rfl⟩
    obtain ⟨g, hg⟩ : ∃ n, genf E = n := ⟨_, rfl⟩
    rw [hn] at a1 a2 he
    rw [ha] at a3 a4 he
    rw [hg] at a5 a6 he
    have HN := Lib.hid hn
    have HA := Lib.hid ha
    have HG := Lib.hid hg
    clear hr hn ha hg
    have hc : (n + t ≤ 16777215 ∧ ((0 < a ∧ a ≤ n + t ∧ g < 65535) ∨ (0 < a ∧ a ≤ n + t ∧ ¬ g < 65535) ∨ (0 < a ∧ n + t < a) ∨ ¬ 0 < a)) ∨ (16777215 < n + t ∧ ((0 < a ∧ a ≤ 16777215 ∧ g < 65535) ∨ (0 < a ∧ a ≤ 16777215 ∧ ¬ g < 65535) ∨ ¬ 0 < a)) := by omega
    rcases hc with ⟨d, ⟨c1, c2, c3⟩ | ⟨c1, c2, c3⟩ | ⟨c1, c2⟩ | c1⟩ | ⟨d, ⟨c1, c2, c3⟩ | ⟨c1, c2, c3⟩ | c1⟩
    all_goals
      go_enter Tryd.func58, Tryd.ntmps58
      go_wp2_with (first
        | (go_at_call 32; refine (noww _ _ h1 h2).mono ?_; rintro e W1 ⟨rfl, b1⟩; rw [HN.out])
        | (go_at_call 87; refine (atw _ _ h1 h2).mono ?_; rintro e W2 ⟨rfl, b2⟩; rw [HA.out])
        | (go_at_call 31; refine (genw _ _ h1 h2).mono ?_; rintro e W3 ⟨rfl, b3⟩; rw [HG.out])
        | (go_at_call 35; refine (putw _ _ _ _).mono ?_; rintro e W4 ⟨rfl, rfl⟩))
    all_goals go_ret
    all_goals
      refine ⟨ret_u64 ?_, fr_new (fr_new b1 b2) b3⟩
      rw [he.out]
      first
        | rw [if_pos (show 0 < a ∧ a ≤ min (n + t) 16777215 by omega)]
        | rw [if_neg (show ¬ (0 < a ∧ a ≤ min (n + t) 16777215) by omega)]
set_option maxHeartbeats 4000000 in
set_option maxRecDepth 100000 in
theorem maycw (m : Nat) (mv : Option Nat) (S : Mst) (x : Int) (w : World) (h : Bk w m (mapC mv S)) (hE : 0 ≤ S.e ∧ S.e < 18446744073709551616) (hx : 0 ≤ x ∧ x < 18446744073709551616) :
    Calls Tryd.prog 47 #[.pointer (some ⟨m, 0, none⟩), .int .u64 x] w fun e w' => e = .returned (.bool (comes S.e x)) ∧ Below w.heap.size w w' := by
  obtain ⟨e0, e1⟩ := hE
  obtain ⟨x0, x1⟩ := hx
  have H := Lib.hid h
  have c1 := h.at_ 1 _ rfl
  have hlt := h.lt
  clear h
  have hr1 := ep_range S.e
  have hr2 := ep_range x
  obtain ⟨n, hn⟩ : ∃ n, nowf x = n := ⟨_, rfl⟩
  obtain ⟨k, hk⟩ : ∃ n, nowf S.e = n := ⟨_, rfl⟩
  have hd0 : -16777215 ≤ n - k ∧ n - k ≤ 16777215 := by omega
  obtain ⟨d0, d1⟩ := hd0
  unfold comes
  rw [hn, hk]
  obtain ⟨E, hE⟩ : ∃ E, S.e = E := ⟨_, rfl⟩
  rw [hE] at e0 e1 hk ⊢
  unfold mapC at c1
  rw [hE] at c1
  have HN := Lib.hid hn
  have HK := Lib.hid hk
  have H1 := Lib.hid (fun W => afterw E (n - k) W e0 e1 d0 (by omega))
  have H2 := Lib.hid (fun W => afterw E (n - k + 1) W e0 e1 (by omega) (by omega))
  obtain ⟨A1, hA1⟩ : ∃ A, after E (n - k) = A := ⟨_, rfl⟩
  obtain ⟨A2, hA2⟩ : ∃ A, after E (n - k + 1) = A := ⟨_, rfl⟩
  rw [hA1] at H1
  rw [hA2] at H2
  rw [hA1, hA2]
  have HC1 := Lib.hid c1
  clear hn hk hr1 hr2 hE hA1 hA2 c1 H
  have KEEP : Hid (∀ X, Below w.heap.size w X → X.cell? ⟨m, 1, none⟩ = some (.int .u64 E)) := Lib.hid fun X hb => (hb.cell (p := ⟨m, 1, none⟩) hlt).trans HC1.out
  have hd : Below w.heap.size w w.drew := (Below.refl _ _).drew
  cases q1 : (x == A1) with
  | true =>
    go_enter Tryd.func47, Tryd.ntmps47
    go_wp2_with fail
    refine wp_region_held_drew (S := fun X => X.cell? ⟨m, 1, none⟩ = some (.int .u64 E)) (by kernel_rfl) (KEEP.out _ hd) (fun hHeld => ?_)
    refine wpAnyH_take (i := 0) (oi := ({ dst := some 6, op := Op.move (Operand.tmp 1), type := 29, pos := "maps.go:176", after := #[], guard := none })) (v := ?_) rfl (by kernel_rfl) (by kernel_rfl) (by kernel_rfl) (fun _ _ _ h => h) (Or.inl ⟨by rfl, ?_⟩) (by assumption) ?_
    rotate_left 1
    · (intro w9 hSw; (try dsimp only at hSw); go_simp; try with_reducible rfl)
    try simp only [Act.put, List.setIfInBounds_toArray, List.set_cons_zero, List.set_cons_succ]
    refine wpAnyH_take (i := 2) (oi := ({ dst := some 8, op := Op.move (Operand.tmp 0), type := 25, pos := "maps.go:176", after := #[], guard := none })) (v := ?_) rfl (by kernel_rfl) (by kernel_rfl) (by kernel_rfl) (fun _ _ _ h => h) (Or.inl ⟨by rfl, ?_⟩) (by assumption) ?_
    rotate_left 1
    · (intro w9 hSw; (try dsimp only at hSw); go_simp; try with_reducible rfl)
    try simp only [Act.put, List.setIfInBounds_toArray, List.set_cons_zero, List.set_cons_succ]
    refine wpAnyH_take (i := 3) (oi := ({ dst := some 9, op := Op.nilCheck (Operand.tmp 8), type := 0, pos := "maps.go:176", after := #[{ on := 2, ground := Ground.data }], guard := none })) (v := ?_) rfl (by kernel_rfl) (by kernel_rfl) (by kernel_rfl) (fun _ _ _ h => h) (Or.inl ⟨by rfl, ?_⟩) (by assumption) ?_
    rotate_left 1
    · (intro w9 hSw; (try dsimp only at hSw); go_simp; try with_reducible rfl)
    try simp only [Act.put, List.setIfInBounds_toArray, List.set_cons_zero, List.set_cons_succ]
    refine wpAnyH_take (i := 4) (oi := ({ dst := some 10, op := Op.fieldAddr 57 (Operand.tmp 9) 1, type := 0, pos := "maps.go:176", after := #[{ on := 3, ground := Ground.data }], guard := none })) (v := ?_) rfl (by kernel_rfl) (by kernel_rfl) (by kernel_rfl) (fun _ _ _ h => h) (Or.inl ⟨by rfl, ?_⟩) (by assumption) ?_
    rotate_left 1
    · (intro w9 hSw; (try dsimp only at hSw); go_simp; try with_reducible rfl)
    try simp only [Act.put, List.setIfInBounds_toArray, List.set_cons_zero, List.set_cons_succ]
    refine wpAnyH_take (i := 5) (oi := ({ dst := some 11, op := Op.load 29 (Operand.tmp 10), type := 29, pos := "maps.go:176", after := #[{ on := 4, ground := Ground.data }], guard := none })) (v := ?_) rfl (by kernel_rfl) (by kernel_rfl) (by kernel_rfl) (fun _ _ _ h => h) (Or.inl ⟨by rfl, ?_⟩) (by assumption) ?_
    rotate_left 1
    · (intro w9 hSw; (try dsimp only at hSw); go_simp; try with_reducible rfl)
    try simp only [Act.put, List.setIfInBounds_toArray, List.set_cons_zero, List.set_cons_succ]
    refine wpAnyH_ready (rs := [1]) (by kernel_rfl) (by simp) ?_
    refine AllReadyH.cons (o := ({ dst := some 7, op := Op.call { callee := Callee.value (Operand.func 32), args := #[Operand.tmp 6], argTypes := #[29] }, type := 3, pos := "maps.go:176", after := #[{ on := 0, ground := Ground.data }], guard := none })) rfl (fun K hK => ?_) AllReadyH.nil
    go_simp
    refine (noww _ _ x0 x1).mono ?_
    rintro e W1 ⟨rfl, b1⟩
    rw [HN.out]
    have hb1 := fr_new hd b1
    refine hK.out _ _ (KEEP.out _ hb1) (fun hHeld => ?_)
    clear hK K
    try simp only [Act.put, List.setIfInBounds_toArray, List.set_cons_zero, List.set_cons_succ]
    refine wpAnyH_ready (rs := [6]) (by kernel_rfl) (by simp) ?_
    refine AllReadyH.cons (o := ({ dst := some 12, op := Op.call { callee := Callee.value (Operand.func 32), args := #[Operand.tmp 11], argTypes := #[29] }, type := 3, pos := "maps.go:176", after := #[{ on := 5, ground := Ground.data }, { on := 1, ground := Ground.chain }], guard := none })) rfl (fun K hK => ?_) AllReadyH.nil
    go_simp
    refine (noww _ _ e0 e1).mono ?_
    rintro e W2 ⟨rfl, b2⟩
    rw [HK.out]
    have hb2 := fr_new hb1 b2
    refine hK.out _ _ (KEEP.out _ hb2) (fun hHeld => ?_)
    clear hK K
    try simp only [Act.put, List.setIfInBounds_toArray, List.set_cons_zero, List.set_cons_succ]
    refine wpAnyH_take (i := 7) (oi := ({ dst := some 13, op := Op.binOp BinOp.sub 3 (Operand.tmp 7) (Operand.tmp 12) 3, type := 3, pos := "maps.go:176", after := #[{ on := 1, ground := Ground.data }, { on := 6, ground := Ground.data }], guard := none })) (v := ?_) rfl (by kernel_rfl) (by kernel_rfl) (by kernel_rfl) (fun _ _ _ h => h) (Or.inl ⟨by rfl, ?_⟩) (by assumption) ?_
    rotate_left 1
    · (intro w9 hSw; (try dsimp only at hSw); go_simp; try with_reducible rfl)
    try simp only [Act.put, List.setIfInBounds_toArray, List.set_cons_zero, List.set_cons_succ]
    refine wpAnyH_take (i := 8) (oi := ({ dst := some 5, op := Op.assign (Operand.tmp 13), type := 3, pos := "maps.go:176", after := #[{ on := 7, ground := Ground.data }, { on := 6, ground := Ground.chain }, { on := 0, ground := Ground.phase }, { on := 1, ground := Ground.phase }, { on := 2, ground := Ground.phase }, { on := 3, ground := Ground.phase }, { on := 4, ground := Ground.phase }, { on := 5, ground := Ground.phase }, { on := 6, ground := Ground.phase }, { on := 7, ground := Ground.phase }], guard := none })) (v := ?_) rfl (by kernel_rfl) (by kernel_rfl) (by kernel_rfl) (fun _ _ _ h => h) (Or.inl ⟨by rfl, ?_⟩) (by assumption) ?_
    rotate_left 1
    · (intro w9 hSw; (try dsimp only at hSw); go_simp; try with_reducible rfl)
    try simp only [Act.put, List.setIfInBounds_toArray, List.set_cons_zero, List.set_cons_succ]
    refine wpAnyH_done (by kernel_rfl) ?_ _
    go_wp2_with (refine (H1.out _).mono ?_; rintro e W3 ⟨rfl, b3⟩)
    go_ret
    exact ⟨rfl, fr_new hb2 b3⟩
  | false =>
    go_enter Tryd.func47, Tryd.ntmps47
    go_wp2_with fail
    refine wp_region_held_drew (S := fun X => X.cell? ⟨m, 1, none⟩ = some (.int .u64 E)) (by kernel_rfl) (KEEP.out _ hd) (fun hHeld => ?_)
    refine wpAnyH_take (i := 0) (oi := ({ dst := some 6, op := Op.move (Operand.tmp 1), type := 29, pos := "maps.go:176", after := #[], guard := none })) (v := ?_) rfl (by kernel_rfl) (by kernel_rfl) (by kernel_rfl) (fun _ _ _ h => h) (Or.inl ⟨by rfl, ?_⟩) (by assumption) ?_
    rotate_left 1
    · (intro w9 hSw; (try dsimp only at hSw); go_simp; try with_reducible rfl)
    try simp only [Act.put, List.setIfInBounds_toArray, List.set_cons_zero, List.set_cons_succ]
    refine wpAnyH_take (i := 2) (oi := ({ dst := some 8, op := Op.move (Operand.tmp 0), type := 25, pos := "maps.go:176", after := #[], guard := none })) (v := ?_) rfl (by kernel_rfl) (by kernel_rfl) (by kernel_rfl) (fun _ _ _ h => h) (Or.inl ⟨by rfl, ?_⟩) (by assumption) ?_
    rotate_left 1
    · (intro w9 hSw; (try dsimp only at hSw); go_simp; try with_reducible rfl)
    try simp only [Act.put, List.setIfInBounds_toArray, List.set_cons_zero, List.set_cons_succ]
    refine wpAnyH_take (i := 3) (oi := ({ dst := some 9, op := Op.nilCheck (Operand.tmp 8), type := 0, pos := "maps.go:176", after := #[{ on := 2, ground := Ground.data }], guard := none })) (v := ?_) rfl (by kernel_rfl) (by kernel_rfl) (by kernel_rfl) (fun _ _ _ h => h) (Or.inl ⟨by rfl, ?_⟩) (by assumption) ?_
    rotate_left 1
    · (intro w9 hSw; (try dsimp only at hSw); go_simp; try with_reducible rfl)
    try simp only [Act.put, List.setIfInBounds_toArray, List.set_cons_zero, List.set_cons_succ]
    refine wpAnyH_take (i := 4) (oi := ({ dst := some 10, op := Op.fieldAddr 57 (Operand.tmp 9) 1, type := 0, pos := "maps.go:176", after := #[{ on := 3, ground := Ground.data }], guard := none })) (v := ?_) rfl (by kernel_rfl) (by kernel_rfl) (by kernel_rfl) (fun _ _ _ h => h) (Or.inl ⟨by rfl, ?_⟩) (by assumption) ?_
    rotate_left 1
    · (intro w9 hSw; (try dsimp only at hSw); go_simp; try with_reducible rfl)
    try simp only [Act.put, List.setIfInBounds_toArray, List.set_cons_zero, List.set_cons_succ]
    refine wpAnyH_take (i := 5) (oi := ({ dst := some 11, op := Op.load 29 (Operand.tmp 10), type := 29, pos := "maps.go:176", after := #[{ on := 4, ground := Ground.data }], guard := none })) (v := ?_) rfl (by kernel_rfl) (by kernel_rfl) (by kernel_rfl) (fun _ _ _ h => h) (Or.inl ⟨by rfl, ?_⟩) (by assumption) ?_
    rotate_left 1
    · (intro w9 hSw; (try dsimp only at hSw); go_simp; try with_reducible rfl)
    try simp only [Act.put, List.setIfInBounds_toArray, List.set_cons_zero, List.set_cons_succ]
    refine wpAnyH_ready (rs := [1]) (by kernel_rfl) (by simp) ?_
    refine AllReadyH.cons (o := ({ dst := some 7, op := Op.call { callee := Callee.value (Operand.func 32), args := #[Operand.tmp 6], argTypes := #[29] }, type := 3, pos := "maps.go:176", after := #[{ on := 0, ground := Ground.data }], guard := none })) rfl (fun K hK => ?_) AllReadyH.nil
    go_simp
    refine (noww _ _ x0 x1).mono ?_
    rintro e W1 ⟨rfl, b1⟩
    rw [HN.out]
    have hb1 := fr_new hd b1
    refine hK.out _ _ (KEEP.out _ hb1) (fun hHeld => ?_)
    clear hK K
    try simp only [Act.put, List.setIfInBounds_toArray, List.set_cons_zero, List.set_cons_succ]
    refine wpAnyH_ready (rs := [6]) (by kernel_rfl) (by simp) ?_
    refine AllReadyH.cons (o := ({ dst := some 12, op := Op.call { callee := Callee.value (Operand.func 32), args := #[Operand.tmp 11], argTypes := #[29] }, type := 3, pos := "maps.go:176", after := #[{ on := 5, ground := Ground.data }, { on := 1, ground := Ground.chain }], guard := none })) rfl (fun K hK => ?_) AllReadyH.nil
    go_simp
    refine (noww _ _ e0 e1).mono ?_
    rintro e W2 ⟨rfl, b2⟩
    rw [HK.out]
    have hb2 := fr_new hb1 b2
    refine hK.out _ _ (KEEP.out _ hb2) (fun hHeld => ?_)
    clear hK K
    try simp only [Act.put, List.setIfInBounds_toArray, List.set_cons_zero, List.set_cons_succ]
    refine wpAnyH_take (i := 7) (oi := ({ dst := some 13, op := Op.binOp BinOp.sub 3 (Operand.tmp 7) (Operand.tmp 12) 3, type := 3, pos := "maps.go:176", after := #[{ on := 1, ground := Ground.data }, { on := 6, ground := Ground.data }], guard := none })) (v := ?_) rfl (by kernel_rfl) (by kernel_rfl) (by kernel_rfl) (fun _ _ _ h => h) (Or.inl ⟨by rfl, ?_⟩) (by assumption) ?_
    rotate_left 1
    · (intro w9 hSw; (try dsimp only at hSw); go_simp; try with_reducible rfl)
    try simp only [Act.put, List.setIfInBounds_toArray, List.set_cons_zero, List.set_cons_succ]
    refine wpAnyH_take (i := 8) (oi := ({ dst := some 5, op := Op.assign (Operand.tmp 13), type := 3, pos := "maps.go:176", after := #[{ on := 7, ground := Ground.data }, { on := 6, ground := Ground.chain }, { on := 0, ground := Ground.phase }, { on := 1, ground := Ground.phase }, { on := 2, ground := Ground.phase }, { on := 3, ground := Ground.phase }, { on := 4, ground := Ground.phase }, { on := 5, ground := Ground.phase }, { on := 6, ground := Ground.phase }, { on := 7, ground := Ground.phase }], guard := none })) (v := ?_) rfl (by kernel_rfl) (by kernel_rfl) (by kernel_rfl) (fun _ _ _ h => h) (Or.inl ⟨by rfl, ?_⟩) (by assumption) ?_
    rotate_left 1
    · (intro w9 hSw; (try dsimp only at hSw); go_simp; try with_reducible rfl)
    try simp only [Act.put, List.setIfInBounds_toArray, List.set_cons_zero, List.set_cons_succ]
    refine wpAnyH_done (by kernel_rfl) ?_ _
    go_wp2_with (go_at_call 58; first | ((with_reducible refine (H1.out _).mono ?_); rintro e W3 ⟨rfl, b3⟩; have y1 := KEEP.out _ (fr_new hb2 b3)) | ((with_reducible refine (H2.out _).mono ?_); rintro e W4 ⟨rfl, b4⟩))
    go_ret
    exact ⟨by simp, fr_new (fr_new hb2 b3) b4⟩
end Go.Proofs.YtmjklkcjinfmaaaDoor
