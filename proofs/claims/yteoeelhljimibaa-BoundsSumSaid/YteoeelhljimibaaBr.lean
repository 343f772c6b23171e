/- The chapter's bounds: Room, Turn, Evict. -/
import Derived.Test.YteoeelhljimibaaBo9
import Derived.Deep.RegionHeld3
namespace Go.Proofs.Yteoeelhljimibaa
open Go.RowKit Go.Maps
set_option linter.unusedVariables false

theorem cfg_new {w : World} {b u t q y : Int} {T : TypeId} : Cfg (w.alloc (.cells #[.int .i64 b, .int .i64 u, .int .i64 t, .int .i64 q, .int .i64 y] T)) w.heap.size b u t q y := ⟨⟨by simp, by simp, by simp, by simp, by simp⟩, by simp⟩
theorem rmay40 (b u t q y : Int) (w : World) : Calls Try.prog 23 #[.agg #[.int .i64 b, .int .i64 u, .int .i64 t, .int .i64 q, .int .i64 y]] w fun e w' => e = .returned (.bool (mayc b u t q y)) ∧ Below w.heap.size w w' := by
  go_enter Try.func23, Try.ntmps23
  go_wp2_with fail
  all_goals
    go_ret
    refine ⟨?_, (Below.refl _ _).alloc (Nat.le_refl _) _⟩
    refine congrArg (fun x => Ending.returned (Value.bool x)) ?_
    unfold mayc
    first
      | (refine (decide_eq_false ?_).symm; omega)
      | exact decide_eq_decide.mpr (by omega)
theorem other40 (b u t q y : Int) (w : World) : Calls Try.prog 8 #[.agg #[.int .i64 b, .int .i64 u, .int .i64 t, .int .i64 q, .int .i64 y]] w fun e w' => e = .returned (.agg #[.int .i64 b, .int .i64 u, .int .i64 t, .int .i64 q, .int .i64 y]) ∧ Below w.heap.size w w' := by
  go_enter Try.func8, Try.ntmps8
  go_wp2_with fail
  refine bodyPost_ret (v := .agg #[.int .i64 b, .int .i64 u, .int .i64 t, .int .i64 q, .int .i64 y]) (by simp [results, Try.results8, go_sem]) rfl ⟨rfl, ?_⟩
  exact ((Below.refl w.heap.size w).alloc (Nat.le_refl _) _).alloc (by simp) _
theorem ofI_no {b u t q y : Int} (k : Nat) (h : mayc b u t q y = false) : ofI k b u t q y = 0 := by unfold ofI; rw [h]; rfl
set_option maxHeartbeats 2000000 in
set_option maxRecDepth 100000 in
theorem rroomw (b u t q y : Int) (w : World) : Calls Try.prog 11 #[.agg #[.int .i64 b, .int .i64 u, .int .i64 t, .int .i64 q, .int .i64 y]] w fun e w' => e = .returned (.int .i64 (ofI 0 b u t q y)) ∧ Below w.heap.size w w' := by
  have CM := Lib.hid (rmay40 b u t q y)
  have HC := Lib.hid (cfg_new (w := w) (b := b) (u := u) (t := t) (q := q) (y := y) (T := 26))
  have hbl : Below w.heap.size w (w.alloc (.cells #[.int .i64 b, .int .i64 u, .int .i64 t, .int .i64 q, .int .i64 y] 26)) := (Below.refl _ _).alloc (Nat.le_refl _) _
  have HB := Lib.hid hbl
  clear hbl
  cases hm : mayc b u t q y with
  | false =>
    rw [hm] at CM
    have HE := Lib.hid (ofI_no 0 hm)
    go_enter Try.func11, Try.ntmps11
    go_wp2_with (go_at_call 23; ((with_reducible refine (CM.out _).mono ?_); rintro e w6 ⟨rfl, hk6⟩))
    go_ret
    exact ⟨by rw [HE.out]; rfl, HB.out.trans (hk6.mono HB.out.size)⟩
  | true =>
    rw [hm] at CM
    unfold mayc at hm
    have hmay := of_decide_eq_true hm
    have HE := Lib.hid ((ofI_form hmay).1.trans (room_eq y))
    have hw1 : IntKind.i64.wrap (13 * y) = 13 * y := IntWalk.i64_in _ (by omega)
    have hw2 : IntKind.i64.wrap (2 + 13 * y) = 2 + 13 * y := IntWalk.i64_in _ (by omega)
    clear hmay hm
    go_enter Try.func11, Try.ntmps11
    go_wp2_with (go_at_call 23; ((with_reducible refine (CM.out _).mono ?_); rintro e w6 ⟨rfl, hk6⟩; obtain ⟨⟨f0, f1, f2, f3, f4⟩, -⟩ := HC.out.on hk6))
    go_ret
    refine ⟨?_, HB.out.trans (hk6.mono HB.out.size)⟩
    rw [HE.out, Int.add_comm]
    rfl
theorem turn_part {q y : Int} (k : Nat) : 3 + (k : Int) * (4 * roomI y + 51) + 3 + 4 * (roomI y + 12) = 3 + ((k + 1 : Nat) : Int) * (4 * roomI y + 51) := by
  rw [Int.natCast_add, Int.add_mul]
  omega
theorem turn_all {q y : Int} {k : Nat} (h : (k : Int) = q) : 3 + (k : Int) * (4 * roomI y + 51) = turnI q y := by
  rw [turn_eq, h, Int.mul_add, Int.mul_comm q (4 * roomI y), Int.mul_comm q 51, Int.mul_assoc, Int.mul_assoc, Int.mul_comm q (roomI y)]
  omega
set_option maxHeartbeats 2000000 in
set_option maxRecDepth 100000 in
theorem rturnw (b u t q y : Int) (w : World) : Calls Try.prog 13 #[.agg #[.int .i64 b, .int .i64 u, .int .i64 t, .int .i64 q, .int .i64 y]] w fun e w' => e = .returned (.int .i64 (ofI 1 b u t q y)) ∧ Below w.heap.size w w' := by
  have CM := Lib.hid (rmay40 b u t q y)
  have CR := Lib.hid (rroomw b u t q y)
  have HC := Lib.hid (cfg_new (w := w) (b := b) (u := u) (t := t) (q := q) (y := y) (T := 26))
  have hbl : Below w.heap.size w (w.alloc (.cells #[.int .i64 b, .int .i64 u, .int .i64 t, .int .i64 q, .int .i64 y] 26)) := (Below.refl _ _).alloc (Nat.le_refl _) _
  have HB := Lib.hid hbl
  clear hbl
  cases hm : mayc b u t q y with
  | false =>
    rw [hm] at CM
    have HE := Lib.hid (ofI_no 1 hm)
    go_enter Try.func13, Try.ntmps13
    go_wp2_with (go_at_call 23; ((with_reducible refine (CM.out _).mono ?_); rintro e w6 ⟨rfl, hk6⟩))
    go_ret
    exact ⟨by rw [HE.out]; rfl, HB.out.trans (hk6.mono HB.out.size)⟩
  | true =>
    rw [hm] at CM
    unfold mayc at hm
    have hmay := of_decide_eq_true hm
    have HE := Lib.hid (ofI_form hmay).2.1
    have hR := (ofI_form hmay).1
    rw [hR] at CR
    have hr := room_eq y
    obtain ⟨b1, b2, u1, u2, t1, t2, q1, q2, y1, y2⟩ := hmay
    have TP := Lib.hid (fun k => turn_part (q := q) (y := y) k)
    have TA := Lib.hid (fun (k : Nat) (h : (k : Int) = q) => turn_all (q := q) (y := y) h)
    obtain ⟨r, hrr⟩ : ∃ r, r = roomI y := ⟨_, rfl⟩
    rw [← hrr] at CR TP TA hr
    have hrb : 0 ≤ r ∧ r ≤ 4000 := by omega
    clear hm hR hr hrr
    go_enter Try.func13, Try.ntmps13
    go_wp2_with (go_at_call 23; ((with_reducible refine (CM.out _).mono ?_); rintro e w6 ⟨rfl, hk6⟩))
    have HC6 := Lib.hid (And.intro (HC.out.on hk6) (HB.out.trans (hk6.mono HB.out.size)))
    clear hk6 HC HB CM
    go_loopw [3, 4] (fun n i wr => ∃ k : Nat, (k : Int) ≤ q ∧ i = .int .i64 k ∧ n = .int .i64 (3 + (k : Int) * (4 * r + 51)) ∧ Hid (Cfg wr w.heap.size b u t q y ∧ Below w.heap.size w wr)) (fun _ i _ => q.toNat - (intOf i).toNat)
    case atStart => exact ⟨0, by omega, rfl, by rw [show ((0 : Nat) : Int) = 0 from rfl, Int.zero_mul]; rfl, HC6.out⟩
    case round =>
      obtain ⟨k, hk, rfl, rfl, hS⟩ := hrel
      obtain ⟨⟨f0, f1, f2, f3, f4⟩, -⟩ := hS.out.1
      by_cases hlt : (k : Int) < q
      · have hkr : 0 ≤ (k : Int) * (4 * r + 51) ∧ (k : Int) * (4 * r + 51) ≤ 8 * 16100 := ⟨Int.mul_nonneg (by omega) (by omega), Int.mul_le_mul (by omega) (by omega) (by omega) (by omega)⟩
        have htp := TP.out k
        generalize (k : Int) * (4 * r + 51) = z at *
        have hw1 : IntKind.i64.wrap (3 + z + 3) = 3 + z + 3 := IntWalk.i64_in _ (by omega)
        have hw2 : IntKind.i64.wrap (r + 12) = r + 12 := IntWalk.i64_in _ (by omega)
        have hw3 : IntKind.i64.wrap (4 * (r + 12)) = 4 * (r + 12) := IntWalk.i64_in _ (by omega)
        have hw4 : IntKind.i64.wrap (3 + z + 3 + 4 * (r + 12)) = 3 + z + 3 + 4 * (r + 12) := IntWalk.i64_in _ (by omega)
        have HTP := Lib.hid htp
        clear htp
        have hd : decide ((k : Int) < q) = true := decide_eq_true hlt
        go_wp2_with (go_at_call 11; ((with_reducible refine (CR.out _).mono ?_); rintro e w7 ⟨rfl, hb⟩))
        go_roundw
        case rel => exact ⟨k + 1, by omega, by go_num, by rw [HTP.out], hS.out.1.on hb, hS.out.2.trans (hb.mono hS.out.2.size)⟩
        case measure => simp [intOf]; omega
      · have hd : decide ((k : Int) < q) = false := decide_eq_false hlt
        go_wp2_with fail
        go_ret
        exact ⟨by rw [HE.out, ← TA.out k (by omega)]; rfl, hS.out.2⟩
set_option maxHeartbeats 2000000 in
set_option maxRecDepth 100000 in
theorem revictw (b u t q y : Int) (w : World) : Calls Try.prog 15 #[.agg #[.int .i64 b, .int .i64 u, .int .i64 t, .int .i64 q, .int .i64 y]] w fun e w' => e = .returned (.int .i64 (ofI 2 b u t q y)) ∧ Below w.heap.size w w' := by
  have CM := Lib.hid (rmay40 b u t q y)
  have HC := Lib.hid (cfg_new (w := w) (b := b) (u := u) (t := t) (q := q) (y := y) (T := 26))
  have hbl : Below w.heap.size w (w.alloc (.cells #[.int .i64 b, .int .i64 u, .int .i64 t, .int .i64 q, .int .i64 y] 26)) := (Below.refl _ _).alloc (Nat.le_refl _) _
  have HB := Lib.hid hbl
  clear hbl
  cases hm : mayc b u t q y with
  | false =>
    rw [hm] at CM
    have HE := Lib.hid (ofI_no 2 hm)
    go_enter Try.func15, Try.ntmps15
    go_wp2_with (go_at_call 23; ((with_reducible refine (CM.out _).mono ?_); rintro e w6 ⟨rfl, hk6⟩))
    go_ret
    exact ⟨by rw [HE.out]; rfl, HB.out.trans (hk6.mono HB.out.size)⟩
  | true =>
    rw [hm] at CM
    unfold mayc at hm
    have hmay := of_decide_eq_true hm
    have HE := Lib.hid ((ofI_form hmay).2.2.1.trans (evict_eq b u))
    obtain ⟨b1, b2, u1, u2, t1, t2, q1, q2, y1, y2⟩ := hmay
    have HSL := Lib.hid (slots_bd b1 b2 u1 u2)
    clear hm
    go_enter Try.func15, Try.ntmps15
    go_wp2_with (go_at_call 23; ((with_reducible refine (CM.out _).mono ?_); rintro e w6 ⟨rfl, hk6⟩))
    have HC6 := Lib.hid (And.intro (HC.out.on hk6) (HB.out.trans (hk6.mono HB.out.size)))
    clear hk6 HC HB CM
    go_loopw [3, 4] (fun n i wr => ∃ k : Nat, (k : Int) ≤ b ∧ i = .int .i64 k ∧ n = .int .i64 (4 * 2 ^ k) ∧ w6 = wr) (fun _ i _ => b.toNat - (intOf i).toNat)
    case atStart => exact ⟨0, by omega, rfl, rfl, rfl⟩
    case round =>
      obtain ⟨k, hk, rfl, rfl, rfl⟩ := hrel
      obtain ⟨⟨f0, f1, f2, f3, f4⟩, -⟩ := HC6.out.1
      by_cases hlt : (k : Int) < b
      · have hp := pow_b (b := ((k + 1 : Nat) : Int)) (by omega) (by omega)
        rw [Int.toNat_natCast] at hp
        have he : (2 : Int) * (4 * 2 ^ k) = 4 * 2 ^ (k + 1) := by rw [Int.pow_succ]; omega
        have hw1 : IntKind.i64.wrap (2 * (4 * 2 ^ k)) = 4 * 2 ^ (k + 1) := by rw [he]; exact IntWalk.i64_in _ (by omega)
        have hd : decide ((k : Int) < b) = true := decide_eq_true hlt
        clear hp he
        go_wp2_with fail
        go_roundw
        case rel => exact ⟨k + 1, by omega, by go_num, rfl, trivial⟩
        case measure => simp [intOf]; omega
      · have hd : decide ((k : Int) < b) = false := decide_eq_false hlt
        have hkb : k = b.toNat := by omega
        have hsl := HSL.out
        have he : slotsI b u = 8 * max (4 * 2 ^ k) u := by unfold slotsI; rw [hkb, Int.max_comm]
        rw [he] at hsl
        have HEE := Lib.hid (HE.out.trans (show 6 * slotsI b u + 13 = 13 + 48 * max (4 * 2 ^ k) u by rw [he]; omega))
        generalize hz : (4 : Int) * 2 ^ k = z at *
        have hw1 : IntKind.i64.wrap (48 * max z u) = 48 * max z u := IntWalk.i64_in _ (by omega)
        have hw2 : IntKind.i64.wrap (13 + 48 * max z u) = 13 + 48 * max z u := IntWalk.i64_in _ (by omega)
        go_wp2_with fail
        go_ret
        exact ⟨by rw [HEE.out]; rfl, HC6.out.2⟩
end Go.Proofs.Yteoeelhljimibaa
