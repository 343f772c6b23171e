/- No world, and one that no call made. -/
import Derived.Test.YtmdofhdjikapgaaWd4
import Derived.Test.YtmdofhdjikapgaaClN
namespace Go.Proofs.Ytmdofhdjikapgaa
open Go.RowKit Go.Maps
set_option linter.unusedVariables false

theorem steps_nil (w : World) : Calls Try.prog 24 #[.pointer none] w fun e w' => e = .returned (.int .i64 0) ∧ w = w' := by
  go_enter Try.func24, Try.ntmps24
  go_wp2
  go_ret
  exact ⟨rfl, rfl⟩
theorem tick_nil (w : World) : Calls Try.prog 22 #[.pointer none] w fun e w' => e = .returned (.tuple #[]) ∧ w = w' := by
  go_enter Try.func22, Try.ntmps22
  go_wp2_with fail
  exact bodyPost_ret (v := .tuple #[]) (by simp [results, Try.results22, go_sem]) rfl ⟨rfl, rfl⟩
theorem grows_nil (w : World) : Calls Try.prog 19 #[.pointer none] w fun e w' => e = .returned (.bool false) ∧ w = w' := by
  go_enter Try.func19, Try.ntmps19
  go_wp2
  go_ret
  exact ⟨rfl, rfl⟩
theorem full_nil (w : World) : Calls Try.prog 21 #[.pointer none] w fun e w' => e = .returned (.bool false) ∧ w = w' := by
  go_enter Try.func21, Try.ntmps21
  go_wp2
  go_ret
  exact ⟨rfl, rfl⟩
theorem note_nil (k r b c d v : Int) (w : World) : Calls Try.prog 23 #[.pointer none, .int .u8 k, .int .i64 r, .agg #[.int .i64 b, .int .i64 c, .int .i64 d], .int .i64 v] w fun e w' => e = .returned (.tuple #[]) ∧ Below w.heap.size w w' := by
  go_enter Try.func23, Try.ntmps23
  go_wp2_with fail
  exact bodyPost_ret (v := .tuple #[]) (by simp [results, Try.results23, go_sem]) rfl ⟨rfl, (Below.refl _ _).alloc (Nat.le_refl _) _⟩
theorem nadd_nil (w : World) (s th k r b c d v : Int) : Calls Try.prog 65 #[.pointer none, .agg #[.int .i64 s, .int .i64 th, .int .u8 k, .int .i64 r, .int .i64 b, .int .i64 c, .int .i64 d, .int .i64 v]] w fun e w' => e = .returned (.int .i64 2) ∧ Below w.heap.size w w' := by
  go_enter Try.func65, Try.ntmps65
  go_wp2
  go_ret
  exact ⟨rfl, (Below.refl _ _).alloc (Nat.le_refl _) _⟩
theorem ncount_nil (w : World) : Calls Try.prog 25 #[.pointer none] w fun e w' => e = .returned (.int .i64 0) ∧ w = w' := by
  go_enter Try.func25, Try.ntmps25
  go_wp2
  go_ret
  exact ⟨rfl, rfl⟩
/-- A world that no call made. -/
structure IsVoid (w : World) (p : Nat) : Prop where
  c0 : w.cell? ⟨p, 0, none⟩ = some (.pointer none)
  c2 : w.cell? ⟨p, 2, none⟩ = some (.pointer none)
  c3 : w.cell? ⟨p, 3, none⟩ = some (.int .i64 0)
  c4 : w.cell? ⟨p, 4, none⟩ = some (.int .i64 0)
  ch : w.cell? ⟨p, 72, none⟩ = some (.int .i64 0)
theorem IsVoid.lt {w : World} {p : Nat} (h : IsVoid w p) : p < w.heap.size := World.block_lt_of_cell? _ _ h.c0
theorem IsVoid.new {w W : World} {p : Nat} (h : IsVoid w p) (hb : Below w.heap.size w W) : IsVoid W p := by
  have hl := h.lt
  exact ⟨(hb.cell (p := ⟨p, 0, none⟩) hl).trans h.c0, (hb.cell (p := ⟨p, 2, none⟩) hl).trans h.c2, (hb.cell (p := ⟨p, 3, none⟩) hl).trans h.c3, (hb.cell (p := ⟨p, 4, none⟩) hl).trans h.c4, (hb.cell (p := ⟨p, 72, none⟩) hl).trans h.ch⟩
theorem isVoid_made (w : World) (T : TypeId) : IsVoid (w.alloc (.cells Try.zeroCells42 T)) w.heap.size := by
  have z : ∀ (j : Nat) (v : Value), Try.zeroCells42.toList[j]? = some v → (w.alloc (.cells Try.zeroCells42 T)).cell? ⟨w.heap.size, j, none⟩ = some v := by
    intro j v hj
    rw [World.cell?_alloc_new, ← Array.getElem?_toList]
    exact hj
  exact ⟨z 0 _ (by rw [zworld]; rfl), z 2 _ (by rw [zworld]; rfl), z 3 _ (by rw [zworld]; rfl), z 4 _ (by rw [zworld]; rfl), z 72 _ (by rw [zworld]; rfl)⟩
theorem steps_void {w : World} {p : Nat} (h : IsVoid w p) : Calls Try.prog 24 #[.pointer (some ⟨p, 0, none⟩)] w fun e w' => e = .returned (.int .i64 0) ∧ w = w' := by
  have c0 := h.c0
  clear h
  go_enter Try.func24, Try.ntmps24
  go_wp2_with fail
  refine (count_nil _).mono ?_
  rintro e w' ⟨rfl, rfl⟩
  go_wp2_with fail
  go_ret
  exact ⟨rfl, rfl⟩
set_option maxHeartbeats 1000000 in
set_option maxRecDepth 100000 in
theorem full_void {w : World} {p : Nat} (h : IsVoid w p) : Calls Try.prog 21 #[.pointer (some ⟨p, 0, none⟩)] w fun e w' => e = .returned (.bool true) ∧ Below w.heap.size w w' := by
  have c0 := h.c0
  have c4 := h.c4
  clear h
  go_enter Try.func21, Try.ntmps21
  go_wp2_with fail
  have c4d : w.drew.cell? ⟨p, 4, none⟩ = some (.int .i64 0) := c4
  go_region_held3 (fun w' => w'.cell? ⟨p, 4, none⟩ = some (.int .i64 0))
    (first | assumption)
    (first
      | (go_at_call 32; ((with_reducible refine (peek_nil _ _).mono ?_); rintro e w2 ⟨rfl, rfl⟩)))
  clear c4 c4d
  go_wp2_with fail
  go_ret
  exact ⟨rfl, (Below.refl _ _).drew⟩
set_option maxHeartbeats 1000000 in
set_option maxRecDepth 100000 in
theorem grows_void {w : World} {p : Nat} (h : IsVoid w p) : Calls Try.prog 19 #[.pointer (some ⟨p, 0, none⟩)] w fun e w' => e = .returned (.bool false) ∧ Below w.heap.size w w' := by
  have c0 := h.c0
  have c3 := h.c3
  have c4 := h.c4
  have hlt := h.lt
  have e1 : asO 0 = 1 := by decide
  have e2 : asN 0 = 0 := by decide
  have e3 : mayf 0 0 1 = false := by decide
  have ca := fun W => asw 0 W (by decide) (by decide)
  have cm := fun W => mayw 0 0 1 W
  rw [e1, e2] at ca
  rw [e3] at cm
  have CA := Lib.hid ca
  have CM := Lib.hid cm
  clear h e1 e2 e3 ca cm
  go_enter Try.func19, Try.ntmps19
  go_wp2_with fail
  refine (peek_nil _ _).mono ?_
  rintro e w' ⟨rfl, rfl⟩
  go_wp2_with fail
  refine (CA.out _).mono ?_
  rintro e w1 ⟨rfl, K1⟩
  replace c3 := (K1.cell (p := ⟨p, 3, none⟩) hlt).trans c3
  replace c4 := (K1.cell (p := ⟨p, 4, none⟩) hlt).trans c4
  have HK := Lib.hid K1
  clear K1 c0
  go_wp2_with fail
  go_quiet ((go_at_call 59; exact quiet_left (CM.out _)))
  go_wp2_with fail
  go_ret
  exact ⟨rfl, belowWd HK.out nq⟩
set_option maxHeartbeats 1000000 in
set_option maxRecDepth 100000 in
theorem tick_void {w : World} {p : Nat} (h : IsVoid w p) : Calls Try.prog 22 #[.pointer (some ⟨p, 0, none⟩)] w fun e w' => e = .returned (.tuple #[]) ∧ Below w.heap.size w w' := by
  have c0 := h.c0
  have hlt := h.lt
  have CT := Lib.hid (fun W => tickw 0 W (by decide) (by decide))
  clear h
  go_enter Try.func22, Try.ntmps22
  go_wp2_with fail
  refine (peek_nil _ _).mono ?_
  rintro e w' ⟨rfl, rfl⟩
  go_wp2_with fail
  have c0d : w.drew.cell? ⟨p, 0, none⟩ = some (.pointer none) := c0
  go_region_held3 (fun w' => w'.cell? ⟨p, 0, none⟩ = some (.pointer none))
    (first | assumption)
    (first
      | (go_at_call 64; ((with_reducible refine (CT.out _).mono ?_); rintro e w1 ⟨rfl, K1⟩; have hK := ((Below.refl w.heap.size w).drew.trans K1); replace c0 := (hK.cell (p := ⟨p, 0, none⟩) hlt).trans c0; have HK := Lib.hid hK; clear K1 hK c0d))
      | (go_at_call 63; ((with_reducible refine (cas_nil _ _ _ _).mono ?_); rintro e w2 ⟨rfl, K2⟩; have hK2 := below_then HK.out K2; have HK2 := Lib.hid hK2; replace c0 := (K2.cell (p := ⟨p, 0, none⟩) (by have := HK.out.size; show p < _; omega)).trans c0; clear K2 hK2)))
  clear c0
  go_wp2_with fail
  go_end0
  exact ⟨rfl, HK2.out⟩
set_option maxHeartbeats 1000000 in
set_option maxRecDepth 100000 in
theorem note_void {w : World} {p : Nat} (h : IsVoid w p) (k r b c d v : Int) : Calls Try.prog 23 #[.pointer (some ⟨p, 0, none⟩), .int .u8 k, .int .i64 r, .agg #[.int .i64 b, .int .i64 c, .int .i64 d], .int .i64 v] w fun e w' => e = .returned (.tuple #[]) ∧ Below w.heap.size w w' := by
  have hlt := h.lt
  have hB : Below w.heap.size w (w.alloc (.cells #[.int .i64 b, .int .i64 c, .int .i64 d] 48)) := (Below.refl _ _).alloc (Nat.le_refl _) _
  obtain ⟨Q, hQ⟩ : ∃ Q, Q = w.heap.size := ⟨_, rfl⟩
  have d0 : (w.alloc (.cells #[.int .i64 b, .int .i64 c, .int .i64 d] 48)).cell? ⟨Q, 0, none⟩ = some (.int .i64 b) := by rw [hQ]; simp
  have d1 : (w.alloc (.cells #[.int .i64 b, .int .i64 c, .int .i64 d] 48)).cell? ⟨Q, 1, none⟩ = some (.int .i64 c) := by rw [hQ]; simp
  have d2 : (w.alloc (.cells #[.int .i64 b, .int .i64 c, .int .i64 d] 48)).cell? ⟨Q, 2, none⟩ = some (.int .i64 d) := by rw [hQ]; simp
  have sW : (w.alloc (.cells #[.int .i64 b, .int .i64 c, .int .i64 d] 48)).heap.size = Q + 1 := by rw [hQ]; simp
  have HQ := Lib.hid hQ
  have hv := h.new hB
  clear h hQ
  go_enter Try.func23, Try.ntmps23
  go_wp2_with fail
  rw [← HQ.out]
  generalize World.alloc _ _ = W at *
  have c2 : W.drew.cell? ⟨p, 2, none⟩ = some (.pointer none) := hv.c2
  have ch : W.drew.cell? ⟨p, 72, none⟩ = some (.int .i64 0) := hv.ch
  have CS := Lib.hid (steps_void (hv.new (Below.refl W.heap.size W).drew))
  replace d0 : W.drew.cell? ⟨Q, 0, none⟩ = some (.int .i64 b) := d0
  replace d1 : W.drew.cell? ⟨Q, 1, none⟩ = some (.int .i64 c) := d1
  replace d2 : W.drew.cell? ⟨Q, 2, none⟩ = some (.int .i64 d) := d2
  have pW : p < W.heap.size := hv.lt
  have HB := Lib.hid hB
  have qW : Q < W.heap.size := by omega
  clear hv hB sW
  go_region_held3 (fun w' => w'.cell? ⟨p, 2, none⟩ = some (.pointer none) ∧ w'.cell? ⟨p, 72, none⟩ = some (.int .i64 0) ∧ w'.cell? ⟨Q, 0, none⟩ = some (.int .i64 b) ∧ w'.cell? ⟨Q, 1, none⟩ = some (.int .i64 c) ∧ w'.cell? ⟨Q, 2, none⟩ = some (.int .i64 d))
    (first | exact ⟨by assumption, by assumption, by assumption, by assumption, by assumption⟩)
    (first
      | (go_at_call 24; ((with_reducible refine CS.out.mono ?_); rintro e w1 ⟨rfl, rfl⟩))
      | (go_at_call 65; refine (nadd_nil _ _ _ _ _ _ _ _ _).mono ?_; rintro e w2 ⟨rfl, K2⟩; replace c2 := (K2.cell (p := ⟨p, 2, none⟩) pW).trans c2; replace ch := (K2.cell (p := ⟨p, 72, none⟩) pW).trans ch; replace d0 := (K2.cell (p := ⟨Q, 0, none⟩) qW).trans d0; replace d1 := (K2.cell (p := ⟨Q, 1, none⟩) qW).trans d1; replace d2 := (K2.cell (p := ⟨Q, 2, none⟩) qW).trans d2; have HK2 := Lib.hid (below_then HB.out.drew K2); clear K2))
  clear c2 ch d0 d1 d2
  go_wp2_with fail
  go_end0
  exact ⟨rfl, HK2.out⟩
end Go.Proofs.Ytmdofhdjikapgaa
