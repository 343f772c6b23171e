/- The chapter's places of a key. -/
import Derived.Test.YteofbgbjibbdaacPs4
namespace Go.Proofs.Yteofbgbjibbdaac
open Go.RowKit
set_option linter.unusedVariables false

theorem newc {W : World} {xs : Array Value} {t : TypeId} {n j : Nat} {v : Value} (hn : n = W.heap.size) (hv : xs[j]? = some v) : (W.alloc (.cells xs t)).drew.cell? ⟨n, j, none⟩ = some v := by
  subst hn
  rw [World.cell?_drew]
  simp [hv]
/-- A list of this call's own. -/
def IsOwn (w : World) (D : List Pv) (e : Ending) (w' : World) : Prop := ∃ C v, w.heap.size ≤ C ∧ e = .returned v ∧ w'.ownsRow C 39 2 v D.length (rowsP D) ∧ Below w.heap.size w w'
set_option maxHeartbeats 2000000 in
set_option maxRecDepth 100000 in
theorem rplacesw (h x : Int) (w : World) (h1 : 0 ≤ h) (h2 : h < 18446744073709551616) (x1 : 0 ≤ x) (x2 : x < 18446744073709551616) :
    Calls Try.prog 45 #[.int .u64 h, .int .u64 x] w (IsOwn w (placesF h x)) := by
  have hA := ras x w x1 x2
  have CA := Lib.hid hA
  have hF : placesF h x = dedP (placesL h x) := rfl
  have HF := Lib.hid hF
  have hPL : placesL h x = if asN x = 0 then [(bothP h (asO x)).1, (bothP h (asO x)).2] else [(bothP h (asO x)).1, (bothP h (asO x)).2, (bothP h (asN x)).1, (bothP h (asN x)).2] := rfl
  have c1 := fun W => refbucket_any h (asO x) W h1 h2
  have c2 := fun W => refbucket_any h (asN x) W h1 h2
  have c3 := fun W => reftag h W h1 h2
  obtain ⟨r1, r2, r3⟩ := as_range x
  unfold bothP tagF at hPL
  simp only at hPL
  generalize asO x = o at *
  generalize asN x = m at *
  generalize placesF h x = F at *
  generalize placesL h x = PL at *
  generalize max 1 (h / 72057594037927936) = t at *
  obtain ⟨k, hk⟩ : ∃ k, k = bkt h o := ⟨_, rfl⟩
  obtain ⟨k', hk'⟩ : ∃ k', k' = bkt h m := ⟨_, rfl⟩
  rw [← hk, ← hk'] at hPL
  rw [← hk] at c1
  rw [← hk'] at c2
  have C1 := Lib.hid c1
  have C2 := Lib.hid c2
  have C3 := Lib.hid c3
  clear hA hF c1 c2 c3 hk hk'
  by_cases hm : m = 0
  · rw [if_pos hm] at hPL
    have HPL := Lib.hid hPL
    have hmb : decide (0 < m) = false := decide_eq_false (by omega)
    have hm0 : m ≤ 0 := by omega
    clear hPL hm r3
    go_enter Try.func45, Try.ntmps45
    go_wp2_with fail
    refine CA.out.mono ?_
    rintro e w1 ⟨rfl, rfl⟩
    go_wp2_with fail
    refine wp_loop_rounds 2 ?_
    rw [rounds_succ]
    go_wp2_with fail
    refine (C1.out _).mono ?_
    rintro e w2 ⟨rfl, rfl⟩
    go_wp2_with fail
    have hbW : Below w.heap.size w (w.alloc (.cells #[.int .i64 o] 3)) := (Below.refl _ _).alloc (Nat.le_refl _) _
    have b0 : (w.alloc (.cells #[.int .i64 o] 3)).cell? ⟨w.heap.size, 0, none⟩ = some (.int .i64 o) := by simp
    have sW : (w.alloc (.cells #[.int .i64 o] 3)).heap.size = w.heap.size + 1 := by simp
    generalize World.alloc _ _ = W at hbW b0 sW ⊢
    have HBW := Lib.hid hbW
    have SW := Lib.hid sW
    clear sW hbW
    refine (rwithw (C := w.heap.size + 1) o k (L := []) (World.ownsRow_nil _ _ _ _) (by rw [SW.out]; exact Nat.le_refl _) (by simp)).mono ?_
    rintro e w3 ⟨v3, rfl, own3, K3⟩
    replace b0 := (K3.cell (p := ⟨w.heap.size, 0, none⟩) (by show w.heap.size < _; omega)).trans b0
    have OWN3 := Lib.hid own3
    have K3H := Lib.hid K3
    have s3 := K3.size
    rw [SW.out] at s3
    clear own3 K3
    go_wp2_with fail
    have C5 := Lib.hid (rwithw (C := w.heap.size + 1) (w := w3.drew) o (othf k t o) (own_belowP OWN3.out (Below.refl _ _).drew) s3 (Nat.le_trans (addP_len _ _) (by simp)))
    have lt3 : w.heap.size < w3.heap.size := by omega
    go_region_held3 (fun w' => w'.cell? ⟨w.heap.size, 0, none⟩ = some (.int .i64 o))
      (first | assumption)
      (first
        | (go_at_call 88; ((with_reducible refine (C3.out _).mono ?_); rintro e w4 ⟨rfl, rfl⟩))
        | (go_at_call 87; ((with_reducible refine (refother_any _ _ _ _).mono ?_); rintro e w4 ⟨rfl, rfl⟩))
        | (go_at_call 86; ((with_reducible refine C5.out.mono ?_); rintro e w5 ⟨v5, rfl, own5, K5⟩; replace b0 := (K5.cell (p := ⟨w.heap.size, 0, none⟩) (show w.heap.size < w.heap.size + 1 by omega)).trans b0; have OWN5 := Lib.hid own5; have K5H := Lib.hid K5; clear own5 K5 C5)))
    go_wp2_with fail
    rw [rounds_succ]
    go_wp2_with fail
    go_ret
    have hfin : Below w.heap.size w w5 := (HBW.out.trans (K3H.out.mono (Nat.le_succ _) : Below w.heap.size W w3)).drew.trans (K5H.out.mono (Nat.le_succ _) : Below w.heap.size w3.drew w5)
    refine ⟨_, v5, Nat.le_succ _, rfl, ?_, hfin⟩
    have : F = addP (addP [] (o, k)) (o, othf k t o) := by rw [HF.out, HPL.out]; rfl
    rw [this]
    exact OWN5.out
  · rw [if_neg hm] at hPL
    have HPL := Lib.hid hPL
    have hmb : decide (0 < m) = true := decide_eq_true (by omega)
    have hm0 : 0 < m := by omega
    have hm12 : m ≤ 12 := by omega
    clear hPL hm r3
    go_enter Try.func45, Try.ntmps45
    go_wp2_with fail
    refine CA.out.mono ?_
    rintro e w1 ⟨rfl, rfl⟩
    go_wp2_with fail
    generalize Question.cut _ _ = cp
    have hbW : Below w.heap.size w (((w.alloc (.cells #[.int .i64 o] 3)).alloc (.cells #[.int .i64 m] 3)).alloc (.cells (#[.int .i64 o, .int .i64 m] ++ Builtin.zeroCells #[.int .i64 0] (cp - 2)) 3)).drew := ((((Below.refl _ _).alloc (Nat.le_refl _) _).alloc (by simp) _).alloc (by simp; omega) _).drew
    have b0 : (((w.alloc (.cells #[.int .i64 o] 3)).alloc (.cells #[.int .i64 m] 3)).alloc (.cells (#[.int .i64 o, .int .i64 m] ++ Builtin.zeroCells #[.int .i64 0] (cp - 2)) 3)).drew.cell? ⟨w.heap.size + 1 + 1, 0, none⟩ = some (.int .i64 o) := newc (by simp) (by rw [Array.getElem?_append_left (by simp)]; rfl)
    have b1 : (((w.alloc (.cells #[.int .i64 o] 3)).alloc (.cells #[.int .i64 m] 3)).alloc (.cells (#[.int .i64 o, .int .i64 m] ++ Builtin.zeroCells #[.int .i64 0] (cp - 2)) 3)).drew.cell? ⟨w.heap.size + 1 + 1, 1, none⟩ = some (.int .i64 m) := newc (by simp) (by rw [Array.getElem?_append_left (by simp)]; rfl)
    have sW : (((w.alloc (.cells #[.int .i64 o] 3)).alloc (.cells #[.int .i64 m] 3)).alloc (.cells (#[.int .i64 o, .int .i64 m] ++ Builtin.zeroCells #[.int .i64 0] (cp - 2)) 3)).drew.heap.size = w.heap.size + 1 + 1 + 1 := by simp
    generalize World.drew _ = W at hbW b0 b1 sW ⊢
    obtain ⟨G, hG⟩ : ∃ G, G = w.heap.size + 1 + 1 := ⟨_, rfl⟩
    have hGw : w.heap.size ≤ G + 1 := by omega
    rw [← hG] at b0 b1 sW ⊢
    have HBW := Lib.hid hbW
    have SW := Lib.hid sW
    clear sW hbW hG
    refine wp_loop_rounds 3 ?_
    rw [rounds_succ]
    go_wp2_with fail
    refine (C1.out _).mono ?_
    rintro e w2 ⟨rfl, rfl⟩
    go_wp2_with fail
    refine (rwithw (C := G + 1) o k (L := []) (World.ownsRow_nil _ _ _ _) (by rw [SW.out]; exact Nat.le_refl _) (by simp)).mono ?_
    rintro e w3 ⟨v3, rfl, own3, K3⟩
    replace b0 := (K3.cell (p := ⟨G, 0, none⟩) (by show G < _; omega)).trans b0
    replace b1 := (K3.cell (p := ⟨G, 1, none⟩) (by show G < _; omega)).trans b1
    have OWN3 := Lib.hid own3
    have K3H := Lib.hid K3
    have s3 := K3.size
    rw [SW.out] at s3
    clear own3 K3
    go_wp2_with fail
    have C5 := Lib.hid (rwithw (C := G + 1) (w := w3.drew) o (othf k t o) (own_belowP OWN3.out (Below.refl _ _).drew) s3 (Nat.le_trans (addP_len _ _) (by simp)))
    have lt3 : G < w3.heap.size := by omega
    go_region_held3 (fun w' => w'.cell? ⟨G, 0, none⟩ = some (.int .i64 o) ∧ w'.cell? ⟨G, 1, none⟩ = some (.int .i64 m))
      (first | exact ⟨by assumption, by assumption⟩)
      (first
        | (go_at_call 88; ((with_reducible refine (C3.out _).mono ?_); rintro e w4 ⟨rfl, rfl⟩))
        | (go_at_call 87; ((with_reducible refine (refother_any _ _ _ _).mono ?_); rintro e w4 ⟨rfl, rfl⟩))
        | (go_at_call 86; ((with_reducible refine C5.out.mono ?_); rintro e w5 ⟨v5, rfl, own5, K5⟩; have s5 := K5.size; replace b0 := (K5.cell (p := ⟨G, 0, none⟩) (show G < G + 1 by omega)).trans b0; replace b1 := (K5.cell (p := ⟨G, 1, none⟩) (show G < G + 1 by omega)).trans b1; have OWN5 := Lib.hid own5; have K5H := Lib.hid K5; clear own5 K5 C5)))
    replace s5 : G + 1 ≤ w5.heap.size := by simp at s5; omega
    go_wp2_with fail
    rw [rounds_succ]
    go_wp2_with fail
    refine (C2.out _).mono ?_
    rintro e w6 ⟨rfl, rfl⟩
    go_wp2_with fail
    have l5 : (addP (addP [] (o, k)) (o, othf k t o)).length ≤ 2 := by
      have h1 := addP_len (addP [] (o, k)) (o, othf k t o)
      have h2 := addP_len [] (o, k)
      simp at h2
      omega
    refine (rwithw (C := G + 1) m k' OWN5.out s5 (by omega)).mono ?_
    rintro e w7 ⟨v7, rfl, own7, K7⟩
    replace b0 := (K7.cell (p := ⟨G, 0, none⟩) (by show G < _; omega)).trans b0
    replace b1 := (K7.cell (p := ⟨G, 1, none⟩) (by show G < _; omega)).trans b1
    have OWN7 := Lib.hid own7
    have K7H := Lib.hid K7
    have s7 := K7.size
    replace s7 : G + 1 ≤ w7.heap.size := by omega
    clear own7 K7
    go_wp2_with fail
    have C9 := Lib.hid (rwithw (C := G + 1) (w := w7.drew) m (othf k' t m) (own_belowP OWN7.out (Below.refl _ _).drew) s7 (Nat.le_trans (addP_len _ _) (by omega)))
    have lt7 : G < w7.heap.size := by omega
    go_region_held3 (fun w' => w'.cell? ⟨G, 0, none⟩ = some (.int .i64 o) ∧ w'.cell? ⟨G, 1, none⟩ = some (.int .i64 m))
      (first | exact ⟨by assumption, by assumption⟩)
      (first
        | (go_at_call 88; ((with_reducible refine (C3.out _).mono ?_); rintro e w8 ⟨rfl, rfl⟩))
        | (go_at_call 87; ((with_reducible refine (refother_any _ _ _ _).mono ?_); rintro e w8 ⟨rfl, rfl⟩))
        | (go_at_call 86; ((with_reducible refine C9.out.mono ?_); rintro e w9 ⟨v9, rfl, own9, K9⟩; replace b0 := (K9.cell (p := ⟨G, 0, none⟩) (show G < G + 1 by omega)).trans b0; replace b1 := (K9.cell (p := ⟨G, 1, none⟩) (show G < G + 1 by omega)).trans b1; have OWN9 := Lib.hid own9; have K9H := Lib.hid K9; clear own9 K9 C9)))
    go_wp2_with fail
    rw [rounds_succ]
    go_wp2_with fail
    go_ret
    have hfin : Below w.heap.size w w9 := (((HBW.out.trans (K3H.out.mono hGw : Below w.heap.size W w3)).drew.trans (K5H.out.mono hGw : Below w.heap.size w3.drew w5)).trans (K7H.out.mono hGw : Below w.heap.size w5 w7)).drew.trans (K9H.out.mono hGw : Below w.heap.size w7.drew w9)
    refine ⟨_, v9, hGw, rfl, ?_, hfin⟩
    have : F = addP (addP (addP (addP [] (o, k)) (o, othf k t o)) (m, k')) (m, othf k' t m) := by rw [HF.out, HPL.out]; rfl
    rw [this]
    exact OWN9.out
end Go.Proofs.Yteofbgbjibbdaac
