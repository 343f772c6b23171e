/- A key's places. -/
import Derived.Test.YteofbgbjibbdaacPs2
namespace Go.Proofs.Yteofbgbjibbdaac
open Go.RowKit
set_option linter.unusedVariables false

def placesL (h x : Int) : List Pv := if asN x = 0 then [(bothP h (asO x)).1, (bothP h (asO x)).2] else [(bothP h (asO x)).1, (bothP h (asO x)).2, (bothP h (asN x)).1, (bothP h (asN x)).2]
/-- The places of a hash by a tables' word. -/
def placesF (h x : Int) : List Pv := dedP (placesL h x)
theorem lie2 (W : World) (a b c d : Int) (t : TypeId) {S : Nat} (hS : S = W.heap.size) : LieG (W.alloc (.cells #[.int .i64 a, .int .i64 b, .int .i64 c, .int .i64 d] t)) (some ⟨S, 0, none⟩) 2 2 (rowsP [(a, b), (c, d)]) := by
  subst hS
  intro _
  refine ⟨_, rfl, by simp, by omega, fun j u hj => ?_⟩
  match j, hj with
  | 0, hj => simp [rowsP, Pv.cells] at hj; subst hj; simp
  | 1, hj => simp [rowsP, Pv.cells] at hj; subst hj; simp
  | 2, hj => simp [rowsP, Pv.cells] at hj; subst hj; simp
  | 3, hj => simp [rowsP, Pv.cells] at hj; subst hj; simp
  | j + 4, hj => simp [rowsP, Pv.cells] at hj
theorem lie4 (W : World) (a b c d e f g h : Int) (t : TypeId) {S : Nat} (hS : S = W.heap.size) : LieG (W.alloc (.cells #[.int .i64 a, .int .i64 b, .int .i64 c, .int .i64 d, .int .i64 e, .int .i64 f, .int .i64 g, .int .i64 h] t)) (some ⟨S, 0, none⟩) 4 4 (rowsP [(a, b), (c, d), (e, f), (g, h)]) := by
  subst hS
  intro _
  refine ⟨_, rfl, by simp, by omega, fun j u hj => ?_⟩
  match j, hj with
  | 0, hj => simp [rowsP, Pv.cells] at hj; subst hj; simp
  | 1, hj => simp [rowsP, Pv.cells] at hj; subst hj; simp
  | 2, hj => simp [rowsP, Pv.cells] at hj; subst hj; simp
  | 3, hj => simp [rowsP, Pv.cells] at hj; subst hj; simp
  | 4, hj => simp [rowsP, Pv.cells] at hj; subst hj; simp
  | 5, hj => simp [rowsP, Pv.cells] at hj; subst hj; simp
  | 6, hj => simp [rowsP, Pv.cells] at hj; subst hj; simp
  | 7, hj => simp [rowsP, Pv.cells] at hj; subst hj; simp
  | j + 8, hj => simp [rowsP, Pv.cells] at hj
set_option maxHeartbeats 2000000 in
set_option maxRecDepth 100000 in
theorem placesw (h x : Int) (w : World) (h1 : 0 ≤ h) (h2 : h < 18446744073709551616) (x1 : 0 ≤ x) (x2 : x < 18446744073709551616) :
    Calls Try.prog 44 #[.int .u64 h, .int .u64 x] w (IsClp w 2 (placesF h x).length (rowsP (placesF h x))) := by
  have hA := asw x w x1 x2
  have CA := Lib.hid hA
  have hF : placesF h x = dedP (placesL h x) := rfl
  have HF := Lib.hid hF
  have hPL : placesL h x = if asN x = 0 then [(bothP h (asO x)).1, (bothP h (asO x)).2] else [(bothP h (asO x)).1, (bothP h (asO x)).2, (bothP h (asN x)).1, (bothP h (asN x)).2] := rfl
  have c1 := fun W => bothw h (asO x) W h1 h2
  have c2 := fun W => bothw h (asN x) W h1 h2
  generalize asO x = o at *
  generalize asN x = m at *
  generalize bothP h o = p at *
  generalize bothP h m = q at *
  generalize placesF h x = F at *
  generalize placesL h x = PL at *
  obtain ⟨⟨p1, p2⟩, ⟨p3, p4⟩⟩ := p
  obtain ⟨⟨q1, q2⟩, ⟨q3, q4⟩⟩ := q
  have C1 := Lib.hid c1
  have C2 := Lib.hid c2
  clear hA hF c1 c2
  by_cases hm : m = 0
  · rw [if_pos hm] at hPL
    have HPL := Lib.hid hPL
    have hmb : (m == 0) = true := by simpa using hm
    clear hPL hm
    go_enter Try.func44, Try.ntmps44
    go_wp2_with fail
    refine CA.out.mono ?_
    rintro e w1 ⟨rfl, K1⟩
    have HK1 := Lib.hid K1
    clear K1
    go_wp2_with fail
    refine (C1.out _).mono ?_
    rintro e w2 ⟨rfl, K2⟩
    have HK2 := Lib.hid (below_then HK1.out K2)
    clear K2
    go_wp2_with fail
    refine (eachw (L := [(p1, p2), (p3, p4)]) (lie2 _ _ _ _ _ _ (by simp)) rfl (by decide)).mono ?_
    rintro e w3 ⟨a, rfl, hl, K3⟩
    rw [← HPL.out, ← HF.out] at hl
    have hb : Below w.heap.size w w3 := (((HK2.out.alloc HK2.out.size _).alloc (by have := HK2.out.size; simp; omega) _).alloc (by have := HK2.out.size; simp; omega) _).trans (K3.mono (by have := HK2.out.size; simp; omega))
    have hl2 : Lst w3 w.heap.size 2 (.slice a F.length F.length) F.length (rowsP F) := hl.mono (by have := HK2.out.size; simp; omega)
    have HB := Lib.hid hb
    have HL := Lib.hid hl2
    have hlen : (dedP [(p1, p2), (p3, p4)]).length = F.length := by rw [← HPL.out, ← HF.out]
    rw [hlen]
    clear hl K3 hb hl2 hlen
    go_wp2_with fail
    go_ret
    exact ⟨a, rfl, HL.out, HB.out⟩
  · rw [if_neg hm] at hPL
    have HPL := Lib.hid hPL
    have hmb : (m == 0) = false := by simpa using hm
    clear hPL hm
    go_enter Try.func44, Try.ntmps44
    go_wp2_with fail
    refine CA.out.mono ?_
    rintro e w1 ⟨rfl, K1⟩
    have HK1 := Lib.hid K1
    clear K1
    go_wp2_with fail
    refine (C1.out _).mono ?_
    rintro e w2 ⟨rfl, K2⟩
    have HK2 := Lib.hid (below_then HK1.out K2)
    clear K2
    go_wp2_with fail
    refine (C2.out _).mono ?_
    rintro e w3 ⟨rfl, K3⟩
    have s3 := K3.size
    simp at s3
    have c0 := (K3.cell (p := ⟨w2.heap.size, 0, none⟩) (by show w2.heap.size < _; simp; omega)).trans (show _ = some (.int .i64 p1) by simp [World.cell?_alloc_some])
    have c1 := (K3.cell (p := ⟨w2.heap.size, 1, none⟩) (by show w2.heap.size < _; simp; omega)).trans (show _ = some (.int .i64 p2) by simp [World.cell?_alloc_some])
    have c2 := (K3.cell (p := ⟨w2.heap.size + 1, 0, none⟩) (by show w2.heap.size + 1 < _; simp)).trans (show _ = some (.int .i64 p3) by simp)
    have c3 := (K3.cell (p := ⟨w2.heap.size + 1, 1, none⟩) (by show w2.heap.size + 1 < _; simp)).trans (show _ = some (.int .i64 p4) by simp)
    have HK3 := Lib.hid (((HK2.out.alloc HK2.out.size _).alloc (by have := HK2.out.size; simp; omega) _).trans (K3.mono (by have := HK2.out.size; simp; omega)))
    have l3 : w2.heap.size + 1 < w3.heap.size := by omega
    have l4 : w2.heap.size < w3.heap.size := by omega
    clear K3 s3
    go_wp2_with fail
    refine (eachw (L := [(p1, p2), (p3, p4), (q1, q2), (q3, q4)]) (lie4 _ _ _ _ _ _ _ _ _ _ (by simp)) rfl (by decide)).mono ?_
    rintro e w4 ⟨a, rfl, hl, K4⟩
    rw [← HPL.out, ← HF.out] at hl
    have hb : Below w.heap.size w w4 := (((HK3.out.alloc HK3.out.size _).alloc (by have := HK3.out.size; simp; omega) _).alloc (by have := HK3.out.size; simp; omega) _).trans (K4.mono (by have := HK3.out.size; simp; omega))
    have hl2 : Lst w4 w.heap.size 2 (.slice a F.length F.length) F.length (rowsP F) := hl.mono (by have := HK3.out.size; simp; omega)
    have HB := Lib.hid hb
    have HL := Lib.hid hl2
    have hlen : (dedP [(p1, p2), (p3, p4), (q1, q2), (q3, q4)]).length = F.length := by rw [← HPL.out, ← HF.out]
    rw [hlen]
    clear hl K4 hb hl2 hlen
    go_wp2_with fail
    go_ret
    exact ⟨a, rfl, HL.out, HB.out⟩
end Go.Proofs.Yteofbgbjibbdaac
