/- Lists of places: has, each, both, Places. -/
import Derived.Test.YteofbgbjibbdaacPl2
import Derived.Test.YteofbgbjibbdaacLst
import Derived.Deep.AppendLies
import Derived.LoopTactic
import Derived.OwnWalk
namespace Go.Proofs.Yteofbgbjibbdaac
open Go.RowKit
set_option linter.unusedVariables false

theorem info_place : (Try.prog.info? 39).map (fun i => (i.zero, i.size, i.bytes)) = some (some (.agg #[.int .i64 0, .int .i64 0]), 2, 16) := by kernel_rfl
/-- A place: its bits, its bucket. -/
abbrev Pv := Int × Int
def Pv.cells (p : Pv) : List Value := [.int .i64 p.1, .int .i64 p.2]
def rowsP (L : List Pv) : List Value := L.flatMap Pv.cells
theorem rowsP_len (L : List Pv) : (rowsP L).length = L.length * 2 := by
  induction L with
  | nil => rfl
  | cons x L ih => simp only [rowsP, List.flatMap_cons, List.length_append] at *; rw [ih]; simp [Pv.cells]; omega
theorem rowsP_snoc (L : List Pv) (x : Pv) : rowsP (L ++ [x]) = rowsP L ++ x.cells := by simp [rowsP]
theorem rowsP_at : ∀ (L : List Pv) (i j : Nat) (hi : i < L.length), j < 2 → (rowsP L)[i * 2 + j]? = L[i].cells[j]?
  | x :: L, 0, j, hi, hj => by
    simp only [rowsP, List.flatMap_cons, Nat.zero_mul, Nat.zero_add, List.getElem_cons_zero]
    rw [List.getElem?_append_left (by simp [Pv.cells]; omega)]
  | x :: L, i + 1, j, hi, hj => by
    have ih := rowsP_at L i j (by simpa using hi) hj
    simp only [rowsP, List.flatMap_cons, List.getElem_cons_succ] at *
    rw [List.getElem?_append_right (by simp [Pv.cells]; omega), ← ih]
    congr 1
    simp [Pv.cells]
    omega
/-- These values lie in a slice's block. -/
def LieG (w : World) (a : Option Addr) (cap n : Nat) (xs : List Value) : Prop := 0 < n → ∃ g, a = some ⟨g, 0, none⟩ ∧ g < w.heap.size ∧ n ≤ cap ∧ ∀ j u, xs[j]? = some u → w.cell? ⟨g, j, none⟩ = some u
theorem LieG.new {w w' : World} {a : Option Addr} {cap n : Nat} {xs : List Value} (h : LieG w a cap n xs) (hb : Below w.heap.size w w') : LieG w' a cap n xs := by
  intro hn
  obtain ⟨g, h1, h2, h3, h4⟩ := h hn
  exact ⟨g, h1, Nat.lt_of_lt_of_le h2 hb.size, h3, fun j u hj => (hb.cell (p := ⟨g, j, none⟩) h2).trans (h4 j u hj)⟩
theorem LieG.of {w : World} {B size n : Nat} {v : Value} {xs : List Value} (h : Lst w B size v n xs) : ∃ a cap, v = .slice a n cap ∧ cap ≤ maxLen ∧ n ≤ cap ∧ (a = none → n = 0 ∧ cap = 0) ∧ LieG w a cap n xs := by
  obtain ⟨hl, ⟨rfl, rfl⟩ | ⟨g, cap, rfl, hB, hg, hn, hc, hx⟩⟩ := h
  · exact ⟨none, 0, rfl, by unfold maxLen; omega, by omega, fun _ => ⟨rfl, rfl⟩, fun h => by omega⟩
  · exact ⟨_, cap, rfl, hc, hn, fun h => by simp at h, fun _ => ⟨g, rfl, hg, hn, fun j u hj => (hx j u hj).1⟩⟩
theorem LieG.place {w : World} {a : Option Addr} {cap n i : Nat} {L : List Pv} {b k : Int} (h : LieG w a cap n (rowsP L)) (hn : n = L.length) (hx : L[i]? = some (b, k)) : ∃ g, a = some ⟨g, 0, none⟩ ∧ g < w.heap.size ∧ i < n ∧ n ≤ cap ∧ w.cell? ⟨g, i * 2, none⟩ = some (.int .i64 b) ∧ w.cell? ⟨g, i * 2 + 1, none⟩ = some (.int .i64 k) := by
  have hi : i < L.length := by
    rcases Nat.lt_or_ge i L.length with h' | h'
    · exact h'
    · rw [List.getElem?_eq_none h'] at hx; simp at hx
  have hxx : L[i] = (b, k) := by rw [List.getElem?_eq_getElem hi] at hx; simpa using hx
  obtain ⟨g, h1, h2, h3, h4⟩ := h (by omega)
  refine ⟨g, h1, h2, by omega, h3, ?_, ?_⟩
  · have := rowsP_at L i 0 hi (by omega)
    rw [hxx] at this
    exact h4 _ _ this
  · have := rowsP_at L i 1 hi (by omega)
    rw [hxx] at this
    exact h4 _ _ this
theorem belowPd {B : Nat} {a w : World} (h : Below B a w) (n : Nat) : Below B a (w.drewN n) := by
  induction n with
  | zero => exact h
  | succ n ih => exact ih.drew
set_option maxHeartbeats 1000000 in
theorem has_no {w : World} {a : Option Addr} {cap n : Nat} {L : List Pv} (b k : Int) (h : LieG w a cap n (rowsP L)) (hn : n = L.length) (hM : n ≤ 1048576) (hno : (b, k) ∉ L) :
    Calls Try.prog 97 #[.slice a n cap, .agg #[.int .i64 b, .int .i64 k]] w fun e w' => e = .returned (.bool false) ∧ Below w.heap.size w w' := by
  have H := Lib.hid h
  have HN := Lib.hid hn
  have HNO := Lib.hid hno
  have hB0 : Below w.heap.size w (w.alloc (.cells #[.int .i64 b, .int .i64 k] 39)) := (Below.refl _ _).alloc (Nat.le_refl _) _
  clear h hn hno
  go_enter Try.func97, Try.ntmps97
  go_wp2_with fail
  have p0 : (w.alloc (.cells #[.int .i64 b, .int .i64 k] 39)).cell? ⟨w.heap.size, 0, none⟩ = some (.int .i64 b) := by simp
  have p1 : (w.alloc (.cells #[.int .i64 b, .int .i64 k] 39)).cell? ⟨w.heap.size, 1, none⟩ = some (.int .i64 k) := by simp
  have sW : (w.alloc (.cells #[.int .i64 b, .int .i64 k] 39)).heap.size = w.heap.size + 1 := by simp
  generalize (w.alloc (.cells #[.int .i64 b, .int .i64 k] 39)) = W at p0 p1 sW hB0 ⊢
  have P0 := Lib.hid p0
  have P1 := Lib.hid p1
  have SW := Lib.hid sW
  have HB0 := Lib.hid hB0
  clear p0 p1 sW hB0
  go_loopw [9] (fun i wr => ∃ k0 : Nat, k0 ≤ n ∧ i = .int .i64 k0 ∧ Below W.heap.size W wr) (fun i _ => n - (intOf i).toNat)
  case atStart => exact ⟨0, Nat.zero_le _, rfl, Below.refl _ _⟩
  case round =>
    obtain ⟨k0, hk0, rfl, hbel⟩ := hrel
    have hsz := hbel.size
    have sW := SW.out
    by_cases hlt : k0 < n
    · obtain ⟨⟨x1, x2⟩, hx⟩ : ∃ x, L[k0]? = some x := ⟨_, List.getElem?_eq_getElem (by have := HN.out; omega)⟩
      have hne : (x1, x2) ≠ (b, k) := fun e => HNO.out (by rw [← e]; exact List.mem_of_getElem? hx)
      obtain ⟨g, rfl, hg, -, hnc, e0, e1⟩ := ((H.out.new HB0.out).new hbel).place HN.out hx
      have q0 := (hbel.cell (p := ⟨w.heap.size, 0, none⟩) (by show w.heap.size < _; omega)).trans P0.out
      have q1 := (hbel.cell (p := ⟨w.heap.size, 1, none⟩) (by show w.heap.size < _; omega)).trans P1.out
      have hkc : k0 < cap := by omega
      have lt1 : w.heap.size < wr.heap.size := by omega
      have HS := Lib.hid hsz
      have HBE := Lib.hid hbel
      clear hx hbel hsz sW
      by_cases hb : x1 = b
      · subst hb
        have h2 : x2 ≠ k := fun e => hne (by rw [e])
        have c2 : (x2 == k) = false := by simpa using h2
        have c2' : decide (x2 = k) = false := decide_eq_false h2
        clear hne h2
        go_wp2_with fail
        go_roundw
        case rel => exact ⟨k0 + 1, by omega, by go_num, HBE.out.alloc (by have := HBE.out.size; omega) _⟩
        case measure => simp [intOf]; omega
      · have c1 : (x1 == b) = false := by simpa using hb
        have c1' : decide (x1 = b) = false := decide_eq_false hb
        clear hne hb
        go_wp2_with fail
        go_roundw
        case rel => exact ⟨k0 + 1, by omega, by go_num, HBE.out.alloc (by have := HBE.out.size; omega) _⟩
        case measure => simp [intOf]; omega
    · obtain rfl : n = k0 := by omega
      have hfin := HB0.out.trans (hbel.mono (by omega))
      clear hbel hsz sW
      go_wp2_with fail
      go_ret
      exact ⟨rfl, hfin⟩
set_option maxHeartbeats 1000000 in
theorem has_yes {w : World} {a : Option Addr} {cap n : Nat} {L : List Pv} (b k : Int) (h : LieG w a cap n (rowsP L)) (hn : n = L.length) (hM : n ≤ 1048576) (hno : (b, k) ∈ L) :
    Calls Try.prog 97 #[.slice a n cap, .agg #[.int .i64 b, .int .i64 k]] w fun e w' => e = .returned (.bool true) ∧ Below w.heap.size w w' := by
  have H := Lib.hid h
  have HN := Lib.hid hn
  have HNO := Lib.hid hno
  have hB0 : Below w.heap.size w (w.alloc (.cells #[.int .i64 b, .int .i64 k] 39)) := (Below.refl _ _).alloc (Nat.le_refl _) _
  clear h hn hno
  go_enter Try.func97, Try.ntmps97
  go_wp2_with fail
  have p0 : (w.alloc (.cells #[.int .i64 b, .int .i64 k] 39)).cell? ⟨w.heap.size, 0, none⟩ = some (.int .i64 b) := by simp
  have p1 : (w.alloc (.cells #[.int .i64 b, .int .i64 k] 39)).cell? ⟨w.heap.size, 1, none⟩ = some (.int .i64 k) := by simp
  have sW : (w.alloc (.cells #[.int .i64 b, .int .i64 k] 39)).heap.size = w.heap.size + 1 := by simp
  generalize (w.alloc (.cells #[.int .i64 b, .int .i64 k] 39)) = W at p0 p1 sW hB0 ⊢
  have P0 := Lib.hid p0
  have P1 := Lib.hid p1
  have SW := Lib.hid sW
  have HB0 := Lib.hid hB0
  clear p0 p1 sW hB0
  go_loopw [9] (fun i wr => ∃ k0 : Nat, k0 ≤ n ∧ i = .int .i64 k0 ∧ Below W.heap.size W wr ∧ Hid (∀ j, j < k0 → L[j]? ≠ some (b, k))) (fun i _ => n - (intOf i).toNat)
  case atStart => exact ⟨0, Nat.zero_le _, rfl, Below.refl _ _, Lib.hid (fun j h => by omega)⟩
  case round =>
    obtain ⟨k0, hk0, rfl, hbel, hall⟩ := hrel
    have hsz := hbel.size
    have sW := SW.out
    by_cases hlt : k0 < n
    · obtain ⟨⟨x1, x2⟩, hx⟩ : ∃ x, L[k0]? = some x := ⟨_, List.getElem?_eq_getElem (by have := HN.out; omega)⟩
      obtain ⟨g, rfl, hg, -, hnc, e0, e1⟩ := ((H.out.new HB0.out).new hbel).place HN.out hx
      have q0 := (hbel.cell (p := ⟨w.heap.size, 0, none⟩) (by show w.heap.size < _; omega)).trans P0.out
      have q1 := (hbel.cell (p := ⟨w.heap.size, 1, none⟩) (by show w.heap.size < _; omega)).trans P1.out
      have hkc : k0 < cap := by omega
      have lt1 : w.heap.size < wr.heap.size := by omega
      have HS := Lib.hid hsz
      have HBE := Lib.hid hbel
      have HX := Lib.hid hx
      have HALL := hall
      clear hx hbel hsz sW hall
      by_cases hb : x1 = b
      · subst hb
        by_cases h2 : x2 = k
        · subst h2
          have hfin := HB0.out.trans ((HBE.out.alloc (by have := HBE.out.size; omega) (.cells #[.int .i64 x1, .int .i64 x2] 39)).mono (by have := SW.out; omega))
          go_wp2_with fail
          go_ret
          exact ⟨rfl, hfin⟩
        have c2 : (x2 == k) = false := by simpa using h2
        have c2' : decide (x2 = k) = false := decide_eq_false h2
        have H2 := Lib.hid h2
        clear h2
        go_wp2_with fail
        go_roundw
        case rel => exact ⟨k0 + 1, by omega, by go_num, HBE.out.alloc (by have := HBE.out.size; omega) _, Lib.hid (fun j hj => by
          by_cases e : j = k0
          · subst e; rw [HX.out]; simp; exact H2.out
          · exact HALL.out j (by omega))⟩
        case measure => simp [intOf]; omega
      · have c1 : (x1 == b) = false := by simpa using hb
        have c1' : decide (x1 = b) = false := decide_eq_false hb
        have H2 := Lib.hid hb
        clear hb
        go_wp2_with fail
        go_roundw
        case rel => exact ⟨k0 + 1, by omega, by go_num, HBE.out.alloc (by have := HBE.out.size; omega) _, Lib.hid (fun j hj => by
          by_cases e : j = k0
          · subst e; rw [HX.out]; simp; exact fun h => absurd h H2.out
          · exact HALL.out j (by omega))⟩
        case measure => simp [intOf]; omega
    · exfalso
      obtain ⟨j, hj⟩ := List.getElem?_of_mem HNO.out
      have : j < L.length := by
        rcases Nat.lt_or_ge j L.length with h' | h'
        · exact h'
        · rw [List.getElem?_eq_none h'] at hj; simp at hj
      exact hall.out j (by have := HN.out; omega) hj
theorem clipp (a : Option Addr) (n c : Nat) (w : World) (hn : n ≤ c) (hc : c ≤ maxLen) (h0 : a = none → n = 0 ∧ c = 0) :
    Calls Try.prog 98 #[.slice a n c] w fun e w' => e = .returned (.slice a n n) ∧ w = w' := by
  unfold maxLen at hc
  cases a with
  | none =>
    obtain ⟨rfl, rfl⟩ := h0 rfl
    go_enter Try.func98, Try.ntmps98
    go_wp2
    go_ret
    exact ⟨rfl, rfl⟩
  | some a =>
    clear h0
    go_enter Try.func98, Try.ntmps98
    go_wp2
    go_ret
    exact ⟨rfl, rfl⟩
theorem own_belowP {w w' : World} {B e size n : Nat} {v : Value} {xs : List Value} (h : w.ownsRow B e size v n xs) (hb : Below w.heap.size w w') : w'.ownsRow B e size v n xs := by
  obtain ⟨hl, h | ⟨g, cap, cur, rfl, hB, hblk, r⟩⟩ := h
  · exact ⟨hl, .inl h⟩
  · have hlt : g < w.heap.size := by
      rcases Nat.lt_or_ge g w.heap.size with h | h
      · exact h
      · rw [Array.getElem?_eq_none h] at hblk; simp at hblk
    exact ⟨hl, .inr ⟨g, cap, cur, rfl, hB, (hb.block g hlt).trans hblk, r⟩⟩
theorem newsP {W : World} {x1 x2 : Int} {t : TypeId} {j : Nat} {u : Value} (hj : (Pv.cells (x1, x2))[j]? = some u) : (W.alloc (.cells #[.int .i64 x1, .int .i64 x2] t)).cell? ((⟨W.heap.size, 0, none⟩ : Addr).add j) = some u := by
  match j, hj with
  | 0, hj => simp [Pv.cells] at hj; subst hj; simp [Addr.add]
  | 1, hj => simp [Pv.cells] at hj; subst hj; simp [Addr.add]
  | j + 2, hj => simp [Pv.cells] at hj
/-- A place behind others, if it is not there. -/
def addP (D : List Pv) (p : Pv) : List Pv := if p ∈ D then D else D ++ [p]
def dedP (L : List Pv) : List Pv := L.foldl addP []
theorem dedP_snoc {L : List Pv} {k : Nat} {x : Pv} (h : L[k]? = some x) : dedP (L.take (k + 1)) = addP (dedP (L.take k)) x := by
  have hk : k < L.length := by
    rcases Nat.lt_or_ge k L.length with h' | h'
    · exact h'
    · rw [List.getElem?_eq_none h'] at h; simp at h
  rw [List.getElem?_eq_getElem hk] at h
  simp at h
  rw [List.take_succ_eq_append_getElem hk, h]
  simp [dedP]
theorem addP_len (D : List Pv) (p : Pv) : (addP D p).length ≤ D.length + 1 := by unfold addP; split <;> simp
theorem foldl_addP_len : ∀ (L M : List Pv), (L.foldl addP M).length ≤ M.length + L.length
  | [], M => by simp
  | x :: L, M => by
    have h1 := foldl_addP_len L (addP M x)
    have h2 := addP_len M x
    simp only [List.foldl_cons, List.length_cons]
    omega
theorem dedP_len (L : List Pv) : (dedP L).length ≤ L.length := by
  have := foldl_addP_len L []
  simpa [dedP] using this
/-- What a call hands back that has no room behind its end. -/
def IsClp (w : World) (size : Nat) (n : Nat) (xs : List Value) (e : Ending) (w' : World) : Prop := ∃ a, e = .returned (.slice a n n) ∧ Lst w' w.heap.size size (.slice a n n) n xs ∧ Below w.heap.size w w'
end Go.Proofs.Yteofbgbjibbdaac
