/- Lists of places: has, each, both, Places. -/
import Derived.Test.YtodppilfpemepaaGreatGPl
import Derived.Test.YtodppilfpemepaaGreatLst
import Derived.Deep.AppendLies
import Derived.LoopTactic
import Derived.OwnWalk
import Derived.IntWalk
import Derived.Deep.QuietTactic
import Derived.BigQuiet
import Derived.Deep.RegionHeld3
namespace Go.Proofs.YtodppilfpemepaaGreat
open Go.RowKit
set_option linter.unusedVariables false

theorem info_place : (Tryz.prog.info? 36).map (fun i => (i.zero, i.size, i.bytes)) = some (some (.agg #[.int .i64 0, .int .i64 0]), 2, 16) := by kernel_rfl
/-- A place: its bits, its bucket. -/
abbrev Pv := Int × Int
def Pv.cells (p : Pv) : List Value := [.int .i64 p.1, .int .i64 p.2]
def rowsP (L : List Pv) : List Value := L.flatMap Pv.cells
theorem rowsP_len (L : List Pv) : (rowsP L).length = L.length * 2 := by
  induction L with
  | nil => rfl
  | cons x L ih => simp only [rowsP, List.flatMap_cons, List.length_append] at *; rw [ih]; simp [Pv.cells]; omega
theorem rowsP_snoc (L : List Pv) (x : Pv) : rowsP (L ++ [x]) = rowsP L ++ x.cells := by simp [rowsP]
theorem rowsP_at : ∀ (L : List Pv) (i j : Nat) (hi : i < L.length), j < 2 → (rowsP L)[i * 2 + j]? = L[i].cells[j]?
  | x :: L, 0, j, hi, hj => by
    simp only [rowsP, List.flatMap_cons, Nat.zero_mul, Nat.zero_add, List.getElem_cons_zero]
    rw [List.getElem?_append_left (by simp [Pv.cells]; omega)]
  | x :: L, i + 1, j, hi, hj => by
    have ih := rowsP_at L i j (by simpa using hi) hj
    simp only [rowsP, List.flatMap_cons, List.getElem_cons_succ] at *
    rw [List.getElem?_append_right (by simp [Pv.cells]; omega), ← ih]
    congr 1
    simp [Pv.cells]
    omega
/-- These values lie in a slice's block. -/
def LieG (w : World) (a : Option Addr) (cap n : Nat) (xs : List Value) : Prop := 0 < n → ∃ g, a = some ⟨g, 0, none⟩ ∧ g < w.heap.size ∧ n ≤ cap ∧ ∀ j u, xs[j]? = some u → w.cell? ⟨g, j, none⟩ = some u
theorem LieG.new {w w' : World} {a : Option Addr} {cap n : Nat} {xs : List Value} (h : LieG w a cap n xs) (hb : Below w.heap.size w w') : LieG w' a cap n xs := by
  intro hn
  obtain ⟨g, h1, h2, h3, h4⟩ := h hn
  exact ⟨g, h1, Nat.lt_of_lt_of_le h2 hb.size, h3, fun j u hj => (hb.cell (p := ⟨g, j, none⟩) h2).trans (h4 j u hj)⟩
theorem LieG.of {w : World} {B size n : Nat} {v : Value} {xs : List Value} (h : Lst w B size v n xs) : ∃ a cap, v = .slice a n cap ∧ cap ≤ maxLen ∧ n ≤ cap ∧ (a = none → n = 0 ∧ cap = 0) ∧ LieG w a cap n xs := by
  obtain ⟨hl, ⟨rfl, rfl⟩ | ⟨g, cap, rfl, hB, hg, hn, hc, hx⟩⟩ := h
  · exact ⟨none, 0, rfl, by unfold maxLen; omega, by omega, fun _ => ⟨rfl, rfl⟩, fun h => by omega⟩
  · exact ⟨_, cap, rfl, hc, hn, fun h => by simp at h, fun _ => ⟨g, rfl, hg, hn, fun j u hj => (hx j u hj).1⟩⟩
theorem LieG.place {w : World} {a : Option Addr} {cap n i : Nat} {L : List Pv} {b k : Int} (h : LieG w a cap n (rowsP L)) (hn : n = L.length) (hx : L[i]? = some (b, k)) : ∃ g, a = some ⟨g, 0, none⟩ ∧ g < w.heap.size ∧ i < n ∧ n ≤ cap ∧ w.cell? ⟨g, i * 2, none⟩ = some (.int .i64 b) ∧ w.cell? ⟨g, i * 2 + 1, none⟩ = some (.int .i64 k) := by
  have hi : i < L.length := by
    rcases Nat.lt_or_ge i L.length with h' | h'
    · exact h'
    · rw [List.getElem?_eq_none h'] at hx; simp at hx
  have hxx : L[i] = (b, k) := by rw [List.getElem?_eq_getElem hi] at hx; simpa using hx
  obtain ⟨g, h1, h2, h3, h4⟩ := h (by omega)
  refine ⟨g, h1, h2, by omega, h3, ?_, ?_⟩
  · have := rowsP_at L i 0 hi (by omega)
    rw [hxx] at this
    exact h4 _ _ this
  · have := rowsP_at L i 1 hi (by omega)
    rw [hxx] at this
    exact h4 _ _ this
theorem belowPd {B : Nat} {a w : World} (h : Below B a w) (n : Nat) : Below B a (w.drewN n) := by
  induction n with
  | zero => exact h
  | succ n ih => exact ih.drew
set_option maxHeartbeats 1000000 in
theorem has_no {w : World} {a : Option Addr} {cap n : Nat} {L : List Pv} (b k : Int) (h : LieG w a cap n (rowsP L)) (hn : n = L.length) (hM : n ≤ 1048576) (hno : (b, k) ∉ L) :
    Calls Tryz.prog 123 #[.slice a n cap, .agg #[.int .i64 b, .int .i64 k]] w fun e w' => e = .returned (.bool false) ∧ Below w.heap.size w w' := by
  have H := Lib.hid h
  have HN := Lib.hid hn
  have HNO := Lib.hid hno
  have hB0 : Below w.heap.size w (w.alloc (.cells #[.int .i64 b, .int .i64 k] 36)) := (Below.refl _ _).alloc (Nat.le_refl _) _
  clear h hn hno
  go_enter Tryz.func123, Tryz.ntmps123
  go_wp2_with fail
  have p0 : (w.alloc (.cells #[.int .i64 b, .int .i64 k] 36)).cell? ⟨w.heap.size, 0, none⟩ = some (.int .i64 b) := by simp
  have p1 : (w.alloc (.cells #[.int .i64 b, .int .i64 k] 36)).cell? ⟨w.heap.size, 1, none⟩ = some (.int .i64 k) := by simp
  have sW : (w.alloc (.cells #[.int .i64 b, .int .i64 k] 36)).heap.size = w.heap.size + 1 := by simp
  generalize (w.alloc (.cells #[.int .i64 b, .int .i64 k] 36)) = W at p0 p1 sW hB0 ⊢
  have P0 := Lib.hid p0
  have P1 := Lib.hid p1
  have SW := Lib.hid sW
  have HB0 := Lib.hid hB0
  clear p0 p1 sW hB0
  go_loopw [9] (fun i wr => ∃ k0 : Nat, k0 ≤ n ∧ i = .int .i64 k0 ∧ Below W.heap.size W wr) (fun i _ => n - (intOf i).toNat)
  case atStart => exact ⟨0, Nat.zero_le _, rfl, Below.refl _ _⟩
  case round =>
    obtain ⟨k0, hk0, rfl, hbel⟩ := hrel
    have hsz := hbel.size
    have sW := SW.out
    by_cases hlt : k0 < n
    · obtain ⟨⟨x1, x2⟩, hx⟩ : ∃ x, L[k0]? = some x := ⟨_, List.getElem?_eq_getElem (by have := HN.out; omega)⟩
      have hne : (x1, x2) ≠ (b, k) := fun e => HNO.out (by rw [← e]; exact List.mem_of_getElem? hx)
      obtain ⟨g, rfl, hg, -, hnc, e0, e1⟩ := ((H.out.new HB0.out).new hbel).place HN.out hx
      have q0 := (hbel.cell (p := ⟨w.heap.size, 0, none⟩) (by show w.heap.size < _; omega)).trans P0.out
      have q1 := (hbel.cell (p := ⟨w.heap.size, 1, none⟩) (by show w.heap.size < _; omega)).trans P1.out
      have hkc : k0 < cap := by omega
      have lt1 : w.heap.size < wr.heap.size := by omega
      have HS := Lib.hid hsz
      have HBE := Lib.hid hbel
      clear hx hbel hsz sW
      by_cases hb : x1 = b
      · subst hb
        have h2 : x2 ≠ k := fun e => hne (by rw [e])
        have c2 : (x2 == k) = false := by simpa using h2
        have c2' : decide (x2 = k) = false := decide_eq_false h2
        clear hne h2
        go_wp2_with fail
        go_roundw
        case rel => exact ⟨k0 + 1, by omega, by go_num, HBE.out.alloc (by have := HBE.out.size; omega) _⟩
        case measure => simp [intOf]; omega
      · have c1 : (x1 == b) = false := by simpa using hb
        have c1' : decide (x1 = b) = false := decide_eq_false hb
        clear hne hb
        go_wp2_with fail
        go_roundw
        case rel => exact ⟨k0 + 1, by omega, by go_num, HBE.out.alloc (by have := HBE.out.size; omega) _⟩
        case measure => simp [intOf]; omega
    · obtain rfl : n = k0 := by omega
      have hfin := HB0.out.trans (hbel.mono (by omega))
      clear hbel hsz sW
      go_wp2_with fail
      go_ret
      exact ⟨rfl, hfin⟩
set_option maxHeartbeats 1000000 in
theorem has_yes {w : World} {a : Option Addr} {cap n : Nat} {L : List Pv} (b k : Int) (h : LieG w a cap n (rowsP L)) (hn : n = L.length) (hM : n ≤ 1048576) (hno : (b, k) ∈ L) :
    Calls Tryz.prog 123 #[.slice a n cap, .agg #[.int .i64 b, .int .i64 k]] w fun e w' => e = .returned (.bool true) ∧ Below w.heap.size w w' := by
  have H := Lib.hid h
  have HN := Lib.hid hn
  have HNO := Lib.hid hno
  have hB0 : Below w.heap.size w (w.alloc (.cells #[.int .i64 b, .int .i64 k] 36)) := (Below.refl _ _).alloc (Nat.le_refl _) _
  clear h hn hno
  go_enter Tryz.func123, Tryz.ntmps123
  go_wp2_with fail
  have p0 : (w.alloc (.cells #[.int .i64 b, .int .i64 k] 36)).cell? ⟨w.heap.size, 0, none⟩ = some (.int .i64 b) := by simp
  have p1 : (w.alloc (.cells #[.int .i64 b, .int .i64 k] 36)).cell? ⟨w.heap.size, 1, none⟩ = some (.int .i64 k) := by simp
  have sW : (w.alloc (.cells #[.int .i64 b, .int .i64 k] 36)).heap.size = w.heap.size + 1 := by simp
  generalize (w.alloc (.cells #[.int .i64 b, .int .i64 k] 36)) = W at p0 p1 sW hB0 ⊢
  have P0 := Lib.hid p0
  have P1 := Lib.hid p1
  have SW := Lib.hid sW
  have HB0 := Lib.hid hB0
  clear p0 p1 sW hB0
  go_loopw [9] (fun i wr => ∃ k0 : Nat, k0 ≤ n ∧ i = .int .i64 k0 ∧ Below W.heap.size W wr ∧ Hid (∀ j, j < k0 → L[j]? ≠ some (b, k))) (fun i _ => n - (intOf i).toNat)
  case atStart => exact ⟨0, Nat.zero_le _, rfl, Below.refl _ _, Lib.hid (fun j h => by omega)⟩
  case round =>
    obtain ⟨k0, hk0, rfl, hbel, hall⟩ := hrel
    have hsz := hbel.size
    have sW := SW.out
    by_cases hlt : k0 < n
    · obtain ⟨⟨x1, x2⟩, hx⟩ : ∃ x, L[k0]? = some x := ⟨_, List.getElem?_eq_getElem (by have := HN.out; omega)⟩
      obtain ⟨g, rfl, hg, -, hnc, e0, e1⟩ := ((H.out.new HB0.out).new hbel).place HN.out hx
      have q0 := (hbel.cell (p := ⟨w.heap.size, 0, none⟩) (by show w.heap.size < _; omega)).trans P0.out
      have q1 := (hbel.cell (p := ⟨w.heap.size, 1, none⟩) (by show w.heap.size < _; omega)).trans P1.out
      have hkc : k0 < cap := by omega
      have lt1 : w.heap.size < wr.heap.size := by omega
      have HS := Lib.hid hsz
      have HBE := Lib.hid hbel
      have HX := Lib.hid hx
      have HALL := hall
      clear hx hbel hsz sW hall
      by_cases hb : x1 = b
      · subst hb
        by_cases h2 : x2 = k
        · subst h2
          have hfin := HB0.out.trans ((HBE.out.alloc (by have := HBE.out.size; omega) (.cells #[.int .i64 x1, .int .i64 x2] 36)).mono (by have := SW.out; omega))
          go_wp2_with fail
          go_ret
          exact ⟨rfl, hfin⟩
        have c2 : (x2 == k) = false := by simpa using h2
        have c2' : decide (x2 = k) = false := decide_eq_false h2
        have H2 := Lib.hid h2
        clear h2
        go_wp2_with fail
        go_roundw
        case rel => exact ⟨k0 + 1, by omega, by go_num, HBE.out.alloc (by have := HBE.out.size; omega) _, Lib.hid (fun j hj => by
          by_cases e : j = k0
          · subst e; rw [HX.out]; simp; exact H2.out
          · exact HALL.out j (by omega))⟩
        case measure => simp [intOf]; omega
      · have c1 : (x1 == b) = false := by simpa using hb
        have c1' : decide (x1 = b) = false := decide_eq_false hb
        have H2 := Lib.hid hb
        clear hb
        go_wp2_with fail
        go_roundw
        case rel => exact ⟨k0 + 1, by omega, by go_num, HBE.out.alloc (by have := HBE.out.size; omega) _, Lib.hid (fun j hj => by
          by_cases e : j = k0
          · subst e; rw [HX.out]; simp; exact fun h => absurd h H2.out
          · exact HALL.out j (by omega))⟩
        case measure => simp [intOf]; omega
    · exfalso
      obtain ⟨j, hj⟩ := List.getElem?_of_mem HNO.out
      have : j < L.length := by
        rcases Nat.lt_or_ge j L.length with h' | h'
        · exact h'
        · rw [List.getElem?_eq_none h'] at hj; simp at hj
      exact hall.out j (by have := HN.out; omega) hj
theorem clipp (a : Option Addr) (n c : Nat) (w : World) (hn : n ≤ c) (hc : c ≤ maxLen) (h0 : a = none → n = 0 ∧ c = 0) :
    Calls Tryz.prog 124 #[.slice a n c] w fun e w' => e = .returned (.slice a n n) ∧ w = w' := by
  unfold maxLen at hc
  cases a with
  | none =>
    obtain ⟨rfl, rfl⟩ := h0 rfl
    go_enter Tryz.func124, Tryz.ntmps124
    go_wp2
    go_ret
    exact ⟨rfl, rfl⟩
  | some a =>
    clear h0
    go_enter Tryz.func124, Tryz.ntmps124
    go_wp2
    go_ret
    exact ⟨rfl, rfl⟩
theorem own_belowP {w w' : World} {B e size n : Nat} {v : Value} {xs : List Value} (h : w.ownsRow B e size v n xs) (hb : Below w.heap.size w w') : w'.ownsRow B e size v n xs := by
  obtain ⟨hl, h | ⟨g, cap, cur, rfl, hB, hblk, r⟩⟩ := h
  · exact ⟨hl, .inl h⟩
  · have hlt : g < w.heap.size := by
      rcases Nat.lt_or_ge g w.heap.size with h | h
      · exact h
      · rw [Array.getElem?_eq_none h] at hblk; simp at hblk
    exact ⟨hl, .inr ⟨g, cap, cur, rfl, hB, (hb.block g hlt).trans hblk, r⟩⟩
theorem newsP {W : World} {x1 x2 : Int} {t : TypeId} {j : Nat} {u : Value} (hj : (Pv.cells (x1, x2))[j]? = some u) : (W.alloc (.cells #[.int .i64 x1, .int .i64 x2] t)).cell? ((⟨W.heap.size, 0, none⟩ : Addr).add j) = some u := by
  match j, hj with
  | 0, hj => simp [Pv.cells] at hj; subst hj; simp [Addr.add]
  | 1, hj => simp [Pv.cells] at hj; subst hj; simp [Addr.add]
  | j + 2, hj => simp [Pv.cells] at hj
/-- A place behind others, if it is not there. -/
def addP (D : List Pv) (p : Pv) : List Pv := if p ∈ D then D else D ++ [p]
def dedP (L : List Pv) : List Pv := L.foldl addP []
theorem dedP_snoc {L : List Pv} {k : Nat} {x : Pv} (h : L[k]? = some x) : dedP (L.take (k + 1)) = addP (dedP (L.take k)) x := by
  have hk : k < L.length := by
    rcases Nat.lt_or_ge k L.length with h' | h'
    · exact h'
    · rw [List.getElem?_eq_none h'] at h; simp at h
  rw [List.getElem?_eq_getElem hk] at h
  simp at h
  rw [List.take_succ_eq_append_getElem hk, h]
  simp [dedP]
theorem addP_len (D : List Pv) (p : Pv) : (addP D p).length ≤ D.length + 1 := by unfold addP; split <;> simp
theorem foldl_addP_len : ∀ (L M : List Pv), (L.foldl addP M).length ≤ M.length + L.length
  | [], M => by simp
  | x :: L, M => by
    have h1 := foldl_addP_len L (addP M x)
    have h2 := addP_len M x
    simp only [List.foldl_cons, List.length_cons]
    omega
theorem dedP_len (L : List Pv) : (dedP L).length ≤ L.length := by
  have := foldl_addP_len L []
  simpa [dedP] using this
/-- What a call hands back that has no room behind its end. -/
def IsClp (w : World) (size : Nat) (n : Nat) (xs : List Value) (e : Ending) (w' : World) : Prop := ∃ a, e = .returned (.slice a n n) ∧ Lst w' w.heap.size size (.slice a n n) n xs ∧ Below w.heap.size w w'
end Go.Proofs.YtodppilfpemepaaGreat
/- Next: Lists of places: each, both, Places. -/
namespace Go.Proofs.YtodppilfpemepaaGreat
open Go.RowKit
set_option linter.unusedVariables false

theorem Lst.len {w : World} {B size m c n : Nat} {a : Option Addr} {xs : List Value} (h : Lst w B size (.slice a m c) n xs) : m = n := by
  obtain ⟨hl, ⟨e, h0⟩ | ⟨g, cap, e, _⟩⟩ := h
  · injection e with _ e2 _; omega
  · injection e
set_option maxHeartbeats 1000000 in
set_option maxRecDepth 100000 in
theorem eachw {w : World} {a : Option Addr} {cap n : Nat} {L : List Pv} (h : LieG w a cap n (rowsP L)) (hn : n = L.length) (hM : n ≤ 1048576) :
    Calls Tryz.prog 92 #[.slice a n cap] w (IsClp w 2 (dedP L).length (rowsP (dedP L))) := by
  obtain ⟨i0, hi, hz0, hz1, hz2⟩ := info_parts info_place
  have H := Lib.hid h
  have HN := Lib.hid hn
  clear h hn
  go_enter Tryz.func92, Tryz.ntmps92
  go_wp2_with fail
  obtain ⟨C, hC⟩ : ∃ C, C = w.heap.size := ⟨_, rfl⟩
  have HC := Lib.hid hC
  have hCl : C ≤ w.heap.size := by omega
  clear hC
  go_loopw [3, 8] (fun o i wr => ∃ (k0 : Nat), k0 ≤ n ∧ i = .int .i64 k0 ∧ wr.ownsRow C 36 2 o (dedP (L.take k0)).length (rowsP (dedP (L.take k0))) ∧ Below C w wr) (fun _ i _ => n - (intOf i).toNat)
  case atStart => exact ⟨0, Nat.zero_le _, rfl, World.ownsRow_nil _ _ _ _, Below.refl _ _⟩
  case round =>
    obtain ⟨k0, hk0, rfl, hown, hbel⟩ := hrel
    have hsz := hbel.size
    have hlen : (dedP (L.take k0)).length ≤ k0 := Nat.le_trans (dedP_len _) (List.length_take_le _ _)
    by_cases hlt : k0 < n
    · obtain ⟨⟨x1, x2⟩, hx⟩ : ∃ x, L[k0]? = some x := ⟨_, List.getElem?_eq_getElem (by have := HN.out; omega)⟩
      have hsn := dedP_snoc hx
      have hbw : Below w.heap.size w wr := by rw [← HC.out]; exact hbel
      obtain ⟨g, rfl, hg, -, hnc, e0, e1⟩ := (H.out.new hbw).place HN.out hx
      obtain ⟨a', c', hv, hcm, hnc', h0, hlie⟩ := LieG.of (Lst.of_own hown)
      rename_i u3
      generalize dedP (L.take k0) = D at *
      obtain ⟨m, hm⟩ : ∃ m, m = D.length := ⟨_, rfl⟩
      rw [← hm] at hv hown hlen hlie hnc' h0
      have HM := Lib.hid hm
      have HSN := Lib.hid hsn
      have hkc : k0 < cap := by omega
      have hb1 : ∀ o, Below C w (wr.alloc o) := fun o => hbel.alloc (by omega) o
      have HB1 := Lib.hid hb1
      have hl1 : ∀ o, LieG (wr.alloc o) a' c' m (rowsP D) := fun o => hlie.new ((Below.refl _ _).alloc (Nat.le_refl _) o)
      have HL1 := Lib.hid hl1
      have HOWN := Lib.hid hown
      have HV := Lib.hid hv
      clear hx hbel hbw hm hsn hb1 hl1 hown hlie hcm h0
      subst hv
      by_cases hin : (x1, x2) ∈ D
      · have C1 := Lib.hid (has_yes (w := wr.alloc (.cells #[.int .i64 x1, .int .i64 x2] 36)) x1 x2 (HL1.out _) HM.out (by omega) hin)
        have HIN := Lib.hid hin
        clear hin
        go_wp2_with fail
        refine C1.out.mono ?_
        rintro e w2 ⟨rfl, K2⟩
        have KK := Lib.hid K2
        clear K2
        go_wp2_with fail
        go_roundw
        case rel => exact ⟨k0 + 1, by omega, by go_num, by rw [HSN.out]; unfold addP; rw [if_pos HIN.out, ← HM.out]; exact own_belowP (HOWN.out.alloc _) KK.out, (HB1.out _).trans (KK.out.mono (by simp; omega))⟩
        case measure => simp [intOf]; omega
      · have C1 := Lib.hid (has_no (w := wr.alloc (.cells #[.int .i64 x1, .int .i64 x2] 36)) x1 x2 (HL1.out _) HM.out (by omega) hin)
        have HIN := Lib.hid hin
        clear hin
        go_wp2_with fail
        refine C1.out.mono ?_
        rintro e w2 ⟨rfl, K2⟩
        have q0 := (K2.cell (p := ⟨wr.heap.size, 0, none⟩) (by simp)).trans (show _ = some (.int .i64 x1) by simp)
        have q1 := (K2.cell (p := ⟨wr.heap.size, 1, none⟩) (by simp)).trans (show _ = some (.int .i64 x2) by simp)
        have hown2 := own_belowP (HOWN.out.alloc _) K2
        have hbn := (HB1.out _).trans (K2.mono (by simp; omega))
        have HBN := Lib.hid hbn
        have sbn := hbn.size
        have HO2 := Lib.hid hown2
        clear K2 hown2 hbn
        go_wp2_with (at_builtin; refine wpList_append_lies _ rfl (.tmp 16) (.tmp 18) 52 rfl C 36 i0 (.agg #[.int .i64 0, .int .i64 0]) 2 16 Tryz.underlying52 hi hz0 hz1 hz2 rfl (by decide) (.slice a' m c') m (rowsP D) rfl (HO2.out.alloc _) ⟨w2.heap.size, 0, none⟩ 1 1 (Pv.cells (x1, x2)) rfl rfl (by intro j u hj; exact newsP hj) (by simp [Pv.cells, Value.oneCell']) (by decide) (by unfold maxLen; omega) (by omega) (by simp; omega) (w2.heap.size + 1) (by simp) ?_; intro g' cap' w3 hown3 hgrow hat hltg)
        have hb3 : Below C w w3 := app_below HO2.out HBN.out (by omega) hgrow
        have HB3 := Lib.hid hb3
        have HO3 := Lib.hid hown3
        clear hb3 hown3 hgrow hat hltg q0 q1
        go_wp2_with fail
        go_roundw
        case rel => exact ⟨k0 + 1, by omega, by go_num, by rw [HSN.out]; unfold addP; rw [if_neg HIN.out, List.length_append, ← HM.out, rowsP_snoc]; exact HO3.out, HB3.out⟩
        case measure => simp [intOf]; omega
    · obtain rfl : n = k0 := by omega
      rw [List.take_of_length_le (by have := HN.out; omega)] at hown hlen
      obtain ⟨a', m', c', hv, hmc, hcm, h0, hl⟩ := lst_clip hown
      have hml := hl.len
      have HLL := Lib.hid hl
      have HBB := Lib.hid hbel
      generalize (dedP L).length = m at *
      subst hml
      subst hv
      clear hown hl hbel
      go_wp2_with fail
      refine (clipp _ _ _ _ hmc hcm h0).mono ?_
      rintro e w2 ⟨rfl, rfl⟩
      go_wp2_with fail
      go_ret
      exact ⟨a', rfl, by rw [← HC.out]; exact HLL.out, by rw [← HC.out]; exact HBB.out⟩
/-- Both places of a hash in a table. -/
def tagF (h : Int) : Int := max 1 (h / 72057594037927936)
def bothP (h b : Int) : Pv × Pv := ((b, bkt h b), (b, othf (bkt h b) (tagF h) b))
set_option maxHeartbeats 1000000 in
theorem bothw (h b : Int) (w : World) (h1 : 0 ≤ h) (h2 : h < 18446744073709551616) :
    Calls Tryz.prog 91 #[.int .u64 h, .int .i64 b] w fun e w' => e = .returned (.tuple #[.agg #[.int .i64 (bothP h b).1.1, .int .i64 (bothP h b).1.2], .agg #[.int .i64 (bothP h b).2.1, .int .i64 (bothP h b).2.2]]) ∧ Below w.heap.size w w' := by
  have c1 := fun W => bucket_any h b W h1 h2
  have c2 := fun W => tag h W h1 h2
  have C1 := Lib.hid c1
  have C2 := Lib.hid c2
  unfold bothP tagF
  simp only
  generalize max 1 (h / 72057594037927936) = t at *
  generalize bkt h b = k at *
  clear c1 c2
  go_enter Tryz.func91, Tryz.ntmps91
  go_wp2_with (first
    | (go_at_call 27; ((with_reducible refine (C1.out _).mono ?_); rintro e w' ⟨rfl, rfl⟩))
    | (go_at_call 29; ((with_reducible refine (C2.out _).mono ?_); rintro e w' ⟨rfl, rfl⟩))
    | (go_at_call 28; ((with_reducible refine (other_any _ _ _ _).mono ?_); rintro e w' ⟨rfl, rfl⟩)))
  refine bodyPost_ret (v := .tuple #[.agg #[.int .i64 b, .int .i64 k], .agg #[.int .i64 b, .int .i64 (othf k t b)]]) (by simp [results, Tryz.results91, go_sem]) rfl ⟨rfl, ?_⟩
  exact ((Below.refl _ _).alloc (Nat.le_refl _) _).alloc (by simp) _
end Go.Proofs.YtodppilfpemepaaGreat
/- Next: A key's places. -/
namespace Go.Proofs.YtodppilfpemepaaGreat
open Go.RowKit
set_option linter.unusedVariables false

def placesL (h x : Int) : List Pv := if asN x = 0 then [(bothP h (asO x)).1, (bothP h (asO x)).2] else [(bothP h (asO x)).1, (bothP h (asO x)).2, (bothP h (asN x)).1, (bothP h (asN x)).2]
/-- The places of a hash by a tables' word. -/
def placesF (h x : Int) : List Pv := dedP (placesL h x)
theorem lie2 (W : World) (a b c d : Int) (t : TypeId) {S : Nat} (hS : S = W.heap.size) : LieG (W.alloc (.cells #[.int .i64 a, .int .i64 b, .int .i64 c, .int .i64 d] t)) (some ⟨S, 0, none⟩) 2 2 (rowsP [(a, b), (c, d)]) := by
  subst hS
  intro _
  refine ⟨_, rfl, by simp, by omega, fun j u hj => ?_⟩
  match j, hj with
  | 0, hj => simp [rowsP, Pv.cells] at hj; subst hj; simp
  | 1, hj => simp [rowsP, Pv.cells] at hj; subst hj; simp
  | 2, hj => simp [rowsP, Pv.cells] at hj; subst hj; simp
  | 3, hj => simp [rowsP, Pv.cells] at hj; subst hj; simp
  | j + 4, hj => simp [rowsP, Pv.cells] at hj
theorem lie4 (W : World) (a b c d e f g h : Int) (t : TypeId) {S : Nat} (hS : S = W.heap.size) : LieG (W.alloc (.cells #[.int .i64 a, .int .i64 b, .int .i64 c, .int .i64 d, .int .i64 e, .int .i64 f, .int .i64 g, .int .i64 h] t)) (some ⟨S, 0, none⟩) 4 4 (rowsP [(a, b), (c, d), (e, f), (g, h)]) := by
  subst hS
  intro _
  refine ⟨_, rfl, by simp, by omega, fun j u hj => ?_⟩
  match j, hj with
  | 0, hj => simp [rowsP, Pv.cells] at hj; subst hj; simp
  | 1, hj => simp [rowsP, Pv.cells] at hj; subst hj; simp
  | 2, hj => simp [rowsP, Pv.cells] at hj; subst hj; simp
  | 3, hj => simp [rowsP, Pv.cells] at hj; subst hj; simp
  | 4, hj => simp [rowsP, Pv.cells] at hj; subst hj; simp
  | 5, hj => simp [rowsP, Pv.cells] at hj; subst hj; simp
  | 6, hj => simp [rowsP, Pv.cells] at hj; subst hj; simp
  | 7, hj => simp [rowsP, Pv.cells] at hj; subst hj; simp
  | j + 8, hj => simp [rowsP, Pv.cells] at hj
set_option maxHeartbeats 2000000 in
set_option maxRecDepth 100000 in
theorem placesw (h x : Int) (w : World) (h1 : 0 ≤ h) (h2 : h < 18446744073709551616) (x1 : 0 ≤ x) (x2 : x < 18446744073709551616) :
    Calls Tryz.prog 46 #[.int .u64 h, .int .u64 x] w (IsClp w 2 (placesF h x).length (rowsP (placesF h x))) := by
  have hA := asw x w x1 x2
  have CA := Lib.hid hA
  have hF : placesF h x = dedP (placesL h x) := rfl
  have HF := Lib.hid hF
  have hPL : placesL h x = if asN x = 0 then [(bothP h (asO x)).1, (bothP h (asO x)).2] else [(bothP h (asO x)).1, (bothP h (asO x)).2, (bothP h (asN x)).1, (bothP h (asN x)).2] := rfl
  have c1 := fun W => bothw h (asO x) W h1 h2
  have c2 := fun W => bothw h (asN x) W h1 h2
  generalize asO x = o at *
  generalize asN x = m at *
  generalize bothP h o = p at *
  generalize bothP h m = q at *
  generalize placesF h x = F at *
  generalize placesL h x = PL at *
  obtain ⟨⟨p1, p2⟩, ⟨p3, p4⟩⟩ := p
  obtain ⟨⟨q1, q2⟩, ⟨q3, q4⟩⟩ := q
  have C1 := Lib.hid c1
  have C2 := Lib.hid c2
  clear hA hF c1 c2
  by_cases hm : m = 0
  · rw [if_pos hm] at hPL
    have HPL := Lib.hid hPL
    have hmb : (m == 0) = true := by simpa using hm
    clear hPL hm
    go_enter Tryz.func46, Tryz.ntmps46
    go_wp2_with fail
    refine CA.out.mono ?_
    rintro e w1 ⟨rfl, K1⟩
    have HK1 := Lib.hid K1
    clear K1
    go_wp2_with fail
    refine (C1.out _).mono ?_
    rintro e w2 ⟨rfl, K2⟩
    have HK2 := Lib.hid (below_then HK1.out K2)
    clear K2
    go_wp2_with fail
    refine (eachw (L := [(p1, p2), (p3, p4)]) (lie2 _ _ _ _ _ _ (by simp)) rfl (by decide)).mono ?_
    rintro e w3 ⟨a, rfl, hl, K3⟩
    rw [← HPL.out, ← HF.out] at hl
    have hb : Below w.heap.size w w3 := (((HK2.out.alloc HK2.out.size _).alloc (by have := HK2.out.size; simp; omega) _).alloc (by have := HK2.out.size; simp; omega) _).trans (K3.mono (by have := HK2.out.size; simp; omega))
    have hl2 : Lst w3 w.heap.size 2 (.slice a F.length F.length) F.length (rowsP F) := hl.mono (by have := HK2.out.size; simp; omega)
    have HB := Lib.hid hb
    have HL := Lib.hid hl2
    have hlen : (dedP [(p1, p2), (p3, p4)]).length = F.length := by rw [← HPL.out, ← HF.out]
    rw [hlen]
    clear hl K3 hb hl2 hlen
    go_wp2_with fail
    go_ret
    exact ⟨a, rfl, HL.out, HB.out⟩
  · rw [if_neg hm] at hPL
    have HPL := Lib.hid hPL
    have hmb : (m == 0) = false := by simpa using hm
    clear hPL hm
    go_enter Tryz.func46, Tryz.ntmps46
    go_wp2_with fail
    refine CA.out.mono ?_
    rintro e w1 ⟨rfl, K1⟩
    have HK1 := Lib.hid K1
    clear K1
    go_wp2_with fail
    refine (C1.out _).mono ?_
    rintro e w2 ⟨rfl, K2⟩
    have HK2 := Lib.hid (below_then HK1.out K2)
    clear K2
    go_wp2_with fail
    refine (C2.out _).mono ?_
    rintro e w3 ⟨rfl, K3⟩
    have s3 := K3.size
    simp at s3
    have c0 := (K3.cell (p := ⟨w2.heap.size, 0, none⟩) (by show w2.heap.size < _; simp; omega)).trans (show _ = some (.int .i64 p1) by simp [World.cell?_alloc_some])
    have c1 := (K3.cell (p := ⟨w2.heap.size, 1, none⟩) (by show w2.heap.size < _; simp; omega)).trans (show _ = some (.int .i64 p2) by simp [World.cell?_alloc_some])
    have c2 := (K3.cell (p := ⟨w2.heap.size + 1, 0, none⟩) (by show w2.heap.size + 1 < _; simp)).trans (show _ = some (.int .i64 p3) by simp)
    have c3 := (K3.cell (p := ⟨w2.heap.size + 1, 1, none⟩) (by show w2.heap.size + 1 < _; simp)).trans (show _ = some (.int .i64 p4) by simp)
    have HK3 := Lib.hid (((HK2.out.alloc HK2.out.size _).alloc (by have := HK2.out.size; simp; omega) _).trans (K3.mono (by have := HK2.out.size; simp; omega)))
    have l3 : w2.heap.size + 1 < w3.heap.size := by omega
    have l4 : w2.heap.size < w3.heap.size := by omega
    clear K3 s3
    go_wp2_with fail
    refine (eachw (L := [(p1, p2), (p3, p4), (q1, q2), (q3, q4)]) (lie4 _ _ _ _ _ _ _ _ _ _ (by simp)) rfl (by decide)).mono ?_
    rintro e w4 ⟨a, rfl, hl, K4⟩
    rw [← HPL.out, ← HF.out] at hl
    have hb : Below w.heap.size w w4 := (((HK3.out.alloc HK3.out.size _).alloc (by have := HK3.out.size; simp; omega) _).alloc (by have := HK3.out.size; simp; omega) _).trans (K4.mono (by have := HK3.out.size; simp; omega))
    have hl2 : Lst w4 w.heap.size 2 (.slice a F.length F.length) F.length (rowsP F) := hl.mono (by have := HK3.out.size; simp; omega)
    have HB := Lib.hid hb
    have HL := Lib.hid hl2
    have hlen : (dedP [(p1, p2), (p3, p4), (q1, q2), (q3, q4)]).length = F.length := by rw [← HPL.out, ← HF.out]
    rw [hlen]
    clear hl K4 hb hl2 hlen
    go_wp2_with fail
    go_ret
    exact ⟨a, rfl, HL.out, HB.out⟩
end Go.Proofs.YtodppilfpemepaaGreat
/- Next: The chapter's places. -/
namespace Go.Proofs.YtodppilfpemepaaGreat
open Go.RowKit
set_option linter.unusedVariables false

/-- What 'with' leaves. -/
def WithP (C : Nat) (w : World) (D : List Pv) (e : Ending) (w' : World) : Prop := ∃ v', e = .returned v' ∧ w'.ownsRow C 36 2 v' D.length (rowsP D) ∧ Below C w w'
set_option maxHeartbeats 1000000 in
theorem rwith_no {C : Nat} {w : World} {a : Option Addr} {cap n : Nat} {L : List Pv} (b k : Int) (hown : w.ownsRow C 36 2 (.slice a n cap) n (rowsP L)) (hCw : C ≤ w.heap.size) (h : LieG w a cap n (rowsP L)) (hn : n = L.length) (hM : n ≤ 1048576) (hno : (b, k) ∉ L) :
    Calls Tryz.prog 100 #[.slice a n cap, .agg #[.int .i64 b, .int .i64 k]] w (WithP C w (L ++ [(b, k)])) := by
  obtain ⟨i0, hi, hz0, hz1, hz2⟩ := info_parts info_place
  have HOWN := Lib.hid hown
  clear hown
  have H := Lib.hid h
  have HN := Lib.hid hn
  have HNO := Lib.hid hno
  have hB0 : Below w.heap.size w (w.alloc (.cells #[.int .i64 b, .int .i64 k] 36)) := (Below.refl _ _).alloc (Nat.le_refl _) _
  clear h hn hno
  go_enter Tryz.func100, Tryz.ntmps100
  go_wp2_with fail
  have p0 : (w.alloc (.cells #[.int .i64 b, .int .i64 k] 36)).cell? ⟨w.heap.size, 0, none⟩ = some (.int .i64 b) := by simp
  have p1 : (w.alloc (.cells #[.int .i64 b, .int .i64 k] 36)).cell? ⟨w.heap.size, 1, none⟩ = some (.int .i64 k) := by simp
  have sW : (w.alloc (.cells #[.int .i64 b, .int .i64 k] 36)).heap.size = w.heap.size + 1 := by simp
  generalize (w.alloc (.cells #[.int .i64 b, .int .i64 k] 36)) = W at p0 p1 sW hB0 ⊢
  have P0 := Lib.hid p0
  have P1 := Lib.hid p1
  have SW := Lib.hid sW
  have HB0 := Lib.hid hB0
  clear p0 p1 sW hB0
  go_loopw [5] (fun i wr => ∃ k0 : Nat, k0 ≤ n ∧ i = .int .i64 k0 ∧ Below W.heap.size W wr) (fun i _ => n - (intOf i).toNat)
  case atStart => exact ⟨0, Nat.zero_le _, rfl, Below.refl _ _⟩
  case round =>
    obtain ⟨k0, hk0, rfl, hbel⟩ := hrel
    have hsz := hbel.size
    have sW := SW.out
    by_cases hlt : k0 < n
    · obtain ⟨⟨x1, x2⟩, hx⟩ : ∃ x, L[k0]? = some x := ⟨_, List.getElem?_eq_getElem (by have := HN.out; omega)⟩
      have hne : (x1, x2) ≠ (b, k) := fun e => HNO.out (by rw [← e]; exact List.mem_of_getElem? hx)
      obtain ⟨g, rfl, hg, -, hnc, e0, e1⟩ := ((H.out.new HB0.out).new hbel).place HN.out hx
      have q0 := (hbel.cell (p := ⟨w.heap.size, 0, none⟩) (by show w.heap.size < _; omega)).trans P0.out
      have q1 := (hbel.cell (p := ⟨w.heap.size, 1, none⟩) (by show w.heap.size < _; omega)).trans P1.out
      have hkc : k0 < cap := by omega
      have lt1 : w.heap.size < wr.heap.size := by omega
      have HS := Lib.hid hsz
      have HBE := Lib.hid hbel
      clear hx hbel hsz sW
      by_cases hb : x1 = b
      · subst hb
        have h2 : x2 ≠ k := fun e => hne (by rw [e])
        have c2 : (x2 == k) = false := by simpa using h2
        have c2' : decide (x2 = k) = false := decide_eq_false h2
        clear hne h2
        go_wp2_with fail
        go_quiet (fail)
        go_wp2_with fail
        go_roundw
        case rel => exact ⟨k0 + 1, by omega, by go_num, belowPd HBE.out nq⟩
        case measure => simp [intOf]; omega
      · have c1 : (x1 == b) = false := by simpa using hb
        have c1' : decide (x1 = b) = false := decide_eq_false hb
        clear hne hb
        go_wp2_with fail
        go_quiet (fail)
        go_wp2_with fail
        go_roundw
        case rel => exact ⟨k0 + 1, by omega, by go_num, belowPd HBE.out nq⟩
        case measure => simp [intOf]; omega
    · obtain rfl : n = k0 := by omega
      have q0 := (hbel.cell (p := ⟨w.heap.size, 0, none⟩) (by show w.heap.size < _; omega)).trans P0.out
      have q1 := (hbel.cell (p := ⟨w.heap.size, 1, none⟩) (by show w.heap.size < _; omega)).trans P1.out
      have lt1 : w.heap.size < wr.heap.size := by omega
      have hfin := HB0.out.trans (hbel.mono (by omega))
      have hown2 := own_belowP HOWN.out hfin
      have HFIN := Lib.hid hfin
      have HO2 := Lib.hid hown2
      clear hbel hsz sW hfin hown2
      go_wp2_with (at_builtin; refine wpList_append_lies _ rfl (.tmp 19) (.tmp 21) 52 rfl C 36 i0 (.agg #[.int .i64 0, .int .i64 0]) 2 16 Tryz.underlying52 hi hz0 hz1 hz2 rfl (by decide) (.slice a n cap) n (rowsP L) rfl (HO2.out.alloc _) ⟨wr.heap.size, 0, none⟩ 1 1 (Pv.cells (b, k)) rfl rfl (by intro j u hj; exact newsP hj) (by simp [Pv.cells, Value.oneCell']) (by decide) (by unfold maxLen; omega) (by omega) (by simp; omega) (wr.heap.size + 1) (by simp) ?_; intro g' cap' w3 hown3 hgrow hat hltg)
      have hb3 : Below C w w3 := app_below HO2.out (HFIN.out.mono hCw) (by omega) hgrow
      have HB3 := Lib.hid hb3
      have HO3 := Lib.hid hown3
      clear hb3 hown3 hgrow hat hltg q0 q1
      go_wp2_with fail
      go_ret
      exact ⟨_, rfl, by rw [List.length_append, rowsP_snoc, ← HN.out]; exact HO3.out, HB3.out⟩
set_option maxHeartbeats 1000000 in
theorem rwith_yes {w : World} {a : Option Addr} {cap n : Nat} {L : List Pv} (b k : Int) (h : LieG w a cap n (rowsP L)) (hn : n = L.length) (hM : n ≤ 1048576) (hno : (b, k) ∈ L) :
    Calls Tryz.prog 100 #[.slice a n cap, .agg #[.int .i64 b, .int .i64 k]] w fun e w' => e = .returned (.slice a n cap) ∧ Below w.heap.size w w' := by
  have H := Lib.hid h
  have HN := Lib.hid hn
  have HNO := Lib.hid hno
  have hB0 : Below w.heap.size w (w.alloc (.cells #[.int .i64 b, .int .i64 k] 36)) := (Below.refl _ _).alloc (Nat.le_refl _) _
  clear h hn hno
  go_enter Tryz.func100, Tryz.ntmps100
  go_wp2_with fail
  have p0 : (w.alloc (.cells #[.int .i64 b, .int .i64 k] 36)).cell? ⟨w.heap.size, 0, none⟩ = some (.int .i64 b) := by simp
  have p1 : (w.alloc (.cells #[.int .i64 b, .int .i64 k] 36)).cell? ⟨w.heap.size, 1, none⟩ = some (.int .i64 k) := by simp
  have sW : (w.alloc (.cells #[.int .i64 b, .int .i64 k] 36)).heap.size = w.heap.size + 1 := by simp
  generalize (w.alloc (.cells #[.int .i64 b, .int .i64 k] 36)) = W at p0 p1 sW hB0 ⊢
  have P0 := Lib.hid p0
  have P1 := Lib.hid p1
  have SW := Lib.hid sW
  have HB0 := Lib.hid hB0
  clear p0 p1 sW hB0
  go_loopw [5] (fun i wr => ∃ k0 : Nat, k0 ≤ n ∧ i = .int .i64 k0 ∧ Below W.heap.size W wr ∧ Hid (∀ j, j < k0 → L[j]? ≠ some (b, k))) (fun i _ => n - (intOf i).toNat)
  case atStart => exact ⟨0, Nat.zero_le _, rfl, Below.refl _ _, Lib.hid (fun j h => by omega)⟩
  case round =>
    obtain ⟨k0, hk0, rfl, hbel, hall⟩ := hrel
    have hsz := hbel.size
    have sW := SW.out
    by_cases hlt : k0 < n
    · obtain ⟨⟨x1, x2⟩, hx⟩ : ∃ x, L[k0]? = some x := ⟨_, List.getElem?_eq_getElem (by have := HN.out; omega)⟩
      obtain ⟨g, rfl, hg, -, hnc, e0, e1⟩ := ((H.out.new HB0.out).new hbel).place HN.out hx
      have q0 := (hbel.cell (p := ⟨w.heap.size, 0, none⟩) (by show w.heap.size < _; omega)).trans P0.out
      have q1 := (hbel.cell (p := ⟨w.heap.size, 1, none⟩) (by show w.heap.size < _; omega)).trans P1.out
      have hkc : k0 < cap := by omega
      have lt1 : w.heap.size < wr.heap.size := by omega
      have HS := Lib.hid hsz
      have HBE := Lib.hid hbel
      have HX := Lib.hid hx
      have HALL := hall
      clear hx hbel hsz sW hall
      by_cases hb : x1 = b
      · subst hb
        by_cases h2 : x2 = k
        · subst h2
          go_wp2_with fail
          go_quiet (fail)
          have hfin := HB0.out.trans ((belowPd HBE.out nq).mono (by have := SW.out; omega))
          go_wp2_with fail
          go_ret
          exact ⟨rfl, hfin⟩
        have c2 : (x2 == k) = false := by simpa using h2
        have c2' : decide (x2 = k) = false := decide_eq_false h2
        have H2 := Lib.hid h2
        clear h2
        go_wp2_with fail
        go_quiet (fail)
        go_wp2_with fail
        go_roundw
        case rel => exact ⟨k0 + 1, by omega, by go_num, belowPd HBE.out nq, Lib.hid (fun j hj => by
          by_cases e : j = k0
          · subst e; rw [HX.out]; simp; exact H2.out
          · exact HALL.out j (by omega))⟩
        case measure => simp [intOf]; omega
      · have c1 : (x1 == b) = false := by simpa using hb
        have c1' : decide (x1 = b) = false := decide_eq_false hb
        have H2 := Lib.hid hb
        clear hb
        go_wp2_with fail
        go_quiet (fail)
        go_wp2_with fail
        go_roundw
        case rel => exact ⟨k0 + 1, by omega, by go_num, belowPd HBE.out nq, Lib.hid (fun j hj => by
          by_cases e : j = k0
          · subst e; rw [HX.out]; simp; exact fun h => absurd h H2.out
          · exact HALL.out j (by omega))⟩
        case measure => simp [intOf]; omega
    · exfalso
      obtain ⟨j, hj⟩ := List.getElem?_of_mem HNO.out
      have : j < L.length := by
        rcases Nat.lt_or_ge j L.length with h' | h'
        · exact h'
        · rw [List.getElem?_eq_none h'] at hj; simp at hj
      exact hall.out j (by have := HN.out; omega) hj
theorem rwithw {C : Nat} {w : World} {v : Value} {L : List Pv} (b k : Int) (hown : w.ownsRow C 36 2 v L.length (rowsP L)) (hCw : C ≤ w.heap.size) (hM : L.length ≤ 1000000) :
    Calls Tryz.prog 100 #[v, .agg #[.int .i64 b, .int .i64 k]] w (WithP C w (addP L (b, k))) := by
  obtain ⟨a, cap, rfl, -, -, -, hl⟩ := LieG.of (Lst.of_own hown)
  by_cases h : (b, k) ∈ L
  · refine (rwith_yes b k hl rfl (by omega) h).mono fun e w' ⟨he, hb⟩ => ⟨_, he, ?_, hb.mono hCw⟩
    unfold addP
    rw [if_pos h]
    exact own_belowP hown hb
  · refine (rwith_no b k hown hCw hl rfl (by omega) h).mono fun e w' hp => ?_
    unfold addP
    rw [if_neg h]
    exact hp
end Go.Proofs.YtodppilfpemepaaGreat
/- Next: The chapter's places of a key. -/
namespace Go.Proofs.YtodppilfpemepaaGreat
open Go.RowKit
set_option linter.unusedVariables false

theorem newc08 {W : World} {xs : Array Value} {t : TypeId} {n j : Nat} {v : Value} (hn : n = W.heap.size) (hv : xs[j]? = some v) : (W.alloc (.cells xs t)).drew.cell? ⟨n, j, none⟩ = some v := by
  subst hn
  rw [World.cell?_drew]
  simp [hv]
/-- A list of this call's own. -/
def IsOwn (w : World) (D : List Pv) (e : Ending) (w' : World) : Prop := ∃ C v, w.heap.size ≤ C ∧ e = .returned v ∧ w'.ownsRow C 36 2 v D.length (rowsP D) ∧ Below w.heap.size w w'
set_option maxHeartbeats 2000000 in
set_option maxRecDepth 100000 in
theorem rplacesw (h x : Int) (w : World) (h1 : 0 ≤ h) (h2 : h < 18446744073709551616) (x1 : 0 ≤ x) (x2 : x < 18446744073709551616) :
    Calls Tryz.prog 61 #[.int .u64 h, .int .u64 x] w (IsOwn w (placesF h x)) := by
  have hA := ras x w x1 x2
  have CA := Lib.hid hA
  have hF : placesF h x = dedP (placesL h x) := rfl
  have HF := Lib.hid hF
  have hPL : placesL h x = if asN x = 0 then [(bothP h (asO x)).1, (bothP h (asO x)).2] else [(bothP h (asO x)).1, (bothP h (asO x)).2, (bothP h (asN x)).1, (bothP h (asN x)).2] := rfl
  have c1 := fun W => refbucket_any h (asO x) W h1 h2
  have c2 := fun W => refbucket_any h (asN x) W h1 h2
  have c3 := fun W => reftag h W h1 h2
  obtain ⟨r1, r2, r3⟩ := as_range x
  unfold bothP tagF at hPL
  simp only at hPL
  generalize asO x = o at *
  generalize asN x = m at *
  generalize placesF h x = F at *
  generalize placesL h x = PL at *
  generalize max 1 (h / 72057594037927936) = t at *
  obtain ⟨k, hk⟩ : ∃ k, k = bkt h o := ⟨_, rfl⟩
  obtain ⟨k', hk'⟩ : ∃ k', k' = bkt h m := ⟨_, rfl⟩
  rw [← hk, ← hk'] at hPL
  rw [← hk] at c1
  rw [← hk'] at c2
  have C1 := Lib.hid c1
  have C2 := Lib.hid c2
  have C3 := Lib.hid c3
  clear hA hF c1 c2 c3 hk hk'
  by_cases hm : m = 0
  · rw [if_pos hm] at hPL
    have HPL := Lib.hid hPL
    have hmb : decide (0 < m) = false := decide_eq_false (by omega)
    have hm0 : m ≤ 0 := by omega
    clear hPL hm r3
    go_enter Tryz.func61, Tryz.ntmps61
    go_wp2_with fail
    refine CA.out.mono ?_
    rintro e w1 ⟨rfl, rfl⟩
    go_wp2_with fail
    refine wp_loop_rounds 2 ?_
    rw [rounds_succ]
    go_wp2_with fail
    refine (C1.out _).mono ?_
    rintro e w2 ⟨rfl, rfl⟩
    go_wp2_with fail
    have hbW : Below w.heap.size w (w.alloc (.cells #[.int .i64 o] 3)) := (Below.refl _ _).alloc (Nat.le_refl _) _
    have b0 : (w.alloc (.cells #[.int .i64 o] 3)).cell? ⟨w.heap.size, 0, none⟩ = some (.int .i64 o) := by simp
    have sW : (w.alloc (.cells #[.int .i64 o] 3)).heap.size = w.heap.size + 1 := by simp
    generalize World.alloc _ _ = W at hbW b0 sW ⊢
    have HBW := Lib.hid hbW
    have SW := Lib.hid sW
    clear sW hbW
    refine (rwithw (C := w.heap.size + 1) o k (L := []) (World.ownsRow_nil _ _ _ _) (by rw [SW.out]; exact Nat.le_refl _) (by simp)).mono ?_
    rintro e w3 ⟨v3, rfl, own3, K3⟩
    replace b0 := (K3.cell (p := ⟨w.heap.size, 0, none⟩) (by show w.heap.size < _; omega)).trans b0
    have OWN3 := Lib.hid own3
    have K3H := Lib.hid K3
    have s3 := K3.size
    rw [SW.out] at s3
    clear own3 K3
    go_wp2_with fail
    have C5 := Lib.hid (rwithw (C := w.heap.size + 1) (w := w3.drew) o (othf k t o) (own_belowP OWN3.out (Below.refl _ _).drew) s3 (Nat.le_trans (addP_len _ _) (by simp)))
    have lt3 : w.heap.size < w3.heap.size := by omega
    go_region_held3 (fun w' => w'.cell? ⟨w.heap.size, 0, none⟩ = some (.int .i64 o))
      (first | assumption)
      (first
        | (go_at_call 65; ((with_reducible refine (C3.out _).mono ?_); rintro e w4 ⟨rfl, rfl⟩))
        | (go_at_call 101; ((with_reducible refine (refother_any _ _ _ _).mono ?_); rintro e w4 ⟨rfl, rfl⟩))
        | (go_at_call 100; ((with_reducible refine C5.out.mono ?_); rintro e w5 ⟨v5, rfl, own5, K5⟩; replace b0 := (K5.cell (p := ⟨w.heap.size, 0, none⟩) (show w.heap.size < w.heap.size + 1 by omega)).trans b0; have OWN5 := Lib.hid own5; have K5H := Lib.hid K5; clear own5 K5 C5)))
    go_wp2_with fail
    rw [rounds_succ]
    go_wp2_with fail
    go_ret
    have hfin : Below w.heap.size w w5 := (HBW.out.trans (K3H.out.mono (Nat.le_succ _) : Below w.heap.size W w3)).drew.trans (K5H.out.mono (Nat.le_succ _) : Below w.heap.size w3.drew w5)
    refine ⟨_, v5, Nat.le_succ _, rfl, ?_, hfin⟩
    have : F = addP (addP [] (o, k)) (o, othf k t o) := by rw [HF.out, HPL.out]; rfl
    rw [this]
    exact OWN5.out
  · rw [if_neg hm] at hPL
    have HPL := Lib.hid hPL
    have hmb : decide (0 < m) = true := decide_eq_true (by omega)
    have hm0 : 0 < m := by omega
    have hm12 : m ≤ 12 := by omega
    clear hPL hm r3
    go_enter Tryz.func61, Tryz.ntmps61
    go_wp2_with fail
    refine CA.out.mono ?_
    rintro e w1 ⟨rfl, rfl⟩
    go_wp2_with fail
    generalize Question.cut _ _ = cp
    have hbW : Below w.heap.size w (((w.alloc (.cells #[.int .i64 o] 3)).alloc (.cells #[.int .i64 m] 3)).alloc (.cells (#[.int .i64 o, .int .i64 m] ++ Builtin.zeroCells #[.int .i64 0] (cp - 2)) 3)).drew := ((((Below.refl _ _).alloc (Nat.le_refl _) _).alloc (by simp) _).alloc (by simp; omega) _).drew
    have b0 : (((w.alloc (.cells #[.int .i64 o] 3)).alloc (.cells #[.int .i64 m] 3)).alloc (.cells (#[.int .i64 o, .int .i64 m] ++ Builtin.zeroCells #[.int .i64 0] (cp - 2)) 3)).drew.cell? ⟨w.heap.size + 1 + 1, 0, none⟩ = some (.int .i64 o) := newc08 (by simp) (by rw [Array.getElem?_append_left (by simp)]; rfl)
    have b1 : (((w.alloc (.cells #[.int .i64 o] 3)).alloc (.cells #[.int .i64 m] 3)).alloc (.cells (#[.int .i64 o, .int .i64 m] ++ Builtin.zeroCells #[.int .i64 0] (cp - 2)) 3)).drew.cell? ⟨w.heap.size + 1 + 1, 1, none⟩ = some (.int .i64 m) := newc08 (by simp) (by rw [Array.getElem?_append_left (by simp)]; rfl)
    have sW : (((w.alloc (.cells #[.int .i64 o] 3)).alloc (.cells #[.int .i64 m] 3)).alloc (.cells (#[.int .i64 o, .int .i64 m] ++ Builtin.zeroCells #[.int .i64 0] (cp - 2)) 3)).drew.heap.size = w.heap.size + 1 + 1 + 1 := by simp
    generalize World.drew _ = W at hbW b0 b1 sW ⊢
    obtain ⟨G, hG⟩ : ∃ G, G = w.heap.size + 1 + 1 := ⟨_, rfl⟩
    have hGw : w.heap.size ≤ G + 1 := by omega
    rw [← hG] at b0 b1 sW ⊢
    have HBW := Lib.hid hbW
    have SW := Lib.hid sW
    clear sW hbW hG
    refine wp_loop_rounds 3 ?_
    rw [rounds_succ]
    go_wp2_with fail
    refine (C1.out _).mono ?_
    rintro e w2 ⟨rfl, rfl⟩
    go_wp2_with fail
    refine (rwithw (C := G + 1) o k (L := []) (World.ownsRow_nil _ _ _ _) (by rw [SW.out]; exact Nat.le_refl _) (by simp)).mono ?_
    rintro e w3 ⟨v3, rfl, own3, K3⟩
    replace b0 := (K3.cell (p := ⟨G, 0, none⟩) (by show G < _; omega)).trans b0
    replace b1 := (K3.cell (p := ⟨G, 1, none⟩) (by show G < _; omega)).trans b1
    have OWN3 := Lib.hid own3
    have K3H := Lib.hid K3
    have s3 := K3.size
    rw [SW.out] at s3
    clear own3 K3
    go_wp2_with fail
    have C5 := Lib.hid (rwithw (C := G + 1) (w := w3.drew) o (othf k t o) (own_belowP OWN3.out (Below.refl _ _).drew) s3 (Nat.le_trans (addP_len _ _) (by simp)))
    have lt3 : G < w3.heap.size := by omega
    go_region_held3 (fun w' => w'.cell? ⟨G, 0, none⟩ = some (.int .i64 o) ∧ w'.cell? ⟨G, 1, none⟩ = some (.int .i64 m))
      (first | exact ⟨by assumption, by assumption⟩)
      (first
        | (go_at_call 65; ((with_reducible refine (C3.out _).mono ?_); rintro e w4 ⟨rfl, rfl⟩))
        | (go_at_call 101; ((with_reducible refine (refother_any _ _ _ _).mono ?_); rintro e w4 ⟨rfl, rfl⟩))
        | (go_at_call 100; ((with_reducible refine C5.out.mono ?_); rintro e w5 ⟨v5, rfl, own5, K5⟩; have s5 := K5.size; replace b0 := (K5.cell (p := ⟨G, 0, none⟩) (show G < G + 1 by omega)).trans b0; replace b1 := (K5.cell (p := ⟨G, 1, none⟩) (show G < G + 1 by omega)).trans b1; have OWN5 := Lib.hid own5; have K5H := Lib.hid K5; clear own5 K5 C5)))
    replace s5 : G + 1 ≤ w5.heap.size := by simp at s5; omega
    go_wp2_with fail
    rw [rounds_succ]
    go_wp2_with fail
    refine (C2.out _).mono ?_
    rintro e w6 ⟨rfl, rfl⟩
    go_wp2_with fail
    have l5 : (addP (addP [] (o, k)) (o, othf k t o)).length ≤ 2 := by
      have h1 := addP_len (addP [] (o, k)) (o, othf k t o)
      have h2 := addP_len [] (o, k)
      simp at h2
      omega
    refine (rwithw (C := G + 1) m k' OWN5.out s5 (by omega)).mono ?_
    rintro e w7 ⟨v7, rfl, own7, K7⟩
    replace b0 := (K7.cell (p := ⟨G, 0, none⟩) (by show G < _; omega)).trans b0
    replace b1 := (K7.cell (p := ⟨G, 1, none⟩) (by show G < _; omega)).trans b1
    have OWN7 := Lib.hid own7
    have K7H := Lib.hid K7
    have s7 := K7.size
    replace s7 : G + 1 ≤ w7.heap.size := by omega
    clear own7 K7
    go_wp2_with fail
    have C9 := Lib.hid (rwithw (C := G + 1) (w := w7.drew) m (othf k' t m) (own_belowP OWN7.out (Below.refl _ _).drew) s7 (Nat.le_trans (addP_len _ _) (by omega)))
    have lt7 : G < w7.heap.size := by omega
    go_region_held3 (fun w' => w'.cell? ⟨G, 0, none⟩ = some (.int .i64 o) ∧ w'.cell? ⟨G, 1, none⟩ = some (.int .i64 m))
      (first | exact ⟨by assumption, by assumption⟩)
      (first
        | (go_at_call 65; ((with_reducible refine (C3.out _).mono ?_); rintro e w8 ⟨rfl, rfl⟩))
        | (go_at_call 101; ((with_reducible refine (refother_any _ _ _ _).mono ?_); rintro e w8 ⟨rfl, rfl⟩))
        | (go_at_call 100; ((with_reducible refine C9.out.mono ?_); rintro e w9 ⟨v9, rfl, own9, K9⟩; replace b0 := (K9.cell (p := ⟨G, 0, none⟩) (show G < G + 1 by omega)).trans b0; replace b1 := (K9.cell (p := ⟨G, 1, none⟩) (show G < G + 1 by omega)).trans b1; have OWN9 := Lib.hid own9; have K9H := Lib.hid K9; clear own9 K9 C9)))
    go_wp2_with fail
    rw [rounds_succ]
    go_wp2_with fail
    go_ret
    have hfin : Below w.heap.size w w9 := (((HBW.out.trans (K3H.out.mono hGw : Below w.heap.size W w3)).drew.trans (K5H.out.mono hGw : Below w.heap.size w3.drew w5)).trans (K7H.out.mono hGw : Below w.heap.size w5 w7)).drew.trans (K9H.out.mono hGw : Below w.heap.size w7.drew w9)
    refine ⟨_, v9, hGw, rfl, ?_, hfin⟩
    have : F = addP (addP (addP (addP [] (o, k)) (o, othf k t o)) (m, k')) (m, othf k' t m) := by rw [HF.out, HPL.out]; rfl
    rw [this]
    exact OWN9.out
end Go.Proofs.YtodppilfpemepaaGreat
