/- Bounds: what each is, of a config's parts; sums of parts. -/
import Derived.Test.YteoeelhljimibaaGWo
import Derived.Test.YteoeelhljimibaaKeep
import Derived.IntWalk
import Derived.Test.YteoeelhljimibaaLn3
import Derived.Deep.RegionHeld3
import Derived.Deep.Cut
import Derived.Deep.CutBlock
import Derived.StillTailTactics
namespace Go.Proofs.Yteoeelhljimibaa
open Go.RowKit Go.Maps
set_option linter.unusedVariables false

/-- Parts: so many times a measure. -/
def partV (l : List (Int × Int)) : List Value := l.flatMap fun p => [.int .i64 p.1, .int .i64 p.2]
theorem partV_at : ∀ (l : List (Int × Int)) (k : Nat) (p : Int × Int), l[k]? = some p → (partV l)[k * 2]? = some (.int .i64 p.1) ∧ (partV l)[k * 2 + 1]? = some (.int .i64 p.2)
  | [], k, p, h => by simp at h
  | q :: l, 0, p, h => by
    simp only [List.getElem?_cons_zero, Option.some.injEq] at h
    subst h
    exact ⟨rfl, rfl⟩
  | q :: l, k + 1, p, h => by
    simp only [List.getElem?_cons_succ] at h
    have e : partV (q :: l) = .int .i64 q.1 :: .int .i64 q.2 :: partV l := rfl
    rw [e, show (k + 1) * 2 = k * 2 + 1 + 1 by omega]
    exact partV_at l k p h
def sumP (l : List (Int × Int)) : Int := (l.map fun p => p.1 * p.2).sum
theorem sumP_take {l : List (Int × Int)} {k : Nat} {p : Int × Int} (h : l[k]? = some p) : sumP (l.take (k + 1)) = sumP (l.take k) + p.1 * p.2 := by
  rw [List.take_add_one, h]
  simp [sumP]
/-- A slice of parts, read. -/
structure Parts (w : World) (v : Value) (l : List (Int × Int)) : Prop where
  form : ∃ g, v = .slice (some ⟨g, 0, none⟩) l.length l.length ∧ g < w.heap.size ∧ ∀ (j : Nat) (u : Value), (partV l)[j]? = some u → w.cell? ⟨g, j, none⟩ = some u
theorem Parts.on {w w' : World} {v : Value} {l : List (Int × Int)} (h : Parts w v l) (hb : Below w.heap.size w w') : Parts w' v l := by
  obtain ⟨g, e, hg, hc⟩ := h.form
  exact ⟨g, e, Nat.lt_of_lt_of_le hg hb.size, fun j u hu => (hb.cell (p := ⟨g, j, none⟩) hg).trans (hc j u hu)⟩
/-- Numbers that are small. -/
structure Small (l : List (Int × Int)) : Prop where
  len : l.length ≤ 8
  each : ∀ p ∈ l, 0 ≤ p.1 * p.2 ∧ p.1 * p.2 ≤ 1125899906842624
theorem Small.sum {l : List (Int × Int)} (h : Small l) (k : Nat) (hk : k ≤ 8) : 0 ≤ sumP (l.take k) ∧ sumP (l.take k) ≤ k * 1125899906842624 := by
  induction k with
  | zero => simp [sumP]
  | succ k ih =>
    obtain ⟨h1, h2⟩ := ih (by omega)
    cases hp : l[k]? with
    | none =>
      rw [List.take_add_one, hp]
      simp only [Option.toList_none, List.append_nil]
      omega
    | some p =>
      rw [sumP_take hp]
      have := h.each p (List.mem_of_getElem? hp)
      omega
set_option maxHeartbeats 1000000 in
set_option maxRecDepth 100000 in
theorem sumw (v : Value) (l : List (Int × Int)) (w : World) (h : Parts w v l) (hs : Small l) :
    Calls Try.prog 29 #[v] w fun e w' => e = .returned (.int .i64 (sumP l)) ∧ Below w.heap.size w w' := by
  obtain ⟨g, rfl, hg, hc⟩ := h.form
  have HC := Lib.hid hc
  have HS := Lib.hid hs
  have hn8 := hs.len
  obtain ⟨n, hn⟩ : ∃ n, n = l.length := ⟨_, rfl⟩
  rw [← hn] at hn8 ⊢
  have HN := Lib.hid hn
  clear hc hs h hn
  go_enter Try.func29, Try.ntmps29
  go_wp2_with fail
  go_loopw [3, 8] (fun s i wr => ∃ k : Nat, k ≤ n ∧ i = .int .i64 k ∧ s = .int .i64 (sumP (l.take k)) ∧ Below w.heap.size w wr) (fun _ i _ => n - (intOf i).toNat)
  case atStart => exact ⟨0, by omega, rfl, rfl, Below.refl _ _⟩
  case round =>
    obtain ⟨k, hk, rfl, rfl, hnx⟩ := hrel
    by_cases hlt : k < n
    · obtain ⟨p, hp⟩ : ∃ p, l[k]? = some p := ⟨_, List.getElem?_eq_getElem (by have := HN.out; omega)⟩
      obtain ⟨p1, p2⟩ := partV_at l k p hp
      have c1 := (hnx.cell (p := ⟨g, k * 2, none⟩) hg).trans (HC.out _ _ p1)
      have c2 := (hnx.cell (p := ⟨g, k * 2 + 1, none⟩) hg).trans (HC.out _ _ p2)
      obtain ⟨b1, b2⟩ := HS.out.sum k (by omega)
      obtain ⟨b3, b4⟩ := HS.out.each p (List.mem_of_getElem? hp)
      obtain ⟨s, hs⟩ : ∃ s, sumP (l.take k) = s := ⟨_, rfl⟩
      obtain ⟨t, ht⟩ : ∃ t, p.1 * p.2 = t := ⟨_, rfl⟩
      rw [hs] at b1 b2 ⊢
      rw [ht] at b3 b4
      have hw1 : IntKind.i64.wrap (p.1 * p.2) = t := by rw [ht]; exact IntWalk.i64_in _ (by omega)
      have hw2 : IntKind.i64.wrap (s + t) = s + t := IntWalk.i64_in _ (by omega)
      have HE := Lib.hid (show sumP (l.take (k + 1)) = s + t by rw [sumP_take hp, hs, ht])
      clear hs ht hp p1 p2
      go_wp2_with fail
      go_roundw
      case rel => exact ⟨k + 1, by omega, by go_num, by rw [HE.out], (hnx.alloc hnx.size _).trans (Below.refl _ _)⟩
      case measure => simp [intOf]; omega
    · obtain rfl : k = n := by omega
      have HE := Lib.hid (show sumP (l.take k) = sumP l by rw [HN.out, List.take_length])
      go_wp2_with fail
      go_ret
      exact ⟨by rw [HE.out]; rfl, hnx⟩
end Go.Proofs.Yteoeelhljimibaa
/- Next: Bounds: the table. -/
namespace Go.Proofs.Yteoeelhljimibaa
open Go.RowKit Go.Maps
set_option linter.unusedVariables false

structure Meas where
  way : Int
  q : Int
  tries : Int
  slots : Int
  room : Int
  turn : Int
  evict : Int
structure MeasOk (m : Meas) : Prop where
  way : 0 ≤ m.way ∧ m.way ≤ 256
  q : 0 ≤ m.q ∧ m.q ≤ 8
  tries : 0 ≤ m.tries ∧ m.tries ≤ 16
  slots : 0 ≤ m.slots ∧ m.slots ≤ 1048576
  room : 0 ≤ m.room ∧ m.room ≤ 1048576
  turn : 0 ≤ m.turn ∧ m.turn ≤ 1073741824
  evict : 0 ≤ m.evict ∧ m.evict ≤ 1073741824
def measC (m : Meas) : List Value := [.int .i64 m.way, .int .i64 m.q, .int .i64 m.tries, .int .i64 m.slots, .int .i64 m.room, .int .i64 m.turn, .int .i64 m.evict]
def partsOf (m : Meas) : Nat → List (Int × Int)
  | 0 => [(13, m.way), (2, 1)]
  | 1 => [(4 * m.q, m.room), (51, m.q), (3, 1)]
  | 2 => [(6, m.slots), (13, 1)]
  | 3 => [(31, m.tries + 1), (28, 1)]
  | 4 => [(1, m.turn), (1, m.evict), (2, m.room), (66, 1)]
  | 5 => [(1, m.turn), (31, 1)]
  | _ => [(4, 1)]
theorem small_of {m : Meas} (h : MeasOk m) (k : Nat) : Small (partsOf m k) := by
  obtain ⟨⟨h1, h2⟩, ⟨h3, h4⟩, ⟨h5, h6⟩, ⟨h7, h8⟩, ⟨h9, h10⟩, ⟨h11, h12⟩, ⟨h13, h14⟩⟩ := h
  have hq : 0 ≤ 4 * m.q * m.room ∧ 4 * m.q * m.room ≤ 32 * 1048576 := ⟨Int.mul_nonneg (by omega) h9, Int.mul_le_mul (by omega) h10 h9 (by omega)⟩
  constructor
  · unfold partsOf; split <;> simp
  · unfold partsOf
    split <;> (intro p hp; simp only [List.mem_cons, List.not_mem_nil, or_false] at hp)
    · rcases hp with rfl | rfl <;> constructor <;> simp only <;> omega
    · rcases hp with rfl | rfl | rfl <;> constructor <;> simp only <;> omega
    · rcases hp with rfl | rfl <;> constructor <;> simp only <;> omega
    · rcases hp with rfl | rfl <;> constructor <;> simp only <;> omega
    · rcases hp with rfl | rfl | rfl | rfl <;> constructor <;> simp only <;> omega
    · rcases hp with rfl | rfl <;> constructor <;> simp only <;> omega
    · subst hp; constructor <;> simp only <;> omega
theorem parts_new {W : World} {g : Nat} {C : Array Value} {T : TypeId} {l : List (Int × Int)} (hg : g = W.heap.size) (hC : C.toList = partV l) : Parts (W.alloc (.cells C T)) (.slice (some ⟨g, 0, none⟩) l.length l.length) l := by
  subst hg
  refine ⟨W.heap.size, rfl, by simp, fun j u hu => ?_⟩
  rw [← hC, Array.getElem?_toList] at hu
  simpa using hu
theorem Parts.alloc {w : World} {v : Value} {l : List (Int × Int)} (h : Parts w v l) (o : Obj) : Parts (w.alloc o) v l := h.on ((Below.refl _ _).alloc (Nat.le_refl _) _)
/-- What the table is. -/
def TabPost (w : World) (m : Meas) (e : Ending) (w' : World) : Prop := ∃ v0 v1 v2 v3 v4 v5 v6, e = .returned (.agg #[v0, v1, v2, v3, v4, v5, v6]) ∧ (Parts w' v0 (partsOf m 0) ∧ Parts w' v1 (partsOf m 1) ∧ Parts w' v2 (partsOf m 2) ∧ Parts w' v3 (partsOf m 3) ∧ Parts w' v4 (partsOf m 4) ∧ Parts w' v5 (partsOf m 5) ∧ Parts w' v6 (partsOf m 6)) ∧ Below w.heap.size w w'
set_option maxHeartbeats 4000000 in
set_option maxRecDepth 100000 in
theorem tablew (m : Meas) (w : World) (h : MeasOk m) : Calls Try.prog 30 #[.agg (measC m).toArray] w (TabPost w m) := by
  obtain ⟨wy, q, t, sl, r, tn, ev⟩ := m
  obtain ⟨⟨h1, h2⟩, ⟨h3, h4⟩, ⟨h5, h6⟩, ⟨h7, h8⟩, ⟨h9, h10⟩, ⟨h11, h12⟩, ⟨h13, h14⟩⟩ := h
  simp only at h1 h2 h3 h4 h5 h6 h7 h8 h9 h10 h11 h12 h13 h14
  simp only [measC]
  have e1 : IntKind.i64.wrap (4 * q) = 4 * q := IntWalk.i64_in _ (by omega)
  have e2 : IntKind.i64.wrap (t + 1) = t + 1 := IntWalk.i64_in _ (by omega)
  clear h1 h2 h3 h4 h5 h6 h7 h8 h9 h10 h11 h12 h13 h14
  go_enter Try.func30, Try.ntmps30
  go_wp2_with fail
  refine bodyPost_ret (v := .agg #[.slice (some ⟨w.heap.size + 1 + 1, 0, none⟩) 2 2, .slice (some ⟨w.heap.size + 1 + 1 + 1, 0, none⟩) 3 3, .slice (some ⟨w.heap.size + 1 + 1 + 1 + 1, 0, none⟩) 2 2, .slice (some ⟨w.heap.size + 1 + 1 + 1 + 1 + 1, 0, none⟩) 2 2, .slice (some ⟨w.heap.size + 1 + 1 + 1 + 1 + 1 + 1, 0, none⟩) 4 4, .slice (some ⟨w.heap.size + 1 + 1 + 1 + 1 + 1 + 1 + 1, 0, none⟩) 2 2, .slice (some ⟨w.heap.size + 1 + 1 + 1 + 1 + 1 + 1 + 1 + 1, 0, none⟩) 1 1]) (by simp [results, Try.results30, go_sem]) rfl ⟨_, _, _, _, _, _, _, rfl, ⟨?_, ?_, ?_, ?_, ?_, ?_, ?_⟩, ?_⟩
  · exact Parts.alloc (Parts.alloc (Parts.alloc (Parts.alloc (Parts.alloc (Parts.alloc (parts_new (l := [(13, wy), (2, 1)]) (by simp) (by simp [partV])) _) _) _) _) _) _
  · exact Parts.alloc (Parts.alloc (Parts.alloc (Parts.alloc (Parts.alloc (parts_new (l := [(4 * q, r), (51, q), (3, 1)]) (by simp) (by simp [partV])) _) _) _) _) _
  · exact Parts.alloc (Parts.alloc (Parts.alloc (Parts.alloc (parts_new (l := [(6, sl), (13, 1)]) (by simp) (by simp [partV])) _) _) _) _
  · exact Parts.alloc (Parts.alloc (Parts.alloc (parts_new (l := [(31, t + 1), (28, 1)]) (by simp) (by simp [partV])) _) _) _
  · exact Parts.alloc (Parts.alloc (parts_new (l := [(1, tn), (1, ev), (2, r), (66, 1)]) (by simp) (by simp [partV])) _) _
  · exact Parts.alloc (parts_new (l := [(1, tn), (31, 1)]) (by simp) (by simp [partV])) _
  · exact parts_new (l := [(4, 1)]) (by simp) (by simp [partV])
  · exact (((((((((Below.refl _ _).alloc (Nat.le_refl _) _).alloc (by simp) _).alloc (by simp; omega) _).alloc (by simp; omega) _).alloc (by simp; omega) _).alloc (by simp; omega) _).alloc (by simp; omega) _).alloc (by simp; omega) _).alloc (by simp; omega) _
end Go.Proofs.Yteoeelhljimibaa
/- Next: Bounds: of. -/
namespace Go.Proofs.Yteoeelhljimibaa
open Go.RowKit Go.Maps
set_option linter.unusedVariables false

def slotsI (b u : Int) : Int := 8 * max u (4 * 2 ^ b.toNat)
def roomI (y : Int) : Int := sumP (partsOf ⟨y, 0, 0, 0, 0, 0, 0⟩ 0)
def turnI (q y : Int) : Int := sumP (partsOf ⟨y, q, 0, 0, roomI y, 0, 0⟩ 1)
def evictI (b u : Int) : Int := sumP (partsOf ⟨0, 0, 0, slotsI b u, 0, 0, 0⟩ 2)
def measI (b u t q y : Int) : Meas := ⟨y, q, t, slotsI b u, roomI y, turnI q y, evictI b u⟩
def ofI (k : Nat) (b u t q y : Int) : Int := if mayc b u t q y = true then sumP (partsOf (measI b u t q y) k) else 0
theorem pow_b {b : Int} (h1 : 1 ≤ b) (h2 : b ≤ 12) : 2 ≤ (2 : Int) ^ b.toNat ∧ (2 : Int) ^ b.toNat ≤ 4096 := by
  obtain ⟨n, rfl⟩ : ∃ n : Nat, b = n := ⟨b.toNat, by omega⟩
  rw [Int.toNat_natCast]
  rcases (by omega : n = 1 ∨ n = 2 ∨ n = 3 ∨ n = 4 ∨ n = 5 ∨ n = 6 ∨ n = 7 ∨ n = 8 ∨ n = 9 ∨ n = 10 ∨ n = 11 ∨ n = 12) with rfl | rfl | rfl | rfl | rfl | rfl | rfl | rfl | rfl | rfl | rfl | rfl <;> decide
theorem slots_bd {b u : Int} (h1 : 1 ≤ b) (h2 : b ≤ 12) (h3 : 1 ≤ u) (h4 : u ≤ 65536) : 64 ≤ slotsI b u ∧ slotsI b u ≤ 524288 := by
  obtain ⟨p1, p2⟩ := pow_b h1 h2
  unfold slotsI
  generalize (2 : Int) ^ b.toNat = z at *
  omega
theorem idx_tab (k : Nat) (hk : k < 7) (v0 v1 v2 v3 v4 v5 v6 : Value) : ∃ v, [v0, v1, v2, v3, v4, v5, v6][k]? = some v ∧ ∀ w, (Instr.index 74 (.agg #[v0, v1, v2, v3, v4, v5, v6]) (.int .i64 k)).run Try.prog w = .ok v w := by
  rcases (by omega : k = 0 ∨ k = 1 ∨ k = 2 ∨ k = 3 ∨ k = 4 ∨ k = 5 ∨ k = 6) with rfl | rfl | rfl | rfl | rfl | rfl | rfl
  · exact ⟨v0, rfl, fun w => by kernel_rfl⟩
  · exact ⟨v1, rfl, fun w => by kernel_rfl⟩
  · exact ⟨v2, rfl, fun w => by kernel_rfl⟩
  · exact ⟨v3, rfl, fun w => by kernel_rfl⟩
  · exact ⟨v4, rfl, fun w => by kernel_rfl⟩
  · exact ⟨v5, rfl, fun w => by kernel_rfl⟩
  · exact ⟨v6, rfl, fun w => by kernel_rfl⟩
theorem meas_cells {w : World} {q : Nat} {m : Meas} (h : Cb w q (measC m)) : w.cell? ⟨q, 0, none⟩ = some (.int .i64 m.way) ∧ w.cell? ⟨q, 1, none⟩ = some (.int .i64 m.q) ∧ w.cell? ⟨q, 2, none⟩ = some (.int .i64 m.tries) ∧ w.cell? ⟨q, 3, none⟩ = some (.int .i64 m.slots) ∧ w.cell? ⟨q, 4, none⟩ = some (.int .i64 m.room) ∧ w.cell? ⟨q, 5, none⟩ = some (.int .i64 m.turn) ∧ w.cell? ⟨q, 6, none⟩ = some (.int .i64 m.evict) :=
  ⟨h.at_ 0 _ rfl, h.at_ 1 _ rfl, h.at_ 2 _ rfl, h.at_ 3 _ rfl, h.at_ 4 _ rfl, h.at_ 5 _ rfl, h.at_ 6 _ rfl⟩
theorem parts_k {w : World} {m : Meas} {k : Nat} (hk : k < 7) {v v0 v1 v2 v3 v4 v5 v6 : Value} (hp : Parts w v0 (partsOf m 0) ∧ Parts w v1 (partsOf m 1) ∧ Parts w v2 (partsOf m 2) ∧ Parts w v3 (partsOf m 3) ∧ Parts w v4 (partsOf m 4) ∧ Parts w v5 (partsOf m 5) ∧ Parts w v6 (partsOf m 6)) (hv : [v0, v1, v2, v3, v4, v5, v6][k]? = some v) : Parts w v (partsOf m k) := by
  obtain ⟨h0, h1, h2, h3, h4, h5, h6⟩ := hp
  rcases (by omega : k = 0 ∨ k = 1 ∨ k = 2 ∨ k = 3 ∨ k = 4 ∨ k = 5 ∨ k = 6) with rfl | rfl | rfl | rfl | rfl | rfl | rfl
  all_goals
    simp only [List.getElem?_cons_zero, List.getElem?_cons_succ, Option.some.injEq] at hv
    subst hv
    assumption
theorem room_eq (y : Int) : roomI y = 13 * y + 2 := by simp [roomI, sumP, partsOf]
theorem turn_eq (q y : Int) : turnI q y = 4 * q * roomI y + (51 * q + 3) := by simp [turnI, sumP, partsOf]
theorem evict_eq (b u : Int) : evictI b u = 6 * slotsI b u + 13 := by simp [evictI, sumP, partsOf]
theorem turn_bd {q y : Int} (h1 : 1 ≤ q) (h2 : q ≤ 8) (h3 : 2 ≤ y) (h4 : y ≤ 256) : 0 ≤ turnI q y ∧ turnI q y ≤ 200000 := by
  rw [turn_eq, room_eq]
  rcases (by omega : q = 1 ∨ q = 2 ∨ q = 3 ∨ q = 4 ∨ q = 5 ∨ q = 6 ∨ q = 7 ∨ q = 8) with rfl | rfl | rfl | rfl | rfl | rfl | rfl | rfl <;> omega
theorem meas_ok {b u t q y : Int} (h : 1 ≤ b ∧ b ≤ 12 ∧ 1 ≤ u ∧ u ≤ 65536 ∧ 0 ≤ t ∧ t ≤ 16 ∧ 1 ≤ q ∧ q ≤ 8 ∧ 2 ≤ y ∧ y ≤ 256) :
    MeasOk ⟨y, q, t, slotsI b u, 0, 0, 0⟩ ∧ MeasOk ⟨y, q, t, slotsI b u, roomI y, 0, 0⟩ ∧ MeasOk ⟨y, q, t, slotsI b u, roomI y, turnI q y, 0⟩ ∧ MeasOk ⟨y, q, t, slotsI b u, roomI y, turnI q y, evictI b u⟩ := by
  obtain ⟨b1, b2, u1, u2, t1, t2, q1, q2, y1, y2⟩ := h
  have s1 := slots_bd b1 b2 u1 u2
  have s2 := turn_bd q1 q2 y1 y2
  have s3 := room_eq y
  have s4 := evict_eq b u
  refine ⟨⟨⟨?_, ?_⟩, ⟨?_, ?_⟩, ⟨?_, ?_⟩, ⟨?_, ?_⟩, ⟨?_, ?_⟩, ⟨?_, ?_⟩, ⟨?_, ?_⟩⟩, ⟨⟨?_, ?_⟩, ⟨?_, ?_⟩, ⟨?_, ?_⟩, ⟨?_, ?_⟩, ⟨?_, ?_⟩, ⟨?_, ?_⟩, ⟨?_, ?_⟩⟩, ⟨⟨?_, ?_⟩, ⟨?_, ?_⟩, ⟨?_, ?_⟩, ⟨?_, ?_⟩, ⟨?_, ?_⟩, ⟨?_, ?_⟩, ⟨?_, ?_⟩⟩, ⟨⟨?_, ?_⟩, ⟨?_, ?_⟩, ⟨?_, ?_⟩, ⟨?_, ?_⟩, ⟨?_, ?_⟩, ⟨?_, ?_⟩, ⟨?_, ?_⟩⟩⟩ <;> simp only <;> omega
set_option maxHeartbeats 4000000 in
set_option maxRecDepth 100000 in
theorem ofw (k : Nat) (hk : k < 7) (b u t q y : Int) (w : World) : Calls Try.prog 22 #[.int .i64 k, .agg #[.int .i64 b, .int .i64 u, .int .i64 t, .int .i64 q, .int .i64 y]] w fun e w' => e = .returned (.int .i64 (ofI k b u t q y)) ∧ Below w.heap.size w w' := by
  have CM := Lib.hid (wmay b u t q y)
  cases hm : mayc b u t q y with
  | false =>
    rw [hm] at CM
    have HE := Lib.hid (show ofI k b u t q y = 0 by unfold ofI; rw [hm]; rfl)
    go_enter Try.func22, Try.ntmps22
    go_wp2_with (go_at_call 21; ((with_reducible refine (CM.out _).mono ?_); rintro e w6 ⟨rfl, hk6⟩))
    go_ret
    exact ⟨by rw [HE.out]; rfl, ((Below.refl _ _).alloc (Nat.le_refl _) _).trans (hk6.mono (by simp))⟩
  | true =>
    rw [hm] at CM
    go_enter Try.func22, Try.ntmps22
    go_wp2_with (go_at_call 21; ((with_reducible refine (CM.out _).mono ?_); rintro e w6 ⟨rfl, hk6⟩))
    have hk0 := hk6
    have hsz6 : w.heap.size < w6.heap.size := by have := hk6.size; simp at this; omega
    have cc := fun (i : Nat) (v : Value) (h : (w.alloc (.cells #[.int .i64 b, .int .i64 u, .int .i64 t, .int .i64 q, .int .i64 y] 23)).cell? ⟨w.heap.size, i, none⟩ = some v) => (hk6.cell (p := ⟨w.heap.size, i, none⟩) (by simp)).trans h
    have c0 := cc 0 (.int .i64 b) (by simp)
    have c1 := cc 1 (.int .i64 u) (by simp)
    have c2 := cc 2 (.int .i64 t) (by simp)
    have c3 := cc 3 (.int .i64 q) (by simp)
    have c4 := cc 4 (.int .i64 y) (by simp)
    have HK6 := Lib.hid hk6
    clear cc hk0 hk6
    unfold mayc at hm
    have hm' := of_decide_eq_true hm
    obtain ⟨b1, b2, u1, u2, t1, t2, q1, q2, y1, y2⟩ := hm'
    have c1' : w6.cell? ⟨w.heap.size, 0, none⟩ = some (.int .i64 b) ∧ w6.cell? ⟨w.heap.size, 1, none⟩ = some (.int .i64 u) ∧ w6.cell? ⟨w.heap.size, 2, none⟩ = some (.int .i64 t) ∧ w6.cell? ⟨w.heap.size, 3, none⟩ = some (.int .i64 q) ∧ w6.cell? ⟨w.heap.size, 4, none⟩ = some (.int .i64 y) := ⟨c0, c1, c2, c3, c4⟩
    have c2' : ∀ o, (w6.alloc o).cell? ⟨w.heap.size, 0, none⟩ = some (.int .i64 b) ∧ (w6.alloc o).cell? ⟨w.heap.size, 1, none⟩ = some (.int .i64 u) ∧ (w6.alloc o).cell? ⟨w.heap.size, 2, none⟩ = some (.int .i64 t) ∧ (w6.alloc o).cell? ⟨w.heap.size, 3, none⟩ = some (.int .i64 q) ∧ (w6.alloc o).cell? ⟨w.heap.size, 4, none⟩ = some (.int .i64 y) := fun o => ⟨(World.cell?_alloc_some w6 _ o (by simp [c0])).trans c0, (World.cell?_alloc_some w6 _ o (by simp [c1])).trans c1, (World.cell?_alloc_some w6 _ o (by simp [c2])).trans c2, (World.cell?_alloc_some w6 _ o (by simp [c3])).trans c3, (World.cell?_alloc_some w6 _ o (by simp [c4])).trans c4⟩
    have c1d : w6.drew.cell? ⟨w.heap.size, 0, none⟩ = some (.int .i64 b) ∧ w6.drew.cell? ⟨w.heap.size, 1, none⟩ = some (.int .i64 u) ∧ w6.drew.cell? ⟨w.heap.size, 2, none⟩ = some (.int .i64 t) ∧ w6.drew.cell? ⟨w.heap.size, 3, none⟩ = some (.int .i64 q) ∧ w6.drew.cell? ⟨w.heap.size, 4, none⟩ = some (.int .i64 y) := c1'
    have c2d : ∀ o, (w6.alloc o).drew.cell? ⟨w.heap.size, 0, none⟩ = some (.int .i64 b) ∧ (w6.alloc o).drew.cell? ⟨w.heap.size, 1, none⟩ = some (.int .i64 u) ∧ (w6.alloc o).drew.cell? ⟨w.heap.size, 2, none⟩ = some (.int .i64 t) ∧ (w6.alloc o).drew.cell? ⟨w.heap.size, 3, none⟩ = some (.int .i64 q) ∧ (w6.alloc o).drew.cell? ⟨w.heap.size, 4, none⟩ = some (.int .i64 y) := c2'
    have hp1 := (pow_b b1 b2).1
    have hp2 := (pow_b b1 b2).2
    have hs1 : IntKind.i64.wrap (4 * 2 ^ b.toNat) = 4 * 2 ^ b.toNat := IntWalk.i64_in _ (by omega)
    have hs2 : IntKind.i64.wrap (8 * max u (4 * 2 ^ b.toNat)) = slotsI b u := IntWalk.i64_in _ (by have := slots_bd b1 b2 u1 u2; unfold slotsI at this; omega)
    clear hp1 hp2
    have HBB := Lib.hid (And.intro b1 (And.intro b2 (And.intro u1 (And.intro u2 (And.intro t1 (And.intro t2 (And.intro q1 (And.intro q2 (And.intro y1 y2)))))))))
    have hb0 : 0 ≤ b := by omega
    go_cut [5] from 6 (fun s5 wx => s5 = .pointer (some ⟨w6.heap.size, 0, none⟩) ∧ Below w6.heap.size w6 wx ∧ Cb wx w6.heap.size (measC ⟨y, q, t, slotsI b u, 0, 0, 0⟩))
    case first =>
      go_region_held3 (fun X => X.cell? ⟨w.heap.size, 0, none⟩ = some (.int .i64 b) ∧ X.cell? ⟨w.heap.size, 1, none⟩ = some (.int .i64 u) ∧ X.cell? ⟨w.heap.size, 2, none⟩ = some (.int .i64 t) ∧ X.cell? ⟨w.heap.size, 3, none⟩ = some (.int .i64 q) ∧ X.cell? ⟨w.heap.size, 4, none⟩ = some (.int .i64 y))
        (first | with_reducible exact c1' | with_reducible exact c2' _ | with_reducible exact c1d | with_reducible exact c2d _)
        (first | fail)
      all_goals
        go_wp2_with fail
        go_meet
        case rel => exact ⟨rfl, ((Below.refl _ _).alloc (Nat.le_refl _) _).drew, (cb_new rfl).new (Below.refl _ _).drew⟩
    obtain ⟨rfl, hb2, hcb⟩ := hcut
    obtain ⟨mq, hmq⟩ : ∃ mq, mq = w6.heap.size := ⟨_, rfl⟩
    rw [← hmq] at hcb ⊢
    have hB6 : Below w.heap.size w w6 := ((Below.refl _ _).alloc (Nat.le_refl _) _).trans (HK6.out.mono (by simp))
    have hlo : w.heap.size ≤ mq := by omega
    have hB : Below w.heap.size w wc := hB6.trans (hb2.mono (by omega))
    have HBd := HBB.out
    have HOK := Lib.hid (meas_ok HBd)
    have HOFI := Lib.hid (show ofI k b u t q y = sumP (partsOf (measI b u t q y) k) by unfold ofI mayc; rw [if_pos hm])
    clear c0 c1 c2 c3 c4 c1' c2' c1d c2d HK6 hb2 hs1 hs2 HBB b1 b2 u1 u2 t1 t2 q1 q2 y1 y2 hb0 hm CM hB6 hmq hsz6 HBd
    generalize wc = W0 at *
    have HS0 := Lib.hid (And.intro hB hcb)
    obtain ⟨f0, f1, f2, f3, f4, f5, f6⟩ := meas_cells hcb
    clear hB hcb
    go_wp2_with fail
    refine (tablew ⟨y, q, t, slotsI b u, 0, 0, 0⟩ W0 (HOK.out.1)).mono ?_
    rintro e A0 ⟨v0, v1, v2, v3, v4, v5, v6, rfl, hp, hb1⟩
    have hix : ∀ w, (Instr.index 74 (.agg #[v0, v1, v2, v3, v4, v5, v6]) (.int .i64 0)).run Try.prog w = .ok v0 w := fun w => by kernel_rfl
    have hpi := hp.1
    have HS0A := Lib.hid (And.intro (HS0.out.1.trans (hb1.mono HS0.out.1.size)) (HS0.out.2.new hb1))
    clear f0 f1 f2 f3 f4 f5 f6 hp hb1
    go_wp2_with fail
    refine (sumw v0 (partsOf ⟨y, q, t, slotsI b u, 0, 0, 0⟩ 0) A0 hpi (small_of HOK.out.1 0)).mono ?_
    rintro e B0 ⟨rfl, hb1⟩
    clear hix hpi
    rw [show sumP (partsOf ⟨y, q, t, slotsI b u, 0, 0, 0⟩ 0) = roomI y from rfl]
    have hcB := HS0A.out.2.new hb1
    have hbB := HS0A.out.1.trans (hb1.mono HS0A.out.1.size)
    have hz := hcB.fz 4 (by show 4 < 7; decide)
    have hc := hcB.at_ 4 _ rfl
    have HSn := Lib.hid (And.intro (hbB.setCell (p := ⟨mq, 4, none⟩) hlo (.int .i64 (roomI y))) (hcB.set 4 (.int .i64 (roomI y)) (by show 4 < 7; decide) (C' := measC ⟨y, q, t, slotsI b u, roomI y, 0, 0⟩) rfl))
    clear hb1 hcB hbB HS0 HS0A
    go_upto_region 5 with (fail)
    obtain ⟨hB, hcb⟩ := HSn.out
    clear HSn hz hc
    generalize B0.setCell ⟨mq, 4, none⟩ (.int .i64 (roomI y)) = W1 at *
    have HS1 := Lib.hid (And.intro hB hcb)
    obtain ⟨f0, f1, f2, f3, f4, f5, f6⟩ := meas_cells hcb
    clear hB hcb
    go_wp2_with fail
    refine (tablew ⟨y, q, t, slotsI b u, roomI y, 0, 0⟩ W1 (HOK.out.2.1)).mono ?_
    rintro e A1 ⟨v0, v1, v2, v3, v4, v5, v6, rfl, hp, hb1⟩
    have hix : ∀ w, (Instr.index 74 (.agg #[v0, v1, v2, v3, v4, v5, v6]) (.int .i64 1)).run Try.prog w = .ok v1 w := fun w => by kernel_rfl
    have hpi := hp.2.1
    have HS1A := Lib.hid (And.intro (HS1.out.1.trans (hb1.mono HS1.out.1.size)) (HS1.out.2.new hb1))
    clear f0 f1 f2 f3 f4 f5 f6 hp hb1
    go_wp2_with fail
    refine (sumw v1 (partsOf ⟨y, q, t, slotsI b u, roomI y, 0, 0⟩ 1) A1 hpi (small_of HOK.out.2.1 1)).mono ?_
    rintro e B1 ⟨rfl, hb1⟩
    clear hix hpi
    rw [show sumP (partsOf ⟨y, q, t, slotsI b u, roomI y, 0, 0⟩ 1) = turnI q y from rfl]
    have hcB := HS1A.out.2.new hb1
    have hbB := HS1A.out.1.trans (hb1.mono HS1A.out.1.size)
    have hz := hcB.fz 5 (by show 5 < 7; decide)
    have hc := hcB.at_ 5 _ rfl
    have HSn := Lib.hid (And.intro (hbB.setCell (p := ⟨mq, 5, none⟩) hlo (.int .i64 (turnI q y))) (hcB.set 5 (.int .i64 (turnI q y)) (by show 5 < 7; decide) (C' := measC ⟨y, q, t, slotsI b u, roomI y, turnI q y, 0⟩) rfl))
    clear hb1 hcB hbB HS1 HS1A
    go_upto_region 6 with (fail)
    obtain ⟨hB, hcb⟩ := HSn.out
    clear HSn hz hc
    generalize B1.setCell ⟨mq, 5, none⟩ (.int .i64 (turnI q y)) = W2 at *
    have HS2 := Lib.hid (And.intro hB hcb)
    obtain ⟨f0, f1, f2, f3, f4, f5, f6⟩ := meas_cells hcb
    clear hB hcb
    go_wp2_with fail
    refine (tablew ⟨y, q, t, slotsI b u, roomI y, turnI q y, 0⟩ W2 (HOK.out.2.2.1)).mono ?_
    rintro e A2 ⟨v0, v1, v2, v3, v4, v5, v6, rfl, hp, hb1⟩
    have hix : ∀ w, (Instr.index 74 (.agg #[v0, v1, v2, v3, v4, v5, v6]) (.int .i64 2)).run Try.prog w = .ok v2 w := fun w => by kernel_rfl
    have hpi := hp.2.2.1
    have HS2A := Lib.hid (And.intro (HS2.out.1.trans (hb1.mono HS2.out.1.size)) (HS2.out.2.new hb1))
    clear f0 f1 f2 f3 f4 f5 f6 hp hb1
    go_wp2_with fail
    refine (sumw v2 (partsOf ⟨y, q, t, slotsI b u, roomI y, turnI q y, 0⟩ 2) A2 hpi (small_of HOK.out.2.2.1 2)).mono ?_
    rintro e B2 ⟨rfl, hb1⟩
    clear hix hpi
    rw [show sumP (partsOf ⟨y, q, t, slotsI b u, roomI y, turnI q y, 0⟩ 2) = evictI b u from rfl]
    have hcB := HS2A.out.2.new hb1
    have hbB := HS2A.out.1.trans (hb1.mono HS2A.out.1.size)
    have hz := hcB.fz 6 (by show 6 < 7; decide)
    have hc := hcB.at_ 6 _ rfl
    have HSn := Lib.hid (And.intro (hbB.setCell (p := ⟨mq, 6, none⟩) hlo (.int .i64 (evictI b u))) (hcB.set 6 (.int .i64 (evictI b u)) (by show 6 < 7; decide) (C' := measC ⟨y, q, t, slotsI b u, roomI y, turnI q y, evictI b u⟩) rfl))
    clear hb1 hcB hbB HS2 HS2A
    go_upto_region 7 with (fail)
    obtain ⟨hB, hcb⟩ := HSn.out
    clear HSn hz hc
    generalize B2.setCell ⟨mq, 6, none⟩ (.int .i64 (evictI b u)) = W3 at *
    have HS3 := Lib.hid (And.intro hB hcb)
    obtain ⟨f0, f1, f2, f3, f4, f5, f6⟩ := meas_cells hcb
    clear hB hcb
    go_wp2_with fail
    refine (tablew ⟨y, q, t, slotsI b u, roomI y, turnI q y, evictI b u⟩ W3 HOK.out.2.2.2).mono ?_
    rintro e A3 ⟨v0, v1, v2, v3, v4, v5, v6, rfl, hp, hb1⟩
    obtain ⟨v, hv, hix⟩ := idx_tab k hk v0 v1 v2 v3 v4 v5 v6
    have hpk := parts_k hk hp hv
    have HS3A := Lib.hid (HS3.out.1.trans (hb1.mono HS3.out.1.size))
    clear f0 f1 f2 f3 f4 f5 f6 hp hb1 hv
    go_wp2_with fail
    refine (sumw v (partsOf ⟨y, q, t, slotsI b u, roomI y, turnI q y, evictI b u⟩ k) A3 hpk (small_of HOK.out.2.2.2 k)).mono ?_
    rintro e B3 ⟨rfl, hb1⟩
    go_wp2_with fail
    go_ret
    exact ⟨by rw [HOFI.out]; rfl, HS3A.out.trans (hb1.mono HS3A.out.size)⟩
end Go.Proofs.Yteoeelhljimibaa
/- Next: Bounds: Room, Turn, Evict, Steps, Windows. -/
namespace Go.Proofs.Yteoeelhljimibaa
open Go.RowKit Go.Maps
set_option linter.unusedVariables false

def stepsK (v : Int) : Option Nat :=
  if v = 1 ∨ v = 2 then some 3 else if v = 3 ∨ v = 4 ∨ v = 5 ∨ v = 6 then some 4 else if v = 7 ∨ v = 8 ∨ v = 9 ∨ v = 10 then some 5 else if v = 11 then some 6 else none
def stepsI (b u t q y v : Int) : Int := match stepsK v with | some k => ofI k b u t q y | none => 0
theorem sumP_le {l : List (Int × Int)} (h : Small l) : 0 ≤ sumP l ∧ sumP l ≤ 9007199254740992 := by
  have := h.sum l.length h.len
  rw [List.take_length] at this
  have := h.len
  omega
theorem ofI_bd (k : Nat) (b u t q y : Int) : 0 ≤ ofI k b u t q y ∧ ofI k b u t q y ≤ 2147483647 := by
  unfold ofI
  split
  · next hm =>
    unfold mayc at hm
    have hm := of_decide_eq_true hm
    have hs := (meas_ok hm).2.2.2
    obtain ⟨b1, b2, u1, u2, t1, t2, q1, q2, y1, y2⟩ := hm
    have s1 := slots_bd b1 b2 u1 u2
    have s2 := turn_bd q1 q2 y1 y2
    have s3 := room_eq y
    have s4 := evict_eq b u
    have e : ∀ (a b : Int) l, sumP ((a, b) :: l) = a * b + sumP l := fun a b l => by simp [sumP]
    have e0 : sumP [] = 0 := rfl
    have s5 := turn_eq q y
    have p1 : sumP (partsOf (measI b u t q y) 1) = turnI q y := rfl
    rcases (by omega : k = 0 ∨ k = 1 ∨ k = 2 ∨ k = 3 ∨ k = 4 ∨ k = 5 ∨ 6 ≤ k) with rfl | rfl | rfl | rfl | rfl | rfl | h
    · simp only [partsOf, measI, e, e0]; omega
    · rw [p1]; omega
    · simp only [partsOf, measI, e, e0]; omega
    · simp only [partsOf, measI, e, e0]; omega
    · simp only [partsOf, measI, e, e0]; omega
    · simp only [partsOf, measI, e, e0]; omega
    · have : partsOf (measI b u t q y) k = [(4, 1)] := by
        obtain ⟨j, rfl⟩ : ∃ j, k = j + 6 := ⟨k - 6, by omega⟩
        rfl
      rw [this]
      simp only [e, e0]
      omega
  · omega
theorem stepsI_bd (b u t q y v : Int) : 0 ≤ stepsI b u t q y v ∧ stepsI b u t q y v ≤ 2147483647 := by
  unfold stepsI
  split
  · exact ofI_bd _ b u t q y
  · omega
set_option maxHeartbeats 1000000 in
theorem roomw40 (b u t q y : Int) (w : World) : Calls Try.prog 10 #[.agg #[.int .i64 b, .int .i64 u, .int .i64 t, .int .i64 q, .int .i64 y]] w fun e w' => e = .returned (.int .i64 (ofI 0 b u t q y)) ∧ Below w.heap.size w w' := by
  go_enter Try.func10, Try.ntmps10
  go_wp2_with fail
  refine (ofw 0 (by omega) b u t q y _).mono ?_
  rintro e w1 ⟨rfl, hb1⟩
  go_wp2_with fail
  go_ret
  exact ⟨rfl, ((Below.refl _ _).alloc (Nat.le_refl _) _).trans (hb1.mono (by simp))⟩
set_option maxHeartbeats 1000000 in
theorem turnw40 (b u t q y : Int) (w : World) : Calls Try.prog 12 #[.agg #[.int .i64 b, .int .i64 u, .int .i64 t, .int .i64 q, .int .i64 y]] w fun e w' => e = .returned (.int .i64 (ofI 1 b u t q y)) ∧ Below w.heap.size w w' := by
  go_enter Try.func12, Try.ntmps12
  go_wp2_with fail
  refine (ofw 1 (by omega) b u t q y _).mono ?_
  rintro e w1 ⟨rfl, hb1⟩
  go_wp2_with fail
  go_ret
  exact ⟨rfl, ((Below.refl _ _).alloc (Nat.le_refl _) _).trans (hb1.mono (by simp))⟩
set_option maxHeartbeats 1000000 in
theorem evictw40 (b u t q y : Int) (w : World) : Calls Try.prog 14 #[.agg #[.int .i64 b, .int .i64 u, .int .i64 t, .int .i64 q, .int .i64 y]] w fun e w' => e = .returned (.int .i64 (ofI 2 b u t q y)) ∧ Below w.heap.size w w' := by
  go_enter Try.func14, Try.ntmps14
  go_wp2_with fail
  refine (ofw 2 (by omega) b u t q y _).mono ?_
  rintro e w1 ⟨rfl, hb1⟩
  go_wp2_with fail
  go_ret
  exact ⟨rfl, ((Below.refl _ _).alloc (Nat.le_refl _) _).trans (hb1.mono (by simp))⟩
set_option maxHeartbeats 4000000 in
set_option maxRecDepth 100000 in
theorem stepsw40 (b u t q y v : Int) (w : World) : Calls Try.prog 16 #[.agg #[.int .i64 b, .int .i64 u, .int .i64 t, .int .i64 q, .int .i64 y], .int .u8 v] w fun e w' => e = .returned (.int .i64 (stepsI b u t q y v)) ∧ Below w.heap.size w w' := by
  have HF3 := Lib.hid (show ∀ w, Calls Try.prog 22 #[.int .i64 3, .agg #[.int .i64 b, .int .i64 u, .int .i64 t, .int .i64 q, .int .i64 y]] w (fun e w' => e = .returned (.int .i64 (ofI 3 b u t q y)) ∧ Below w.heap.size w w') from ofw 3 (by omega) b u t q y)
  have HF4 := Lib.hid (show ∀ w, Calls Try.prog 22 #[.int .i64 4, .agg #[.int .i64 b, .int .i64 u, .int .i64 t, .int .i64 q, .int .i64 y]] w (fun e w' => e = .returned (.int .i64 (ofI 4 b u t q y)) ∧ Below w.heap.size w w') from ofw 4 (by omega) b u t q y)
  have HF5 := Lib.hid (show ∀ w, Calls Try.prog 22 #[.int .i64 5, .agg #[.int .i64 b, .int .i64 u, .int .i64 t, .int .i64 q, .int .i64 y]] w (fun e w' => e = .returned (.int .i64 (ofI 5 b u t q y)) ∧ Below w.heap.size w w') from ofw 5 (by omega) b u t q y)
  have HF6 := Lib.hid (show ∀ w, Calls Try.prog 22 #[.int .i64 6, .agg #[.int .i64 b, .int .i64 u, .int .i64 t, .int .i64 q, .int .i64 y]] w (fun e w' => e = .returned (.int .i64 (ofI 6 b u t q y)) ∧ Below w.heap.size w w') from ofw 6 (by omega) b u t q y)
  by_cases hv : 1 ≤ v ∧ v ≤ 11
  · rcases (by omega : v = 1 ∨ v = 2 ∨ v = 3 ∨ v = 4 ∨ v = 5 ∨ v = 6 ∨ v = 7 ∨ v = 8 ∨ v = 9 ∨ v = 10 ∨ v = 11) with rfl | rfl | rfl | rfl | rfl | rfl | rfl | rfl | rfl | rfl | rfl
    all_goals
      clear hv
      go_enter Try.func16, Try.ntmps16
      go_wp2_with fail
      first
        | (with_reducible refine (HF3.out _).mono ?_)
        | (with_reducible refine (HF4.out _).mono ?_)
        | (with_reducible refine (HF5.out _).mono ?_)
        | (with_reducible refine (HF6.out _).mono ?_)
      rintro e w1 ⟨rfl, hb1⟩
      go_wp2_with fail
      go_ret
      exact ⟨rfl, ((Below.refl _ _).alloc (Nat.le_refl _) _).trans (hb1.mono (by simp))⟩
  · have HE := Lib.hid (show stepsI b u t q y v = 0 by unfold stepsI stepsK; rw [if_neg (by omega), if_neg (by omega), if_neg (by omega), if_neg (by omega)])
    have d1 : (v == 1) = false := beq_eq_false_iff_ne.mpr (by omega)
    have d2 : (v == 2) = false := beq_eq_false_iff_ne.mpr (by omega)
    have d3 : (v == 3) = false := beq_eq_false_iff_ne.mpr (by omega)
    have d4 : (v == 4) = false := beq_eq_false_iff_ne.mpr (by omega)
    have d5 : (v == 5) = false := beq_eq_false_iff_ne.mpr (by omega)
    have d6 : (v == 6) = false := beq_eq_false_iff_ne.mpr (by omega)
    have d7 : (v == 7) = false := beq_eq_false_iff_ne.mpr (by omega)
    have d8 : (v == 8) = false := beq_eq_false_iff_ne.mpr (by omega)
    have d9 : (v == 9) = false := beq_eq_false_iff_ne.mpr (by omega)
    have d10 : (v == 10) = false := beq_eq_false_iff_ne.mpr (by omega)
    have d11 : (v == 11) = false := beq_eq_false_iff_ne.mpr (by omega)
    clear hv
    go_enter Try.func16, Try.ntmps16
    go_wp2_with fail
    go_ret
    exact ⟨by rw [HE.out]; rfl, (Below.refl _ _).alloc (Nat.le_refl _) _⟩
end Go.Proofs.Yteoeelhljimibaa
/- Next: Bounds: calls in a list; Windows. -/
namespace Go.Proofs.Yteoeelhljimibaa
open Go.RowKit Go.Maps
set_option linter.unusedVariables false

/-- A call. -/
structure Cl where
  verb : Nat
  key : List UInt8
  value : List UInt8
  flags : Int
  exp : Int
  id : Int
  by_ : Int
deriving DecidableEq
def callC (c : Cl) : List Value := [.int .u8 c.verb, .string ⟨c.key.toArray⟩, .string ⟨c.value.toArray⟩, .int .u32 c.flags, .int .i64 c.exp, .int .u64 c.id, .int .u64 c.by_]
def rowsC : List Cl → List Value
  | [] => []
  | p :: ps => callC p ++ rowsC ps
theorem rowsC_len : ∀ ps : List Cl, (rowsC ps).length = ps.length * 7
  | [] => rfl
  | p :: ps => by
    show (callC p ++ rowsC ps).length = _
    rw [List.length_append, rowsC_len ps, List.length_cons]
    show 7 + _ = _
    omega
theorem rowsC_app : ∀ (ps qs : List Cl), rowsC (ps ++ qs) = rowsC ps ++ rowsC qs
  | [], qs => rfl
  | p :: ps, qs => by
    show callC p ++ rowsC (ps ++ qs) = (callC p ++ rowsC ps) ++ rowsC qs
    rw [rowsC_app ps qs, List.append_assoc]
theorem rowsC_at : ∀ (ps : List Cl) (k j : Nat) (p : Cl) (u : Value), ps[k]? = some p → (callC p)[j]? = some u → (rowsC ps)[k * 7 + j]? = some u
  | [], k, j, p, u, h, hu => by simp at h
  | q :: ps, 0, j, p, u, h, hu => by
    simp only [List.getElem?_cons_zero, Option.some.injEq] at h
    subst h
    show (callC q ++ rowsC ps)[0 * 7 + j]? = some u
    rw [Nat.zero_mul, Nat.zero_add, List.getElem?_append_left]
    · exact hu
    · exact (List.getElem?_eq_some_iff.mp hu).1
  | q :: ps, k + 1, j, p, u, h, hu => by
    simp only [List.getElem?_cons_succ] at h
    show (callC q ++ rowsC ps)[(k + 1) * 7 + j]? = some u
    have e : (callC q).length = 7 := rfl
    rw [List.getElem?_append_right (by rw [e]; omega), e, show (k + 1) * 7 + j - 7 = k * 7 + j by omega]
    exact rowsC_at ps k j p u h hu
theorem rowsC_one : ∀ (ps : List Cl), ∀ u ∈ rowsC ps, u.oneCell' = true
  | [], u, hu => by simp [rowsC] at hu
  | p :: ps, u, hu => by
    have hu : u ∈ callC p ++ rowsC ps := hu
    rcases List.mem_append.mp hu with hu | hu
    · simp only [callC, List.mem_cons, List.not_mem_nil, or_false] at hu
      rcases hu with rfl | rfl | rfl | rfl | rfl | rfl | rfl <;> rfl
    · exact rowsC_one ps u hu
/-- Calls that can be read. -/
structure ClR (W : World) (v : Value) (l : List Cl) : Prop where
  form : ∃ A c, v = .slice A l.length c ∧ l.length ≤ c ∧ c ≤ maxLen ∧ (A = none → c = 0) ∧ (0 < l.length → ∃ g, A = some ⟨g, 0, none⟩ ∧ g < W.heap.size ∧ ∀ (j : Nat) (u : Value), (rowsC l)[j]? = some u → W.cell? ⟨g, j, none⟩ = some u)
theorem ClR.on {W W' : World} {v : Value} {l : List Cl} (h : ClR W v l) (hb : Below W.heap.size W W') : ClR W' v l := by
  obtain ⟨A, c, e, h1, h2, h3, h4⟩ := h.form
  refine ⟨A, c, e, h1, h2, h3, fun h0 => ?_⟩
  obtain ⟨g, e2, hg, hc⟩ := h4 h0
  exact ⟨g, e2, Nat.lt_of_lt_of_le hg hb.size, fun j u hu => (hb.cell (p := ⟨g, j, none⟩) hg).trans (hc j u hu)⟩
/-- The seven cells of a call in a list. -/
theorem cl_cells {W : World} {a : Option Addr} {n c k : Nat} {l : List Cl} {x : Cl} (h : ClR W (.slice a n c) l) (hx : l[k]? = some x) : ∃ g, a = some ⟨g, 0, none⟩ ∧ g < W.heap.size ∧ ∀ (j : Nat) (u : Value), (callC x)[j]? = some u → W.cell? ⟨g, k * 7 + j, none⟩ = some u := by
  obtain ⟨A, c', e, h1, h2, h3, h4⟩ := h.form
  injection e with e1 e2 e3
  subst e1
  have hl : k < l.length := (List.getElem?_eq_some_iff.mp hx).1
  obtain ⟨g, e, hg, hc⟩ := h4 (by omega)
  exact ⟨g, e, hg, fun j u hu => hc _ _ (rowsC_at l k j x u hx hu)⟩
def winI (b u t q y : Int) (l : List Cl) : Int := (l.map fun x => stepsI b u t q y x.verb).sum
theorem winI_take {b u t q y : Int} {l : List Cl} {k : Nat} {x : Cl} (h : l[k]? = some x) : winI b u t q y (l.take (k + 1)) = winI b u t q y (l.take k) + stepsI b u t q y x.verb := by
  rw [List.take_add_one, h]
  simp [winI]
theorem winI_bd (b u t q y : Int) : ∀ l : List Cl, 0 ≤ winI b u t q y l ∧ winI b u t q y l ≤ l.length * 2147483647
  | [] => by simp [winI]
  | x :: l => by
    have h1 := winI_bd b u t q y l
    have h2 := stepsI_bd b u t q y x.verb
    have e : winI b u t q y (x :: l) = stepsI b u t q y x.verb + winI b u t q y l := by simp [winI]
    rw [e, List.length_cons]
    omega
set_option maxHeartbeats 2000000 in
set_option maxRecDepth 100000 in
theorem windowsw (b u t q y : Int) (v : Value) (l : List Cl) (w : World) (h : ClR w v l) (hn : l.length ≤ 1048576) : Calls Try.prog 9 #[.agg #[.int .i64 b, .int .i64 u, .int .i64 t, .int .i64 q, .int .i64 y], v] w fun e w' => e = .returned (.int .i64 (winI b u t q y l)) ∧ Below w.heap.size w w' := by
  have HR := Lib.hid h
  obtain ⟨A, c, rfl, hlc, hcm, -, -⟩ := h.form
  unfold maxLen at hcm
  obtain ⟨n, hnn⟩ : ∃ n, n = l.length := ⟨_, rfl⟩
  rw [← hnn] at hn hlc ⊢
  rw [← hnn] at HR
  have HN := Lib.hid hnn
  have HST := Lib.hid (stepsw40 b u t q y)
  clear h hnn
  go_enter Try.func9, Try.ntmps9
  go_wp2_with fail
  go_loopw [5, 10] (fun s i wr => ∃ k : Nat, k ≤ n ∧ i = .int .i64 k ∧ s = .int .i64 (winI b u t q y (l.take k)) ∧ Below w.heap.size w wr ∧ Hid (wr.cell? ⟨w.heap.size, 0, none⟩ = some (.int .i64 b) ∧ wr.cell? ⟨w.heap.size, 1, none⟩ = some (.int .i64 u) ∧ wr.cell? ⟨w.heap.size, 2, none⟩ = some (.int .i64 t) ∧ wr.cell? ⟨w.heap.size, 3, none⟩ = some (.int .i64 q) ∧ wr.cell? ⟨w.heap.size, 4, none⟩ = some (.int .i64 y)) ∧ w.heap.size < wr.heap.size) (fun _ i _ => n - (intOf i).toNat)
  case atStart => exact ⟨0, by omega, rfl, rfl, (Below.refl _ _).alloc (Nat.le_refl _) _, ⟨by simp, by simp, by simp, by simp, by simp⟩, by simp⟩
  case round =>
    obtain ⟨k, hk, rfl, rfl, hnx, hcf, hsz⟩ := hrel
    by_cases hlt : k < n
    · obtain ⟨x, hx⟩ : ∃ x, l[k]? = some x := ⟨_, List.getElem?_eq_getElem (by have := HN.out; omega)⟩
      obtain ⟨g, rfl, hg, hc⟩ := cl_cells (HR.out.on hnx) hx
      have r0 := hc 0 _ rfl; have r1 := hc 1 _ rfl; have r2 := hc 2 _ rfl; have r3 := hc 3 _ rfl; have r4 := hc 4 _ rfl; have r5 := hc 5 _ rfl; have r6 := hc 6 _ rfl
      simp only [Nat.add_zero] at r0
      have hb := winI_bd b u t q y (l.take k)
      have hb2 := stepsI_bd b u t q y x.verb
      have hlk : (l.take k).length = k := by rw [List.length_take]; have := HN.out; omega
      rw [hlk] at hb
      obtain ⟨s, hs⟩ : ∃ s, winI b u t q y (l.take k) = s := ⟨_, rfl⟩
      obtain ⟨d, hd⟩ : ∃ d, stepsI b u t q y x.verb = d := ⟨_, rfl⟩
      have HE := Lib.hid (show winI b u t q y (l.take (k + 1)) = s + d by rw [winI_take hx, hs, hd])
      have HD := Lib.hid hd
      rw [hs] at hb ⊢
      rw [hd] at hb2
      have hw2 : IntKind.i64.wrap (s + d) = s + d := IntWalk.i64_in _ (by omega)
      obtain ⟨f0, f1, f2, f3, f4⟩ := hcf.out
      clear hc hs hd hlk hb hb2 hx
      go_wp2_with fail
      refine (HST.out _ _).mono ?_
      rintro e w2 ⟨rfl, hb2⟩
      rw [HD.out]
      go_wp2_with fail
      have hb3 : Below wr.heap.size wr w2 := ((Below.refl _ _).alloc (Nat.le_refl _) _).trans (hb2.mono (by simp))
      have hcf' : w2.cell? ⟨w.heap.size, 0, none⟩ = some (.int .i64 b) ∧ w2.cell? ⟨w.heap.size, 1, none⟩ = some (.int .i64 u) ∧ w2.cell? ⟨w.heap.size, 2, none⟩ = some (.int .i64 t) ∧ w2.cell? ⟨w.heap.size, 3, none⟩ = some (.int .i64 q) ∧ w2.cell? ⟨w.heap.size, 4, none⟩ = some (.int .i64 y) :=
        ⟨(hb3.cell (p := ⟨w.heap.size, 0, none⟩) hsz).trans f0, (hb3.cell (p := ⟨w.heap.size, 1, none⟩) hsz).trans f1, (hb3.cell (p := ⟨w.heap.size, 2, none⟩) hsz).trans f2, (hb3.cell (p := ⟨w.heap.size, 3, none⟩) hsz).trans f3, (hb3.cell (p := ⟨w.heap.size, 4, none⟩) hsz).trans f4⟩
      have HCF := Lib.hid hcf'
      have HB3 := Lib.hid hb3
      clear f0 f1 f2 f3 f4 hcf' hb2 hb3 r0 r1 r2 r3 r4 r5 r6
      go_roundw
      case rel => exact ⟨k + 1, by omega, by go_num, by rw [HE.out], hnx.trans (HB3.out.mono hnx.size), HCF.out, Nat.lt_of_lt_of_le hsz HB3.out.size⟩
      case measure => simp [intOf]; omega
    · have hkn : k = n := by omega
      subst hkn
      have HE := Lib.hid (show winI b u t q y (l.take k) = winI b u t q y l by rw [HN.out, List.take_length])
      go_wp2_with fail
      go_ret
      exact ⟨by rw [HE.out]; rfl, hnx⟩
end Go.Proofs.Yteoeelhljimibaa
