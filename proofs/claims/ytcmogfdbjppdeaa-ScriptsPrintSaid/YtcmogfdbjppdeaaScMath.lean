/- Scripts of bytes: what commands they are, and what bytes say them (mathematics). -/
import Derived.Test.YtcmogfdbjppdeaaLib
namespace Go.Proofs.Ytcmogfdbjppdeaa
open Go.RowKit
set_option linter.unusedVariables false

/-- A command: its kind, its connection, its bytes. -/
abbrev Cm := Int × Int × List UInt8
/-- What a feed takes in, and what is left behind it. -/
def fedB : List UInt8 → List UInt8
  | [] => []
  | n :: r => r.take n.toNat
def fedR : List UInt8 → List UInt8
  | [] => []
  | n :: r => r.drop n.toNat
theorem fedR_len (r : List UInt8) : (fedR r).length ≤ r.length := by
  cases r with
  | nil => simp [fedR]
  | cons n r => simp [fedR, List.length_drop]; omega
def parse (l : List UInt8) : List Cm :=
  match l with
  | [] => []
  | b :: r =>
    if b.toNat < 64 then (0, (b.toNat : Int), fedB r) :: parse (fedR r)
    else if b.toNat < 192 then (1, ((b.toNat % 64 : Nat) : Int), []) :: parse r
    else (2, 0, []) :: parse r
termination_by l.length
decreasing_by
  · have := fedR_len r; simp; omega
  · simp
  · simp
theorem parse_nil : parse [] = [] := by rw [parse]
theorem parse_feed {b : UInt8} (r : List UInt8) (h : b.toNat < 64) : parse (b :: r) = (0, (b.toNat : Int), fedB r) :: parse (fedR r) := by rw [parse, if_pos h]
theorem parse_pick {b : UInt8} (r : List UInt8) (h : ¬ b.toNat < 64) (h2 : b.toNat < 192) : parse (b :: r) = (1, ((b.toNat % 64 : Nat) : Int), []) :: parse r := by rw [parse, if_neg h, if_pos h2]
theorem parse_tick {b : UInt8} (r : List UInt8) (h : ¬ b.toNat < 64) (h2 : ¬ b.toNat < 192) : parse (b :: r) = (2, 0, []) :: parse r := by rw [parse, if_neg h, if_neg h2]
/-- One command more, and what is left. -/
def nextC (b : UInt8) (r : List UInt8) : Cm := if b.toNat < 64 then (0, (b.toNat : Int), fedB r) else if b.toNat < 192 then (1, ((b.toNat % 64 : Nat) : Int), []) else (2, 0, [])
def nextR (b : UInt8) (r : List UInt8) : List UInt8 := if b.toNat < 64 then fedR r else r
theorem parse_cons (b : UInt8) (r : List UInt8) : parse (b :: r) = nextC b r :: parse (nextR b r) := by
  unfold nextC nextR
  by_cases h : b.toNat < 64
  · rw [parse_feed r h]; simp [h]
  · by_cases h2 : b.toNat < 192
    · rw [parse_pick r h h2]; simp [h, h2]
    · rw [parse_tick r h h2]; simp [h, h2]
theorem nextR_len (b : UInt8) (r : List UInt8) : (nextR b r).length ≤ r.length := by
  unfold nextR; split
  · exact fedR_len r
  · exact Nat.le_refl _
/-- May it be said? -/
def mayC (x : Cm) : Bool := decide (0 ≤ x.2.1) && (decide (x.2.1 < 64) && ((x.1 == 0 && decide (x.2.2.length ≤ 255)) || ((x.1 == 1 && x.2.2.isEmpty) || (x.1 == 2 && (x.2.2.isEmpty && x.2.1 == 0)))))
theorem u8_lt (c : UInt8) : c.toNat < 256 := c.toNat_lt
theorem fedB_len (r : List UInt8) : (fedB r).length ≤ 255 := by
  cases r with
  | nil => simp [fedB]
  | cons n r => have := u8_lt n; simp [fedB, List.length_take]; omega
theorem next_may (b : UInt8) (r : List UInt8) : mayC (nextC b r) = true := by
  have hf := fedB_len r
  unfold nextC mayC
  by_cases h : b.toNat < 64
  · simp [h, hf]; omega
  · by_cases h2 : b.toNat < 192
    · simp [h, h2]; omega
    · simp [h, h2]
theorem parse_induct {P : List UInt8 → Prop} (h0 : P []) (h1 : ∀ b r, P (nextR b r) → P (b :: r)) : ∀ l, P l := by
  have : ∀ n, ∀ l : List UInt8, l.length ≤ n → P l := by
    intro n
    induction n with
    | zero => intro l h; cases l with
      | nil => exact h0
      | cons b r => simp at h
    | succ n ih =>
      intro l h
      cases l with
      | nil => exact h0
      | cons b r => exact h1 b r (ih _ (by have := nextR_len b r; simp at h; omega))
  exact fun l => this l.length l (Nat.le_refl _)
theorem parse_may (l : List UInt8) : ∀ x ∈ parse l, mayC x = true := by
  refine parse_induct (P := fun l => ∀ x ∈ parse l, mayC x = true) ?_ ?_ l
  · intro x h; rw [parse_nil] at h; simp at h
  · intro b r ih x h
    rw [parse_cons] at h
    rcases List.mem_cons.mp h with rfl | h
    · exact next_may b r
    · exact ih x h
theorem parse_len (l : List UInt8) : (parse l).length ≤ l.length := by
  refine parse_induct (P := fun l => (parse l).length ≤ l.length) ?_ ?_ l
  · rw [parse_nil]; simp
  · intro b r ih
    rw [parse_cons]
    have := nextR_len b r
    simp; omega
/-- What says a command. -/
def say (x : Cm) : List UInt8 := if x.1 = 0 then UInt8.ofNat x.2.1.toNat :: UInt8.ofNat x.2.2.length :: x.2.2 else if x.1 = 1 then [UInt8.ofNat (64 + x.2.1.toNat)] else [192]
def sayAll (l : List Cm) : List UInt8 := l.flatMap say
theorem sayAll_snoc (l : List Cm) (x : Cm) : sayAll (l ++ [x]) = sayAll l ++ say x := by simp [sayAll]
theorem ofNat_toNat (n : Nat) (h : n < 256) : (UInt8.ofNat n).toNat = n := by rw [UInt8.toNat_ofNat']; omega
theorem say_next (x : Cm) (h : mayC x = true) (r : List UInt8) : ∃ b t, say x ++ r = b :: t ∧ nextC b t = x ∧ nextR b t = r := by
  obtain ⟨k, c, bs⟩ := x
  unfold mayC at h
  simp only [Bool.and_eq_true, Bool.or_eq_true, decide_eq_true_eq, beq_iff_eq, List.isEmpty_iff] at h
  obtain ⟨hc0, hc1, h⟩ := h
  rcases h with ⟨rfl, hl⟩ | ⟨rfl, rfl⟩ | ⟨rfl, rfl, rfl⟩
  · refine ⟨UInt8.ofNat c.toNat, UInt8.ofNat bs.length :: (bs ++ r), by simp [say], ?_, ?_⟩
    · unfold nextC
      rw [ofNat_toNat _ (by omega), if_pos (by omega)]
      simp [fedB, ofNat_toNat bs.length (by omega)]; omega
    · unfold nextR
      rw [ofNat_toNat _ (by omega), if_pos (by omega)]
      simp [fedR, ofNat_toNat bs.length (by omega)]
  · refine ⟨UInt8.ofNat (64 + c.toNat), r, by simp [say], ?_, ?_⟩
    · unfold nextC
      rw [ofNat_toNat _ (by omega), if_neg (by omega), if_pos (by omega)]
      simp; omega
    · unfold nextR
      rw [ofNat_toNat _ (by omega), if_neg (by omega)]
  · refine ⟨192, r, by simp [say], ?_, ?_⟩
    · rfl
    · rfl
theorem parse_say (l : List Cm) (h : ∀ x ∈ l, mayC x = true) (r : List UInt8) : parse (sayAll l ++ r) = l ++ parse r := by
  induction l with
  | nil => simp [sayAll]
  | cons x l ih =>
    obtain ⟨b, t, h1, h2, h3⟩ := say_next x (h x (by simp)) (sayAll l ++ r)
    have : sayAll (x :: l) ++ r = say x ++ (sayAll l ++ r) := by simp [sayAll]
    rw [this, h1, parse_cons, h2, h3, ih (fun y hy => h y (by simp [hy]))]
    simp
/-- How many bytes a command is of. -/
def usedC (x : Cm) : Nat := if x.1 = 0 then 2 + x.2.2.length else 1
def used (l : List Cm) : Nat := (l.map usedC).sum
theorem next_used (b : UInt8) (r : List UInt8) : usedC (nextC b r) + (nextR b r).length = r.length + 1 ∨ (usedC (nextC b r) + (nextR b r).length = r.length + 2 ∧ (nextC b r).2.2 = [] ∧ r = []) := by
  unfold nextC nextR usedC
  by_cases h : b.toNat < 64
  · simp only [if_pos h]
    cases r with
    | nil => right; simp [fedB, fedR]
    | cons n r => left; simp [fedB, fedR, List.length_take, List.length_drop]; omega
  · simp only [if_neg h]
    split <;> (left; simp; omega)
end Go.Proofs.Ytcmogfdbjppdeaa
