/- Scripts: may a command be said? -/
import Derived.Test.YtcmogfdbjppdeaaScRd
import Derived.Test.YtcmogfdbjppdeaaScFeed
import Derived.IntWalk
namespace Go.Proofs.Ytcmogfdbjppdeaa
open Go.RowKit
set_option linter.unusedVariables false

theorem isEmpty_len {bs : List UInt8} {n : Nat} (h : n = bs.length) : bs.isEmpty = decide (n = 0) := by
  subst h
  cases bs <;> simp
theorem maysaid (x : Cm) (ab : Option Addr) (cb : Nat) (w : World) (hb : x.2.2.length ≤ cb) (hc : cb ≤ maxLen) (hk : 0 ≤ x.1 ∧ x.1 ≤ 255) :
    Calls Try.prog 20 #[.agg #[.int .u8 x.1, .int .i64 x.2.1, .slice ab x.2.2.length cb]] w fun e w' => e = .returned (.bool (mayC x)) ∧ Below w.heap.size w w' := by
  obtain ⟨k, c, bs⟩ := x
  simp only at hb hk ⊢
  obtain ⟨k0, k1⟩ := hk
  unfold maxLen at hc
  have fin : ∀ (o : Obj), Below w.heap.size w (w.alloc o) := fun o => (Below.refl _ _).alloc (Nat.le_refl _) o
  have FIN := Lib.hid fin
  clear fin
  obtain ⟨n, hn⟩ : ∃ n, n = bs.length := ⟨_, rfl⟩
  have he := isEmpty_len hn
  have hcd : (0 ≤ c ∧ c < 64) ∨ c < 0 ∨ 64 ≤ c := by omega
  have hkd : k = 0 ∨ k = 1 ∨ k = 2 ∨ 2 < k := by omega
  have hnd : n = 0 ∨ 0 < n := by omega
  rcases hcd with ⟨c0, c1⟩ | c0 | c0
  · have d0 : decide (c < 0) = false := decide_eq_false (by omega)
    have d1 : decide (64 ≤ c) = false := decide_eq_false (by omega)
    rcases hkd with rfl | rfl | rfl | hk2
    · have hz : mayC (0, c, bs) = decide ((n : Int) ≤ 255) := by
        unfold mayC; rw [hn]; simp [c0, c1]; constructor <;> intro h <;> omega
      rw [hz, ← hn]; rw [← hn] at hb; clear hz hn he hnd
      go_enter Try.func20, Try.ntmps20
      go_wp2
      go_ret
      exact ⟨rfl, FIN.out _⟩
    · rcases hnd with rfl | hn0
      · have hz : mayC (1, c, bs) = true := by unfold mayC; rw [he]; simp [c0, c1]
        rw [hz, ← hn]; rw [← hn] at hb; clear hz hn he
        go_enter Try.func20, Try.ntmps20
        go_wp2
        go_ret
        exact ⟨rfl, FIN.out _⟩
      · have hz : mayC (1, c, bs) = false := by unfold mayC; rw [he]; simp; intros; omega
        have f0 : ((n : Int) == 0) = false := by simp; omega
        rw [hz, ← hn]; rw [← hn] at hb; clear hz hn he
        go_enter Try.func20, Try.ntmps20
        go_wp2
        go_ret
        exact ⟨rfl, FIN.out _⟩
    · rcases hnd with rfl | hn0
      · by_cases hc0 : c = 0
        · have hz : mayC (2, c, bs) = true := by unfold mayC; rw [he]; simp [hc0]
          subst hc0
          rw [hz, ← hn]; rw [← hn] at hb; clear hz hn he
          go_enter Try.func20, Try.ntmps20
          go_wp2
          go_ret
          exact ⟨rfl, FIN.out _⟩
        · have hz : mayC (2, c, bs) = false := by unfold mayC; rw [he]; simp [hc0]
          have f1 : (c == 0) = false := by simpa using hc0
          rw [hz, ← hn]; rw [← hn] at hb; clear hz hn he
          go_enter Try.func20, Try.ntmps20
          go_wp2
          go_ret
          exact ⟨rfl, FIN.out _⟩
      · have hz : mayC (2, c, bs) = false := by unfold mayC; rw [he]; simp; intros; omega
        have f0 : ((n : Int) == 0) = false := by simp; omega
        rw [hz, ← hn]; rw [← hn] at hb; clear hz hn he
        go_enter Try.func20, Try.ntmps20
        go_wp2
        go_ret
        exact ⟨rfl, FIN.out _⟩
    · have hz : mayC (k, c, bs) = false := by
        have a0 : ¬ k = 0 := by omega
        have a1 : ¬ k = 1 := by omega
        have a2 : ¬ k = 2 := by omega
        unfold mayC; simp [a0, a1, a2]
      have f0 : (k == 0) = false := by simp; omega
      have f1 : (k == 1) = false := by simp; omega
      have f2 : (k == 2) = false := by simp; omega
      rw [hz, ← hn]; rw [← hn] at hb; clear hz hn he hnd
      go_enter Try.func20, Try.ntmps20
      go_wp2
      go_ret
      exact ⟨rfl, FIN.out _⟩
  · have hz : mayC (k, c, bs) = false := by
      have : ¬ 0 ≤ c := by omega
      unfold mayC; simp [this]
    have d0 : decide (c < 0) = true := decide_eq_true (by omega)
    rw [hz, ← hn]; rw [← hn] at hb; clear hz hn he hnd hkd
    go_enter Try.func20, Try.ntmps20
    go_wp2
    go_ret
    exact ⟨rfl, FIN.out _⟩
  · have hz : mayC (k, c, bs) = false := by
      have : ¬ c < 64 := by omega
      unfold mayC; simp [this]
    have d0 : decide (c < 0) = false := decide_eq_false (by omega)
    have d1 : decide (64 ≤ c) = true := decide_eq_true (by omega)
    rw [hz, ← hn]; rw [← hn] at hb; clear hz hn he hnd hkd
    go_enter Try.func20, Try.ntmps20
    go_wp2
    go_ret
    exact ⟨rfl, FIN.out _⟩
theorem mayw (x : Cm) (ab : Option Addr) (cb : Nat) (w : World) (hb : x.2.2.length ≤ cb) (hc : cb ≤ maxLen) (hk : 0 ≤ x.1 ∧ x.1 ≤ 255) :
    Calls Try.prog 15 #[.agg #[.int .u8 x.1, .int .i64 x.2.1, .slice ab x.2.2.length cb]] w fun e w' => e = .returned (.bool (mayC x)) ∧ Below w.heap.size w w' := by
  obtain ⟨k, c, bs⟩ := x
  simp only at hb hk ⊢
  obtain ⟨k0, k1⟩ := hk
  unfold maxLen at hc
  have fin : ∀ (o : Obj), Below w.heap.size w (w.alloc o) := fun o => (Below.refl _ _).alloc (Nat.le_refl _) o
  have FIN := Lib.hid fin
  clear fin
  obtain ⟨n, hn⟩ : ∃ n, n = bs.length := ⟨_, rfl⟩
  have he := isEmpty_len hn
  have hcd : (0 ≤ c ∧ c < 64) ∨ c < 0 ∨ 64 ≤ c := by omega
  have hkd : k = 0 ∨ k = 1 ∨ k = 2 ∨ 2 < k := by omega
  have hnd : n = 0 ∨ 0 < n := by omega
  rcases hcd with ⟨c0, c1⟩ | c0 | c0
  · have d0 : decide (0 ≤ c) = true := decide_eq_true (by omega)
    have d1 : decide (c < 64) = true := decide_eq_true (by omega)
    rcases hkd with rfl | rfl | rfl | hk2
    · have hz : mayC (0, c, bs) = decide ((n : Int) < 256) := by
        unfold mayC; rw [hn]; simp [c0, c1]; constructor <;> intro h <;> omega
      rw [hz, ← hn]; rw [← hn] at hb; clear hz hn he hnd
      go_enter Try.func15, Try.ntmps15
      go_wp2
      go_ret
      exact ⟨rfl, FIN.out _⟩
    · rcases hnd with rfl | hn0
      · have hz : mayC (1, c, bs) = true := by unfold mayC; rw [he]; simp [c0, c1]
        rw [hz, ← hn]; rw [← hn] at hb; clear hz hn he
        go_enter Try.func15, Try.ntmps15
        go_wp2
        go_ret
        exact ⟨rfl, FIN.out _⟩
      · have hz : mayC (1, c, bs) = false := by unfold mayC; rw [he]; simp; intros; omega
        have f0 : ((n : Int) == 0) = false := by simp; omega
        rw [hz, ← hn]; rw [← hn] at hb; clear hz hn he
        go_enter Try.func15, Try.ntmps15
        go_wp2
        go_ret
        exact ⟨rfl, FIN.out _⟩
    · rcases hnd with rfl | hn0
      · by_cases hc0 : c = 0
        · have hz : mayC (2, c, bs) = true := by unfold mayC; rw [he]; simp [hc0]
          subst hc0
          rw [hz, ← hn]; rw [← hn] at hb; clear hz hn he
          go_enter Try.func15, Try.ntmps15
          go_wp2
          go_ret
          exact ⟨rfl, FIN.out _⟩
        · have hz : mayC (2, c, bs) = false := by unfold mayC; rw [he]; simp [hc0]
          have f1 : (c == 0) = false := by simpa using hc0
          rw [hz, ← hn]; rw [← hn] at hb; clear hz hn he
          go_enter Try.func15, Try.ntmps15
          go_wp2
          go_ret
          exact ⟨rfl, FIN.out _⟩
      · have hz : mayC (2, c, bs) = false := by unfold mayC; rw [he]; simp; intros; omega
        have f0 : ((n : Int) == 0) = false := by simp; omega
        rw [hz, ← hn]; rw [← hn] at hb; clear hz hn he
        by_cases hc0 : c = 0
        · subst hc0
          go_enter Try.func15, Try.ntmps15
          go_wp2
          go_ret
          exact ⟨rfl, FIN.out _⟩
        · have f1 : (c == 0) = false := by simpa using hc0
          go_enter Try.func15, Try.ntmps15
          go_wp2
          go_ret
          exact ⟨rfl, FIN.out _⟩
    · have hz : mayC (k, c, bs) = false := by
        have a0 : ¬ k = 0 := by omega
        have a1 : ¬ k = 1 := by omega
        have a2 : ¬ k = 2 := by omega
        unfold mayC; simp [a0, a1, a2]
      have f0 : (k == 0) = false := by simp; omega
      have f1 : (k == 1) = false := by simp; omega
      have f2 : (k == 2) = false := by simp; omega
      rw [hz, ← hn]; rw [← hn] at hb; clear hz hn he hnd
      go_enter Try.func15, Try.ntmps15
      go_wp2
      go_ret
      exact ⟨rfl, FIN.out _⟩
  · have hz : mayC (k, c, bs) = false := by
      have : ¬ 0 ≤ c := by omega
      unfold mayC; simp [this]
    have d0 : decide (0 ≤ c) = false := decide_eq_false (by omega)
    rw [hz, ← hn]; rw [← hn] at hb; clear hz hn he hnd
    rcases hkd with rfl | rfl | rfl | hk2
    · go_enter Try.func15, Try.ntmps15
      go_wp2
      go_ret
      exact ⟨rfl, FIN.out _⟩
    · go_enter Try.func15, Try.ntmps15
      go_wp2
      go_ret
      exact ⟨rfl, FIN.out _⟩
    · have f1 : (c == 0) = false := by simp; omega
      go_enter Try.func15, Try.ntmps15
      go_wp2
      go_ret
      exact ⟨rfl, FIN.out _⟩
    · have f0 : (k == 0) = false := by simp; omega
      have f1 : (k == 1) = false := by simp; omega
      have f2 : (k == 2) = false := by simp; omega
      go_enter Try.func15, Try.ntmps15
      go_wp2
      go_ret
      exact ⟨rfl, FIN.out _⟩
  · have hz : mayC (k, c, bs) = false := by
      have : ¬ c < 64 := by omega
      unfold mayC; simp [this]
    have d0 : decide (0 ≤ c) = true := decide_eq_true (by omega)
    have d1 : decide (c < 64) = false := decide_eq_false (by omega)
    rw [hz, ← hn]; rw [← hn] at hb; clear hz hn he hnd
    rcases hkd with rfl | rfl | rfl | hk2
    · go_enter Try.func15, Try.ntmps15
      go_wp2
      go_ret
      exact ⟨rfl, FIN.out _⟩
    · go_enter Try.func15, Try.ntmps15
      go_wp2
      go_ret
      exact ⟨rfl, FIN.out _⟩
    · have f1 : (c == 0) = false := by simp; omega
      go_enter Try.func15, Try.ntmps15
      go_wp2
      go_ret
      exact ⟨rfl, FIN.out _⟩
    · have f0 : (k == 0) = false := by simp; omega
      have f1 : (k == 1) = false := by simp; omega
      have f2 : (k == 2) = false := by simp; omega
      go_enter Try.func15, Try.ntmps15
      go_wp2
      go_ret
      exact ⟨rfl, FIN.out _⟩
end Go.Proofs.Ytcmogfdbjppdeaa
