/- Scripts: the calls, of whatever addresses; how long what is said is. -/
import Derived.Test.YtcmogfdbjppdeaaScParse
import Derived.Test.YtcmogfdbjppdeaaScOther
import Derived.Test.YtcmogfdbjppdeaaScSame
import Derived.Test.YtcmogfdbjppdeaaScPr
namespace Go.Proofs.Ytcmogfdbjppdeaa
open Go.RowKit
set_option linter.unusedVariables false

theorem parsew (A : Option Addr) (c : Nat) (L : List UInt8) (w : World) (hL : L.length ≤ 1048576) (hLc : L.length ≤ c) (hc : c ≤ maxLen) (hA : A = none → c = 0) (hr : Rd w w.heap.size A L) :
    Calls Try.prog 10 #[.slice A L.length c] w (Parsed w (parse L)) := by
  cases L with
  | nil => exact parse_none A c w hc hA
  | cons b r =>
    obtain ⟨g, off, rfl, hg, _⟩ := hr (by simp)
    exact parse_some g off c (b :: r) w hL hLc hc hg hr
theorem samew (A A' : Option Addr) (c c' : Nat) (cs : List Cm) (w : World) (hn : cs.length ≤ 1048576) (hkd : ∀ x ∈ cs, 0 ≤ x.1 ∧ x.1 ≤ 255) (hc : cs.length ≤ c) (hcm : c ≤ maxLen) (hc' : cs.length ≤ c') (hcm' : c' ≤ maxLen) (h : RdC w w.heap.size .u8 A cs) (h' : RdC w w.heap.size .i64 A' cs) :
    Calls Try.prog 11 #[.slice A cs.length c, .slice A' cs.length c'] w fun e w' => e = .returned (.bool true) ∧ Below w.heap.size w w' := by
  cases cs with
  | nil =>
    refine (same_none A A' c c' w).mono ?_
    rintro e w' ⟨rfl, rfl⟩
    exact ⟨rfl, Below.refl _ _⟩
  | cons x r =>
    obtain ⟨g, off, rfl, _⟩ := h (by simp)
    obtain ⟨g', off', rfl, _⟩ := h' (by simp)
    exact same_some g off c g' off' c' (x :: r) w hn hkd hc hcm hc' hcm' h h'
theorem otherw (A : Option Addr) (c : Nat) (cs : List Cm) (w : World) (hn : cs.length ≤ 1048576) (hbl : ∀ x ∈ cs, x.2.2.length ≤ 1048576) (hkd : ∀ x ∈ cs, 0 ≤ x.1 ∧ x.1 ≤ 255) (hc : cs.length ≤ c) (hcm : c ≤ maxLen) (h : RdC w w.heap.size .u8 A cs) :
    Calls Try.prog 12 #[.slice A cs.length c] w (OCms w cs) := by
  cases cs with
  | nil =>
    refine (other_none A c w).mono ?_
    rintro e w' ⟨rfl, rfl⟩
    exact ⟨_, rfl, ⟨[], trivial, .inl ⟨rfl, rfl⟩⟩, Below.refl _ _⟩
  | cons x r =>
    obtain ⟨g, off, rfl, _⟩ := h (by simp)
    exact other_some g off c (x :: r) w hn hbl hkd hc hcm h
theorem printw (A : Option Addr) (c : Nat) (cs : List Cm) (w : World) (hn : cs.length ≤ 1048576) (hS : (sayAll cs).length ≤ 1000000) (hkd : ∀ x ∈ cs, 0 ≤ x.1 ∧ x.1 ≤ 255) (hc : cs.length ≤ c) (hcm : c ≤ maxLen) (h : RdC w w.heap.size .u8 A cs) :
    Calls Try.prog 13 #[.slice A cs.length c] w (PrintTo w cs) := by
  cases cs with
  | nil => exact print_none A c w
  | cons x r =>
    obtain ⟨g, off, rfl, _⟩ := h (by simp)
    exact print_some g off c (x :: r) w hn hS hkd hc hcm h
theorem alikew (A A' : Option Addr) (c c' : Nat) (cs : List Cm) (w : World) (hn : cs.length ≤ 1048576) (hbl : ∀ x ∈ cs, x.2.2.length ≤ 1048576) (hkd : ∀ x ∈ cs, 0 ≤ x.1 ∧ x.1 ≤ 255) (hc : cs.length ≤ c) (hcm : c ≤ maxLen) (hc' : cs.length ≤ c') (hcm' : c' ≤ maxLen) (h : RdC w w.heap.size .u8 A cs) (h' : RdC w w.heap.size .u8 A' cs) :
    Calls Try.prog 16 #[.slice A cs.length c, .slice A' cs.length c'] w fun e w' => e = .returned (.bool true) ∧ Below w.heap.size w w' := by
  obtain ⟨n, hnn⟩ : ∃ n, n = cs.length := ⟨_, rfl⟩
  have HO := Lib.hid (otherw A' c' cs w hn hbl hkd hc' hcm' h')
  have HS := Lib.hid (fun A2 c2 w2 => samew A A2 c c2 cs w2 hn hkd hc hcm)
  rw [← hnn] at HO HS ⊢
  have HH := Lib.hid h
  have HN := Lib.hid hnn
  clear hn hbl hkd hc hcm hc' hcm' h h' hnn
  go_enter Try.func16, Try.ntmps16
  go_wp2_with fail
  refine HO.out.mono ?_
  rintro e w1 ⟨v, rfl, hC, hb⟩
  obtain ⟨a2, c2, hv, k1, k2, _, hr⟩ := hC.rd
  rw [← HN.out] at hv k1
  subst hv
  clear hC
  go_wp2_with fail
  refine (HS.out a2 c2 w1 k1 k2 ((HH.out.below hb (Nat.le_refl _)).mono hb.size) hr).mono ?_
  rintro e w2 ⟨rfl, hb2⟩
  go_wp2_with fail
  go_ret
  exact ⟨rfl, hb.trans (hb2.mono hb.size)⟩
/-- How long what is said is. -/
theorem say_used {x : Cm} (h : mayC x = true) : (say x).length = usedC x := by
  obtain ⟨k, c, bs⟩ := x
  obtain ⟨_, _, ⟨rfl, _⟩ | ⟨rfl, rfl⟩ | ⟨rfl, rfl, rfl⟩⟩ := may_parts h
  · simp [say, usedC]; omega
  · simp [say, usedC]
  · simp [say, usedC]
theorem sayAll_used : ∀ (l : List Cm), (∀ x ∈ l, mayC x = true) → (sayAll l).length = used l
  | [], _ => by simp [sayAll, used]
  | x :: l, h => by
    have ih := sayAll_used l (fun y hy => h y (by simp [hy]))
    have : sayAll (x :: l) = say x ++ sayAll l := by simp [sayAll]
    rw [this, List.length_append, ih, say_used (h x (by simp))]
    simp [used]
theorem used_parse (L : List UInt8) : used (parse L) = L.length ∨ (used (parse L) = L.length + 1 ∧ ∃ x, (parse L)[(parse L).length - 1]? = some x ∧ x.2.2 = []) := by
  refine parse_induct (P := fun L => used (parse L) = L.length ∨ (used (parse L) = L.length + 1 ∧ ∃ x, (parse L)[(parse L).length - 1]? = some x ∧ x.2.2 = [])) ?_ ?_ L
  · left; rw [parse_nil]; rfl
  · intro b r ih
    have hu : used (parse (b :: r)) = usedC (nextC b r) + used (parse (nextR b r)) := by rw [parse_cons]; simp [used]
    rcases next_used b r with h | ⟨h, hbs, rfl⟩
    · rcases ih with ih | ⟨ih, x, hx, hx2⟩
      · left; rw [hu, ih]; simp; omega
      · right
        refine ⟨by rw [hu, ih]; simp; omega, x, ?_, hx2⟩
        have hlen : (parse (b :: r)).length = (parse (nextR b r)).length + 1 := by rw [parse_cons]; simp
        have hpos : 0 < (parse (nextR b r)).length := by
          rcases Nat.eq_zero_or_pos (parse (nextR b r)).length with h0 | h0
          · rw [List.eq_nil_of_length_eq_zero h0] at hx; simp at hx
          · exact h0
        rw [hlen, parse_cons]
        have : (parse (nextR b r)).length + 1 - 1 = ((parse (nextR b r)).length - 1) + 1 := by omega
        rw [this, List.getElem?_cons_succ]
        exact hx
    · right
      have hn : nextR b [] = [] := by unfold nextR; split <;> rfl
      rw [hn] at h hu
      have h0 : parse (b :: []) = [nextC b []] := by rw [parse_cons, hn, parse_nil]
      refine ⟨by rw [hu, parse_nil]; simp [used] at h ⊢; omega, nextC b [], by rw [h0]; rfl, hbs⟩
theorem say_le (x : Cm) : (say x).length ≤ 2 + x.2.2.length := by
  unfold say
  split
  · simp; omega
  · split <;> simp <;> omega
theorem bytes_le (x : Cm) (h : mayC x = true) : x.2.2.length ≤ 255 := by
  obtain ⟨k, c, bs⟩ := x
  obtain ⟨_, _, ⟨_, h⟩ | ⟨_, rfl⟩ | ⟨_, rfl, _⟩⟩ := may_parts h
  · exact h
  · simp
  · simp
theorem kind_le (x : Cm) (h : mayC x = true) : 0 ≤ x.1 ∧ x.1 ≤ 255 := by
  obtain ⟨k, c, bs⟩ := x
  obtain ⟨_, _, ⟨rfl, h⟩ | ⟨rfl, rfl⟩ | ⟨rfl, rfl, _⟩⟩ := may_parts h <;> simp
end Go.Proofs.Ytcmogfdbjppdeaa
