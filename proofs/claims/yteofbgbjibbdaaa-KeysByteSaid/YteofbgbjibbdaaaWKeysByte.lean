/- The law KeysByte. -/
import Derived.Test.YteofbgbjibbdaaaKyKey
import Derived.Deep.RegionWith
import Derived.IntWalk
namespace Go.Proofs.Yteofbgbjibbdaaa
open Go.RowKit
set_option linter.unusedVariables false

theorem lookF_all {l : List UInt8} (h : ∀ c ∈ l, mayB c = true) : lookF l = if l.length = 0 then ((1 : Int), (0 : Int)) else if 250 < l.length then (2, 0) else (0, 0) := by
  by_cases h0 : l.length = 0
  · rw [lookF_empty h0, if_pos h0]
  by_cases h1 : 250 < l.length
  · rw [lookF_long h1, if_neg h0, if_pos h1]
  · rw [if_neg h0, if_neg h1]
    exact lookF_none (by omega) (by omega) (fun j hj _ => h _ (List.getElem_mem hj))
/-- The text with one byte in it that may not be. -/
def spoil (s : ByteArray) (i : Nat) (x : UInt8) : ByteArray := s.extract 0 i ++ ⟨#[x]⟩ ++ s.extract (i + 1) s.size
theorem spoil_list (s : ByteArray) (i : Nat) (x : UInt8) : (spoil s i x).data.toList = s.data.toList.take i ++ x :: s.data.toList.drop (i + 1) := by
  simp [spoil, ByteArray.data_extract]
  rw [List.take_of_length_le (by simp)]
theorem spoil_look {s : ByteArray} {i : Nat} {x : UInt8} (hi : i < s.size) (h : ∀ c ∈ s.data.toList, mayB c = true) (hx : mayB x = false) : lookF (spoil s i x).data.toList = if 250 < s.size then ((2 : Int), (0 : Int)) else ((3 : Int), (i : Int)) := by
  have hil : i < s.data.toList.length := by simpa using hi
  have hl : (spoil s i x).data.toList.length = s.size := by
    rw [spoil_list]; simp; omega
  by_cases h1 : 250 < s.size
  · rw [if_pos h1, lookF_long (by rw [hl]; exact h1)]
  · rw [if_neg h1]
    have hk : i < (spoil s i x).data.toList.length := by rw [hl]; exact hi
    refine lookF_byte hk (by rw [hl]; omega) ?_ ?_
    · intro j hj hji
      have e : (spoil s i x).data.toList[j] = s.data.toList[j]'(by omega) := by
        simp only [spoil_list]
        rw [List.getElem_append_left (by simp; omega)]
        simp
      rw [e]
      exact h _ (List.getElem_mem _)
    · have e : (spoil s i x).data.toList[i] = x := by
        simp only [spoil_list]
        rw [List.getElem_append_right (by simp; omega)]
        simp [Nat.min_eq_left (Nat.le_of_lt hi)]
      rw [e]; exact hx
/-- A byte that may not be. -/
def badOf (n : Int) : Int := if n % 34 = 33 then 127 else n % 34
theorem badOf_bad {n : Int} (h0 : 0 ≤ n) : 0 ≤ badOf n ∧ badOf n ≤ 255 ∧ mayB (UInt8.ofNat (badOf n).toNat) = false ∧ ((UInt8.ofNat (badOf n).toNat).toNat : Int) = badOf n := by
  have hr : 0 ≤ badOf n ∧ badOf n ≤ 255 := by unfold badOf; split <;> omega
  have e : ((UInt8.ofNat (badOf n).toNat).toNat : Int) = badOf n := by
    rw [UInt8.toNat_ofNat']
    omega
  refine ⟨hr.1, hr.2, ?_, e⟩
  by_cases h : n % 34 = 33
  · exact mayB_del (by rw [e]; unfold badOf; rw [if_pos h])
  · exact mayB_lo (by rw [e]; unfold badOf; rw [if_neg h]; omega)
theorem after_one {w w1 w' : World} {o : Obj} (hb : Below w.heap.size w w1) (hk : Below (w1.alloc o).drew.heap.size (w1.alloc o).drew w') : Below w.heap.size w w' :=
  (hb.alloc hb.size o).drew.trans (hk.mono (by have := hb.size; simp; omega))
theorem conv_one {x : Int} {c : UInt8} (h : (c.toNat : Int) = x) (wx : World) (b : Nat) (hc : wx.cell? ⟨b, 0, none⟩ = some (.int .u8 x)) :
    (convert 34 9 (.slice (some ⟨b, 0, none⟩) 1 1)).run Try.prog wx = .ok (.string ⟨#[c]⟩) wx :=
  run_convert_bytes_back (P := Try.prog) wx 34 9 5 ⟨b, 0, none⟩ 1 [c] Try.underlying34 Try.underlying5 Try.underlying9 (fun j hj => by
    obtain rfl : j = 0 := by simpa using hj
    rw [Addr.add_lit]; simpa [h] using hc)
set_option maxHeartbeats 4000000 in
set_option maxRecDepth 100000 in
theorem walk_KeysByte (a0 : Option Addr) (l0 c0 : Nat) (a1 : Int) (a2 : Int) (w : World) (w0 : Reads Try.prog w 34 (.slice a0 l0 c0)) (w1 : (Lit.int .u16 a1).wf = true) (w2 : (Lit.int .u8 a2).wf = true) :
    Calls Try.prog 5 #[.slice a0 l0 c0, .int .u16 a1, .int .u8 a2] w fun e w' => e = .returned (.bool true) ∧ Below w.heap.size w w' := by
  have hr1 : 0 ≤ a1 ∧ a1 ≤ 65535 := by simpa [Lit.wf, IntKind.min, IntKind.max, IntKind.signed, IntKind.bits] using w1
  obtain ⟨p1, q1⟩ := hr1
  obtain ⟨p2, q2⟩ := bounds_u8 w2
  have hN : w.heap.size ≤ w.heap.size := Nat.le_refl _
  have hk : l0 ≤ 600 → Calls Try.prog 21 #[.slice a0 l0 c0] w (IsKey w l0) := by
    intro hl
    rcases reads_bytes (e := 5) Try.underlying34 (by kernel_rfl) (by kernel_rfl) w0 with ⟨rfl, rfl, rfl⟩ | ⟨b, off, sp, rfl, h1, h2, h3, h4⟩
    · exact keyw_nil w
    · by_cases hc : 0 < c0
      · obtain rfl := h3 hc
        exact keyw_some b off l0 c0 w hl h2 h1 h4
      · obtain rfl : c0 = 0 := by omega
        obtain rfl : l0 = 0 := by omega
        exact keyw_zero _ _
  have hm : l0 ≤ 9223372036854775807 := by
    rcases reads_bytes (e := 5) Try.underlying34 (by kernel_rfl) (by kernel_rfl) w0 with ⟨_, rfl, _⟩ | ⟨b, off, sp, _, h1, h2, _, _⟩
    · omega
    · unfold maxLen at h2; omega
  clear w0 w1 w2
  by_cases hbig : 600 < l0
  · clear hk
    go_enter Try.func5, Try.ntmps5
    go_wp2_with (go_at_call 17; refine (lives03 _).mono ?_; rintro e w' ⟨rfl, hk⟩)
    go_ret
    exact ⟨rfl, hk⟩
  have hd : decide (600 < (l0 : Int)) = false := decide_eq_false (by omega)
  have HK := Lib.hid (hk (by omega))
  have hsm : l0 ≤ 600 := by omega
  clear hbig hk
  go_enter Try.func5, Try.ntmps5
  go_wp2_with fail
  refine HK.out.mono ?_
  rintro e w1 ⟨l, rfl, hl, hmay, hb1⟩
  obtain ⟨s, hs⟩ : ∃ s : ByteArray, s = ⟨l.toArray⟩ := ⟨_, rfl⟩
  have hsl : s.data.toList = l := by rw [hs]
  have hss : s.size = l0 := by rw [hs, ← hl]; rfl
  rw [← hs]
  rw [← hsl] at hmay
  clear hs hl hsl HK
  subst hss
  have hsM : s.size ≤ maxLen := Nat.le_trans hsm (by unfold maxLen; decide)
  have hL := lookF_all hmay
  rw [Array.length_toList] at hL
  have hL' : lookF s.data.toList = if s.size = 0 then ((1 : Int), (0 : Int)) else if 250 < s.size then (2, 0) else (0, 0) := hL
  clear hL
  by_cases h0 : s.size = 0
  · rw [if_pos h0] at hL'
    have HL := Lib.hid hL'
    have b0 : decide (250 < (s.size : Int)) = false := decide_eq_false (by omega)
    have b1 : ((s.size : Int) == 0) = true := beq_iff_eq.mpr (by omega)
    clear hL' h0
    go_wp2_with (first
      | (go_at_call 10; refine (look _ _ hsM).mono ?_; rintro e w' ⟨rfl, rfl⟩; rw [HL.out])
      | (go_at_call 12; refine (okw _ _ hsM).mono ?_; rintro e w' ⟨rfl, rfl⟩; rw [HL.out])
      | (go_at_call 17; refine (lives03 _).mono ?_; rintro e w' ⟨rfl, hk⟩; have hq := box_then hb1 hN hk; clear hk))
    go_ret
    exact ⟨rfl, hq⟩
  rw [if_neg h0] at hL'
  have hpos : 0 < s.size := by omega
  obtain ⟨x, hx33⟩ : ∃ x, x = badOf a2 := ⟨_, rfl⟩
  obtain ⟨i, hi⟩ : ∃ i : Nat, (i : Int) = a1 % (s.size : Int) := ⟨(a1 % (s.size : Int)).toNat, by have := Int.emod_nonneg a1 (b := (s.size : Int)) (by omega); omega⟩
  have his : i < s.size := by have := Int.emod_lt_of_pos a1 (b := (s.size : Int)) (by omega); omega
  obtain ⟨x0, x1, x2, x3⟩ := badOf_bad p2
  rw [← hx33] at x0 x1 x2 x3
  obtain ⟨X, hX⟩ : ∃ X, X = UInt8.ofNat x.toNat := ⟨_, rfl⟩
  rw [← hX] at x2 x3
  have hcv := conv_one (x := x) (c := X) x3
  have hS := spoil_look his hmay x2
  have hSs : (spoil s i X).size ≤ maxLen := by
    have : (spoil s i X).data.toList.length = s.size := by
      rw [spoil_list]
      have : s.data.toList.length = s.size := by simp
      simp; omega
    rw [Array.length_toList] at this
    exact Nat.le_trans (Nat.le_of_eq this) hsM
  have b0 : ((s.size : Int) == 0) = false := beq_eq_false_iff_ne.mpr (by omega)
  have hmod : a1.tmod (s.size : Int) = a1 % (s.size : Int) := Int.tmod_eq_emod_of_nonneg p1
  have HX := Lib.hid x2
  have HI := Lib.hid hi
  have HM := Lib.hid hmod
  clear x2 h0 hmay hi hmod
  have hx : a2 % 34 = 33 ∧ x = 127 ∨ (a2 % 34 == 33) = false ∧ x = a2 % 34 := by
    rw [hx33]
    unfold badOf
    by_cases h : a2 % 34 = 33
    · exact .inl ⟨h, by rw [if_pos h]⟩
    · exact .inr ⟨beq_eq_false_iff_ne.mpr h, by rw [if_neg h]⟩
  clear hx33 hX x3
  have y1 : (i : Int) + 1 ≤ (s.size : Int) := by omega
  have y2 : 0 ≤ (i : Int) + 1 := by omega
  have y3 : (i : Int) ≤ (s.size : Int) := by omega
  have y4 : i ≤ s.size := by omega
  have y5 : i + 1 ≤ s.size := by omega
  have z1 : IntKind.i64.wrap ((i : Int) + 1) = (i : Int) + 1 := IntWalk.i64_in _ (by omega)
  have z2 : ((i : Int) + 1).toNat = i + 1 := by omega
  by_cases h1 : 250 < s.size
  · rw [if_pos h1] at hL' hS
    have HL := Lib.hid hL'
    have HS := Lib.hid hS
    have b1 : decide (250 < (s.size : Int)) = true := decide_eq_true (by omega)
    clear hL' hS h1
    rcases hx with ⟨hx1, rfl⟩ | ⟨hx1, rfl⟩
    · go_wp2_with (first
        | (go_at_call 10; refine (look _ _ hsM).mono ?_; rintro e w' ⟨rfl, rfl⟩; rw [HL.out])
        | (go_at_call 12; refine (okw _ _ hsM).mono ?_; rintro e w' ⟨rfl, rfl⟩; rw [HL.out]))
      rw [← HI.out]
      go_region_with (go_at_call 10; refine (look _ _ hSs).mono ?_; rintro e w' ⟨rfl, rfl⟩; rw [HS.out])
      go_wp2_with (go_at_call 17; refine (lives03 _).mono ?_; rintro e w' ⟨rfl, hk⟩; have hq := after_one hb1 hk; clear hk)
      go_ret
      exact ⟨rfl, hq⟩
    · go_wp2_with (first
        | (go_at_call 10; refine (look _ _ hsM).mono ?_; rintro e w' ⟨rfl, rfl⟩; rw [HL.out])
        | (go_at_call 12; refine (okw _ _ hsM).mono ?_; rintro e w' ⟨rfl, rfl⟩; rw [HL.out]))
      rw [← HI.out]
      go_region_with (go_at_call 10; refine (look _ _ hSs).mono ?_; rintro e w' ⟨rfl, rfl⟩; rw [HS.out])
      go_wp2_with (go_at_call 17; refine (lives03 _).mono ?_; rintro e w' ⟨rfl, hk⟩; have hq := after_one hb1 hk; clear hk)
      go_ret
      exact ⟨rfl, hq⟩
  · rw [if_neg h1] at hL' hS
    have HL := Lib.hid hL'
    have HS := Lib.hid hS
    have b1 : decide (250 < (s.size : Int)) = false := decide_eq_false (by omega)
    clear hL' hS h1
    rcases hx with ⟨hx1, rfl⟩ | ⟨hx1, rfl⟩
    · go_wp2_with (first
        | (go_at_call 10; refine (look _ _ hsM).mono ?_; rintro e w' ⟨rfl, rfl⟩; rw [HL.out])
        | (go_at_call 12; refine (okw _ _ hsM).mono ?_; rintro e w' ⟨rfl, rfl⟩; rw [HL.out]))
      rw [← HI.out]
      go_region_with (go_at_call 10; refine (look _ _ hSs).mono ?_; rintro e w' ⟨rfl, rfl⟩; rw [HS.out])
      go_wp2_with (go_at_call 17; refine (lives03 _).mono ?_; rintro e w' ⟨rfl, hk⟩; have hq := after_one hb1 hk; clear hk)
      go_ret
      exact ⟨rfl, hq⟩
    · go_wp2_with (first
        | (go_at_call 10; refine (look _ _ hsM).mono ?_; rintro e w' ⟨rfl, rfl⟩; rw [HL.out])
        | (go_at_call 12; refine (okw _ _ hsM).mono ?_; rintro e w' ⟨rfl, rfl⟩; rw [HL.out]))
      rw [← HI.out]
      go_region_with (go_at_call 10; refine (look _ _ hSs).mono ?_; rintro e w' ⟨rfl, rfl⟩; rw [HS.out])
      go_wp2_with (go_at_call 17; refine (lives03 _).mono ?_; rintro e w' ⟨rfl, hk⟩; have hq := after_one hb1 hk; clear hk)
      go_ret
      exact ⟨rfl, hq⟩
end Go.Proofs.Yteofbgbjibbdaaa
