/- A key that is made of whatever bytes. -/
import Derived.Test.YteofbgbjibbdaaaKySame
import Derived.Test.YteofbgbjibbdaaaOpen
import Derived.Test.YteofbgbjibbdaaaBits
import Derived.Laws.IdiomStrings
import Derived.Laws.BytesArg
namespace Go.Proofs.Yteofbgbjibbdaaa
open Go.RowKit
set_option linter.unusedVariables false

theorem info_byte : (Try.prog.info? 5).map (fun i => (i.zero, i.size, i.bytes)) = some (some (.int .u8 0), 1, 1) := by kernel_rfl
def bts (l : List UInt8) : List Value := l.map fun c => Value.int .u8 (c.toNat : Int)
theorem bts_snoc (l : List UInt8) (c : UInt8) : bts (l ++ [c]) = bts l ++ [.int .u8 (c.toNat : Int)] := by simp [bts]
theorem bts_length (l : List UInt8) : (bts l).length = l.length := by simp [bts]
/-- The cells of a slice of bytes that came in. -/
theorem reads_bytes {P : Program} {w : World} {t e : TypeId} {a : Option Addr} {len cap : Nat} (ht : P.underlying t = some (.slice e)) (hk : leaves P 9 e = some [.inl .u8]) (hc : P.cellsOf e = 1) (h : Reads P w t (.slice a len cap)) :
    (a = none ∧ len = 0 ∧ cap = 0) ∨ ∃ b off sp, a = some ⟨b, off, sp⟩ ∧ len ≤ cap ∧ cap ≤ maxLen ∧ (0 < cap → sp = none) ∧ ∀ i, i < cap → ∃ n : Int, 0 ≤ n ∧ n ≤ 255 ∧ w.cell? ⟨b, off + i, none⟩ = some (.int .u8 n) := by
  rcases Reads.slice ht hk h with h0 | ⟨b, off, sp, rfl, h1, h2, h3, h4⟩
  · exact .inl h0
  · refine .inr ⟨b, off, sp, rfl, h1, h2, fun h => h3 h (by omega), fun i hi => ?_⟩
    obtain ⟨l, hl, hll, hx⟩ := h4 i hi
    obtain ⟨c, l', rfl, ⟨n, rfl, hw⟩, h0⟩ := all2_cons hl
    have := hx 0 (.int .u8 n) rfl
    rw [hc] at this
    obtain ⟨q0, q1⟩ := bounds_u8 hw
    exact ⟨n, q0, by omega, by simpa using this⟩
/-- A byte, brought to such as may be. -/
def toMay (n : Int) : Int := if n < 128 then 33 + n % 94 else n
theorem toMay_range {n : Int} (h0 : 0 ≤ n) (h1 : n ≤ 255) : 0 ≤ toMay n ∧ toMay n ≤ 255 := by unfold toMay; split <;> omega
theorem toMay_may {n : Int} (h0 : 0 ≤ n) (h1 : n ≤ 255) : mayB (UInt8.ofNat (toMay n).toNat) = true ∧ ((UInt8.ofNat (toMay n).toNat).toNat : Int) = toMay n := by
  have hr := toMay_range h0 h1
  have e : ((UInt8.ofNat (toMay n).toNat).toNat : Int) = toMay n := by
    rw [UInt8.toNat_ofNat']
    omega
  refine ⟨mayB_mk ?_ ?_, e⟩
  · rw [e]; unfold toMay; split <;> omega
  · rw [e]; unfold toMay; split <;> omega
def IsKey (w : World) (n : Nat) (e : Ending) (w' : World) : Prop := ∃ l : List UInt8, e = .returned (.string ⟨l.toArray⟩) ∧ l.length = n ∧ (∀ c ∈ l, mayB c = true) ∧ Below w.heap.size w w'
set_option maxHeartbeats 1000000 in
set_option maxRecDepth 100000 in
theorem keyw_nil (w : World) : Calls Try.prog 21 #[.slice none 0 0] w (IsKey w 0) := by
  have hcv := run_convert_bytes_nil (P := Try.prog) w 34 5 Try.underlying34 Try.underlying5 0 0 9 Try.underlying9
  go_enter Try.func21, Try.ntmps21
  go_wp2_with fail
  refine wp_loop_rounds 1 ?_
  rw [rounds_succ]
  go_wp2
  go_ret
  exact ⟨[], rfl, rfl, by simp, Below.refl _ _⟩
set_option maxHeartbeats 1000000 in
set_option maxRecDepth 100000 in
theorem keyw_some (b off len cap : Nat) (w : World) (hlen : len ≤ 600) (hcap : cap ≤ maxLen) (hlc : len ≤ cap) (hc : ∀ i, i < cap → ∃ n : Int, 0 ≤ n ∧ n ≤ 255 ∧ w.cell? ⟨b, off + i, none⟩ = some (.int .u8 n)) :
    Calls Try.prog 21 #[.slice (some ⟨b, off, none⟩) len cap] w (IsKey w len) := by
  obtain ⟨i0, hi, hz0, hz1, hz2⟩ := info_parts info_byte
  obtain ⟨B, hB⟩ : ∃ B, B = w.heap.size := ⟨_, rfl⟩
  have hBl : B ≤ w.heap.size := by omega
  have HB := Lib.hid hB
  have HC := Lib.hid hc
  unfold maxLen at hcap
  clear hB hc
  go_enter Try.func21, Try.ntmps21
  go_wp2_with fail
  go_loopw [3, 4] (fun v i wr => ∃ l : List UInt8, l.length ≤ len ∧ i = .int .i64 l.length ∧ wr.ownsRow B 5 1 v l.length (bts l) ∧ Below B w wr ∧ Hid (∀ c ∈ l, mayB c = true)) (fun _ i _ => len - (intOf i).toNat)
  case atStart => exact ⟨[], by simp, rfl, World.ownsRow_nil _ _ _ _, Below.refl _ _, fun c h => by simp at h⟩
  case round =>
    obtain ⟨l, hk, rfl, hown, hnx, hmay⟩ := hrel
    have hsz := hnx.size
    by_cases hlt : l.length < len
    · obtain ⟨n, n0, n1, hcell⟩ := HC.out l.length (by omega)
      have hblt : b < B := by
        rw [HB.out]
        exact World.block_lt_of_cell? _ _ hcell
      have hcell' := box_cell hnx hblt hcell
      obtain ⟨m1, m2⟩ := toMay_may n0 n1
      have hr := toMay_range n0 n1
      have hE : Hid (∀ c ∈ l ++ [UInt8.ofNat (toMay n).toNat], mayB c = true) := by
        intro c hc
        rcases List.mem_append.mp hc with h | h
        · exact hmay.out c h
        · simp at h; subst h; exact m1
      have hF : Hid (bts (l ++ [UInt8.ofNat (toMay n).toNat]) = bts l ++ [.int .u8 (toMay n)]) := by
        show _ = _
        rw [bts_snoc, m2]
      clear m1 m2 hcell hmay
      by_cases h128 : n < 128
      · have hT : Hid (toMay n = 33 + n % 94) := by show _ = _; unfold toMay; rw [if_pos h128]
        go_wp2_with (at_builtin; refine wpList_append_own _ rfl _ _ 34 rfl B 5 i0 (.int .u8 0) 1 1 Try.underlying34 hi hz0 hz1 hz2 rfl (by decide) _ _ _ rfl (hown.alloc _) ⟨wr.heap.size, 0, none⟩ 1 1 [.int .u8 (33 + n % 94)] rfl rfl ?c1 ?c2 ?c3 ?c4 ?c5 ?_)
        case c1 =>
          intro j u hj
          match j, hj with
          | 0, hj => simp at hj; subst hj; simp [Addr.add]
        case c2 => intro u hu; simp at hu; subst hu; rfl
        case c3 => unfold maxLen; omega
        case c4 => omega
        case c5 => simp; omega
        intro v' w2 hown' hgrow _
        have R := app_below hown hnx hBl hgrow
        clear hgrow hown
        go_wp2
        go_roundw
        case rel => exact ⟨l ++ [UInt8.ofNat (toMay n).toNat], by simp; omega, by simp, by rw [← hT.out] at hown'; rw [hF.out, List.length_append]; exact hown', R, hE⟩
        case measure => simp [intOf]; omega
      · have hT : Hid (toMay n = n) := by show _ = _; unfold toMay; rw [if_neg h128]
        have h128' : decide (n < 128) = false := decide_eq_false h128
        clear h128
        go_wp2_with (at_builtin; refine wpList_append_own _ rfl _ _ 34 rfl B 5 i0 (.int .u8 0) 1 1 Try.underlying34 hi hz0 hz1 hz2 rfl (by decide) _ _ _ rfl (hown.alloc _) ⟨wr.heap.size, 0, none⟩ 1 1 [.int .u8 n] rfl rfl ?d1 ?d2 ?d3 ?d4 ?d5 ?_)
        case d1 =>
          intro j u hj
          match j, hj with
          | 0, hj => simp at hj; subst hj; simp [Addr.add]
        case d2 => intro u hu; simp at hu; subst hu; rfl
        case d3 => unfold maxLen; omega
        case d4 => omega
        case d5 => simp; omega
        intro v' w2 hown' hgrow _
        have R := app_below hown hnx hBl hgrow
        clear hgrow hown
        go_wp2
        go_roundw
        case rel => exact ⟨l ++ [UInt8.ofNat (toMay n).toNat], by simp; omega, by simp, by rw [← hT.out] at hown'; rw [hF.out, List.length_append]; exact hown', R, hE⟩
        case measure => simp [intOf]; omega
    · have hl : l.length = len := by omega
      obtain ⟨_, ⟨rfl, h0⟩ | ⟨g, c, rfl, hgB, hg, hn, hcm, hx⟩⟩ := Lst.of_own hown
      · have hl0 : l = [] := List.eq_nil_of_length_eq_zero h0
        subst hl0
        simp at hl
        subst hl
        have hcv := run_convert_bytes_nil (P := Try.prog) wr 34 5 Try.underlying34 Try.underlying5 0 0 9 Try.underlying9
        go_wp2
        go_ret
        exact ⟨[], rfl, rfl, by simp, HB.out ▸ hnx⟩
      · have hcv := run_convert_bytes_back (P := Try.prog) wr 34 9 5 ⟨g, 0, none⟩ c l Try.underlying34 Try.underlying5 Try.underlying9 (fun j hj => by
          have := (hx j (.int .u8 (l[j].toNat : Int)) (by simp [bts, hj])).1
          rw [Addr.add_lit]; simpa using this)
        clear hx
        subst hl
        go_wp2
        go_ret
        exact ⟨l, rfl, rfl, hmay.out, HB.out ▸ hnx⟩
set_option maxHeartbeats 1000000 in
set_option maxRecDepth 100000 in
theorem keyw_zero (a : Addr) (w : World) : Calls Try.prog 21 #[.slice (some a) 0 0] w (IsKey w 0) := by
  have hcv := run_convert_bytes_nil (P := Try.prog) w 34 5 Try.underlying34 Try.underlying5 0 0 9 Try.underlying9
  go_enter Try.func21, Try.ntmps21
  go_wp2_with fail
  refine wp_loop_rounds 1 ?_
  rw [rounds_succ]
  go_wp2
  go_ret
  exact ⟨[], rfl, rfl, by simp, Below.refl _ _⟩
end Go.Proofs.Yteofbgbjibbdaaa
