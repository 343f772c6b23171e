/- Tells: of a line, of an answer. -/
import Derived.Test.YtcmogfdbjppdeaaDoorTm
import Derived.Test.YtcmogfdbjppdeaaDoorTn
import Derived.Deep.RegionHeld3
namespace Go.Proofs.YtcmogfdbjppdeaaDoor
open Go.RowKit Go.Maps
set_option linter.unusedVariables false

/-- A line with its end, if there is one. -/
def lineOf (tab : List (Int × List UInt8)) (t : Int) : ByteArray := match textOf tab t with | some l => ⟨(l ++ [13, 10]).toArray⟩ | none => ⟨#[]⟩
theorem new_at {W : World} {x : Value} {t : TypeId} {n : Nat} (hn : n = W.heap.size) : (W.alloc (Obj.cells #[x] t)).cell? ⟨n, 0, none⟩ = some x := by
  subst hn; simp
theorem cat_bytes (l m : List UInt8) : (⟨l.toArray⟩ : ByteArray) ++ ⟨m.toArray⟩ = ⟨(l ++ m).toArray⟩ := by
  apply ByteArray.ext
  simp
theorem ended_is (l : List UInt8) (hl : l.length ≤ 1000000) (w : World) : Calls Tryd.prog 28 #[.agg #[.string ⟨l.toArray⟩], .bool true] w fun e w' => e = .returned (.string ⟨(l ++ [13, 10]).toArray⟩) ∧ Below w.heap.size w w' := by
  obtain ⟨s, hs⟩ : ∃ s : ByteArray, s = ⟨l.toArray⟩ := ⟨_, rfl⟩
  have hz : s.size ≤ 1000000 := by rw [hs]; exact hl
  have he : Hid (s ++ ⟨#[13, 10]⟩ = ⟨(l ++ [13, 10]).toArray⟩) := by show _ = _; rw [hs]; exact cat_bytes l [13, 10]
  rw [← hs]
  clear hs
  go_enter Tryd.func28, Tryd.ntmps28
  go_wp2
  go_ret
  exact ⟨by rw [← he.out]; rfl, (Below.refl _ _).alloc (Nat.le_refl _) _⟩
theorem ended_no (s : ByteArray) (w : World) : Calls Tryd.prog 28 #[.agg #[.string s], .bool false] w fun e w' => e = .returned (.string ⟨#[]⟩) ∧ Below w.heap.size w w' := by
  go_enter Tryd.func28, Tryd.ntmps28
  go_wp2
  go_ret
  exact ⟨rfl, (Below.refl _ _).alloc (Nat.le_refl _) _⟩
theorem onceL : once linesT := by unfold linesT; simp [once, textOf]
theorem onceA : once answersT := by unfold answersT; simp [once, textOf]
theorem text_small {tab : List (Int × List UInt8)} {t : Int} {l : List UInt8} (h : textOf tab t = some l) (hs : ∀ x ∈ tab, x.2.length ≤ 1000000) : l.length ≤ 1000000 := by
  induction tab with
  | nil => simp [textOf] at h
  | cons x xs ih =>
    unfold textOf at h
    split at h
    · injection h with h; subst h; exact hs x (by simp)
    · exact ih h (fun y hy => hs y (by simp [hy]))
set_option maxHeartbeats 2000000 in
set_option maxRecDepth 100000 in
theorem ofw (t : Int) (h0 : 0 ≤ t) (h1 : t ≤ 255) (w : World) : Calls Tryd.prog 9 #[.int .u8 t] w fun e w' => e = .returned (.string (lineOf linesT t)) ∧ Below w.heap.size w w' := by
  cases hx : textOf linesT t with
  | none =>
    have hl : Hid (lineOf linesT t = ⟨#[]⟩) := by show _ = _; unfold lineOf; rw [hx]
    have hp := putAll_has t linesT (.map []) hx
    have HP := Lib.hid hp
    clear hx hp
    go_enter Tryd.func9, Tryd.ntmps9
    go_wp2_with fail
    refine (made_linesT w).mono ?_
    rintro e w1 ⟨rfl, hown, hb⟩
    go_wp2_with (at_lookup; refine wpList_lookup_own_ok _ rfl _ _ 60 rfl 37 58 law_linesT Tryd.underlying60 tR (zeroL _) (.lit (.string [])) [] rfl _ 6 _ rfl hown _ (.int .u8 t) rfl (key_linesT h0 h1) ?_; intro v ps hv; rw [HP.out.2] at hv; obtain rfl := tR_inv hv; rw [HP.out.1])
    refine (ended_no _ _).mono ?_
    rintro e w2 ⟨rfl, hb2⟩
    have hbb := (hb.alloc hb.size _).trans (hb2.mono (by have := hb.size; simp; omega))
    go_wp2_with fail
    go_ret
    exact ⟨by rw [hl.out]; rfl, hbb⟩
  | some l =>
    have hl : Hid (lineOf linesT t = ⟨(l ++ [13, 10]).toArray⟩) := by show _ = _; unfold lineOf; rw [hx]
    have hsm := text_small hx (by unfold linesT; intro x hx; simp at hx; rcases hx with rfl | rfl | rfl | rfl | rfl | rfl <;> simp)
    have hp := putAll_hit t l linesT (.map []) ⟨[], rfl⟩ onceL hx
    have HP := Lib.hid hp
    clear hx hp
    go_enter Tryd.func9, Tryd.ntmps9
    go_wp2_with fail
    refine (made_linesT w).mono ?_
    rintro e w1 ⟨rfl, hown, hb⟩
    go_wp2_with (at_lookup; refine wpList_lookup_own_ok _ rfl _ _ 60 rfl 37 58 law_linesT Tryd.underlying60 tR (zeroL _) (.lit (.string [])) [] rfl _ 6 _ rfl hown _ (.int .u8 t) rfl (key_linesT h0 h1) ?_; intro v ps hv; rw [HP.out.2] at hv; obtain rfl := tR_inv hv; rw [HP.out.1])
    refine (ended_is l hsm _).mono ?_
    rintro e w2 ⟨rfl, hb2⟩
    have hbb := (hb.alloc hb.size _).trans (hb2.mono (by have := hb.size; simp; omega))
    go_wp2_with fail
    go_ret
    exact ⟨by rw [hl.out]; rfl, hbb⟩
set_option maxHeartbeats 4000000 in
set_option maxRecDepth 100000 in
theorem answer_quiet (v : Int) (ks : Value) (cv : Int) (ck cval : ByteArray) (cf ce ci cb ex : Int) (k n : Int) (ik iv : ByteArray) (f id d e2 : Int) (w : World) :
    Calls Tryd.prog 11 #[.agg #[.int .u8 v, ks, .int .u8 cv, .string ck, .string cval, .int .u32 cf, .int .i64 ce, .int .u64 ci, .int .u64 cb, .int .i64 ex, .bool true], .agg #[.int .u8 k, .int .u64 n, .string ik, .string iv, .int .u32 f, .int .u64 id, .int .i64 d, .int .i64 e2]] w fun e w' => e = .returned (.string ⟨#[]⟩) ∧ Below w.heap.size w w' := by
  go_enter Tryd.func11, Tryd.ntmps11
  go_wp2
  go_ret
  exact ⟨rfl, ((Below.refl _ _).alloc (Nat.le_refl _) _).alloc (by simp) _⟩
set_option maxHeartbeats 4000000 in
set_option maxRecDepth 100000 in
theorem answer_num (v : Int) (ks : Value) (cv : Int) (ck cval : ByteArray) (cf ce ci cb ex : Int) (n : Nat) (ik iv : ByteArray) (f id d e2 : Int) (w : World) (hn : n < 18446744073709551616) (htab : Lib.TabIs Tryd.prog w "internal/strconv.uint64pow10" .u64 Lib.pow10Tab) :
    Calls Tryd.prog 11 #[.agg #[.int .u8 v, ks, .int .u8 cv, .string ck, .string cval, .int .u32 cf, .int .i64 ce, .int .u64 ci, .int .u64 cb, .int .i64 ex, .bool false], .agg #[.int .u8 8, .int .u64 n, .string ik, .string iv, .int .u32 f, .int .u64 id, .int .i64 d, .int .i64 e2]] w fun e w' => e = .returned (.string ⟨(Lib.decDigits n ++ [13, 10]).toArray⟩) ∧ Below w.heap.size w w' := by
  have HT := Lib.hid htab
  have hl := (dec_len (u := n) (by omega)).2
  clear htab
  go_enter Tryd.func11, Tryd.ntmps11
  go_wp2_with fail
  generalize hW : (((w.alloc _).alloc _).alloc _) = W
  have hb : Below w.heap.size w W := by rw [← hW]; exact (((Below.refl _ _).alloc (Nat.le_refl _) _).alloc (by simp) _).alloc (by simp; omega) _
  have hc : W.cell? ⟨w.heap.size + 1 + 1, 0, none⟩ = some (.int .u64 n) := by rw [← hW]; exact new_at (by simp)
  have hs : w.heap.size + 1 + 1 < W.heap.size := by rw [← hW]; simp
  clear hW
  have hN := numbersw (w.heap.size + 1 + 1) 0 1 [n] W (fun j u hj => by
    have : j = 0 := by
      rcases Nat.lt_or_ge j 1 with h | h
      · omega
      · rw [List.getElem?_eq_none (by simpa using h)] at hj; simp at hj
    subst this
    simp at hj
    subst hj
    exact hc) (fun u hu => by simp at hu; subst hu; exact hn) (by simp) (by simp) (by simp) (by simp [maxLen]) hs (tabIs_below HT.out hb)
  have hj : Lib.join ([n].map Lib.decDigits) [32] = Lib.decDigits n := Lib.join_one _ _
  rw [hj] at hN
  have HN := Lib.hid hN
  clear hN hj hc
  refine HN.out.mono ?_
  rintro e w1 ⟨rfl, hb1⟩
  have he : Hid ((⟨(Lib.decDigits n).toArray⟩ : ByteArray) ++ ⟨#[13, 10]⟩ = ⟨(Lib.decDigits n ++ [13, 10]).toArray⟩) := cat_bytes _ [13, 10]
  obtain ⟨s, hs2⟩ : ∃ s : ByteArray, s = ⟨(Lib.decDigits n).toArray⟩ := ⟨_, rfl⟩
  have hz : s.size ≤ 20 := by rw [hs2]; exact hl
  rw [← hs2] at he ⊢
  clear hs2
  go_wp2_with fail
  go_ret
  exact ⟨by rw [← he.out]; rfl, hb.trans (hb1.mono hb.size)⟩
end Go.Proofs.YtcmogfdbjppdeaaDoor
