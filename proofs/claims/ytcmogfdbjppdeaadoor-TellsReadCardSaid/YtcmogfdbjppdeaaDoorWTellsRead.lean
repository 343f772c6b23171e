/- TellsRead: a value that is told, read back. -/
import Derived.Test.YtcmogfdbjppdeaaDoorTdRead
import Derived.Test.YtcmogfdbjppdeaaDoorKyWords
import Derived.Test.YtcmogfdbjppdeaaDoorKy
import Derived.Test.YtcmogfdbjppdeaaDoorNm2
import Derived.Test.YtcmogfdbjppdeaaDoorTlv
import Derived.BigQuiet
import Derived.Laws.Concat
import Derived.Test.YtcmogfdbjppdeaaDoorShelf
import Derived.Test.YtcmogfdbjppdeaaDoorTwm
import Derived.Test.YtcmogfdbjppdeaaDoorOpen
import Derived.Deep.RegionHeld3
namespace Go.Proofs.YtcmogfdbjppdeaaDoor
open Go.RowKit
set_option linter.unusedVariables false

set_option maxHeartbeats 2000000 in
set_option maxRecDepth 100000 in
theorem walk_TellsRead (a0_0 : ByteArray) (a0_1 : ByteArray) (a0_2 : Int) (a0_3 : Int) (a0_4 : Int) (a0_5 : Int) (a1 : Bool) (w : World) (w0_0 : a0_0.size ≤ maxLen) (w0_1 : a0_1.size ≤ maxLen) (w0_2 : (Lit.int .u32 a0_2).wf = true) (w0_3 : (Lit.int .u64 a0_3).wf = true) (w0_4 : (Lit.int .i64 a0_4).wf = true) (w0_5 : (Lit.int .i64 a0_5).wf = true) (htab : Lib.TabIs Tryd.prog w "internal/strconv.uint64pow10" .u64 Lib.pow10Tab) (hm : ∃ m : Int, w.cell? ⟨0, 0, none⟩ = some (.int .i64 m)) :
    Calls Tryd.prog 7 #[.agg #[.string a0_0, .string a0_1, .int .u32 a0_2, .int .u64 a0_3, .int .i64 a0_4, .int .i64 a0_5], .bool a1] w fun e w' => e = .returned (.bool true) ∧ Below w.heap.size w w' := by
  obtain ⟨f0, f1⟩ := bounds_u32 w0_2
  obtain ⟨i0, i1⟩ := bounds_u64 w0_3
  obtain ⟨f, rfl⟩ : ∃ n : Nat, a0_2 = n := ⟨a0_2.toNat, by omega⟩
  obtain ⟨id, rfl⟩ : ∃ n : Nat, a0_3 = n := ⟨a0_3.toNat, by omega⟩
  have hf : f < 4294967296 := by omega
  have hid : id < 18446744073709551616 := by omega
  have HT := Lib.hid htab
  have HM := Lib.hid hm
  have hKL : (lookF a0_0.data.toList).1 = 0 → a0_0.size ≤ 250 := fun h => by
    have e : a0_0.data.toList.length = a0_0.size := by rw [Array.length_toList]; rfl
    by_cases hl : 250 < a0_0.data.toList.length
    · rw [lookF_long hl] at h; simp at h
    · omega
  have DZ : Hid (∀ u, u ≤ 18446744073709551615 → (⟨(Lib.decDigits u).toArray⟩ : ByteArray).size ≤ maxLen) := Lib.hid (fun u hu => by
    have h := (dec_len hu).2
    have e : (⟨(Lib.decDigits u).toArray⟩ : ByteArray).size = (Lib.decDigits u).length := rfl
    unfold maxLen
    omega)
  have P32 : Hid (∀ u, u < 4294967296 → p32F (⟨(Lib.decDigits u).toArray⟩ : ByteArray).data.toList = ((u : Int), true)) := Lib.hid (fun u hu => by
    have e : parseF (⟨(Lib.decDigits u).toArray⟩ : ByteArray).data.toList = ((u : Int), true) := parse_dec (by omega)
    unfold p32F
    rw [e, if_neg (by simp; omega)])
  unfold maxLen at w0_1
  clear w0_2 w0_3 w0_4 w0_5 htab hm f0 f1 i0 i1
  have HF := Lib.hid hf
  have HI := Lib.hid hid
  have HL := Lib.hid hKL
  clear hf hid hKL
  go_enter Tryd.func7, Tryd.ntmps7
  go_wp2_with (go_at_call 23; refine (okw _ _ w0_0).mono ?_; rintro e w1 ⟨rfl, rfl⟩)
  all_goals first
    | (generalize hW : w.alloc _ = W
       have hnx : Below w.heap.size w W := by rw [← hW]; exact (Below.refl _ _).alloc (Nat.le_refl _) _
       clear hW
       refine (lives31 W (tabIs_below HT.out hnx)).mono ?_
       rintro e w1 ⟨rfl, hb1⟩
       go_wp2_with fail
       go_ret
       exact ⟨rfl, hnx.trans (hb1.mono hnx.size)⟩)
    | skip
  · have hk0 : (lookF a0_0.data.toList).1 = 0 := by assumption
    have hV2 : (a0_1.size : Int) ≤ 2000 := by assumption
    have hK2 := HL.out hk0
    have hK4 : a0_0.size ≤ 4000 := by omega
    have hV4 : a0_1.size ≤ 4000 := by omega
    have HK0 := Lib.hid hk0
    generalize hW : (w.alloc _).alloc _ = W
    obtain ⟨F1, F2, hnx, hs⟩ := pair_facts hW
    clear hW
    have i0 : W.cell? ⟨w.heap.size, 0, none⟩ = some (.string a0_0) := F1 0
    have i1 : W.cell? ⟨w.heap.size, 1, none⟩ = some (.string a0_1) := F1 1
    have i2 : W.cell? ⟨w.heap.size, 2, none⟩ = some (.int .u32 (f : Int)) := F1 2
    have i3 : W.cell? ⟨w.heap.size, 3, none⟩ = some (.int .u64 (id : Int)) := F1 3
    have i4 : W.cell? ⟨w.heap.size, 4, none⟩ = some (.int .i64 a0_4) := F1 4
    have i5 : W.cell? ⟨w.heap.size, 5, none⟩ = some (.int .i64 a0_5) := F1 5
    have c0 : W.cell? ⟨w.heap.size + 1, 0, none⟩ = some (.int .u8 2) := F2 0
    have c1 : W.cell? ⟨w.heap.size + 1, 1, none⟩ = some (.slice none 0 0) := F2 1
    have c2 : W.cell? ⟨w.heap.size + 1, 2, none⟩ = some (.int .u8 0) := F2 2
    have c3 : W.cell? ⟨w.heap.size + 1, 3, none⟩ = some (.string ⟨#[]⟩) := F2 3
    have c4 : W.cell? ⟨w.heap.size + 1, 4, none⟩ = some (.string ⟨#[]⟩) := F2 4
    have c5 : W.cell? ⟨w.heap.size + 1, 5, none⟩ = some (.int .u32 0) := F2 5
    have c6 : W.cell? ⟨w.heap.size + 1, 6, none⟩ = some (.int .i64 0) := F2 6
    have c7 : W.cell? ⟨w.heap.size + 1, 7, none⟩ = some (.int .u64 0) := F2 7
    have c8 : W.cell? ⟨w.heap.size + 1, 8, none⟩ = some (.int .u64 0) := F2 8
    have c9 : W.cell? ⟨w.heap.size + 1, 9, none⟩ = some (.int .i64 0) := F2 9
    have c10 : W.cell? ⟨w.heap.size + 1, 10, none⟩ = some (.bool false) := F2 10
    have hl0 : w.heap.size < W.heap.size := by omega
    have hl1 : w.heap.size + 1 < W.heap.size := by omega
    clear F1 F2 hs
    refine (value_gets (.slice none 0 0) 0 ⟨#[]⟩ ⟨#[]⟩ 0 0 0 0 0 false 7 a0_0 a0_1 f id a0_4 a0_5 _ hK4 hV4 HF.out HI.out (tabIs_below HT.out hnx)).mono ?_
    rintro e w1 ⟨rfl, hb1⟩
    replace i0 := box_cell hb1 hl0 i0
    replace i1 := box_cell hb1 hl0 i1
    replace i2 := box_cell hb1 hl0 i2
    replace i3 := box_cell hb1 hl0 i3
    replace i4 := box_cell hb1 hl0 i4
    replace i5 := box_cell hb1 hl0 i5
    replace c0 := box_cell hb1 hl1 c0
    replace c1 := box_cell hb1 hl1 c1
    replace c2 := box_cell hb1 hl1 c2
    replace c3 := box_cell hb1 hl1 c3
    replace c4 := box_cell hb1 hl1 c4
    replace c5 := box_cell hb1 hl1 c5
    replace c6 := box_cell hb1 hl1 c6
    replace c7 := box_cell hb1 hl1 c7
    replace c8 := box_cell hb1 hl1 c8
    replace c9 := box_cell hb1 hl1 c9
    replace c10 := box_cell hb1 hl1 c10
    replace hl0 := Nat.lt_of_lt_of_le hl0 hb1.size
    replace hl1 := Nat.lt_of_lt_of_le hl1 hb1.size
    replace hnx := hnx.trans (hb1.mono hnx.size)
    obtain ⟨q1, q2, q3⟩ := read_at (K := a0_0) (told := toldB [f, a0_1.size, id]) (V := a0_1) (fun c hc => ((key_plain hk0).2 c hc).2.1) (told_three_plain _ _ _)
    have q4 := read_five (K := a0_0) (a := f) (b := a0_1.size) (d := id) hk0
    have hts := told_size [f, a0_1.size, id] (by simp) (by intro u hu; have := HF.out; have := HI.out; simp at hu; omega)
    have hsz := value_size a0_0 (toldB [f, a0_1.size, id]) a0_1
    have hhd := head_size a0_0 (toldB [f, a0_1.size, id])
    obtain ⟨S, hS⟩ : ∃ S, S = valueB a0_0 (toldB [f, a0_1.size, id]) a0_1 := ⟨_, rfl⟩
    rw [← hS] at q1 q2 q3 hsz ⊢
    obtain ⟨n, hn⟩ : ∃ n : Nat, n = (headL a0_0.data.toList (toldB [f, a0_1.size, id]).data.toList).length := ⟨_, rfl⟩
    rw [← hn] at q1 q2 q3 hhd
    rw [← q2] at q4
    have hS9 : S.size ≤ 9000 := by omega
    have hn2 : n + 2 ≤ S.size := by omega
    have hn0 : (0 : Int) ≤ n := by omega
    have hn1 : (n : Int) ≤ S.size := by omega
    have Q3 := Lib.hid q3
    have Q4 := Lib.hid q4
    have Q1 := Lib.hid q1
    obtain ⟨m, hm⟩ := HM.out
    have hm1 := box_cell hnx (World.block_lt_of_cell? _ _ hm) hm
    clear q1 q2 q3 q4 hS hn hts hsz hhd hk0 hV2 hK4 hV4 hb1
    go_wp2_with fail
    refine (Tryd.strings_Index S ⟨#[13, 10]⟩ m _ (by omega) hm1).mono ?_
    rintro e w2 ⟨rfl, rfl⟩
    rw [show Lib.index S.data.toList (⟨#[13, 10]⟩ : ByteArray).data.toList = (n : Int) from Q1.out]
    go_wp2_with fail
    refine (wordsw _ _ (by simp [ByteArray.size_extract]; omega)).mono ?_
    rintro e w3 ⟨vv, rfl, hLs, hb3⟩
    rw [Q4.out] at hLs
    simp only [List.length_cons, List.length_nil, Nat.zero_add, Nat.reduceAdd] at hLs
    obtain ⟨_, ⟨_, h0⟩ | ⟨g, cap, rfl, hB3, hg, hnc, hcm, hx⟩⟩ := hLs
    · simp at h0
    have x0 : w3.cell? ⟨g, 0, none⟩ = some (.string ⟨#[86, 65, 76, 85, 69]⟩) := (hx 0 _ rfl).1
    have x1 : w3.cell? ⟨g, 1, none⟩ = some (.string a0_0) := (hx 1 _ rfl).1
    have x2 : w3.cell? ⟨g, 2, none⟩ = some (.string ⟨(Lib.decDigits f).toArray⟩) := (hx 2 _ rfl).1
    have x3 : w3.cell? ⟨g, 3, none⟩ = some (.string ⟨(Lib.decDigits a0_1.size).toArray⟩) := (hx 3 _ rfl).1
    have x4 : w3.cell? ⟨g, 4, none⟩ = some (.string ⟨(Lib.decDigits id).toArray⟩) := (hx 4 _ rfl).1
    replace i0 := box_cell hb3 hl0 i0
    replace i1 := box_cell hb3 hl0 i1
    replace i2 := box_cell hb3 hl0 i2
    replace i3 := box_cell hb3 hl0 i3
    replace i4 := box_cell hb3 hl0 i4
    replace i5 := box_cell hb3 hl0 i5
    replace c0 := box_cell hb3 hl1 c0
    replace c1 := box_cell hb3 hl1 c1
    replace c2 := box_cell hb3 hl1 c2
    replace c3 := box_cell hb3 hl1 c3
    replace c4 := box_cell hb3 hl1 c4
    replace c5 := box_cell hb3 hl1 c5
    replace c6 := box_cell hb3 hl1 c6
    replace c7 := box_cell hb3 hl1 c7
    replace c8 := box_cell hb3 hl1 c8
    replace c9 := box_cell hb3 hl1 c9
    replace c10 := box_cell hb3 hl1 c10
    replace hl0 := Nat.lt_of_lt_of_le hl0 hb3.size
    replace hl1 := Nat.lt_of_lt_of_le hl1 hb3.size
    replace hnx := hnx.trans (hb3.mono hnx.size)
    clear hx hm hm1 hb3
    unfold maxLen at hcm
    go_wp2_with fail
    go_quiet (fail)
    clear x0 x1
    go_wp2_with fail
    refine (p32w ⟨(Lib.decDigits f).toArray⟩ _ (DZ.out f (by have := HF.out; omega))).mono ?_
    rintro e w4 ⟨rfl, hb4'⟩
    rw [P32.out f HF.out]
    have hb4 : Below w3.heap.size w3 w4 := (below_drewN (Below.refl _ _) _).trans hb4'
    clear hb4'
    replace i0 := box_cell hb4 hl0 i0
    replace i1 := box_cell hb4 hl0 i1
    replace i2 := box_cell hb4 hl0 i2
    replace i3 := box_cell hb4 hl0 i3
    replace i4 := box_cell hb4 hl0 i4
    replace i5 := box_cell hb4 hl0 i5
    replace c0 := box_cell hb4 hl1 c0
    replace c1 := box_cell hb4 hl1 c1
    replace c2 := box_cell hb4 hl1 c2
    replace c3 := box_cell hb4 hl1 c3
    replace c4 := box_cell hb4 hl1 c4
    replace c5 := box_cell hb4 hl1 c5
    replace c6 := box_cell hb4 hl1 c6
    replace c7 := box_cell hb4 hl1 c7
    replace c8 := box_cell hb4 hl1 c8
    replace c9 := box_cell hb4 hl1 c9
    replace c10 := box_cell hb4 hl1 c10
    replace x2 := box_cell hb4 hg x2
    replace x3 := box_cell hb4 hg x3
    replace x4 := box_cell hb4 hg x4
    replace hl0 := Nat.lt_of_lt_of_le hl0 hb4.size
    replace hl1 := Nat.lt_of_lt_of_le hl1 hb4.size
    replace hg := Nat.lt_of_lt_of_le hg hb4.size
    replace hnx := hnx.trans (hb4.mono hnx.size)
    clear hb4
    go_wp2_with fail
    refine (parsew ⟨(Lib.decDigits a0_1.size).toArray⟩ _ (DZ.out a0_1.size (by omega))).mono ?_
    rintro e w5 ⟨rfl, hb5⟩
    rw [show parseF (⟨(Lib.decDigits a0_1.size).toArray⟩ : ByteArray).data.toList = ((a0_1.size : Int), true) from parse_dec (by omega)]
    replace i0 := box_cell hb5 hl0 i0
    replace i1 := box_cell hb5 hl0 i1
    replace i2 := box_cell hb5 hl0 i2
    replace i3 := box_cell hb5 hl0 i3
    replace i4 := box_cell hb5 hl0 i4
    replace i5 := box_cell hb5 hl0 i5
    replace c0 := box_cell hb5 hl1 c0
    replace c1 := box_cell hb5 hl1 c1
    replace c2 := box_cell hb5 hl1 c2
    replace c3 := box_cell hb5 hl1 c3
    replace c4 := box_cell hb5 hl1 c4
    replace c5 := box_cell hb5 hl1 c5
    replace c6 := box_cell hb5 hl1 c6
    replace c7 := box_cell hb5 hl1 c7
    replace c8 := box_cell hb5 hl1 c8
    replace c9 := box_cell hb5 hl1 c9
    replace c10 := box_cell hb5 hl1 c10
    replace x3 := box_cell hb5 hg x3
    replace x4 := box_cell hb5 hg x4
    replace hl0 := Nat.lt_of_lt_of_le hl0 hb5.size
    replace hl1 := Nat.lt_of_lt_of_le hl1 hb5.size
    replace hg := Nat.lt_of_lt_of_le hg hb5.size
    replace hnx := hnx.trans (hb5.mono hnx.size)
    clear hb5
    obtain ⟨R, hR, rR⟩ : ∃ R : ByteArray, S.extract (n + 2) S.size = R ∧ ∀ w : World, (Op.stringOp .add a0_1 ⟨#[13, 10]⟩).run Tryd.prog w = .ok (.string R) w := ⟨_, rfl, fun w => by rw [Q3.out]; exact run_string_add_sum w _ _ (by show a0_1.size + 2 ≤ _; omega)⟩
    have wv : IntKind.u64.wrap (a0_1.size : Int) = a0_1.size := IntWalk.u64_in _ (by omega)
    have wn : IntKind.i64.wrap ((n : Int) + 2) = ((n + 2 : Nat) : Int) := by rw [IntWalk.i64_in _ (by omega)]; rfl
    go_wp2_with fail
    go_quiet (fail)
    clear hR rR wv wn Q3 Q4 Q1 x3 hnc hcm
    go_wp2_with fail
    refine (parsew ⟨(Lib.decDigits id).toArray⟩ _ (DZ.out id (by have := HI.out; omega))).mono ?_
    rintro e w6 ⟨rfl, hb6'⟩
    rw [show parseF (⟨(Lib.decDigits id).toArray⟩ : ByteArray).data.toList = ((id : Int), true) from parse_dec (by have := HI.out; omega)]
    have hb6 : Below w5.heap.size w5 w6 := (below_drewN (Below.refl _ _) _).trans hb6'
    clear hb6'
    replace i0 := box_cell hb6 hl0 i0
    replace i1 := box_cell hb6 hl0 i1
    replace i2 := box_cell hb6 hl0 i2
    replace i3 := box_cell hb6 hl0 i3
    replace i4 := box_cell hb6 hl0 i4
    replace i5 := box_cell hb6 hl0 i5
    replace c0 := box_cell hb6 hl1 c0
    replace c1 := box_cell hb6 hl1 c1
    replace c2 := box_cell hb6 hl1 c2
    replace c3 := box_cell hb6 hl1 c3
    replace c4 := box_cell hb6 hl1 c4
    replace c5 := box_cell hb6 hl1 c5
    replace c6 := box_cell hb6 hl1 c6
    replace c7 := box_cell hb6 hl1 c7
    replace c8 := box_cell hb6 hl1 c8
    replace c9 := box_cell hb6 hl1 c9
    replace c10 := box_cell hb6 hl1 c10
    replace hl0 := Nat.lt_of_lt_of_le hl0 hb6.size
    replace hl1 := Nat.lt_of_lt_of_le hl1 hb6.size
    replace hnx := hnx.trans (hb6.mono hnx.size)
    clear hb6
    clear x4
    go_wp2_with fail
    refine (value_no _ _ _ _ _ _ _ _ _ _ _ _ _ _ _ _ _ _ _ _ (by decide)).mono ?_
    rintro e w7 ⟨rfl, hb7⟩
    replace i0 := box_cell hb7 hl0 i0
    replace i1 := box_cell hb7 hl0 i1
    replace i2 := box_cell hb7 hl0 i2
    replace i3 := box_cell hb7 hl0 i3
    replace i4 := box_cell hb7 hl0 i4
    replace i5 := box_cell hb7 hl0 i5
    replace c0 := box_cell hb7 hl1 c0
    replace c1 := box_cell hb7 hl1 c1
    replace c2 := box_cell hb7 hl1 c2
    replace c3 := box_cell hb7 hl1 c3
    replace c4 := box_cell hb7 hl1 c4
    replace c5 := box_cell hb7 hl1 c5
    replace c6 := box_cell hb7 hl1 c6
    replace c7 := box_cell hb7 hl1 c7
    replace c8 := box_cell hb7 hl1 c8
    replace c9 := box_cell hb7 hl1 c9
    replace c10 := box_cell hb7 hl1 c10
    replace hl0 := Nat.lt_of_lt_of_le hl0 hb7.size
    replace hl1 := Nat.lt_of_lt_of_le hl1 hb7.size
    replace hnx := hnx.trans (hb7.mono hnx.size)
    clear hb7
    go_wp2_with fail
    refine (value_no _ _ _ _ _ _ _ _ _ _ _ _ _ _ _ _ _ _ _ _ (by decide)).mono ?_
    rintro e w8 ⟨rfl, hb8⟩
    replace hnx := hnx.trans (hb8.mono hnx.size)
    go_wp2_with fail
    refine (lives31 w8 (tabIs_below HT.out hnx)).mono ?_
    rintro e w9 ⟨rfl, hb9⟩
    go_wp2_with fail
    go_ret
    exact ⟨rfl, hnx.trans (hb9.mono hnx.size)⟩
  · have hk0 : (lookF a0_0.data.toList).1 = 0 := by assumption
    have hV2 : (a0_1.size : Int) ≤ 2000 := by assumption
    have hK2 := HL.out hk0
    have hK4 : a0_0.size ≤ 4000 := by omega
    have hV4 : a0_1.size ≤ 4000 := by omega
    have HK0 := Lib.hid hk0
    generalize hW : (w.alloc _).alloc _ = W
    obtain ⟨F1, F2, hnx, hs⟩ := pair_facts hW
    clear hW
    have i0 : W.cell? ⟨w.heap.size, 0, none⟩ = some (.string a0_0) := F1 0
    have i1 : W.cell? ⟨w.heap.size, 1, none⟩ = some (.string a0_1) := F1 1
    have i2 : W.cell? ⟨w.heap.size, 2, none⟩ = some (.int .u32 (f : Int)) := F1 2
    have i3 : W.cell? ⟨w.heap.size, 3, none⟩ = some (.int .u64 (id : Int)) := F1 3
    have i4 : W.cell? ⟨w.heap.size, 4, none⟩ = some (.int .i64 a0_4) := F1 4
    have i5 : W.cell? ⟨w.heap.size, 5, none⟩ = some (.int .i64 a0_5) := F1 5
    have c0 : W.cell? ⟨w.heap.size + 1, 0, none⟩ = some (.int .u8 1) := F2 0
    have c1 : W.cell? ⟨w.heap.size + 1, 1, none⟩ = some (.slice none 0 0) := F2 1
    have c2 : W.cell? ⟨w.heap.size + 1, 2, none⟩ = some (.int .u8 0) := F2 2
    have c3 : W.cell? ⟨w.heap.size + 1, 3, none⟩ = some (.string ⟨#[]⟩) := F2 3
    have c4 : W.cell? ⟨w.heap.size + 1, 4, none⟩ = some (.string ⟨#[]⟩) := F2 4
    have c5 : W.cell? ⟨w.heap.size + 1, 5, none⟩ = some (.int .u32 0) := F2 5
    have c6 : W.cell? ⟨w.heap.size + 1, 6, none⟩ = some (.int .i64 0) := F2 6
    have c7 : W.cell? ⟨w.heap.size + 1, 7, none⟩ = some (.int .u64 0) := F2 7
    have c8 : W.cell? ⟨w.heap.size + 1, 8, none⟩ = some (.int .u64 0) := F2 8
    have c9 : W.cell? ⟨w.heap.size + 1, 9, none⟩ = some (.int .i64 0) := F2 9
    have c10 : W.cell? ⟨w.heap.size + 1, 10, none⟩ = some (.bool false) := F2 10
    have hl0 : w.heap.size < W.heap.size := by omega
    have hl1 : w.heap.size + 1 < W.heap.size := by omega
    clear F1 F2 hs
    refine (value_get 1 (.slice none 0 0) 0 ⟨#[]⟩ ⟨#[]⟩ 0 0 0 0 0 false 7 a0_0 a0_1 f id a0_4 a0_5 _ (by decide) hK4 hV4 HF.out HI.out (tabIs_below HT.out hnx)).mono ?_
    rintro e w1 ⟨rfl, hb1⟩
    replace i0 := box_cell hb1 hl0 i0
    replace i1 := box_cell hb1 hl0 i1
    replace i2 := box_cell hb1 hl0 i2
    replace i3 := box_cell hb1 hl0 i3
    replace i4 := box_cell hb1 hl0 i4
    replace i5 := box_cell hb1 hl0 i5
    replace c0 := box_cell hb1 hl1 c0
    replace c1 := box_cell hb1 hl1 c1
    replace c2 := box_cell hb1 hl1 c2
    replace c3 := box_cell hb1 hl1 c3
    replace c4 := box_cell hb1 hl1 c4
    replace c5 := box_cell hb1 hl1 c5
    replace c6 := box_cell hb1 hl1 c6
    replace c7 := box_cell hb1 hl1 c7
    replace c8 := box_cell hb1 hl1 c8
    replace c9 := box_cell hb1 hl1 c9
    replace c10 := box_cell hb1 hl1 c10
    replace hl0 := Nat.lt_of_lt_of_le hl0 hb1.size
    replace hl1 := Nat.lt_of_lt_of_le hl1 hb1.size
    replace hnx := hnx.trans (hb1.mono hnx.size)
    obtain ⟨q1, q2, q3⟩ := read_at (K := a0_0) (told := toldB [f, a0_1.size]) (V := a0_1) (fun c hc => ((key_plain hk0).2 c hc).2.1) (told_two_plain _ _)
    have q4 := read_four (K := a0_0) (a := f) (b := a0_1.size) hk0
    have hts := told_size [f, a0_1.size] (by simp) (by intro u hu; have := HF.out; have := HI.out; simp at hu; omega)
    have hsz := value_size a0_0 (toldB [f, a0_1.size]) a0_1
    have hhd := head_size a0_0 (toldB [f, a0_1.size])
    obtain ⟨S, hS⟩ : ∃ S, S = valueB a0_0 (toldB [f, a0_1.size]) a0_1 := ⟨_, rfl⟩
    rw [← hS] at q1 q2 q3 hsz ⊢
    obtain ⟨n, hn⟩ : ∃ n : Nat, n = (headL a0_0.data.toList (toldB [f, a0_1.size]).data.toList).length := ⟨_, rfl⟩
    rw [← hn] at q1 q2 q3 hhd
    rw [← q2] at q4
    have hS9 : S.size ≤ 9000 := by omega
    have hn2 : n + 2 ≤ S.size := by omega
    have hn0 : (0 : Int) ≤ n := by omega
    have hn1 : (n : Int) ≤ S.size := by omega
    have Q3 := Lib.hid q3
    have Q4 := Lib.hid q4
    have Q1 := Lib.hid q1
    obtain ⟨m, hm⟩ := HM.out
    have hm1 := box_cell hnx (World.block_lt_of_cell? _ _ hm) hm
    clear q1 q2 q3 q4 hS hn hts hsz hhd hk0 hV2 hK4 hV4 hb1
    go_wp2_with fail
    refine (Tryd.strings_Index S ⟨#[13, 10]⟩ m _ (by omega) hm1).mono ?_
    rintro e w2 ⟨rfl, rfl⟩
    rw [show Lib.index S.data.toList (⟨#[13, 10]⟩ : ByteArray).data.toList = (n : Int) from Q1.out]
    go_wp2_with fail
    refine (wordsw _ _ (by simp [ByteArray.size_extract]; omega)).mono ?_
    rintro e w3 ⟨vv, rfl, hLs, hb3⟩
    rw [Q4.out] at hLs
    simp only [List.length_cons, List.length_nil, Nat.zero_add, Nat.reduceAdd] at hLs
    obtain ⟨_, ⟨_, h0⟩ | ⟨g, cap, rfl, hB3, hg, hnc, hcm, hx⟩⟩ := hLs
    · simp at h0
    have x0 : w3.cell? ⟨g, 0, none⟩ = some (.string ⟨#[86, 65, 76, 85, 69]⟩) := (hx 0 _ rfl).1
    have x1 : w3.cell? ⟨g, 1, none⟩ = some (.string a0_0) := (hx 1 _ rfl).1
    have x2 : w3.cell? ⟨g, 2, none⟩ = some (.string ⟨(Lib.decDigits f).toArray⟩) := (hx 2 _ rfl).1
    have x3 : w3.cell? ⟨g, 3, none⟩ = some (.string ⟨(Lib.decDigits a0_1.size).toArray⟩) := (hx 3 _ rfl).1
    replace i0 := box_cell hb3 hl0 i0
    replace i1 := box_cell hb3 hl0 i1
    replace i2 := box_cell hb3 hl0 i2
    replace i3 := box_cell hb3 hl0 i3
    replace i4 := box_cell hb3 hl0 i4
    replace i5 := box_cell hb3 hl0 i5
    replace c0 := box_cell hb3 hl1 c0
    replace c1 := box_cell hb3 hl1 c1
    replace c2 := box_cell hb3 hl1 c2
    replace c3 := box_cell hb3 hl1 c3
    replace c4 := box_cell hb3 hl1 c4
    replace c5 := box_cell hb3 hl1 c5
    replace c6 := box_cell hb3 hl1 c6
    replace c7 := box_cell hb3 hl1 c7
    replace c8 := box_cell hb3 hl1 c8
    replace c9 := box_cell hb3 hl1 c9
    replace c10 := box_cell hb3 hl1 c10
    replace hl0 := Nat.lt_of_lt_of_le hl0 hb3.size
    replace hl1 := Nat.lt_of_lt_of_le hl1 hb3.size
    replace hnx := hnx.trans (hb3.mono hnx.size)
    clear hx hm hm1 hb3
    unfold maxLen at hcm
    go_wp2_with fail
    go_quiet (fail)
    clear x0 x1
    go_wp2_with fail
    refine (p32w ⟨(Lib.decDigits f).toArray⟩ _ (DZ.out f (by have := HF.out; omega))).mono ?_
    rintro e w4 ⟨rfl, hb4'⟩
    rw [P32.out f HF.out]
    have hb4 : Below w3.heap.size w3 w4 := (below_drewN (Below.refl _ _) _).trans hb4'
    clear hb4'
    replace i0 := box_cell hb4 hl0 i0
    replace i1 := box_cell hb4 hl0 i1
    replace i2 := box_cell hb4 hl0 i2
    replace i3 := box_cell hb4 hl0 i3
    replace i4 := box_cell hb4 hl0 i4
    replace i5 := box_cell hb4 hl0 i5
    replace c0 := box_cell hb4 hl1 c0
    replace c1 := box_cell hb4 hl1 c1
    replace c2 := box_cell hb4 hl1 c2
    replace c3 := box_cell hb4 hl1 c3
    replace c4 := box_cell hb4 hl1 c4
    replace c5 := box_cell hb4 hl1 c5
    replace c6 := box_cell hb4 hl1 c6
    replace c7 := box_cell hb4 hl1 c7
    replace c8 := box_cell hb4 hl1 c8
    replace c9 := box_cell hb4 hl1 c9
    replace c10 := box_cell hb4 hl1 c10
    replace x2 := box_cell hb4 hg x2
    replace x3 := box_cell hb4 hg x3
    replace hl0 := Nat.lt_of_lt_of_le hl0 hb4.size
    replace hl1 := Nat.lt_of_lt_of_le hl1 hb4.size
    replace hg := Nat.lt_of_lt_of_le hg hb4.size
    replace hnx := hnx.trans (hb4.mono hnx.size)
    clear hb4
    go_wp2_with fail
    refine (parsew ⟨(Lib.decDigits a0_1.size).toArray⟩ _ (DZ.out a0_1.size (by omega))).mono ?_
    rintro e w5 ⟨rfl, hb5⟩
    rw [show parseF (⟨(Lib.decDigits a0_1.size).toArray⟩ : ByteArray).data.toList = ((a0_1.size : Int), true) from parse_dec (by omega)]
    replace i0 := box_cell hb5 hl0 i0
    replace i1 := box_cell hb5 hl0 i1
    replace i2 := box_cell hb5 hl0 i2
    replace i3 := box_cell hb5 hl0 i3
    replace i4 := box_cell hb5 hl0 i4
    replace i5 := box_cell hb5 hl0 i5
    replace c0 := box_cell hb5 hl1 c0
    replace c1 := box_cell hb5 hl1 c1
    replace c2 := box_cell hb5 hl1 c2
    replace c3 := box_cell hb5 hl1 c3
    replace c4 := box_cell hb5 hl1 c4
    replace c5 := box_cell hb5 hl1 c5
    replace c6 := box_cell hb5 hl1 c6
    replace c7 := box_cell hb5 hl1 c7
    replace c8 := box_cell hb5 hl1 c8
    replace c9 := box_cell hb5 hl1 c9
    replace c10 := box_cell hb5 hl1 c10
    replace x3 := box_cell hb5 hg x3
    replace hl0 := Nat.lt_of_lt_of_le hl0 hb5.size
    replace hl1 := Nat.lt_of_lt_of_le hl1 hb5.size
    replace hg := Nat.lt_of_lt_of_le hg hb5.size
    replace hnx := hnx.trans (hb5.mono hnx.size)
    clear hb5
    obtain ⟨R, hR, rR⟩ : ∃ R : ByteArray, S.extract (n + 2) S.size = R ∧ ∀ w : World, (Op.stringOp .add a0_1 ⟨#[13, 10]⟩).run Tryd.prog w = .ok (.string R) w := ⟨_, rfl, fun w => by rw [Q3.out]; exact run_string_add_sum w _ _ (by show a0_1.size + 2 ≤ _; omega)⟩
    have wv : IntKind.u64.wrap (a0_1.size : Int) = a0_1.size := IntWalk.u64_in _ (by omega)
    have wn : IntKind.i64.wrap ((n : Int) + 2) = ((n + 2 : Nat) : Int) := by rw [IntWalk.i64_in _ (by omega)]; rfl
    go_wp2_with fail
    go_quiet (fail)
    clear hR rR wv wn Q3 Q4 Q1 x3 hnc hcm
    go_wp2_with fail
    refine (value_no _ _ _ _ _ _ _ _ _ _ _ _ _ _ _ _ _ _ _ _ (by decide)).mono ?_
    rintro e w7 ⟨rfl, hb7'⟩
    have hb7 : Below w5.heap.size w5 w7 := (below_drewN (Below.refl _ _) _).trans hb7'
    clear hb7'
    replace i0 := box_cell hb7 hl0 i0
    replace i1 := box_cell hb7 hl0 i1
    replace i2 := box_cell hb7 hl0 i2
    replace i3 := box_cell hb7 hl0 i3
    replace i4 := box_cell hb7 hl0 i4
    replace i5 := box_cell hb7 hl0 i5
    replace c0 := box_cell hb7 hl1 c0
    replace c1 := box_cell hb7 hl1 c1
    replace c2 := box_cell hb7 hl1 c2
    replace c3 := box_cell hb7 hl1 c3
    replace c4 := box_cell hb7 hl1 c4
    replace c5 := box_cell hb7 hl1 c5
    replace c6 := box_cell hb7 hl1 c6
    replace c7 := box_cell hb7 hl1 c7
    replace c8 := box_cell hb7 hl1 c8
    replace c9 := box_cell hb7 hl1 c9
    replace c10 := box_cell hb7 hl1 c10
    replace hl0 := Nat.lt_of_lt_of_le hl0 hb7.size
    replace hl1 := Nat.lt_of_lt_of_le hl1 hb7.size
    replace hnx := hnx.trans (hb7.mono hnx.size)
    clear hb7
    go_wp2_with fail
    refine (value_no _ _ _ _ _ _ _ _ _ _ _ _ _ _ _ _ _ _ _ _ (by decide)).mono ?_
    rintro e w8 ⟨rfl, hb8⟩
    replace hnx := hnx.trans (hb8.mono hnx.size)
    go_wp2_with fail
    refine (lives31 w8 (tabIs_below HT.out hnx)).mono ?_
    rintro e w9 ⟨rfl, hb9⟩
    go_wp2_with fail
    go_ret
    exact ⟨rfl, hnx.trans (hb9.mono hnx.size)⟩
end Go.Proofs.YtcmogfdbjppdeaaDoor
