/- The chapter's lines: names, verb, rest, gets, bare, bounds. -/
import Derived.Test.YtifbcejekdhnlaaDoorLn7
import Derived.Test.YtifbcejekdhnlaaDoorFeMath
import Derived.IntWalk
import Derived.Test.YtifbcejekdhnlaaDoorNmRef
import Derived.Test.YtifbcejekdhnlaaDoorNm2R
import Derived.Test.YtifbcejekdhnlaaDoorLn8
import Derived.Test.YtifbcejekdhnlaaDoorKyRef
import Derived.Test.YtifbcejekdhnlaaDoorGFy
import Derived.Deep.RegionLaw
import Derived.Deep.AppendLies
import Derived.StillTailTactics
namespace Go.Proofs.YtifbcejekdhnlaaDoor
open Go.RowKit Go.Maps
set_option linter.unusedVariables false

def namesL : List (List UInt8) := tbF.map (·.1)
def verbN (n : List UInt8) : Nat := match formOf n with | some f => f.verb | none => 0
theorem verbN_at : ∀ k, k < 13 → ∀ n, namesL[k]? = some n → verbN n = k + 1 := by
  intro k hk n hn
  rcases (by omega : k = 0 ∨ k = 1 ∨ k = 2 ∨ k = 3 ∨ k = 4 ∨ k = 5 ∨ k = 6 ∨ k = 7 ∨ k = 8 ∨ k = 9 ∨ k = 10 ∨ k = 11 ∨ k = 12) with rfl | rfl | rfl | rfl | rfl | rfl | rfl | rfl | rfl | rfl | rfl | rfl | rfl <;>
  · simp only [namesL, tbF, List.map_cons, List.map_nil, List.getElem?_cons_zero, List.getElem?_cons_succ, Option.some.injEq] at hn
    subst hn
    decide
theorem verbN_no {n : List UInt8} (h : ∀ (k : Nat) (x : List UInt8), namesL[k]? = some x → x ≠ n) : verbN n = 0 := by
  unfold verbN
  cases hf : formOf n with
  | none => rfl
  | some f =>
    exfalso
    have := formIn_in hf
    obtain ⟨k, hk⟩ := List.mem_iff_getElem?.mp this
    exact h k n (by unfold namesL; rw [List.getElem?_map, hk]; rfl) rfl
theorem verbN_some {n : List UInt8} {f : Form} (h : formOf n = some f) : verbN n = f.verb := by unfold verbN; rw [h]
theorem verbN_none {n : List UInt8} (h : formOf n = none) : verbN n = 0 := by unfold verbN; rw [h]
set_option maxHeartbeats 1000000 in
theorem rnames (w : World) : Calls Tryd.prog 66 #[] w fun e w' => e = .returned (.slice (some ⟨w.heap.size, 0, none⟩) 13 13) ∧ TxAt w' w.heap.size 0 namesL ∧ Below w.heap.size w w' := by
  go_enter Tryd.func66, Tryd.ntmps66
  go_wp2_with fail
  go_ret
  refine ⟨rfl, fun j x hj => ?_, (Below.refl _ _).alloc (Nat.le_refl _) _⟩
  rw [Nat.zero_add, World.cell?_alloc_mark]
  have hl : j < 13 := (List.getElem?_eq_some_iff.mp hj).1
  rcases (by omega : j = 0 ∨ j = 1 ∨ j = 2 ∨ j = 3 ∨ j = 4 ∨ j = 5 ∨ j = 6 ∨ j = 7 ∨ j = 8 ∨ j = 9 ∨ j = 10 ∨ j = 11 ∨ j = 12) with rfl | rfl | rfl | rfl | rfl | rfl | rfl | rfl | rfl | rfl | rfl | rfl | rfl <;>
  · simp only [namesL, tbF, List.map_cons, List.map_nil, List.getElem?_cons_zero, List.getElem?_cons_succ, Option.some.injEq] at hj
    subst hj
    rfl
set_option maxHeartbeats 2000000 in
set_option maxRecDepth 100000 in
theorem rverb (n : List UInt8) (w : World) : Calls Tryd.prog 36 #[.string ⟨n.toArray⟩] w fun e w' => e = .returned (.int .u8 (verbN n)) ∧ Below w.heap.size w w' := by
  go_enter Tryd.func36, Tryd.ntmps36
  go_wp2_with fail
  refine (rnames w).mono ?_
  rintro e W ⟨rfl, hT, hb⟩
  obtain ⟨g, hg⟩ : ∃ g, w.heap.size = g := ⟨_, rfl⟩
  have HB := Lib.hid hb
  rw [hg] at hT ⊢
  have HT := Lib.hid hT
  clear hT hb hg
  go_wp2_with fail
  go_loopw [4] (fun i wr => ∃ k : Nat, k ≤ 13 ∧ i = .int .i64 k ∧ W = wr ∧ Hid (∀ j x, j < k → namesL[j]? = some x → x ≠ n)) (fun i _ => 13 - (intOf i).toNat)
  case atStart => exact ⟨0, by omega, rfl, rfl, fun j x hj => by omega⟩
  case round =>
    obtain ⟨k, hk, rfl, rfl, hno⟩ := hrel
    by_cases hlt : k < 13
    · obtain ⟨x, hx⟩ : ∃ x, namesL[k]? = some x := ⟨_, List.getElem?_eq_getElem hlt⟩
      have c0 := HT.out k x hx
      rw [Nat.zero_add] at c0
      have HX := Lib.hid hx
      clear hx
      by_cases hxn : x = n
      · have e1 : (x == n) = true := by simpa using hxn
        have hw : IntKind.u8.wrap ((k : Int) + 1) = (k : Int) + 1 := IntWalk.u8_in _ (by omega)
        have HV := Lib.hid (show verbN n = k + 1 from verbN_at k hlt n (by rw [← hxn]; exact HX.out))
        clear hxn
        go_wp2_with fail
        go_ret
        exact ⟨by rw [HV.out]; rfl, HB.out⟩
      · have e1 : (x == n) = false := by simpa using hxn
        go_wp2_with fail
        go_roundw
        case rel => exact ⟨k + 1, by omega, by go_num, trivial, fun j y hj hy => by
          by_cases hjk : j = k
          · subst hjk
            rw [HX.out] at hy
            injection hy with hy
            rw [← hy]; exact hxn
          · exact hno.out j y (by omega) hy⟩
        case measure => simp [intOf]; omega
    · have hd : decide ((k : Int) < 13) = false := decide_eq_false (by omega)
      have HV := Lib.hid (verbN_no fun j x hj => hno.out j x (by have := (List.getElem?_eq_some_iff.mp hj).1; have e : namesL.length = 13 := rfl; omega) hj)
      go_wp2_with fail
      go_ret
      exact ⟨by rw [HV.out]; rfl, HB.out⟩
/-- Letters of what stands behind a verb's keys. -/
def lett (f : Nat) : UInt8 := if f = 1 then 102 else if f = 2 then 101 else if f = 3 then 98 else if f = 4 then 105 else 121
def letters (f : Form) : List UInt8 := f.fields.map lett
theorem form_cases {f : Form} (h : f ∈ tbF.map (·.2)) : f = ⟨1, 1, 64, [], 0, false⟩ ∨ f = ⟨2, 1, 64, [], 0, false⟩ ∨ f = ⟨3, 1, 1, [1, 2, 3], 0, true⟩ ∨ f = ⟨4, 1, 1, [1, 2, 3], 0, true⟩ ∨ f = ⟨5, 1, 1, [1, 2, 3], 0, true⟩ ∨ f = ⟨6, 1, 1, [1, 2, 3, 4], 0, true⟩ ∨ f = ⟨7, 1, 1, [], 0, true⟩ ∨ f = ⟨8, 1, 1, [2], 0, true⟩ ∨ f = ⟨9, 1, 1, [5], 0, true⟩ ∨ f = ⟨10, 1, 1, [5], 0, true⟩ ∨ f = ⟨11, 0, 0, [2], 1, true⟩ ∨ f = ⟨12, 0, 0, [], 0, false⟩ ∨ f = ⟨13, 0, 0, [], 0, false⟩ := by
  simpa [tbF] using h
theorem form_mem {n : List UInt8} {f : Form} (h : formOf n = some f) : f ∈ tbF.map (·.2) := by
  have := formIn_in h
  exact List.mem_map.mpr ⟨_, this, rfl⟩
set_option maxHeartbeats 4000000 in
theorem rrest (f : Form) (hf : f ∈ tbF.map (·.2)) (w : World) : Calls Tryd.prog 41 #[.int .u8 f.verb] w fun e w' => e = .returned (.string ⟨(letters f).toArray⟩) ∧ w = w' := by
  rcases form_cases hf with rfl | rfl | rfl | rfl | rfl | rfl | rfl | rfl | rfl | rfl | rfl | rfl | rfl
  all_goals
    clear hf
    go_enter Tryd.func41, Tryd.ntmps41
    go_wp2_with fail
    go_ret
    exact ⟨rfl, rfl⟩
set_option maxHeartbeats 4000000 in
theorem rgets (f : Form) (hf : f ∈ tbF.map (·.2)) (w : World) : Calls Tryd.prog 38 #[.int .u8 f.verb] w fun e w' => e = .returned (.bool (decide (f.most = 64))) ∧ w = w' := by
  rcases form_cases hf with rfl | rfl | rfl | rfl | rfl | rfl | rfl | rfl | rfl | rfl | rfl | rfl | rfl
  all_goals
    clear hf
    go_enter Tryd.func38, Tryd.ntmps38
    go_wp2_with fail
    go_ret
    exact ⟨rfl, rfl⟩
set_option maxHeartbeats 4000000 in
theorem rbare (f : Form) (hf : f ∈ tbF.map (·.2)) (w : World) : Calls Tryd.prog 39 #[.int .u8 f.verb] w fun e w' => e = .returned (.bool (decide (f.most = 0))) ∧ w = w' := by
  rcases form_cases hf with rfl | rfl | rfl | rfl | rfl | rfl | rfl | rfl | rfl | rfl | rfl | rfl | rfl
  all_goals
    clear hf
    go_enter Tryd.func39, Tryd.ntmps39
    go_wp2_with fail
    go_ret
    exact ⟨rfl, rfl⟩
set_option maxHeartbeats 8000000 in
theorem rbounds (f : Form) (hf : f ∈ tbF.map (·.2)) (w : World) : Calls Tryd.prog 37 #[.int .u8 f.verb] w fun e w' => e = .returned (.tuple #[.int .i64 (f.fewest : Nat), .int .i64 (f.greatest : Nat)]) ∧ w = w' := by
  have HR := Lib.hid (rrest f hf)
  have HG := Lib.hid (rgets f hf)
  have HB := Lib.hid (rbare f hf)
  rcases form_cases hf with rfl | rfl | rfl | rfl | rfl | rfl | rfl | rfl | rfl | rfl | rfl | rfl | rfl
  all_goals
    clear hf
    try simp [letters, lett] at HR
    go_enter Tryd.func37, Tryd.ntmps37
    go_wp2_with (first
      | (go_at_call 41; refine (HR.out _).mono ?_; rintro e w1 ⟨rfl, rfl⟩)
      | (go_at_call 38; refine (HG.out _).mono ?_; rintro e w1 ⟨rfl, rfl⟩)
      | (go_at_call 39; refine (HB.out _).mono ?_; rintro e w1 ⟨rfl, rfl⟩))
    go_ret2
    exact ⟨rfl, rfl⟩
end Go.Proofs.YtifbcejekdhnlaaDoor
/- Next: The chapter's lines: read. -/
namespace Go.Proofs.YtifbcejekdhnlaaDoor
open Go.RowKit Go.Maps
set_option linter.unusedVariables false

/-- What reading a word leaves. -/
def RrPost (w : World) (q : Nat) (c : Cmd) (kv : Value) (f : Nat) (x : List UInt8) (e : Ending) (w' : World) : Prop :=
  ∃ t : Nat, e = .returned (.int .i64 t) ∧ Keeps (fun k => k = q) w w' ∧ (∀ d, readF f x c = some d → t = 0 ∧ Cb w' q (cmdC d kv)) ∧ (readF f x c = none → t = faultF f)
theorem rr_ok {w w' : World} {q : Nat} {c d : Cmd} {kv : Value} {f : Nat} {x : List UInt8} (h : readF f x c = some d) (hk : Keeps (fun k => k = q) w w') (hc : Cb w' q (cmdC d kv)) : RrPost w q c kv f x (.returned (.int .i64 0)) w' :=
  ⟨0, rfl, hk, fun d' hd => by rw [h] at hd; injection hd with hd; subst hd; exact ⟨rfl, hc⟩, fun hn => by rw [h] at hn; simp at hn⟩
theorem rr_no {w w' : World} {q : Nat} {c : Cmd} {kv : Value} {f t : Nat} {x : List UInt8} {ti : Int} (h : readF f x c = none) (ht : t = faultF f) (hti : ti = t) (hk : Keeps (fun k => k = q) w w') : RrPost w q c kv f x (.returned (.int .i64 ti)) w' :=
  ⟨t, by rw [hti], hk, fun d' hd => by rw [h] at hd; simp at hd, fun _ => ht⟩
set_option maxHeartbeats 2000000 in
set_option maxRecDepth 100000 in
theorem rr_flags (s : ByteArray) (q : Nat) (c : Cmd) (kv : Value) (w : World) (hs : s.size ≤ maxLen) (h : Cb w q (cmdC c kv)) :
    Calls Tryd.prog 42 #[.pointer (some ⟨q, 0, none⟩), .int .u8 102, .string s] w (RrPost w q c kv 1 s.data.toList) := by
  have HP := Lib.hid (refp32 s w hs)
  have H := Lib.hid h
  have hE : readF 1 s.data.toList c = if (p32F s.data.toList).2 = true then some { c with flags := (p32F s.data.toList).1 } else none := rfl
  cases hb : (p32F s.data.toList).2 with
  | true =>
    rw [hb, if_pos rfl] at hE
    rw [hb] at HP
    have HE := Lib.hid hE
    clear hE h hb
    go_enter Tryd.func42, Tryd.ntmps42
    go_wp2_with fail
    refine HP.out.mono ?_
    rintro e w1 ⟨rfl, hb1⟩
    have h1 := H.out.new hb1
    have c1 := h1.at_ 5 _ rfl
    have f1 := h1.fz 5 (by show 5 < 11; decide)
    have HK := Lib.hid (keeps_set (q := q) (i := 5) (v := .int .u32 (p32F s.data.toList).1) hb1)
    have HS := Lib.hid (h1.set 5 (.int .u32 (p32F s.data.toList).1) (by show 5 < 11; decide) rfl)
    clear h1 hb1
    go_wp2_with fail
    go_ret
    exact rr_ok HE.out HK.out HS.out
  | false =>
    rw [hb, if_neg (by simp)] at hE
    rw [hb] at HP
    have HE := Lib.hid hE
    clear hE h hb
    go_enter Tryd.func42, Tryd.ntmps42
    go_wp2_with fail
    refine HP.out.mono ?_
    rintro e w1 ⟨rfl, hb1⟩
    have h1 := H.out.new hb1
    have c1 := h1.at_ 5 _ rfl
    have f1 := h1.fz 5 (by show 5 < 11; decide)
    have HK := Lib.hid (keeps_set (q := q) (i := 5) (v := .int .u32 (p32F s.data.toList).1) hb1)
    clear h1 hb1
    go_wp2_with fail
    go_ret
    exact rr_no (t := 2) HE.out rfl rfl HK.out
set_option maxHeartbeats 2000000 in
set_option maxRecDepth 100000 in
theorem rr_exp (s : ByteArray) (q : Nat) (c : Cmd) (kv : Value) (w : World) (hs : s.size ≤ maxLen) (h : Cb w q (cmdC c kv)) :
    Calls Tryd.prog 42 #[.pointer (some ⟨q, 0, none⟩), .int .u8 101, .string s] w (RrPost w q c kv 2 s.data.toList) := by
  have HP := Lib.hid (refsigned s w hs)
  have H := Lib.hid h
  have hE : readF 2 s.data.toList c = if (signedF s.data.toList).2 = true then some { c with exp := (signedF s.data.toList).1 } else none := rfl
  cases hb : (signedF s.data.toList).2 with
  | true =>
    rw [hb, if_pos rfl] at hE
    rw [hb] at HP
    have HE := Lib.hid hE
    clear hE h hb
    go_enter Tryd.func42, Tryd.ntmps42
    go_wp2_with fail
    refine HP.out.mono ?_
    rintro e w1 ⟨rfl, hb1⟩
    have h1 := H.out.new hb1
    have c1 := h1.at_ 6 _ rfl
    have f1 := h1.fz 6 (by show 6 < 11; decide)
    have HK := Lib.hid (keeps_set (q := q) (i := 6) (v := .int .i64 (signedF s.data.toList).1) hb1)
    have HS := Lib.hid (h1.set 6 (.int .i64 (signedF s.data.toList).1) (by show 6 < 11; decide) rfl)
    clear h1 hb1
    go_wp2_with fail
    go_ret
    exact rr_ok HE.out HK.out HS.out
  | false =>
    rw [hb, if_neg (by simp)] at hE
    rw [hb] at HP
    have HE := Lib.hid hE
    clear hE h hb
    go_enter Tryd.func42, Tryd.ntmps42
    go_wp2_with fail
    refine HP.out.mono ?_
    rintro e w1 ⟨rfl, hb1⟩
    have h1 := H.out.new hb1
    have c1 := h1.at_ 6 _ rfl
    have f1 := h1.fz 6 (by show 6 < 11; decide)
    have HK := Lib.hid (keeps_set (q := q) (i := 6) (v := .int .i64 (signedF s.data.toList).1) hb1)
    clear h1 hb1
    go_wp2_with fail
    go_ret
    exact rr_no (t := 2) HE.out rfl rfl HK.out
set_option maxHeartbeats 2000000 in
set_option maxRecDepth 100000 in
theorem rr_id (s : ByteArray) (q : Nat) (c : Cmd) (kv : Value) (w : World) (hs : s.size ≤ maxLen) (h : Cb w q (cmdC c kv)) :
    Calls Tryd.prog 42 #[.pointer (some ⟨q, 0, none⟩), .int .u8 105, .string s] w (RrPost w q c kv 4 s.data.toList) := by
  have HP := Lib.hid (refparse s w hs)
  have H := Lib.hid h
  have hE : readF 4 s.data.toList c = if (parseF s.data.toList).2 = true then some { c with id := (parseF s.data.toList).1 } else none := rfl
  cases hb : (parseF s.data.toList).2 with
  | true =>
    rw [hb, if_pos rfl] at hE
    rw [hb] at HP
    have HE := Lib.hid hE
    clear hE h hb
    go_enter Tryd.func42, Tryd.ntmps42
    go_wp2_with fail
    refine HP.out.mono ?_
    rintro e w1 ⟨rfl, hb1⟩
    have h1 := H.out.new hb1
    have c1 := h1.at_ 7 _ rfl
    have f1 := h1.fz 7 (by show 7 < 11; decide)
    have HK := Lib.hid (keeps_set (q := q) (i := 7) (v := .int .u64 (parseF s.data.toList).1) hb1)
    have HS := Lib.hid (h1.set 7 (.int .u64 (parseF s.data.toList).1) (by show 7 < 11; decide) rfl)
    clear h1 hb1
    go_wp2_with fail
    go_ret
    exact rr_ok HE.out HK.out HS.out
  | false =>
    rw [hb, if_neg (by simp)] at hE
    rw [hb] at HP
    have HE := Lib.hid hE
    clear hE h hb
    go_enter Tryd.func42, Tryd.ntmps42
    go_wp2_with fail
    refine HP.out.mono ?_
    rintro e w1 ⟨rfl, hb1⟩
    have h1 := H.out.new hb1
    have c1 := h1.at_ 7 _ rfl
    have f1 := h1.fz 7 (by show 7 < 11; decide)
    have HK := Lib.hid (keeps_set (q := q) (i := 7) (v := .int .u64 (parseF s.data.toList).1) hb1)
    clear h1 hb1
    go_wp2_with fail
    go_ret
    exact rr_no (t := 2) HE.out rfl rfl HK.out
set_option maxHeartbeats 2000000 in
set_option maxRecDepth 100000 in
theorem rr_by (s : ByteArray) (q : Nat) (c : Cmd) (kv : Value) (w : World) (hs : s.size ≤ maxLen) (h : Cb w q (cmdC c kv)) :
    Calls Tryd.prog 42 #[.pointer (some ⟨q, 0, none⟩), .int .u8 121, .string s] w (RrPost w q c kv 5 s.data.toList) := by
  have HP := Lib.hid (refparse s w hs)
  have H := Lib.hid h
  have hE : readF 5 s.data.toList c = if (parseF s.data.toList).2 = true then some { c with by_ := (parseF s.data.toList).1 } else none := rfl
  cases hb : (parseF s.data.toList).2 with
  | true =>
    rw [hb, if_pos rfl] at hE
    rw [hb] at HP
    have HE := Lib.hid hE
    clear hE h hb
    go_enter Tryd.func42, Tryd.ntmps42
    go_wp2_with fail
    refine HP.out.mono ?_
    rintro e w1 ⟨rfl, hb1⟩
    have h1 := H.out.new hb1
    have c1 := h1.at_ 8 _ rfl
    have f1 := h1.fz 8 (by show 8 < 11; decide)
    have HK := Lib.hid (keeps_set (q := q) (i := 8) (v := .int .u64 (parseF s.data.toList).1) hb1)
    have HS := Lib.hid (h1.set 8 (.int .u64 (parseF s.data.toList).1) (by show 8 < 11; decide) rfl)
    clear h1 hb1
    go_wp2_with fail
    go_ret
    exact rr_ok HE.out HK.out HS.out
  | false =>
    rw [hb, if_neg (by simp)] at hE
    rw [hb] at HP
    have HE := Lib.hid hE
    clear hE h hb
    go_enter Tryd.func42, Tryd.ntmps42
    go_wp2_with fail
    refine HP.out.mono ?_
    rintro e w1 ⟨rfl, hb1⟩
    have h1 := H.out.new hb1
    have c1 := h1.at_ 8 _ rfl
    have f1 := h1.fz 8 (by show 8 < 11; decide)
    have HK := Lib.hid (keeps_set (q := q) (i := 8) (v := .int .u64 (parseF s.data.toList).1) hb1)
    clear h1 hb1
    go_wp2_with fail
    go_ret
    exact rr_no (t := 4) HE.out rfl rfl HK.out
set_option maxHeartbeats 2000000 in
set_option maxRecDepth 100000 in
theorem rr_bytes (s : ByteArray) (q : Nat) (c : Cmd) (kv : Value) (w : World) (hs : s.size ≤ maxLen) (h : Cb w q (cmdC c kv)) :
    Calls Tryd.prog 42 #[.pointer (some ⟨q, 0, none⟩), .int .u8 98, .string s] w (RrPost w q c kv 3 s.data.toList) := by
  have HP := Lib.hid (refparse s w hs)
  have H := Lib.hid h
  have pr := parseF_range s.data.toList
  obtain ⟨p, hp⟩ : ∃ p, p = parseF s.data.toList := ⟨_, rfl⟩
  rw [← hp] at pr
  obtain ⟨u, b⟩ := p
  obtain ⟨p0, p1⟩ := pr
  simp only at p0 p1
  have E1 := Lib.hid (show (parseF s.data.toList).1 = u by rw [← hp])
  have E2 := Lib.hid (show (parseF s.data.toList).2 = b by rw [← hp])
  clear hp h
  cases b with
  | false =>
    have hR := Lib.hid (rb_no (s := s) (c := c) (by rw [E2.out]; simp))
    go_enter Tryd.func42, Tryd.ntmps42
    go_wp2_with fail
    refine HP.out.mono ?_
    rintro e w1 ⟨rfl, hb1⟩
    rw [E1.out, E2.out]
    go_wp2_with fail
    go_ret
    exact rr_no (t := 2) hR.out rfl rfl (Keeps.of_new hb1)
  | true =>
    by_cases hl : u ≤ 2147483647
    · have q1 : decide (u ≤ 2147483647) = true := decide_eq_true hl
      have hR := Lib.hid (rb_yes (s := s) (c := c) E2.out (by rw [E1.out]; omega))
      have hw : IntKind.i64.wrap u = u := IntWalk.i64_in _ (by omega)
      go_enter Tryd.func42, Tryd.ntmps42
      go_wp2_with fail
      refine HP.out.mono ?_
      rintro e w1 ⟨rfl, hb1⟩
      rw [E1.out, E2.out]
      have h1 := H.out.new hb1
      have c1 := h1.at_ 9 _ rfl
      have f1 := h1.fz 9 (by show 9 < 11; decide)
      have HK := Lib.hid (keeps_set (q := q) (i := 9) (v := .int .i64 u) hb1)
      have HS := Lib.hid (h1.set 9 (.int .i64 u) (by show 9 < 11; decide) rfl)
      clear h1 hb1
      go_wp2_with fail
      go_ret
      refine rr_ok hR.out HK.out ?_
      rw [E1.out]
      exact HS.out
    · have q1 : decide (u ≤ 2147483647) = false := decide_eq_false hl
      have hR := Lib.hid (rb_no (s := s) (c := c) (by rw [E1.out]; omega))
      go_enter Tryd.func42, Tryd.ntmps42
      go_wp2_with fail
      refine HP.out.mono ?_
      rintro e w1 ⟨rfl, hb1⟩
      rw [E1.out, E2.out]
      go_wp2_with fail
      go_ret
      exact rr_no (t := 2) hR.out rfl rfl (Keeps.of_new hb1)
theorem rreadw (f : Nat) (hf : 1 ≤ f ∧ f ≤ 5) (s : ByteArray) (q : Nat) (c : Cmd) (kv : Value) (w : World) (hs : s.size ≤ maxLen) (h : Cb w q (cmdC c kv)) :
    Calls Tryd.prog 42 #[.pointer (some ⟨q, 0, none⟩), .int .u8 ((lett f).toNat : Int), .string s] w (RrPost w q c kv f s.data.toList) := by
  rcases (by omega : f = 1 ∨ f = 2 ∨ f = 3 ∨ f = 4 ∨ f = 5) with rfl | rfl | rfl | rfl | rfl
  · exact rr_flags s q c kv w hs h
  · exact rr_exp s q c kv w hs h
  · exact rr_bytes s q c kv w hs h
  · exact rr_id s q c kv w hs h
  · exact rr_by s q c kv w hs h
end Go.Proofs.YtifbcejekdhnlaaDoor
/- Next: The chapter's lines: Parse of lines that have no verb; how a command lies while it is read. -/
namespace Go.Proofs.YtifbcejekdhnlaaDoor
open Go.RowKit Go.Maps
set_option linter.unusedVariables false

/-- What the chapter's Parse hands back. -/
def IsParR (w : World) (p : Cmd × Nat) (e : Ending) (w' : World) : Prop := ∃ kv, e = .returned (.tuple #[.agg (cmdC p.1 kv).toArray, .int .i64 (p.2 : Nat)]) ∧ KeysAt w' w.heap.size kv p.1.keys ∧ Below w.heap.size w w'
theorem isParR_none {w w' : World} {t : Nat} (hb : Below w.heap.size w w') : IsParR w (Cmd.none, t) (.returned (.tuple #[zeroCmd, .int .i64 (t : Nat)])) w' :=
  ⟨.slice none 0 0, rfl, ⟨by simp [Cmd.none, strs], .inl ⟨rfl, rfl⟩⟩, hb⟩
theorem info_cmdR : (Tryd.prog.info? 34).map (·.size) = some 11 := by kernel_rfl
theorem wpList_cmdR {ops : Array Oper} {rest : List Oper} {op : Oper} {a : Act} {w : World} {Q : Exit → Act → World → Prop} (hgd : op.guard = none) (x y : Operand) (ho : op.op = .store 34 x y)
    (q : Nat) (c : Cmd) (kv : Value) (c' : Cmd) (kv' : Value) (h : Cb w q (cmdC c kv)) (h1 : kv'.oneCell' = true) (hx : a.eval x = .pointer (some ⟨q, 0, none⟩)) (hy : a.eval y = .agg (cmdC c' kv').toArray)
    (hK : ∀ W, Cb W q (cmdC c' kv') → Keeps (fun k => k = q) w W → wpList Tryd.prog ops Q rest (a.put op.dst undef) W) : wpList Tryd.prog ops Q (op :: rest) a w := by
  refine wpList_store_mid hgd 34 x y ho q 0 (cmdC c' kv').toArray hx hy ?_ ?_ (cmdC_one h1) (hK _ ?_ ?_)
  · have := h.there
    simpa [cmdC] using this
  · rw [info_cmdR]; rfl
  · simpa using cb_setCells h (C' := cmdC c' kv') rfl
  · exact keeps_setCells q _ 0 w
theorem res_newR (w : World) : Cb (w.alloc (.cells #[.int .u8 0, .slice none 0 0, .int .u8 0, .string ⟨#[]⟩, .string ⟨#[]⟩, .int .u32 0, .int .i64 0, .int .u64 0, .int .u64 0, .int .i64 0, .bool false] 34)) w.heap.size (cmdC Cmd.none (.slice none 0 0)) := cb_new rfl
set_option maxHeartbeats 1000000 in
set_option maxRecDepth 100000 in
theorem rparse_long (s : ByteArray) (w : World) (h : 2048 < s.size) (hs : s.size ≤ maxLen) : Calls Tryd.prog 11 #[.string s] w (IsParR w (Cmd.none, 3)) := by
  unfold maxLen at hs
  have d0 : decide (2048 < (s.size : Int)) = true := decide_eq_true (by omega)
  go_enter Tryd.func11, Tryd.ntmps11
  go_wp2_with fail
  refine bodyPost_ret (v := .tuple #[zeroCmd, .int .i64 3]) (by simp [results, Tryd.results11, go_sem, zeroCmd]) rfl ?_
  exact isParR_none ((Below.refl _ _).alloc (Nat.le_refl _) _)
set_option maxHeartbeats 1000000 in
set_option maxRecDepth 100000 in
theorem rparse_blank (s : ByteArray) (w : World) (h : s.size ≤ 2048) (hw : wordsF s.data.toList = []) : Calls Tryd.prog 11 #[.string s] w (IsParR w (Cmd.none, 1)) := by
  have d0 : decide (2048 < (s.size : Int)) = false := decide_eq_false (by omega)
  have HW := Lib.hid hw
  have HR := Lib.hid (res_newR w)
  have HB0 := Lib.hid (show Below w.heap.size w (w.alloc (.cells #[.int .u8 0, .slice none 0 0, .int .u8 0, .string ⟨#[]⟩, .string ⟨#[]⟩, .int .u32 0, .int .i64 0, .int .u64 0, .int .u64 0, .int .i64 0, .bool false] 34)) from (Below.refl _ _).alloc (Nat.le_refl _) _)
  clear hw
  go_enter Tryd.func11, Tryd.ntmps11
  go_wp2_with fail
  refine (refwords _ _ (by omega)).mono ?_
  rintro e w1 ⟨v, rfl, ⟨hl, hv⟩, hb⟩
  obtain ⟨va, vc, rfl⟩ : ∃ a c, v = .slice a 0 c := by
    rw [HW.out] at hv
    rcases hv with ⟨h1, _⟩ | ⟨g, c, h1, _⟩
    · exact ⟨_, _, h1⟩
    · exact ⟨_, _, h1⟩
  have HC := Lib.hid (HR.out.new hb)
  have HB := Lib.hid (HB0.out.trans (hb.mono HB0.out.size))
  clear hl hv hb
  go_wp2_with (refine wpList_cmdR rfl (.tmp 2) (.tmp 23) rfl w.heap.size Cmd.none (.slice none 0 0) Cmd.none (.slice none 0 0) HC.out rfl rfl rfl ?_; intro W2 hC2 hK2; obtain ⟨r0, r1, r2, r3, r4, r5, r6, r7, r8, r9, r10⟩ := cb_zero hC2)
  refine bodyPost_ret (v := .tuple #[zeroCmd, .int .i64 1]) (by simp [results, Tryd.results11, go_sem, zeroCmd, r0, r1, r2, r3, r4, r5, r6, r7, r8, r9, r10]) rfl ?_
  exact isParR_none (par_below HB.out hK2)
set_option maxHeartbeats 2000000 in
set_option maxRecDepth 100000 in
theorem rparse_noverb (s : ByteArray) (w : World) (n : List UInt8) (ws : List (List UInt8)) (h : s.size ≤ 2048) (hw : wordsF s.data.toList = n :: ws) (hf : formOf n = none) (hlen : (n :: ws).length ≤ 1048576) : Calls Tryd.prog 11 #[.string s] w (IsParR w (Cmd.none, 1)) := by
  have d0 : decide (2048 < (s.size : Int)) = false := decide_eq_false (by omega)
  have HW := Lib.hid hw
  have HR := Lib.hid (res_newR w)
  have HB0 := Lib.hid (show Below w.heap.size w (w.alloc (.cells #[.int .u8 0, .slice none 0 0, .int .u8 0, .string ⟨#[]⟩, .string ⟨#[]⟩, .int .u32 0, .int .i64 0, .int .u64 0, .int .u64 0, .int .i64 0, .bool false] 34)) from (Below.refl _ _).alloc (Nat.le_refl _) _)
  have HV := Lib.hid (rverb n)
  rw [verbN_none hf] at HV
  clear hw hf
  go_enter Tryd.func11, Tryd.ntmps11
  go_wp2_with fail
  refine (refwords _ _ (by omega)).mono ?_
  rintro e W ⟨v, rfl, ⟨hl, hv⟩, hb⟩
  rw [HW.out] at hv
  obtain ⟨-, h0⟩ | ⟨g, cap, rfl, hgB, hgl, hnc, hcm, hx⟩ := hv
  · simp at h0
  have HC := Lib.hid (HR.out.new hb)
  have HB := Lib.hid (HB0.out.trans (hb.mono HB0.out.size))
  have c1 : W.cell? ⟨g, 0, none⟩ = some (.string ⟨n.toArray⟩) := (hx 0 _ rfl).1
  obtain ⟨m, hm⟩ : ∃ m, (n :: ws).length = m := ⟨_, rfl⟩
  have hm0 : 0 < m := by rw [← hm]; simp
  rw [hm] at hnc hlen ⊢
  have e0 : ((m : Int) == 0) = false := beq_eq_false_iff_ne.mpr (by omega)
  clear hl hb hgB hx hm
  go_wp2_with fail
  refine (HV.out _).mono ?_
  rintro e w1 ⟨rfl, hb1⟩
  have HC1 := Lib.hid (HC.out.new hb1)
  have HB1 := Lib.hid (HB.out.trans (hb1.mono HB.out.size))
  clear hb1 HC HB
  go_wp2_with (refine wpList_cmdR rfl (.tmp 2) (.tmp 30) rfl w.heap.size Cmd.none (.slice none 0 0) Cmd.none (.slice none 0 0) HC1.out rfl rfl rfl ?_; intro W2 hC2 hK2; obtain ⟨r0, r1, r2, r3, r4, r5, r6, r7, r8, r9, r10⟩ := cb_zero hC2)
  refine bodyPost_ret (v := .tuple #[zeroCmd, .int .i64 1]) (by simp [results, Tryd.results11, go_sem, zeroCmd, r0, r1, r2, r3, r4, r5, r6, r7, r8, r9, r10]) rfl ?_
  exact isParR_none (par_below HB1.out hK2)
/-- What stands of the chapter's Parse: the result, the words g from o on, the command q. -/
structure PzR (w wx : World) (g q : Nat) (c : Cmd) (kv : Value) (o : Nat) (l : List (List UInt8)) : Prop where
  below : Below w.heap.size w wx
  res : Cb wx w.heap.size (cmdC Cmd.none (.slice none 0 0))
  txt : TxAt wx g o l
  cmd : Cb wx q (cmdC c kv)
  rg : w.heap.size < g
  gq : g < q
theorem PzR.new {w wx W : World} {g q : Nat} {c : Cmd} {kv : Value} {o : Nat} {l : List (List UInt8)} (h : PzR w wx g q c kv o l) (hb : Below wx.heap.size wx W) : PzR w W g q c kv o l :=
  ⟨h.below.trans (hb.mono h.below.size), h.res.new hb, h.txt.keep (T := fun _ => False) (Keeps.of_new hb) (fun s => s), h.cmd.new hb, h.rg, h.gq⟩
theorem PzR.turn {w wx W : World} {g q : Nat} {c c' : Cmd} {kv kv' : Value} {o : Nat} {l : List (List UInt8)} (h : PzR w wx g q c kv o l) (hk : Keeps (fun k => k = q) wx W) (hc : Cb W q (cmdC c' kv')) : PzR w W g q c' kv' o l := by
  have h1 := h.rg
  have h2 := h.gq
  exact ⟨h.below.trans (hk.to_below (fun k _ e => by omega) h.below.size), h.res.keep hk (by omega), h.txt.keep hk (by omega), hc, h1, h2⟩
theorem PzR.text {w wx : World} {g q : Nat} {c : Cmd} {kv : Value} {o o' : Nat} {l l' : List (List UInt8)} (h : PzR w wx g q c kv o l) (ht : TxAt wx g o' l') : PzR w wx g q c kv o' l' := ⟨h.below, h.res, ht, h.cmd, h.rg, h.gq⟩
end Go.Proofs.YtifbcejekdhnlaaDoor
/- Next: The chapter's lines: Parse of a line that has a verb. -/
namespace Go.Proofs.YtifbcejekdhnlaaDoor
open Go.RowKit Go.Maps
set_option linter.unusedVariables false

theorem refokw (s : ByteArray) (w : World) (hs : s.size ≤ maxLen) : Calls Tryd.prog 40 #[.string s] w fun e w' => e = .returned (.bool ((lookF s.data.toList).1 == 0)) ∧ w = w' := by
  go_enter Tryd.func40, Tryd.ntmps40
  go_wp2_with (go_at_call 67; refine (reflook _ _ hs).mono ?_; rintro e w' ⟨rfl, rfl⟩)
  go_ret
  exact ⟨rfl, rfl⟩
theorem form_facts {f : Form} (h : f ∈ tbF.map (·.2)) : (f.quiet = true → ¬ f.most = 64 ∧ ¬ f.verb = 12 ∧ ¬ f.verb = 13) ∧ (f.quiet = false → f.most = 64 ∨ (¬ f.most = 64 ∧ f.verb = 12) ∨ (¬ f.most = 64 ∧ ¬ f.verb = 12 ∧ f.verb = 13)) ∧ (f.most = 64 → f.greatest = 64 ∧ f.fields = []) ∧ (f.most = 64 ∨ f.most = 0 ∨ f.most = 1) ∧ (f.most = 1 → 1 ≤ f.fewest) ∧ (f.greatest ≤ f.most + f.fields.length) ∧ f.fewest ≤ 16 ∧ f.greatest ≤ 64 ∧ f.verb ≤ 13 ∧ 1 ≤ f.verb ∧ (∀ x ∈ f.fields, 1 ≤ x ∧ x ≤ 5) ∧ f.fields.length ≤ 4 := by
  rcases form_cases h with rfl | rfl | rfl | rfl | rfl | rfl | rfl | rfl | rfl | rfl | rfl | rfl | rfl <;> decide
theorem form_12 {f : Form} (h : f ∈ tbF.map (·.2)) (hv : f.verb = 12) : f = ⟨12, 0, 0, [], 0, false⟩ := by
  rcases form_cases h with rfl | rfl | rfl | rfl | rfl | rfl | rfl | rfl | rfl | rfl | rfl | rfl | rfl <;> first | rfl | simp at hv
theorem form_13 {f : Form} (h : f ∈ tbF.map (·.2)) (hv : f.verb = 13) : f = ⟨13, 0, 0, [], 0, false⟩ := by
  rcases form_cases h with rfl | rfl | rfl | rfl | rfl | rfl | rfl | rfl | rfl | rfl | rfl | rfl | rfl <;> first | rfl | simp at hv
theorem rpz_cmd {w X : World} {g o1 : Nat} {f : Form} {l1 : List (List UInt8)} (hb0 : Below w.heap.size w X) (hres : Cb X w.heap.size (cmdC Cmd.none (.slice none 0 0))) (hg : w.heap.size < g) (hgl : g < X.heap.size) (hT : TxAt X g o1 l1) :
    PzR w (X.alloc (.cells #[.int .u8 f.verb, .slice none 0 0, .int .u8 f.verb, .string ⟨#[]⟩, .string ⟨#[]⟩, .int .u32 0, .int .i64 0, .int .u64 0, .int .u64 0, .int .i64 (-1), .bool false] 34)) g X.heap.size (beginW f false []) (.slice none 0 0) o1 l1 := by
  have hb : Below X.heap.size X (X.alloc (.cells #[.int .u8 f.verb, .slice none 0 0, .int .u8 f.verb, .string ⟨#[]⟩, .string ⟨#[]⟩, .int .u32 0, .int .i64 0, .int .u64 0, .int .u64 0, .int .i64 (-1), .bool false] 34)) := (Below.refl _ _).alloc (Nat.le_refl _) _
  exact ⟨hb0.trans (hb.mono hb0.size), hres.new hb, hT.keep (T := fun _ => False) (Keeps.of_new hb) (fun s => s), cb_new rfl, hg, hgl⟩
theorem grown_undrew' {w w1 : World} {row : Option Nat} (h : w.drew.grownBy w1 row) : w.grownBy w1 row := ⟨h.os, h.tape, h.output, h.size, h.block⟩
theorem strs_take' {l : List (List UInt8)} {k : Nat} {x : List UInt8} (h : l[k]? = some x) : strs (l.take (k + 1)) = strs (l.take k) ++ [.string ⟨x.toArray⟩] := by
  obtain ⟨hk, rfl⟩ := List.getElem?_eq_some_iff.mp h
  exact strs_take hk
theorem PzR.far {w wx W : World} {g q : Nat} {c : Cmd} {kv : Value} {o : Nat} {l : List (List UInt8)} {T : Nat → Prop} (h : PzR w wx g q c kv o l) (hk : Keeps T wx W) (hT : ∀ k, T k → q < k) : PzR w W g q c kv o l := by
  have h1 := h.rg
  have h2 := h.gq
  exact ⟨h.below.trans (hk.to_below (fun k _ e => by have := hT k e; omega) h.below.size), h.res.keep hk (fun e => by have := hT _ e; omega), h.txt.keep hk (fun e => by have := hT _ e; omega), h.cmd.keep hk (fun e => by have := hT _ e; omega), h1, h2⟩
theorem news1 {W : World} {x : ByteArray} {t : TypeId} {j : Nat} {u : Value} (hj : ([.string x] : List Value)[j]? = some u) : (W.alloc (.cells #[.string x] t)).cell? ((⟨W.heap.size, 0, none⟩ : Addr).add j) = some u :=
  World.news_of_block (B := W.heap.size) (cs := #[.string x]) (t := t) (fr := (0, 0)) (by show (W.heap.push _)[W.heap.size]? = _; simp) j u hj
theorem rk_app {w wr w1 : World} {g q B j : Nat} {c : Cmd} {kv : Value} {o1 : Nat} {l : List (List UInt8)} {o : Obj} {e : TypeId} {xs : List Value} (hP : PzR w wr g q c kv o1 l) (hqB : q < B) (hown : wr.ownsRow B e 1 kv j xs) (hgr : (wr.alloc o).grownBy w1 kv.ownBlock) : PzR w w1 g q c kv o1 l ∧ wr.heap.size ≤ w1.heap.size := by
  have hk : Keeps (fun k => kv.ownBlock = some k) wr w1 := ((Keeps.refl (fun k => kv.ownBlock = some k) wr).alloc o).grown hgr (fun k hk => .inl hk)
  exact ⟨hP.far hk (fun k e => by have := (hown.lt k e).1; omega), hk.size⟩
theorem rk_set {w w1 : World} {g q : Nat} {c : Cmd} {kv v : Value} {o1 : Nat} {l : List (List UInt8)} (hP : PzR w w1 g q c kv o1 l) (hv : v.oneCell' = true) : PzR w (w1.setCell ⟨q, 1, none⟩ v) g q c v o1 l :=
  hP.turn (Keeps.setCell (S := fun k => k = q) (Keeps.refl _ w1) (p := ⟨q, 1, none⟩) (.inl rfl) _) (hP.cmd.set 1 v (by show 1 < 11; decide) rfl)
theorem cut_txt {W : World} {g o n k cap : Nat} {l : List (List UInt8)} (hT : TxAt W g o l) (hl : l.length = k) (hk : k ≤ cap) : ∃ o3, cutA (some ⟨g, o, none⟩) n cap = some ⟨g, o3, none⟩ ∧ TxAt W g o3 (l.drop n) := by
  unfold cutA
  by_cases h : cap = n
  · refine ⟨o, by rw [if_pos h], fun j x hj => ?_⟩
    rw [List.drop_eq_nil_of_le (by omega)] at hj
    simp at hj
  · refine ⟨o + n, by rw [if_neg h, Option.map_some, Addr.add_lit], fun j x hj => ?_⟩
    rw [List.getElem?_drop] at hj
    have := hT _ _ hj
    rwa [← Nat.add_assoc] at this
theorem lett_at {f : Form} {k : Nat} (hk : k < (⟨(letters f).toArray⟩ : ByteArray).size) : ((⟨(letters f).toArray⟩ : ByteArray)[k]).toNat = (lett (f.fld k)).toNat := by
  have h1 : k < (letters f).length := by simpa [ByteArray.size] using hk
  have h2 : k < f.fields.length := by simpa [letters] using h1
  have : (⟨(letters f).toArray⟩ : ByteArray)[k] = (letters f)[k] := rfl
  rw [this]
  simp only [letters, List.getElem_map]
  unfold Form.fld
  rw [List.getD_eq_getElem?_getD, List.getElem?_eq_getElem h2]
  rfl
theorem fld_in {f : Form} {k : Nat} (hk : k < f.fields.length) : f.fld k ∈ f.fields := by
  unfold Form.fld
  rw [List.getD_eq_getElem?_getD, List.getElem?_eq_getElem hk]
  exact List.getElem_mem hk
set_option maxHeartbeats 8000000 in
set_option maxRecDepth 100000 in
theorem rparse_verb (s : ByteArray) (w : World) (n : List UInt8) (ws : List (List UInt8)) (f : Form) (h : s.size ≤ 2048) (hw : wordsF s.data.toList = n :: ws) (hf : formOf n = some f) (hsz : ∀ x ∈ n :: ws, x.length ≤ 1048576) (hlen : (n :: ws).length ≤ 1048576) : Calls Tryd.prog 11 #[.string s] w (IsParR w (parseW f ws)) := by
  have d0 : decide (2048 < (s.size : Int)) = false := decide_eq_false (by omega)
  have HW := Lib.hid hw
  have HR := Lib.hid (res_newR w)
  have HB0 := Lib.hid (show Below w.heap.size w (w.alloc (.cells #[.int .u8 0, .slice none 0 0, .int .u8 0, .string ⟨#[]⟩, .string ⟨#[]⟩, .int .u32 0, .int .i64 0, .int .u64 0, .int .u64 0, .int .i64 0, .bool false] 34)) from (Below.refl _ _).alloc (Nat.le_refl _) _)
  have hmem := form_mem hf
  have HV := Lib.hid (rverb n)
  rw [verbN_some hf] at HV
  have HMM := Lib.hid hmem
  have hff := form_facts hmem
  have HFF := Lib.hid hff
  have HSZ := Lib.hid hsz
  have hvb : ((f.verb : Int) == 0) = false := beq_eq_false_iff_ne.mpr (by have := hff.2.2.2.2.2.2.2.2.2.1; omega)
  clear hw hf hsz hmem hff
  go_enter Tryd.func11, Tryd.ntmps11
  go_wp2_with fail
  refine (refwords _ _ (by omega)).mono ?_
  rintro e W ⟨v, rfl, ⟨hl, hv⟩, hb⟩
  rw [HW.out] at hv
  have hsz0 : (w.alloc (.cells #[.int .u8 0, .slice none 0 0, .int .u8 0, .string ⟨#[]⟩, .string ⟨#[]⟩, .int .u32 0, .int .i64 0, .int .u64 0, .int .u64 0, .int .i64 0, .bool false] 34)).heap.size = w.heap.size + 1 := by simp
  obtain ⟨-, h0⟩ | ⟨g, cap, rfl, hgB, hgl, hnc, hcm, hx⟩ := hv
  · simp at h0
  have HC := Lib.hid (HR.out.new hb)
  have HB := Lib.hid (HB0.out.trans (hb.mono HB0.out.size))
  have hT : TxAt W g 0 (n :: ws) := fun j x hj => by rw [Nat.zero_add]; exact (hx j _ (by simp only [strs, List.getElem?_map, hj]; rfl)).1
  have c1 : W.cell? ⟨g, 0, none⟩ = some (.string ⟨n.toArray⟩) := hT 0 n rfl
  have hgR : w.heap.size < g := by omega
  obtain ⟨m, hm⟩ : ∃ m, (n :: ws).length = m := ⟨_, rfl⟩
  have hm0 : 0 < m := by rw [← hm]; simp
  rw [hm] at hnc hlen ⊢
  unfold maxLen at hcm
  have hmm : m ≤ 9223372036854775807 := by omega
  have e0 : ((m : Int) == 0) = false := beq_eq_false_iff_ne.mpr (by omega)
  have HT := Lib.hid hT
  have HG := Lib.hid (And.intro hgR hgl)
  have HM := Lib.hid hm
  clear hl hb hsz0 hgB hx hT hm hgR
  go_wp2_with fail
  refine (HV.out _).mono ?_
  rintro e X ⟨rfl, hbX⟩
  have HC1 := Lib.hid (HC.out.new hbX)
  have HB1 := Lib.hid (HB.out.trans (hbX.mono HB.out.size))
  have HT1 := Lib.hid (HT.out.keep (T := fun _ => False) (Keeps.of_new hbX) (fun s => s))
  have HG1 := Lib.hid (And.intro HG.out.1 (Nat.lt_of_lt_of_le HG.out.2 hbX.size))
  clear hbX HC HB HT HG c1 HR HB0
  go_upto_region 9 with (fail)
  go_cut [4] from 14 (fun s4 wx => ∃ o1 cap1, s4 = .slice (some ⟨g, o1, none⟩) (m - 1) cap1 ∧ wx = X ∧ m - 1 ≤ cap1 ∧ cap1 ≤ 9223372036854775807 ∧ TxAt X g o1 ws)
  case first =>
    by_cases hc1 : cap = 1
    · subst hc1
      have hm1 : m = 1 := by omega
      subst hm1
      have HN := Lib.hid (show ws = [] from List.eq_nil_of_length_eq_zero (by have := HM.out; simp at this; simpa using this))
      go_wp2_with fail
      go_meet
      case rel => exact ⟨0, 0, rfl, rfl, by omega, by omega, by rw [HN.out]; intro j x hj; simp at hj⟩
    · have hm1 : (1 : Int) ≤ (m : Int) := by omega
      have hcc : (1 : Int) ≤ (cap : Int) := by omega
      go_wp2_with fail
      go_meet
      case rel => exact ⟨1, cap - 1, rfl, rfl, by omega, by omega, fun j x hj => by rw [Nat.add_comm]; have := HT1.out (j + 1) x hj; rwa [Nat.zero_add] at this⟩
  obtain ⟨o1, cap1, rfl, hX, hn1, hc1, hT1⟩ := hcut
  rw [hX]
  clear hX wc
  obtain ⟨k, hk⟩ : ∃ k, k = m - 1 := ⟨_, rfl⟩
  have hkw : ws.length = k := by have := HM.out; simp at this; omega
  rw [← hk] at hn1 ⊢
  have hk20 : k ≤ 1048576 := by omega
  have HK := Lib.hid hkw
  have HX0 := Lib.hid (rpz_cmd (f := f) HB1.out HC1.out HG1.out.1 HG1.out.2 hT1)
  clear hk hkw hlen hnc hcm hmm e0 hm0 HM HW hT1 HB1 HC1 HT1 HG1
  have HBO := Lib.hid (rbounds f HMM.out)
  go_upto_region 12 with (go_at_call 37; refine (HBO.out _).mono ?_; rintro e w1 ⟨rfl, rfl⟩)
  generalize X.heap.size = q at *
  generalize X.alloc _ = Y at *
  have HGT := Lib.hid (rgets f HMM.out)
  have HQ := Lib.hid (quietW_cases f ws)
  have hfw : (f.fewest : Nat) ≤ 16 := HFF.out.2.2.2.2.2.2.1
  have hgr : (f.greatest : Nat) ≤ 64 := HFF.out.2.2.2.2.2.2.2.1
  clear hvb HBO
  go_cut [67] from 14 (fun s67 wx => s67 = .bool (quietW f ws) ∧ wx = Y)
  case first =>
    cases hfq : f.quiet with
    | false =>
      have HE := Lib.hid (HQ.out.1 hfq)
      rcases HFF.out.2.1 hfq with h6 | ⟨h6, h12⟩ | ⟨h6, h12, h13⟩
      · have d6 : decide (f.most = 64) = true := decide_eq_true h6
        rw [d6] at HGT
        clear hfq h6
        go_wp2_with (go_at_call 38; refine (HGT.out _).mono ?_; rintro e w1 ⟨rfl, rfl⟩)
        go_meet
        case rel => exact ⟨by rw [HE.out], rfl⟩
      · have d6 : decide (f.most = 64) = false := decide_eq_false h6
        rw [d6] at HGT
        have hf12 := form_12 HMM.out h12
        clear hfq h6 h12 d6
        subst hf12
        go_wp2_with (go_at_call 38; refine (HGT.out _).mono ?_; rintro e w1 ⟨rfl, rfl⟩)
        go_meet
        case rel => exact ⟨by rw [HE.out], rfl⟩
      · have d6 : decide (f.most = 64) = false := decide_eq_false h6
        rw [d6] at HGT
        have hf13 := form_13 HMM.out h13
        clear hfq h6 h12 h13 d6
        subst hf13
        go_wp2_with (go_at_call 38; refine (HGT.out _).mono ?_; rintro e w1 ⟨rfl, rfl⟩)
        go_meet
        case rel => exact ⟨by rw [HE.out], rfl⟩
    | true =>
      obtain ⟨h6, h12, h13⟩ := HFF.out.1 hfq
      have d6 : decide (f.most = 64) = false := decide_eq_false h6
      have d12 : ((f.verb : Int) == 12) = false := beq_eq_false_iff_ne.mpr (by omega)
      have d13 : ((f.verb : Int) == 13) = false := beq_eq_false_iff_ne.mpr (by omega)
      rw [d6] at HGT
      have HFQ := Lib.hid hfq
      have n12 : ((f.verb : Int) != 12) = true := bne_iff_ne.mpr (by omega)
      have n13 : ((f.verb : Int) != 13) = true := bne_iff_ne.mpr (by omega)
      clear hfq h6 h12 h13
      by_cases hkf : f.fewest < k
      · obtain ⟨k', rfl⟩ : ∃ k', k = k' + 1 := ⟨k - 1, by omega⟩
        have d1 : decide (f.fewest < k' + 1) = true := decide_eq_true hkf
        have d2 : decide ((f.fewest : Int) < (k' : Int) + 1) = true := decide_eq_true (by omega)
        obtain ⟨y, hy⟩ : ∃ y, ws[k']? = some y := ⟨ws[k']'(by rw [HK.out]; omega), List.getElem?_eq_getElem _⟩
        have hcy := HX0.out.txt k' y hy
        have HY := Lib.hid hy
        have HKF := Lib.hid hkf
        clear hy hkf
        by_cases hyn : y = [110, 111, 114, 101, 112, 108, 121]
        · have e1 : (y == [110, 111, 114, 101, 112, 108, 121]) = true := by simpa using hyn
          have HE := Lib.hid (HQ.out.2.2 HFQ.out (by rw [HK.out]; exact HKF.out) (by rw [HK.out]; have := HY.out; rw [hyn] at this; exact this))
          clear hyn
          go_wp2_with (go_at_call 38; refine (HGT.out _).mono ?_; rintro e w1 ⟨rfl, rfl⟩)
          go_meet
          case rel => exact ⟨by rw [HE.out], rfl⟩
        · have e1 : (y == [110, 111, 114, 101, 112, 108, 121]) = false := by simpa using hyn
          have HE := Lib.hid (HQ.out.2.1.2 HFQ.out y (by rw [HK.out]; exact HY.out) hyn)
          clear hyn
          go_wp2_with (go_at_call 38; refine (HGT.out _).mono ?_; rintro e w1 ⟨rfl, rfl⟩)
          go_meet
          case rel => exact ⟨by rw [HE.out], rfl⟩
      · have d1 : decide (f.fewest < k) = false := decide_eq_false hkf
        have HE := Lib.hid (HQ.out.2.1.1 HFQ.out (by rw [HK.out]; exact hkf))
        clear hkf
        go_wp2_with (go_at_call 38; refine (HGT.out _).mono ?_; rintro e w1 ⟨rfl, rfl⟩)
        go_meet
        case rel => exact ⟨by rw [HE.out], rfl⟩
  obtain ⟨rfl, hX1⟩ := hcut
  rw [hX1]
  clear hX1 wc HQ
  go_upto_if 67 with (fail)
  go_cut [4] from 14 (fun s4 wx => s4 = .slice (some ⟨g, o1, none⟩) (restW f ws).length cap1 ∧ PzR w wx g q (beginW f (quietW f ws) []) (.slice none 0 0) o1 (restW f ws))
  case first =>
    cases hqw : quietW f ws with
    | false =>
      have HE := Lib.hid (show restW f ws = ws by unfold restW; rw [hqw]; rfl)
      have HQW := Lib.hid hqw
      clear hqw
      go_wp2_with fail
      go_meet
      case rel => exact ⟨by rw [HE.out, HK.out], by rw [HE.out, HQW.out]; exact HX0.out⟩
    | true =>
      have hk0 : f.fewest < ws.length := quiet_pos hqw
      obtain ⟨k', rfl⟩ : ∃ k', k = k' + 1 := ⟨k - 1, by rw [HK.out] at hk0; omega⟩
      have HE := Lib.hid (show restW f ws = ws.dropLast by unfold restW; rw [hqw]; rfl)
      have c10 := HX0.out.cmd.at_ 10 _ rfl
      have z10 := HX0.out.cmd.fz 10 (by show 10 < 11; decide)
      have HQW := Lib.hid hqw
      clear hqw hk0
      go_wp2_with fail
      go_meet
      case rel =>
        have hs := HX0.out.cmd.set 10 (.bool true) (by show 10 < 11; decide) rfl
        have hk : Keeps (fun k => k = q) Y (Y.setCell ⟨q, 10, none⟩ (.bool true)) := Keeps.setCell (S := fun k => k = q) (Keeps.refl _ Y) (p := ⟨q, 10, none⟩) (.inl rfl) _
        rw [HQW.out]
        refine ⟨?_, (HX0.out.turn (c' := beginW f true []) hk hs).text ?_⟩
        · rw [HE.out, List.length_dropLast, HK.out]
          rfl
        · rw [HE.out]
          intro j x hj
          exact (HX0.out.turn (c' := beginW f true []) hk hs).txt j x (drop_last hj)
  obtain ⟨rfl, hX2⟩ := hcut
  have hr := rest_len f ws
  rw [HK.out] at hr
  obtain ⟨l2, hl2⟩ : ∃ l2, l2 = restW f ws := ⟨_, rfl⟩
  obtain ⟨qt, hqt⟩ : ∃ qt, qt = quietW f ws := ⟨_, rfl⟩
  have hPW : parseW f ws = keyedW f qt l2 := by rw [hqt, hl2]; rfl
  have HPW := Lib.hid hPW
  rw [← hl2] at hX2 hr ⊢
  rw [← hqt] at hX2
  have hsz2 : ∀ x ∈ l2, x.length ≤ 1048576 := fun x hx => HSZ.out x (List.mem_cons_of_mem _ (rest_mem (by rw [← hl2]; exact hx)))
  obtain ⟨k2, hk2⟩ : ∃ k2, l2.length = k2 := ⟨_, rfl⟩
  rw [hk2] at hr ⊢
  have hkc : k2 ≤ cap1 := by omega
  have hk22 : k2 ≤ 1048576 := by omega
  have HK2 := Lib.hid hk2
  have HS2 := Lib.hid hsz2
  clear hPW hl2 hqt hk2 hsz2 hr HK HSZ hn1 hk20 d0 h HX0
  generalize wc = X2 at *
  have HX2 := Lib.hid hX2
  clear hX2
  by_cases hs1 : k2 < f.fewest
  · have e1 : decide (k2 < f.fewest) = true := decide_eq_true hs1
    have HE := Lib.hid (show parseW f ws = (Cmd.none, 1) by rw [HPW.out]; unfold keyedW; rw [HK2.out, if_pos (.inl hs1)])
    clear hs1
    go_wp2_with (refine wpList_cmdR rfl (.tmp 2) (.tmp 84) rfl w.heap.size Cmd.none (.slice none 0 0) Cmd.none (.slice none 0 0) HX2.out.res rfl rfl rfl ?_; intro W2 hC2 hK2; obtain ⟨r0, r1, r2, r3, r4, r5, r6, r7, r8, r9, r10⟩ := cb_zero hC2)
    refine bodyPost_ret (v := .tuple #[zeroCmd, .int .i64 1]) (by simp [results, Tryd.results11, go_sem, zeroCmd, r0, r1, r2, r3, r4, r5, r6, r7, r8, r9, r10]) rfl ?_
    rw [HE.out]
    exact isParR_none (par_below HX2.out.below hK2)
  by_cases hs2 : f.greatest < k2
  · have e1 : decide (k2 < f.fewest) = false := decide_eq_false hs1
    have e2 : decide (f.greatest < k2) = true := decide_eq_true hs2
    have HE := Lib.hid (show parseW f ws = (Cmd.none, 1) by rw [HPW.out]; unfold keyedW; rw [HK2.out, if_pos (.inr hs2)])
    clear hs1 hs2
    go_wp2_with (refine wpList_cmdR rfl (.tmp 2) (.tmp 84) rfl w.heap.size Cmd.none (.slice none 0 0) Cmd.none (.slice none 0 0) HX2.out.res rfl rfl rfl ?_; intro W2 hC2 hK2; obtain ⟨r0, r1, r2, r3, r4, r5, r6, r7, r8, r9, r10⟩ := cb_zero hC2)
    refine bodyPost_ret (v := .tuple #[zeroCmd, .int .i64 1]) (by simp [results, Tryd.results11, go_sem, zeroCmd, r0, r1, r2, r3, r4, r5, r6, r7, r8, r9, r10]) rfl ?_
    rw [HE.out]
    exact isParR_none (par_below HX2.out.below hK2)
  have e1 : decide (k2 < f.fewest) = false := decide_eq_false hs1
  have e2 : decide (f.greatest < k2) = false := decide_eq_false hs2
  have hPW2 : parseW f ws = if (l2.take f.most).all okF = true then readFs f.fields (l2.drop f.most) (beginW f qt (l2.take f.most)) else (Cmd.none, 2) := by rw [HPW.out]; unfold keyedW; rw [HK2.out, if_neg (by omega)]
  have HP2 := Lib.hid hPW2
  clear hPW2 HPW
  have HBR := Lib.hid (rbare f HMM.out)
  obtain ⟨mm, hmm⟩ : ∃ mm : Nat, mm = if f.most = 64 then k2 else 1 := ⟨_, rfl⟩
  obtain ⟨sp, hsp⟩ : ∃ sp : Nat, sp = if f.most = 0 then 0 else mm := ⟨_, rfl⟩
  have hspm : sp = min f.most k2 := by
    rw [hsp, hmm]
    rcases HFF.out.2.2.2.1 with e | e | e
    · have := (HFF.out.2.2.1 e).1
      rw [if_neg (by omega), if_pos e]; omega
    · rw [if_pos e]; omega
    · have := HFF.out.2.2.2.2.1 e
      rw [if_neg (by omega), if_neg (by omega)]; omega
  have HMS := Lib.hid (And.intro hmm hsp)
  have HSP := Lib.hid hspm
  have hs12 : ¬ k2 < f.fewest ∧ ¬ f.greatest < k2 := ⟨hs1, hs2⟩
  have HS12 := Lib.hid hs12
  clear hmm hsp hspm hs12 hs1 hs2
  go_upto_if 86 with (go_at_call 38; refine (HGT.out _).mono ?_; rintro e w1 ⟨rfl, rfl⟩)
  go_cut [9] from 14 (fun s9 wx => s9 = .int .i64 (mm : Nat) ∧ wx = X2)
  case first =>
    by_cases h6 : f.most = 64
    · have d6 : decide (f.most = 64) = true := decide_eq_true h6
      have HE := Lib.hid (HMS.out.1.trans (if_pos h6))
      clear h6
      rw [d6]
      go_wp2_with fail
      go_meet
      case rel => exact ⟨by rw [HE.out], rfl⟩
    · have d6 : decide (f.most = 64) = false := decide_eq_false h6
      have HE := Lib.hid (HMS.out.1.trans (if_neg h6))
      clear h6
      rw [d6]
      go_wp2_with fail
      go_meet
      case rel => exact ⟨by rw [HE.out]; rfl, rfl⟩
  obtain ⟨rfl, hX⟩ := hcut
  rw [hX]
  clear hX wc
  go_upto_if 90 with (go_at_call 39; refine (HBR.out _).mono ?_; rintro e w1 ⟨rfl, rfl⟩)
  go_cut [9] from 14 (fun s9 wx => s9 = .int .i64 (sp : Nat) ∧ wx = X2)
  case first =>
    by_cases h6 : f.most = 0
    · have d6 : decide (f.most = 0) = true := decide_eq_true h6
      have HE := Lib.hid (HMS.out.2.trans (if_pos h6))
      clear h6
      rw [d6]
      go_wp2_with fail
      go_meet
      case rel => exact ⟨by rw [HE.out]; rfl, rfl⟩
    · have d6 : decide (f.most = 0) = false := decide_eq_false h6
      have HE := Lib.hid (HMS.out.2.trans (if_neg h6))
      clear h6
      rw [d6]
      go_wp2_with fail
      go_meet
      case rel => exact ⟨by rw [HE.out], rfl⟩
  obtain ⟨rfl, hX⟩ := hcut
  rw [hX]
  clear hX wc e1 e2
  have hsp2 : sp ≤ k2 := by have := HSP.out; omega
  have hPW3 : parseW f ws = if (l2.take sp).all okF = true then readFs f.fields (l2.drop sp) (beginW f qt (l2.take sp)) else (Cmd.none, 2) := by
    have htk : l2.take f.most = l2.take sp := by
      rw [HSP.out]
      by_cases hm : f.most ≤ k2
      · rw [Nat.min_eq_left hm]
      · rw [Nat.min_eq_right (by omega), List.take_of_length_le (by rw [HK2.out]; omega), List.take_of_length_le (by rw [HK2.out]; omega)]
    have hdr : l2.drop f.most = l2.drop sp := by
      rw [HSP.out]
      by_cases hm : f.most ≤ k2
      · rw [Nat.min_eq_left hm]
      · rw [Nat.min_eq_right (by omega), List.drop_eq_nil_of_le (by rw [HK2.out]; omega), List.drop_eq_nil_of_le (by rw [HK2.out]; omega)]
    rw [← htk, ← hdr]; exact HP2.out
  have HP3 := Lib.hid hPW3
  clear hPW3 HP2
  go_wp2_with fail
  obtain ⟨i0, hi, hz0, hz1, hz2⟩ := info_parts info_string
  obtain ⟨B, hB⟩ : ∃ B, B = X2.heap.size := ⟨_, rfl⟩
  have hqB : q < B := by rw [hB]; exact HX2.out.cmd.lt
  have hBX : B ≤ X2.heap.size := by rw [hB]; exact Nat.le_refl _
  have hwB : w.heap.size ≤ B := by rw [hB]; exact HX2.out.below.size
  clear hB
  go_loopw [10] (fun i wr => ∃ (j : Nat) (kv : Value), j ≤ sp ∧ i = .int .i64 j ∧ Hid ((l2.take j).all okF = true) ∧ Hid (PzR w wr g q (beginW f qt []) kv o1 l2) ∧ Hid (wr.ownsRow B 9 1 kv j (strs (l2.take j))) ∧ B ≤ wr.heap.size) (fun i _ => sp - (intOf i).toNat)
  case atStart => exact ⟨0, .slice none 0 0, by omega, rfl, rfl, HX2.out, World.ownsRow_nil _ _ _ _, hBX⟩
  case round =>
    obtain ⟨j, kv, hj, rfl, hall, hP, hrow, hsz⟩ := hrel
    by_cases hlt : j < sp
    · obtain ⟨x, hx⟩ : ∃ x, l2[j]? = some x := ⟨_, List.getElem?_eq_getElem (by rw [HK2.out]; omega)⟩
      have cx := hP.out.txt j x hx
      have hxs : (⟨x.toArray⟩ : ByteArray).size ≤ maxLen := txt_size (HS2.out x (List.mem_of_getElem? hx))
      have HOK := Lib.hid (fun X => refokw ⟨x.toArray⟩ X hxs)
      have HX := Lib.hid hx
      cases hok : okF x with
      | false =>
        have hok2 := okF_bytes x
        rw [hok] at hok2
        rw [hok2] at HOK
        have HE := Lib.hid (show parseW f ws = (Cmd.none, 2) by
          rw [HP3.out, if_neg]
          rw [Bool.not_eq_true]
          exact all_not (ws := l2.take sp) (k := j) (by rw [List.length_take, HK2.out]; omega) (by rw [List.getElem_take]; rw [(List.getElem?_eq_some_iff.mp hx).2]; exact hok))
        clear hx hok hok2
        go_wp2_with (first
          | (go_at_call 40; refine (HOK.out _).mono ?_; rintro e w1 ⟨rfl, rfl⟩)
          | (refine wpList_cmdR rfl (.tmp 2) (.tmp 102) rfl w.heap.size Cmd.none (.slice none 0 0) Cmd.none (.slice none 0 0) hP.out.res rfl rfl rfl ?_; intro W2 hC2 hK2; obtain ⟨r0, r1, r2, r3, r4, r5, r6, r7, r8, r9, r10⟩ := cb_zero hC2))
        refine bodyPost_ret (v := .tuple #[zeroCmd, .int .i64 2]) (by simp [results, Tryd.results11, go_sem, zeroCmd, r0, r1, r2, r3, r4, r5, r6, r7, r8, r9, r10]) rfl ?_
        rw [HE.out]
        exact isParR_none (par_below hP.out.below hK2)
      | true =>
        have hok2 := okF_bytes x
        rw [hok] at hok2
        rw [hok2] at HOK
        have HALL := Lib.hid (all_take (ws := l2) (k := j) (by rw [HK2.out]; omega) hall.out (by rw [(List.getElem?_eq_some_iff.mp hx).2]; exact hok))
        clear hx hok hok2
        go_upto_region 27 with (go_at_call 40; refine (HOK.out _).mono ?_; rintro e w1 ⟨rfl, rfl⟩)
        obtain ⟨ka, kc, rfl, hkc2, hkm, -⟩ := row_slice hrow.out
        have c1 := hP.out.cmd.at_ 1 _ rfl
        have c1' := fun o => (World.cell?_alloc_some wr _ o (by simp [c1])).trans c1
        have cx' := fun o => (World.cell?_alloc_some wr _ o (by simp [cx])).trans cx
        have hown := hrow.out
        have k0 : (0 : Int) ≤ (j : Int) := by omega
        have k1 : (j : Int) < (k2 : Int) := by omega
        go_region_law (refine step_append_lies _ rfl (.tmp 104) (.tmp 109) 24 rfl B 9 i0 _ 1 16 Tryd.underlying24 hi hz0 hz1 hz2 rfl (by decide) (.slice ka j kc) j (strs (l2.take j)) (by simp [Act.eval]) (hown.alloc _) ⟨wr.heap.size, 0, none⟩ 1 1 [.string ⟨x.toArray⟩] (by simp [Act.eval]) rfl (by intro i u hi; exact news1 hi) (by simp [Value.oneCell']) (by decide) (by unfold maxLen; omega) (by omega) (by simp; omega) _ rfl ?_; intro g' cap' w1 hown1 hgrow hg hltg; have hgr := grown_undrew' hgrow; have HP1 := Lib.hid (rk_app hP.out hqB hown hgr); have c12 := HP1.out.1.cmd.at_ 1 _ rfl; have f12 := HP1.out.1.cmd.fz 1 (by show 1 < 11; decide))
        all_goals
          go_wp2
          go_roundw
          case rel => exact ⟨j + 1, _, by omega, by go_num, HALL.out, rk_set HP1.out.1 rfl, by rw [strs_take' HX.out]; exact Keeps.ownsRow hown1 (Keeps.setCell (S := fun k => k = q) (Keeps.refl _ w1) (p := ⟨q, 1, none⟩) (.inl rfl) _) (fun g e n => by have := (hown1.lt g e).1; omega), by have := HP1.out.2; simp; omega⟩
          case measure => simp [intOf]; omega
    · obtain rfl : sp = j := by omega
      have hd : decide ((sp : Int) < (sp : Int)) = false := decide_eq_false (by omega)
      have hPW4 : parseW f ws = readFs f.fields (l2.drop sp) (beginW f qt (l2.take sp)) := by rw [HP3.out, if_pos hall.out]
      have HP4 := Lib.hid hPW4
      have HL := Lib.hid (Lst.of_own hrow.out)
      have HKV := Lib.hid (row_one hrow.out)
      clear hPW4 HP3 hall hrow
      have hl23 : (l2.drop sp).length = k2 - sp := by rw [List.length_drop, HK2.out]
      obtain ⟨n3, hn3⟩ : ∃ n3, n3 = k2 - sp := ⟨_, rfl⟩
      have hfl : n3 ≤ f.fields.length := by
        have h1 := HS12.out.2
        have h2 := HFF.out.2.2.2.2.2.1
        have h3 := HFF.out.2.2.1
        have h4 := HSP.out
        rcases HFF.out.2.2.2.1 with e | e | e <;> omega
      have hf4 : f.fields.length ≤ 4 := HFF.out.2.2.2.2.2.2.2.2.2.2.2
      obtain ⟨r, hr⟩ : ∃ r : ByteArray, r = ⟨(letters f).toArray⟩ := ⟨_, rfl⟩
      have hrs : r.size = f.fields.length := by rw [hr]; simp [ByteArray.size, letters]
      have hrb : ∀ k (h : k < r.size), r[k].toNat = (lett (f.fld k)).toNat := by subst hr; intro k h; exact lett_at h
      have hRR := rrest f HMM.out
      rw [← hr] at hRR
      have HRR := Lib.hid hRR
      have HRB := Lib.hid hrb
      have HSZ3 : Hid (∀ x ∈ l2.drop sp, x.length ≤ 1048576) := fun x hx => HS2.out x (List.mem_of_mem_drop hx)
      have HLN := Lib.hid hl23
      clear hRR hr hrb hl23 HMS HSP HS12 HBR HGT HV
      go_upto_if 113 with (fail)
      go_cut [9] from 14 (fun s9 wx => s9 = .int .i64 (sp : Nat) ∧ PzR w wx g q (beginW f qt (l2.take sp)) kv o1 l2 ∧ Lst wx B 1 kv sp (strs (l2.take sp)))
      case first =>
        by_cases h0 : 0 < sp
        · have d0 : decide (0 < sp) = true := decide_eq_true (by omega)
          obtain ⟨y, ys, hy⟩ : ∃ y ys, l2 = y :: ys := by
            cases hl : l2 with
            | nil => have := HK2.out; rw [hl] at this; simp at this; omega
            | cons y ys => exact ⟨y, ys, rfl⟩
          have cy := hP.out.txt 0 y (by rw [hy]; rfl)
          rw [Nat.add_zero] at cy
          have c3 := hP.out.cmd.at_ 3 _ rfl
          have f3 := hP.out.cmd.fz 3 (by show 3 < 11; decide)
          have hc : beginW f qt (l2.take sp) = { beginW f qt [] with keys := l2.take sp, key := y } := by
            obtain ⟨t, rfl⟩ : ∃ t, sp = t + 1 := ⟨sp - 1, by omega⟩
            rw [hy]
            rfl
          have HC := Lib.hid hc
          have k20 : 0 < k2 := by omega
          clear hy hc h0
          rw [d0]
          go_wp2_with fail
          go_meet
          case rel =>
            have hk : Keeps (fun k => k = q) wr (wr.setCell ⟨q, 3, none⟩ (.string ⟨y.toArray⟩)) := Keeps.setCell (S := fun k => k = q) (Keeps.refl _ wr) (p := ⟨q, 3, none⟩) (.inl rfl) _
            have hs := hP.out.cmd.set 3 (.string ⟨y.toArray⟩) (by show 3 < 11; decide) rfl
            exact ⟨rfl, hP.out.turn hk (by rw [HC.out]; exact hs), HL.out.keep hk (fun g hg e => by omega)⟩
        · have d0 : decide (0 < sp) = false := decide_eq_false (by omega)
          have h00 : sp = 0 := by omega
          have HC := Lib.hid (show beginW f qt (l2.take sp) = beginW f qt [] by rw [h00]; rfl)
          clear h0 h00
          rw [d0]
          go_wp2_with fail
          go_meet
          case rel => exact ⟨rfl, by rw [HC.out]; exact hP.out, HL.out⟩
      obtain ⟨rfl, hP5, hL5⟩ := hcut
      obtain ⟨o3, ho3, hT3⟩ := cut_txt (n := sp) (cap := cap1) hP5.txt HK2.out hkc
      have HP5 := Lib.hid (hP5.text hT3)
      have HL5 := Lib.hid hL5
      have HO3 := Lib.hid ho3
      clear hP5 hL5 hT3 ho3 hP HL
      generalize wc = X5 at *
      clear hsz hBX
      have hsz1 : (Tryd.prog.info? 9).map (·.size) = some 1 := by rw [hi]; simp [hz1]
      go_wp2_with (first
        | (refine wpList_cut_lo rfl 24 9 (.tmp 119) (.tmp 120) rfl Tryd.underlying24 hsz1 (some ⟨g, o1, none⟩) k2 cap1 sp rfl rfl (by omega) ?_; rw [HO3.out, ← hn3])
        | (go_at_call 41; refine (HRR.out _).mono ?_; rintro e w1 ⟨rfl, rfl⟩))
      go_loopw [12] (fun i wr2 => ∃ (k : Nat) (d : Cmd), k ≤ n3 ∧ i = .int .i64 k ∧ Hid (PzR w wr2 g q d kv o3 (l2.drop sp)) ∧ Hid (Lst wr2 B 1 kv sp (strs (l2.take sp))) ∧ Hid (readFs (f.fields.drop k) ((l2.drop sp).drop k) d = parseW f ws) ∧ Hid (d.keys = l2.take sp)) (fun i _ => n3 - (intOf i).toNat)
      case atStart => exact ⟨0, _, by omega, rfl, HP5.out, HL5.out, by rw [HP4.out]; rfl, rfl⟩
      case round =>
        obtain ⟨k, d, hk, rfl, hP, hL, hR, hKY⟩ := hrel
        by_cases hlt3 : k < n3
        · have hkf : k < f.fields.length := by omega
          have hkl : k < (l2.drop sp).length := by rw [HLN.out]; omega
          obtain ⟨x, hx⟩ : ∃ x, x = (l2.drop sp)[k] := ⟨_, rfl⟩
          have cx := hP.out.txt k x (by rw [hx]; exact List.getElem?_eq_getElem hkl)
          have hkr : k < r.size := by omega
          have hrk := HRB.out k hkr
          have hf15 := HFF.out.2.2.2.2.2.2.2.2.2.2.1 (f.fld k) (fld_in hkf)
          have hxs : (⟨x.toArray⟩ : ByteArray).size ≤ maxLen := txt_size (HSZ3.out x (by rw [hx]; exact List.getElem_mem hkl))
          have hDs : ∀ d', readF (f.fld k) x d = some d' → readFs (f.fields.drop (k + 1)) ((l2.drop sp).drop (k + 1)) d' = parseW f ws := fun d' hd' => by
            rw [← hR.out, fld_drop hkf, drop_txt hkl, ← hx, readFs_some hd']
          have hDn : readF (f.fld k) x d = none → parseW f ws = (Cmd.none, faultF (f.fld k)) := fun hd' => by
            rw [← hR.out, fld_drop hkf, drop_txt hkl, ← hx, readFs_none hd']
          obtain ⟨fx, hfx⟩ : ∃ fx, fx = f.fld k := ⟨_, rfl⟩
          rw [← hfx] at hrk hf15 hDs hDn
          have HDs := Lib.hid hDs
          have HDn := Lib.hid hDn
          have HF15 := Lib.hid hf15
          have k30 : (0 : Int) ≤ (k : Int) := by omega
          have k31 : (k : Int) < (n3 : Int) := by omega
          have k32 : (k : Int) < (r.size : Int) := by omega
          have HPd := Lib.hid (hP.out.new (Below.refl _ _).drew)
          have HLd := Lib.hid (hL.out.keep (T := fun _ => False) (Keeps.of_new (Below.refl _ _).drew) (fun _ _ e => e))
          have HKY := Lib.hid hKY.out
          clear hDs hDn hR hfx hx hkl hkf hf15 hKY
          have k33 : (k : Int) < ((k2 - sp : Nat) : Int) := by omega
          have k34 : k < k2 - sp := by omega
          have hix : ∀ W : World, (Instr.index 9 (.string r) (.int .i64 k)).run Tryd.prog W = .ok (.int .u8 ((lett fx).toNat : Int)) W := by
            intro W
            rw [run_index_string W 9 r .i64 k (by rfl), dif_pos ⟨by omega, by omega⟩, ← hrk]
            rfl
          clear hrk
          go_upto_region 35 with (fail)
          go_wp2_with fail
          go_still_tail 7, (by kernel_rfl)
          change wpList _ _ _ _ _ wr.drew
          generalize wr.drew = wd at *
          go_wp2_with fail
          refine (rreadw fx HF15.out ⟨x.toArray⟩ q d kv wd hxs HPd.out.cmd).mono ?_
          rintro e w2 ⟨t, rfl, hk2, hys, hno⟩
          have hP2 := HPd.out
          have hgq := hP2.gq
          have hrg := hP2.rg
          cases hrf : readF fx x d with
          | none =>
            have ht : t = faultF fx := hno hrf
            have HE := Lib.hid (HDn.out hrf)
            have htn : ((t : Int) != 0) = true := bne_iff_ne.mpr (by have := faultF_ne fx; omega)
            have HR2 := Lib.hid (hP2.res.keep hk2 (by omega))
            have HB2 := Lib.hid (hP2.below.trans (hk2.to_below (fun k _ e => by omega) hP2.below.size))
            have HT := Lib.hid ht
            clear hys hno hrf hk2 hP2 ht hix k30 k31 k32 k33 k34
            go_wp2_with (refine wpList_cmdR rfl (.tmp 2) (.tmp 140) rfl w.heap.size Cmd.none (.slice none 0 0) Cmd.none (.slice none 0 0) HR2.out rfl rfl rfl ?_; intro W2 hC2 hK2; obtain ⟨r0, r1, r2, r3, r4, r5, r6, r7, r8, r9, r10⟩ := cb_zero hC2)
            refine bodyPost_ret (v := .tuple #[zeroCmd, .int .i64 (t : Nat)]) (by simp [results, Tryd.results11, go_sem, zeroCmd, r0, r1, r2, r3, r4, r5, r6, r7, r8, r9, r10]) rfl ?_
            rw [HE.out, ← HT.out]
            exact isParR_none (par_below HB2.out hK2)
          | some d' =>
            obtain ⟨ht, hc⟩ := hys d' hrf
            subst ht
            have HP' := Lib.hid (hP2.turn hk2 hc)
            have HL' := Lib.hid (HLd.out.keep hk2 (fun g hg e => by omega))
            have HD' := Lib.hid (HDs.out d' hrf)
            have HK' := Lib.hid ((readF_keys hrf).trans HKY.out)
            clear hys hno hrf hk2 hP2 hc hix k30 k31 k32 k33 k34
            go_wp2_with fail
            go_roundw
            case rel => exact ⟨k + 1, d', by omega, by go_num, HP'.out, HL'.out, HD'.out, HK'.out⟩
            case measure => simp [intOf]; omega
        · have hk3 : k = k2 - sp := by omega
          have hd3 : decide (k < k2 - sp) = false := decide_eq_false (by omega)
          have hd4 : decide ((k : Int) < ((k2 - sp : Nat) : Int)) = false := decide_eq_false (by omega)
          have hR' : parseW f ws = if 1024 < d.bytes then (d, 5) else (d, 0) := by
            rw [← hR.out, List.drop_eq_nil_of_le (show (l2.drop sp).length ≤ k by rw [HLN.out]; omega)]
            exact readFs_end _ _
          obtain ⟨z0, z1, z2, z3, z4, z5, z6, z7, z8, z9, z10⟩ := cb_cells hP.out.cmd
          have hgq := hP.out.gq
          have hrg := hP.out.rg
          have htl : (l2.take sp).length = sp := by rw [List.length_take, HK2.out]; omega
          have HTL := Lib.hid htl
          by_cases hb : 1024 < d.bytes
          · have b0 : decide (1024 < d.bytes) = true := decide_eq_true hb
            rw [if_pos hb] at hR'
            have HE := Lib.hid hR'
            clear hR' hb hk3 htl hR
            go_wp2_with (refine wpList_cmdR rfl (.tmp 2) (.tmp 145) rfl w.heap.size Cmd.none (.slice none 0 0) d kv hP.out.res HKV.out rfl rfl ?_; intro W2 hC2 hK2; obtain ⟨r0, r1, r2, r3, r4, r5, r6, r7, r8, r9, r10⟩ := cb_cells hC2)
            refine bodyPost_ret (v := .tuple #[.agg (cmdC d kv).toArray, .int .i64 5]) (by simp [results, Tryd.results11, go_sem, cmdC, r0, r1, r2, r3, r4, r5, r6, r7, r8, r9, r10]) rfl ?_
            rw [HE.out]
            refine ⟨kv, rfl, ?_, par_below hP.out.below hK2⟩
            have hL2 := hL.out.keep hK2 (fun g hg e => by omega)
            unfold KeysAt
            rw [show d.keys = l2.take sp from hKY.out, HTL.out]
            exact hL2.mono (by omega)
          · have b0 : decide (1024 < d.bytes) = false := decide_eq_false hb
            rw [if_neg hb] at hR'
            have HE := Lib.hid hR'
            clear hR' hb hk3 htl hR
            go_wp2_with (refine wpList_cmdR rfl (.tmp 2) (.tmp 146) rfl w.heap.size Cmd.none (.slice none 0 0) d kv hP.out.res HKV.out rfl rfl ?_; intro W2 hC2 hK2; obtain ⟨r0, r1, r2, r3, r4, r5, r6, r7, r8, r9, r10⟩ := cb_cells hC2)
            refine bodyPost_ret (v := .tuple #[.agg (cmdC d kv).toArray, .int .i64 0]) (by simp [results, Tryd.results11, go_sem, cmdC, r0, r1, r2, r3, r4, r5, r6, r7, r8, r9, r10]) rfl ?_
            rw [HE.out]
            refine ⟨kv, rfl, ?_, par_below hP.out.below hK2⟩
            have hL2 := hL.out.keep hK2 (fun g hg e => by omega)
            unfold KeysAt
            rw [show d.keys = l2.take sp from hKY.out, HTL.out]
            exact hL2.mono (by omega)
/-- The chapter's Parse of whatever line. -/
theorem rparsel (s : ByteArray) (w : World) (hs : s.size ≤ maxLen) : Calls Tryd.prog 11 #[.string s] w (IsParR w (parseC s.data.toList)) := by
  have hl : s.data.toList.length = s.size := by simp
  by_cases h : 2048 < s.size
  · have e : parseC s.data.toList = (Cmd.none, 3) := by unfold parseC; rw [if_pos (by rw [hl]; exact h)]
    rw [e]
    exact rparse_long s w h hs
  have e : parseC s.data.toList = parseN (wordsF s.data.toList) := by unfold parseC; rw [if_neg (by rw [hl]; exact h)]
  rw [e]
  have hc := wordsG_count s.data.toList []
  have hw := wordsG_len s.data.toList []
  cases hws : wordsF s.data.toList with
  | nil => exact rparse_blank s w (by omega) hws
  | cons n ws =>
    have hc' : (n :: ws).length ≤ 2048 := by rw [← hws]; unfold wordsF; simp at hc ⊢; omega
    have hw' : ∀ x ∈ n :: ws, x.length ≤ 1048576 := fun x hx => by
      rw [← hws] at hx
      have := hw x hx
      simp at this
      omega
    cases hf : formOf n with
    | none =>
      have e2 : parseN (n :: ws) = (Cmd.none, 1) := by simp [parseN, hf]
      rw [e2]
      exact rparse_noverb s w n ws (by omega) hws hf (by omega)
    | some f =>
      have e2 : parseN (n :: ws) = parseW f ws := by simp [parseN, hf]
      rw [e2]
      exact rparse_verb s w n ws f (by omega) hws hf hw' (by omega)
end Go.Proofs.YtifbcejekdhnlaaDoor
