/- Lines: a field's word, read into a command. -/
import Derived.Test.YtifbcejekdhnlaaDoorLn2
import Derived.Test.YtifbcejekdhnlaaDoorKyWords
import Derived.Test.YtifbcejekdhnlaaDoorNm2
import Derived.Test.YtifbcejekdhnlaaDoorKeep
namespace Go.Proofs.YtifbcejekdhnlaaDoor
open Go.RowKit Go.Maps
set_option linter.unusedVariables false

/-- A block with these cells, that may be written. -/
structure Cb (w : World) (q : Nat) (C : List Value) : Prop where
  at_ : ∀ i v, C[i]? = some v → w.cell? ⟨q, i, none⟩ = some v
  fz : ∀ i, i < C.length → w.frozen? ⟨q, i, none⟩ = false
  lt : q < w.heap.size
theorem Cb.keep {w W : World} {q : Nat} {C : List Value} {T : Nat → Prop} (h : Cb w q C) (hk : Keeps T w W) (hT : ¬ T q) : Cb W q C :=
  ⟨fun i v hv => hk.cell (p := ⟨q, i, none⟩) hT (h.at_ i v hv), fun i hi => hk.frozen (p := ⟨q, i, none⟩) hT h.lt (h.fz i hi), Nat.lt_of_lt_of_le h.lt hk.size⟩
theorem Cb.new {w W : World} {q : Nat} {C : List Value} (h : Cb w q C) (hb : Below w.heap.size w W) : Cb W q C := h.keep (T := fun _ => False) (Keeps.of_new hb) (fun s => s)
theorem Cb.set {w : World} {q : Nat} {C : List Value} (h : Cb w q C) (i : Nat) (u : Value) (hi : i < C.length) {C' : List Value} (hC : C' = C.set i u) : Cb (w.setCell ⟨q, i, none⟩ u) q C' := by
  subst hC
  refine ⟨fun j v hv => ?_, fun j hj => ?_, by simpa [World.setCell] using h.lt⟩
  · by_cases e : i = j
    · subst e
      rw [List.getElem?_set_self hi] at hv
      injection hv with hv
      subst hv
      exact World.cell?_setCell_same _ _ _ (h.at_ i _ (List.getElem?_eq_getElem hi))
    · rw [List.getElem?_set_ne e] at hv
      exact (World.cell?_setCell_other w ⟨q, i, none⟩ ⟨q, j, none⟩ u (by intro e'; injection e' with _ e'; exact e e')).trans (h.at_ j v hv)
  · rw [World.frozen?_setCell]
    exact h.fz j (by simpa using hj)
theorem cb_new {W : World} {C : Array Value} {T : TypeId} {L : List Value} (hL : L = C.toList) : Cb (W.alloc (.cells C T)) W.heap.size L := by
  subst hL
  exact ⟨fun i v hv => by simpa using hv, fun i hi => by simp, by simp⟩
/-- A command's eleven cells. -/
def cmdC (c : Cmd) (kv : Value) : List Value := [.int .u8 c.verb, kv, .int .u8 c.cverb, .string ⟨c.key.toArray⟩, .string ⟨c.value.toArray⟩, .int .u32 c.flags, .int .i64 c.exp, .int .u64 c.id, .int .u64 c.by_, .int .i64 c.bytes, .bool c.quiet]
/-- What the reading of a field leaves. -/
def RdPost (w : World) (q : Nat) (c : Cmd) (kv : Value) (f : Nat) (x : List UInt8) (e : Ending) (w' : World) : Prop :=
  e = .returned (.bool (readF f x c).isSome) ∧ Keeps (fun k => k = q) w w' ∧ ∀ d, readF f x c = some d → Cb w' q (cmdC d kv)
theorem keeps_set {w w1 : World} {q i : Nat} {v : Value} (hb : Below w.heap.size w w1) : Keeps (fun k => k = q) w (w1.setCell ⟨q, i, none⟩ v) := Keeps.setCell (S := fun k => k = q) (Keeps.of_new hb) (p := ⟨q, i, none⟩) (.inl rfl) v
set_option maxHeartbeats 1000000 in
theorem rflagsw (s : ByteArray) (q : Nat) (c : Cmd) (kv : Value) (w : World) (hs : s.size ≤ maxLen) (h : Cb w q (cmdC c kv)) :
    Calls Tryd.prog 93 #[.pointer (some ⟨q, 0, none⟩), .string s] w (RdPost w q c kv 1 s.data.toList) := by
  have HP := Lib.hid (p32w s w hs)
  have H := Lib.hid h
  have hE : readF 1 s.data.toList c = if (p32F s.data.toList).2 = true then some { c with flags := (p32F s.data.toList).1 } else none := rfl
  have HE := Lib.hid hE
  clear hE h
  go_enter Tryd.func93, Tryd.ntmps93
  go_wp2_with fail
  refine HP.out.mono ?_
  rintro e w1 ⟨rfl, hb1⟩
  have h1 := H.out.new hb1
  have c1 := h1.at_ 5 _ rfl
  have f1 := h1.fz 5 (by show 5 < 11; decide)
  have HK := Lib.hid (keeps_set (q := q) (i := 5) (v := .int .u32 (p32F s.data.toList).1) hb1)
  have HS := Lib.hid (h1.set 5 (.int .u32 (p32F s.data.toList).1) (by show 5 < 11; decide) rfl)
  clear h1 hb1
  go_wp2_with fail
  go_ret
  refine ⟨?_, HK.out, fun d hd => ?_⟩
  · rw [HE.out]
    cases (p32F s.data.toList).2 <;> rfl
  · rw [HE.out] at hd
    split at hd
    · injection hd with hd
      subst hd
      exact HS.out
    · simp at hd
set_option maxHeartbeats 1000000 in
theorem rexpw (s : ByteArray) (q : Nat) (c : Cmd) (kv : Value) (w : World) (hs : s.size ≤ maxLen) (h : Cb w q (cmdC c kv)) :
    Calls Tryd.prog 94 #[.pointer (some ⟨q, 0, none⟩), .string s] w (RdPost w q c kv 2 s.data.toList) := by
  have HP := Lib.hid (signedw s w hs)
  have H := Lib.hid h
  have hE : readF 2 s.data.toList c = if (signedF s.data.toList).2 = true then some { c with exp := (signedF s.data.toList).1 } else none := rfl
  have HE := Lib.hid hE
  clear hE h
  go_enter Tryd.func94, Tryd.ntmps94
  go_wp2_with fail
  refine HP.out.mono ?_
  rintro e w1 ⟨rfl, hb1⟩
  have h1 := H.out.new hb1
  have c1 := h1.at_ 6 _ rfl
  have f1 := h1.fz 6 (by show 6 < 11; decide)
  have HK := Lib.hid (keeps_set (q := q) (i := 6) (v := .int .i64 (signedF s.data.toList).1) hb1)
  have HS := Lib.hid (h1.set 6 (.int .i64 (signedF s.data.toList).1) (by show 6 < 11; decide) rfl)
  clear h1 hb1
  go_wp2_with fail
  go_ret
  refine ⟨?_, HK.out, fun d hd => ?_⟩
  · rw [HE.out]
    cases (signedF s.data.toList).2 <;> rfl
  · rw [HE.out] at hd
    split at hd
    · injection hd with hd
      subst hd
      exact HS.out
    · simp at hd
set_option maxHeartbeats 1000000 in
theorem ridw (s : ByteArray) (q : Nat) (c : Cmd) (kv : Value) (w : World) (hs : s.size ≤ maxLen) (h : Cb w q (cmdC c kv)) :
    Calls Tryd.prog 96 #[.pointer (some ⟨q, 0, none⟩), .string s] w (RdPost w q c kv 4 s.data.toList) := by
  have HP := Lib.hid (parsew s w hs)
  have H := Lib.hid h
  have hE : readF 4 s.data.toList c = if (parseF s.data.toList).2 = true then some { c with id := (parseF s.data.toList).1 } else none := rfl
  have HE := Lib.hid hE
  clear hE h
  go_enter Tryd.func96, Tryd.ntmps96
  go_wp2_with fail
  refine HP.out.mono ?_
  rintro e w1 ⟨rfl, hb1⟩
  have h1 := H.out.new hb1
  have c1 := h1.at_ 7 _ rfl
  have f1 := h1.fz 7 (by show 7 < 11; decide)
  have HK := Lib.hid (keeps_set (q := q) (i := 7) (v := .int .u64 (parseF s.data.toList).1) hb1)
  have HS := Lib.hid (h1.set 7 (.int .u64 (parseF s.data.toList).1) (by show 7 < 11; decide) rfl)
  clear h1 hb1
  go_wp2_with fail
  go_ret
  refine ⟨?_, HK.out, fun d hd => ?_⟩
  · rw [HE.out]
    cases (parseF s.data.toList).2 <;> rfl
  · rw [HE.out] at hd
    split at hd
    · injection hd with hd
      subst hd
      exact HS.out
    · simp at hd
set_option maxHeartbeats 1000000 in
theorem rbyw (s : ByteArray) (q : Nat) (c : Cmd) (kv : Value) (w : World) (hs : s.size ≤ maxLen) (h : Cb w q (cmdC c kv)) :
    Calls Tryd.prog 97 #[.pointer (some ⟨q, 0, none⟩), .string s] w (RdPost w q c kv 5 s.data.toList) := by
  have HP := Lib.hid (parsew s w hs)
  have H := Lib.hid h
  have hE : readF 5 s.data.toList c = if (parseF s.data.toList).2 = true then some { c with by_ := (parseF s.data.toList).1 } else none := rfl
  have HE := Lib.hid hE
  clear hE h
  go_enter Tryd.func97, Tryd.ntmps97
  go_wp2_with fail
  refine HP.out.mono ?_
  rintro e w1 ⟨rfl, hb1⟩
  have h1 := H.out.new hb1
  have c1 := h1.at_ 8 _ rfl
  have f1 := h1.fz 8 (by show 8 < 11; decide)
  have HK := Lib.hid (keeps_set (q := q) (i := 8) (v := .int .u64 (parseF s.data.toList).1) hb1)
  have HS := Lib.hid (h1.set 8 (.int .u64 (parseF s.data.toList).1) (by show 8 < 11; decide) rfl)
  clear h1 hb1
  go_wp2_with fail
  go_ret
  refine ⟨?_, HK.out, fun d hd => ?_⟩
  · rw [HE.out]
    cases (parseF s.data.toList).2 <;> rfl
  · rw [HE.out] at hd
    split at hd
    · injection hd with hd
      subst hd
      exact HS.out
    · simp at hd
theorem rb_yes {s : ByteArray} {c : Cmd} (h : (parseF s.data.toList).2 = true) (h2 : (parseF s.data.toList).1 ≤ 2147483647) : readF 3 s.data.toList c = some { c with bytes := (parseF s.data.toList).1 } := by
  unfold readF
  simp only [reduceIte, show ¬ (3 : Nat) = 1 from by decide, show ¬ (3 : Nat) = 2 from by decide]
  rw [if_pos ⟨h, h2⟩]
theorem rb_no {s : ByteArray} {c : Cmd} (h : ¬ ((parseF s.data.toList).2 = true ∧ (parseF s.data.toList).1 ≤ 2147483647)) : readF 3 s.data.toList c = none := by
  unfold readF
  simp only [reduceIte, show ¬ (3 : Nat) = 1 from by decide, show ¬ (3 : Nat) = 2 from by decide]
  rw [if_neg h]
theorem rdpost_no {w w' : World} {q : Nat} {c : Cmd} {kv : Value} {f : Nat} {x : List UInt8} (h : readF f x c = none) (hb : Below w.heap.size w w') : RdPost w q c kv f x (.returned (.bool false)) w' :=
  ⟨by rw [h]; rfl, Keeps.of_new hb, fun d hd => by rw [h] at hd; simp at hd⟩
set_option maxHeartbeats 1000000 in
theorem rbytesw (s : ByteArray) (q : Nat) (c : Cmd) (kv : Value) (w : World) (hs : s.size ≤ maxLen) (h : Cb w q (cmdC c kv)) :
    Calls Tryd.prog 95 #[.pointer (some ⟨q, 0, none⟩), .string s] w (RdPost w q c kv 3 s.data.toList) := by
  have HP := Lib.hid (parsew s w hs)
  have H := Lib.hid h
  have pr := parseF_range s.data.toList
  obtain ⟨p, hp⟩ : ∃ p, p = parseF s.data.toList := ⟨_, rfl⟩
  rw [← hp] at pr
  obtain ⟨u, b⟩ := p
  obtain ⟨p0, p1⟩ := pr
  simp only at p0 p1
  have e1 : (parseF s.data.toList).1 = u := by rw [← hp]
  have e2 : (parseF s.data.toList).2 = b := by rw [← hp]
  have E1 := Lib.hid e1
  have E2 := Lib.hid e2
  clear hp h e1 e2
  cases b with
  | false =>
    have hR := Lib.hid (rb_no (s := s) (c := c) (by rw [E2.out]; simp))
    go_enter Tryd.func95, Tryd.ntmps95
    go_wp2_with fail
    refine HP.out.mono ?_
    rintro e w1 ⟨rfl, hb1⟩
    rw [E1.out, E2.out]
    go_wp2_with fail
    go_ret
    exact rdpost_no hR.out hb1
  | true =>
    by_cases hl : 2147483647 < u
    · have q1 : decide (2147483647 < u) = true := decide_eq_true hl
      have hR := Lib.hid (rb_no (s := s) (c := c) (by rw [E1.out]; omega))
      go_enter Tryd.func95, Tryd.ntmps95
      go_wp2_with fail
      refine HP.out.mono ?_
      rintro e w1 ⟨rfl, hb1⟩
      rw [E1.out, E2.out]
      go_wp2_with fail
      go_ret
      exact rdpost_no hR.out hb1
    · have q1 : decide (2147483647 < u) = false := decide_eq_false hl
      have q2 : u ≤ 2147483647 := by omega
      have hR := Lib.hid (rb_yes (s := s) (c := c) E2.out (by rw [E1.out]; omega))
      clear hl
      go_enter Tryd.func95, Tryd.ntmps95
      go_wp2_with fail
      refine HP.out.mono ?_
      rintro e w1 ⟨rfl, hb1⟩
      rw [E1.out, E2.out]
      have h1 := H.out.new hb1
      have c1 := h1.at_ 9 _ rfl
      have f1 := h1.fz 9 (by show 9 < 11; decide)
      have HK := Lib.hid (keeps_set (q := q) (i := 9) (v := .int .i64 u) hb1)
      have HS := Lib.hid (h1.set 9 (.int .i64 u) (by show 9 < 11; decide) rfl)
      clear h1 hb1
      go_wp2_with fail
      go_ret
      refine ⟨by rw [hR.out]; rfl, HK.out, fun d hd => ?_⟩
      rw [hR.out, E1.out] at hd
      injection hd with hd
      subst hd
      exact HS.out
end Go.Proofs.YtifbcejekdhnlaaDoor
