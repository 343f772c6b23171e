/- The chapter's lines: read. -/
import Derived.Test.YtifbcejekdhnlaaLr1
import Derived.Test.YtifbcejekdhnlaaNmRef
import Derived.Test.YtifbcejekdhnlaaNm2R
namespace Go.Proofs.Ytifbcejekdhnlaa
open Go.RowKit Go.Maps
set_option linter.unusedVariables false

/-- What reading a word leaves. -/
def RrPost (w : World) (q : Nat) (c : Cmd) (kv : Value) (f : Nat) (x : List UInt8) (e : Ending) (w' : World) : Prop :=
  ∃ t : Nat, e = .returned (.int .i64 t) ∧ Keeps (fun k => k = q) w w' ∧ (∀ d, readF f x c = some d → t = 0 ∧ Cb w' q (cmdC d kv)) ∧ (readF f x c = none → t = faultF f)
theorem rr_ok {w w' : World} {q : Nat} {c d : Cmd} {kv : Value} {f : Nat} {x : List UInt8} (h : readF f x c = some d) (hk : Keeps (fun k => k = q) w w') (hc : Cb w' q (cmdC d kv)) : RrPost w q c kv f x (.returned (.int .i64 0)) w' :=
  ⟨0, rfl, hk, fun d' hd => by rw [h] at hd; injection hd with hd; subst hd; exact ⟨rfl, hc⟩, fun hn => by rw [h] at hn; simp at hn⟩
theorem rr_no {w w' : World} {q : Nat} {c : Cmd} {kv : Value} {f t : Nat} {x : List UInt8} {ti : Int} (h : readF f x c = none) (ht : t = faultF f) (hti : ti = t) (hk : Keeps (fun k => k = q) w w') : RrPost w q c kv f x (.returned (.int .i64 ti)) w' :=
  ⟨t, by rw [hti], hk, fun d' hd => by rw [h] at hd; simp at hd, fun _ => ht⟩
set_option maxHeartbeats 2000000 in
set_option maxRecDepth 100000 in
theorem rr_flags (s : ByteArray) (q : Nat) (c : Cmd) (kv : Value) (w : World) (hs : s.size ≤ maxLen) (h : Cb w q (cmdC c kv)) :
    Calls Try.prog 42 #[.pointer (some ⟨q, 0, none⟩), .int .u8 102, .string s] w (RrPost w q c kv 1 s.data.toList) := by
  have HP := Lib.hid (refp32 s w hs)
  have H := Lib.hid h
  have hE : readF 1 s.data.toList c = if (p32F s.data.toList).2 = true then some { c with flags := (p32F s.data.toList).1 } else none := rfl
  cases hb : (p32F s.data.toList).2 with
  | true =>
    rw [hb, if_pos rfl] at hE
    rw [hb] at HP
    have HE := Lib.hid hE
    clear hE h hb
    go_enter Try.func42, Try.ntmps42
    go_wp2_with fail
    refine HP.out.mono ?_
    rintro e w1 ⟨rfl, hb1⟩
    have h1 := H.out.new hb1
    have c1 := h1.at_ 5 _ rfl
    have f1 := h1.fz 5 (by show 5 < 11; decide)
    have HK := Lib.hid (keeps_set (q := q) (i := 5) (v := .int .u32 (p32F s.data.toList).1) hb1)
    have HS := Lib.hid (h1.set 5 (.int .u32 (p32F s.data.toList).1) (by show 5 < 11; decide) rfl)
    clear h1 hb1
    go_wp2_with fail
    go_ret
    exact rr_ok HE.out HK.out HS.out
  | false =>
    rw [hb, if_neg (by simp)] at hE
    rw [hb] at HP
    have HE := Lib.hid hE
    clear hE h hb
    go_enter Try.func42, Try.ntmps42
    go_wp2_with fail
    refine HP.out.mono ?_
    rintro e w1 ⟨rfl, hb1⟩
    have h1 := H.out.new hb1
    have c1 := h1.at_ 5 _ rfl
    have f1 := h1.fz 5 (by show 5 < 11; decide)
    have HK := Lib.hid (keeps_set (q := q) (i := 5) (v := .int .u32 (p32F s.data.toList).1) hb1)
    clear h1 hb1
    go_wp2_with fail
    go_ret
    exact rr_no (t := 2) HE.out rfl rfl HK.out
set_option maxHeartbeats 2000000 in
set_option maxRecDepth 100000 in
theorem rr_exp (s : ByteArray) (q : Nat) (c : Cmd) (kv : Value) (w : World) (hs : s.size ≤ maxLen) (h : Cb w q (cmdC c kv)) :
    Calls Try.prog 42 #[.pointer (some ⟨q, 0, none⟩), .int .u8 101, .string s] w (RrPost w q c kv 2 s.data.toList) := by
  have HP := Lib.hid (refsigned s w hs)
  have H := Lib.hid h
  have hE : readF 2 s.data.toList c = if (signedF s.data.toList).2 = true then some { c with exp := (signedF s.data.toList).1 } else none := rfl
  cases hb : (signedF s.data.toList).2 with
  | true =>
    rw [hb, if_pos rfl] at hE
    rw [hb] at HP
    have HE := Lib.hid hE
    clear hE h hb
    go_enter Try.func42, Try.ntmps42
    go_wp2_with fail
    refine HP.out.mono ?_
    rintro e w1 ⟨rfl, hb1⟩
    have h1 := H.out.new hb1
    have c1 := h1.at_ 6 _ rfl
    have f1 := h1.fz 6 (by show 6 < 11; decide)
    have HK := Lib.hid (keeps_set (q := q) (i := 6) (v := .int .i64 (signedF s.data.toList).1) hb1)
    have HS := Lib.hid (h1.set 6 (.int .i64 (signedF s.data.toList).1) (by show 6 < 11; decide) rfl)
    clear h1 hb1
    go_wp2_with fail
    go_ret
    exact rr_ok HE.out HK.out HS.out
  | false =>
    rw [hb, if_neg (by simp)] at hE
    rw [hb] at HP
    have HE := Lib.hid hE
    clear hE h hb
    go_enter Try.func42, Try.ntmps42
    go_wp2_with fail
    refine HP.out.mono ?_
    rintro e w1 ⟨rfl, hb1⟩
    have h1 := H.out.new hb1
    have c1 := h1.at_ 6 _ rfl
    have f1 := h1.fz 6 (by show 6 < 11; decide)
    have HK := Lib.hid (keeps_set (q := q) (i := 6) (v := .int .i64 (signedF s.data.toList).1) hb1)
    clear h1 hb1
    go_wp2_with fail
    go_ret
    exact rr_no (t := 2) HE.out rfl rfl HK.out
set_option maxHeartbeats 2000000 in
set_option maxRecDepth 100000 in
theorem rr_id (s : ByteArray) (q : Nat) (c : Cmd) (kv : Value) (w : World) (hs : s.size ≤ maxLen) (h : Cb w q (cmdC c kv)) :
    Calls Try.prog 42 #[.pointer (some ⟨q, 0, none⟩), .int .u8 105, .string s] w (RrPost w q c kv 4 s.data.toList) := by
  have HP := Lib.hid (refparse s w hs)
  have H := Lib.hid h
  have hE : readF 4 s.data.toList c = if (parseF s.data.toList).2 = true then some { c with id := (parseF s.data.toList).1 } else none := rfl
  cases hb : (parseF s.data.toList).2 with
  | true =>
    rw [hb, if_pos rfl] at hE
    rw [hb] at HP
    have HE := Lib.hid hE
    clear hE h hb
    go_enter Try.func42, Try.ntmps42
    go_wp2_with fail
    refine HP.out.mono ?_
    rintro e w1 ⟨rfl, hb1⟩
    have h1 := H.out.new hb1
    have c1 := h1.at_ 7 _ rfl
    have f1 := h1.fz 7 (by show 7 < 11; decide)
    have HK := Lib.hid (keeps_set (q := q) (i := 7) (v := .int .u64 (parseF s.data.toList).1) hb1)
    have HS := Lib.hid (h1.set 7 (.int .u64 (parseF s.data.toList).1) (by show 7 < 11; decide) rfl)
    clear h1 hb1
    go_wp2_with fail
    go_ret
    exact rr_ok HE.out HK.out HS.out
  | false =>
    rw [hb, if_neg (by simp)] at hE
    rw [hb] at HP
    have HE := Lib.hid hE
    clear hE h hb
    go_enter Try.func42, Try.ntmps42
    go_wp2_with fail
    refine HP.out.mono ?_
    rintro e w1 ⟨rfl, hb1⟩
    have h1 := H.out.new hb1
    have c1 := h1.at_ 7 _ rfl
    have f1 := h1.fz 7 (by show 7 < 11; decide)
    have HK := Lib.hid (keeps_set (q := q) (i := 7) (v := .int .u64 (parseF s.data.toList).1) hb1)
    clear h1 hb1
    go_wp2_with fail
    go_ret
    exact rr_no (t := 2) HE.out rfl rfl HK.out
set_option maxHeartbeats 2000000 in
set_option maxRecDepth 100000 in
theorem rr_by (s : ByteArray) (q : Nat) (c : Cmd) (kv : Value) (w : World) (hs : s.size ≤ maxLen) (h : Cb w q (cmdC c kv)) :
    Calls Try.prog 42 #[.pointer (some ⟨q, 0, none⟩), .int .u8 121, .string s] w (RrPost w q c kv 5 s.data.toList) := by
  have HP := Lib.hid (refparse s w hs)
  have H := Lib.hid h
  have hE : readF 5 s.data.toList c = if (parseF s.data.toList).2 = true then some { c with by_ := (parseF s.data.toList).1 } else none := rfl
  cases hb : (parseF s.data.toList).2 with
  | true =>
    rw [hb, if_pos rfl] at hE
    rw [hb] at HP
    have HE := Lib.hid hE
    clear hE h hb
    go_enter Try.func42, Try.ntmps42
    go_wp2_with fail
    refine HP.out.mono ?_
    rintro e w1 ⟨rfl, hb1⟩
    have h1 := H.out.new hb1
    have c1 := h1.at_ 8 _ rfl
    have f1 := h1.fz 8 (by show 8 < 11; decide)
    have HK := Lib.hid (keeps_set (q := q) (i := 8) (v := .int .u64 (parseF s.data.toList).1) hb1)
    have HS := Lib.hid (h1.set 8 (.int .u64 (parseF s.data.toList).1) (by show 8 < 11; decide) rfl)
    clear h1 hb1
    go_wp2_with fail
    go_ret
    exact rr_ok HE.out HK.out HS.out
  | false =>
    rw [hb, if_neg (by simp)] at hE
    rw [hb] at HP
    have HE := Lib.hid hE
    clear hE h hb
    go_enter Try.func42, Try.ntmps42
    go_wp2_with fail
    refine HP.out.mono ?_
    rintro e w1 ⟨rfl, hb1⟩
    have h1 := H.out.new hb1
    have c1 := h1.at_ 8 _ rfl
    have f1 := h1.fz 8 (by show 8 < 11; decide)
    have HK := Lib.hid (keeps_set (q := q) (i := 8) (v := .int .u64 (parseF s.data.toList).1) hb1)
    clear h1 hb1
    go_wp2_with fail
    go_ret
    exact rr_no (t := 4) HE.out rfl rfl HK.out
set_option maxHeartbeats 2000000 in
set_option maxRecDepth 100000 in
theorem rr_bytes (s : ByteArray) (q : Nat) (c : Cmd) (kv : Value) (w : World) (hs : s.size ≤ maxLen) (h : Cb w q (cmdC c kv)) :
    Calls Try.prog 42 #[.pointer (some ⟨q, 0, none⟩), .int .u8 98, .string s] w (RrPost w q c kv 3 s.data.toList) := by
  have HP := Lib.hid (refparse s w hs)
  have H := Lib.hid h
  have pr := parseF_range s.data.toList
  obtain ⟨p, hp⟩ : ∃ p, p = parseF s.data.toList := ⟨_, rfl⟩
  rw [← hp] at pr
  obtain ⟨u, b⟩ := p
  obtain ⟨p0, p1⟩ := pr
  simp only at p0 p1
  have E1 := Lib.hid (show (parseF s.data.toList).1 = u by rw [← hp])
  have E2 := Lib.hid (show (parseF s.data.toList).2 = b by rw [← hp])
  clear hp h
  cases b with
  | false =>
    have hR := Lib.hid (rb_no (s := s) (c := c) (by rw [E2.out]; simp))
    go_enter Try.func42, Try.ntmps42
    go_wp2_with fail
    refine HP.out.mono ?_
    rintro e w1 ⟨rfl, hb1⟩
    rw [E1.out, E2.out]
    go_wp2_with fail
    go_ret
    exact rr_no (t := 2) hR.out rfl rfl (Keeps.of_new hb1)
  | true =>
    by_cases hl : u ≤ 2147483647
    · have q1 : decide (u ≤ 2147483647) = true := decide_eq_true hl
      have hR := Lib.hid (rb_yes (s := s) (c := c) E2.out (by rw [E1.out]; omega))
      have hw : IntKind.i64.wrap u = u := IntWalk.i64_in _ (by omega)
      go_enter Try.func42, Try.ntmps42
      go_wp2_with fail
      refine HP.out.mono ?_
      rintro e w1 ⟨rfl, hb1⟩
      rw [E1.out, E2.out]
      have h1 := H.out.new hb1
      have c1 := h1.at_ 9 _ rfl
      have f1 := h1.fz 9 (by show 9 < 11; decide)
      have HK := Lib.hid (keeps_set (q := q) (i := 9) (v := .int .i64 u) hb1)
      have HS := Lib.hid (h1.set 9 (.int .i64 u) (by show 9 < 11; decide) rfl)
      clear h1 hb1
      go_wp2_with fail
      go_ret
      refine rr_ok hR.out HK.out ?_
      rw [E1.out]
      exact HS.out
    · have q1 : decide (u ≤ 2147483647) = false := decide_eq_false hl
      have hR := Lib.hid (rb_no (s := s) (c := c) (by rw [E1.out]; omega))
      go_enter Try.func42, Try.ntmps42
      go_wp2_with fail
      refine HP.out.mono ?_
      rintro e w1 ⟨rfl, hb1⟩
      rw [E1.out, E2.out]
      go_wp2_with fail
      go_ret
      exact rr_no (t := 2) hR.out rfl rfl (Keeps.of_new hb1)
theorem rreadw (f : Nat) (hf : 1 ≤ f ∧ f ≤ 5) (s : ByteArray) (q : Nat) (c : Cmd) (kv : Value) (w : World) (hs : s.size ≤ maxLen) (h : Cb w q (cmdC c kv)) :
    Calls Try.prog 42 #[.pointer (some ⟨q, 0, none⟩), .int .u8 ((lett f).toNat : Int), .string s] w (RrPost w q c kv f s.data.toList) := by
  rcases (by omega : f = 1 ∨ f = 2 ∨ f = 3 ∨ f = 4 ∨ f = 5) with rfl | rfl | rfl | rfl | rfl
  · exact rr_flags s q c kv w hs h
  · exact rr_exp s q c kv w hs h
  · exact rr_bytes s q c kv w hs h
  · exact rr_id s q c kv w hs h
  · exact rr_by s q c kv w hs h
end Go.Proofs.Ytifbcejekdhnlaa
