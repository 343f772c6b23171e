/- Feeds: what a byte does to a feed, as a function; events. -/
import Derived.Test.YtifbcejekdhnlaaDoorLnMath
namespace Go.Proofs.YtifbcejekdhnlaaDoor
set_option linter.unusedVariables false

/-- An event that is told. -/
structure Ev where
  cmd : Cmd
  data : List UInt8
  told : Nat
deriving DecidableEq
def Ev.none : Ev := ⟨Cmd.none, [], 0⟩
def Ev.fault (t : Nat) : Ev := ⟨Cmd.none, [], t⟩
/-- A feed: 0 a line is awaited, 1 data, 2 a line is swallowed, 3 bytes are. -/
structure Fst where
  way : Nat
  held : List UInt8
  ended : Bool
  cmd : Cmd
  left : Int
deriving DecidableEq
def Fst.at (w : Nat) : Fst := ⟨w, [], false, Cmd.none, 0⟩
def Fst.new : Fst := Fst.at 0
def cutCr (l : List UInt8) : List UInt8 := if l.getLast? = some 13 then l.dropLast else l
/-- A line's end has come. -/
def endLine (p : Cmd × Nat) : Fst × Option Ev :=
  if p.2 = 5 then ({ Fst.at 3 with left := p.1.bytes + 2 }, some (Ev.fault 5))
  else if p.2 ≠ 0 then (Fst.at 0, some (Ev.fault p.2))
  else if p.1.bytes < 0 then (Fst.at 0, some ⟨p.1, [], 0⟩)
  else ({ Fst.at 1 with cmd := p.1 }, none)
def lineF (held : List UInt8) : Fst × Option Ev := endLine (parseC (cutCr held))
def takeLineF (s : Fst) (b : UInt8) : Fst × Option Ev :=
  if b = 10 then lineF s.held
  else if s.held.length = 2048 then (Fst.at 2, some (Ev.fault 3))
  else ({ s with held := s.held ++ [b] }, none)
def takeDataF (s : Fst) (b : UInt8) : Fst × Option Ev :=
  if (s.held.length : Int) < s.cmd.bytes then ({ s with held := s.held ++ [b] }, none)
  else if s.ended = false ∧ b = 13 then ({ s with ended := true }, none)
  else if s.ended = true ∧ b = 10 then (Fst.at 0, some ⟨s.cmd, s.held, 0⟩)
  else if b = 10 then (Fst.at 0, some (Ev.fault 6))
  else (Fst.at 2, some (Ev.fault 6))
def stepF (s : Fst) (b : UInt8) : Fst × Option Ev :=
  if s.way = 0 then takeLineF s b
  else if s.way = 1 then takeDataF s b
  else if s.way = 2 then (if b = 10 then (Fst.at 0, none) else (s, none))
  else if s.left = 1 then (Fst.at 0, none)
  else ({ s with left := s.left - 1 }, none)
/-- Bytes, one behind the other. -/
def feedF : Fst → List UInt8 → Fst × List Ev
  | s, [] => (s, [])
  | s, b :: l => ((feedF (stepF s b).1 l).1, (stepF s b).2.toList ++ (feedF (stepF s b).1 l).2)
theorem feedF_append : ∀ (s : Fst) (l m : List UInt8), feedF s (l ++ m) = ((feedF (feedF s l).1 m).1, (feedF s l).2 ++ (feedF (feedF s l).1 m).2)
  | s, [], m => by simp [feedF]
  | s, b :: l, m => by
    have e : ∀ (s : Fst) (b : UInt8) (l : List UInt8), feedF s (b :: l) = ((feedF (stepF s b).1 l).1, (stepF s b).2.toList ++ (feedF (stepF s b).1 l).2) := fun _ _ _ => rfl
    rw [List.cons_append, e, e, feedF_append (stepF s b).1 l m]
    simp
theorem feedF_snoc (s : Fst) (l : List UInt8) (b : UInt8) : feedF s (l ++ [b]) = ((stepF (feedF s l).1 b).1, (feedF s l).2 ++ (stepF (feedF s l).1 b).2.toList) := by
  rw [feedF_append]
  simp [feedF]
def leftF (s : Fst) : Nat := if s.ended = true then s.held.length + 1 else s.held.length
/-- What a feed is like, whatever came. -/
structure FOk (s : Fst) : Prop where
  way : s.way ≤ 3
  held : s.held.length ≤ 2048
  data : s.way = 1 → s.cmd.bytes ≤ 1024 ∧ (s.held.length : Int) ≤ s.cmd.bytes ∧ 0 ≤ s.cmd.bytes
  left : -1099511627776 ≤ s.left ∧ s.left ≤ 1099511627776
  more : s.way = 3 → 1 ≤ s.left
  verb : s.cmd.keys.length ≤ 64
theorem FOk.at (w : Nat) (h : w ≤ 3) (h1 : w ≠ 1) (h3 : w ≠ 3) : FOk (Fst.at w) := ⟨h, by simp [Fst.at], fun e => absurd e h1, by simp [Fst.at], fun e => absurd e h3, by simp [Fst.at, Cmd.none]⟩
/-- What a parse gives. -/
structure POk (p : Cmd × Nat) : Prop where
  lo : -1 ≤ p.1.bytes
  hi : p.1.bytes ≤ 2147483647
  none : p.2 = 0 → p.1.bytes ≤ 1024
  large : p.2 = 5 → 1024 < p.1.bytes
  keys : p.1.keys.length ≤ 64
  told : p.2 ≤ 5
theorem POk.zero {t : Nat} (h : t ≤ 4) : POk (Cmd.none, t) := ⟨by simp [Cmd.none], by simp [Cmd.none], fun _ => by simp [Cmd.none], fun e => by simp at e; omega, by simp [Cmd.none], by show t ≤ 5; omega⟩
theorem readF_bytes {f : Nat} {x : List UInt8} {c d : Cmd} (h : readF f x c = some d) : (d.bytes = c.bytes ∨ 0 ≤ d.bytes ∧ d.bytes ≤ 2147483647) ∧ d.keys = c.keys := by
  unfold readF at h
  repeat' split at h
  all_goals first
    | (injection h with h; subst h; exact ⟨.inl rfl, rfl⟩)
    | (rename_i hh; injection h with h; subst h; exact ⟨.inr ⟨(parseF_range x).1, hh.2⟩, rfl⟩)
    | simp at h
theorem readFs_ok : ∀ (fs : List Nat) (xs : List (List UInt8)) (c : Cmd), -1 ≤ c.bytes → c.bytes ≤ 2147483647 → c.keys.length ≤ 64 → POk (readFs fs xs c)
  | [], xs, c, h0, h1, hk => by
    have e : readFs [] xs c = if 1024 < c.bytes then (c, 5) else (c, 0) := rfl
    rw [e]
    split
    · exact ⟨h0, h1, fun e => by simp at e, fun _ => by assumption, hk, by simp⟩
    · exact ⟨h0, h1, fun _ => by show c.bytes ≤ 1024; omega, fun e => by simp at e, hk, by simp⟩
  | f :: fs, [], c, h0, h1, hk => by
    have e : readFs (f :: fs) [] c = if 1024 < c.bytes then (c, 5) else (c, 0) := rfl
    rw [e]
    split
    · exact ⟨h0, h1, fun e => by simp at e, fun _ => by assumption, hk, by simp⟩
    · exact ⟨h0, h1, fun _ => by show c.bytes ≤ 1024; omega, fun e => by simp at e, hk, by simp⟩
  | f :: fs, x :: xs, c, h0, h1, hk => by
    cases hr : readF f x c with
    | none =>
      have e : readFs (f :: fs) (x :: xs) c = (Cmd.none, faultF f) := by simp [readFs, hr]
      rw [e]
      exact POk.zero (by unfold faultF; split <;> omega)
    | some d =>
      have e : readFs (f :: fs) (x :: xs) c = readFs fs xs d := by simp [readFs, hr]
      rw [e]
      obtain ⟨hb, hkk⟩ := readF_bytes hr
      exact readFs_ok fs xs d (by omega) (by omega) (by rw [hkk]; exact hk)
theorem tbF_most : ∀ x ∈ tbF, x.2.most ≤ 64 := by decide
theorem formIn_in {n : List UInt8} {f : Form} : ∀ {xs : List (List UInt8 × Form)}, formIn xs n = some f → (n, f) ∈ xs
  | [], h => by simp [formIn] at h
  | x :: xs, h => by
    unfold formIn at h
    split at h
    · next e => injection h with h; subst e; subst h; simp
    · exact List.mem_cons_of_mem _ (formIn_in h)
theorem parseC_ok (l : List UInt8) : POk (parseC l) := by
  unfold parseC
  split
  · exact POk.zero (by omega)
  unfold parseN
  split
  · exact POk.zero (by omega)
  next n ws =>
  split
  · exact POk.zero (by omega)
  next f hf =>
  unfold parseW keyedW
  have hm := tbF_most _ (formIn_in hf)
  split
  · exact POk.zero (by omega)
  split
  · refine readFs_ok _ _ _ (by simp [beginW]) (by simp [beginW]) ?_
    simp only [beginW, List.length_take]
    have : f.most ≤ 64 := hm
    omega
  · exact POk.zero (by omega)
theorem endLine_ok {p : Cmd × Nat} (h : POk p) : FOk (endLine p).1 := by
  unfold endLine
  split
  · have := h.lo; have := h.hi; have := h.large (by assumption)
    exact ⟨by simp [Fst.at], by simp [Fst.at], fun e => by simp [Fst.at] at e, by simp; omega, fun _ => by show 1 ≤ p.1.bytes + 2; omega, by simp [Fst.at, Cmd.none]⟩
  split
  · exact FOk.at 0 (by omega) (by omega) (by omega)
  split
  · exact FOk.at 0 (by omega) (by omega) (by omega)
  · have := h.lo; have := h.none (by omega)
    exact ⟨by simp [Fst.at], by simp [Fst.at], fun _ => ⟨by assumption, by simp [Fst.at]; omega, by show 0 ≤ p.1.bytes; omega⟩, by simp [Fst.at], fun e => by simp [Fst.at] at e, h.keys⟩
theorem FOk.step {s : Fst} (h : FOk s) (b : UInt8) : FOk (stepF s b).1 := by
  have h1 := h.way
  have h2 := h.held
  have h3 := h.left
  unfold stepF
  split
  · next hw =>
    unfold takeLineF
    split
    · exact endLine_ok (parseC_ok _)
    split
    · exact FOk.at 2 (by omega) (by omega) (by omega)
    · exact ⟨h1, by simp; omega, fun e => by simp [hw] at e, h3, fun e => by simp [hw] at e, h.verb⟩
  split
  · next hw =>
    obtain ⟨d1, d2, d3⟩ := h.data hw
    unfold takeDataF
    split
    · exact ⟨h1, by simp; omega, fun _ => ⟨d1, by simp; omega, d3⟩, h3, fun e => by simp [hw] at e, h.verb⟩
    split
    · exact ⟨h1, h2, fun _ => ⟨d1, d2, d3⟩, h3, fun e => by simp [hw] at e, h.verb⟩
    split
    · exact FOk.at 0 (by omega) (by omega) (by omega)
    split
    · exact FOk.at 0 (by omega) (by omega) (by omega)
    · exact FOk.at 2 (by omega) (by omega) (by omega)
  split
  · split
    · exact FOk.at 0 (by omega) (by omega) (by omega)
    · exact h
  split
  · exact FOk.at 0 (by omega) (by omega) (by omega)
  · have := h.more (by omega)
    exact ⟨h1, h2, fun e => absurd e (by assumption), by simp; omega, fun _ => by show 1 ≤ s.left - 1; omega, h.verb⟩
theorem FOk.feed : ∀ {s : Fst} (h : FOk s) (l : List UInt8), FOk (feedF s l).1
  | s, h, [] => h
  | s, h, b :: l => (h.step b).feed l
end Go.Proofs.YtifbcejekdhnlaaDoor
