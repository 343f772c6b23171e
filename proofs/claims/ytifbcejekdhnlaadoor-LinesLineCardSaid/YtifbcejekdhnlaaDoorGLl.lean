/- Lines: a command's own line, as a function; it is read back (mathematics). -/
import Derived.Test.YtifbcejekdhnlaaDoorLnMath
import Derived.Test.YtifbcejekdhnlaaDoorTxMath
import Derived.Test.YtifbcejekdhnlaaDoorKyJn
import Derived.Test.YtifbcejekdhnlaaDoorFeMath
import Derived.Test.YtifbcejekdhnlaaDoorLn9
import Derived.Test.YtifbcejekdhnlaaDoorTyRef
import Derived.Test.YtifbcejekdhnlaaDoorGLi
import Derived.Test.YtifbcejekdhnlaaDoorOpen
import Derived.Test.YtifbcejekdhnlaaDoorGLw
import Derived.BigRegion
namespace Go.Proofs.YtifbcejekdhnlaaDoor
set_option linter.unusedVariables false

/-- A signed number's own text. -/
def sgnL (n : Int) : List UInt8 := if n < 0 then 45 :: Lib.decDigits n.natAbs else Lib.decDigits n.natAbs
def textF (f : Nat) (c : Cmd) : List UInt8 :=
  if f = 1 then Lib.decDigits c.flags.natAbs else if f = 2 then sgnL c.exp else if f = 3 then sgnL c.bytes else if f = 4 then Lib.decDigits c.id.natAbs else Lib.decDigits c.by_.natAbs
def fieldsC (f : Form) (c : Cmd) : List (List UInt8) := if f.spare = 0 ∨ c.exp ≠ 0 then f.fields.map (fun x => textF x c) else []
def quietC (c : Cmd) : List (List UInt8) := if c.quiet = true then [norep] else []
def wordsC (n : List UInt8) (f : Form) (c : Cmd) : List (List UInt8) := n :: (c.keys ++ fieldsC f c ++ quietC c)
def formAt (v : Nat) : Option (List UInt8 × Form) := tbF.find? (fun x => decide (x.2.verb = v))
def lineW (c : Cmd) (x : List UInt8 × Form) : Option (List UInt8) :=
  if parseC (Lib.join (wordsC x.1 x.2 c) [32]) = (c, 0) then some (Lib.join (wordsC x.1 x.2 c) [32]) else none
def lineO (c : Cmd) : Option (List UInt8) := (formAt c.verb).bind (lineW c)
theorem line_some {c : Cmd} {s : List UInt8} (h : lineO c = some s) : parseC s = (c, 0) := by
  unfold lineO at h
  cases hf : formAt c.verb with
  | none => rw [hf] at h; simp at h
  | some x =>
    rw [hf] at h
    simp only [Option.bind_some, lineW] at h
    split at h
    · next hp => injection h with h; rw [← h]; exact hp
    · simp at h
theorem line_len {c : Cmd} {s : List UInt8} (h : lineO c = some s) : s.length ≤ 2048 := by
  have hp := line_some h
  unfold parseC at hp
  split at hp
  · injection hp with _ hp; omega
  · omega
/-- Words of one form alone have a verb. -/
theorem ll_format : ∀ x ∈ tbF, formAt x.2.verb = some x ∧ formOf x.1 = some x.2 := by decide +kernel
/-- The kinds of forms. -/
def FormK (f : Form) : Prop := (f.spare = 0 ∧ f.quiet = false ∧ f.fields = [] ∧ f.least ≤ f.most) ∨ (f.spare = 0 ∧ f.quiet = true ∧ f.least = 1 ∧ f.most = 1) ∨ (f = ⟨11, 0, 0, [2], 1, true⟩)
instance (f : Form) : Decidable (FormK f) := by unfold FormK; infer_instance
theorem form_kind : ∀ x ∈ tbF, FormK x.2 ∧ x.2.fields.Nodup ∧ (∀ y ∈ x.2.fields, 1 ≤ y ∧ y ≤ 5) ∧ x.1 ≠ [] ∧ (∀ c ∈ x.1, c ≠ 32) := by decide +kernel

/- numbers -/
theorem dec_noblank (u : Nat) : ∀ c ∈ Lib.decDigits u, 48 ≤ c.toNat ∧ c.toNat ≤ 57 := by
  induction u using Nat.strongRecOn with
  | _ u ih =>
    intro c hc
    by_cases h : u < 10
    · rw [dec_small h] at hc
      rw [List.mem_singleton.mp hc]
      have := digit_byte h
      omega
    · rw [dec_big h] at hc
      rcases List.mem_append.mp hc with hc | hc
      · exact ih (u / 10) (by omega) c hc
      · rw [List.mem_singleton.mp hc]
        have := digit_byte (k := u % 10) (by omega)
        omega
theorem dec_ne (u : Nat) : Lib.decDigits u ≠ [] := by
  intro e
  have h1 := Lib.decDigits_length u
  have h2 := Lib.nDigits_pos u
  rw [e] at h1; simp at h1; omega
theorem sgn_noblank (n : Int) : sgnL n ≠ [] ∧ ∀ c ∈ sgnL n, c.toNat = 45 ∨ (48 ≤ c.toNat ∧ c.toNat ≤ 57) := by
  unfold sgnL
  split
  · refine ⟨by simp, fun c hc => ?_⟩
    rcases List.mem_cons.mp hc with rfl | hc
    · exact .inl rfl
    · exact .inr (dec_noblank _ c hc)
  · exact ⟨dec_ne _, fun c hc => .inr (dec_noblank _ c hc)⟩
theorem text_noblank (f : Nat) (c : Cmd) : textF f c ≠ [] ∧ (∀ b ∈ textF f c, b.toNat = 45 ∨ (48 ≤ b.toNat ∧ b.toNat ≤ 57)) := by
  unfold textF
  split
  · exact ⟨dec_ne _, fun c hc => .inr (dec_noblank _ c hc)⟩
  · split
    · exact sgn_noblank _
    · split
      · exact sgn_noblank _
      · split
        · exact ⟨dec_ne _, fun c hc => .inr (dec_noblank _ c hc)⟩
        · exact ⟨dec_ne _, fun c hc => .inr (dec_noblank _ c hc)⟩
theorem nDigits_mono {u k : Nat} (hk : 1 ≤ k) (h : u < 10 ^ k) : Lib.nDigits u ≤ k := by
  induction u using Nat.strongRecOn generalizing k with
  | _ u ih =>
    by_cases hs : u < 10
    · rw [Lib.nDigits_small hs]; exact hk
    · rw [Lib.nDigits_big hs]
      obtain ⟨k, rfl⟩ : ∃ j, k = j + 1 := ⟨k - 1, by omega⟩
      have h1 : 1 ≤ k := by
        rcases Nat.eq_zero_or_pos k with rfl | h
        · simp at h; omega
        · exact h
      have h2 := ih (u / 10) (by omega) h1 (by rw [Nat.pow_succ] at h; omega)
      omega
theorem digs_bound : ∀ (x : List UInt8) (m n : Int), 0 ≤ m → digsF m x = (n, true) → 0 ≤ n ∧ n < (m + 1) * 10 ^ x.length
  | [], m, n, hm, h => by
    simp [digsF] at h
    subst h
    simp; omega
  | c :: t, m, n, hm, h => by
    unfold digsF at h
    split at h
    · simp at h
    · split at h
      · simp at h
      · next h1 h2 =>
        obtain ⟨h3, h4⟩ := digs_bound t _ n (by omega) h
        refine ⟨h3, Int.lt_of_lt_of_le h4 ?_⟩
        have hp : (0 : Int) ≤ 10 ^ t.length := Int.pow_nonneg (by omega)
        have e : (m + 1) * 10 ^ (c :: t).length = ((m + 1) * 10) * (10 : Int) ^ t.length := by
          rw [List.length_cons, Int.pow_succ, Int.mul_assoc, Int.mul_comm ((10 : Int) ^ t.length) 10]
        rw [e]
        exact Int.mul_le_mul_of_nonneg_right (by omega) hp
theorem ll_plen {x : List UInt8} {n : Int} (h : parseF x = (n, true)) : 0 ≤ n ∧ n ≤ 18446744073709551615 ∧ (Lib.decDigits n.natAbs).length ≤ x.length ∧ parseF (Lib.decDigits n.natAbs) = (n, true) := by
  have hr := parseF_range x
  rw [h] at hr
  have hd : digsF 0 x = (n, true) ∧ 1 ≤ x.length := by
    unfold parseF at h
    split at h
    · simp at h
    · exact ⟨h, by omega⟩
  obtain ⟨h0, h1⟩ := digs_bound x 0 n (Int.le_refl _) hd.1
  refine ⟨hr.1, hr.2, ?_, ?_⟩
  · rw [Lib.decDigits_length]
    refine nDigits_mono hd.2 ?_
    have e : ((n.natAbs : Nat) : Int) = n := Int.natAbs_of_nonneg hr.1
    have h2 : ((n.natAbs : Nat) : Int) < ((10 ^ x.length : Nat) : Int) := by rw [e]; simpa using h1
    exact Int.ofNat_lt.mp h2
  · have := parse_dec (u := n.natAbs) (by have := hr.2; omega)
    rw [this, Int.natAbs_of_nonneg hr.1]
theorem dec_head45 (u : Nat) : (Lib.decDigits u).head? ≠ some 45 := by
  intro e
  cases hd : Lib.decDigits u with
  | nil => exact dec_ne u hd
  | cons a t =>
    rw [hd] at e
    simp at e
    subst e
    have := dec_noblank u 45 (by rw [hd]; simp)
    simp at this
theorem signed_len {x : List UInt8} {n : Int} (h : signedF x = (n, true)) : (sgnL n).length ≤ x.length ∧ signedF (sgnL n) = (n, true) := by
  unfold signedF at h
  split at h
  · next hm =>
    obtain ⟨t, rfl⟩ : ∃ t, x = 45 :: t := by
      cases x with
      | nil => simp at hm
      | cons a t => simp at hm; subst hm; exact ⟨t, rfl⟩
    simp only [List.tail_cons] at h
    unfold signedOf at h
    split at h
    · simp at h
    · next hp =>
      split at h
      · next hq =>
        obtain ⟨m, hm2⟩ : ∃ m, parseF t = (m, true) := ⟨(parseF t).1, by
          have : (parseF t).2 = true := by simpa using hp
          rw [← this]⟩
        rw [hm2] at h hq
        simp only at h hq
        injection h with h _
        obtain ⟨g0, g1, g2, g3⟩ := ll_plen hm2
        subst h
        by_cases hz : m = 0
        · subst hz
          refine ⟨?_, by decide +kernel⟩
          have : sgnL (-0) = [48] := by decide +kernel
          rw [this]; simp
        · have hneg : -m < 0 := by omega
          have e : sgnL (-m) = 45 :: Lib.decDigits m.natAbs := by
            unfold sgnL
            rw [if_pos hneg, Int.natAbs_neg]
          rw [e]
          refine ⟨by simpa using g2, ?_⟩
          unfold signedF
          rw [if_pos (by simp), List.tail_cons, g3]
          unfold signedOf
          simp [hq.2]
      · simp at h
  · next hm =>
    unfold signedOf at h
    split at h
    · simp at h
    · next hp =>
      split at h
      · next hq => simp at hq
      · split at h
        · next hq =>
          obtain ⟨m, hm2⟩ : ∃ m, parseF x = (m, true) := ⟨(parseF x).1, by
            have : (parseF x).2 = true := by simpa using hp
            rw [← this]⟩
          rw [hm2] at h hq
          simp only at h hq
          injection h with h _
          obtain ⟨g0, g1, g2, g3⟩ := ll_plen hm2
          subst h
          have e : sgnL m = Lib.decDigits m.natAbs := by
            unfold sgnL
            rw [if_neg (by omega)]
          rw [e]
          refine ⟨g2, ?_⟩
          unfold signedF
          rw [if_neg (dec_head45 _), g3]
          unfold signedOf
          simp [hq.2]
        · simp at h
theorem p32_len {x : List UInt8} {n : Int} (h : p32F x = (n, true)) : (Lib.decDigits n.natAbs).length ≤ x.length ∧ p32F (Lib.decDigits n.natAbs) = (n, true) := by
  unfold p32F at h
  split at h
  · simp at h
  · next hq =>
    obtain ⟨g0, g1, g2, g3⟩ := ll_plen h
    refine ⟨g2, ?_⟩
    unfold p32F
    rw [g3]
    rw [h] at hq
    rw [if_neg (by simpa using hq)]
/-- A field that was read: its own text is read as the same one. -/
theorem read_text {f : Nat} {x : List UInt8} {c d : Cmd} (h1 : 1 ≤ f) (h5 : f ≤ 5) (h : readF f x c = some d) : readF f (textF f d) c = some d ∧ (textF f d).length ≤ x.length := by
  unfold readF at h ⊢
  have pf : ∀ (s : List UInt8) (p : Int × Bool), p.2 = true → p = (p.1, true) := fun s p h => by rw [← h]
  split at h
  · next e =>
    split at h
    · next hp =>
      injection h with h; subst h; subst e
      obtain ⟨q1, q2⟩ := p32_len (pf x _ hp)
      simp only [textF, if_true]
      refine ⟨?_, q1⟩
      rw [q2]; simp
    · simp at h
  · next e1 =>
    split at h
    · next e =>
      split at h
      · next hp =>
        injection h with h; subst h; subst e
        obtain ⟨q1, q2⟩ := signed_len (pf x _ hp)
        simp [textF, q2, q1]
      · simp at h
    · next e2 =>
      split at h
      · next e =>
        split at h
        · next hp =>
          injection h with h; subst h; subst e
          obtain ⟨g0, g1, q1, q2⟩ := ll_plen (pf x _ hp.1)
          have es : sgnL (parseF x).1 = Lib.decDigits (parseF x).1.natAbs := by
            unfold sgnL
            rw [if_neg (by omega)]
          simp [textF, es, q2, hp.2, q1]
        · simp at h
      · next e3 =>
        split at h
        · next e =>
          split at h
          · next hp =>
            injection h with h; subst h; subst e
            obtain ⟨g0, g1, q1, q2⟩ := ll_plen (pf x _ hp)
            simp [textF, q2, q1]
          · simp at h
        · next e4 =>
          split at h
          · next hp =>
            injection h with h; subst h
            obtain rfl : f = 5 := by omega
            obtain ⟨g0, g1, q1, q2⟩ := ll_plen (pf x _ hp)
            simp [textF, q2, q1]
          · simp at h
end Go.Proofs.YtifbcejekdhnlaaDoor
/- Next: Lines: a command's own line is read back, and is no longer than the line that it came from (mathematics). -/
namespace Go.Proofs.YtifbcejekdhnlaaDoor
set_option linter.unusedVariables false

theorem ll_facts {K : List UInt8} (h : okF K = true) : K ≠ [] ∧ K.length ≤ 250 ∧ ∀ c ∈ K, c ≠ 32 := by
  unfold okF lookF at h
  split at h
  · simp at h
  split at h
  · simp at h
  split at h
  · simp at h
  · next h0 h1 h2 =>
    refine ⟨by intro e; rw [e] at h0; exact h0 rfl, by omega, fun c hc => ?_⟩
    have h3 : K.findIdx (fun c => !mayB c) = K.length := by
      have := List.findIdx_le_length (xs := K) (p := fun c => !mayB c)
      omega
    have := (List.findIdx_eq_length.mp h3) c hc
    rintro rfl
    simp [mayB] at this
/-- Bytes of words with one more behind each. -/
def tot : List (List UInt8) → Nat
  | [] => 0
  | x :: r => x.length + 1 + tot r
theorem tot_app : ∀ (a b : List (List UInt8)), tot (a ++ b) = tot a + tot b
  | [], b => by simp [tot]
  | x :: a, b => by rw [List.cons_append]; simp only [tot]; rw [tot_app a b]; omega
theorem tail_tot : ∀ (l : List (List UInt8)), (Lib.joinTail [32] l).length = tot l
  | [] => by simp [Lib.joinTail, tot]
  | x :: r => by
    have e : Lib.joinTail [32] (x :: r) = 32 :: (x ++ Lib.joinTail [32] r) := by simp [Lib.joinTail]
    rw [e]
    simp only [List.length_cons, List.length_append, tail_tot r, tot]; omega
theorem join_tot (x : List UInt8) (r : List (List UInt8)) : (Lib.join (x :: r) [32]).length + 1 = tot (x :: r) := by
  rw [Lib.join_cons, List.length_append, tail_tot]
  simp only [tot]; omega
theorem ll_keep {f g : Nat} {x : List UInt8} {c d : Cmd} (hf : 1 ≤ f ∧ f ≤ 5) (hg : 1 ≤ g ∧ g ≤ 5) (hne : g ≠ f) (h : readF f x c = some d) : textF g d = textF g c := by
  obtain rfl | rfl | rfl | rfl | rfl : f = 1 ∨ f = 2 ∨ f = 3 ∨ f = 4 ∨ f = 5 := by omega
  all_goals obtain rfl | rfl | rfl | rfl | rfl : g = 1 ∨ g = 2 ∨ g = 3 ∨ g = 4 ∨ g = 5 := by omega
  all_goals first
    | exact absurd rfl hne
    | (unfold readF at h
       repeat' split at h
       all_goals first
         | omega
         | (injection h with h; subst h; rfl)
         | (exfalso; simp at h; done))
theorem ll_end (fs : List Nat) (c : Cmd) : readFs fs [] c = if 1024 < c.bytes then (c, 5) else (c, 0) := by cases fs <;> rfl
theorem ll_none (xs : List (List UInt8)) (c : Cmd) : readFs [] xs c = if 1024 < c.bytes then (c, 5) else (c, 0) := rfl
theorem ll_go {f : Nat} {fs : List Nat} {x : List UInt8} {xs : List (List UInt8)} {c d : Cmd} (h : readF f x c = some d) : readFs (f :: fs) (x :: xs) c = readFs fs xs d := by simp [readFs, h]
theorem ll_some {f : Nat} {fs : List Nat} {x : List UInt8} {xs : List (List UInt8)} {c : Cmd} (h : (readFs (f :: fs) (x :: xs) c).2 = 0) : ∃ d, readF f x c = some d := by
  cases hr : readF f x c with
  | some d => exact ⟨d, rfl⟩
  | none =>
    simp only [readFs, hr] at h
    unfold faultF at h
    split at h <;> omega
theorem readFs_keep {g : Nat} (hg : 1 ≤ g ∧ g ≤ 5) : ∀ (fs : List Nat) (xs : List (List UInt8)) (c d : Cmd), g ∉ fs → (∀ y ∈ fs, 1 ≤ y ∧ y ≤ 5) → readFs fs xs c = (d, 0) → textF g d = textF g c
  | [], xs, c, d, _, _, h => by
    rw [ll_none] at h
    split at h <;> (injection h with h h2; first | (rw [h]; done) | omega)
  | f :: fs, [], c, d, _, _, h => by
    rw [ll_end] at h
    split at h <;> (injection h with h h2; first | (rw [h]; done) | omega)
  | f :: fs, x :: xs, c, d, hn, hb, h => by
    obtain ⟨e, he⟩ := ll_some (f := f) (fs := fs) (x := x) (xs := xs) (c := c) (by rw [h])
    rw [ll_go he] at h
    rw [readFs_keep hg fs xs e d (fun hm => hn (List.mem_cons_of_mem _ hm)) (fun y hy => hb y (List.mem_cons_of_mem _ hy)) h]
    exact ll_keep (hb f (by simp)) hg (fun e => hn (by rw [e]; simp)) he
/-- The own texts of the fields that were read are read as the same ones. -/
theorem readFs_text : ∀ (fs : List Nat) (xs : List (List UInt8)) (c d : Cmd), fs.Nodup → (∀ y ∈ fs, 1 ≤ y ∧ y ≤ 5) → readFs fs xs c = (d, 0) → xs.length = fs.length → readFs fs (fs.map (fun y => textF y d)) c = (d, 0) ∧ tot (fs.map (fun y => textF y d)) ≤ tot xs
  | [], xs, c, d, _, _, h, hl => by
    rw [ll_none] at h
    refine ⟨by rw [ll_none]; exact h, by simp [tot]⟩
  | f :: fs, [], c, d, _, _, h, hl => by simp at hl
  | f :: fs, x :: xs, c, d, hn, hb, h, hl => by
    obtain ⟨e, he⟩ := ll_some (f := f) (fs := fs) (x := x) (xs := xs) (c := c) (by rw [h])
    rw [ll_go he] at h
    obtain ⟨hn1, hn2⟩ := List.nodup_cons.mp hn
    have hf := hb f (by simp)
    have hb' : ∀ y ∈ fs, 1 ≤ y ∧ y ≤ 5 := fun y hy => hb y (List.mem_cons_of_mem _ hy)
    obtain ⟨h1, h2⟩ := readFs_text fs xs e d hn2 hb' h (by simpa using hl)
    have ht := readFs_keep hf fs xs e d hn1 hb' h
    obtain ⟨h3, h4⟩ := read_text hf.1 hf.2 he
    rw [List.map_cons, ht]
    refine ⟨by rw [ll_go h3]; exact h1, ?_⟩
    simp only [tot]; omega
theorem ll_exp : ∀ (fs : List Nat) (xs : List (List UInt8)) (c d : Cmd), readFs fs xs c = (d, 0) → d.verb = c.verb ∧ d.cverb = c.cverb ∧ d.key = c.key ∧ d.keys = c.keys ∧ d.value = c.value ∧ d.quiet = c.quiet
  | [], xs, c, d, h => by
    rw [ll_none] at h
    split at h <;> (injection h with h h2; first | (subst h; exact ⟨rfl, rfl, rfl, rfl, rfl, rfl⟩) | omega)
  | f :: fs, [], c, d, h => by
    rw [ll_end] at h
    split at h <;> (injection h with h h2; first | (subst h; exact ⟨rfl, rfl, rfl, rfl, rfl, rfl⟩) | omega)
  | f :: fs, x :: xs, c, d, h => by
    obtain ⟨e, he⟩ := ll_some (f := f) (fs := fs) (x := x) (xs := xs) (c := c) (by rw [h])
    rw [ll_go he] at h
    obtain ⟨a1, a2, a3, a4, a5, a6⟩ := ll_exp fs xs e d h
    rw [a1, a2, a3, a4, a5, a6]
    unfold readF at he
    repeat' split at he
    all_goals first
      | (injection he with he; subst he; exact ⟨rfl, rfl, rfl, rfl, rfl, rfl⟩)
      | simp at he
theorem norep_not {x : List UInt8} (h : ∀ b ∈ x, b.toNat = 45 ∨ (48 ≤ b.toNat ∧ b.toNat ≤ 57)) (h0 : x ≠ []) : x ≠ norep := by
  intro e
  have := h 110 (by rw [e]; simp [norep])
  simp at this
/-- What its own words are to a form. -/
theorem keyed_own {f : Form} {ks fx : List (List UInt8)} {q : Bool} {c : Cmd} (hk : ks.all okF = true) (hlo : f.fewest ≤ (ks ++ fx).length) (hhi : (ks ++ fx).length ≤ f.greatest) (ht : (ks ++ fx).take f.most = ks) (hd : (ks ++ fx).drop f.most = fx) (hr : readFs f.fields fx (beginW f q ks) = (c, 0)) : keyedW f q (ks ++ fx) = (c, 0) := by
  unfold keyedW
  rw [if_neg (by omega), ht, if_pos hk, hd]
  exact hr
theorem parse_quiet {f : Form} {ws : List (List UInt8)} {c : Cmd} (hq : f.quiet = true) (hlo : f.fewest ≤ ws.length) (h : keyedW f true ws = (c, 0)) : parseW f (ws ++ [norep]) = (c, 0) := by
  have e : quietW f (ws ++ [norep]) = true := by
    unfold quietW
    rw [hq]
    simp; omega
  unfold parseW restW
  rw [if_pos e, e]
  simpa using h
theorem parse_loud {f : Form} {ws : List (List UInt8)} {c : Cmd} (hq : quietW f ws = false) (h : keyedW f false ws = (c, 0)) : parseW f ws = (c, 0) := by
  unfold parseW restW
  rw [hq]
  simpa using h
theorem quiet_app {f : Form} {ws : List (List UInt8)} (h : quietW f ws = true) : f.quiet = true ∧ f.fewest < ws.length ∧ ws = ws.dropLast ++ [norep] := by
  unfold quietW at h
  simp only [Bool.and_eq_true, decide_eq_true_eq] at h
  refine ⟨h.1, h.2.1, ?_⟩
  have h2 := h.2.2
  cases ws with
  | nil => simp at h2
  | cons a t =>
    rw [List.getLast?_eq_some_getLast (by simp)] at h2
    injection h2 with h2
    have := List.dropLast_concat_getLast (l := a :: t) (by simp)
    rw [h2] at this
    exact this.symm
/-- A command that is read of words: what it is like, and that its own words are read as the same one. -/
structure OwnR (n : List UInt8) (f : Form) (c : Cmd) (m : Nat) : Prop where
  cverb : c.cverb = c.verb
  verb : c.verb = f.verb
  key : c.key = c.keys.headD []
  keys : c.keys.all okF = true
  many : c.keys.length ≤ 64
  value : c.value = []
  back : parseW f (c.keys ++ fieldsC f c ++ quietC c) = (c, 0)
  short : tot (c.keys ++ fieldsC f c ++ quietC c) ≤ m
theorem own_of {n : List UInt8} {f : Form} {ws : List (List UInt8)} {c : Cmd} (hm : f.most ≤ 64) (hK : FormK f) (hnd : f.fields.Nodup) (hfb : ∀ y ∈ f.fields, 1 ≤ y ∧ y ≤ 5) (h : parseW f ws = (c, 0)) : OwnR n f c (tot ws) := by
  obtain ⟨q, hq⟩ : ∃ q, quietW f ws = q := ⟨_, rfl⟩
  obtain ⟨rs, hrs⟩ : ∃ rs, restW f ws = rs := ⟨_, rfl⟩
  have hk : keyedW f q rs = (c, 0) := by rw [← hq, ← hrs]; exact h
  have htot : tot ws = tot rs + (if q = true then 8 else 0) := by
    rw [← hrs, ← hq]
    unfold restW
    split
    · next e =>
      have h3 := (quiet_app e).2.2
      generalize ws.dropLast = d at h3 ⊢
      rw [h3, tot_app]
      simp [tot, norep]
    · simp
  unfold keyedW at hk
  split at hk
  · simp at hk
  next hlen =>
  split at hk
  rotate_left
  · simp at hk
  · next hall =>
    obtain ⟨b1, b2, b3, b4, b5, b6⟩ := ll_exp _ _ _ _ hk
    simp only [beginW] at b1 b2 b3 b4 b5 b6
    have hquiet : q = true → f.quiet = true := fun e => (quiet_app (hq.trans e)).1
    have hqc : quietC c = if q = true then [norep] else [] := by unfold quietC; rw [b6]
    have hsum : tot (quietC c) = if q = true then 8 else 0 := by rw [hqc]; split <;> simp [tot, norep]
    have hmain : ∀ (fx : List (List UInt8)), fieldsC f c = fx → readFs f.fields fx (beginW f q (rs.take f.most)) = (c, 0) → (rs.take f.most ++ fx).take f.most = rs.take f.most → (rs.take f.most ++ fx).drop f.most = fx → f.fewest ≤ (rs.take f.most ++ fx).length → (rs.take f.most ++ fx).length ≤ f.greatest → tot fx ≤ tot (rs.drop f.most) → (q = false → quietW f (rs.take f.most ++ fx) = false) → OwnR n f c (tot ws) := by
      intro fx e1 e2 e3 e4 e5 e6 e7 e8
      have hky := keyed_own (c := c) (q := q) hall e5 e6 e3 e4 e2
      refine ⟨b2.trans b1.symm, b1, by rw [b3, b4], by rw [b4]; exact hall, by rw [b4]; simp; omega, b5, ?_, ?_⟩
      · rw [b4, e1, hqc]
        cases q with
        | true => simp only [if_true]; exact parse_quiet (hquiet rfl) e5 hky
        | false => simp only [Bool.false_eq_true, if_false, List.append_nil]; exact parse_loud (e8 rfl) hky
      · rw [b4, e1, tot_app, tot_app, hsum, htot]
        have : tot rs = tot (rs.take f.most) + tot (rs.drop f.most) := by rw [← tot_app, List.take_append_drop]
        omega
    have hfew : f.fewest ≤ rs.length := by omega
    have hgr : rs.length ≤ f.greatest := by omega
    unfold Form.fewest at hfew
    unfold Form.greatest at hgr
    rcases hK with ⟨k1, k2, k3, k4⟩ | ⟨k1, k2, k3, k4⟩ | rfl
    · rw [k3, List.length_nil] at hfew hgr
      have ht : rs.take f.most = rs := List.take_of_length_le (by omega)
      refine hmain [] (by unfold fieldsC; rw [if_pos (.inl k1), k3]; rfl) ?_ ?_ ?_ ?_ ?_ (by simp [tot]) ?_
      · rw [k3, ll_none] at hk ⊢; exact hk
      · rw [List.append_nil, ht, ht]
      · rw [List.append_nil, ht, List.drop_of_length_le (by omega)]
      · unfold Form.fewest; rw [k3, k1]; simp only [List.append_nil, List.length_nil, ht]; omega
      · unfold Form.greatest; rw [k3]; simp only [List.append_nil, List.length_nil, ht]; omega
      · intro _; unfold quietW; rw [k2]; rfl
    · have hdl : (rs.drop f.most).length = f.fields.length := by rw [List.length_drop]; omega
      have htl : (rs.take f.most).length = 1 := by rw [List.length_take]; omega
      obtain ⟨h1, h2⟩ := readFs_text _ _ _ _ hnd hfb hk hdl
      have hl2 : (rs.take f.most ++ f.fields.map (fun y => textF y c)).length = 1 + f.fields.length := by rw [List.length_append, htl, List.length_map]
      refine hmain (f.fields.map (fun y => textF y c)) (by unfold fieldsC; rw [if_pos (.inl k1)]) h1 ?_ ?_ ?_ ?_ h2 ?_
      · rw [List.take_append_of_le_length (by omega), List.take_of_length_le (by omega)]
      · rw [List.drop_append_of_le_length (by omega), List.drop_of_length_le (by omega), List.nil_append]
      · unfold Form.fewest; rw [hl2]; omega
      · unfold Form.greatest; rw [hl2]; omega
      · intro _; unfold quietW Form.fewest; rw [hl2, k1, k3]; simp
    · simp only [List.take_zero, List.drop_zero] at hk hmain
      have hrl : rs.length ≤ 1 := by simpa using hgr
      by_cases hz : c.exp = 0
      · refine hmain [] (by unfold fieldsC; rw [if_neg (by simp [hz])]) ?_ trivial rfl (by decide) (by decide) (by simp [tot]) (fun _ => by decide)
        match rs, hrl, hk with
        | [], _, hk => exact hk
        | [x], _, hk =>
          obtain ⟨e, he⟩ := ll_some (f := 2) (fs := []) (x := x) (xs := []) (by rw [hk])
          rw [ll_go he, ll_none] at hk
          have : e = c := by
            split at hk <;> exact (Prod.mk.inj hk).1
          subst this
          have hb : beginW ⟨11, 0, 0, [2], 1, true⟩ q [] = e := by
            unfold readF at he
            simp only [Nat.reduceEqDiff, if_false, if_true] at he
            split at he
            · injection he with he
              rw [← he] at hz ⊢
              simp only at hz
              rw [hz]; rfl
            · simp at he
          rw [ll_end, hb]
          exact hk
      · match rs, hrl, hk with
        | [], _, hk =>
          rw [ll_end] at hk
          exfalso
          split at hk <;> (injection hk with hk h2; first | (rw [← hk] at hz; exact hz rfl) | omega)
        | [x], _, hk =>
          obtain ⟨h1, h2⟩ := readFs_text _ _ _ _ hnd hfb hk rfl
          refine hmain _ (by unfold fieldsC; rw [if_pos (.inr hz)]) h1 trivial rfl (by simp [Form.fewest]) (by simp [Form.greatest]) h2 ?_
          intro _
          have := text_noblank 2 c
          unfold quietW
          have hne := norep_not this.2 this.1
          simp [hne]
/-- The line of a command that was read is its own words', which are read as the same one, and are no longer. -/
theorem own_line {l : List UInt8} {c : Cmd} (h : parseC l = (c, 0)) : ∃ s, lineO c = some s ∧ s.length ≤ l.length ∧ c.cverb = c.verb ∧ c.key = c.keys.headD [] ∧ c.keys.all okF = true ∧ c.keys.length ≤ 64 := by
  have hs : l.length ≤ 2048 := by
    unfold parseC at h
    split at h
    · simp at h
    · omega
  unfold parseC at h
  rw [if_neg (by omega)] at h
  have hfit := words_fit l []
  change (Lib.join (wordsF l) [32]).length ≤ _ at hfit
  generalize wordsF l = ws at h hfit
  unfold parseN at h
  split at h
  · simp at h
  next n ws =>
  split at h
  · simp at h
  next f hf =>
  have hm := formIn_in hf
  obtain ⟨k1, k2, k3, k4, k5⟩ := form_kind _ hm
  simp only at k1 k2 k3 k4 k5
  have h64 : f.most ≤ 64 := tbF_most _ hm
  have ho := own_of (n := n) h64 k1 k2 k3 h
  have hfa : formAt c.verb = some (n, f) := by
    rw [ho.verb]; exact (ll_format _ hm).1
  have e : wordsC n f c = n :: (c.keys ++ fieldsC f c ++ quietC c) := rfl
  have hw : ∀ x ∈ wordsC n f c, x ≠ [] ∧ ∀ b ∈ x, b ≠ 32 := by
    intro x hx
    rw [e] at hx
    rcases List.mem_cons.mp hx with rfl | hx
    · exact ⟨k4, k5⟩
    rcases List.mem_append.mp hx with hx | hx
    · rcases List.mem_append.mp hx with hx | hx
      · have := ll_facts (List.all_eq_true.mp ho.keys x hx)
        exact ⟨this.1, this.2.2⟩
      · unfold fieldsC at hx
        split at hx
        · obtain ⟨y, _, rfl⟩ := List.mem_map.mp hx
          have := text_noblank y c
          refine ⟨this.1, fun b hb => ?_⟩
          rintro rfl
          have := this.2 32 hb
          simp at this
        · simp at hx
    · unfold quietC at hx
      split at hx
      · rw [List.mem_singleton.mp hx]; exact ⟨by decide, by decide⟩
      · simp at hx
  have hl1 := join_tot n ws
  have hl2 := join_tot n (c.keys ++ fieldsC f c ++ quietC c)
  rw [← e] at hl2
  have hsh := ho.short
  have hlen : (Lib.join (wordsC n f c) [32]).length ≤ l.length := by
    simp only [e, tot] at hl1 hl2 ⊢
    simp at hfit
    omega
  refine ⟨Lib.join (wordsC n f c) [32], ?_, hlen, ho.cverb, ho.key, ho.keys, ho.many⟩
  unfold lineO
  rw [hfa]
  show lineW c (n, f) = _
  unfold lineW
  rw [if_pos]
  show parseC (Lib.join (wordsC n f c) [32]) = (c, 0)
  unfold parseC
  rw [if_neg (by omega), words_join _ hw, e]
  unfold parseN
  simp only
  rw [show formOf n = some f from hf]
  exact ho.back
end Go.Proofs.YtifbcejekdhnlaaDoor
/- Next: Lines: the text of a field. -/
namespace Go.Proofs.YtifbcejekdhnlaaDoor
open Go.RowKit Go.Maps
set_option linter.unusedVariables false

/-- Numbers in their ranges. -/
structure CmR (c : Cmd) : Prop where
  flags : 0 ≤ c.flags ∧ c.flags ≤ 4294967295
  exp : -9223372036854775808 ≤ c.exp ∧ c.exp ≤ 9223372036854775807
  bytes : -9223372036854775808 ≤ c.bytes ∧ c.bytes ≤ 9223372036854775807
  id : 0 ≤ c.id ∧ c.id ≤ 18446744073709551615
  by_ : 0 ≤ c.by_ ∧ c.by_ ≤ 18446744073709551615
theorem textn (n : Int) (h0 : 0 ≤ n) (h1 : n ≤ 18446744073709551615) (w : World) (htab : Lib.TabIs Tryd.prog w "internal/strconv.uint64pow10" .u64 Lib.pow10Tab) :
    Calls Tryd.prog 99 #[.int .u64 n] w fun e w' => e = .returned (.string ⟨(Lib.decDigits n.natAbs).toArray⟩) ∧ Below w.heap.size w w' := by
  have h := textw n.natAbs (by omega) w htab
  rwa [Int.natAbs_of_nonneg h0] at h
theorem rtextn (n : Int) (h0 : 0 ≤ n) (h1 : n ≤ 18446744073709551615) (w : World) :
    Calls Tryd.prog 73 #[.int .u64 n] w fun e w' => e = .returned (.string ⟨(Lib.decDigits n.natAbs).toArray⟩) ∧ w = w' := by
  have h := reftext n.natAbs (by omega) w
  rwa [Int.natAbs_of_nonneg h0] at h
theorem sgn_lt {n : Int} (h : n < 0) : (⟨#[45]⟩ : ByteArray) ++ ⟨(Lib.decDigits n.natAbs).toArray⟩ = ⟨(sgnL n).toArray⟩ := by
  unfold sgnL
  rw [if_pos h, cons_bytes]
theorem sgn_ge {n : Int} (h : ¬ n < 0) : sgnL n = Lib.decDigits n.natAbs := by
  unfold sgnL
  rw [if_neg h]
theorem dec_size {u : Nat} (h : u ≤ 18446744073709551615) : (⟨(Lib.decDigits u).toArray⟩ : ByteArray).size ≤ 20 := by
  have := (dec_len h).2
  show (Lib.decDigits u).toArray.size ≤ 20
  simpa using this
set_option maxHeartbeats 2000000 in
set_option maxRecDepth 100000 in
theorem lsgnw (n : Int) (h0 : -9223372036854775808 ≤ n) (h1 : n ≤ 9223372036854775807) (w : World) (htab : Lib.TabIs Tryd.prog w "internal/strconv.uint64pow10" .u64 Lib.pow10Tab) :
    Calls Tryd.prog 100 #[.int .i64 n] w fun e w' => e = .returned (.string ⟨(sgnL n).toArray⟩) ∧ Below w.heap.size w w' := by
  by_cases hn : n < 0
  · have hd : decide (n < 0) = true := decide_eq_true hn
    have ha : ((n.natAbs : Nat) : Int) = -n := by omega
    have hw1 : IntKind.u64.wrap n = n + 18446744073709551616 := by simp [IntKind.wrap, IntKind.bits, IntKind.signed]; omega
    have hw2 : IntKind.u64.wrap (-(n + 18446744073709551616)) = -n := by simp [IntKind.wrap, IntKind.bits, IntKind.signed]; omega
    have ht := textw n.natAbs (by omega) w htab
    rw [ha] at ht
    have e := sgn_lt hn
    have hs := dec_size (u := n.natAbs) (by omega)
    generalize (⟨(Lib.decDigits n.natAbs).toArray⟩ : ByteArray) = T at ht e hs
    go_enter Tryd.func100, Tryd.ntmps100
    go_wp2_with (go_at_call 99; refine ht.mono ?_; rintro e w' ⟨rfl, hb⟩)
    go_ret
    first | exact ⟨rfl, hb⟩ | exact ⟨ret_str e, hb⟩
  · have hd : decide (n < 0) = false := decide_eq_false hn
    have hw1 : IntKind.u64.wrap n = n := by simp [IntKind.wrap, IntKind.bits, IntKind.signed]; omega
    have ht := textn n (by omega) (by omega) w htab
    rw [sgn_ge hn]
    go_enter Tryd.func100, Tryd.ntmps100
    go_wp2_with (go_at_call 99; refine ht.mono ?_; rintro e w' ⟨rfl, hb⟩)
    go_ret
    exact ⟨rfl, hb⟩
set_option maxHeartbeats 2000000 in
set_option maxRecDepth 100000 in
theorem rlsgnw (n : Int) (h0 : -9223372036854775808 ≤ n) (h1 : n ≤ 9223372036854775807) (w : World) :
    Calls Tryd.prog 74 #[.int .i64 n] w fun e w' => e = .returned (.string ⟨(sgnL n).toArray⟩) ∧ w = w' := by
  by_cases hn : n < 0
  · have hd : decide (n < 0) = true := decide_eq_true hn
    have ha : ((n.natAbs : Nat) : Int) = -n := by omega
    have hw1 : IntKind.u64.wrap n = n + 18446744073709551616 := by simp [IntKind.wrap, IntKind.bits, IntKind.signed]; omega
    have hw2 : IntKind.u64.wrap (-(n + 18446744073709551616)) = -n := by simp [IntKind.wrap, IntKind.bits, IntKind.signed]; omega
    have ht := reftext n.natAbs (by omega) w
    rw [ha] at ht
    have e := sgn_lt hn
    have hs := dec_size (u := n.natAbs) (by omega)
    generalize (⟨(Lib.decDigits n.natAbs).toArray⟩ : ByteArray) = T at ht e hs
    go_enter Tryd.func74, Tryd.ntmps74
    go_wp2_with (go_at_call 73; refine ht.mono ?_; rintro e w' ⟨rfl, rfl⟩)
    go_ret
    first | exact ⟨rfl, rfl⟩ | exact ⟨ret_str e, rfl⟩
  · have hd : decide (n < 0) = false := decide_eq_false hn
    have hw1 : IntKind.u64.wrap n = n := by simp [IntKind.wrap, IntKind.bits, IntKind.signed]; omega
    have ht := rtextn n (by omega) (by omega) w
    rw [sgn_ge hn]
    go_enter Tryd.func74, Tryd.ntmps74
    go_wp2_with (go_at_call 73; refine ht.mono ?_; rintro e w' ⟨rfl, rfl⟩)
    go_ret
    exact ⟨rfl, rfl⟩
set_option maxHeartbeats 2000000 in
set_option maxRecDepth 100000 in
/-- The text of a field. -/
theorem ctextw (c : Cmd) (A : Option Addr) (n cap y : Nat) (hr : CmR c) (hy : 1 ≤ y ∧ y ≤ 5) (w : World) (htab : Lib.TabIs Tryd.prog w "internal/strconv.uint64pow10" .u64 Lib.pow10Tab) :
    Calls Tryd.prog 71 #[.agg #[.int .u8 c.verb, .slice A n cap, .int .u8 c.cverb, .string ⟨c.key.toArray⟩, .string ⟨c.value.toArray⟩, .int .u32 c.flags, .int .i64 c.exp, .int .u64 c.id, .int .u64 c.by_, .int .i64 c.bytes, .bool c.quiet], .int .u8 y] w fun e w' => e = .returned (.string ⟨(textF y c).toArray⟩) ∧ Below w.heap.size w w' := by
  obtain ⟨⟨r0, r1⟩, ⟨r2, r3⟩, ⟨r4, r5⟩, ⟨r6, r7⟩, r8, r9⟩ := hr
  have hb0 : Below w.heap.size w (w.alloc (.cells #[.int .u8 c.verb, .slice A n cap, .int .u8 c.cverb, .string ⟨c.key.toArray⟩, .string ⟨c.value.toArray⟩, .int .u32 c.flags, .int .i64 c.exp, .int .u64 c.id, .int .u64 c.by_, .int .i64 c.bytes, .bool c.quiet] 30)) := (Below.refl _ _).alloc (Nat.le_refl _) _
  have hC : Cb (w.alloc (.cells #[.int .u8 c.verb, .slice A n cap, .int .u8 c.cverb, .string ⟨c.key.toArray⟩, .string ⟨c.value.toArray⟩, .int .u32 c.flags, .int .i64 c.exp, .int .u64 c.id, .int .u64 c.by_, .int .i64 c.bytes, .bool c.quiet] 30)) w.heap.size (cmdC c (.slice A n cap)) := cb_new rfl
  have htab' := Lib.tabIs_alloc htab (.cells #[.int .u8 c.verb, .slice A n cap, .int .u8 c.cverb, .string ⟨c.key.toArray⟩, .string ⟨c.value.toArray⟩, .int .u32 c.flags, .int .i64 c.exp, .int .u64 c.id, .int .u64 c.by_, .int .i64 c.bytes, .bool c.quiet] 30)
  have hwf : IntKind.u64.wrap c.flags = c.flags := by simp [IntKind.wrap, IntKind.bits, IntKind.signed]; omega
  obtain ⟨x0, x1, x2, x3, x4, x5, x6, x7, x8, x9, x10⟩ := cb_cells hC
  clear hC
  obtain rfl | rfl | rfl | rfl | rfl : y = 1 ∨ y = 2 ∨ y = 3 ∨ y = 4 ∨ y = 5 := by omega
  all_goals
    go_enter Tryd.func71, Tryd.ntmps71
    go_upto_region 1 with fail
    generalize w.alloc _ = X at *
  · go_wp2_with (go_at_call 99; go_loud (refine (textn c.flags r0 (by omega) X htab').mono ?_; rintro e w' ⟨rfl, hb⟩))
    go_ret
    exact ⟨rfl, hb0.trans (hb.mono hb0.size)⟩
  · go_wp2_with (go_at_call 100; refine (lsgnw c.exp r2 r3 X htab').mono ?_; rintro e w' ⟨rfl, hb⟩)
    go_ret
    exact ⟨rfl, hb0.trans (hb.mono hb0.size)⟩
  · go_wp2_with (go_at_call 100; refine (lsgnw c.bytes r4 r5 X htab').mono ?_; rintro e w' ⟨rfl, hb⟩)
    go_ret
    exact ⟨rfl, hb0.trans (hb.mono hb0.size)⟩
  · go_wp2_with (go_at_call 99; refine (textn c.id r6 r7 X htab').mono ?_; rintro e w' ⟨rfl, hb⟩)
    go_ret
    exact ⟨rfl, hb0.trans (hb.mono hb0.size)⟩
  · go_wp2_with (go_at_call 99; refine (textn c.by_ r8 r9 X htab').mono ?_; rintro e w' ⟨rfl, hb⟩)
    go_ret
    exact ⟨rfl, hb0.trans (hb.mono hb0.size)⟩
end Go.Proofs.YtifbcejekdhnlaaDoor
/- Next: Lines: are keys the same, whatever they are; are commands? -/
namespace Go.Proofs.YtifbcejekdhnlaaDoor
open Go.RowKit Go.Maps
set_option linter.unusedVariables false

/-- Keys that can be read, wherever they begin. -/
structure KyG (W : World) (A : Option Addr) (n cap : Nat) (l : List (List UInt8)) : Prop where
  len : l.length = n
  cap : 0 < n → n ≤ cap
  at_ : ∃ g o : Nat, (0 < n → A = some ⟨g, o, none⟩) ∧ ∀ k x, l[k]? = some x → g < W.heap.size ∧ W.cell? ⟨g, o + k, none⟩ = some (.string ⟨x.toArray⟩)
theorem KyG.on {W W' : World} {A : Option Addr} {n cap : Nat} {l : List (List UInt8)} (h : KyG W A n cap l) (hb : Below W.heap.size W W') : KyG W' A n cap l := by
  obtain ⟨g, o, h1, h2⟩ := h.at_
  refine ⟨h.len, h.cap, g, o, h1, fun k x hk => ?_⟩
  obtain ⟨h3, h4⟩ := h2 k x hk
  exact ⟨Nat.lt_of_lt_of_le h3 hb.size, (hb.cell (p := ⟨g, o + k, none⟩) h3).trans h4⟩
theorem KyG.of {W : World} {A : Option Addr} {n c : Nat} {l : List (List UInt8)} (h : KyR W (.slice A n c) l) : KyG W A n c l := by
  obtain ⟨A', c', e, h1, h2, h3⟩ := h.form
  injection e with e1 e2 e3
  subst e1; subst e2; subst e3
  refine ⟨rfl, fun _ => h1, ?_⟩
  by_cases h0 : 0 < l.length
  · obtain ⟨g, hg, -, -⟩ := h3 0 l[0] (by rw [List.getElem?_eq_getElem h0])
    refine ⟨g, 0, fun _ => hg, fun k x hk => ?_⟩
    obtain ⟨g', hg', h4, h5⟩ := h3 k x hk
    rw [hg] at hg'
    injection hg' with hg'; injection hg' with hg'
    subst hg'
    rw [Nat.zero_add]
    exact ⟨h4, h5⟩
  · exact ⟨0, 0, fun h => absurd h h0, fun k x hk => by
      have := (List.getElem?_eq_some_iff.mp hk).1
      omega⟩
theorem bs_eq {x y : List UInt8} : ((⟨x.toArray⟩ : ByteArray) = ⟨y.toArray⟩) ↔ x = y := by
  constructor
  · intro h
    have := congrArg (fun b : ByteArray => b.data.toList) h
    simpa using this
  · rintro rfl; rfl
theorem take_next {l : List (List UInt8)} {k : Nat} {x : List UInt8} (h : l[k]? = some x) : l.take (k + 1) = l.take k ++ [x] := by
  rw [List.take_add_one, h]; rfl
set_option maxHeartbeats 2000000 in
set_option maxRecDepth 100000 in
theorem equalG (l1 l2 : List (List UInt8)) (A1 A2 : Option Addr) (n1 n2 c1 c2 : Nat) (w : World) (h1 : KyG w A1 n1 c1 l1) (h2 : KyG w A2 n2 c2 l2) (hn : n1 ≤ maxLen) (hn2 : n2 ≤ maxLen) :
    Calls Tryd.prog 72 #[.slice A1 n1 c1, .slice A2 n2 c2] w fun r w' => r = .returned (.bool (decide (l1 = l2))) ∧ Below w.heap.size w w' := by
  unfold maxLen at hn hn2
  obtain ⟨g1, o1, f1, r1⟩ := h1.at_
  obtain ⟨g2, o2, f2, r2⟩ := h2.at_
  have hl1 := h1.len
  have hl2 := h2.len
  have hc1 := h1.cap
  have hc2 := h2.cap
  clear h1 h2
  by_cases hnn : n1 = n2
  · subst hnn
    have HN1 := Lib.hid hl1
    have HN2 := Lib.hid hl2
    have R1 := Lib.hid r1
    have R2 := Lib.hid r2
    have F1 := Lib.hid (And.intro f1 (And.intro f2 (And.intro hc1 hc2)))
    clear r1 r2 hl1 hl2 f1 f2 hc1 hc2
    go_enter Tryd.func72, Tryd.ntmps72
    go_wp2_with fail
    go_loopw [13] (fun i wr => ∃ k : Nat, k ≤ n1 ∧ i = .int .i64 k ∧ Hid (l1.take k = l2.take k) ∧ Below w.heap.size w wr) (fun i _ => n1 - (intOf i).toNat)
    case atStart => exact ⟨0, by omega, rfl, Lib.hid rfl, Below.refl _ _⟩
    case round =>
      obtain ⟨k, hk, rfl, hT, hnx⟩ := hrel
      by_cases hlt : k < n1
      · obtain ⟨x, hx⟩ : ∃ x, l1[k]? = some x := ⟨_, List.getElem?_eq_getElem (by have := HN1.out; omega)⟩
        obtain ⟨y, hy⟩ : ∃ y, l2[k]? = some y := ⟨_, List.getElem?_eq_getElem (by have := HN2.out; omega)⟩
        obtain ⟨q1, a1⟩ := R1.out k x hx
        obtain ⟨q2, a2⟩ := R2.out k y hy
        have b1 := (hnx.cell (p := ⟨g1, o1 + k, none⟩) q1).trans a1
        have b2 := (hnx.cell (p := ⟨g2, o2 + k, none⟩) q2).trans a2
        obtain ⟨rfl, rfl, hc1, hc2⟩ : A1 = some ⟨g1, o1, none⟩ ∧ A2 = some ⟨g2, o2, none⟩ ∧ n1 ≤ c1 ∧ n1 ≤ c2 := ⟨F1.out.1 (by omega), F1.out.2.1 (by omega), F1.out.2.2.1 (by omega), F1.out.2.2.2 (by omega)⟩
        have tx := Lib.hid (take_next hx)
        have ty := Lib.hid (take_next hy)
        have HX := Lib.hid (And.intro hx hy)
        clear a1 a2 q1 q2 hx hy
        by_cases hxy : x = y
        · subst hxy
          go_wp2_with fail
          go_quiet (fail)
          go_wp2
          go_roundw
          case rel => exact ⟨k + 1, by omega, by go_num, Lib.hid (by rw [tx.out, ty.out, hT.out]), belowNf hnx _⟩
          case measure => simp [intOf]; omega
        · have hne : (x == y) = false := beq_eq_false_iff_ne.mpr hxy
          have hres : ¬ l1 = l2 := by
            rintro rfl
            have e1 := HX.out.1
            rw [HX.out.2] at e1
            injection e1 with e1
            exact hxy e1.symm
          go_wp2_with fail
          go_quiet (fail)
          go_wp2
          go_ret
          exact ⟨by rw [decide_eq_false hres]; rfl, belowNf hnx _⟩
      · have hd : decide ((k : Int) < (n1 : Int)) = false := decide_eq_false (by omega)
        have hkn : k = n1 := by omega
        go_wp2_with fail
        go_ret
        refine ⟨?_, hnx⟩
        have := hT.out
        rw [List.take_of_length_le (by have := HN1.out; omega), List.take_of_length_le (by have := HN2.out; omega)] at this
        rw [decide_eq_true this]; rfl
  · have hd : ((n1 : Int) == (n2 : Int)) = false := beq_eq_false_iff_ne.mpr (by omega)
    have hd2 : ¬ ((n1 : Int) = (n2 : Int)) := by omega
    have hres : ¬ l1 = l2 := by
      rintro rfl
      exact hnn (hl1.symm.trans hl2)
    go_enter Tryd.func72, Tryd.ntmps72
    go_wp2_with fail
    go_ret
    exact ⟨by rw [decide_eq_false hres]; rfl, Below.refl _ _⟩
end Go.Proofs.YtifbcejekdhnlaaDoor
/- Next: Lines: are commands the same, whatever they are? -/
namespace Go.Proofs.YtifbcejekdhnlaaDoor
open Go.RowKit Go.Maps
set_option linter.unusedVariables false

theorem cmd_ne {c d : Cmd} (h : ¬ (c.verb = d.verb ∧ c.keys = d.keys ∧ c.cverb = d.cverb ∧ c.key = d.key ∧ c.value = d.value ∧ c.flags = d.flags ∧ c.exp = d.exp ∧ c.id = d.id ∧ c.by_ = d.by_ ∧ c.bytes = d.bytes ∧ c.quiet = d.quiet)) : decide (c = d) = false :=
  decide_eq_false (by rintro rfl; exact h ⟨rfl, rfl, rfl, rfl, rfl, rfl, rfl, rfl, rfl, rfl, rfl⟩)
set_option maxHeartbeats 4000000 in
set_option maxRecDepth 100000 in
theorem sameG (c d : Cmd) (A1 A2 : Option Addr) (n1 n2 c1 c2 : Nat) (w : World) (h1 : KyG w A1 n1 c1 c.keys) (h2 : KyG w A2 n2 c2 d.keys) (hn : n1 ≤ maxLen) (hn2 : n2 ≤ maxLen) :
    Calls Tryd.prog 45 #[.agg (cmdC c (.slice A1 n1 c1)).toArray, .agg (cmdC d (.slice A2 n2 c2)).toArray] w fun r w' => r = .returned (.bool (decide (c = d))) ∧ Below w.heap.size w w' := by
  obtain ⟨vb, ks, cv, ky, vl, fl, ex, id, by_, bt, qt⟩ := c
  obtain ⟨vd, kt, dv, kd, wl, gl, fx, jd, cy_, ct, rt⟩ := d
  simp only at h1 h2
  simp only [cmdC]
  have hb1 : Below w.heap.size w (w.alloc (.cells #[.int .u8 vb, .slice A1 n1 c1, .int .u8 cv, .string ⟨ky.toArray⟩, .string ⟨vl.toArray⟩, .int .u32 fl, .int .i64 ex, .int .u64 id, .int .u64 by_, .int .i64 bt, .bool qt] 30)) := (Below.refl _ _).alloc (Nat.le_refl _) _
  have hC1 : Cb (w.alloc (.cells #[.int .u8 vb, .slice A1 n1 c1, .int .u8 cv, .string ⟨ky.toArray⟩, .string ⟨vl.toArray⟩, .int .u32 fl, .int .i64 ex, .int .u64 id, .int .u64 by_, .int .i64 bt, .bool qt] 30)) w.heap.size (cmdC ⟨vb, ks, cv, ky, vl, fl, ex, id, by_, bt, qt⟩ (.slice A1 n1 c1)) := cb_new rfl
  have hs1 : (w.alloc (.cells #[.int .u8 vb, .slice A1 n1 c1, .int .u8 cv, .string ⟨ky.toArray⟩, .string ⟨vl.toArray⟩, .int .u32 fl, .int .i64 ex, .int .u64 id, .int .u64 by_, .int .i64 bt, .bool qt] 30)).heap.size = w.heap.size + 1 := by simp
  go_enter Tryd.func45, Tryd.ntmps45
  go_upto_region 1 with fail
  generalize w.alloc _ = X at *
  have hb2 : Below X.heap.size X (X.alloc (.cells #[.int .u8 vd, .slice A2 n2 c2, .int .u8 dv, .string ⟨kd.toArray⟩, .string ⟨wl.toArray⟩, .int .u32 gl, .int .i64 fx, .int .u64 jd, .int .u64 cy_, .int .i64 ct, .bool rt] 30)) := (Below.refl _ _).alloc (Nat.le_refl _) _
  have hC2 : Cb (X.alloc (.cells #[.int .u8 vd, .slice A2 n2 c2, .int .u8 dv, .string ⟨kd.toArray⟩, .string ⟨wl.toArray⟩, .int .u32 gl, .int .i64 fx, .int .u64 jd, .int .u64 cy_, .int .i64 ct, .bool rt] 30)) X.heap.size (cmdC ⟨vd, kt, dv, kd, wl, gl, fx, jd, cy_, ct, rt⟩ (.slice A2 n2 c2)) := cb_new rfl
  generalize X.alloc _ = Y at *
  have HB2 := Lib.hid (hb1.trans (hb2.mono (by omega)))
  have HEQ := Lib.hid (equalG ks kt A1 A2 n1 n2 c1 c2 Y ((h1.on hb1).on hb2) ((h2.on hb1).on hb2) hn hn2)
  have HC1 := Lib.hid (hC1.new hb2)
  have HC2 := Lib.hid hC2
  rw [hs1] at HC2
  obtain ⟨x0, x1, x2, x3, x4, x5, x6, x7, x8, x9, x10⟩ := cb_cells (hC1.new hb2)
  obtain ⟨y0, y1, y2, y3, y4, y5, y6, y7, y8, y9, y10⟩ := cb_cells hC2
  simp only at x0 x1 x2 x3 x4 x5 x6 x7 x8 x9 x10 y0 y1 y2 y3 y4 y5 y6 y7 y8 y9 y10
  simp only [hs1] at y0 y1 y2 y3 y4 y5 y6 y7 y8 y9 y10 ⊢
  have H12 := Lib.hid (And.intro h1 h2)
  clear h1 h2 hb1 hb2 hC1 hC2 hs1
  by_cases hv : vb = vd
  · subst hv
    by_cases hk : ks = kt
    · subst hk
      rw [decide_eq_true rfl] at HEQ
      go_wp2_with (go_at_call 72; refine HEQ.out.mono ?_; rintro e w2 ⟨rfl, hb2⟩; obtain ⟨x0, x1, x2, x3, x4, x5, x6, x7, x8, x9, x10⟩ := cb_cells (HC1.out.new hb2); obtain ⟨y0, y1, y2, y3, y4, y5, y6, y7, y8, y9, y10⟩ := cb_cells (HC2.out.new hb2); simp only at x0 x1 x2 x3 x4 x5 x6 x7 x8 x9 x10 y0 y1 y2 y3 y4 y5 y6 y7 y8 y9 y10)
      all_goals
        go_ret
        refine ⟨?_, HB2.out.trans (hb2.mono HB2.out.size)⟩
        clear HB2 HC1 HC2 HEQ H12 hb2 x0 x1 x2 x3 x4 x5 x6 x7 x8 x9 x10 y0 y1 y2 y3 y4 y5 y6 y7 y8 y9 y10
        first
          | (rw [cmd_ne (by intro h; obtain ⟨e1, e2, e3, e4, e5, e6, e7, e8, e9, e10, e11⟩ := h; simp only at e3 e4 e5 e6 e7 e8 e9 e10; subst e3; subst e4; subst e5; subst e6; subst e7; subst e8; subst e9; subst e10; contradiction)]; rfl)
          | (obtain rfl : cv = dv := by omega
             subst_vars
             cases qt <;> cases rt
             all_goals first
               | (rw [decide_eq_true rfl]; rfl)
               | (rw [cmd_ne (by intro h; obtain ⟨e1, e2, e3, e4, e5, e6, e7, e8, e9, e10, e11⟩ := h; exact Bool.noConfusion e11)]; rfl))
    · rw [decide_eq_false hk] at HEQ
      go_wp2_with (go_at_call 72; refine HEQ.out.mono ?_; rintro e w2 ⟨rfl, hb2⟩)
      go_ret
      refine ⟨?_, HB2.out.trans (hb2.mono HB2.out.size)⟩
      rw [cmd_ne (fun h => hk h.2.1)]; rfl
  · have hv' : ((vb : Int) == (vd : Int)) = false := beq_eq_false_iff_ne.mpr (by omega)
    go_wp2_with fail
    go_ret
    refine ⟨?_, HB2.out⟩
    rw [cmd_ne (fun h => hv h.1)]; rfl
end Go.Proofs.YtifbcejekdhnlaaDoor
/- Next: Lines: the words of whatever command. Printed by tools/genll6.py. -/
namespace Go.Proofs.YtifbcejekdhnlaaDoor
open Go.RowKit Go.Maps
set_option linter.unusedVariables false

theorem ll_tab {P : Program} {w w' : World} {name : String} {k : IntKind} {zs : List Int} (h : Lib.TabIs P w name k zs) (hb : Below w.heap.size w w') : Lib.TabIs P w' name k zs := by
  unfold Lib.TabIs World.var? at *
  cases hg : P.globalNamed name with
  | none => simp [hg] at h
  | some g =>
    simp only [hg, Option.bind_some] at h ⊢
    have hlt : g < w.heap.size := by
      rcases Nat.lt_or_ge g w.heap.size with h' | h'
      · exact h'
      · rw [Array.getElem?_eq_none h'] at h; simp at h
    rw [hb.block g hlt]
    exact h
/-- A row of strings that is one's own. -/
def RowW (W : World) (B : Nat) (g cap : Nat) (L : List (List UInt8)) : Prop :=
  L.length ≤ cap ∧ W.ownsRow B 9 1 (.slice (some ⟨g, 0, none⟩) L.length cap) L.length (L.map fun x => .string ⟨x.toArray⟩)
theorem RowW.of {W : World} {B N : Nat} {v : Value} {L : List (List UInt8)} (h : W.ownsRow B 9 1 v N (L.map fun x => .string ⟨x.toArray⟩)) (hl : L.length = N) (h0 : 0 < N) : ∃ g cap, v = .slice (some ⟨g, 0, none⟩) L.length cap ∧ RowW W B g cap L := by
  obtain ⟨g, cap, rfl, h2, h3, h4, h5⟩ := row_at h h0 hl
  subst hl
  exact ⟨g, cap, rfl, h2, h⟩
theorem RowW.on {W W' : World} {B g cap : Nat} {L : List (List UInt8)} (h : RowW W B g cap L) (hb : Below W.heap.size W W') : RowW W' B g cap L := ⟨h.1, Keeps.ownsRow (S := fun _ => False) h.2 (Keeps.of_new hb) (fun _ _ e => e)⟩
theorem RowW.snoc {W : World} {B : Nat} {v : Value} {L : List (List UInt8)} {x : List UInt8} (h : W.ownsRow B 9 1 v (L.length + 1) ((L.map fun x => .string ⟨x.toArray⟩) ++ [.string ⟨x.toArray⟩])) : ∃ g cap, v = .slice (some ⟨g, 0, none⟩) (L ++ [x]).length cap ∧ RowW W B g cap (L ++ [x]) := by
  have e : ((L.map fun x => .string ⟨x.toArray⟩) ++ [.string ⟨x.toArray⟩] : List Value) = (L ++ [x]).map fun x => .string ⟨x.toArray⟩ := by rw [List.map_append]; rfl
  rw [e] at h
  exact RowW.of h (by simp) (by omega)
theorem RowW.ge {W : World} {B g cap : Nat} {L : List (List UInt8)} (h : RowW W B g cap L) : B ≤ g ∧ g < W.heap.size := h.2.lt g rfl
theorem RowW.read {W : World} {B g cap : Nat} {L : List (List UInt8)} (h : RowW W B g cap L) : ∀ k x, L[k]? = some x → W.cell? ⟨g, 0 + k, none⟩ = some (.string ⟨x.toArray⟩) := by
  intro k x hk
  have q := h.2.cells (g := g) rfl k (.string ⟨x.toArray⟩) (by rw [List.getElem?_map, hk]; rfl)
  rw [Addr.add_lit] at q
  exact q
theorem below_snoc {B g cap : Nat} {X W Z : World} {OB : Obj} {L : List (List UInt8)} (hb : Below B X W) (hB : B ≤ X.heap.size) (hr : RowW W B g cap L) (hgr : (W.alloc OB).grownBy Z (Value.ownBlock (.slice (some ⟨g, 0, none⟩) L.length cap))) : Below B X Z := by
  have h1 := hb.size
  have h2 := hr.ge
  exact (hb.alloc (by omega) OB).grown hgr (by simp; omega) (fun j e => by simp [Value.ownBlock] at e; omega)
/-- What has been taken of the fields' texts. -/
def took (f : Form) (c : Cmd) (k : Nat) : List (List UInt8) := if f.spare = 0 ∨ c.exp ≠ 0 then (f.fields.take k).map (fun x => textF x c) else []
theorem took_zero (f : Form) (c : Cmd) : took f c 0 = [] := by unfold took; simp
theorem took_all {f : Form} {c : Cmd} {k : Nat} (h : f.fields.length ≤ k) : took f c k = fieldsC f c := by unfold took fieldsC; rw [List.take_of_length_le h]
theorem took_le (f : Form) (c : Cmd) (k : Nat) : (took f c k).length ≤ k := by unfold took; split <;> simp; omega
theorem took_more {f : Form} {c : Cmd} {k : Nat} (hk : k < f.fields.length) (h : f.spare = 0 ∨ c.exp ≠ 0) : took f c (k + 1) = took f c k ++ [textF (f.fld k) c] := by
  unfold took
  have e : f.fields.take (k + 1) = f.fields.take k ++ [f.fields[k]] := by rw [List.take_add_one, List.getElem?_eq_getElem hk]; rfl
  have e2 : f.fld k = f.fields[k] := by
    unfold Form.fld
    rw [List.getD_eq_getElem?_getD, List.getElem?_eq_getElem hk]; rfl
  rw [if_pos h, if_pos h, e, List.map_append, e2]; rfl
theorem took_not {f : Form} {c : Cmd} {k : Nat} (h : ¬ (f.spare = 0 ∨ c.exp ≠ 0)) : took f c k = [] := by unfold took; rw [if_neg h]
/-- What its words are, as it is called. -/
def WordsPost (w : World) (name : List UInt8) (f : Form) (c : Cmd) (e : Ending) (w' : World) : Prop :=
  ∃ g cap, e = .returned (.slice (some ⟨g, 0, none⟩) (wordsC name f c).length cap) ∧ (wordsC name f c).length ≤ cap ∧ g < w'.heap.size ∧ (∀ k x, (wordsC name f c)[k]? = some x → w'.cell? ⟨g, 0 + k, none⟩ = some (.string ⟨x.toArray⟩)) ∧ Below w.heap.size w w'
theorem words_post {w W : World} {name : List UInt8} {f : Form} {c : Cmd} {B g cp N : Nat} {RL : List (List UInt8)} (hw : wordsC name f c = RL) (hN : RL.length = N) (hr : RowW W B g cp RL) (hb : Below w.heap.size w W) : WordsPost w name f c (.returned (.slice (some ⟨g, 0, none⟩) N cp)) W := by
  subst hw
  subst hN
  exact ⟨g, cp, rfl, hr.1, hr.ge.2, hr.read, hb⟩
theorem one_cell {W : World} {v : Value} {e : TypeId} : ∀ j u, [v][j]? = some u → (W.alloc (.cells #[v] e)).cell? ((⟨W.heap.size, 0, none⟩ : Addr).add j) = some u := one_at
set_option maxHeartbeats 8000000 in
set_option maxRecDepth 100000 in
theorem cwordsw (c : Cmd) (A : Option Addr) (n cap : Nat) (name : List UInt8) (f : Form) (w : World) (hf : FormOk f) (hr : CmR c) (hk : KyG w A n cap c.keys) (hn : n ≤ 1000) (htab : Lib.TabIs Tryd.prog w "internal/strconv.uint64pow10" .u64 Lib.pow10Tab) :
    Calls Tryd.prog 44 #[.agg (cmdC c (.slice A n cap)).toArray, .string ⟨name.toArray⟩, .agg (formC f).toArray] w (WordsPost w name f c) := by
  obtain ⟨vb, ks, cv, ky, vl, fl, ex, id, by_, bt, qt⟩ := c
  simp only at hk
  simp only [cmdC, formC]
  have hCt : ∀ W, Calls Tryd.prog 64 #[.agg #[.int .u8 f.verb, .int .i64 f.least, .int .i64 f.most, .int .u8 (f.fld 0 : Nat), .int .u8 (f.fld 1 : Nat), .int .u8 (f.fld 2 : Nat), .int .u8 (f.fld 3 : Nat), .int .i64 f.spare, .bool f.quiet]] W fun e w' => e = .returned (.int .i64 (f.fields.length : Nat)) ∧ Below W.heap.size W w' := fun W => countw f W hf
  have HCt := Lib.hid hCt
  have hcl := hf.len
  have HPos := Lib.hid (fun k (hk : k < f.fields.length) => getD_pos hf hk)
  have hb1 : Below w.heap.size w (w.alloc (.cells #[.int .u8 vb, .slice A n cap, .int .u8 cv, .string ⟨ky.toArray⟩, .string ⟨vl.toArray⟩, .int .u32 fl, .int .i64 ex, .int .u64 id, .int .u64 by_, .int .i64 bt, .bool qt] 30)) := (Below.refl _ _).alloc (Nat.le_refl _) _
  have hC1 : Cb (w.alloc (.cells #[.int .u8 vb, .slice A n cap, .int .u8 cv, .string ⟨ky.toArray⟩, .string ⟨vl.toArray⟩, .int .u32 fl, .int .i64 ex, .int .u64 id, .int .u64 by_, .int .i64 bt, .bool qt] 30)) w.heap.size (cmdC ⟨vb, ks, cv, ky, vl, fl, ex, id, by_, bt, qt⟩ (.slice A n cap)) := cb_new rfl
  have hz1 : (w.alloc (.cells #[.int .u8 vb, .slice A n cap, .int .u8 cv, .string ⟨ky.toArray⟩, .string ⟨vl.toArray⟩, .int .u32 fl, .int .i64 ex, .int .u64 id, .int .u64 by_, .int .i64 bt, .bool qt] 30)).heap.size = w.heap.size + 1 := by simp
  go_enter Tryd.func44, Tryd.ntmps44
  obtain ⟨i0, hinfo, hzi0, hzi1, hzi2⟩ := info_parts info_string
  go_upto_region 1 with fail
  generalize w.alloc _ = X1 at *
  have hb2 : Below X1.heap.size X1 (X1.alloc (.cells #[.int .u8 f.verb, .int .i64 f.least, .int .i64 f.most, .int .u8 (f.fld 0 : Nat), .int .u8 (f.fld 1 : Nat), .int .u8 (f.fld 2 : Nat), .int .u8 (f.fld 3 : Nat), .int .i64 f.spare, .bool f.quiet] 74)) := (Below.refl _ _).alloc (Nat.le_refl _) _
  have hF2 : Cb (X1.alloc (.cells #[.int .u8 f.verb, .int .i64 f.least, .int .i64 f.most, .int .u8 (f.fld 0 : Nat), .int .u8 (f.fld 1 : Nat), .int .u8 (f.fld 2 : Nat), .int .u8 (f.fld 3 : Nat), .int .i64 f.spare, .bool f.quiet] 74)) X1.heap.size (formC f) := cb_new rfl
  have hz2 : (X1.alloc (.cells #[.int .u8 f.verb, .int .i64 f.least, .int .i64 f.most, .int .u8 (f.fld 0 : Nat), .int .u8 (f.fld 1 : Nat), .int .u8 (f.fld 2 : Nat), .int .u8 (f.fld 3 : Nat), .int .i64 f.spare, .bool f.quiet] 74)).heap.size = X1.heap.size + 1 := by simp
  generalize X1.alloc _ = X2 at *
  have HC2 := Lib.hid (hC1.new hb2)
  have HF2 := Lib.hid hF2
  rw [hz1] at HF2
  have HK2 := Lib.hid ((hk.on hb1).on hb2)
  have HB2 := Lib.hid (hb1.trans (hb2.mono (by omega)))
  obtain ⟨B, hB⟩ : ∃ B, X2.heap.size = B := ⟨_, rfl⟩
  have hBw := Lib.hid (show B = w.heap.size + 2 by omega)
  have HOL := Lib.hid (show (X2.alloc (.cells #[.string ⟨name.toArray⟩] 9)).ownsRow B 9 1 (.slice (some ⟨B, 0, none⟩) 1 1) 1 [.string ⟨name.toArray⟩] from by rw [← hB]; exact own_lit1 (Nat.le_refl _))
  have HT := Lib.hid (ll_tab htab HB2.out)
  have HR := Lib.hid hr
  have x1 : (X2.alloc (.cells #[.string ⟨name.toArray⟩] 9)).cell? ⟨w.heap.size, 1, none⟩ = some (.slice A n cap) := (HC2.out.new ((Below.refl _ _).alloc (Nat.le_refl _) _)).at_ 1 _ rfl
  have hlt0 : w.heap.size < B := by have := hBw.out; omega
  have hlt1 : ¬ w.heap.size = B := by omega
  have hkl := hk.len
  clear hb1 hb2 hC1 hF2 hCt hf hk htab hr hz1 hz2
  obtain ⟨m, hm⟩ : ∃ m : Nat, f.fields.length = m := ⟨_, rfl⟩
  have HM := Lib.hid hm
  rw [hm] at hcl HCt
  clear hm
  have hsa : ∀ W, (Instr.sliceAt 72 (.pointer (some ⟨w.heap.size + 1, 3, none⟩)) none (some (.int .i64 (m : Int))) none).run Tryd.prog W = .ok (.slice (some ⟨w.heap.size + 1, 3, none⟩) m 4) W := fun W => by
    have hal : Tryd.prog.arrayLen 72 = 4 := by kernel_rfl
    rw [run_sliceAt_array_h W 72 ⟨w.heap.size + 1, 3, none⟩ (by kernel_rfl) .i64 (m : Int) (by omega) (by rw [hal]; omega)]
    go_simp
  by_cases hn0 : n = 0
  · subst hn0
    have hks : ks = [] := List.eq_nil_of_length_eq_zero hkl
    subst hks
    go_upto_region 2 with (at_builtin; go_loud (refine wpList_append_zero _ rfl (.tmp 11) (.tmp 13) 24 rfl 9 i0 Tryd.underlying24 hinfo ⟨B, 0, none⟩ 1 1 cap A (Nat.le_refl _) rfl rfl ?_))
    have HRW := Lib.hid (show RowW (X2.alloc (.cells #[.string ⟨name.toArray⟩] 9)) B B 1 [name] from ⟨Nat.le_refl _, HOL.out⟩)
    have HB3 := Lib.hid (show Below X2.heap.size X2 (X2.alloc (.cells #[.string ⟨name.toArray⟩] 9)) from (Below.refl _ _).alloc (Nat.le_refl _) _)
    generalize X2.alloc _ = Z at HRW HB3 ⊢
    skip
    have HCZ := Lib.hid (HC2.out.new HB3.out)
    have HFZ := Lib.hid (HF2.out.new HB3.out)
    obtain ⟨⟨j0, j1, j2, j3, j4, j5, j6, j7, j8⟩, -⟩ := ff_cells HFZ.out
    have hsl := Lib.hid (show Z.heap.size > w.heap.size + 1 by have := HB3.out.size; have := hBw.out; omega)
    go_upto_region 3 with (go_at_call 64; go_loud (refine (HCt.out Z).mono ?_; rintro e X4 ⟨rfl, hb4⟩))
    have HB4 := Lib.hid (show Below B X2 X4 from by rw [← hB]; exact HB3.out.trans (hb4.mono HB3.out.size))
    have HR4 := Lib.hid (HRW.out.on hb4)
    clear hb4 j0 j1 j2 j3 j4 j5 j6 j7 j8 HCZ HFZ hsl x1 hsa HRW HB3
    obtain ⟨L, hL⟩ : ∃ L, L = name :: [] := ⟨_, rfl⟩
    have HL := Lib.hid hL
    clear hL
    have hLl : L.length = 1 := by rw [HL.out, List.length_cons]; simp [hkl]
    go_loopw [7, 9, 20] (fun ws xv iv wr => ∃ (k g cp : Nat), k ≤ m ∧ iv = .int .i64 k ∧ ws = .slice (some ⟨g, 0, none⟩) (L ++ took f ⟨vb, [], cv, ky, vl, fl, ex, id, by_, bt, qt⟩ k).length cp ∧ Hid (RowW wr B g cp (L ++ took f ⟨vb, [], cv, ky, vl, fl, ex, id, by_, bt, qt⟩ k)) ∧ Hid (Below B X2 wr)) (fun _ _ iv _ => m - (intOf iv).toNat)
    case atStart => exact ⟨0, B, 1, by omega, rfl, by rw [took_zero, List.append_nil, hLl], Lib.hid (by rw [took_zero, List.append_nil, HL.out]; exact HR4.out), HB4⟩
    case round =>
      obtain ⟨k, g2, cp, hk, rfl, rfl, hrow, hnx⟩ := hrel
      have hnb : Below X2.heap.size X2 wr := by rw [hB]; exact hnx.out
      have HCW := Lib.hid (HC2.out.new hnb)
      have HFW := Lib.hid (HF2.out.new hnb)
      have hqq := HCW.out.at_ 10 _ rfl
      have hlen : (L ++ took f ⟨vb, [], cv, ky, vl, fl, ex, id, by_, bt, qt⟩ k).length ≤ 2000 := by rw [List.length_append, hLl]; have := took_le f ⟨vb, [], cv, ky, vl, fl, ex, id, by_, bt, qt⟩ k; omega
      by_cases hlt : k < m
      · have hfc : wr.cell? ⟨w.heap.size + 1, 3 + k, none⟩ = some (.int .u8 (f.fld k : Nat)) := by
          obtain rfl | rfl | rfl | rfl : k = 0 ∨ k = 1 ∨ k = 2 ∨ k = 3 := by omega
          all_goals exact HFW.out.at_ _ _ rfl
        have hsp : wr.cell? ⟨w.heap.size + 1, 7, none⟩ = some (.int .i64 (f.spare : Nat)) := HFW.out.at_ 7 _ rfl
        have hep : wr.cell? ⟨w.heap.size, 6, none⟩ = some (.int .i64 ex) := HCW.out.at_ 6 _ rfl
        obtain ⟨cc0, cc1, cc2, cc3, cc4, cc5, cc6, cc7, cc8, cc9, cc10⟩ := cb_cells HCW.out
        simp only at cc0 cc1 cc2 cc3 cc4 cc5 cc6 cc7 cc8 cc9 cc10
        have HTX := Lib.hid (ctextw ⟨vb, [], cv, ky, vl, fl, ex, id, by_, bt, qt⟩ A 0 cap (f.fld k) HR.out (HPos.out k (by rw [HM.out]; exact hlt)) wr (ll_tab HT.out hnb))
        by_cases hcond : f.spare = 0 ∨ ex ≠ 0
        · have HTM := Lib.hid (took_more (f := f) (c := ⟨vb, [], cv, ky, vl, fl, ex, id, by_, bt, qt⟩) (k := k) (by rw [HM.out]; exact hlt) hcond)
          obtain ⟨TX, hTX⟩ : ∃ TX, textF (f.fld k) ⟨vb, [], cv, ky, vl, fl, ex, id, by_, bt, qt⟩ = TX := ⟨_, rfl⟩
          rw [hTX] at HTX HTM
          clear hTX
          obtain ⟨RL, hRL⟩ : ∃ RL, L ++ took f ⟨vb, [], cv, ky, vl, fl, ex, id, by_, bt, qt⟩ k = RL := ⟨_, rfl⟩
          rw [hRL] at hrow hlen
          have HRL := Lib.hid hRL
          have hrl : (L ++ took f ⟨vb, [], cv, ky, vl, fl, ex, id, by_, bt, qt⟩ k).length = RL.length := by rw [hRL]
          rw [hrl]
          clear hRL hrl
          by_cases hs0 : f.spare = 0
          all_goals
            first
              | have hs1 : ((f.spare : Int) == 0) = true := by rw [hs0]; rfl
              | (have hs1 : ((f.spare : Int) == 0) = false := beq_eq_false_iff_ne.mpr (by omega)
                 have hs2 : (ex == 0) = false := beq_eq_false_iff_ne.mpr (by omega))
            clear hs0
            go_wp2_with (first
              | (go_at_call 71; go_loud (refine HTX.out.mono ?_; rintro e X5 ⟨rfl, hb5⟩; have HR5 := Lib.hid (hrow.out.on hb5); have HB5 := Lib.hid (hnx.out.trans (hb5.mono (by have := hnx.out.size; omega)))))
              | (at_builtin; go_loud (refine wpList_append_own_at _ rfl (.tmp 33) (.tmp 37) 24 rfl B 9 i0 _ 1 16 Tryd.underlying24 hinfo hzi0 hzi1 hzi2 rfl (by decide) _ RL.length (RL.map fun x => .string ⟨x.toArray⟩) rfl (HR5.out.2.alloc _) ⟨X5.heap.size, 0, none⟩ 1 1 [.string ⟨TX.toArray⟩] rfl rfl one_at one_one (by unfold maxLen; omega) (by omega) (by have := HB5.out.size; simp; omega) ?_; intro v6 X6 hown6 hgr6 hnil6 hat6; have HB6 := Lib.hid (below_snoc HB5.out (by omega) HR5.out hgr6); obtain ⟨g6, cap6, rfl, hrow6⟩ := RowW.snoc hown6; have HR6 := Lib.hid hrow6; clear hown6 hgr6 hnil6 hat6 hrow6)))
            go_roundw
            case rel =>
              have e : L ++ took f ⟨vb, [], cv, ky, vl, fl, ex, id, by_, bt, qt⟩ (k + 1) = RL ++ [TX] := by rw [HTM.out, ← List.append_assoc, HRL.out]
              exact ⟨k + 1, g6, cap6, by omega, by go_num, by rw [e]; simp, Lib.hid (by rw [e]; exact HR6.out), HB6⟩
            case measure => simp [intOf]; omega
        · have hs1 : ((f.spare : Int) == 0) = false := beq_eq_false_iff_ne.mpr (by omega)
          have hs2 : (ex == 0) = true := beq_iff_eq.mpr (by omega)
          have HTN := Lib.hid (show took f ⟨vb, [], cv, ky, vl, fl, ex, id, by_, bt, qt⟩ (k + 1) = took f ⟨vb, [], cv, ky, vl, fl, ex, id, by_, bt, qt⟩ k by rw [took_not hcond, took_not hcond])
          go_wp2_with fail
          go_roundw
          case rel => exact ⟨k + 1, g2, cp, by omega, by go_num, by rw [HTN.out], Lib.hid (by rw [HTN.out]; exact hrow.out), hnx⟩
          case measure => simp [intOf]; omega
      · have hd : decide ((k : Int) < (m : Int)) = false := decide_eq_false (by omega)
        have htk := took_all (f := f) (c := ⟨vb, [], cv, ky, vl, fl, ex, id, by_, bt, qt⟩) (k := k) (by rw [HM.out]; omega)
        have HW := Lib.hid (show wordsC name f ⟨vb, [], cv, ky, vl, fl, ex, id, by_, bt, qt⟩ = (L ++ took f ⟨vb, [], cv, ky, vl, fl, ex, id, by_, bt, qt⟩ k) ++ quietC ⟨vb, [], cv, ky, vl, fl, ex, id, by_, bt, qt⟩ from by rw [HL.out, htk]; simp [wordsC])
        obtain ⟨RL, hRL⟩ : ∃ RL, L ++ took f ⟨vb, [], cv, ky, vl, fl, ex, id, by_, bt, qt⟩ k = RL := ⟨_, rfl⟩
        have hrl : (L ++ took f ⟨vb, [], cv, ky, vl, fl, ex, id, by_, bt, qt⟩ k).length = RL.length := by rw [hRL]
        rw [hRL] at hrow hlen HW
        rw [hrl]
        clear hRL hrl htk
        have HBE := Lib.hid (HB2.out.trans (hnb.mono HB2.out.size))
        cases qt with
        | false =>
          go_wp2_with fail
          go_ret
          exact words_post (by rw [HW.out]; simp [quietC]) rfl hrow.out HBE.out
        | true =>
          go_wp2_with (at_builtin; go_loud (refine wpList_append_own_at _ rfl (.tmp 42) (.tmp 43) 24 rfl B 9 i0 _ 1 16 Tryd.underlying24 hinfo hzi0 hzi1 hzi2 rfl (by decide) _ RL.length (RL.map fun x => .string ⟨x.toArray⟩) rfl (hrow.out.2.alloc _) ⟨wr.heap.size, 0, none⟩ 1 1 [.string ⟨norep.toArray⟩] rfl rfl one_at one_one (by unfold maxLen; omega) (by omega) (by have := hnx.out.size; simp; omega) ?_; intro v6 X6 hown6 hgr6 hnil6 hat6; have hb6 := below_snoc hnx.out (by omega) hrow.out hgr6; obtain ⟨g6, cap6, rfl, hrow6⟩ := RowW.snoc hown6; have HR6 := Lib.hid (And.intro hrow6 hb6); clear hown6 hgr6 hnil6 hat6 hrow6 hb6))
          go_ret
          exact words_post (by rw [HW.out]; simp [quietC]) (by simp) HR6.out.1 (HB2.out.trans (HR6.out.2.mono (by have := HB2.out.size; have := hBw.out; omega)))
  · obtain ⟨g, o, hA, hcells⟩ := HK2.out.at_
    obtain rfl := hA (by omega)
    have hnc := HK2.out.cap (by omega)
    have hc2 : ∀ (OB : Obj) (k : Nat) x, ks[k]? = some x → (X2.alloc OB).cell? ⟨g, o + k, none⟩ = some (.string ⟨x.toArray⟩) := fun OB k x hx => (((Below.refl X2.heap.size X2).alloc (Nat.le_refl _) OB).cell (p := ⟨g, o + k, none⟩) (hcells k x hx).1).trans (hcells k x hx).2
    have HC3 := Lib.hid hc2
    clear hcells hA hc2
    go_upto_region 2 with (at_builtin; go_loud (refine wpList_append_own_at _ rfl (.tmp 11) (.tmp 13) 24 rfl B 9 i0 _ 1 16 Tryd.underlying24 hinfo hzi0 hzi1 hzi2 rfl (by decide) (.slice (some ⟨B, 0, none⟩) 1 1) 1 [.string ⟨name.toArray⟩] rfl HOL.out ⟨g, o, none⟩ n cap (ks.map fun x => .string ⟨x.toArray⟩) rfl (by rw [List.length_map, hkl, Nat.mul_one]) (strs_at (HC3.out _)) strs_one (by unfold maxLen; omega) (by omega) (by simp; omega) ?_; intro v5 Z hown5 hgr5 hnil5 hat5; obtain ⟨g1, cap1, rfl, hrow⟩ := RowW.of (L := name :: ks) hown5 (by rw [List.length_cons, hkl]; omega) (by omega); have HRW := Lib.hid hrow; have HB3 := Lib.hid (((Below.refl X2.heap.size X2).alloc (Nat.le_refl _) _).grown hgr5 (by simp) (fun j e => by simp [Value.ownBlock] at e; omega)); clear hown5 hgr5 hnil5 hat5 hrow))
    have HCZ := Lib.hid (HC2.out.new HB3.out)
    have HFZ := Lib.hid (HF2.out.new HB3.out)
    obtain ⟨⟨j0, j1, j2, j3, j4, j5, j6, j7, j8⟩, -⟩ := ff_cells HFZ.out
    have hsl := Lib.hid (show Z.heap.size > w.heap.size + 1 by have := HB3.out.size; have := hBw.out; omega)
    go_upto_region 3 with (go_at_call 64; go_loud (refine (HCt.out Z).mono ?_; rintro e X4 ⟨rfl, hb4⟩))
    have HB4 := Lib.hid (show Below B X2 X4 from by rw [← hB]; exact HB3.out.trans (hb4.mono HB3.out.size))
    have HR4 := Lib.hid (HRW.out.on hb4)
    clear hb4 j0 j1 j2 j3 j4 j5 j6 j7 j8 HCZ HFZ hsl x1 hsa HRW HB3
    obtain ⟨L, hL⟩ : ∃ L, L = name :: ks := ⟨_, rfl⟩
    have HL := Lib.hid hL
    clear hL
    have hLl : L.length = n + 1 := by rw [HL.out, List.length_cons]; simp [hkl]
    go_loopw [7, 9, 20] (fun ws xv iv wr => ∃ (k g cp : Nat), k ≤ m ∧ iv = .int .i64 k ∧ ws = .slice (some ⟨g, 0, none⟩) (L ++ took f ⟨vb, ks, cv, ky, vl, fl, ex, id, by_, bt, qt⟩  k).length cp ∧ Hid (RowW wr B g cp (L ++ took f ⟨vb, ks, cv, ky, vl, fl, ex, id, by_, bt, qt⟩  k)) ∧ Hid (Below B X2 wr)) (fun _ _ iv _ => m - (intOf iv).toNat)
    case atStart => exact ⟨0, g1, cap1, by omega, rfl, by rw [took_zero, List.append_nil, hLl], Lib.hid (by rw [took_zero, List.append_nil, HL.out]; exact HR4.out), HB4⟩
    case round =>
      obtain ⟨k, g2, cp, hk, rfl, rfl, hrow, hnx⟩ := hrel
      have hnb : Below X2.heap.size X2 wr := by rw [hB]; exact hnx.out
      have HCW := Lib.hid (HC2.out.new hnb)
      have HFW := Lib.hid (HF2.out.new hnb)
      have hqq := HCW.out.at_ 10 _ rfl
      have hlen : (L ++ took f ⟨vb, ks, cv, ky, vl, fl, ex, id, by_, bt, qt⟩  k).length ≤ 2000 := by rw [List.length_append, hLl]; have := took_le f ⟨vb, ks, cv, ky, vl, fl, ex, id, by_, bt, qt⟩  k; omega
      by_cases hlt : k < m
      · have hfc : wr.cell? ⟨w.heap.size + 1, 3 + k, none⟩ = some (.int .u8 (f.fld k : Nat)) := by
          obtain rfl | rfl | rfl | rfl : k = 0 ∨ k = 1 ∨ k = 2 ∨ k = 3 := by omega
          all_goals exact HFW.out.at_ _ _ rfl
        have hsp : wr.cell? ⟨w.heap.size + 1, 7, none⟩ = some (.int .i64 (f.spare : Nat)) := HFW.out.at_ 7 _ rfl
        have hep : wr.cell? ⟨w.heap.size, 6, none⟩ = some (.int .i64 ex) := HCW.out.at_ 6 _ rfl
        obtain ⟨cc0, cc1, cc2, cc3, cc4, cc5, cc6, cc7, cc8, cc9, cc10⟩ := cb_cells HCW.out
        simp only at cc0 cc1 cc2 cc3 cc4 cc5 cc6 cc7 cc8 cc9 cc10
        have HTX := Lib.hid (ctextw ⟨vb, ks, cv, ky, vl, fl, ex, id, by_, bt, qt⟩  (some ⟨g, o, none⟩) n cap (f.fld k) HR.out (HPos.out k (by rw [HM.out]; exact hlt)) wr (ll_tab HT.out hnb))
        by_cases hcond : f.spare = 0 ∨ ex ≠ 0
        · have HTM := Lib.hid (took_more (f := f) (c := ⟨vb, ks, cv, ky, vl, fl, ex, id, by_, bt, qt⟩ ) (k := k) (by rw [HM.out]; exact hlt) hcond)
          obtain ⟨TX, hTX⟩ : ∃ TX, textF (f.fld k) ⟨vb, ks, cv, ky, vl, fl, ex, id, by_, bt, qt⟩  = TX := ⟨_, rfl⟩
          rw [hTX] at HTX HTM
          clear hTX
          obtain ⟨RL, hRL⟩ : ∃ RL, L ++ took f ⟨vb, ks, cv, ky, vl, fl, ex, id, by_, bt, qt⟩  k = RL := ⟨_, rfl⟩
          rw [hRL] at hrow hlen
          have HRL := Lib.hid hRL
          have hrl : (L ++ took f ⟨vb, ks, cv, ky, vl, fl, ex, id, by_, bt, qt⟩  k).length = RL.length := by rw [hRL]
          rw [hrl]
          clear hRL hrl
          by_cases hs0 : f.spare = 0
          all_goals
            first
              | have hs1 : ((f.spare : Int) == 0) = true := by rw [hs0]; rfl
              | (have hs1 : ((f.spare : Int) == 0) = false := beq_eq_false_iff_ne.mpr (by omega)
                 have hs2 : (ex == 0) = false := beq_eq_false_iff_ne.mpr (by omega))
            clear hs0
            go_wp2_with (first
              | (go_at_call 71; go_loud (refine HTX.out.mono ?_; rintro e X5 ⟨rfl, hb5⟩; have HR5 := Lib.hid (hrow.out.on hb5); have HB5 := Lib.hid (hnx.out.trans (hb5.mono (by have := hnx.out.size; omega)))))
              | (at_builtin; go_loud (refine wpList_append_own_at _ rfl (.tmp 33) (.tmp 37) 24 rfl B 9 i0 _ 1 16 Tryd.underlying24 hinfo hzi0 hzi1 hzi2 rfl (by decide) _ RL.length (RL.map fun x => .string ⟨x.toArray⟩) rfl (HR5.out.2.alloc _) ⟨X5.heap.size, 0, none⟩ 1 1 [.string ⟨TX.toArray⟩] rfl rfl one_at one_one (by unfold maxLen; omega) (by omega) (by have := HB5.out.size; simp; omega) ?_; intro v6 X6 hown6 hgr6 hnil6 hat6; have HB6 := Lib.hid (below_snoc HB5.out (by omega) HR5.out hgr6); obtain ⟨g6, cap6, rfl, hrow6⟩ := RowW.snoc hown6; have HR6 := Lib.hid hrow6; clear hown6 hgr6 hnil6 hat6 hrow6)))
            go_roundw
            case rel =>
              have e : L ++ took f ⟨vb, ks, cv, ky, vl, fl, ex, id, by_, bt, qt⟩  (k + 1) = RL ++ [TX] := by rw [HTM.out, ← List.append_assoc, HRL.out]
              exact ⟨k + 1, g6, cap6, by omega, by go_num, by rw [e]; simp, Lib.hid (by rw [e]; exact HR6.out), HB6⟩
            case measure => simp [intOf]; omega
        · have hs1 : ((f.spare : Int) == 0) = false := beq_eq_false_iff_ne.mpr (by omega)
          have hs2 : (ex == 0) = true := beq_iff_eq.mpr (by omega)
          have HTN := Lib.hid (show took f ⟨vb, ks, cv, ky, vl, fl, ex, id, by_, bt, qt⟩  (k + 1) = took f ⟨vb, ks, cv, ky, vl, fl, ex, id, by_, bt, qt⟩  k by rw [took_not hcond, took_not hcond])
          go_wp2_with fail
          go_roundw
          case rel => exact ⟨k + 1, g2, cp, by omega, by go_num, by rw [HTN.out], Lib.hid (by rw [HTN.out]; exact hrow.out), hnx⟩
          case measure => simp [intOf]; omega
      · have hd : decide ((k : Int) < (m : Int)) = false := decide_eq_false (by omega)
        have htk := took_all (f := f) (c := ⟨vb, ks, cv, ky, vl, fl, ex, id, by_, bt, qt⟩ ) (k := k) (by rw [HM.out]; omega)
        have HW := Lib.hid (show wordsC name f ⟨vb, ks, cv, ky, vl, fl, ex, id, by_, bt, qt⟩  = (L ++ took f ⟨vb, ks, cv, ky, vl, fl, ex, id, by_, bt, qt⟩  k) ++ quietC ⟨vb, ks, cv, ky, vl, fl, ex, id, by_, bt, qt⟩  from by rw [HL.out, htk]; simp [wordsC])
        obtain ⟨RL, hRL⟩ : ∃ RL, L ++ took f ⟨vb, ks, cv, ky, vl, fl, ex, id, by_, bt, qt⟩  k = RL := ⟨_, rfl⟩
        have hrl : (L ++ took f ⟨vb, ks, cv, ky, vl, fl, ex, id, by_, bt, qt⟩  k).length = RL.length := by rw [hRL]
        rw [hRL] at hrow hlen HW
        rw [hrl]
        clear hRL hrl htk
        have HBE := Lib.hid (HB2.out.trans (hnb.mono HB2.out.size))
        cases qt with
        | false =>
          go_wp2_with fail
          go_ret
          exact words_post (by rw [HW.out]; simp [quietC]) rfl hrow.out HBE.out
        | true =>
          go_wp2_with (at_builtin; go_loud (refine wpList_append_own_at _ rfl (.tmp 42) (.tmp 43) 24 rfl B 9 i0 _ 1 16 Tryd.underlying24 hinfo hzi0 hzi1 hzi2 rfl (by decide) _ RL.length (RL.map fun x => .string ⟨x.toArray⟩) rfl (hrow.out.2.alloc _) ⟨wr.heap.size, 0, none⟩ 1 1 [.string ⟨norep.toArray⟩] rfl rfl one_at one_one (by unfold maxLen; omega) (by omega) (by have := hnx.out.size; simp; omega) ?_; intro v6 X6 hown6 hgr6 hnil6 hat6; have hb6 := below_snoc hnx.out (by omega) hrow.out hgr6; obtain ⟨g6, cap6, rfl, hrow6⟩ := RowW.snoc hown6; have HR6 := Lib.hid (And.intro hrow6 hb6); clear hown6 hgr6 hnil6 hat6 hrow6 hb6))
          go_ret
          exact words_post (by rw [HW.out]; simp [quietC]) (by simp) HR6.out.1 (HB2.out.trans (HR6.out.2.mono (by have := HB2.out.size; have := hBw.out; omega)))
end Go.Proofs.YtifbcejekdhnlaaDoor
/- Next: Lines: the line of whatever command. Printed by tools/genll7.py. -/
namespace Go.Proofs.YtifbcejekdhnlaaDoor
open Go.RowKit Go.Maps
set_option linter.unusedVariables false

theorem text_short {c : Cmd} (h : CmR c) (f : Nat) : (textF f c).length ≤ 21 := by
  obtain ⟨⟨r0, r1⟩, ⟨r2, r3⟩, ⟨r4, r5⟩, ⟨r6, r7⟩, r8, r9⟩ := h
  have hs : ∀ n : Int, -9223372036854775808 ≤ n → n ≤ 9223372036854775807 → (sgnL n).length ≤ 21 := fun n h0 h1 => by
    unfold sgnL
    have := (dec_len (u := n.natAbs) (by omega)).2
    split
    · rw [List.length_cons]; omega
    · omega
  unfold textF
  split
  · have := (dec_len (u := c.flags.natAbs) (by omega)).2; omega
  · split
    · exact hs _ r2 r3
    · split
      · exact hs _ r4 r5
      · split
        · have := (dec_len (u := c.id.natAbs) (by omega)).2; omega
        · have := (dec_len (u := c.by_.natAbs) (by omega)).2; omega
theorem tot_map {c : Cmd} (h : CmR c) : ∀ (l : List Nat), tot (l.map (fun x => textF x c)) ≤ l.length * 22
  | [] => by simp [tot]
  | x :: l => by
    have h1 := tot_map h l
    have h2 := text_short h x
    rw [List.map_cons, List.length_cons]
    simp only [tot]; omega
theorem words_short {c : Cmd} {n : List UInt8} {f : Form} (hr : CmR c) (hf : f.fields.length ≤ 4) (hn : n.length ≤ 9) : tot (wordsC n f c) ≤ 200 + tot c.keys ∧ (wordsC n f c).length ≤ 6 + c.keys.length := by
  unfold wordsC
  have h1 := tot_map hr f.fields
  have h2 : tot (fieldsC f c) ≤ f.fields.length * 22 ∧ (fieldsC f c).length ≤ f.fields.length := by
    unfold fieldsC
    split
    · exact ⟨h1, by simp⟩
    · simp [tot]
  have h3 : tot (quietC c) ≤ 8 ∧ (quietC c).length ≤ 1 := by
    unfold quietC
    split <;> simp [tot, norep]
  simp only [tot, tot_app, List.length_cons, List.length_append]
  omega
theorem names_short : ∀ x ∈ tbF, x.1.length ≤ 9 := by decide +kernel
/-- Words that stand in a block are joined, whatever they are. -/
theorem joinG {l : List (List UInt8)} {g o cap n : Nat} (W : World) (hn : l.length = n) (hc : ∀ k x, l[k]? = some x → W.cell? ⟨g, o + k, none⟩ = some (.string ⟨x.toArray⟩)) (hg : g < W.heap.size) (hcap : n ≤ cap) (hl : l.length ≤ 100000) (hj : (Lib.join l [32]).length ≤ 100000000) :
    Calls Tryd.prog 22 #[.slice (some ⟨g, o, none⟩) n cap, .string ⟨#[32]⟩] W fun e w' => e = .returned (.string ⟨(Lib.join l [32]).toArray⟩) ∧ Below W.heap.size W w' := by
  subst hn
  have hxl : (l.map (fun x => (⟨x.toArray⟩ : ByteArray))).length = l.length := by simp
  have q := Tryd.strings_Join g o cap (l.map (fun x => (⟨x.toArray⟩ : ByteArray))) ⟨#[32]⟩ W (fun j x hj => by
      rw [List.getElem?_map] at hj
      cases hl : l[j]? with
      | none => rw [hl] at hj; simp at hj
      | some y => rw [hl] at hj; simp at hj; rw [← hj]; exact hc j y hl) hg (by rw [hxl]; omega) (by rw [hxl]; exact hcap) (by rw [bs_map]; show (Lib.join l [32]).length ≤ _; omega)
  rw [bs_map, hxl] at q
  exact q
/-- What is left of the map of forms ahead of a round. -/
def LeftG (c : Cmd) (left : Lit → Bool) : Prop := (∀ kl, left kl = true → Maps.has formsD kl = true) ∧ (∀ x, formAt c.verb = some x → lineW c x ≠ none → left (.string x.1) = true)
theorem formAt_in {v : Nat} {x : List UInt8 × Form} (h : formAt v = some x) : x ∈ tbF ∧ x.2.verb = v := by
  unfold formAt at h
  exact ⟨List.mem_of_find?_eq_some h, by simpa using List.find?_some h⟩
theorem LeftG.begin (c : Cmd) : LeftG c (Maps.has formsD) := ⟨fun kl h => h, fun x hx _ => (formsD_some .nil (ll_format x (formAt_in hx).1).2).1⟩
theorem LeftG.done {c : Cmd} {left : Lit → Bool} (h : LeftG c left) (hd : ∀ kl, left kl = false) : lineO c = none := by
  unfold lineO
  cases hf : formAt c.verb with
  | none => rfl
  | some x =>
    show lineW c x = none
    cases hl : lineW c x with
    | none => rfl
    | some s =>
      have := h.2 x hf (by rw [hl]; simp)
      rw [hd] at this
      exact absurd this (by simp)
theorem LeftG.step {c : Cmd} {left : Lit → Bool} {kl : List UInt8} (h : LeftG c left) (hk : ∀ x, formAt c.verb = some x → lineW c x ≠ none → x.1 ≠ kl) : LeftG c (fun z => left z && !z.sameKey (.string kl)) := by
  refine ⟨fun z hz => h.1 z (by simp at hz; exact hz.1), fun x hx hl => ?_⟩
  simp only [h.2 x hx hl, skey_ne (hk x hx hl)]
  rfl
/-- What is told of a line. -/
def LinePost (w : World) (c : Cmd) (e : Ending) (w' : World) : Prop := e = .returned (.tuple #[.string ⟨((lineO c).getD []).toArray⟩, .bool (lineO c).isSome]) ∧ Below w.heap.size w w'
theorem line_none {w w' : World} {c : Cmd} (h : lineO c = none) (hb : Below w.heap.size w w') : LinePost w c (.returned (.tuple #[.string ⟨#[]⟩, .bool false])) w' := by
  refine ⟨?_, hb⟩
  rw [h]; rfl
theorem line_is {w w' : World} {c : Cmd} {s : List UInt8} (h : lineO c = some s) (hb : Below w.heap.size w w') : LinePost w c (.returned (.tuple #[.string ⟨s.toArray⟩, .bool true])) w' := by
  refine ⟨?_, hb⟩
  rw [h]; rfl
set_option maxHeartbeats 8000000 in
set_option maxRecDepth 100000 in
theorem clinew (c : Cmd) (A : Option Addr) (n cap : Nat) (w : World) (hr : CmR c) (hk : KyG w A n cap c.keys) (hn : n ≤ 1000) (hT : tot c.keys ≤ 1000000) (htab : Lib.TabIs Tryd.prog w "internal/strconv.uint64pow10" .u64 Lib.pow10Tab) :
    Calls Tryd.prog 13 #[.agg (cmdC c (.slice A n cap)).toArray] w (LinePost w c) := by
  obtain ⟨vb, ks, cv, ky, vl, fl, ex, id, by_, bt, qt⟩ := c
  simp only at hk hT
  simp only [cmdC]
  obtain ⟨W1, hW1⟩ : ∃ W1, W1 = w.alloc (.cells #[.int .u8 vb, .slice A n cap, .int .u8 cv, .string ⟨ky.toArray⟩, .string ⟨vl.toArray⟩, .int .u32 fl, .int .i64 ex, .int .u64 id, .int .u64 by_, .int .i64 bt, .bool qt] 30) := ⟨_, rfl⟩
  have hC1 : Cb W1 w.heap.size (cmdC ⟨vb, ks, cv, ky, vl, fl, ex, id, by_, bt, qt⟩ (.slice A n cap)) := by rw [hW1]; exact cb_new rfl
  have hB1 : Below w.heap.size w W1 := by rw [hW1]; exact (Below.refl _ _).alloc (Nat.le_refl _) _
  have hz1 : W1.heap.size = w.heap.size + 1 := by rw [hW1]; simp
  have HF := Lib.hid (formsw W1)
  have HC1 := Lib.hid hC1
  have HB1 := Lib.hid hB1
  have HZ1 := Lib.hid hz1
  have HRC := Lib.hid (And.intro hr (And.intro hk (And.intro hT htab)))
  have hkl := hk.len
  clear hC1 hB1 hz1 hr hk hT htab
  go_enter Tryd.func13, Tryd.ntmps13
  go_upto_region 1 with fail
  rw [← hW1]
  clear hW1
  go_wp2_with (first
    | (go_at_call 30; refine HF.out.mono ?_; rintro e W2 ⟨rfl, hown2, hb2⟩)
    | (at_range; refine wpList_range_own _ rfl _ 76 rfl 9 74 lawS Tryd.underlying76 fR W1.heap.size 13 formsD rfl hown2 ?_; intro W3 hrg3 hg3 hs3))
  have hb13 : Below W1.heap.size W1 W3 := hb2.grown hg3 hb2.size (fun k e => by simp at e)
  have hC3 := Lib.hid (HC1.out.new hb13)
  have hB3 := Lib.hid (HB1.out.trans (hb13.mono HB1.out.size))
  have hR3 := Lib.hid hrg3
  have hlt2 := Lib.hid hb2.size
  have hs3' := Lib.hid hs3
  have HL0 := Lib.hid (LeftG.begin ⟨vb, ks, cv, ky, vl, fl, ex, id, by_, bt, qt⟩)
  clear hown2 hb2 hrg3 hg3 hs3 hb13 HF
  go_frame
  go_loopw [4, 5, 6, 7, 8] (fun _ _ _ _ _ wr => ∃ (left : Lit → Bool) (q : Nat), Hid (wr.ranges Tryd.prog 9 fR W1.heap.size W2.heap.size 13 formsD left q) ∧ Hid (LeftG ⟨vb, ks, cv, ky, vl, fl, ex, id, by_, bt, qt⟩ left) ∧ Hid (Below W2.heap.size W3 wr)) (fun _ _ _ _ _ wr => wr.rangeLeft W1.heap.size W2.heap.size)
  case atStart => exact ⟨_, _, hR3, HL0, Lib.hid (Below.refl _ _)⟩
  case round =>
    obtain ⟨left, q, hrg, hV, hnx⟩ := hrel
    clear hR3 HL0
    have hrg' := hrg.out
    go_upto_region 4 with (at_next; go_loud (refine wpList_next_ranges _ rfl _ rfl 9 lawS fR (fun z : ByteArray => .string z) (fun z : Value => z) (fun key kl hk => by obtain ⟨z, rfl, _⟩ := key_string_inv hk; exact ⟨z, rfl⟩) fR_inv W1.heap.size W2.heap.size 13 formsD left q rfl hrg' (fun hq0 hdone => ?_) (fun z c kl y w1 q1 hk hl hR hat hrg1 hlt hgr hsz1 hen => ?_); rotate_left; obtain ⟨f, rfl, hf, ec⟩ := entry_form hk (hV.out.1 _ hl) hR hat; have hx1 := Lib.hid (hnx.out.grown hgr (by have := hnx.out.size; have := hs3'.out; omega) (fun k e => by simp at e; have := hs3'.out; omega)); change c = .agg #[.int .u8 f.verb, .int .i64 f.least, .int .i64 f.most, .int .u8 (f.fld 0 : Nat), .int .u8 (f.fld 1 : Nat), .int .u8 (f.fld 2 : Nat), .int .u8 (f.fld 3 : Nat), .int .i64 f.spare, .bool f.quiet] at ec; subst ec; have HRG1 := Lib.hid hrg1; have HQ := Lib.hid (And.intro hlt (And.intro hsz1 hrg'.left_eq)); clear hR hat hk hrg1 hgr hlt hsz1 hrg'; rotate_left))
    · refine bodyPost_ret (v := .tuple #[.string ⟨#[]⟩, .bool false]) (by simp [results, Tryd.results13, go_sem]) rfl ?_
      exact line_none (hV.out.done hdone) (hB3.out.trans (hnx.out.mono (by have := HZ1.out; have := hlt2.out; omega)))
    have hwr : W2.heap.size < w1.heap.size := by have := hnx.out.size; have := hs3'.out; have := HQ.out.2.1; omega
    have hba : Below w1.heap.size w1 (w1.alloc (.cells #[.int .u8 f.verb, .int .i64 f.least, .int .i64 f.most, .int .u8 (f.fld 0 : Nat), .int .u8 (f.fld 1 : Nat), .int .u8 (f.fld 2 : Nat), .int .u8 (f.fld 3 : Nat), .int .i64 f.spare, .bool f.quiet] 74)) := (Below.refl _ _).alloc (Nat.le_refl _) _
    have hFX := Lib.hid (show Cb (w1.alloc (.cells #[.int .u8 f.verb, .int .i64 f.least, .int .i64 f.most, .int .u8 (f.fld 0 : Nat), .int .u8 (f.fld 1 : Nat), .int .u8 (f.fld 2 : Nat), .int .u8 (f.fld 3 : Nat), .int .i64 f.spare, .bool f.quiet] 74)) w1.heap.size (formC f) from cb_new rfl)
    have hRX := Lib.hid (ranges_upF HRG1.out hba)
    have hXb := Lib.hid (hx1.out.trans (hba.mono (by omega)))
    generalize w1.alloc _ = X at *
    have hW2 : w.heap.size < W2.heap.size := by have := HZ1.out; have := hlt2.out; omega
    have hCX := Lib.hid (Cb.keep (T := fun k => W2.heap.size ≤ k) hC3.out ((Keeps.refl _ _).below hXb.out (fun _ _ e => e)) (by omega))
    have hWX := Lib.hid (hB3.out.trans (hXb.out.mono (by omega)))
    obtain ⟨⟨j0, j1, j2, j3, j4, j5, j6, j7, j8⟩, -⟩ := ff_cells hFX.out
    obtain ⟨x0, x1, x2, x3, x4, x5, x6, x7, x8, x9, x10⟩ := cb_cells hCX.out
    simp only at x0 x1 x2 x3 x4 x5 x6 x7 x8 x9 x10
    clear hl hen hba
    obtain ⟨nm, hnm⟩ : ∃ nm, z.data.toList = nm := ⟨_, rfl⟩
    obtain rfl : z = ⟨nm.toArray⟩ := by rw [← hnm]
    clear hnm
    simp only at hf
    have hin := formIn_in hf
    have hfat := (ll_format _ hin).1
    simp only at hfat
    have HFA := Lib.hid (And.intro hin hfat)
    have HFO := Lib.hid (formOf_ok hf)
    clear hf hin hfat
    by_cases hv : f.verb = vb
    · have hve : ((f.verb : Int) == (vb : Int)) = true := beq_iff_eq.mpr (by omega)
      have hvf : formAt vb = some (nm, f) := by rw [← hv]; exact HFA.out.2
      have HLO := Lib.hid (show lineO ⟨vb, ks, cv, ky, vl, fl, ex, id, by_, bt, qt⟩ = lineW ⟨vb, ks, cv, ky, vl, fl, ex, id, by_, bt, qt⟩ (nm, f) from by unfold lineO; simp only [hvf]; rfl)
      have hws := words_short (n := nm) (f := f) HRC.out.1 (HFO.out.len) (names_short _ HFA.out.1)
      simp only at hws
      obtain ⟨WS, hWS⟩ : ∃ WS, wordsC nm f ⟨vb, ks, cv, ky, vl, fl, ex, id, by_, bt, qt⟩ = WS := ⟨_, rfl⟩
      rw [hWS] at hws
      have hwc : ∃ r, WS = nm :: r := ⟨_, hWS.symm.trans rfl⟩
      have HWD := Lib.hid (cwordsw ⟨vb, ks, cv, ky, vl, fl, ex, id, by_, bt, qt⟩ A n cap nm f X HFO.out HRC.out.1 (HRC.out.2.1.on hWX.out) hn (ll_tab HRC.out.2.2.2 hWX.out))
      have HWS := Lib.hid hWS
      have hjl : (Lib.join WS [32]).length ≤ 2000000 := by
        obtain ⟨r, hr⟩ := hwc
        have := join_tot nm r
        rw [← hr] at this
        have := HRC.out.2.2.1
        omega
      have HJL := Lib.hid (And.intro hjl hws.2)
      obtain ⟨JS, hJS⟩ : ∃ JS, Lib.join WS [32] = JS := ⟨_, rfl⟩
      have hpar : ∀ W, Calls Tryd.prog 10 #[.string ⟨JS.toArray⟩] W (IsPar W (parseC JS)) := fun W => by
        have q := parsel ⟨JS.toArray⟩ W (by show JS.toArray.size ≤ maxLen; rw [hJS] at hjl; simp [maxLen]; omega)
        rwa [show (⟨JS.toArray⟩ : ByteArray).data.toList = JS by simp] at q
      have hlw : lineW ⟨vb, ks, cv, ky, vl, fl, ex, id, by_, bt, qt⟩ (nm, f) = if parseC JS = (⟨vb, ks, cv, ky, vl, fl, ex, id, by_, bt, qt⟩, 0) then some JS else none := by
        show (if parseC (Lib.join (wordsC nm f ⟨vb, ks, cv, ky, vl, fl, ex, id, by_, bt, qt⟩) [32]) = (⟨vb, ks, cv, ky, vl, fl, ex, id, by_, bt, qt⟩, 0) then some (Lib.join (wordsC nm f ⟨vb, ks, cv, ky, vl, fl, ex, id, by_, bt, qt⟩) [32]) else none) = _
        rw [hWS, hJS]
      rw [hlw] at HLO
      have HLW := Lib.hid hlw
      have HJS := Lib.hid hJS
      generalize parseC JS = pr at hpar HLO HLW
      obtain ⟨⟨vb6, ks6, cv6, ky6, vl6, fl6, ex6, id6, by6, bt6, qt6⟩, t6⟩ := pr
      have HPR := Lib.hid hpar
      clear hpar hlw hJS hWS hjl hws hwc hvf
      simp only [cmdC, formC, hv] at HWD
      go_upto_region 7 with (first
        | (go_at_call 44; go_loud ((with_reducible refine HWD.out.mono ?_); rintro e X4 ⟨g, cap4, rfl, h1, h2, h3, hb4⟩; have HX4 := Lib.hid (And.intro h1 (And.intro h2 (And.intro h3 hb4))); clear h1 h2 h3 hb4))
        | (go_at_call 22; go_loud ((with_reducible refine (joinG (l := WS) X4 (by rw [HWS.out]) (by rw [← HWS.out]; exact HX4.out.2.2.1) HX4.out.2.1 HX4.out.1 (by have := HJL.out.2; omega) (by have := HJL.out.1; omega)).mono ?_); rw [HJS.out]; rintro e X5 ⟨rfl, hb5⟩))
        | (go_at_call 10; go_loud ((with_reducible refine (HPR.out _).mono ?_); rintro e X6 ⟨kv6, he6, hk6, hb6⟩; obtain ⟨A6, c6, rfl, -⟩ := (KyS.of_lst (U := fun _ => False) hk6 (fun _ _ _ e => e)).rd.form; have he7 : e = .returned (.tuple #[.agg #[.int .u8 vb6, .slice A6 ks6.length c6, .int .u8 cv6, .string ⟨ky6.toArray⟩, .string ⟨vl6.toArray⟩, .int .u32 fl6, .int .i64 ex6, .int .u64 id6, .int .u64 by6, .int .i64 bt6, .bool qt6], .int .u8 t6]) := he6; subst he7; clear he6)))
      have hx4 := HX4.out.2.2.2
      have hba : Below X6.heap.size X6 (X6.alloc (.cells #[.int .u8 vb6, .slice A6 ks6.length c6, .int .u8 cv6, .string ⟨ky6.toArray⟩, .string ⟨vl6.toArray⟩, .int .u32 fl6, .int .i64 ex6, .int .u64 id6, .int .u64 by6, .int .i64 bt6, .bool qt6] 30)) := (Below.refl _ _).alloc (Nat.le_refl _) _
      have hD7 : Cb (X6.alloc (.cells #[.int .u8 vb6, .slice A6 ks6.length c6, .int .u8 cv6, .string ⟨ky6.toArray⟩, .string ⟨vl6.toArray⟩, .int .u32 fl6, .int .i64 ex6, .int .u64 id6, .int .u64 by6, .int .i64 bt6, .bool qt6] 30)) X6.heap.size (cmdC ⟨vb6, ks6, cv6, ky6, vl6, fl6, ex6, id6, by6, bt6, qt6⟩ (.slice A6 ks6.length c6)) := cb_new rfl
      have hky6 : KyG X6 A6 ks6.length c6 ks6 := KyG.of (KyS.of_lst (U := fun _ => False) hk6 (fun _ _ _ e => e)).rd
      have hC7 : Cb (X6.alloc (.cells #[.int .u8 vb6, .slice A6 ks6.length c6, .int .u8 cv6, .string ⟨ky6.toArray⟩, .string ⟨vl6.toArray⟩, .int .u32 fl6, .int .i64 ex6, .int .u64 id6, .int .u64 by6, .int .i64 bt6, .bool qt6] 30)) w.heap.size (cmdC ⟨vb, ks, cv, ky, vl, fl, ex, id, by_, bt, qt⟩ (.slice A n cap)) := (((hCX.out.new hx4).new hb5).new hb6).new hba
      have HX7 := Lib.hid (((hx4.trans (hb5.mono hx4.size)).trans (hb6.mono (Nat.le_trans hx4.size hb5.size))).trans (hba.mono (Nat.le_trans (Nat.le_trans hx4.size hb5.size) hb6.size)))
      have HKD := Lib.hid (hky6.on hba)
      generalize X6.alloc _ = X7 at *
      obtain ⟨y0, y1, y2, y3, y4, y5, y6, y7, y8, y9, y10⟩ := cb_cells hC7
      obtain ⟨z0, z1, z2, z3, z4, z5, z6, z7, z8, z9, z10⟩ := cb_cells hD7
      simp only at y0 y1 y2 y3 y4 y5 y6 y7 y8 y9 y10 z0 z1 z2 z3 z4 z5 z6 z7 z8 z9 z10
      have hml6 : ks6.length ≤ maxLen := by
        obtain ⟨A', c', e', h1', h2', -⟩ := (KyS.of_lst (U := fun _ => False) hk6 (fun _ _ _ e => e)).rd.form
        exact Nat.le_trans h1' h2'
      have HSM := Lib.hid (sameG ⟨vb, ks, cv, ky, vl, fl, ex, id, by_, bt, qt⟩ ⟨vb6, ks6, cv6, ky6, vl6, fl6, ex6, id6, by6, bt6, qt6⟩ A A6 n ks6.length cap c6 X7 ((HRC.out.2.1.on hWX.out).on HX7.out) HKD.out (by unfold maxLen; omega) hml6)
      simp only [cmdC] at HSM
      have HRG7 := Lib.hid (ranges_upF hRX.out HX7.out)
      have HXW := Lib.hid (hXb.out.trans (HX7.out.mono (by have := hXb.out.size; have := hs3'.out; omega)))
      clear x0 x1 x2 x3 x4 x5 x6 x7 x8 x9 x10 j0 j1 j2 j3 j4 j5 j6 j7 j8 hba hC7 hD7 hk6 hky6 hml6 hx4 hb5 hb6
      by_cases ht6 : t6 = 0
      · subst ht6
        by_cases hcd : (⟨vb, ks, cv, ky, vl, fl, ex, id, by_, bt, qt⟩ : Cmd) = ⟨vb6, ks6, cv6, ky6, vl6, fl6, ex6, id6, by6, bt6, qt6⟩
        · rw [decide_eq_true hcd] at HSM
          rw [if_pos (by rw [hcd])] at HLO
          go_wp2_with (go_at_call 45; go_loud ((with_reducible refine HSM.out.mono ?_); rintro e X8 ⟨rfl, hb8⟩))
          refine bodyPost_ret (v := .tuple #[.string ⟨JS.toArray⟩, .bool true]) (by simp [results, Tryd.results13, go_sem]) rfl ?_
          exact line_is HLO.out ((hWX.out.trans (HX7.out.mono hWX.out.size)).trans (hb8.mono (Nat.le_trans hWX.out.size HX7.out.size)))
        · rw [decide_eq_false hcd] at HSM
          rw [if_neg (by intro e; injection e with e _; exact hcd e.symm)] at HLW
          go_wp2_with (go_at_call 45; go_loud ((with_reducible refine HSM.out.mono ?_); rintro e X8 ⟨rfl, hb8⟩))
          have HRG8 := Lib.hid (ranges_upF HRG7.out hb8)
          have HXE := Lib.hid (HXW.out.trans (hb8.mono (by have := HXW.out.size; have := hs3'.out; omega)))
          clear hb8
          go_roundw
          case rel => exact ⟨_, q1, HRG8, Lib.hid (hV.out.step (fun x hx hl e => hl (by
            obtain rfl : x = (nm, f) := by
              have h1 := HFA.out.2
              rw [hv] at h1
              simp only at hx
              rw [hx] at h1
              injection h1
            exact HLW.out))), HXE⟩
          case measure => rw [HRG8.out.left_eq, HQ.out.2.2]; exact HQ.out.1
      · have hte : ((t6 : Int) == 0) = false := beq_eq_false_iff_ne.mpr (by omega)
        rw [if_neg (by intro e; injection e with _ e; exact ht6 e)] at HLW
        go_wp2_with fail
        go_roundw
        case rel => exact ⟨_, q1, HRG7, Lib.hid (hV.out.step (fun x hx hl e => hl (by
            obtain rfl : x = (nm, f) := by
              have h1 := HFA.out.2
              rw [hv] at h1
              simp only at hx
              rw [hx] at h1
              injection h1
            exact HLW.out))), HXW⟩
        case measure => rw [HRG7.out.left_eq, HQ.out.2.2]; exact HQ.out.1
    · have hne : ((f.verb : Int) == (vb : Int)) = false := beq_eq_false_iff_ne.mpr (by omega)
      go_wp2_with fail
      go_roundw
      case rel => exact ⟨_, q1, hRX, Lib.hid (hV.out.step (fun x hx hl e => hv (by
        have h1 := formAt_in hx
        have h2 := (ll_format _ h1.1).2
        have h3 := (ll_format _ HFA.out.1).2
        simp only at h3
        rw [e, h3] at h2
        injection h2 with h2
        rw [h2]; exact h1.2))), hXb⟩
      case measure => rw [hRX.out.left_eq, HQ.out.2.2]; exact HQ.out.1
end Go.Proofs.YtifbcejekdhnlaaDoor
/- Next: Lines: are the chapter's commands the same, whatever they are? -/
namespace Go.Proofs.YtifbcejekdhnlaaDoor
open Go.RowKit Go.Maps
set_option linter.unusedVariables false

set_option maxHeartbeats 8000000 in
set_option maxRecDepth 100000 in
theorem rsameG (c d : Cmd) (A1 A2 : Option Addr) (n1 n2 c1 c2 : Nat) (w : World) (h1 : KyG w A1 n1 c1 c.keys) (h2 : KyG w A2 n2 c2 d.keys) (hn : n1 ≤ maxLen) (hn2 : n2 ≤ maxLen) :
    Calls Tryd.prog 43 #[.agg (cmdC c (.slice A1 n1 c1)).toArray, .agg (cmdC d (.slice A2 n2 c2)).toArray] w fun r w' => r = .returned (.bool (decide (c = d))) ∧ Below w.heap.size w w' := by
  obtain ⟨vb, ks, cv, ky, vl, fl, ex, id, by_, bt, qt⟩ := c
  obtain ⟨vd, kt, dv, kd, wl, gl, fx, jd, cy_, ct, rt⟩ := d
  simp only at h1 h2
  simp only [cmdC]
  unfold maxLen at hn hn2
  have hb1 : Below w.heap.size w (w.alloc (.cells #[.int .u8 vb, .slice A1 n1 c1, .int .u8 cv, .string ⟨ky.toArray⟩, .string ⟨vl.toArray⟩, .int .u32 fl, .int .i64 ex, .int .u64 id, .int .u64 by_, .int .i64 bt, .bool qt] 34)) := (Below.refl _ _).alloc (Nat.le_refl _) _
  have hC1 : Cb (w.alloc (.cells #[.int .u8 vb, .slice A1 n1 c1, .int .u8 cv, .string ⟨ky.toArray⟩, .string ⟨vl.toArray⟩, .int .u32 fl, .int .i64 ex, .int .u64 id, .int .u64 by_, .int .i64 bt, .bool qt] 34)) w.heap.size (cmdC ⟨vb, ks, cv, ky, vl, fl, ex, id, by_, bt, qt⟩ (.slice A1 n1 c1)) := cb_new rfl
  have hs1 : (w.alloc (.cells #[.int .u8 vb, .slice A1 n1 c1, .int .u8 cv, .string ⟨ky.toArray⟩, .string ⟨vl.toArray⟩, .int .u32 fl, .int .i64 ex, .int .u64 id, .int .u64 by_, .int .i64 bt, .bool qt] 34)).heap.size = w.heap.size + 1 := by simp
  go_enter Tryd.func43, Tryd.ntmps43
  go_upto_region 1 with fail
  generalize w.alloc _ = X at *
  have hb2 : Below X.heap.size X (X.alloc (.cells #[.int .u8 vd, .slice A2 n2 c2, .int .u8 dv, .string ⟨kd.toArray⟩, .string ⟨wl.toArray⟩, .int .u32 gl, .int .i64 fx, .int .u64 jd, .int .u64 cy_, .int .i64 ct, .bool rt] 34)) := (Below.refl _ _).alloc (Nat.le_refl _) _
  have hC2 : Cb (X.alloc (.cells #[.int .u8 vd, .slice A2 n2 c2, .int .u8 dv, .string ⟨kd.toArray⟩, .string ⟨wl.toArray⟩, .int .u32 gl, .int .i64 fx, .int .u64 jd, .int .u64 cy_, .int .i64 ct, .bool rt] 34)) X.heap.size (cmdC ⟨vd, kt, dv, kd, wl, gl, fx, jd, cy_, ct, rt⟩ (.slice A2 n2 c2)) := cb_new rfl
  generalize X.alloc _ = Y at *
  have HB2 := Lib.hid (hb1.trans (hb2.mono (by omega)))
  have HC1 := Lib.hid (hC1.new hb2)
  have HC2 := Lib.hid hC2
  rw [hs1] at HC2
  have HK1 := Lib.hid ((h1.on hb1).on hb2)
  have HK2 := Lib.hid ((h2.on hb1).on hb2)
  obtain ⟨x0, x1, x2, x3, x4, x5, x6, x7, x8, x9, x10⟩ := cb_cells (hC1.new hb2)
  obtain ⟨y0, y1, y2, y3, y4, y5, y6, y7, y8, y9, y10⟩ := cb_cells hC2
  simp only at x0 x1 x2 x3 x4 x5 x6 x7 x8 x9 x10 y0 y1 y2 y3 y4 y5 y6 y7 y8 y9 y10
  simp only [hs1] at y0 y1 y2 y3 y4 y5 y6 y7 y8 y9 y10
  clear h1 h2 hb1 hb2 hC1 hC2 hs1
  by_cases hall : vb = vd ∧ cv = dv ∧ ky = kd ∧ vl = wl ∧ fl = gl ∧ ex = fx ∧ id = jd ∧ by_ = cy_ ∧ bt = ct ∧ qt = rt ∧ n1 = n2
  · obtain ⟨rfl, rfl, rfl, rfl, rfl, rfl, rfl, rfl, rfl, rfl, rfl⟩ := hall
    obtain ⟨g1, o1, f1, r1⟩ := HK1.out.at_
    obtain ⟨g2, o2, f2, r2⟩ := HK2.out.at_
    have HN1 := Lib.hid HK1.out.len
    have HN2 := Lib.hid HK2.out.len
    have R1 := Lib.hid r1
    have R2 := Lib.hid r2
    have F1 := Lib.hid (And.intro f1 (And.intro f2 (And.intro HK1.out.cap HK2.out.cap)))
    clear r1 r2 f1 f2 HK1 HK2
    go_wp2_with fail
    go_loopw [5] (fun i wr => ∃ k : Nat, k ≤ n1 ∧ i = .int .i64 k ∧ Hid (ks.take k = kt.take k) ∧ Hid (Below Y.heap.size Y wr)) (fun i _ => n1 - (intOf i).toNat)
    case atStart => exact ⟨0, by omega, rfl, Lib.hid rfl, Lib.hid (Below.refl _ _)⟩
    case round =>
      obtain ⟨k, hk, rfl, hT, hnx⟩ := hrel
      have p1 : wr.cell? ⟨w.heap.size, 1, none⟩ = some (.slice A1 n1 c1) := (HC1.out.new hnx.out).at_ 1 _ rfl
      have p2 : wr.cell? ⟨w.heap.size + 1, 1, none⟩ = some (.slice A2 n1 c2) := (HC2.out.new hnx.out).at_ 1 _ rfl
      clear x0 x1 x2 x3 x4 x5 x6 x7 x8 x9 x10 y0 y1 y2 y3 y4 y5 y6 y7 y8 y9 y10
      have hne : Hid (Below w.heap.size w wr) := Lib.hid (HB2.out.trans (hnx.out.mono HB2.out.size))
      by_cases hlt : k < n1
      · obtain ⟨x, hx⟩ : ∃ x, ks[k]? = some x := ⟨_, List.getElem?_eq_getElem (by have := HN1.out; omega)⟩
        obtain ⟨y, hy⟩ : ∃ y, kt[k]? = some y := ⟨_, List.getElem?_eq_getElem (by have := HN2.out; omega)⟩
        obtain ⟨q1, a1⟩ := R1.out k x hx
        obtain ⟨q2, a2⟩ := R2.out k y hy
        have b1 := (hnx.out.cell (p := ⟨g1, o1 + k, none⟩) q1).trans a1
        have b2 := (hnx.out.cell (p := ⟨g2, o2 + k, none⟩) q2).trans a2
        obtain ⟨rfl, rfl, hc1, hc2⟩ : A1 = some ⟨g1, o1, none⟩ ∧ A2 = some ⟨g2, o2, none⟩ ∧ n1 ≤ c1 ∧ n1 ≤ c2 := ⟨F1.out.1 (by omega), F1.out.2.1 (by omega), F1.out.2.2.1 (by omega), F1.out.2.2.2 (by omega)⟩
        have tx := Lib.hid (take_next hx)
        have ty := Lib.hid (take_next hy)
        have HX := Lib.hid (And.intro hx hy)
        clear a1 a2 q1 q2 hx hy
        by_cases hxy : x = y
        · subst hxy
          go_wp2_with fail
          go_quiet (fail)
          go_wp2
          go_roundw
          case rel => exact ⟨k + 1, by omega, by go_num, Lib.hid (by rw [tx.out, ty.out, hT.out]), Lib.hid (belowNf hnx.out _)⟩
          case measure => simp [intOf]; omega
        · have hne2 : (x == y) = false := beq_eq_false_iff_ne.mpr hxy
          have hres : ¬ ks = kt := by
            rintro rfl
            have e1 := HX.out.1
            rw [HX.out.2] at e1
            injection e1 with e1
            exact hxy e1.symm
          go_wp2_with fail
          go_quiet (fail)
          go_wp2
          go_ret
          refine ⟨?_, belowNf hne.out _⟩
          rw [cmd_ne (fun h => hres h.2.1)]; rfl
      · have hd : decide (k < n1) = false := decide_eq_false hlt
        have hd2 : decide ((k : Int) < (n1 : Int)) = false := decide_eq_false (by omega)
        have hkn : k = n1 := by omega
        go_wp2_with fail
        go_ret
        refine ⟨?_, hne.out⟩
        have := hT.out
        rw [List.take_of_length_le (by have := HN1.out; omega), List.take_of_length_le (by have := HN2.out; omega)] at this
        subst this
        rw [decide_eq_true rfl]; rfl
  · have hkl : ¬ n1 = n2 → ¬ ks = kt := by
      intro h e
      have a1 := HK1.out.len
      have a2 := HK2.out.len
      subst e
      exact h (a1.symm.trans a2)
    have hfin : decide ((⟨vb, ks, cv, ky, vl, fl, ex, id, by_, bt, qt⟩ : Cmd) = ⟨vd, kt, dv, kd, wl, gl, fx, jd, cy_, ct, rt⟩) = false := by
      refine cmd_ne (fun h => ?_)
      obtain ⟨e1, e2, e3, e4, e5, e6, e7, e8, e9, e10, e11⟩ := h
      exact hall ⟨e1, e3, e4, e5, e6, e7, e8, e9, e10, e11, Classical.byContradiction fun h => hkl h e2⟩
    have HFIN := Lib.hid hfin
    clear hfin hkl HK1 HK2
    go_wp2_with fail
    all_goals first
      | (go_ret; refine ⟨?_, HB2.out⟩; rw [HFIN.out]; rfl)
      | (exfalso
         have hnn : ((n1 : Int) != (n2 : Int)) = false := by assumption
         have hnn2 : n1 = n2 := by simp at hnn; omega
         exact hall ⟨by omega, by omega, by assumption, by assumption, by assumption, by assumption, by assumption, by assumption, by assumption, by assumption, hnn2⟩)
set_option maxHeartbeats 8000000 in
set_option maxRecDepth 100000 in
theorem lsameG (c d : Cmd) (A1 A2 : Option Addr) (n1 n2 c1 c2 : Nat) (w : World) (h1 : KyG w A1 n1 c1 c.keys) (h2 : KyG w A2 n2 c2 d.keys) (hn : n1 ≤ maxLen) (hn2 : n2 ≤ maxLen) :
    Calls Tryd.prog 16 #[.agg (cmdC c (.slice A1 n1 c1)).toArray, .agg (cmdC d (.slice A2 n2 c2)).toArray] w fun r w' => r = .returned (.bool (decide (c = d))) ∧ Below w.heap.size w w' := by
  obtain ⟨vb, ks, cv, ky, vl, fl, ex, id, by_, bt, qt⟩ := c
  obtain ⟨vd, kt, dv, kd, wl, gl, fx, jd, cy_, ct, rt⟩ := d
  simp only at h1 h2
  simp only [cmdC]
  unfold maxLen at hn hn2
  have hb1 : Below w.heap.size w (w.alloc (.cells #[.int .u8 vb, .slice A1 n1 c1, .int .u8 cv, .string ⟨ky.toArray⟩, .string ⟨vl.toArray⟩, .int .u32 fl, .int .i64 ex, .int .u64 id, .int .u64 by_, .int .i64 bt, .bool qt] 30)) := (Below.refl _ _).alloc (Nat.le_refl _) _
  have hC1 : Cb (w.alloc (.cells #[.int .u8 vb, .slice A1 n1 c1, .int .u8 cv, .string ⟨ky.toArray⟩, .string ⟨vl.toArray⟩, .int .u32 fl, .int .i64 ex, .int .u64 id, .int .u64 by_, .int .i64 bt, .bool qt] 30)) w.heap.size (cmdC ⟨vb, ks, cv, ky, vl, fl, ex, id, by_, bt, qt⟩ (.slice A1 n1 c1)) := cb_new rfl
  have hs1 : (w.alloc (.cells #[.int .u8 vb, .slice A1 n1 c1, .int .u8 cv, .string ⟨ky.toArray⟩, .string ⟨vl.toArray⟩, .int .u32 fl, .int .i64 ex, .int .u64 id, .int .u64 by_, .int .i64 bt, .bool qt] 30)).heap.size = w.heap.size + 1 := by simp
  go_enter Tryd.func16, Tryd.ntmps16
  go_upto_region 1 with fail
  generalize w.alloc _ = X at *
  have hb2 : Below X.heap.size X (X.alloc (.cells #[.int .u8 vd, .slice A2 n2 c2, .int .u8 dv, .string ⟨kd.toArray⟩, .string ⟨wl.toArray⟩, .int .u32 gl, .int .i64 fx, .int .u64 jd, .int .u64 cy_, .int .i64 ct, .bool rt] 30)) := (Below.refl _ _).alloc (Nat.le_refl _) _
  have hC2 : Cb (X.alloc (.cells #[.int .u8 vd, .slice A2 n2 c2, .int .u8 dv, .string ⟨kd.toArray⟩, .string ⟨wl.toArray⟩, .int .u32 gl, .int .i64 fx, .int .u64 jd, .int .u64 cy_, .int .i64 ct, .bool rt] 30)) X.heap.size (cmdC ⟨vd, kt, dv, kd, wl, gl, fx, jd, cy_, ct, rt⟩ (.slice A2 n2 c2)) := cb_new rfl
  generalize X.alloc _ = Y at *
  have HB2 := Lib.hid (hb1.trans (hb2.mono (by omega)))
  have HC1 := Lib.hid (hC1.new hb2)
  have HC2 := Lib.hid hC2
  rw [hs1] at HC2
  have HK1 := Lib.hid ((h1.on hb1).on hb2)
  have HK2 := Lib.hid ((h2.on hb1).on hb2)
  obtain ⟨x0, x1, x2, x3, x4, x5, x6, x7, x8, x9, x10⟩ := cb_cells (hC1.new hb2)
  obtain ⟨y0, y1, y2, y3, y4, y5, y6, y7, y8, y9, y10⟩ := cb_cells hC2
  simp only at x0 x1 x2 x3 x4 x5 x6 x7 x8 x9 x10 y0 y1 y2 y3 y4 y5 y6 y7 y8 y9 y10
  simp only [hs1] at y0 y1 y2 y3 y4 y5 y6 y7 y8 y9 y10
  clear h1 h2 hb1 hb2 hC1 hC2 hs1
  by_cases hall : vb = vd ∧ cv = dv ∧ ky = kd ∧ vl = wl ∧ fl = gl ∧ ex = fx ∧ id = jd ∧ by_ = cy_ ∧ bt = ct ∧ qt = rt ∧ n1 = n2
  · obtain ⟨rfl, rfl, rfl, rfl, rfl, rfl, rfl, rfl, rfl, rfl, rfl⟩ := hall
    obtain ⟨g1, o1, f1, r1⟩ := HK1.out.at_
    obtain ⟨g2, o2, f2, r2⟩ := HK2.out.at_
    have HN1 := Lib.hid HK1.out.len
    have HN2 := Lib.hid HK2.out.len
    have R1 := Lib.hid r1
    have R2 := Lib.hid r2
    have F1 := Lib.hid (And.intro f1 (And.intro f2 (And.intro HK1.out.cap HK2.out.cap)))
    clear r1 r2 f1 f2 HK1 HK2
    go_wp2_with fail
    go_loopw [5] (fun i wr => ∃ k : Nat, k ≤ n1 ∧ i = .int .i64 k ∧ Hid (ks.take k = kt.take k) ∧ Hid (Below Y.heap.size Y wr)) (fun i _ => n1 - (intOf i).toNat)
    case atStart => exact ⟨0, by omega, rfl, Lib.hid rfl, Lib.hid (Below.refl _ _)⟩
    case round =>
      obtain ⟨k, hk, rfl, hT, hnx⟩ := hrel
      have p1 : wr.cell? ⟨w.heap.size, 1, none⟩ = some (.slice A1 n1 c1) := (HC1.out.new hnx.out).at_ 1 _ rfl
      have p2 : wr.cell? ⟨w.heap.size + 1, 1, none⟩ = some (.slice A2 n1 c2) := (HC2.out.new hnx.out).at_ 1 _ rfl
      clear x0 x1 x2 x3 x4 x5 x6 x7 x8 x9 x10 y0 y1 y2 y3 y4 y5 y6 y7 y8 y9 y10
      have hne : Hid (Below w.heap.size w wr) := Lib.hid (HB2.out.trans (hnx.out.mono HB2.out.size))
      by_cases hlt : k < n1
      · obtain ⟨x, hx⟩ : ∃ x, ks[k]? = some x := ⟨_, List.getElem?_eq_getElem (by have := HN1.out; omega)⟩
        obtain ⟨y, hy⟩ : ∃ y, kt[k]? = some y := ⟨_, List.getElem?_eq_getElem (by have := HN2.out; omega)⟩
        obtain ⟨q1, a1⟩ := R1.out k x hx
        obtain ⟨q2, a2⟩ := R2.out k y hy
        have b1 := (hnx.out.cell (p := ⟨g1, o1 + k, none⟩) q1).trans a1
        have b2 := (hnx.out.cell (p := ⟨g2, o2 + k, none⟩) q2).trans a2
        obtain ⟨rfl, rfl, hc1, hc2⟩ : A1 = some ⟨g1, o1, none⟩ ∧ A2 = some ⟨g2, o2, none⟩ ∧ n1 ≤ c1 ∧ n1 ≤ c2 := ⟨F1.out.1 (by omega), F1.out.2.1 (by omega), F1.out.2.2.1 (by omega), F1.out.2.2.2 (by omega)⟩
        have tx := Lib.hid (take_next hx)
        have ty := Lib.hid (take_next hy)
        have HX := Lib.hid (And.intro hx hy)
        clear a1 a2 q1 q2 hx hy
        by_cases hxy : x = y
        · subst hxy
          go_wp2_with fail
          go_quiet (fail)
          go_wp2
          go_roundw
          case rel => exact ⟨k + 1, by omega, by go_num, Lib.hid (by rw [tx.out, ty.out, hT.out]), Lib.hid (belowNf hnx.out _)⟩
          case measure => simp [intOf]; omega
        · have hne2 : (x == y) = false := beq_eq_false_iff_ne.mpr hxy
          have hres : ¬ ks = kt := by
            rintro rfl
            have e1 := HX.out.1
            rw [HX.out.2] at e1
            injection e1 with e1
            exact hxy e1.symm
          go_wp2_with fail
          go_quiet (fail)
          go_wp2
          go_ret
          refine ⟨?_, belowNf hne.out _⟩
          rw [cmd_ne (fun h => hres h.2.1)]; rfl
      · have hd : decide (k < n1) = false := decide_eq_false hlt
        have hd2 : decide ((k : Int) < (n1 : Int)) = false := decide_eq_false (by omega)
        have hkn : k = n1 := by omega
        go_wp2_with fail
        go_ret
        refine ⟨?_, hne.out⟩
        have := hT.out
        rw [List.take_of_length_le (by have := HN1.out; omega), List.take_of_length_le (by have := HN2.out; omega)] at this
        subst this
        rw [decide_eq_true rfl]; rfl
  · have hkl : ¬ n1 = n2 → ¬ ks = kt := by
      intro h e
      have a1 := HK1.out.len
      have a2 := HK2.out.len
      subst e
      exact h (a1.symm.trans a2)
    have hfin : decide ((⟨vb, ks, cv, ky, vl, fl, ex, id, by_, bt, qt⟩ : Cmd) = ⟨vd, kt, dv, kd, wl, gl, fx, jd, cy_, ct, rt⟩) = false := by
      refine cmd_ne (fun h => ?_)
      obtain ⟨e1, e2, e3, e4, e5, e6, e7, e8, e9, e10, e11⟩ := h
      exact hall ⟨e1, e3, e4, e5, e6, e7, e8, e9, e10, e11, Classical.byContradiction fun h => hkl h e2⟩
    have HFIN := Lib.hid hfin
    clear hfin hkl HK1 HK2
    go_wp2_with fail
    all_goals first
      | (go_ret; refine ⟨?_, HB2.out⟩; rw [HFIN.out]; rfl)
      | (exfalso
         have hnn : ((n1 : Int) != (n2 : Int)) = false := by assumption
         have hnn2 : n1 = n2 := by simp at hnn; omega
         exact hall ⟨by omega, by omega, by assumption, by assumption, by assumption, by assumption, by assumption, by assumption, by assumption, by assumption, hnn2⟩)
end Go.Proofs.YtifbcejekdhnlaaDoor
/- Next: Lines: a command that is an argument: its keys, its numbers; what the law counts of its keys. -/
namespace Go.Proofs.YtifbcejekdhnlaaDoor
open Go.RowKit Go.Maps
set_option linter.unusedVariables false

theorem reads_keys {P : Program} {w : World} {t e : TypeId} {a : Option Addr} {len cap : Nat} (ht : P.underlying t = some (.slice e)) (hk : leaves P 9 e = some [.inr (.inl true)]) (hc : P.cellsOf e = 1) (h : Reads P w t (.slice a len cap)) :
    len ≤ maxLen ∧ ∃ ks : List (List UInt8), KyG w a len cap ks ∧ ∀ x ∈ ks, x.length ≤ maxLen := by
  rcases Reads.slice ht hk h with ⟨_, rfl, _⟩ | ⟨b, off, sp, rfl, h1, h2, h3, h4⟩
  · exact ⟨by simp [maxLen], [], ⟨rfl, fun h => by omega, 0, 0, fun h => by omega, fun k x hx => by simp at hx⟩, fun x hx => by simp at hx⟩
  · have hat : ∀ i, i < len → ∃ s : ByteArray, s.size ≤ maxLen ∧ w.cell? ⟨b, off + i, none⟩ = some (.string s) := fun i hi => by
      obtain ⟨l, hl, hll, hx⟩ := h4 i (by omega)
      obtain ⟨c, l', rfl, ⟨s, rfl, hw⟩, h0⟩ := all2_cons hl
      have hsp := h3 (by omega) (by omega)
      have := hx 0 (.string s) rfl
      rw [hc] at this
      exact ⟨s, hw, by simpa [hsp] using this⟩
    refine ⟨by omega, (List.range len).map (fun i => match w.cell? ⟨b, off + i, none⟩ with | some (.string s) => s.data.toList | _ => []), ⟨by simp, fun _ => by omega, b, off, fun h => by rw [h3 (by omega) (by omega)], fun k x hx => ?_⟩, fun x hx => ?_⟩
    · rw [List.getElem?_map] at hx
      have hkl : k < len := by
        rcases Nat.lt_or_ge k len with h | h
        · exact h
        · rw [List.getElem?_eq_none (by simpa using h)] at hx; simp at hx
      rw [List.getElem?_range hkl] at hx
      obtain ⟨s, hs, hcell⟩ := hat k hkl
      simp only [Option.map_some, hcell] at hx
      injection hx with hx
      subst hx
      refine ⟨World.block_lt_of_cell? _ _ hcell, ?_⟩
      rw [hcell]
    · obtain ⟨i, hi, rfl⟩ := List.mem_map.mp hx
      obtain ⟨s, hs, hcell⟩ := hat i (by simpa using hi)
      simp only [hcell]
      have : s.data.toList.length = s.size := by simp
      omega
/-- A string as a list's. -/
theorem str_list (s : ByteArray) : (⟨s.data.toList.toArray⟩ : ByteArray) = s := by simp
/-- What the law counts of a command's keys. -/
def cntK : List (List UInt8) → Nat
  | [] => 0
  | x :: r => min x.length 40000 + cntK r
theorem cntK_app : ∀ (a b : List (List UInt8)), cntK (a ++ b) = cntK a + cntK b
  | [], b => by simp [cntK]
  | x :: a, b => by rw [List.cons_append]; simp only [cntK]; rw [cntK_app a b]; omega
theorem cntK_next {l : List (List UInt8)} {k : Nat} {x : List UInt8} (h : l[k]? = some x) : cntK (l.take (k + 1)) = cntK (l.take k) + min x.length 40000 := by
  rw [take_next h, cntK_app]; simp [cntK]
theorem cntK_le : ∀ (l : List (List UInt8)), cntK l ≤ l.length * 40000
  | [] => by simp [cntK]
  | x :: r => by have := cntK_le r; simp only [cntK, List.length_cons]; omega
theorem cntK_tot : ∀ (l : List (List UInt8)), cntK l ≤ 30000 → tot l ≤ cntK l + l.length
  | [], _ => by simp [cntK, tot]
  | x :: r, h => by
    simp only [cntK] at h
    have := cntK_tot r (by omega)
    simp only [cntK, tot, List.length_cons]
    omega
theorem cntK_take (l : List (List UInt8)) (k : Nat) : cntK (l.take k) ≤ 40000 * k := by
  have := cntK_le (l.take k)
  rw [List.length_take] at this
  have h2 : min k l.length ≤ k := Nat.min_le_left _ _
  have h3 : min k l.length * 40000 ≤ k * 40000 := Nat.mul_le_mul_right _ h2
  omega
/-- Numbers of a command that was read are in their ranges. -/
theorem readF_cmr {f : Nat} {x : List UInt8} {c d : Cmd} (h : readF f x c = some d) (hc : CmR c) : CmR d := by
  obtain ⟨q1, q2, q3, q4, q5⟩ := hc
  have r := parseF_range x
  have r2 : 0 ≤ (p32F x).1 ∧ (p32F x).1 ≤ 4294967295 := by
    unfold p32F
    split
    · simp
    · next h => constructor
                · exact r.1
                · omega
  have r3 : -9223372036854775808 ≤ (signedF x).1 ∧ (signedF x).1 ≤ 9223372036854775807 := by
    have rt := parseF_range x.tail
    unfold signedF signedOf
    repeat' split
    all_goals simp only
    all_goals omega
  unfold readF at h
  repeat' split at h
  all_goals first
    | (injection h with h; subst h; exact ⟨by first | exact r2 | exact q1, by first | exact r3 | exact q2, by first | exact q3 | (simp only; omega), by first | exact q4 | exact r, by first | exact q5 | exact r⟩)
    | simp at h
theorem readFs_cmr : ∀ (fs : List Nat) (xs : List (List UInt8)) (c : Cmd), CmR c → CmR (readFs fs xs c).1
  | [], xs, c, h => by rw [ll_none]; split <;> exact h
  | f :: fs, [], c, h => by rw [ll_end]; split <;> exact h
  | f :: fs, x :: xs, c, h => by
    cases hr : readF f x c with
    | none => simp only [readFs, hr]; exact ⟨by decide, by decide, by decide, by decide, by decide⟩
    | some d =>
      rw [ll_go hr]
      exact readFs_cmr fs xs d (readF_cmr hr h)
theorem parse_cmr (l : List UInt8) : CmR (parseC l).1 := by
  have h0 : CmR Cmd.none := ⟨by decide, by decide, by decide, by decide, by decide⟩
  unfold parseC
  split
  · exact h0
  unfold parseN
  split
  · exact h0
  split
  · exact h0
  unfold parseW keyedW
  split
  · exact h0
  split
  · refine readFs_cmr _ _ _ ⟨?_, ?_, ?_, ?_, ?_⟩ <;> simp [beginW]
  · exact h0
theorem parse_none (l : List UInt8) (h0 : (parseC l).2 ≠ 0) (h5 : (parseC l).2 ≠ 5) : (parseC l).1 = Cmd.none := by
  unfold parseC at h0 h5 ⊢
  split
  · rfl
  next hl =>
  rw [if_neg hl] at h0 h5
  unfold parseN at h0 h5 ⊢
  split
  · rfl
  next n ws hw =>
  simp only [hw] at h0 h5
  split
  · rfl
  next f hf =>
  simp only [hf] at h0 h5
  unfold parseW keyedW at h0 h5 ⊢
  split
  · rfl
  next hlen =>
  rw [if_neg hlen] at h0 h5
  split
  · next hall =>
    rw [if_pos hall] at h0 h5
    exact (readFs_fault _ _ _ (by rintro (h | h); exact h0 h; exact h5 h)).1
  · rfl
theorem none_line : lineO Cmd.none = none := by decide +kernel
/-- A command has a line only where nothing is told. -/
theorem line_told {l : List UInt8} {c : Cmd} {t : Nat} (h : parseC l = (c, t)) (ht : t ≠ 0) : lineO c = none := by
  cases hl : lineO c with
  | none => rfl
  | some s =>
    exfalso
    have hp := line_some hl
    have hb := (parseC_ok s).none (by rw [hp])
    rw [hp] at hb
    by_cases h5 : t = 5
    · have := (parseC_ok l).large (by rw [h]; exact h5)
      rw [h] at this
      simp only at this hb
      omega
    · have := parse_none l (by rw [h]; exact ht) (by rw [h]; exact h5)
      rw [h] at this
      simp only at this
      rw [this, none_line] at hl
      simp at hl
theorem tot_ok : ∀ (l : List (List UInt8)), l.all okF = true → tot l ≤ l.length * 251
  | [], _ => by simp [tot]
  | x :: r, h => by
    rw [List.all_cons, Bool.and_eq_true] at h
    have h1 := tot_ok r h.2
    have h2 := (ll_facts h.1).2.1
    simp only [tot, List.length_cons]; omega
/-- The keys of a command that was read are not long. -/
theorem parse_tot (l : List UInt8) : tot (parseC l).1.keys ≤ 20000 := by
  have h0 : tot Cmd.none.keys ≤ 20000 := by decide
  unfold parseC
  split
  · exact h0
  unfold parseN
  split
  · exact h0
  next n ws hws =>
  split
  · exact h0
  next f hf =>
  unfold parseW keyedW
  split
  · exact h0
  split
  · next hall =>
    by_cases ht : (readFs f.fields ((restW f ws).drop f.most) (beginW f (quietW f ws) ((restW f ws).take f.most))).2 = 0 ∨ (readFs f.fields ((restW f ws).drop f.most) (beginW f (quietW f ws) ((restW f ws).take f.most))).2 = 5
    · rw [readFs_keys _ _ _ ht]
      have h1 := tot_ok _ hall
      have h2 : f.most ≤ 64 := tbF_most _ (formIn_in hf)
      rw [List.length_take] at h1
      show tot ((restW f ws).take f.most) ≤ _
      have h3 : min f.most (restW f ws).length ≤ 64 := Nat.le_trans (Nat.min_le_left _ _) h2
      have h4 := Nat.mul_le_mul_right 251 h3
      omega
    · rw [(readFs_fault _ _ _ ht).1]; exact h0
  · exact h0
end Go.Proofs.YtifbcejekdhnlaaDoor
