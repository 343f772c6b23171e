/- Tells: the lines that there are, as maps. -/
import Derived.Test.YtcmogfdbjppdeaaDoorChecked
import Derived.Test.YtcmogfdbjppdeaaDoorLib
import Derived.Maps.OwnSet
import Derived.Maps.OwnOps
namespace Go.Proofs.YtcmogfdbjppdeaaDoor
open Go.RowKit Go.Maps
set_option linter.unusedVariables false

/-- How a line reads: by its text. -/
def tR : Value → Option (DataW Unit × List MemPlace)
  | .agg ⟨[.string s]⟩ => some (.lit (.string s.data.toList), [])
  | _ => none
theorem tR_inv {v : Value} {l : List UInt8} {ps : List MemPlace} (h : tR v = some (.lit (.string l), ps)) : v = .agg #[.string ⟨l.toArray⟩] := by
  unfold tR at h
  split at h
  · next s =>
    simp at h
    obtain ⟨rfl, _⟩ := h
    rfl
  · simp at h
theorem wpList_insert_own {H : Type} {P : Program} (w : World) {ops : Array Oper} {rest : List Oper} {o : Oper} {a : Act} {Q : Exit → Act → World → Prop}
    (hg : o.guard = none) (m x v : Operand) (t : TypeId) (hop : o.op = Op.insert t m x v)
    (k e : TypeId) (K : Keyed P k) (ht : P.underlying t = some (.map k e)) (R : Value → Option (DataW H × List MemPlace)) (b n : Nat) (D : DataW H)
    (hm : a.eval m = .map (some b)) (hown : w.ownsMap P k R b n D) (hn : n < maxLen) (key val : Value) (kl : Lit) (hx : a.eval x = key) (hv : a.eval v = val) (hkey : keyOf P k key = some kl)
    (d : DataW H) (ps : List MemPlace) (hval : R val = some (d, ps))
    (hK : ∀ w', w'.ownsMap P k R b (n + 1) (D.put kl d) → w.grownBy w' (some b) → wpList P ops Q rest (a.put o.dst undef) w') :
    wpList P ops Q (o :: rest) a w := by
  refine wpList_plain hg fun K' hK' => ?_
  obtain ⟨w', hrun, r1, r2⟩ := hown.update K ht hn hkey hval
  unfold Oper.wp
  simp [execOp, hop, hm, hx, hv, hrun, Result.andThen]
  exact hK' _ _ (hK w' r1 r2)
/-- Texts by their numbers. -/
def putAll (D : DataW Unit) : List (Int × List UInt8) → DataW Unit
  | [] => D
  | x :: xs => putAll (D.put (.int .u8 x.1) (.lit (.string x.2))) xs
def textOf : List (Int × List UInt8) → Int → Option (List UInt8)
  | [], _ => none
  | x :: xs, t => if x.1 = t then some x.2 else textOf xs t
theorem keyne {a b : Int} (h : a ≠ b) : (Lit.int .u8 a) ≠ Lit.int .u8 b := fun e => h (by injection e)
theorem putAll_has (t : Int) : ∀ (xs : List (Int × List UInt8)) (D : DataW Unit), textOf xs t = none → Maps.has (putAll D xs) (.int .u8 t) = Maps.has D (.int .u8 t) ∧ (putAll D xs).atKey (.int .u8 t) (.lit (.string [])) = D.atKey (.int .u8 t) (.lit (.string []))
  | [], D, _ => ⟨rfl, rfl⟩
  | x :: xs, D, h => by
    unfold textOf at h
    split at h
    · simp at h
    · next hne =>
      obtain ⟨h1, h2⟩ := putAll_has t xs (D.put (.int .u8 x.1) (.lit (.string x.2))) h
      exact ⟨h1.trans (Maps.has_put_other (keyne fun e => hne e.symm) _), h2.trans (Maps.atKey_put_other (keyne fun e => hne e.symm) _ _)⟩
/-- No number twice. -/
def once : List (Int × List UInt8) → Prop
  | [] => True
  | x :: xs => textOf xs x.1 = none ∧ once xs
theorem putAll_hit (t : Int) (l : List UInt8) : ∀ (xs : List (Int × List UInt8)) (D : DataW Unit), Maps.IsMap D → once xs → textOf xs t = some l → Maps.has (putAll D xs) (.int .u8 t) = true ∧ (putAll D xs).atKey (.int .u8 t) (.lit (.string [])) = .lit (.string l)
  | [], D, _, _, h => by simp [textOf] at h
  | x :: xs, D, hm, ho, h => by
    unfold textOf at h
    split at h
    · next he =>
      subst he
      injection h with h
      subst h
      have hk : WideAt.IsKeyLit (Lit.int .u8 x.1) := trivial
      obtain ⟨h1, h2⟩ := putAll_has x.1 xs (D.put (.int .u8 x.1) (.lit (.string x.2))) ho.1
      exact ⟨h1.trans (Maps.has_put_same hm hk _), h2.trans (Maps.atKey_put_same hm hk _ _)⟩
    · exact putAll_hit t l xs _ (by obtain ⟨es, rfl⟩ := hm; exact ⟨_, rfl⟩) ho.2 h
theorem zeroL (w : World) : (zeroValue 58).run Tryd.prog w = .ok (.agg #[.string ByteArray.empty]) w := by kernel_rfl

def linesT : List (Int × List UInt8) := [(1, [69, 82, 82, 79, 82]), (2, [67, 76, 73, 69, 78, 84, 95, 69, 82, 82, 79, 82, 32, 98, 97, 100, 32, 99, 111, 109, 109, 97, 110, 100, 32, 108, 105, 110, 101, 32, 102, 111, 114, 109, 97, 116]), (3, [67, 76, 73, 69, 78, 84, 95, 69, 82, 82, 79, 82, 32, 108, 105, 110, 101, 32, 116, 111, 111, 32, 108, 111, 110, 103]), (4, [67, 76, 73, 69, 78, 84, 95, 69, 82, 82, 79, 82, 32, 105, 110, 118, 97, 108, 105, 100, 32, 110, 117, 109, 101, 114, 105, 99, 32, 100, 101, 108, 116, 97, 32, 97, 114, 103, 117, 109, 101, 110, 116]), (5, [83, 69, 82, 86, 69, 82, 95, 69, 82, 82, 79, 82, 32, 111, 98, 106, 101, 99, 116, 32, 116, 111, 111, 32, 108, 97, 114, 103, 101, 32, 102, 111, 114, 32, 99, 97, 99, 104, 101]), (6, [67, 76, 73, 69, 78, 84, 95, 69, 82, 82, 79, 82, 32, 98, 97, 100, 32, 100, 97, 116, 97, 32, 99, 104, 117, 110, 107])]
theorem law_linesT : Keyed Tryd.prog 37 := int_keyed Tryd.underlying37
theorem key_linesT {t : Int} (h0 : 0 ≤ t) (h1 : t ≤ 255) : keyOf Tryd.prog 37 (.int .u8 t) = some (.int .u8 t) := keyOf_int_mk Tryd.underlying37 (WalkArith.wf_u8 ⟨h0, by omega⟩)
set_option maxHeartbeats 2000000 in
set_option maxRecDepth 100000 in
theorem made_linesT (w : World) : Calls Tryd.prog 27 #[] w fun e w' => e = .returned (.map (some w.heap.size)) ∧ w'.ownsMap Tryd.prog 37 tR w.heap.size 6 (putAll (.map []) linesT) ∧ Below w.heap.size w w' := by
  have hmm := @run_makeMap Tryd.prog
  obtain ⟨B, hB⟩ : ∃ B, B = w.heap.size := ⟨_, rfl⟩
  have own0 : (w.alloc (.map #[] 0)).ownsMap Tryd.prog 37 tR w.heap.size 0 (.map []) := World.ownsMap_made _ _ _ _
  have b0 : Below w.heap.size w (w.alloc (.map #[] 0)) := (Below.refl _ _).alloc (Nat.le_refl _) _
  go_enter Tryd.func27, Tryd.ntmps27
  go_wp2_with (first
    | (refine wpList_insert_own _ rfl (.tmp 1) (.const (.int .u8 1)) (.tmp 2) 60 rfl 37 58 law_linesT Tryd.underlying60 tR w.heap.size 0 _ rfl own0 (by unfold maxLen; decide) (.int .u8 1) (.agg #[.string ⟨#[69, 82, 82, 79, 82]⟩]) (.int .u8 1) rfl rfl (key_linesT (by decide) (by decide)) (.lit (.string [69, 82, 82, 79, 82])) [] rfl ?_; intro w1 own1 g1; have b1 := b0.grown g1 b0.size (fun k hk => by simp at hk; omega))
    | (refine wpList_insert_own _ rfl (.tmp 1) (.const (.int .u8 2)) (.tmp 3) 60 rfl 37 58 law_linesT Tryd.underlying60 tR w.heap.size 1 _ rfl own1 (by unfold maxLen; decide) (.int .u8 2) (.agg #[.string ⟨#[67, 76, 73, 69, 78, 84, 95, 69, 82, 82, 79, 82, 32, 98, 97, 100, 32, 99, 111, 109, 109, 97, 110, 100, 32, 108, 105, 110, 101, 32, 102, 111, 114, 109, 97, 116]⟩]) (.int .u8 2) rfl rfl (key_linesT (by decide) (by decide)) (.lit (.string [67, 76, 73, 69, 78, 84, 95, 69, 82, 82, 79, 82, 32, 98, 97, 100, 32, 99, 111, 109, 109, 97, 110, 100, 32, 108, 105, 110, 101, 32, 102, 111, 114, 109, 97, 116])) [] rfl ?_; intro w2 own2 g2; have b2 := b1.grown g2 b1.size (fun k hk => by simp at hk; omega))
    | (refine wpList_insert_own _ rfl (.tmp 1) (.const (.int .u8 3)) (.tmp 4) 60 rfl 37 58 law_linesT Tryd.underlying60 tR w.heap.size 2 _ rfl own2 (by unfold maxLen; decide) (.int .u8 3) (.agg #[.string ⟨#[67, 76, 73, 69, 78, 84, 95, 69, 82, 82, 79, 82, 32, 108, 105, 110, 101, 32, 116, 111, 111, 32, 108, 111, 110, 103]⟩]) (.int .u8 3) rfl rfl (key_linesT (by decide) (by decide)) (.lit (.string [67, 76, 73, 69, 78, 84, 95, 69, 82, 82, 79, 82, 32, 108, 105, 110, 101, 32, 116, 111, 111, 32, 108, 111, 110, 103])) [] rfl ?_; intro w3 own3 g3; have b3 := b2.grown g3 b2.size (fun k hk => by simp at hk; omega))
    | (refine wpList_insert_own _ rfl (.tmp 1) (.const (.int .u8 4)) (.tmp 5) 60 rfl 37 58 law_linesT Tryd.underlying60 tR w.heap.size 3 _ rfl own3 (by unfold maxLen; decide) (.int .u8 4) (.agg #[.string ⟨#[67, 76, 73, 69, 78, 84, 95, 69, 82, 82, 79, 82, 32, 105, 110, 118, 97, 108, 105, 100, 32, 110, 117, 109, 101, 114, 105, 99, 32, 100, 101, 108, 116, 97, 32, 97, 114, 103, 117, 109, 101, 110, 116]⟩]) (.int .u8 4) rfl rfl (key_linesT (by decide) (by decide)) (.lit (.string [67, 76, 73, 69, 78, 84, 95, 69, 82, 82, 79, 82, 32, 105, 110, 118, 97, 108, 105, 100, 32, 110, 117, 109, 101, 114, 105, 99, 32, 100, 101, 108, 116, 97, 32, 97, 114, 103, 117, 109, 101, 110, 116])) [] rfl ?_; intro w4 own4 g4; have b4 := b3.grown g4 b3.size (fun k hk => by simp at hk; omega))
    | (refine wpList_insert_own _ rfl (.tmp 1) (.const (.int .u8 5)) (.tmp 6) 60 rfl 37 58 law_linesT Tryd.underlying60 tR w.heap.size 4 _ rfl own4 (by unfold maxLen; decide) (.int .u8 5) (.agg #[.string ⟨#[83, 69, 82, 86, 69, 82, 95, 69, 82, 82, 79, 82, 32, 111, 98, 106, 101, 99, 116, 32, 116, 111, 111, 32, 108, 97, 114, 103, 101, 32, 102, 111, 114, 32, 99, 97, 99, 104, 101]⟩]) (.int .u8 5) rfl rfl (key_linesT (by decide) (by decide)) (.lit (.string [83, 69, 82, 86, 69, 82, 95, 69, 82, 82, 79, 82, 32, 111, 98, 106, 101, 99, 116, 32, 116, 111, 111, 32, 108, 97, 114, 103, 101, 32, 102, 111, 114, 32, 99, 97, 99, 104, 101])) [] rfl ?_; intro w5 own5 g5; have b5 := b4.grown g5 b4.size (fun k hk => by simp at hk; omega))
    | (refine wpList_insert_own _ rfl (.tmp 1) (.const (.int .u8 6)) (.tmp 7) 60 rfl 37 58 law_linesT Tryd.underlying60 tR w.heap.size 5 _ rfl own5 (by unfold maxLen; decide) (.int .u8 6) (.agg #[.string ⟨#[67, 76, 73, 69, 78, 84, 95, 69, 82, 82, 79, 82, 32, 98, 97, 100, 32, 100, 97, 116, 97, 32, 99, 104, 117, 110, 107]⟩]) (.int .u8 6) rfl rfl (key_linesT (by decide) (by decide)) (.lit (.string [67, 76, 73, 69, 78, 84, 95, 69, 82, 82, 79, 82, 32, 98, 97, 100, 32, 100, 97, 116, 97, 32, 99, 104, 117, 110, 107])) [] rfl ?_; intro w6 own6 g6; have b6 := b5.grown g6 b5.size (fun k hk => by simp at hk; omega)))
  go_ret
  exact ⟨rfl, own6, b6⟩

def answersT : List (Int × List UInt8) := [(1, [83, 84, 79, 82, 69, 68]), (2, [78, 79, 84, 95, 83, 84, 79, 82, 69, 68]), (3, [69, 88, 73, 83, 84, 83]), (4, [78, 79, 84, 95, 70, 79, 85, 78, 68]), (5, [83, 69, 82, 86, 69, 82, 95, 69, 82, 82, 79, 82, 32, 111, 117, 116, 32, 111, 102, 32, 109, 101, 109, 111, 114, 121, 32, 115, 116, 111, 114, 105, 110, 103, 32, 111, 98, 106, 101, 99, 116]), (6, [68, 69, 76, 69, 84, 69, 68]), (7, [84, 79, 85, 67, 72, 69, 68]), (9, [67, 76, 73, 69, 78, 84, 95, 69, 82, 82, 79, 82, 32, 99, 97, 110, 110, 111, 116, 32, 105, 110, 99, 114, 101, 109, 101, 110, 116, 32, 111, 114, 32, 100, 101, 99, 114, 101, 109, 101, 110, 116, 32, 110, 111, 110, 45, 110, 117, 109, 101, 114, 105, 99, 32, 118, 97, 108, 117, 101]), (10, [79, 75])]
theorem law_answersT : Keyed Tryd.prog 30 := int_keyed Tryd.underlying30
theorem key_answersT {t : Int} (h0 : 0 ≤ t) (h1 : t ≤ 255) : keyOf Tryd.prog 30 (.int .u8 t) = some (.int .u8 t) := keyOf_int_mk Tryd.underlying30 (WalkArith.wf_u8 ⟨h0, by omega⟩)
set_option maxHeartbeats 2000000 in
set_option maxRecDepth 100000 in
theorem made_answersT (w : World) : Calls Tryd.prog 30 #[] w fun e w' => e = .returned (.map (some w.heap.size)) ∧ w'.ownsMap Tryd.prog 30 tR w.heap.size 9 (putAll (.map []) answersT) ∧ Below w.heap.size w w' := by
  have hmm := @run_makeMap Tryd.prog
  obtain ⟨B, hB⟩ : ∃ B, B = w.heap.size := ⟨_, rfl⟩
  have own0 : (w.alloc (.map #[] 0)).ownsMap Tryd.prog 30 tR w.heap.size 0 (.map []) := World.ownsMap_made _ _ _ _
  have b0 : Below w.heap.size w (w.alloc (.map #[] 0)) := (Below.refl _ _).alloc (Nat.le_refl _) _
  go_enter Tryd.func30, Tryd.ntmps30
  go_wp2_with (first
    | (refine wpList_insert_own _ rfl (.tmp 1) (.const (.int .u8 1)) (.tmp 2) 64 rfl 30 58 law_answersT Tryd.underlying64 tR w.heap.size 0 _ rfl own0 (by unfold maxLen; decide) (.int .u8 1) (.agg #[.string ⟨#[83, 84, 79, 82, 69, 68]⟩]) (.int .u8 1) rfl rfl (key_answersT (by decide) (by decide)) (.lit (.string [83, 84, 79, 82, 69, 68])) [] rfl ?_; intro w1 own1 g1; have b1 := b0.grown g1 b0.size (fun k hk => by simp at hk; omega))
    | (refine wpList_insert_own _ rfl (.tmp 1) (.const (.int .u8 2)) (.tmp 3) 64 rfl 30 58 law_answersT Tryd.underlying64 tR w.heap.size 1 _ rfl own1 (by unfold maxLen; decide) (.int .u8 2) (.agg #[.string ⟨#[78, 79, 84, 95, 83, 84, 79, 82, 69, 68]⟩]) (.int .u8 2) rfl rfl (key_answersT (by decide) (by decide)) (.lit (.string [78, 79, 84, 95, 83, 84, 79, 82, 69, 68])) [] rfl ?_; intro w2 own2 g2; have b2 := b1.grown g2 b1.size (fun k hk => by simp at hk; omega))
    | (refine wpList_insert_own _ rfl (.tmp 1) (.const (.int .u8 3)) (.tmp 4) 64 rfl 30 58 law_answersT Tryd.underlying64 tR w.heap.size 2 _ rfl own2 (by unfold maxLen; decide) (.int .u8 3) (.agg #[.string ⟨#[69, 88, 73, 83, 84, 83]⟩]) (.int .u8 3) rfl rfl (key_answersT (by decide) (by decide)) (.lit (.string [69, 88, 73, 83, 84, 83])) [] rfl ?_; intro w3 own3 g3; have b3 := b2.grown g3 b2.size (fun k hk => by simp at hk; omega))
    | (refine wpList_insert_own _ rfl (.tmp 1) (.const (.int .u8 4)) (.tmp 5) 64 rfl 30 58 law_answersT Tryd.underlying64 tR w.heap.size 3 _ rfl own3 (by unfold maxLen; decide) (.int .u8 4) (.agg #[.string ⟨#[78, 79, 84, 95, 70, 79, 85, 78, 68]⟩]) (.int .u8 4) rfl rfl (key_answersT (by decide) (by decide)) (.lit (.string [78, 79, 84, 95, 70, 79, 85, 78, 68])) [] rfl ?_; intro w4 own4 g4; have b4 := b3.grown g4 b3.size (fun k hk => by simp at hk; omega))
    | (refine wpList_insert_own _ rfl (.tmp 1) (.const (.int .u8 5)) (.tmp 6) 64 rfl 30 58 law_answersT Tryd.underlying64 tR w.heap.size 4 _ rfl own4 (by unfold maxLen; decide) (.int .u8 5) (.agg #[.string ⟨#[83, 69, 82, 86, 69, 82, 95, 69, 82, 82, 79, 82, 32, 111, 117, 116, 32, 111, 102, 32, 109, 101, 109, 111, 114, 121, 32, 115, 116, 111, 114, 105, 110, 103, 32, 111, 98, 106, 101, 99, 116]⟩]) (.int .u8 5) rfl rfl (key_answersT (by decide) (by decide)) (.lit (.string [83, 69, 82, 86, 69, 82, 95, 69, 82, 82, 79, 82, 32, 111, 117, 116, 32, 111, 102, 32, 109, 101, 109, 111, 114, 121, 32, 115, 116, 111, 114, 105, 110, 103, 32, 111, 98, 106, 101, 99, 116])) [] rfl ?_; intro w5 own5 g5; have b5 := b4.grown g5 b4.size (fun k hk => by simp at hk; omega))
    | (refine wpList_insert_own _ rfl (.tmp 1) (.const (.int .u8 6)) (.tmp 7) 64 rfl 30 58 law_answersT Tryd.underlying64 tR w.heap.size 5 _ rfl own5 (by unfold maxLen; decide) (.int .u8 6) (.agg #[.string ⟨#[68, 69, 76, 69, 84, 69, 68]⟩]) (.int .u8 6) rfl rfl (key_answersT (by decide) (by decide)) (.lit (.string [68, 69, 76, 69, 84, 69, 68])) [] rfl ?_; intro w6 own6 g6; have b6 := b5.grown g6 b5.size (fun k hk => by simp at hk; omega))
    | (refine wpList_insert_own _ rfl (.tmp 1) (.const (.int .u8 7)) (.tmp 8) 64 rfl 30 58 law_answersT Tryd.underlying64 tR w.heap.size 6 _ rfl own6 (by unfold maxLen; decide) (.int .u8 7) (.agg #[.string ⟨#[84, 79, 85, 67, 72, 69, 68]⟩]) (.int .u8 7) rfl rfl (key_answersT (by decide) (by decide)) (.lit (.string [84, 79, 85, 67, 72, 69, 68])) [] rfl ?_; intro w7 own7 g7; have b7 := b6.grown g7 b6.size (fun k hk => by simp at hk; omega))
    | (refine wpList_insert_own _ rfl (.tmp 1) (.const (.int .u8 9)) (.tmp 9) 64 rfl 30 58 law_answersT Tryd.underlying64 tR w.heap.size 7 _ rfl own7 (by unfold maxLen; decide) (.int .u8 9) (.agg #[.string ⟨#[67, 76, 73, 69, 78, 84, 95, 69, 82, 82, 79, 82, 32, 99, 97, 110, 110, 111, 116, 32, 105, 110, 99, 114, 101, 109, 101, 110, 116, 32, 111, 114, 32, 100, 101, 99, 114, 101, 109, 101, 110, 116, 32, 110, 111, 110, 45, 110, 117, 109, 101, 114, 105, 99, 32, 118, 97, 108, 117, 101]⟩]) (.int .u8 9) rfl rfl (key_answersT (by decide) (by decide)) (.lit (.string [67, 76, 73, 69, 78, 84, 95, 69, 82, 82, 79, 82, 32, 99, 97, 110, 110, 111, 116, 32, 105, 110, 99, 114, 101, 109, 101, 110, 116, 32, 111, 114, 32, 100, 101, 99, 114, 101, 109, 101, 110, 116, 32, 110, 111, 110, 45, 110, 117, 109, 101, 114, 105, 99, 32, 118, 97, 108, 117, 101])) [] rfl ?_; intro w8 own8 g8; have b8 := b7.grown g8 b7.size (fun k hk => by simp at hk; omega))
    | (refine wpList_insert_own _ rfl (.tmp 1) (.const (.int .u8 10)) (.tmp 10) 64 rfl 30 58 law_answersT Tryd.underlying64 tR w.heap.size 8 _ rfl own8 (by unfold maxLen; decide) (.int .u8 10) (.agg #[.string ⟨#[79, 75]⟩]) (.int .u8 10) rfl rfl (key_answersT (by decide) (by decide)) (.lit (.string [79, 75])) [] rfl ?_; intro w9 own9 g9; have b9 := b8.grown g9 b8.size (fun k hk => by simp at hk; omega)))
  go_ret
  exact ⟨rfl, own9, b9⟩
end Go.Proofs.YtcmogfdbjppdeaaDoor
