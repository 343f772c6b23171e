/- Lines: the forms that there are, as a map. -/
import Derived.Test.YtifbcejekdhnlaaDoorChecked
import Derived.Test.YtifbcejekdhnlaaDoorLnMath
import Derived.Maps.OwnSet
import Derived.Maps.OwnOps
import Derived.StringKeys
namespace Go.Proofs.YtifbcejekdhnlaaDoor
open Go.RowKit Go.Maps
set_option linter.unusedVariables false

/-- A form's field, by its place. -/
def Form.fld (f : Form) (k : Nat) : Nat := f.fields.getD k 0
/-- A form's nine cells. -/
def formC (f : Form) : List Value := [.int .u8 f.verb, .int .i64 f.least, .int .i64 f.most, .int .u8 (f.fld 0 : Nat), .int .u8 (f.fld 1 : Nat), .int .u8 (f.fld 2 : Nat), .int .u8 (f.fld 3 : Nat), .int .i64 f.spare, .bool f.quiet]
def formV (f : Form) : Value := .agg (formC f).toArray
/-- How a form reads: as it is. -/
def fR : Value → Option (DataW Value × List MemPlace) := fun v => some (.held v, [])
theorem wpList_insertF {H : Type} {P : Program} (w : World) {ops : Array Oper} {rest : List Oper} {o : Oper} {a : Act} {Q : Exit → Act → World → Prop}
    (hg : o.guard = none) (m x v : Operand) (t : TypeId) (hop : o.op = Op.insert t m x v)
    (k e : TypeId) (K : Keyed P k) (ht : P.underlying t = some (.map k e)) (R : Value → Option (DataW H × List MemPlace)) (b n : Nat) (D : DataW H)
    (hm : a.eval m = .map (some b)) (hown : w.ownsMap P k R b n D) (hn : n < maxLen) (key val : Value) (kl : Lit) (hx : a.eval x = key) (hv : a.eval v = val) (hkey : keyOf P k key = some kl)
    (d : DataW H) (ps : List MemPlace) (hval : R val = some (d, ps))
    (hK : ∀ w', w'.ownsMap P k R b (n + 1) (D.put kl d) → w.grownBy w' (some b) → wpList P ops Q rest (a.put o.dst undef) w') :
    wpList P ops Q (o :: rest) a w := by
  refine wpList_plain hg fun K' hK' => ?_
  obtain ⟨w', hrun, r1, r2⟩ := hown.update K ht hn hkey hval
  unfold Oper.wp
  simp [execOp, hop, hm, hx, hv, hrun, Result.andThen]
  exact hK' _ _ (hK w' r1 r2)
/-- Forms by their names. -/
def putF (D : DataW Value) : List (List UInt8 × Form) → DataW Value
  | [] => D
  | x :: xs => putF (D.put (.string x.1) (.held (formV x.2))) xs
theorem skeyne {a b : List UInt8} (h : a ≠ b) : (Lit.string a) ≠ Lit.string b := fun e => h (by injection e)
def noForm : Form := ⟨0, 0, 0, [], 0, false⟩
theorem putF_has (n : List UInt8) (z : DataW Value) : ∀ (xs : List (List UInt8 × Form)) (D : DataW Value), formIn xs n = none → Maps.has (putF D xs) (.string n) = Maps.has D (.string n) ∧ (putF D xs).atKey (.string n) z = D.atKey (.string n) z
  | [], D, _ => ⟨rfl, rfl⟩
  | x :: xs, D, h => by
    unfold formIn at h
    split at h
    · simp at h
    · next hne =>
      obtain ⟨h1, h2⟩ := putF_has n z xs (D.put (.string x.1) (.held (formV x.2))) h
      exact ⟨h1.trans (Maps.has_put_other (skeyne fun e => hne e.symm) _), h2.trans (Maps.atKey_put_other (skeyne fun e => hne e.symm) _ _)⟩
/-- No name twice. -/
def onceF : List (List UInt8 × Form) → Prop
  | [] => True
  | x :: xs => formIn xs x.1 = none ∧ onceF xs
theorem onceF_tb : onceF tbF := by refine ⟨by decide, by decide, by decide, by decide, by decide, by decide, by decide, by decide, by decide, by decide, by decide, by decide, by decide, trivial⟩
theorem putF_hit (n : List UInt8) (f : Form) (z : DataW Value) : ∀ (xs : List (List UInt8 × Form)) (D : DataW Value), Maps.IsMap D → onceF xs → formIn xs n = some f → Maps.has (putF D xs) (.string n) = true ∧ (putF D xs).atKey (.string n) z = .held (formV f)
  | [], D, _, _, h => by simp [formIn] at h
  | x :: xs, D, hm, ho, h => by
    unfold formIn at h
    split at h
    · next he =>
      subst he
      injection h with h
      subst h
      have hk : WideAt.IsKeyLit (Lit.string x.1) := trivial
      obtain ⟨h1, h2⟩ := putF_has x.1 z xs (D.put (.string x.1) (.held (formV x.2))) ho.1
      exact ⟨h1.trans (Maps.has_put_same hm hk _), h2.trans (Maps.atKey_put_same hm hk _ _)⟩
    · exact putF_hit n f z xs _ (by obtain ⟨es, rfl⟩ := hm; exact ⟨_, rfl⟩) ho.2 h
def formsD : DataW Value := putF (.map []) tbF
theorem formsD_none {n : List UInt8} (z : DataW Value) (h : formOf n = none) : Maps.has formsD (.string n) = false ∧ formsD.atKey (.string n) z = z := putF_has n z tbF (.map []) h
theorem formsD_some {n : List UInt8} {f : Form} (z : DataW Value) (h : formOf n = some f) : Maps.has formsD (.string n) = true ∧ formsD.atKey (.string n) z = .held (formV f) := putF_hit n f z tbF (.map []) Maps.isMap_empty onceF_tb h
theorem zeroForm (w : World) : (zeroValue 74).run Tryd.prog w = .ok (formV noForm) w := by kernel_rfl
theorem lawS : Keyed Tryd.prog 9 := string_keyed Tryd.underlying9
theorem keyS {s : ByteArray} (h : s.size ≤ maxLen) : keyOf Tryd.prog 9 (.string s) = some (.string s.data.toList) := WideMaps.keyOf_string_mk Tryd.underlying9 h
set_option maxHeartbeats 2000000 in
set_option maxRecDepth 100000 in
theorem formsw (w : World) : Calls Tryd.prog 30 #[] w fun e w' => e = .returned (.map (some w.heap.size)) ∧ w'.ownsMap Tryd.prog 9 fR w.heap.size 13 formsD ∧ Below w.heap.size w w' := by
  have hmm := @run_makeMap Tryd.prog
  obtain ⟨B, hB⟩ : ∃ B, B = w.heap.size := ⟨_, rfl⟩
  have own0 : (w.alloc (.map #[] 0)).ownsMap Tryd.prog 9 fR w.heap.size 0 (.map []) := World.ownsMap_made _ _ _ _
  have b0 : Below w.heap.size w (w.alloc (.map #[] 0)) := (Below.refl _ _).alloc (Nat.le_refl _) _
  go_enter Tryd.func30, Tryd.ntmps30
  go_wp2_with (first
    | (refine wpList_insertF _ rfl (.tmp 1) (.const (.string ⟨#[103, 101, 116]⟩)) (.tmp 2) 76 rfl 9 74 lawS Tryd.underlying76 fR w.heap.size 0 _ rfl own0 (by unfold maxLen; decide) (.string ⟨#[103, 101, 116]⟩) (.agg #[.int .u8 1, .int .i64 1, .int .i64 64, .int .u8 0, .int .u8 0, .int .u8 0, .int .u8 0, .int .i64 0, .bool false]) (.string [103, 101, 116]) rfl rfl (keyS (by unfold maxLen; decide)) (.held (.agg #[.int .u8 1, .int .i64 1, .int .i64 64, .int .u8 0, .int .u8 0, .int .u8 0, .int .u8 0, .int .i64 0, .bool false])) [] rfl ?_; intro w1 own1 g1; have b1 := b0.grown g1 b0.size (fun k hk => by simp at hk; omega))
    | (refine wpList_insertF _ rfl (.tmp 1) (.const (.string ⟨#[103, 101, 116, 115]⟩)) (.tmp 3) 76 rfl 9 74 lawS Tryd.underlying76 fR w.heap.size 1 _ rfl own1 (by unfold maxLen; decide) (.string ⟨#[103, 101, 116, 115]⟩) (.agg #[.int .u8 2, .int .i64 1, .int .i64 64, .int .u8 0, .int .u8 0, .int .u8 0, .int .u8 0, .int .i64 0, .bool false]) (.string [103, 101, 116, 115]) rfl rfl (keyS (by unfold maxLen; decide)) (.held (.agg #[.int .u8 2, .int .i64 1, .int .i64 64, .int .u8 0, .int .u8 0, .int .u8 0, .int .u8 0, .int .i64 0, .bool false])) [] rfl ?_; intro w2 own2 g2; have b2 := b1.grown g2 b1.size (fun k hk => by simp at hk; omega))
    | (refine wpList_insertF _ rfl (.tmp 1) (.const (.string ⟨#[115, 101, 116]⟩)) (.tmp 5) 76 rfl 9 74 lawS Tryd.underlying76 fR w.heap.size 2 _ rfl own2 (by unfold maxLen; decide) (.string ⟨#[115, 101, 116]⟩) (.agg #[.int .u8 3, .int .i64 1, .int .i64 1, .int .u8 1, .int .u8 2, .int .u8 3, .int .u8 0, .int .i64 0, .bool true]) (.string [115, 101, 116]) rfl rfl (keyS (by unfold maxLen; decide)) (.held (.agg #[.int .u8 3, .int .i64 1, .int .i64 1, .int .u8 1, .int .u8 2, .int .u8 3, .int .u8 0, .int .i64 0, .bool true])) [] rfl ?_; intro w3 own3 g3; have b3 := b2.grown g3 b2.size (fun k hk => by simp at hk; omega))
    | (refine wpList_insertF _ rfl (.tmp 1) (.const (.string ⟨#[97, 100, 100]⟩)) (.tmp 7) 76 rfl 9 74 lawS Tryd.underlying76 fR w.heap.size 3 _ rfl own3 (by unfold maxLen; decide) (.string ⟨#[97, 100, 100]⟩) (.agg #[.int .u8 4, .int .i64 1, .int .i64 1, .int .u8 1, .int .u8 2, .int .u8 3, .int .u8 0, .int .i64 0, .bool true]) (.string [97, 100, 100]) rfl rfl (keyS (by unfold maxLen; decide)) (.held (.agg #[.int .u8 4, .int .i64 1, .int .i64 1, .int .u8 1, .int .u8 2, .int .u8 3, .int .u8 0, .int .i64 0, .bool true])) [] rfl ?_; intro w4 own4 g4; have b4 := b3.grown g4 b3.size (fun k hk => by simp at hk; omega))
    | (refine wpList_insertF _ rfl (.tmp 1) (.const (.string ⟨#[114, 101, 112, 108, 97, 99, 101]⟩)) (.tmp 9) 76 rfl 9 74 lawS Tryd.underlying76 fR w.heap.size 4 _ rfl own4 (by unfold maxLen; decide) (.string ⟨#[114, 101, 112, 108, 97, 99, 101]⟩) (.agg #[.int .u8 5, .int .i64 1, .int .i64 1, .int .u8 1, .int .u8 2, .int .u8 3, .int .u8 0, .int .i64 0, .bool true]) (.string [114, 101, 112, 108, 97, 99, 101]) rfl rfl (keyS (by unfold maxLen; decide)) (.held (.agg #[.int .u8 5, .int .i64 1, .int .i64 1, .int .u8 1, .int .u8 2, .int .u8 3, .int .u8 0, .int .i64 0, .bool true])) [] rfl ?_; intro w5 own5 g5; have b5 := b4.grown g5 b4.size (fun k hk => by simp at hk; omega))
    | (refine wpList_insertF _ rfl (.tmp 1) (.const (.string ⟨#[99, 97, 115]⟩)) (.tmp 11) 76 rfl 9 74 lawS Tryd.underlying76 fR w.heap.size 5 _ rfl own5 (by unfold maxLen; decide) (.string ⟨#[99, 97, 115]⟩) (.agg #[.int .u8 6, .int .i64 1, .int .i64 1, .int .u8 1, .int .u8 2, .int .u8 3, .int .u8 4, .int .i64 0, .bool true]) (.string [99, 97, 115]) rfl rfl (keyS (by unfold maxLen; decide)) (.held (.agg #[.int .u8 6, .int .i64 1, .int .i64 1, .int .u8 1, .int .u8 2, .int .u8 3, .int .u8 4, .int .i64 0, .bool true])) [] rfl ?_; intro w6 own6 g6; have b6 := b5.grown g6 b5.size (fun k hk => by simp at hk; omega))
    | (refine wpList_insertF _ rfl (.tmp 1) (.const (.string ⟨#[100, 101, 108, 101, 116, 101]⟩)) (.tmp 13) 76 rfl 9 74 lawS Tryd.underlying76 fR w.heap.size 6 _ rfl own6 (by unfold maxLen; decide) (.string ⟨#[100, 101, 108, 101, 116, 101]⟩) (.agg #[.int .u8 7, .int .i64 1, .int .i64 1, .int .u8 0, .int .u8 0, .int .u8 0, .int .u8 0, .int .i64 0, .bool true]) (.string [100, 101, 108, 101, 116, 101]) rfl rfl (keyS (by unfold maxLen; decide)) (.held (.agg #[.int .u8 7, .int .i64 1, .int .i64 1, .int .u8 0, .int .u8 0, .int .u8 0, .int .u8 0, .int .i64 0, .bool true])) [] rfl ?_; intro w7 own7 g7; have b7 := b6.grown g7 b6.size (fun k hk => by simp at hk; omega))
    | (refine wpList_insertF _ rfl (.tmp 1) (.const (.string ⟨#[116, 111, 117, 99, 104]⟩)) (.tmp 15) 76 rfl 9 74 lawS Tryd.underlying76 fR w.heap.size 7 _ rfl own7 (by unfold maxLen; decide) (.string ⟨#[116, 111, 117, 99, 104]⟩) (.agg #[.int .u8 8, .int .i64 1, .int .i64 1, .int .u8 2, .int .u8 0, .int .u8 0, .int .u8 0, .int .i64 0, .bool true]) (.string [116, 111, 117, 99, 104]) rfl rfl (keyS (by unfold maxLen; decide)) (.held (.agg #[.int .u8 8, .int .i64 1, .int .i64 1, .int .u8 2, .int .u8 0, .int .u8 0, .int .u8 0, .int .i64 0, .bool true])) [] rfl ?_; intro w8 own8 g8; have b8 := b7.grown g8 b7.size (fun k hk => by simp at hk; omega))
    | (refine wpList_insertF _ rfl (.tmp 1) (.const (.string ⟨#[105, 110, 99, 114]⟩)) (.tmp 17) 76 rfl 9 74 lawS Tryd.underlying76 fR w.heap.size 8 _ rfl own8 (by unfold maxLen; decide) (.string ⟨#[105, 110, 99, 114]⟩) (.agg #[.int .u8 9, .int .i64 1, .int .i64 1, .int .u8 5, .int .u8 0, .int .u8 0, .int .u8 0, .int .i64 0, .bool true]) (.string [105, 110, 99, 114]) rfl rfl (keyS (by unfold maxLen; decide)) (.held (.agg #[.int .u8 9, .int .i64 1, .int .i64 1, .int .u8 5, .int .u8 0, .int .u8 0, .int .u8 0, .int .i64 0, .bool true])) [] rfl ?_; intro w9 own9 g9; have b9 := b8.grown g9 b8.size (fun k hk => by simp at hk; omega))
    | (refine wpList_insertF _ rfl (.tmp 1) (.const (.string ⟨#[100, 101, 99, 114]⟩)) (.tmp 19) 76 rfl 9 74 lawS Tryd.underlying76 fR w.heap.size 9 _ rfl own9 (by unfold maxLen; decide) (.string ⟨#[100, 101, 99, 114]⟩) (.agg #[.int .u8 10, .int .i64 1, .int .i64 1, .int .u8 5, .int .u8 0, .int .u8 0, .int .u8 0, .int .i64 0, .bool true]) (.string [100, 101, 99, 114]) rfl rfl (keyS (by unfold maxLen; decide)) (.held (.agg #[.int .u8 10, .int .i64 1, .int .i64 1, .int .u8 5, .int .u8 0, .int .u8 0, .int .u8 0, .int .i64 0, .bool true])) [] rfl ?_; intro w10 own10 g10; have b10 := b9.grown g10 b9.size (fun k hk => by simp at hk; omega))
    | (refine wpList_insertF _ rfl (.tmp 1) (.const (.string ⟨#[102, 108, 117, 115, 104, 95, 97, 108, 108]⟩)) (.tmp 21) 76 rfl 9 74 lawS Tryd.underlying76 fR w.heap.size 10 _ rfl own10 (by unfold maxLen; decide) (.string ⟨#[102, 108, 117, 115, 104, 95, 97, 108, 108]⟩) (.agg #[.int .u8 11, .int .i64 0, .int .i64 0, .int .u8 2, .int .u8 0, .int .u8 0, .int .u8 0, .int .i64 1, .bool true]) (.string [102, 108, 117, 115, 104, 95, 97, 108, 108]) rfl rfl (keyS (by unfold maxLen; decide)) (.held (.agg #[.int .u8 11, .int .i64 0, .int .i64 0, .int .u8 2, .int .u8 0, .int .u8 0, .int .u8 0, .int .i64 1, .bool true])) [] rfl ?_; intro w11 own11 g11; have b11 := b10.grown g11 b10.size (fun k hk => by simp at hk; omega))
    | (refine wpList_insertF _ rfl (.tmp 1) (.const (.string ⟨#[118, 101, 114, 115, 105, 111, 110]⟩)) (.tmp 22) 76 rfl 9 74 lawS Tryd.underlying76 fR w.heap.size 11 _ rfl own11 (by unfold maxLen; decide) (.string ⟨#[118, 101, 114, 115, 105, 111, 110]⟩) (.agg #[.int .u8 12, .int .i64 0, .int .i64 0, .int .u8 0, .int .u8 0, .int .u8 0, .int .u8 0, .int .i64 0, .bool false]) (.string [118, 101, 114, 115, 105, 111, 110]) rfl rfl (keyS (by unfold maxLen; decide)) (.held (.agg #[.int .u8 12, .int .i64 0, .int .i64 0, .int .u8 0, .int .u8 0, .int .u8 0, .int .u8 0, .int .i64 0, .bool false])) [] rfl ?_; intro w12 own12 g12; have b12 := b11.grown g12 b11.size (fun k hk => by simp at hk; omega))
    | (refine wpList_insertF _ rfl (.tmp 1) (.const (.string ⟨#[113, 117, 105, 116]⟩)) (.tmp 23) 76 rfl 9 74 lawS Tryd.underlying76 fR w.heap.size 12 _ rfl own12 (by unfold maxLen; decide) (.string ⟨#[113, 117, 105, 116]⟩) (.agg #[.int .u8 13, .int .i64 0, .int .i64 0, .int .u8 0, .int .u8 0, .int .u8 0, .int .u8 0, .int .i64 0, .bool false]) (.string [113, 117, 105, 116]) rfl rfl (keyS (by unfold maxLen; decide)) (.held (.agg #[.int .u8 13, .int .i64 0, .int .i64 0, .int .u8 0, .int .u8 0, .int .u8 0, .int .u8 0, .int .i64 0, .bool false])) [] rfl ?_; intro w13 own13 g13; have b13 := b12.grown g13 b12.size (fun k hk => by simp at hk; omega)))
  go_ret
  exact ⟨rfl, own13, b13⟩
end Go.Proofs.YtifbcejekdhnlaaDoor
