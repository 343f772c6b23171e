/- Lines: Parse; lines that have no verb. -/
import Derived.Test.YtifbcejekdhnlaaDoorLn5
import Derived.Deep.Cut
import Derived.Deep.CutBlock
import Derived.Deep.MidRow
namespace Go.Proofs.YtifbcejekdhnlaaDoor
open Go.RowKit Go.Maps
set_option linter.unusedVariables false

/-- A command's keys. -/
def KeysAt (w : World) (B : Nat) (kv : Value) (l : List (List UInt8)) : Prop := Lst w B 1 kv l.length (strs l)
/-- What Parse hands back. -/
def IsPar (w : World) (p : Cmd × Nat) (e : Ending) (w' : World) : Prop := ∃ kv, e = .returned (.tuple #[.agg (cmdC p.1 kv).toArray, .int .u8 (p.2 : Nat)]) ∧ KeysAt w' w.heap.size kv p.1.keys ∧ Below w.heap.size w w'
def zeroCmd : Value := .agg #[.int .u8 0, .slice none 0 0, .int .u8 0, .string ⟨#[]⟩, .string ⟨#[]⟩, .int .u32 0, .int .i64 0, .int .u64 0, .int .u64 0, .int .i64 0, .bool false]
theorem isPar_none {w w' : World} {t : Nat} (hb : Below w.heap.size w w') : IsPar w (Cmd.none, t) (.returned (.tuple #[zeroCmd, .int .u8 (t : Nat)])) w' :=
  ⟨.slice none 0 0, rfl, ⟨by simp [Cmd.none, strs], .inl ⟨rfl, rfl⟩⟩, hb⟩
theorem lookF_none' {w : World} {b : Nat} {n : ByteArray} (h : w.ownsMap Tryd.prog 9 fR b 13 formsD) (hn : n.size ≤ maxLen) (hf : formOf n.data.toList = none) :
    (Instr.lookup 76 (.map (some b)) (.string n) true).run Tryd.prog w = .ok (.tuple #[formV noForm, .bool false]) w := by
  obtain ⟨v, ps, hr, hv⟩ := World.ownsMap.look_ok h lawS Tryd.underlying76 (zeroForm w) (R := fR) (zd := .held (formV noForm)) (zp := []) rfl (keyS hn)
  obtain ⟨e1, e2⟩ := formsD_none (.held (formV noForm)) hf
  rw [e1] at hr
  rw [e2] at hv
  simp only [fR, Option.some.injEq, Prod.mk.injEq, DataW.held.injEq] at hv
  rw [hv.1] at hr
  exact hr
theorem lookF_some' {w : World} {b : Nat} {n : ByteArray} {f : Form} (h : w.ownsMap Tryd.prog 9 fR b 13 formsD) (hn : n.size ≤ maxLen) (hf : formOf n.data.toList = some f) :
    (Instr.lookup 76 (.map (some b)) (.string n) true).run Tryd.prog w = .ok (.tuple #[formV f, .bool true]) w := by
  obtain ⟨v, ps, hr, hv⟩ := World.ownsMap.look_ok h lawS Tryd.underlying76 (zeroForm w) (R := fR) (zd := .held (formV noForm)) (zp := []) rfl (keyS hn)
  obtain ⟨e1, e2⟩ := formsD_some (.held (formV noForm)) hf
  rw [e1] at hr
  rw [e2] at hv
  simp only [fR, Option.some.injEq, Prod.mk.injEq, DataW.held.injEq] at hv
  rw [hv.1] at hr
  exact hr
theorem info_cmdL : (Tryd.prog.info? 30).map (·.size) = some 11 := by kernel_rfl
theorem Cb.range {w : World} {q : Nat} {C : List Value} (h : Cb w q C) : w.rangeAt q 0 C := fun j v hj => by rw [Nat.zero_add]; exact h.at_ j v hj
theorem Cb.there {w : World} {q : Nat} {C : List Value} (h : Cb w q C) : w.there q 0 C.length := fun j hj => by
  rw [Nat.zero_add]
  exact ⟨by rw [h.at_ j _ (List.getElem?_eq_getElem hj)]; rfl, h.fz j hj⟩
theorem cb_cells {w : World} {q : Nat} {c : Cmd} {kv : Value} (h : Cb w q (cmdC c kv)) : w.cell? ⟨q, 0, none⟩ = some (.int .u8 (c.verb : Nat)) ∧ w.cell? ⟨q, 1, none⟩ = some kv ∧ w.cell? ⟨q, 2, none⟩ = some (.int .u8 (c.cverb : Nat)) ∧ w.cell? ⟨q, 3, none⟩ = some (.string ⟨c.key.toArray⟩) ∧ w.cell? ⟨q, 4, none⟩ = some (.string ⟨c.value.toArray⟩) ∧ w.cell? ⟨q, 5, none⟩ = some (.int .u32 c.flags) ∧ w.cell? ⟨q, 6, none⟩ = some (.int .i64 c.exp) ∧ w.cell? ⟨q, 7, none⟩ = some (.int .u64 c.id) ∧ w.cell? ⟨q, 8, none⟩ = some (.int .u64 c.by_) ∧ w.cell? ⟨q, 9, none⟩ = some (.int .i64 c.bytes) ∧ w.cell? ⟨q, 10, none⟩ = some (.bool c.quiet) :=
  ⟨h.at_ 0 _ rfl, h.at_ 1 _ rfl, h.at_ 2 _ rfl, h.at_ 3 _ rfl, h.at_ 4 _ rfl, h.at_ 5 _ rfl, h.at_ 6 _ rfl, h.at_ 7 _ rfl, h.at_ 8 _ rfl, h.at_ 9 _ rfl, h.at_ 10 _ rfl⟩
theorem cb_zero {w : World} {q : Nat} (h : Cb w q (cmdC Cmd.none (.slice none 0 0))) : w.cell? ⟨q, 0, none⟩ = some (.int .u8 0) ∧ w.cell? ⟨q, 1, none⟩ = some (.slice none 0 0) ∧ w.cell? ⟨q, 2, none⟩ = some (.int .u8 0) ∧ w.cell? ⟨q, 3, none⟩ = some (.string ⟨#[]⟩) ∧ w.cell? ⟨q, 4, none⟩ = some (.string ⟨#[]⟩) ∧ w.cell? ⟨q, 5, none⟩ = some (.int .u32 0) ∧ w.cell? ⟨q, 6, none⟩ = some (.int .i64 0) ∧ w.cell? ⟨q, 7, none⟩ = some (.int .u64 0) ∧ w.cell? ⟨q, 8, none⟩ = some (.int .u64 0) ∧ w.cell? ⟨q, 9, none⟩ = some (.int .i64 0) ∧ w.cell? ⟨q, 10, none⟩ = some (.bool false) := cb_cells h
theorem frozen_setCells (b : Nat) (p : Addr) : ∀ (vs : List Value) (o : Nat) (w : World), (w.setCells b o vs).frozen? p = w.frozen? p
  | [], o, w => rfl
  | v :: vs, o, w => by
    show ((w.setCell ⟨b, o, none⟩ v).setCells b (o + 1) vs).frozen? p = _
    rw [frozen_setCells b p vs (o + 1), World.frozen?_setCell]
theorem keeps_setCells (b : Nat) : ∀ (vs : List Value) (o : Nat) (w : World), Keeps (fun k => k = b) w (w.setCells b o vs)
  | [], o, w => Keeps.refl _ _
  | v :: vs, o, w => by
    have h1 : Keeps (fun k => k = b) w (w.setCell ⟨b, o, none⟩ v) := Keeps.setCell (S := fun k => k = b) (Keeps.refl _ w) (p := ⟨b, o, none⟩) (.inl rfl) v
    exact h1.trans (keeps_setCells b vs (o + 1) _) (fun _ _ s => s)
theorem cb_setCells {w : World} {q : Nat} {C C' : List Value} (h : Cb w q C) (hl : C'.length = C.length) : Cb (w.setCells q 0 C') q C' := by
  have ht : w.there q 0 C'.length := by rw [hl]; exact h.there
  refine ⟨fun i v hv => ?_, fun i hi => ?_, Nat.lt_of_lt_of_le h.lt (keeps_setCells q C' 0 w).size⟩
  · have := World.rangeAt_setCells_same w q 0 C' ht i v hv
    rwa [Nat.zero_add] at this
  · rw [frozen_setCells]
    exact h.fz i (by omega)
theorem cmdC_one {c : Cmd} {kv : Value} (h : kv.oneCell' = true) : (cmdC c kv).toArray.all (·.oneCell') = true := by
  refine all_oneCell_toArray fun v hv => ?_
  simp only [cmdC, List.mem_cons, List.not_mem_nil, or_false] at hv
  rcases hv with rfl | rfl | rfl | rfl | rfl | rfl | rfl | rfl | rfl | rfl | rfl
  all_goals first | exact h | rfl
/-- A store of a whole command. -/
theorem wpList_cmd {ops : Array Oper} {rest : List Oper} {op : Oper} {a : Act} {w : World} {Q : Exit → Act → World → Prop} (hgd : op.guard = none) (x y : Operand) (ho : op.op = .store 30 x y)
    (q : Nat) (c : Cmd) (kv : Value) (c' : Cmd) (kv' : Value) (h : Cb w q (cmdC c kv)) (h1 : kv'.oneCell' = true) (hx : a.eval x = .pointer (some ⟨q, 0, none⟩)) (hy : a.eval y = .agg (cmdC c' kv').toArray)
    (hK : ∀ W, Cb W q (cmdC c' kv') → Keeps (fun k => k = q) w W → wpList Tryd.prog ops Q rest (a.put op.dst undef) W) : wpList Tryd.prog ops Q (op :: rest) a w := by
  refine wpList_store_mid hgd 30 x y ho q 0 (cmdC c' kv').toArray hx hy ?_ ?_ (cmdC_one h1) (hK _ ?_ ?_)
  · have := h.there
    simpa [cmdC] using this
  · rw [info_cmdL]; rfl
  · simpa using cb_setCells h (C' := cmdC c' kv') rfl
  · exact keeps_setCells q _ 0 w
set_option maxHeartbeats 1000000 in
set_option maxRecDepth 100000 in
theorem parse_long (s : ByteArray) (w : World) (h : 2048 < s.size) (hs : s.size ≤ maxLen) : Calls Tryd.prog 10 #[.string s] w (IsPar w (Cmd.none, 3)) := by
  unfold maxLen at hs
  have d0 : decide (2048 < (s.size : Int)) = true := decide_eq_true (by omega)
  go_enter Tryd.func10, Tryd.ntmps10
  go_wp2_with fail
  refine bodyPost_ret (v := .tuple #[zeroCmd, .int .u8 3]) (by simp [results, Tryd.results10, go_sem, zeroCmd]) rfl ?_
  exact isPar_none ((Below.refl _ _).alloc (Nat.le_refl _) _)
/-- Where the result stands at first. -/
theorem res_new (w : World) : Cb (w.alloc (.cells #[.int .u8 0, .slice none 0 0, .int .u8 0, .string ⟨#[]⟩, .string ⟨#[]⟩, .int .u32 0, .int .i64 0, .int .u64 0, .int .u64 0, .int .i64 0, .bool false] 30)) w.heap.size (cmdC Cmd.none (.slice none 0 0)) := cb_new rfl
theorem par_below {w W1 W2 : World} (h1 : Below w.heap.size w W1) (h2 : Keeps (fun k => k = w.heap.size) W1 W2) : Below w.heap.size w W2 :=
  h1.trans (h2.to_below (fun k _ e => by omega) h1.size)
set_option maxHeartbeats 1000000 in
set_option maxRecDepth 100000 in
theorem parse_blank (s : ByteArray) (w : World) (h : s.size ≤ 2048) (hw : wordsF s.data.toList = []) : Calls Tryd.prog 10 #[.string s] w (IsPar w (Cmd.none, 1)) := by
  have d0 : decide (2048 < (s.size : Int)) = false := decide_eq_false (by omega)
  have HW := Lib.hid hw
  have HR := Lib.hid (res_new w)
  have HB0 := Lib.hid (show Below w.heap.size w (w.alloc (.cells #[.int .u8 0, .slice none 0 0, .int .u8 0, .string ⟨#[]⟩, .string ⟨#[]⟩, .int .u32 0, .int .i64 0, .int .u64 0, .int .u64 0, .int .i64 0, .bool false] 30)) from (Below.refl _ _).alloc (Nat.le_refl _) _)
  clear hw
  go_enter Tryd.func10, Tryd.ntmps10
  go_wp2_with fail
  refine (wordsw _ _ (by omega)).mono ?_
  rintro e w1 ⟨v, rfl, ⟨hl, hv⟩, hb⟩
  obtain ⟨va, vc, rfl⟩ : ∃ a c, v = .slice a 0 c := by
    rw [HW.out] at hv
    rcases hv with ⟨h1, _⟩ | ⟨g, c, h1, _⟩
    · exact ⟨_, _, h1⟩
    · exact ⟨_, _, h1⟩
  have HC := Lib.hid (HR.out.new hb)
  have HB := Lib.hid (HB0.out.trans (hb.mono HB0.out.size))
  clear hl hv hb
  go_wp2_with (refine wpList_cmd rfl (.tmp 2) (.tmp 20) rfl w.heap.size Cmd.none (.slice none 0 0) Cmd.none (.slice none 0 0) HC.out rfl rfl rfl ?_; intro W2 hC2 hK2; obtain ⟨r0, r1, r2, r3, r4, r5, r6, r7, r8, r9, r10⟩ := cb_zero hC2)
  refine bodyPost_ret (v := .tuple #[zeroCmd, .int .u8 1]) (by simp [results, Tryd.results10, go_sem, zeroCmd, r0, r1, r2, r3, r4, r5, r6, r7, r8, r9, r10]) rfl ?_
  exact isPar_none (par_below HB.out hK2)
end Go.Proofs.YtifbcejekdhnlaaDoor
