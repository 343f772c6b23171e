/- The chapter's lines: Parse of lines that have no verb; how a command lies while it is read. -/
import Derived.Test.YtifbcejekdhnlaaLr2
import Derived.Test.YtifbcejekdhnlaaLn8
import Derived.Test.YtifbcejekdhnlaaKyRef
namespace Go.Proofs.Ytifbcejekdhnlaa
open Go.RowKit Go.Maps
set_option linter.unusedVariables false

/-- What the chapter's Parse hands back. -/
def IsParR (w : World) (p : Cmd × Nat) (e : Ending) (w' : World) : Prop := ∃ kv, e = .returned (.tuple #[.agg (cmdC p.1 kv).toArray, .int .i64 (p.2 : Nat)]) ∧ KeysAt w' w.heap.size kv p.1.keys ∧ Below w.heap.size w w'
theorem isParR_none {w w' : World} {t : Nat} (hb : Below w.heap.size w w') : IsParR w (Cmd.none, t) (.returned (.tuple #[zeroCmd, .int .i64 (t : Nat)])) w' :=
  ⟨.slice none 0 0, rfl, ⟨by simp [Cmd.none, strs], .inl ⟨rfl, rfl⟩⟩, hb⟩
theorem info_cmdR : (Try.prog.info? 58).map (·.size) = some 11 := by kernel_rfl
theorem wpList_cmdR {ops : Array Oper} {rest : List Oper} {op : Oper} {a : Act} {w : World} {Q : Exit → Act → World → Prop} (hgd : op.guard = none) (x y : Operand) (ho : op.op = .store 58 x y)
    (q : Nat) (c : Cmd) (kv : Value) (c' : Cmd) (kv' : Value) (h : Cb w q (cmdC c kv)) (h1 : kv'.oneCell' = true) (hx : a.eval x = .pointer (some ⟨q, 0, none⟩)) (hy : a.eval y = .agg (cmdC c' kv').toArray)
    (hK : ∀ W, Cb W q (cmdC c' kv') → Keeps (fun k => k = q) w W → wpList Try.prog ops Q rest (a.put op.dst undef) W) : wpList Try.prog ops Q (op :: rest) a w := by
  refine wpList_store_mid hgd 58 x y ho q 0 (cmdC c' kv').toArray hx hy ?_ ?_ (cmdC_one h1) (hK _ ?_ ?_)
  · have := h.there
    simpa [cmdC] using this
  · rw [info_cmdR]; rfl
  · simpa using cb_setCells h (C' := cmdC c' kv') rfl
  · exact keeps_setCells q _ 0 w
theorem res_newR (w : World) : Cb (w.alloc (.cells #[.int .u8 0, .slice none 0 0, .int .u8 0, .string ⟨#[]⟩, .string ⟨#[]⟩, .int .u32 0, .int .i64 0, .int .u64 0, .int .u64 0, .int .i64 0, .bool false] 58)) w.heap.size (cmdC Cmd.none (.slice none 0 0)) := cb_new rfl
set_option maxHeartbeats 1000000 in
set_option maxRecDepth 100000 in
theorem rparse_long (s : ByteArray) (w : World) (h : 2048 < s.size) (hs : s.size ≤ maxLen) : Calls Try.prog 32 #[.string s] w (IsParR w (Cmd.none, 3)) := by
  unfold maxLen at hs
  have d0 : decide (2048 < (s.size : Int)) = true := decide_eq_true (by omega)
  go_enter Try.func32, Try.ntmps32
  go_wp2_with fail
  refine bodyPost_ret (v := .tuple #[zeroCmd, .int .i64 3]) (by simp [results, Try.results32, go_sem, zeroCmd]) rfl ?_
  exact isParR_none ((Below.refl _ _).alloc (Nat.le_refl _) _)
set_option maxHeartbeats 1000000 in
set_option maxRecDepth 100000 in
theorem rparse_blank (s : ByteArray) (w : World) (h : s.size ≤ 2048) (hw : wordsF s.data.toList = []) : Calls Try.prog 32 #[.string s] w (IsParR w (Cmd.none, 1)) := by
  have d0 : decide (2048 < (s.size : Int)) = false := decide_eq_false (by omega)
  have HW := Lib.hid hw
  have HR := Lib.hid (res_newR w)
  have HB0 := Lib.hid (show Below w.heap.size w (w.alloc (.cells #[.int .u8 0, .slice none 0 0, .int .u8 0, .string ⟨#[]⟩, .string ⟨#[]⟩, .int .u32 0, .int .i64 0, .int .u64 0, .int .u64 0, .int .i64 0, .bool false] 58)) from (Below.refl _ _).alloc (Nat.le_refl _) _)
  clear hw
  go_enter Try.func32, Try.ntmps32
  go_wp2_with fail
  refine (refwords _ _ (by omega)).mono ?_
  rintro e w1 ⟨v, rfl, ⟨hl, hv⟩, hb⟩
  obtain ⟨va, vc, rfl⟩ : ∃ a c, v = .slice a 0 c := by
    rw [HW.out] at hv
    rcases hv with ⟨h1, _⟩ | ⟨g, c, h1, _⟩
    · exact ⟨_, _, h1⟩
    · exact ⟨_, _, h1⟩
  have HC := Lib.hid (HR.out.new hb)
  have HB := Lib.hid (HB0.out.trans (hb.mono HB0.out.size))
  clear hl hv hb
  go_wp2_with (refine wpList_cmdR rfl (.tmp 2) (.tmp 23) rfl w.heap.size Cmd.none (.slice none 0 0) Cmd.none (.slice none 0 0) HC.out rfl rfl rfl ?_; intro W2 hC2 hK2; obtain ⟨r0, r1, r2, r3, r4, r5, r6, r7, r8, r9, r10⟩ := cb_zero hC2)
  refine bodyPost_ret (v := .tuple #[zeroCmd, .int .i64 1]) (by simp [results, Try.results32, go_sem, zeroCmd, r0, r1, r2, r3, r4, r5, r6, r7, r8, r9, r10]) rfl ?_
  exact isParR_none (par_below HB.out hK2)
set_option maxHeartbeats 2000000 in
set_option maxRecDepth 100000 in
theorem rparse_noverb (s : ByteArray) (w : World) (n : List UInt8) (ws : List (List UInt8)) (h : s.size ≤ 2048) (hw : wordsF s.data.toList = n :: ws) (hf : formOf n = none) (hlen : (n :: ws).length ≤ 1048576) : Calls Try.prog 32 #[.string s] w (IsParR w (Cmd.none, 1)) := by
  have d0 : decide (2048 < (s.size : Int)) = false := decide_eq_false (by omega)
  have HW := Lib.hid hw
  have HR := Lib.hid (res_newR w)
  have HB0 := Lib.hid (show Below w.heap.size w (w.alloc (.cells #[.int .u8 0, .slice none 0 0, .int .u8 0, .string ⟨#[]⟩, .string ⟨#[]⟩, .int .u32 0, .int .i64 0, .int .u64 0, .int .u64 0, .int .i64 0, .bool false] 58)) from (Below.refl _ _).alloc (Nat.le_refl _) _)
  have HV := Lib.hid (rverb n)
  rw [verbN_none hf] at HV
  clear hw hf
  go_enter Try.func32, Try.ntmps32
  go_wp2_with fail
  refine (refwords _ _ (by omega)).mono ?_
  rintro e W ⟨v, rfl, ⟨hl, hv⟩, hb⟩
  rw [HW.out] at hv
  obtain ⟨-, h0⟩ | ⟨g, cap, rfl, hgB, hgl, hnc, hcm, hx⟩ := hv
  · simp at h0
  have HC := Lib.hid (HR.out.new hb)
  have HB := Lib.hid (HB0.out.trans (hb.mono HB0.out.size))
  have c1 : W.cell? ⟨g, 0, none⟩ = some (.string ⟨n.toArray⟩) := (hx 0 _ rfl).1
  obtain ⟨m, hm⟩ : ∃ m, (n :: ws).length = m := ⟨_, rfl⟩
  have hm0 : 0 < m := by rw [← hm]; simp
  rw [hm] at hnc hlen ⊢
  have e0 : ((m : Int) == 0) = false := beq_eq_false_iff_ne.mpr (by omega)
  clear hl hb hgB hx hm
  go_wp2_with fail
  refine (HV.out _).mono ?_
  rintro e w1 ⟨rfl, hb1⟩
  have HC1 := Lib.hid (HC.out.new hb1)
  have HB1 := Lib.hid (HB.out.trans (hb1.mono HB.out.size))
  clear hb1 HC HB
  go_wp2_with (refine wpList_cmdR rfl (.tmp 2) (.tmp 30) rfl w.heap.size Cmd.none (.slice none 0 0) Cmd.none (.slice none 0 0) HC1.out rfl rfl rfl ?_; intro W2 hC2 hK2; obtain ⟨r0, r1, r2, r3, r4, r5, r6, r7, r8, r9, r10⟩ := cb_zero hC2)
  refine bodyPost_ret (v := .tuple #[zeroCmd, .int .i64 1]) (by simp [results, Try.results32, go_sem, zeroCmd, r0, r1, r2, r3, r4, r5, r6, r7, r8, r9, r10]) rfl ?_
  exact isParR_none (par_below HB1.out hK2)
/-- What stands of the chapter's Parse: the result, the words g from o on, the command q. -/
structure PzR (w wx : World) (g q : Nat) (c : Cmd) (kv : Value) (o : Nat) (l : List (List UInt8)) : Prop where
  below : Below w.heap.size w wx
  res : Cb wx w.heap.size (cmdC Cmd.none (.slice none 0 0))
  txt : TxAt wx g o l
  cmd : Cb wx q (cmdC c kv)
  rg : w.heap.size < g
  gq : g < q
theorem PzR.new {w wx W : World} {g q : Nat} {c : Cmd} {kv : Value} {o : Nat} {l : List (List UInt8)} (h : PzR w wx g q c kv o l) (hb : Below wx.heap.size wx W) : PzR w W g q c kv o l :=
  ⟨h.below.trans (hb.mono h.below.size), h.res.new hb, h.txt.keep (T := fun _ => False) (Keeps.of_new hb) (fun s => s), h.cmd.new hb, h.rg, h.gq⟩
theorem PzR.turn {w wx W : World} {g q : Nat} {c c' : Cmd} {kv kv' : Value} {o : Nat} {l : List (List UInt8)} (h : PzR w wx g q c kv o l) (hk : Keeps (fun k => k = q) wx W) (hc : Cb W q (cmdC c' kv')) : PzR w W g q c' kv' o l := by
  have h1 := h.rg
  have h2 := h.gq
  exact ⟨h.below.trans (hk.to_below (fun k _ e => by omega) h.below.size), h.res.keep hk (by omega), h.txt.keep hk (by omega), hc, h1, h2⟩
theorem PzR.text {w wx : World} {g q : Nat} {c : Cmd} {kv : Value} {o o' : Nat} {l l' : List (List UInt8)} (h : PzR w wx g q c kv o l) (ht : TxAt wx g o' l') : PzR w wx g q c kv o' l' := ⟨h.below, h.res, ht, h.cmd, h.rg, h.gq⟩
end Go.Proofs.Ytifbcejekdhnlaa
