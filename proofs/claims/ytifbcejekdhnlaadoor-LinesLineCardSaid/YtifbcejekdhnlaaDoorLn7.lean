/- Lines: Parse; as far as the verb. -/
import Derived.Test.YtifbcejekdhnlaaDoorLn6
namespace Go.Proofs.YtifbcejekdhnlaaDoor
open Go.RowKit Go.Maps
set_option linter.unusedVariables false

abbrev zForm : Obj := .cells #[.int .u8 0, .int .i64 0, .int .i64 0, .int .u8 0, .int .u8 0, .int .u8 0, .int .u8 0, .int .i64 0, .bool false] 74
theorem fb_cells {w : World} {q : Nat} (h : Cb w q (formC noForm)) : (w.cell? ⟨q, 0, none⟩ = some (.int .u8 0) ∧ w.cell? ⟨q, 1, none⟩ = some (.int .i64 0) ∧ w.cell? ⟨q, 2, none⟩ = some (.int .i64 0) ∧ w.cell? ⟨q, 3, none⟩ = some (.int .u8 0) ∧ w.cell? ⟨q, 4, none⟩ = some (.int .u8 0) ∧ w.cell? ⟨q, 5, none⟩ = some (.int .u8 0) ∧ w.cell? ⟨q, 6, none⟩ = some (.int .u8 0) ∧ w.cell? ⟨q, 7, none⟩ = some (.int .i64 0) ∧ w.cell? ⟨q, 8, none⟩ = some (.bool false)) ∧ (w.frozen? ⟨q, 0, none⟩ = false ∧ w.frozen? ⟨q, 1, none⟩ = false ∧ w.frozen? ⟨q, 2, none⟩ = false ∧ w.frozen? ⟨q, 3, none⟩ = false ∧ w.frozen? ⟨q, 4, none⟩ = false ∧ w.frozen? ⟨q, 5, none⟩ = false ∧ w.frozen? ⟨q, 6, none⟩ = false ∧ w.frozen? ⟨q, 7, none⟩ = false ∧ w.frozen? ⟨q, 8, none⟩ = false) :=
  ⟨⟨h.at_ 0 _ rfl, h.at_ 1 _ rfl, h.at_ 2 _ rfl, h.at_ 3 _ rfl, h.at_ 4 _ rfl, h.at_ 5 _ rfl, h.at_ 6 _ rfl, h.at_ 7 _ rfl, h.at_ 8 _ rfl⟩, h.fz 0 (by decide), h.fz 1 (by decide), h.fz 2 (by decide), h.fz 3 (by decide), h.fz 4 (by decide), h.fz 5 (by decide), h.fz 6 (by decide), h.fz 7 (by decide), h.fz 8 (by decide)⟩
theorem zform_new (W : World) : Cb (W.alloc zForm) W.heap.size (formC noForm) := cb_new rfl
/-- Words, where they lie. -/
def TxAt (w : World) (g o : Nat) (l : List (List UInt8)) : Prop := ∀ j x, l[j]? = some x → w.cell? ⟨g, o + j, none⟩ = some (.string ⟨x.toArray⟩)
theorem TxAt.keep {w W : World} {T : Nat → Prop} {g o : Nat} {l : List (List UInt8)} (h : TxAt w g o l) (hk : Keeps T w W) (hg : ¬ T g) : TxAt W g o l := fun j x hj => hk.cell (p := ⟨g, o + j, none⟩) hg (h j x hj)
/-- What stands of a Parse: the result R, the form b, the words g. -/
structure PzB (w wx : World) (g b : Nat) (f : Form) (l : List (List UInt8)) : Prop where
  below : Below w.heap.size w wx
  res : Cb wx w.heap.size (cmdC Cmd.none (.slice none 0 0))
  form : Cb wx b (formC f)
  txt : TxAt wx g 0 l
  rg : w.heap.size < g
  gb : g < b
theorem pz_one {w W w1 : World} {g : Nat} {f : Form} {l : List (List UInt8)} (hB : Below w.heap.size w W) (hR : Cb W w.heap.size (cmdC Cmd.none (.slice none 0 0))) (hT : TxAt W g 0 l) (hg : w.heap.size < g) (hgl : g < W.heap.size) (hb : Below W.drew.heap.size W.drew w1) :
    PzB w (w1.alloc (.cells (formC f).toArray 74)) g w1.heap.size f l := by
  have hd : Below W.heap.size W w1 := (Below.refl _ _).drew.trans hb
  have hn : Below w1.heap.size w1 (w1.alloc (.cells (formC f).toArray 74)) := (Below.refl _ _).alloc (Nat.le_refl _) _
  have hgl1 : g < w1.heap.size := Nat.lt_of_lt_of_le hgl hd.size
  exact ⟨(hB.trans (hd.mono hB.size)).trans (hn.mono (Nat.le_trans hB.size hd.size)), (hR.new hd).new hn, cb_new (by simp), (hT.keep (T := fun _ => False) (Keeps.of_new hd) (fun s => s)).keep (T := fun _ => False) (Keeps.of_new hn) (fun s => s), hg, hgl1⟩
theorem pz_two {w W w1 : World} {g : Nat} {f : Form} {l : List (List UInt8)} (hB : Below w.heap.size w W) (hR : Cb W w.heap.size (cmdC Cmd.none (.slice none 0 0))) (hT : TxAt W g 0 l) (hg : w.heap.size < g) (hgl : g < W.heap.size) (hb : Below (W.alloc zForm).drew.heap.size (W.alloc zForm).drew w1) :
    PzB w (w1.setCells W.heap.size 0 (formC f)) g W.heap.size f l := by
  have ha : Below W.heap.size W (W.alloc zForm) := (Below.refl _ _).alloc (Nat.le_refl _) _
  have hd : Below (W.alloc zForm).heap.size (W.alloc zForm) w1 := (Below.refl _ _).drew.trans hb
  have hk := keeps_setCells W.heap.size (formC f) 0 w1
  have hz := (zform_new W).new hd
  have hBW := hB.size
  refine ⟨((hB.trans (ha.mono hB.size)).trans (hd.mono (by simp; omega))).trans (hk.to_below (fun k _ e => by omega) (Nat.le_trans hB.size (Nat.le_trans ha.size hd.size))), ((hR.new ha).new hd).keep hk (by omega), cb_setCells hz rfl, ((hT.keep (T := fun _ => False) (Keeps.of_new ha) (fun s => s)).keep (T := fun _ => False) (Keeps.of_new hd) (fun s => s)).keep hk (by omega), hg, hgl⟩
theorem lookZ {w : World} {b b' : Nat} {n : List UInt8} (h : w.ownsMap Tryd.prog 9 fR b 13 formsD) (hb : b = b') (hn : (⟨n.toArray⟩ : ByteArray).size ≤ maxLen) (hf : formOf n = none) :
    (Instr.lookup 76 (.map (some b')) (.string ⟨n.toArray⟩) true).run Tryd.prog w = .ok (.tuple #[.agg #[.int .u8 0, .int .i64 0, .int .i64 0, .int .u8 0, .int .u8 0, .int .u8 0, .int .u8 0, .int .i64 0, .bool false], .bool false]) w := by
  subst hb
  exact lookF_none' h hn hf
theorem lookY {w : World} {b b' : Nat} {n : List UInt8} {f : Form} (h : w.ownsMap Tryd.prog 9 fR b 13 formsD) (hb : b = b') (hn : (⟨n.toArray⟩ : ByteArray).size ≤ maxLen) (hf : formOf n = some f) :
    (Instr.lookup 76 (.map (some b')) (.string ⟨n.toArray⟩) true).run Tryd.prog w = .ok (.tuple #[.agg #[.int .u8 f.verb, .int .i64 f.least, .int .i64 f.most, .int .u8 (f.fld 0 : Nat), .int .u8 (f.fld 1 : Nat), .int .u8 (f.fld 2 : Nat), .int .u8 (f.fld 3 : Nat), .int .i64 f.spare, .bool f.quiet], .bool true]) w := by
  subst hb
  exact lookF_some' h hn hf
set_option maxHeartbeats 2000000 in
set_option maxRecDepth 100000 in
theorem parse_noverb (s : ByteArray) (w : World) (n : List UInt8) (ws : List (List UInt8)) (h : s.size ≤ 2048) (hw : wordsF s.data.toList = n :: ws) (hf : formOf n = none) (hn : n.length ≤ 1048576) : Calls Tryd.prog 10 #[.string s] w (IsPar w (Cmd.none, 1)) := by
  have d0 : decide (2048 < (s.size : Int)) = false := decide_eq_false (by omega)
  have HW := Lib.hid hw
  have HR := Lib.hid (res_new w)
  have HB0 := Lib.hid (show Below w.heap.size w (w.alloc (.cells #[.int .u8 0, .slice none 0 0, .int .u8 0, .string ⟨#[]⟩, .string ⟨#[]⟩, .int .u32 0, .int .i64 0, .int .u64 0, .int .u64 0, .int .i64 0, .bool false] 30)) from (Below.refl _ _).alloc (Nat.le_refl _) _)
  have hns := txt_size hn
  have HF := Lib.hid hf
  clear hw hf hn
  go_enter Tryd.func10, Tryd.ntmps10
  go_wp2_with fail
  refine (wordsw _ _ (by omega)).mono ?_
  rintro e W ⟨v, rfl, ⟨hl, hv⟩, hb⟩
  rw [HW.out] at hv
  have hsz0 : (w.alloc (.cells #[.int .u8 0, .slice none 0 0, .int .u8 0, .string ⟨#[]⟩, .string ⟨#[]⟩, .int .u32 0, .int .i64 0, .int .u64 0, .int .u64 0, .int .i64 0, .bool false] 30)).heap.size = w.heap.size + 1 := by simp
  obtain ⟨-, h0⟩ | ⟨g, cap, rfl, hgB, hgl, hnc, hcm, hx⟩ := hv
  · simp at h0
  have HC := Lib.hid (HR.out.new hb)
  have HB := Lib.hid (HB0.out.trans (hb.mono HB0.out.size))
  have hT : TxAt W g 0 (n :: ws) := fun j x hj => by rw [Nat.zero_add]; exact (hx j _ (by simp only [strs, List.getElem?_map, hj]; rfl)).1
  have c1 : W.cell? ⟨g, 0, none⟩ = some (.string ⟨n.toArray⟩) := hT 0 n rfl
  have hgR : w.heap.size < g := by omega
  obtain ⟨m, hm⟩ : ∃ m, (n :: ws).length = m := ⟨_, rfl⟩
  have hm0 : 0 < m := by rw [← hm]; simp
  rw [hm] at hnc ⊢
  unfold maxLen at hcm
  have hmm : m ≤ 9223372036854775807 := by omega
  have e0 : ((m : Int) == 0) = false := beq_eq_false_iff_ne.mpr (by omega)
  have HT := Lib.hid hT
  have HG := Lib.hid (And.intro hgR hgl)
  clear hl hb hsz0 hgB hx hT hm hgR
  go_wp2_with fail
  have c3 := fun o => (World.cell?_alloc_some W _ o (by simp [c1])).trans c1
  have c1d : W.drew.cell? ⟨g, 0, none⟩ = some (.string ⟨n.toArray⟩) := c1
  have c3d : ∀ o, (W.alloc o).drew.cell? ⟨g, 0, none⟩ = some (.string ⟨n.toArray⟩) := c3
  go_region_held3 (fun X => X.cell? ⟨g, 0, none⟩ = some (.string ⟨n.toArray⟩))
    (first | with_reducible exact c1 | with_reducible exact c3 _ | with_reducible exact c2 | with_reducible exact c4 _ | with_reducible exact c1d | with_reducible exact c3d _ | exact c5)
    (first
      | (go_at_call 30; refine (formsw _).mono ?_; rintro e w1 ⟨rfl, hown, hb1⟩; have c2 := box_cell hb1 hgl c1; have c4 := (fun o => (World.cell?_alloc_some w1 _ o (by simp [c2])).trans c2); have hr1 : (Instr.lookup 76 (.map (some W.heap.size)) (.string ⟨n.toArray⟩) true).run Tryd.prog w1 = .ok (.tuple #[.agg #[.int .u8 0, .int .i64 0, .int .i64 0, .int .u8 0, .int .u8 0, .int .u8 0, .int .u8 0, .int .i64 0, .bool false], .bool false]) w1 := lookZ hown rfl hns HF.out; have hr2 : ∀ o, (Instr.lookup 76 (.map (some W.heap.size)) (.string ⟨n.toArray⟩) true).run Tryd.prog (w1.alloc o) = .ok (.tuple #[.agg #[.int .u8 0, .int .i64 0, .int .i64 0, .int .u8 0, .int .u8 0, .int .u8 0, .int .u8 0, .int .i64 0, .bool false], .bool false]) (w1.alloc o) := fun o => lookZ (hown.alloc o) rfl hns HF.out; have P := Lib.hid (pz_one (f := noForm) HB.out HC.out HT.out HG.out.1 HG.out.2 hb1); clear hown hb1)
      | (go_at_call 30; refine (formsw _).mono ?_; rintro e w1 ⟨rfl, hown, hb1⟩; have c2 := box_cell hb1 (by show g < (W.alloc _).heap.size; simp; omega) (c3 zForm); have c5 := ((keeps_setCells W.heap.size (formC noForm) 0 w1).cell (p := ⟨g, 0, none⟩) (by show ¬ g = W.heap.size; omega) c2); have hr1 : (Instr.lookup 76 (.map (some (W.heap.size + 1))) (.string ⟨n.toArray⟩) true).run Tryd.prog w1 = .ok (.tuple #[.agg #[.int .u8 0, .int .i64 0, .int .i64 0, .int .u8 0, .int .u8 0, .int .u8 0, .int .u8 0, .int .i64 0, .bool false], .bool false]) w1 := lookZ hown (by simp) hns HF.out; obtain ⟨⟨k0, k1, k2, k3, k4, k5, k6, k7, k8⟩, j0, j1, j2, j3, j4, j5, j6, j7, j8⟩ := fb_cells ((zform_new W).new ((Below.refl _ _).drew.trans hb1)); have P := Lib.hid (pz_two (f := noForm) HB.out HC.out HT.out HG.out.1 HG.out.2 hb1); clear hown hb1))
  all_goals
    go_wp2_with (refine wpList_cmd rfl (.tmp 2) (.tmp 31) rfl w.heap.size Cmd.none (.slice none 0 0) Cmd.none (.slice none 0 0) P.out.res rfl rfl rfl ?_; intro W2 hC2 hK2; obtain ⟨r0, r1, r2, r3, r4, r5, r6, r7, r8, r9, r10⟩ := cb_zero hC2)
    refine bodyPost_ret (v := .tuple #[zeroCmd, .int .u8 1]) (by simp [results, Tryd.results10, go_sem, zeroCmd, r0, r1, r2, r3, r4, r5, r6, r7, r8, r9, r10]) rfl ?_
    exact isPar_none (par_below P.out.below hK2)
end Go.Proofs.YtifbcejekdhnlaaDoor
