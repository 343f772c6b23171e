/- Feeds: a line has ended. -/
import Derived.Test.YtifbcejekdhnlaaDoorFe1
import Derived.Test.YtifbcejekdhnlaaDoorBy2
namespace Go.Proofs.YtifbcejekdhnlaaDoor
open Go.RowKit Go.Maps
set_option linter.unusedVariables false

/-- What a byte, taken, leaves. -/
def TkPost (W : World) (q : Nat) (U : Nat → Prop) (r : Fst × Option Ev) (e : Ending) (W' : World) : Prop :=
  ∃ (U' : Nat → Prop) (hv kv : Value) (ev : Ev) (kv2 : Value), e = .returned (.tuple #[.agg (evC ev kv2).toArray, .bool r.2.isSome]) ∧ (r.2 = some ev ∨ r.2 = none ∧ ev = Ev.none) ∧ Turn U U' W W' ∧ FdAt W' q U' r.1 hv kv ∧ KyS W' U' kv2 ev.cmd.keys
theorem ev_cells {w : World} {q : Nat} {e : Ev} {kv : Value} (h : Cb w q (evC e kv)) : w.cell? ⟨q, 0, none⟩ = some (.int .u8 (e.cmd.verb : Nat)) ∧ w.cell? ⟨q, 1, none⟩ = some kv ∧ w.cell? ⟨q, 2, none⟩ = some (.int .u8 (e.cmd.cverb : Nat)) ∧ w.cell? ⟨q, 3, none⟩ = some (.string ⟨e.cmd.key.toArray⟩) ∧ w.cell? ⟨q, 4, none⟩ = some (.string ⟨e.cmd.value.toArray⟩) ∧ w.cell? ⟨q, 5, none⟩ = some (.int .u32 e.cmd.flags) ∧ w.cell? ⟨q, 6, none⟩ = some (.int .i64 e.cmd.exp) ∧ w.cell? ⟨q, 7, none⟩ = some (.int .u64 e.cmd.id) ∧ w.cell? ⟨q, 8, none⟩ = some (.int .u64 e.cmd.by_) ∧ w.cell? ⟨q, 9, none⟩ = some (.int .i64 e.cmd.bytes) ∧ w.cell? ⟨q, 10, none⟩ = some (.bool e.cmd.quiet) ∧ w.cell? ⟨q, 11, none⟩ = some (.string ⟨e.data.toArray⟩) ∧ w.cell? ⟨q, 12, none⟩ = some (.int .u8 (e.told : Nat)) :=
  ⟨h.at_ 0 _ rfl, h.at_ 1 _ rfl, h.at_ 2 _ rfl, h.at_ 3 _ rfl, h.at_ 4 _ rfl, h.at_ 5 _ rfl, h.at_ 6 _ rfl, h.at_ 7 _ rfl, h.at_ 8 _ rfl, h.at_ 9 _ rfl, h.at_ 10 _ rfl, h.at_ 11 _ rfl, h.at_ 12 _ rfl⟩
theorem ev_new (w : World) : Cb (w.alloc (.cells #[.int .u8 0, .slice none 0 0, .int .u8 0, .string ⟨#[]⟩, .string ⟨#[]⟩, .int .u32 0, .int .i64 0, .int .u64 0, .int .u64 0, .int .i64 0, .bool false, .string ⟨#[]⟩, .int .u8 0] 67)) w.heap.size (evC Ev.none (.slice none 0 0)) := cb_new rfl
theorem cutCr_len (l : List UInt8) : (cutCr l).length ≤ l.length := by
  unfold cutCr
  split
  · simp
  · omega
theorem own_cell8 {w : World} {B : Nat} {e : TypeId} {g o c : Nat} {l : List UInt8} (h : w.ownsRow B e 1 (.slice (some ⟨g, o, none⟩) l.length c) l.length (byv l)) (j : Nat) (hj : j < l.length) : o = 0 ∧ w.cell? ⟨g, j, none⟩ = some (.int .u8 (l[j].toNat : Int)) := by
  have hc := h
  obtain ⟨_, ⟨h0, _⟩ | ⟨g', cap, cur, hv, _⟩⟩ := h
  · simp at h0
  · injection hv with h1 h2 h3
    injection h1 with h1
    injection h1 with h4 h5
    subst h4 h5
    have := hc.cells rfl j _ (byv_at hj)
    rw [Addr.add_lit] at this
    exact ⟨rfl, by simpa using this⟩
theorem own_rd8 {w : World} {B : Nat} {e : TypeId} {a : Option Addr} {c : Nat} {l : List UInt8} (h : w.ownsRow B e 1 (.slice a l.length c) l.length (byv l)) : Rd w w.heap.size a l := fun h0 => by
  obtain ⟨_, ⟨h1, h2⟩ | ⟨g', cap, cur, hv, hB, hb, _⟩⟩ := id h
  · rw [h2] at h0; omega
  · injection hv with h1 h2 h3
    subst h1
    exact ⟨g', 0, rfl, blk_lt hb, fun j hj => by rw [Nat.zero_add]; exact (own_cell8 h j hj).2⟩
theorem cutCr_take (l : List UInt8) : cutCr l = l.take (cutCr l).length := by
  unfold cutCr
  split
  · rw [List.dropLast_eq_take]; simp
  · simp
theorem turn_keep {U : Nat → Prop} {W W' : World} (h : Keeps U W W') : Turn U U W W' := ⟨h, fun _ u => .inl u⟩
theorem fd_at {W : World} {q n : Nat} {U : Nat → Prop} (h : Cb W q (fdC (Fst.at n) (.slice none 0 0) (.slice none 0 0))) (hq : U q) (hl : ∀ k, U k → k < W.heap.size) : FdAt W q U (Fst.at n) (.slice none 0 0) (.slice none 0 0) :=
  ⟨h, World.ownsRow_nil _ _ _ _, fun g e => by simp [Value.ownBlock] at e, hq, KyS.nil _ _, hl⟩
theorem tk_none {W W' : World} {q n : Nat} {U : Nat → Prop} (hk : Keeps U W W') (h : Cb W' q (fdC (Fst.at n) (.slice none 0 0) (.slice none 0 0))) (hq : U q) (hl : ∀ k, U k → k < W.heap.size) : TkPost W q U (Fst.at n, none) (.returned (.tuple #[zeroEv, .bool false])) W' :=
  ⟨U, _, _, Ev.none, .slice none 0 0, rfl, .inr ⟨rfl, rfl⟩, turn_keep hk, fd_at h hq (fun k u => Nat.lt_of_lt_of_le (hl k u) hk.size), KyS.nil _ _⟩
theorem tk_fault {W W' : World} {q n t : Nat} {U : Nat → Prop} (hk : Keeps U W W') (h : Cb W' q (fdC (Fst.at n) (.slice none 0 0) (.slice none 0 0))) (hq : U q) (hl : ∀ k, U k → k < W.heap.size) : TkPost W q U (Fst.at n, some (Ev.fault t)) (.returned (.tuple #[.agg (evC (Ev.fault t) (.slice none 0 0)).toArray, .bool true])) W' :=
  ⟨U, _, _, Ev.fault t, .slice none 0 0, rfl, .inl rfl, turn_keep hk, fd_at h hq (fun k u => Nat.lt_of_lt_of_le (hl k u) hk.size), KyS.nil _ _⟩
/-- A store of a whole command into a feed. -/
theorem wpList_cmdAt {ops : Array Oper} {rest : List Oper} {op : Oper} {a : Act} {w : World} {Q : Exit → Act → World → Prop} (hgd : op.guard = none) (x y : Operand) (ho : op.op = .store 30 x y)
    (q : Nat) (s : Fst) (c : Cmd) (hv kv kv' : Value) (h : Cb w q (fdC s hv kv)) (h1 : kv'.oneCell' = true) (hx : a.eval x = .pointer (some ⟨q, 3, none⟩)) (hy : a.eval y = .agg (cmdC c kv').toArray)
    (hK : ∀ W, Cb W q (fdC { s with cmd := c } hv kv') → Keeps (fun k => k = q) w W → wpList Tryd.prog ops Q rest (a.put op.dst undef) W) : wpList Tryd.prog ops Q (op :: rest) a w := by
  have ht := h.there
  refine wpList_store_mid hgd 30 x y ho q 3 (cmdC c kv').toArray hx hy ?_ ?_ (cmdC_one h1) (hK _ ?_ ?_)
  · intro j hj
    have := ht (3 + j) (by simp [cmdC] at hj; simp [fdC, cmdC]; omega)
    rwa [Nat.zero_add] at this
  · rw [info_cmdL]; rfl
  · have hth : w.there q 3 (cmdC c kv').length := by
      intro j hj
      have := ht (3 + j) (by simp [cmdC] at hj; simp [fdC, cmdC]; omega)
      rwa [Nat.zero_add] at this
    have hin := World.rangeAt_setCells_same w q 3 (cmdC c kv') hth
    have hr3 : w.rangeAt q 0 [.int .i64 s.way, hv, .bool s.ended] := fun j v hj => by
      rw [Nat.zero_add]
      refine h.at_ j v ?_
      have hjl := (List.getElem?_eq_some_iff.1 hj).1
      rw [← hj]
      match j, hjl with
      | 0, _ => rfl
      | 1, _ => rfl
      | 2, _ => rfl
    have hr14 : w.rangeAt q 14 [.int .i64 s.left] := fun j v hj => by
      have hjl := (List.getElem?_eq_some_iff.1 hj).1
      match j, hjl with
      | 0, _ => exact h.at_ 14 v hj
    have o3 := World.rangeAt_setCells_apart hr3 q 3 (cmdC c kv') (.inr (.inl (by simp)))
    have o14 := World.rangeAt_setCells_apart hr14 q 3 (cmdC c kv') (.inr (.inr (by simp [cmdC])))
    refine ⟨fun j v hj => ?_, fun j hj => by rw [frozen_setCells]; exact h.fz j hj, Nat.lt_of_lt_of_le h.lt (keeps_setCells q _ 3 w).size⟩
    have hjl : j < 15 := (List.getElem?_eq_some_iff.1 hj).1
    by_cases h3 : j < 3
    · have := o3 j v (by rw [← hj]; match j, h3 with | 0, _ => rfl | 1, _ => rfl | 2, _ => rfl)
      rwa [Nat.zero_add] at this
    · by_cases h14 : j = 14
      · subst h14
        exact o14 0 v hj
      · have := hin (j - 3) v (by rw [← hj]; match j, hjl, h3, h14 with | 3, _, _, _ => rfl | 4, _, _, _ => rfl | 5, _, _, _ => rfl | 6, _, _, _ => rfl | 7, _, _, _ => rfl | 8, _, _, _ => rfl | 9, _, _, _ => rfl | 10, _, _, _ => rfl | 11, _, _, _ => rfl | 12, _, _, _ => rfl | 13, _, _, _ => rfl | 0, _, h3, _ => exact absurd (by decide) h3 | 1, _, h3, _ => exact absurd (by decide) h3 | 2, _, h3, _ => exact absurd (by decide) h3 | 14, _, _, h14 => exact absurd rfl h14)
        rwa [show 3 + (j - 3) = j by omega] at this
  · exact keeps_setCells q _ 3 w
theorem par_keep {U : Nat → Prop} {w A B : World} (h : Keeps U w A) (k : Keeps (fun k => k = w.heap.size) A B) (hU : ¬ U w.heap.size) : Keeps U w B :=
  ⟨k.os.trans h.os, k.tape.trans h.tape, k.output.trans h.output, Nat.le_trans h.size k.size, fun i hi hn => (k.block i (Nat.lt_of_lt_of_le hi h.size) (by omega)).trans (h.block i hi hn)⟩
theorem KyS.stay {W W' : World} {U T : Nat → Prop} {kv : Value} {l : List (List UInt8)} (h : KyS W U kv l) (hk : Keeps T W W') (hT : ∀ g, ¬ U g → ¬ T g) : KyS W' U kv l := by
  rcases h with h | ⟨g, c, rfl, h1, h2, h3, h4, h5⟩
  · exact .inl h
  · exact .inr ⟨g, c, rfl, h1, h2, h3, Nat.lt_of_lt_of_le h4 hk.size, h5.keep hk (hT g h3)⟩
theorem KyS.less {W : World} {U U' : Nat → Prop} {kv : Value} {l : List (List UInt8)} (h : KyS W U' kv l) (hU : ∀ k, U k → U' k) : KyS W U kv l := by
  rcases h with h | ⟨g, c, rfl, h1, h2, h3, h4, h5⟩
  · exact .inl h
  · exact .inr ⟨g, c, rfl, h1, h2, fun u => h3 (hU g u), h4, h5⟩
set_option maxHeartbeats 4000000 in
set_option maxRecDepth 100000 in
theorem linew (q : Nat) (U : Nat → Prop) (s : Fst) (hv kv : Value) (w : World) (h : FdAt w q U s hv kv) (ho : s.held.length ≤ 2048) :
    Calls Tryd.prog 124 #[.pointer (some ⟨q, 0, none⟩)] w (TkPost w q U (lineF s.held)) := by
  obtain ⟨a, cap, rfl, hnc, hcm, ha0⟩ := row_slice h.row
  have hb0 : Below w.heap.size w (w.alloc (.cells #[.int .u8 0, .slice none 0 0, .int .u8 0, .string ⟨#[]⟩, .string ⟨#[]⟩, .int .u32 0, .int .i64 0, .int .u64 0, .int .u64 0, .int .i64 0, .bool false, .string ⟨#[]⟩, .int .u8 0] 67)) := (Below.refl _ _).alloc (Nat.le_refl _) _
  have hR := ev_new w
  have hF := h.new hb0
  obtain ⟨R, hRs⟩ : ∃ R, R = w.heap.size := ⟨_, rfl⟩
  have hqR : q ≠ R := by have := h.lt q h.me; omega
  have hUR : ¬ U R := fun u => by have := h.lt R u; omega
  rw [← hRs] at hR
  obtain ⟨X, hX⟩ : ∃ X, X = w.alloc (.cells #[.int .u8 0, .slice none 0 0, .int .u8 0, .string ⟨#[]⟩, .string ⟨#[]⟩, .int .u32 0, .int .i64 0, .int .u64 0, .int .u64 0, .int .i64 0, .bool false, .string ⟨#[]⟩, .int .u8 0] 67) := ⟨_, rfl⟩
  rw [← hX] at hb0 hR hF
  have c1 := hF.cells.at_ 1 _ rfl
  have hrd := own_rd8 hF.row
  have hcl := cutCr_len s.held
  have hct := cutCr_take s.held
  have hcv := conv_by (P := Tryd.prog) X 46 9 5 Tryd.underlying46 Tryd.underlying5 Tryd.underlying9 (l := cutCr s.held) cap (by rw [hct]; exact hrd.cut _)
  obtain ⟨n, hn⟩ : ∃ n, s.held.length = n := ⟨_, rfl⟩
  rw [hn] at c1 hnc hcl ha0 ho
  have HLT := Lib.hid (fun k (u : U k) => h.lt k u)
  have HME := Lib.hid h.me
  have HX := Lib.hid hX
  have HB := Lib.hid hb0
  have HF := Lib.hid hF
  have HR := Lib.hid hR
  have HRS := Lib.hid hRs
  have HN := Lib.hid hn
  have HRD := Lib.hid hrd
  have HCV := Lib.hid hcv
  have HCT := Lib.hid hct
  unfold maxLen at hcm
  clear h hX hb0 hF hR hn hrd hcv hct
  go_enter Tryd.func124, Tryd.ntmps124
  go_upto_region 1 with (fail)
  rw [← hRs]
  generalize hWW : w.alloc _ = X'
  obtain rfl : X' = X := by rw [HX.out, ← hWW]
  clear hWW hRs
  go_upto_region 3 with (fail)
  go_cut [23] from 8 (fun s23 wx => s23 = .bool (decide (s.held.getLast? = some 13)) ∧ wx = X')
  case first =>
    by_cases h0 : n = 0
    · have HL := Lib.hid (show decide (s.held.getLast? = some 13) = false by have := HN.out; rw [List.eq_nil_of_length_eq_zero (by omega : s.held.length = 0)]; rfl)
      have d0 : decide (0 < (n : Int)) = false := decide_eq_false (by omega)
      have d1 : decide (0 < n) = false := decide_eq_false (by omega)
      clear h0
      go_wp2_with fail
      go_meet
      case rel => exact ⟨by rw [HL.out], rfl⟩
    · obtain ⟨m, rfl⟩ : ∃ m, n = m + 1 := ⟨n - 1, by omega⟩
      have hm : m < s.held.length := by rw [HN.out]; omega
      have hgl : s.held.getLast? = some s.held[m] := by rw [List.getLast?_eq_getElem?, HN.out]; exact List.getElem?_eq_getElem hm
      obtain ⟨g, o, rfl, hgm⟩ : ∃ g o, a = some ⟨g, o, none⟩ ∧ X'.cell? ⟨g, o + m, none⟩ = some (.int .u8 (s.held[m].toNat : Int)) := by
        obtain ⟨g, o, e, _, hx⟩ := HRD.out (by omega)
        exact ⟨g, o, e, hx m hm⟩
      obtain ⟨y, hy⟩ : ∃ y, y = s.held[m] := ⟨_, rfl⟩
      rw [← hy] at hgl hgm
      clear hy hm h0
      by_cases hy : y = 13
      · have HL := Lib.hid (show decide (s.held.getLast? = some 13) = true by rw [hgl, hy]; rfl)
        have e1 : ((y.toNat : Int) == 13) = true := by rw [hy]; rfl
        clear hy hgl
        go_wp2_with fail
        go_meet
        case rel => exact ⟨by rw [HL.out], rfl⟩
      · have HL := Lib.hid (show decide (s.held.getLast? = some 13) = false by rw [hgl]; simpa using hy)
        have e1 : ((y.toNat : Int) == 13) = false := beq_eq_false_iff_ne.mpr (fun e => hy (UInt8.toNat_inj.mp (by show y.toNat = 13; omega)))
        clear hy hgl
        go_wp2_with fail
        go_meet
        case rel => exact ⟨by rw [HL.out], rfl⟩
  obtain ⟨rfl, hX⟩ := hcut
  rw [hX]
  clear hX wc
  go_upto_if 23 with (fail)
  go_cut [4] from 8 (fun s4 wx => s4 = .slice a (cutCr s.held).length cap ∧ wx = X')
  case first =>
    cases hL : decide (s.held.getLast? = some 13) with
    | false =>
      have HE := Lib.hid (show cutCr s.held = s.held by unfold cutCr; rw [if_neg (of_decide_eq_false hL)])
      clear hL
      go_wp2_with fail
      go_meet
      case rel => exact ⟨by rw [HE.out, HN.out], rfl⟩
    | true =>
      have hl := of_decide_eq_true hL
      have HE := Lib.hid (show cutCr s.held = s.held.dropLast by unfold cutCr; rw [if_pos hl])
      have hn0 : 0 < n := by
        have := HN.out
        cases hh : s.held with
        | nil => rw [hh] at hl; simp at hl
        | cons b l => rw [hh] at this; simp at this; omega
      obtain ⟨m, rfl⟩ : ∃ m, n = m + 1 := ⟨n - 1, by omega⟩
      obtain ⟨g, o, rfl, _⟩ : ∃ g o, a = some ⟨g, o, none⟩ ∧ True := by
        obtain ⟨g, o, e, _⟩ := HRD.out (by rw [HN.out]; omega)
        exact ⟨g, o, e, trivial⟩
      clear hL hl hn0
      go_wp2_with fail
      go_meet
      case rel => exact ⟨by rw [HE.out, List.length_dropLast, HN.out]; rfl, rfl⟩
  obtain ⟨rfl, hX⟩ := hcut
  rw [hX]
  clear hX wc
  obtain ⟨L, hL⟩ : ∃ L, L = cutCr s.held := ⟨_, rfl⟩
  have hcv2 := HCV.out
  rw [← hL] at hcl hcv2 ⊢
  have hLs : (⟨L.toArray⟩ : ByteArray).size ≤ maxLen := txt_size (by omega)
  have HP := Lib.hid (parsel ⟨L.toArray⟩ X' hLs)
  have HLL := Lib.hid (show lineF s.held = endLine (parseC L) by rw [hL]; rfl)
  clear hL
  go_upto_region 5 with (fail)
  go_wp2_with fail
  refine HP.out.mono ?_
  rintro e w1 ⟨kv1, rfl, hky, hb1⟩
  rw [show parseC (⟨L.toArray⟩ : ByteArray).data.toList = parseC L from rfl] at hky ⊢
  have hok := parseC_ok L
  obtain ⟨p, hp⟩ : ∃ p, p = parseC L := ⟨_, rfl⟩
  rw [← hp] at hky hok ⊢
  obtain ⟨c, t⟩ := p
  have HE := Lib.hid (show lineF s.held = endLine (c, t) by rw [HLL.out, ← hp])
  have HK1 := Lib.hid (lst_one hky)
  have hKY := KyS.of_lst (U := fun k => U k ∨ k = R) hky (fun g hg hl u => by
    have h1 := HRS.out
    have h2 := HB.out.size
    have h3 := HR.out.lt
    rcases u with u | u
    · have := HLT.out g u; omega
    · omega)
  have HF1 := Lib.hid (HF.out.new hb1)
  have HR1 := Lib.hid (HR.out.new hb1)
  have HB1 := Lib.hid (HB.out.trans (hb1.mono HB.out.size))
  have HKY := Lib.hid hKY
  have h0 := hok.lo
  have h1 := hok.hi
  have h2 := hok.told
  simp only at h0 h1 h2
  have hu1 : ∀ v ∈ cmdC c kv1, v.oneCell' = true := fun v hv => by
    have := Array.all_eq_true_iff_forall_mem.1 (cmdC_one (c := c) HK1.out) v (by simpa using hv)
    exact this
  have HU1 := Lib.hid hu1
  clear hp hky hb1 hKY hok HLL HP hcv2 hLs hu1
  obtain ⟨ka, kn, kc, rfl⟩ : ∃ a n c, kv1 = .slice a n c := by
    rcases HKY.out with ⟨rfl, _⟩ | ⟨g, c, rfl, _⟩
    · exact ⟨_, _, _, rfl⟩
    · exact ⟨_, _, _, rfl⟩
  unfold cmdC
  go_upto_region 6 with (fail)
  have hn6 : Below w1.heap.size w1 (w1.alloc (.cells (cmdC c (.slice ka kn kc)).toArray 30)) := (Below.refl _ _).alloc (Nat.le_refl _) _
  have HC6 := Lib.hid (show Cb (w1.alloc (.cells (cmdC c (.slice ka kn kc)).toArray 30)) w1.heap.size (cmdC c (.slice ka kn kc)) from cb_new (by simp))
  have HF2 := Lib.hid (HF1.out.new hn6)
  have HR2 := Lib.hid (HR1.out.new hn6)
  have HK2 := Lib.hid (HKY.out.stay (T := fun _ => False) (Keeps.of_new hn6) (fun _ _ f => f))
  have HT2 := Lib.hid (Keeps.of_new (S := U) (HB1.out.trans (hn6.mono HB1.out.size)))
  have hb6 : q ≠ w1.heap.size ∧ R ≠ w1.heap.size ∧ ¬ U w1.heap.size := ⟨by have := HF1.out.cells.lt; omega, by have := HR1.out.lt; omega, fun u => by have := HF1.out.lt _ u; omega⟩
  clear hn6
  generalize w1.heap.size = b6 at *
  unfold cmdC at HC6 HF2 HR2 HK2 HT2
  generalize hYY : w1.alloc _ = Y at *
  clear hYY HF1 HR1 HKY HB1 HU1
  obtain ⟨hqb, hRb, hUb⟩ := hb6
  have HTW := Lib.hid (turnw q 0 s _ _ Y HF2.out.cells)
  go_wp2_with fail
  refine HTW.out.mono ?_
  rintro e Y2 ⟨rfl, hC2, hk2⟩
  have HC62 := Lib.hid (Cb.keep (C := cmdC c (.slice ka kn kc)) HC6.out hk2 (by omega))
  have HR3 := Lib.hid (HR2.out.keep hk2 (by omega))
  have hkU : Keeps U Y Y2 := hk2.mono (fun k _ e => e ▸ HME.out)
  have HK3 := Lib.hid (HK2.out.stay hkU (fun g hg u => hg (.inl u)))
  have HT3 := Lib.hid (HT2.out.trans hkU (fun _ _ u => u))
  have HQ2 := Lib.hid hC2
  have HTW3 := Lib.hid (turnw q 3 (Fst.at 0) _ _ Y2 hC2)
  have HTW1 := Lib.hid (turnw q 1 (Fst.at 0) _ _ Y2 hC2)
  clear hC2 hk2 hkU HTW HC6 HR2 HK2 HT2 HF2
  by_cases h5 : t = 5
  · subst h5
    have HEE := Lib.hid (show lineF s.held = ({ Fst.at 3 with left := c.bytes + 2 }, some (Ev.fault 5)) from HE.out)
    go_wp2_with fail
    refine HTW3.out.mono ?_
    rintro e Y3 ⟨rfl, hC3, hk3⟩
    have c69 := (Cb.keep HC62.out hk3 (by omega : ¬ b6 = q)).at_ 9 _ rfl
    have c14 := hC3.at_ 14 _ rfl
    have z14 := hC3.fz 14 (by show 14 < 15; decide)
    have hs := hC3.set 14 (.int .i64 (c.bytes + 2)) (by show 14 < 15; decide) (C' := fdC { Fst.at 3 with left := c.bytes + 2 } (.slice none 0 0) (.slice none 0 0)) rfl
    have hks : Keeps (fun k => k = q) Y2 (Y3.setCell ⟨q, 14, none⟩ (.int .i64 (c.bytes + 2))) := Keeps.setCell (S := fun k => k = q) hk3 (p := ⟨q, 14, none⟩) (.inl rfl) _
    have hkU : Keeps U Y2 (Y3.setCell ⟨q, 14, none⟩ (.int .i64 (c.bytes + 2))) := hks.mono (fun k _ e => e ▸ HME.out)
    have HS := Lib.hid hs
    have HR4 := Lib.hid (HR3.out.keep hks (by omega))
    have HT4 := Lib.hid (HT3.out.trans hkU (fun _ _ u => u))
    clear hC3 hk3 hs hks hkU
    go_wp2_with fail
    refine (faultw 5 _).mono ?_
    rintro e Y5 ⟨rfl, hb5⟩
    obtain ⟨ev, hev⟩ : ∃ ev, ev = Ev.fault 5 := ⟨_, rfl⟩
    rw [← hev]
    have HEV := Lib.hid hev
    clear hev
    have HR5 := Lib.hid (HR4.out.new hb5)
    have HS5 := Lib.hid (HS.out.new hb5)
    have HT5 := Lib.hid (HT4.out.trans (Keeps.of_new (S := U) hb5) (fun _ _ u => u))
    clear hb5 HR4 HS HT4
    go_wp2_with (refine wpList_cb rfl 67 (.tmp 2) (.tmp 49) rfl R _ (evC ev (.slice none 0 0)) HR5.out rfl info_ev (evC_one rfl) rfl rfl ?_; intro Y9 hC9 hK9; obtain ⟨r0, r1, r2, r3, r4, r5, r6, r7, r8, r9, r10, r11, r12⟩ := ev_cells hC9)
    refine bodyPost_ret (v := .tuple #[.agg (evC ev (.slice none 0 0)).toArray, .bool true]) (by simp [results, Tryd.results124, go_sem, evC, cmdC, r0, r1, r2, r3, r4, r5, r6, r7, r8, r9, r10, r11, r12]) rfl ?_
    rw [HEE.out, HEV.out]
    have hS9 := Cb.keep HS5.out hK9 (by omega)
    have hk := par_keep HT5.out (by rw [← HRS.out]; exact hK9) (by rw [← HRS.out]; exact hUR)
    exact ⟨U, _, _, Ev.fault 5, .slice none 0 0, rfl, .inl rfl, turn_keep hk, ⟨hS9, World.ownsRow_nil _ _ _ _, fun g e => by simp [Value.ownBlock] at e, HME.out, KyS.nil _ _, fun k u => Nat.lt_of_lt_of_le (HLT.out k u) hk.size⟩, KyS.nil _ _⟩
  have d5 : ((t : Int) == 5) = false := beq_eq_false_iff_ne.mpr (by omega)
  by_cases h00 : t = 0
  · subst h00
    by_cases hbn : c.bytes < 0
    · have HEE := Lib.hid (show lineF s.held = (Fst.at 0, some ⟨c, [], 0⟩) by rw [HE.out]; simp [endLine, hbn])
      have dn : decide (c.bytes < 0) = true := decide_eq_true hbn
      obtain ⟨k0, k1, k2, k3, k4, k5, k6, k7, k8, k9, k10⟩ := cb_cells HC62.out
      have hvk : (Value.slice ka kn kc).oneCell' = true := rfl
      obtain ⟨ev, hev⟩ : ∃ ev : Ev, ev = ⟨c, [], 0⟩ := ⟨_, rfl⟩
      have HEV := Lib.hid hev
      clear hev
      go_wp2_with (refine wpList_cb rfl 67 (.tmp 2) (.tmp 63) rfl R _ (evC ⟨c, [], 0⟩ (.slice ka kn kc)) HR3.out rfl info_ev (evC_one rfl) rfl rfl ?_; intro Y9 hC9 hK9; rw [← HEV.out] at hC9; obtain ⟨r0, r1, r2, r3, r4, r5, r6, r7, r8, r9, r10, r11, r12⟩ := ev_cells hC9)
      refine bodyPost_ret (v := .tuple #[.agg (evC ev (.slice ka kn kc)).toArray, .bool true]) (by simp [results, Tryd.results124, go_sem, evC, cmdC, r0, r1, r2, r3, r4, r5, r6, r7, r8, r9, r10, r11, r12]) rfl ?_
      rw [HEE.out, HEV.out]
      have hk := par_keep HT3.out (by rw [← HRS.out]; exact hK9) (by rw [← HRS.out]; exact hUR)
      exact ⟨U, _, _, ⟨c, [], 0⟩, .slice ka kn kc, rfl, .inl rfl, turn_keep hk, fd_at (Cb.keep HQ2.out hK9 (by omega)) HME.out (fun k u => Nat.lt_of_lt_of_le (HLT.out k u) hk.size), (HK3.out.stay hK9 (fun g hg e => hg (.inr e))).less (fun k u => .inl u)⟩
    · have HEE := Lib.hid (show lineF s.held = ({ Fst.at 1 with cmd := c }, none) by rw [HE.out]; simp [endLine, hbn])
      have dn : decide (c.bytes < 0) = false := decide_eq_false hbn
      obtain ⟨k0, k1, k2, k3, k4, k5, k6, k7, k8, k9, k10⟩ := cb_cells HC62.out
      go_wp2_with fail
      refine HTW1.out.mono ?_
      rintro e Y3 ⟨rfl, hC3, hk3⟩
      have hC63 := Cb.keep HC62.out hk3 (by omega : ¬ b6 = q)
      obtain ⟨k0, k1, k2, k3, k4, k5, k6, k7, k8, k9, k10⟩ := cb_cells hC63
      have HC3 := Lib.hid hC3
      have HK33 := Lib.hid (HK3.out.stay hk3 (fun g hg e => hg (.inl (e ▸ HME.out))))
      have HR4 := Lib.hid (HR3.out.keep hk3 (by omega))
      have hkU : Keeps U Y2 Y3 := hk3.mono (fun k _ e => e ▸ HME.out)
      have HT4 := Lib.hid (HT3.out.trans hkU (fun _ _ u => u))
      clear hC3 hk3 hC63 hkU
      go_wp2_with (first
        | (refine wpList_cmdAt rfl (.tmp 69) (.tmp 67) rfl q (Fst.at 1) c (.slice none 0 0) (.slice none 0 0) (.slice ka kn kc) HC3.out rfl rfl rfl ?_; intro Y4 hC4 hK4; have HC4 := Lib.hid hC4; have HR5 := Lib.hid (HR4.out.keep hK4 (by omega)); have HK4 := Lib.hid hK4; clear hC4 hK4)
        | (refine wpList_cb rfl 67 (.tmp 2) (.tmp 70) rfl R _ (evC Ev.none (.slice none 0 0)) HR5.out rfl info_ev (evC_one rfl) rfl rfl ?_; intro Y9 hC9 hK9; obtain ⟨r0, r1, r2, r3, r4, r5, r6, r7, r8, r9, r10, r11, r12⟩ := ev_cells hC9))
      refine bodyPost_ret (v := .tuple #[.agg (evC Ev.none (.slice none 0 0)).toArray, .bool false]) (by simp [results, Tryd.results124, go_sem, evC, cmdC, r0, r1, r2, r3, r4, r5, r6, r7, r8, r9, r10, r11, r12]) rfl ?_
      rw [HEE.out]
      have hkU : Keeps U Y3 Y4 := HK4.out.mono (fun k _ e => e ▸ HME.out)
      have hk := par_keep (HT4.out.trans hkU (fun _ _ u => u)) (by rw [← HRS.out]; exact hK9) (by rw [← HRS.out]; exact hUR)
      exact ⟨U, _, _, Ev.none, .slice none 0 0, rfl, .inr ⟨rfl, rfl⟩, turn_keep hk, ⟨Cb.keep HC4.out hK9 (by omega), World.ownsRow_nil _ _ _ _, fun g e => by simp [Value.ownBlock] at e, HME.out, ((HK33.out.stay HK4.out (fun g hg e => hg (.inl (e ▸ HME.out)))).stay hK9 (fun g hg e => hg (.inr e))).less (fun k u => .inl u), fun k u => Nat.lt_of_lt_of_le (HLT.out k u) hk.size⟩, KyS.nil _ _⟩
  · have HEE := Lib.hid (show lineF s.held = (Fst.at 0, some (Ev.fault t)) by rw [HE.out]; simp [endLine, h00, h5])
    have d6 : ((t : Int) != 0) = true := by simpa using h00
    go_wp2_with fail
    refine (faultw t _).mono ?_
    rintro e Y5 ⟨rfl, hb5⟩
    obtain ⟨ev, hev⟩ : ∃ ev, ev = Ev.fault t := ⟨_, rfl⟩
    rw [← hev]
    have HEV := Lib.hid hev
    clear hev
    have HR5 := Lib.hid (HR3.out.new hb5)
    have HS5 := Lib.hid (HQ2.out.new hb5)
    have HT5 := Lib.hid (HT3.out.trans (Keeps.of_new (S := U) hb5) (fun _ _ u => u))
    clear hb5 HR3 HT3
    go_wp2_with (refine wpList_cb rfl 67 (.tmp 2) (.tmp 56) rfl R _ (evC ev (.slice none 0 0)) HR5.out rfl info_ev (evC_one rfl) rfl rfl ?_; intro Y9 hC9 hK9; obtain ⟨r0, r1, r2, r3, r4, r5, r6, r7, r8, r9, r10, r11, r12⟩ := ev_cells hC9)
    refine bodyPost_ret (v := .tuple #[.agg (evC ev (.slice none 0 0)).toArray, .bool true]) (by simp [results, Tryd.results124, go_sem, evC, cmdC, r0, r1, r2, r3, r4, r5, r6, r7, r8, r9, r10, r11, r12]) rfl ?_
    rw [HEE.out, HEV.out]
    have hk := par_keep HT5.out (by rw [← HRS.out]; exact hK9) (by rw [← HRS.out]; exact hUR)
    exact tk_fault hk (Cb.keep HS5.out hK9 (by omega)) HME.out HLT.out
end Go.Proofs.YtifbcejekdhnlaaDoor
