/- Lines: are keys the same, are commands. -/
import Derived.Test.YtifbcejekdhnlaaDoorGFy
import Derived.BigRegion
import Derived.Deep.RegionHeld
import Derived.Test.YtifbcejekdhnlaaDoorLn9
import Derived.Maps.AppendAt
import Derived.Test.YtifbcejekdhnlaaDoorLnF
import Derived.Test.YtifbcejekdhnlaaDoorShelf
import Derived.Maps.RangeWalk
import Derived.Test.YtifbcejekdhnlaaDoorKyJn
import Derived.Test.YtifbcejekdhnlaaDoorBits
import Derived.Test.YtifbcejekdhnlaaDoorOpen
import Derived.Test.YtifbcejekdhnlaaDoorGLr
namespace Go.Proofs.YtifbcejekdhnlaaDoor
open Go.RowKit Go.Maps
set_option linter.unusedVariables false

set_option maxHeartbeats 2000000 in
set_option maxRecDepth 100000 in
theorem equalw (l : List (List UInt8)) (kv1 kv2 : Value) (w : World) (h1 : KyR w kv1 l) (h2 : KyR w kv2 l) :
    Calls Tryd.prog 72 #[kv1, kv2] w fun r w' => r = .returned (.bool true) ∧ Below w.heap.size w w' := by
  obtain ⟨A1, c1, rfl, hc1, hm1, r1⟩ := h1.form
  obtain ⟨A2, c2, rfl, hc2, hm2, r2⟩ := h2.form
  unfold maxLen at hm1 hm2
  obtain ⟨n, hnn⟩ : ∃ n, n = l.length := ⟨_, rfl⟩
  rw [← hnn] at hc1 hc2 ⊢
  have HN := Lib.hid hnn
  have R1 := Lib.hid r1
  have R2 := Lib.hid r2
  clear r1 r2 hnn h1 h2
  go_enter Tryd.func72, Tryd.ntmps72
  go_wp2_with fail
  go_loopw [13] (fun i wr => ∃ k : Nat, k ≤ n ∧ i = .int .i64 k ∧ Below w.heap.size w wr) (fun i _ => n - (intOf i).toNat)
  case atStart => exact ⟨0, by omega, rfl, Below.refl _ _⟩
  case round =>
    obtain ⟨k, hk, rfl, hnx⟩ := hrel
    by_cases hlt : k < n
    · obtain ⟨x, hx⟩ : ∃ x, l[k]? = some x := ⟨_, List.getElem?_eq_getElem (by have := HN.out; omega)⟩
      obtain ⟨g1, rfl, l1, a1⟩ := R1.out k x hx
      obtain ⟨g2, rfl, l2, a2⟩ := R2.out k x hx
      have b1 := (hnx.cell (p := ⟨g1, k, none⟩) l1).trans a1
      have b2 := (hnx.cell (p := ⟨g2, k, none⟩) l2).trans a2
      clear a1 a2 l1 l2 hx
      go_wp2_with fail
      go_quiet (fail)
      go_wp2
      go_roundw
      case rel => exact ⟨k + 1, by omega, by go_num, belowNf hnx _⟩
      case measure => simp [intOf]; omega
    · have hd : decide ((k : Int) < (n : Int)) = false := decide_eq_false (by omega)
      go_wp2_with fail
      go_ret
      exact ⟨rfl, hnx⟩
set_option maxHeartbeats 4000000 in
set_option maxRecDepth 100000 in
theorem samel (c : Cmd) (kv1 kv2 : Value) (w : World) (h1 : KyR w kv1 c.keys) (h2 : KyR w kv2 c.keys) :
    Calls Tryd.prog 45 #[.agg (cmdC c kv1).toArray, .agg (cmdC c kv2).toArray] w fun r w' => r = .returned (.bool true) ∧ Below w.heap.size w w' := by
  obtain ⟨vb, ks, cv, ky, vl, fl, ex, id, by_, bt, qt⟩ := c
  simp only at h1 h2
  have one1 := h1.form
  obtain ⟨A1, c1, rfl, -⟩ := one1
  have one2 := h2.form
  obtain ⟨A2, c2, rfl, -⟩ := one2
  simp only [cmdC]
  have hb : ∀ (C D : Array Value) (T T' : TypeId), Below w.heap.size w ((w.alloc (.cells C T)).alloc (.cells D T')) := fun C D T T' => ((Below.refl _ _).alloc (Nat.le_refl _) _).alloc (by simp) _
  have HEQ := Lib.hid (fun C D T T' => equalw ks _ _ _ (h1.on (hb C D T T')) (h2.on (hb C D T T')))
  have HB := Lib.hid hb
  clear h1 h2 hb
  have p1 := fun (x : Value) => x
  go_enter Tryd.func45, Tryd.ntmps45
  go_wp2_with fail
  refine (HEQ.out _ _ _ _).mono ?_
  rintro e w2 ⟨rfl, hb2⟩
  have hz1 := ((cb_new (W := w) (T := 30) (L := cmdC ⟨vb, ks, cv, ky, vl, fl, ex, id, by_, bt, qt⟩ (.slice A1 ks.length c1)) rfl).new ((Below.refl _ _).alloc (Nat.le_refl _) _)).new hb2
  have hz2 := (cb_new (W := w.alloc (.cells #[.int .u8 vb, .slice A1 ks.length c1, .int .u8 cv, .string ⟨ky.toArray⟩, .string ⟨vl.toArray⟩, .int .u32 fl, .int .i64 ex, .int .u64 id, .int .u64 by_, .int .i64 bt, .bool qt] 30)) (T := 30) (L := cmdC ⟨vb, ks, cv, ky, vl, fl, ex, id, by_, bt, qt⟩ (.slice A2 ks.length c2)) rfl).new hb2
  rw [World.size_alloc] at hz2
  obtain ⟨x0, x1, x2, x3, x4, x5, x6, x7, x8, x9, x10⟩ := cb_cells hz1
  obtain ⟨y0, y1, y2, y3, y4, y5, y6, y7, y8, y9, y10⟩ := cb_cells hz2
  have HB2 := Lib.hid ((HB.out _ _ _ _).trans (hb2.mono (HB.out _ _ _ _).size))
  clear hz1 hz2 hb2 p1
  go_wp2_with fail
  go_ret
  exact ⟨rfl, HB2.out⟩
end Go.Proofs.YtifbcejekdhnlaaDoor
/- Next: Lines: the words of one command, 'flush_all noreply'. -/
namespace Go.Proofs.YtifbcejekdhnlaaDoor
open Go.RowKit Go.Maps
set_option linter.unusedVariables false

def flushN : List UInt8 := [102, 108, 117, 115, 104, 95, 97, 108, 108]
def flushF : Form := ⟨11, 0, 0, [2], 1, true⟩
def flushC : Cmd := ⟨11, [], 11, [], [], 0, 0, 0, 0, -1, true⟩
theorem own_lit1 {W : World} {v : Value} {e : TypeId} {B : Nat} (hB : B ≤ W.heap.size) : (W.alloc (.cells #[v] e)).ownsRow B e 1 (.slice (some ⟨W.heap.size, 0, none⟩) 1 1) 1 [v] := by
  refine ⟨rfl, .inr ⟨W.heap.size, 1, #[v], rfl, hB, ?_, Nat.le_refl _, by unfold maxLen; decide, ?_, ?_⟩⟩
  · show (W.heap.push _)[W.heap.size]? = _
    simp
  · rfl
  · rfl
theorem formOk_flush : FormOk flushF := tbF_ok (flushN, flushF) (by decide)
/-- 'append' of nothing. -/
theorem run_append_zero {P : Program} (w : World) (t ty e : TypeId) (i : TypeInfo) (ht : P.underlying t = some (.slice e)) (hi : P.info? e = some i) (ad : Addr) (n c c' : Nat) (A : Option Addr) (hn : n ≤ c) :
    (Builtin.append_ #[t, t] ty #[.slice (some ad) n c, .slice A 0 c']).run P w = .ok (.slice (some ad) n c) w := by
  cases A <;> simp [Builtin.append_, run_underlying ht, sizeOf, typeInfo, hi, Builtin.lenOf, Builtin.firstCells, hn, storeCells, loadCells, loadCellsFrom]
theorem wpList_append_zero {P : Program} (w : World) {ops : Array Oper} {rest : List Oper} {o : Oper} {a : Act} {Q : Exit → Act → World → Prop} (hgd : o.guard = none) (s x : Operand) (t : TypeId)
    (ho : o.op = .call { callee := .builtin .append, args := #[s, x], argTypes := #[t, t] }) (e : TypeId) (i : TypeInfo) (ht : P.underlying t = some (.slice e)) (hi : P.info? e = some i)
    (ad : Addr) (n c c' : Nat) (A : Option Addr) (hn : n ≤ c) (hs : a.eval s = .slice (some ad) n c) (hx : a.eval x = .slice A 0 c') (h : wpList P ops Q rest (a.put o.dst (.slice (some ad) n c)) w) : wpList P ops Q (o :: rest) a w := by
  refine wpList_plain hgd fun K hK => ?_
  have hrun := run_append_zero (P := P) w t o.type e i ht hi ad n c c' A hn
  unfold Oper.wp execOp
  simp only [ho, resolve, invoke, builtin, Sem.run_bind, Sem.run_pure, Result.andThen_ok, List.map_toArray, List.map_cons, List.map_nil, hs, hx, hrun]
  exact hK _ _ h
set_option maxHeartbeats 4000000 in
set_option maxRecDepth 100000 in
theorem words_flush (kv : Value) (w : World) (hk : KyR w kv []) :
    Calls Tryd.prog 44 #[.agg (cmdC flushC kv).toArray, .string ⟨flushN.toArray⟩, .agg (formC flushF).toArray] w fun e w' => ∃ g cap, e = .returned (.slice (some ⟨g, 0, none⟩) 2 cap) ∧ 2 ≤ cap ∧ cap ≤ maxLen ∧ g < w'.heap.size ∧ w'.cell? ⟨g, 0, none⟩ = some (.string ⟨flushN.toArray⟩) ∧ w'.cell? ⟨g, 1, none⟩ = some (.string ⟨norep.toArray⟩) ∧ Below w.heap.size w w' := by
  obtain ⟨A1, c1, rfl, hc1, hm1, -⟩ := hk.form
  simp only [List.length_nil] at hc1 ⊢
  show Calls Tryd.prog 44 #[.agg #[.int .u8 11, .slice A1 0 c1, .int .u8 11, .string ⟨#[]⟩, .string ⟨#[]⟩, .int .u32 0, .int .i64 0, .int .u64 0, .int .u64 0, .int .i64 (-1), .bool true], .string ⟨flushN.toArray⟩, .agg #[.int .u8 11, .int .i64 0, .int .i64 0, .int .u8 2, .int .u8 0, .int .u8 0, .int .u8 0, .int .i64 1, .bool true]] w _
  go_enter Tryd.func44, Tryd.ntmps44
  obtain ⟨i0, hi, hz0, hz1, hz2⟩ := info_parts info_string
  go_upto_region 2 with (at_builtin; refine wpList_append_zero _ rfl (.tmp 11) (.tmp 13) 24 rfl 9 i0 Tryd.underlying24 hi ⟨w.heap.size + 1 + 1, 0, none⟩ 1 1 c1 A1 (Nat.le_refl _) rfl rfl ?_)
  have hb1 : Below w.heap.size w (w.alloc (.cells #[.int .u8 11, .slice A1 0 c1, .int .u8 11, .string ⟨#[]⟩, .string ⟨#[]⟩, .int .u32 0, .int .i64 0, .int .u64 0, .int .u64 0, .int .i64 (-1), .bool true] 30)) := (Below.refl _ _).alloc (Nat.le_refl _) _
  have hC1 : Cb (w.alloc (.cells #[.int .u8 11, .slice A1 0 c1, .int .u8 11, .string ⟨#[]⟩, .string ⟨#[]⟩, .int .u32 0, .int .i64 0, .int .u64 0, .int .u64 0, .int .i64 (-1), .bool true] 30)) w.heap.size (cmdC flushC (.slice A1 0 c1)) := cb_new rfl
  have hz1 : (w.alloc (.cells #[.int .u8 11, .slice A1 0 c1, .int .u8 11, .string ⟨#[]⟩, .string ⟨#[]⟩, .int .u32 0, .int .i64 0, .int .u64 0, .int .u64 0, .int .i64 (-1), .bool true] 30)).heap.size = w.heap.size + 1 := by simp
  generalize w.alloc _ = X1 at *
  have hb2 : Below X1.heap.size X1 (X1.alloc (.cells #[.int .u8 11, .int .i64 0, .int .i64 0, .int .u8 2, .int .u8 0, .int .u8 0, .int .u8 0, .int .i64 1, .bool true] 74)) := (Below.refl _ _).alloc (Nat.le_refl _) _
  have hF2 : Cb (X1.alloc (.cells #[.int .u8 11, .int .i64 0, .int .i64 0, .int .u8 2, .int .u8 0, .int .u8 0, .int .u8 0, .int .i64 1, .bool true] 74)) X1.heap.size (formC flushF) := cb_new rfl
  have hz2 : (X1.alloc (.cells #[.int .u8 11, .int .i64 0, .int .i64 0, .int .u8 2, .int .u8 0, .int .u8 0, .int .u8 0, .int .i64 1, .bool true] 74)).heap.size = X1.heap.size + 1 := by simp
  generalize X1.alloc _ = X2 at *
  have hb3 : Below X2.heap.size X2 (X2.alloc (.cells #[.string ⟨flushN.toArray⟩] 9)) := (Below.refl _ _).alloc (Nat.le_refl _) _
  have hO3 : (X2.alloc (.cells #[.string ⟨flushN.toArray⟩] 9)).ownsRow X2.heap.size 9 1 (.slice (some ⟨X2.heap.size, 0, none⟩) 1 1) 1 [.string ⟨flushN.toArray⟩] := own_lit1 (Nat.le_refl _)
  generalize X2.alloc _ = X3 at *
  have hC3 := (hC1.new hb2).new hb3
  have hF3 := hF2.new hb3
  rw [hz2, hz1] at hO3
  rw [hz1] at hF3
  have hB3 : Below w.heap.size w X3 := (hb1.trans (hb2.mono (by omega))).trans (hb3.mono (by omega))
  have hs3 := hb3.size
  have HO3 := Lib.hid hO3
  have HB3 := Lib.hid hB3
  have HC3 := Lib.hid hC3
  have HF3 := Lib.hid hF3
  have hCt : Calls Tryd.prog 64 #[.agg #[.int .u8 11, .int .i64 0, .int .i64 0, .int .u8 2, .int .u8 0, .int .u8 0, .int .u8 0, .int .i64 1, .bool true]] X3 fun e w' => e = .returned (.int .i64 1) ∧ Below X3.heap.size X3 w' := countw flushF X3 formOk_flush
  have HCt := Lib.hid hCt
  obtain ⟨f0, f1, f2, f3, f4, f5, f6, f7, f8⟩ : X3.cell? ⟨w.heap.size + 1, 0, none⟩ = some (.int .u8 11) ∧ X3.cell? ⟨w.heap.size + 1, 1, none⟩ = some (.int .i64 0) ∧ X3.cell? ⟨w.heap.size + 1, 2, none⟩ = some (.int .i64 0) ∧ X3.cell? ⟨w.heap.size + 1, 3, none⟩ = some (.int .u8 2) ∧ X3.cell? ⟨w.heap.size + 1, 4, none⟩ = some (.int .u8 0) ∧ X3.cell? ⟨w.heap.size + 1, 5, none⟩ = some (.int .u8 0) ∧ X3.cell? ⟨w.heap.size + 1, 6, none⟩ = some (.int .u8 0) ∧ X3.cell? ⟨w.heap.size + 1, 7, none⟩ = some (.int .i64 1) ∧ X3.cell? ⟨w.heap.size + 1, 8, none⟩ = some (.bool true) := ⟨hF3.at_ 0 _ rfl, hF3.at_ 1 _ rfl, hF3.at_ 2 _ rfl, hF3.at_ 3 _ rfl, hF3.at_ 4 _ rfl, hF3.at_ 5 _ rfl, hF3.at_ 6 _ rfl, hF3.at_ 7 _ rfl, hF3.at_ 8 _ rfl⟩
  have HZ := Lib.hid (And.intro hz1 (And.intro hz2 hs3))
  clear hb1 hC1 hb2 hF2 hb3 hO3 hC3 hF3 hB3 hCt hz1 hz2 hs3 hk
  go_wp2_with (go_at_call 64; refine HCt.out.mono ?_; rintro e X4 ⟨rfl, hb4⟩; have HB4 := Lib.hid hb4; have g3 : X4.cell? ⟨w.heap.size + 1, 3, none⟩ = some (.int .u8 2) := (HF3.out.new hb4).at_ 3 _ rfl; have g7 : X4.cell? ⟨w.heap.size + 1, 7, none⟩ = some (.int .i64 1) := (HF3.out.new hb4).at_ 7 _ rfl; have e6 : X4.cell? ⟨w.heap.size, 6, none⟩ = some (.int .i64 0) := (HC3.out.new hb4).at_ 6 _ rfl; have e10 : X4.cell? ⟨w.heap.size, 10, none⟩ = some (.bool true) := (HC3.out.new hb4).at_ 10 _ rfl; clear hb4 f0 f1 f2 f3 f4 f5 f6 f7 f8)
  have HO4 := Lib.hid (Keeps.ownsRow HO3.out (Keeps.of_new (S := fun _ => False) HB4.out) (fun _ _ e => e))
  have hbs : w.heap.size + 1 + 1 ≤ X4.heap.size := by have := HZ.out; have := HB4.out.size; omega
  refine wp_loop_rounds 2 ?_
  rw [rounds_succ]
  go_wp2_with fail
  rw [rounds_succ]
  go_wp2_with (at_builtin; refine wpList_append_own_at _ rfl (.tmp 42) (.tmp 43) 24 rfl (w.heap.size + 1 + 1) 9 i0 _ 1 16 Tryd.underlying24 hi hz0 hz1 hz2 rfl (by decide) _ 1 _ rfl (HO4.out.alloc _) ⟨X4.heap.size, 0, none⟩ 1 1 [.string ⟨norep.toArray⟩] rfl rfl ?c1 ?c2 ?c3 ?c4 ?c5 ?_)
  case c1 =>
    intro j u hj
    match j, hj with
    | 0, hj => simp at hj; subst hj; simp [Addr.add]; rfl
  case c2 => intro u hu; simp at hu; subst hu; rfl
  case c3 => unfold maxLen; decide
  case c4 => decide
  case c5 => simp; omega
  intro v' X5 hown5 hgr5 hnil5 hat5
  have hb5 : Below w.heap.size w X5 := (((HB3.out.trans (HB4.out.mono HB3.out.size)).alloc (by omega) _).grown hgr5 (by simp; omega) (fun j e => by simp [Value.ownBlock] at e; omega))
  have hcs : ∃ g cap, v' = .slice (some ⟨g, 0, none⟩) 2 cap ∧ 2 ≤ cap ∧ cap ≤ maxLen ∧ g < X5.heap.size ∧ X5.cell? ⟨g, 0, none⟩ = some (.string ⟨flushN.toArray⟩) ∧ X5.cell? ⟨g, 1, none⟩ = some (.string ⟨norep.toArray⟩) := by
    rcases hown5.2 with ⟨he, h0⟩ | ⟨g, cap, cur, rfl, hB, hbk, h1, h2, _⟩
    · exact absurd h0 (by decide)
    · have q0 := hown5.cells (g := g) rfl 0 _ rfl
      have q1 := hown5.cells (g := g) rfl 1 _ rfl
      rw [Addr.add_lit, Nat.zero_add] at q0 q1
      exact ⟨g, cap, rfl, h1, h2, (hown5.lt g rfl).2, q0, q1⟩
  obtain ⟨g, cap, rfl, h1, h2, h3, h4, h5⟩ := hcs
  have HH := Lib.hid (And.intro h1 (And.intro h2 (And.intro h3 (And.intro h4 (And.intro h5 hb5)))))
  clear h1 h2 h3 h4 h5 hb5 hown5 hgr5 hnil5 hat5 g3 g7 e6 e10
  go_wp2_with fail
  go_ret
  exact ⟨g, cap, rfl, HH.out⟩
end Go.Proofs.YtifbcejekdhnlaaDoor
/- Next: Lines: the line of one command, 'flush_all noreply'. -/
namespace Go.Proofs.YtifbcejekdhnlaaDoor
open Go.RowKit Go.Maps
set_option linter.unusedVariables false

def flushL : List UInt8 := [102, 108, 117, 115, 104, 95, 97, 108, 108, 32, 110, 111, 114, 101, 112, 108, 121]
theorem flush_parse : parseC flushL = (flushC, 0) := by kernel_rfl
theorem flush_join : Lib.join ([(⟨flushN.toArray⟩ : ByteArray), ⟨norep.toArray⟩].map (·.data.toList)) (⟨#[32]⟩ : ByteArray).data.toList = flushL := by kernel_rfl
theorem form_flush : formOf flushN = some flushF := by kernel_rfl
theorem verb11 {n : List UInt8} {f : Form} (h : formOf n = some f) (hv : f.verb = 11) : n = flushN ∧ f = flushF := by
  have hm := formIn_in h
  simp only [tbF, List.mem_cons, List.not_mem_nil, or_false, Prod.mk.injEq] at hm
  rcases hm with ⟨rfl, rfl⟩ | ⟨rfl, rfl⟩ | ⟨rfl, rfl⟩ | ⟨rfl, rfl⟩ | ⟨rfl, rfl⟩ | ⟨rfl, rfl⟩ | ⟨rfl, rfl⟩ | ⟨rfl, rfl⟩ | ⟨rfl, rfl⟩ | ⟨rfl, rfl⟩ | ⟨rfl, rfl⟩ | ⟨rfl, rfl⟩ | ⟨rfl, rfl⟩
  all_goals first | exact ⟨rfl, rfl⟩ | simp at hv
theorem key_string_inv {v : Value} {kl : Lit} (h : keyOf Tryd.prog 9 v = some kl) : ∃ x : ByteArray, v = .string x ∧ kl = .string x.data.toList := by
  obtain ⟨x, rfl⟩ : ∃ x, v = .string x := by
    rw [keyOf_string Tryd.underlying9] at h
    cases v <;> first | exact ⟨_, rfl⟩ | (exfalso; revert h; simp [mapKey, Tryd.underlying9])
  refine ⟨x, rfl, ?_⟩
  rw [keyOf_string Tryd.underlying9] at h
  simp [mapKey, Tryd.underlying9] at h
  first | exact h.symm | exact h.2.symm | exact h.1.symm
/-- What an entry of the map of forms holds. -/
theorem entry_form {x : ByteArray} {c : Value} {kl : Lit} {y : DataW Value × List MemPlace} (hk : keyOf Tryd.prog 9 (.string x) = some kl) (hh : Maps.has formsD kl = true) (hR : fR c = some y) (hat : ∀ zd, formsD.atKey kl zd = y.1) : ∃ f, kl = .string x.data.toList ∧ formOf x.data.toList = some f ∧ c = formV f := by
  obtain ⟨x', e, rfl⟩ := key_string_inv hk
  injection e with e
  subst e
  cases hf : formOf x.data.toList with
  | none => exact absurd ((formsD_none .nil hf).1.symm.trans hh) Bool.false_ne_true
  | some f =>
    refine ⟨f, rfl, rfl, ?_⟩
    have h1 : y.1 = .held (formV f) := (hat .nil).symm.trans (formsD_some .nil hf).2
    have h2 : y = (.held c, []) := (Option.some.inj hR).symm
    subst h2
    exact DataW.held.inj h1
theorem ranges_upF {P : Program} {k : TypeId} {R : Value → Option (DataW Value × List MemPlace)} {w W : World} {b r n : Nat} {D : DataW Value} {left : Lit → Bool} {cnt : Nat} (h : w.ranges P k R b r n D left cnt) (hb : Below w.heap.size w W) : W.ranges P k R b r n D left cnt := by
  obtain ⟨es, clock, since, seen, c0, h1, F, h2, h3, h4, rest⟩ := h
  have lt : ∀ {i : Nat} {o : Obj}, w.heap[i]? = some o → i < w.heap.size := fun {i o} hi => by
    rcases Nat.lt_or_ge i w.heap.size with h' | h'
    · exact h'
    · rw [Array.getElem?_eq_none h'] at hi; simp at hi
  exact ⟨es, clock, since, seen, c0, (hb.block b (lt h1)).trans h1, F, h2, h3, (hb.block r (lt h4)).trans h4, rest⟩
theorem fR_inv (v : Value) (y : DataW Value × List MemPlace) (h : fR v = some y) : ∃ c : Value, v = c := ⟨v, rfl⟩
theorem skey_ne {a b : List UInt8} (h : a ≠ b) : (Lit.string a).sameKey (.string b) = false := by
  simp [Lit.sameKey]
  exact h
end Go.Proofs.YtifbcejekdhnlaaDoor
/- Next: Lines: the line of one command, 'flush_all noreply': the walk. -/
namespace Go.Proofs.YtifbcejekdhnlaaDoor
open Go.RowKit Go.Maps
set_option linter.unusedVariables false

/-- What is left of the map of forms ahead of a round. -/
def LeftF (left : Lit → Bool) : Prop := (∀ kl, left kl = true → Maps.has formsD kl = true) ∧ left (.string flushN) = true
theorem LeftF.step {left : Lit → Bool} {kl : List UInt8} (h : LeftF left) (hk : flushN ≠ kl) : LeftF (fun z => left z && !z.sameKey (.string kl)) := by
  refine ⟨fun z hz => h.1 z (by simp at hz; exact hz.1), ?_⟩
  simp only [h.2, skey_ne hk]
  rfl
theorem two_cells {w : World} {g : Nat} {a b : ByteArray} (h0 : w.cell? ⟨g, 0, none⟩ = some (.string a)) (h1 : w.cell? ⟨g, 1, none⟩ = some (.string b)) : ∀ (j : Nat) x, [a, b][j]? = some x → w.cell? ⟨g, 0 + j, none⟩ = some (.string x) := by
  intro j x hj
  match j, hj with
  | 0, hj => simp at hj; subst hj; exact h0
  | 1, hj => simp at hj; subst hj; exact h1
  | j + 2, hj => simp at hj
set_option maxHeartbeats 4000000 in
set_option maxRecDepth 100000 in
theorem line_flush (kv : Value) (w : World) (hk : KyR w kv []) :
    Calls Tryd.prog 13 #[.agg (cmdC flushC kv).toArray] w fun e w' => e = .returned (.tuple #[.string ⟨flushL.toArray⟩, .bool true]) ∧ Below w.heap.size w w' := by
  obtain ⟨A1, c1, rfl, hc1, hm1, -⟩ := hk.form
  simp only [List.length_nil] at hc1 hk ⊢
  show Calls Tryd.prog 13 #[.agg #[.int .u8 11, .slice A1 0 c1, .int .u8 11, .string ⟨#[]⟩, .string ⟨#[]⟩, .int .u32 0, .int .i64 0, .int .u64 0, .int .u64 0, .int .i64 (-1), .bool true]] w _
  obtain ⟨W1, hW1⟩ : ∃ W1, W1 = w.alloc (.cells #[.int .u8 11, .slice A1 0 c1, .int .u8 11, .string ⟨#[]⟩, .string ⟨#[]⟩, .int .u32 0, .int .i64 0, .int .u64 0, .int .u64 0, .int .i64 (-1), .bool true] 30) := ⟨_, rfl⟩
  have hC1 : Cb W1 w.heap.size (cmdC flushC (.slice A1 0 c1)) := by rw [hW1]; exact cb_new rfl
  have hB1 : Below w.heap.size w W1 := by rw [hW1]; exact (Below.refl _ _).alloc (Nat.le_refl _) _
  have hz1 : W1.heap.size = w.heap.size + 1 := by rw [hW1]; simp
  have HF := Lib.hid (formsw W1)
  have HC1 := Lib.hid hC1
  have HB1 := Lib.hid hB1
  have HZ1 := Lib.hid hz1
  clear hC1 hB1 hz1
  go_enter Tryd.func13, Tryd.ntmps13
  go_upto_region 1 with fail
  rw [← hW1]
  clear hW1
  go_wp2_with (first
    | (go_at_call 30; refine HF.out.mono ?_; rintro e W2 ⟨rfl, hown2, hb2⟩)
    | (at_range; refine wpList_range_own _ rfl _ 76 rfl 9 74 lawS Tryd.underlying76 fR W1.heap.size 13 formsD rfl hown2 ?_; intro W3 hrg3 hg3 hs3))
  have hb13 : Below W1.heap.size W1 W3 := hb2.grown hg3 hb2.size (fun k e => by simp at e)
  have hC3 := Lib.hid (HC1.out.new hb13)
  have hB3 := Lib.hid (HB1.out.trans (hb13.mono HB1.out.size))
  have hR3 := Lib.hid hrg3
  have hlt2 := Lib.hid hb2.size
  have hs3' := Lib.hid hs3
  have hL0 : LeftF (Maps.has formsD) := ⟨fun kl h => h, (formsD_some .nil form_flush).1⟩
  have HL0 := Lib.hid hL0
  clear hown2 hb2 hrg3 hg3 hs3 hb13 HF hL0
  go_frame
  go_loopw [4] (fun _ wr => ∃ (left : Lit → Bool) (q : Nat), Hid (wr.ranges Tryd.prog 9 fR W1.heap.size W2.heap.size 13 formsD left q) ∧ Hid (LeftF left) ∧ Hid (Below W2.heap.size W3 wr)) (fun _ wr => wr.rangeLeft W1.heap.size W2.heap.size)
  case atStart => exact ⟨_, _, hR3, HL0, Lib.hid (Below.refl _ _)⟩
  case round =>
    obtain ⟨left, q, hrg, hV, hnx⟩ := hrel
    clear hR3 HL0
    have hrg' := hrg.out
    go_upto_region 4 with (at_next; go_loud (refine wpList_next_ranges _ rfl _ rfl 9 lawS fR (fun z : ByteArray => .string z) (fun z : Value => z) (fun key kl hk => by obtain ⟨z, rfl, _⟩ := key_string_inv hk; exact ⟨z, rfl⟩) fR_inv W1.heap.size W2.heap.size 13 formsD left q rfl hrg' (fun hq0 hdone => absurd ((hdone _).symm.trans hV.out.2) Bool.false_ne_true) (fun z c kl y w1 q1 hk hl hR hat hrg1 hlt hgr hsz1 hen => ?_); obtain ⟨f, rfl, hf, ec⟩ := entry_form hk (hV.out.1 _ hl) hR hat; have hx1 := Lib.hid (hnx.out.grown hgr (by have := hnx.out.size; have := hs3'.out; omega) (fun k e => by simp at e; have := hs3'.out; omega)); change c = .agg #[.int .u8 f.verb, .int .i64 f.least, .int .i64 f.most, .int .u8 (f.fld 0 : Nat), .int .u8 (f.fld 1 : Nat), .int .u8 (f.fld 2 : Nat), .int .u8 (f.fld 3 : Nat), .int .i64 f.spare, .bool f.quiet] at ec; subst ec; have HRG1 := Lib.hid hrg1; have HQ := Lib.hid (And.intro hlt (And.intro hsz1 hrg'.left_eq)); clear hR hat hk hrg1 hgr hlt hsz1 hrg'))
    have hwr : W2.heap.size < w1.heap.size := by have := hnx.out.size; have := hs3'.out; have := HQ.out.2.1; omega
    have hba : Below w1.heap.size w1 (w1.alloc (.cells #[.int .u8 f.verb, .int .i64 f.least, .int .i64 f.most, .int .u8 (f.fld 0 : Nat), .int .u8 (f.fld 1 : Nat), .int .u8 (f.fld 2 : Nat), .int .u8 (f.fld 3 : Nat), .int .i64 f.spare, .bool f.quiet] 74)) := (Below.refl _ _).alloc (Nat.le_refl _) _
    have hFX := Lib.hid (show Cb (w1.alloc (.cells #[.int .u8 f.verb, .int .i64 f.least, .int .i64 f.most, .int .u8 (f.fld 0 : Nat), .int .u8 (f.fld 1 : Nat), .int .u8 (f.fld 2 : Nat), .int .u8 (f.fld 3 : Nat), .int .i64 f.spare, .bool f.quiet] 74)) w1.heap.size (formC f) from cb_new rfl)
    have hRX := Lib.hid (ranges_upF HRG1.out hba)
    have hXb := Lib.hid (hx1.out.trans (hba.mono (by omega)))
    generalize w1.alloc _ = X at *
    have hW2 : w.heap.size < W2.heap.size := by have := HZ1.out; have := hlt2.out; omega
    have hCX := Lib.hid (Cb.keep (T := fun k => W2.heap.size ≤ k) hC3.out ((Keeps.refl _ _).below hXb.out (fun _ _ e => e)) (by omega))
    obtain ⟨⟨j0, j1, j2, j3, j4, j5, j6, j7, j8⟩, -⟩ := ff_cells hFX.out
    obtain ⟨x0, x1, x2, x3, x4, x5, x6, x7, x8, x9, x10⟩ := cb_cells hCX.out
    simp only [flushC] at x0 x1 x2 x3 x4 x5 x6 x7 x8 x9 x10
    clear hk hl hen hba
    by_cases hv : f.verb = 11
    · obtain ⟨hz, rfl⟩ := verb11 hf hv
      obtain rfl : z = ⟨flushN.toArray⟩ := by
        have : (⟨z.data.toList.toArray⟩ : ByteArray) = z := by simp
        rw [← this, hz]
      have HWD := Lib.hid (words_flush (.slice A1 0 c1))
      have hky : ∀ W, KyR W (.slice A1 0 c1) [] := fun W => ⟨⟨A1, c1, rfl, by simp, hm1, fun k x h => by simp at h⟩⟩
      have HKY := Lib.hid hky
      simp only [flushF] at j0 j1 j2 j3 j4 j5 j6 j7 j8
      clear hf hz hv hky
      go_upto_region 7 with (first
        | (go_at_call 44; refine (HWD.out X (HKY.out X)).mono ?_; rintro e X4 ⟨g, cap, rfl, hn, hm, hg, g0, g1, hb4⟩)
        | (go_at_call 22; refine (Tryd.strings_Join g 0 cap [⟨flushN.toArray⟩, ⟨norep.toArray⟩] ⟨#[32]⟩ X4 (two_cells g0 g1) hg (by decide) hn (by rw [flush_join]; decide)).mono ?_; rw [flush_join]; rintro e X5 ⟨rfl, hb5⟩)
        | (go_at_call 10; refine (parsel _ _ (by decide)).mono ?_; rw [show (⟨flushL.toArray⟩ : ByteArray).data.toList = flushL from rfl, flush_parse]; rintro e X6 ⟨kv6, he6, hk6, hb6⟩; obtain ⟨A6, c6, rfl, hc6, hm6, -⟩ := (KyS.of_lst (U := fun _ => False) hk6 (fun _ _ _ e => e)).rd.form; have he7 : e = .returned (.tuple #[.agg #[.int .u8 11, .slice A6 0 c6, .int .u8 11, .string ⟨#[]⟩, .string ⟨#[]⟩, .int .u32 0, .int .i64 0, .int .u64 0, .int .u64 0, .int .i64 (-1), .bool true], .int .u8 0]) := he6; subst he7; clear he6 hk6))
      have hCX6 : Cb X6 w.heap.size (cmdC flushC (.slice A1 0 c1)) := ((hCX.out.new hb4).new hb5).new hb6
      have hba : Below X6.heap.size X6 (X6.alloc (.cells #[.int .u8 11, .slice A6 0 c6, .int .u8 11, .string ⟨#[]⟩, .string ⟨#[]⟩, .int .u32 0, .int .i64 0, .int .u64 0, .int .u64 0, .int .i64 (-1), .bool true] 30)) := (Below.refl _ _).alloc (Nat.le_refl _) _
      have hD7 : Cb (X6.alloc (.cells #[.int .u8 11, .slice A6 0 c6, .int .u8 11, .string ⟨#[]⟩, .string ⟨#[]⟩, .int .u32 0, .int .i64 0, .int .u64 0, .int .u64 0, .int .i64 (-1), .bool true] 30)) X6.heap.size (cmdC flushC (.slice A6 0 c6)) := cb_new rfl
      have hC7 := hCX6.new hba
      generalize X6.alloc _ = X7 at *
      obtain ⟨y0, y1, y2, y3, y4, y5, y6, y7, y8, y9, y10⟩ := cb_cells hC7
      obtain ⟨z0, z1, z2, z3, z4, z5, z6, z7, z8, z9, z10⟩ := cb_cells hD7
      simp only [flushC] at y0 y1 y2 y3 y4 y5 y6 y7 y8 y9 y10 z0 z1 z2 z3 z4 z5 z6 z7 z8 z9 z10
      have HB7 := Lib.hid (hb4.trans ((hb5.mono hb4.size).trans ((hb6.mono (by have := hb4.size; have := hb5.size; omega)).trans (hba.mono (by have := hb4.size; have := hb5.size; have := hb6.size; omega)))))
      clear x0 x1 x2 x3 x4 x5 x6 x7 x8 x9 x10 j0 j1 j2 j3 j4 j5 j6 j7 j8 hb4 hb5 hb6 hba hCX6 hD7 hC7 g0 g1
      go_wp2_with (go_at_call 45; refine (samel flushC (.slice A1 0 c1) (.slice A6 0 c6) _ ⟨⟨A1, c1, rfl, Nat.zero_le _, hm1, fun k x h => by simp [flushC] at h⟩⟩ ⟨⟨A6, c6, rfl, Nat.zero_le _, hm6, fun k x h => by simp [flushC] at h⟩⟩).mono ?_; rintro e X8 ⟨rfl, hb8⟩)
      refine bodyPost_ret (v := .tuple #[.string ⟨flushL.toArray⟩, .bool true]) (by simp [results, Tryd.results13, go_sem]) rfl ?_
      exact ⟨rfl, (hB3.out.trans (hXb.out.mono (by omega))).trans ((HB7.out.trans (hb8.mono HB7.out.size)).mono (by have := hXb.out.size; have := hs3'.out; omega))⟩
    · have hne : ((f.verb : Int) == 11) = false := beq_eq_false_iff_ne.mpr (by omega)
      go_wp2_with fail
      go_roundw
      case rel => exact ⟨_, q1, hRX, Lib.hid (hV.out.step (by intro e; rw [← e] at hf; rw [form_flush] at hf; injection hf with hf; rw [← hf] at hv; exact hv rfl)), hXb⟩
      case measure => rw [hRX.out.left_eq, HQ.out.2.2]; exact HQ.out.1
end Go.Proofs.YtifbcejekdhnlaaDoor
/- Next: Lines: the chapter's examples. Printed by tools/genli5.py. -/
namespace Go.Proofs.YtifbcejekdhnlaaDoor
open Go.RowKit Go.Maps
set_option linter.unusedVariables false

theorem lv_p1 : parseC [115, 101, 116, 32, 97, 32, 53, 32, 48, 32, 51] = (⟨3, [[97]], 3, [97], [], 5, 0, 0, 0, 3, false⟩, 0) := by kernel_rfl
theorem lv_p2 : parseC [103, 101, 116, 32, 97, 32, 98] = (⟨1, [[97], [98]], 1, [97], [], 0, 0, 0, 0, -1, false⟩, 0) := by kernel_rfl
theorem lv_p3 : parseC [105, 110, 99, 114, 32, 97, 32, 120] = (Cmd.none, 4) := by kernel_rfl
theorem lv_p4 : parseC [115, 101, 116, 32, 97, 32, 53, 32, 48, 32, 49, 48, 50, 53] = (⟨3, [[97]], 3, [97], [], 5, 0, 0, 0, 1025, false⟩, 5) := by kernel_rfl
theorem lv_p5 : parseC [115, 101, 116, 32, 97, 32, 53, 32, 48] = (Cmd.none, 1) := by kernel_rfl
theorem lv_p6 : parseC [115, 101, 116, 32, 97, 32, 53, 32, 48, 32, 45, 49] = (Cmd.none, 2) := by kernel_rfl
theorem lv_p7 : parseC [71, 69, 84, 32, 97] = (Cmd.none, 1) := by kernel_rfl
theorem lv_p8 : parseC [100, 101, 108, 101, 116, 101, 32, 97, 32, 110, 111, 114, 101, 112, 108, 121] = (⟨7, [[97]], 7, [97], [], 0, 0, 0, 0, -1, true⟩, 0) := by kernel_rfl
theorem lv_p9 : parseC [102, 108, 117, 115, 104, 95, 97, 108, 108, 32, 45, 48, 32, 110, 111, 114, 101, 112, 108, 121] = (flushC, 0) := by kernel_rfl
/-- A command's box, whose keys can be read. -/
structure LvR (W : World) (q : Nat) (c : Cmd) (kv : Value) : Prop where
  box : Cb W q (cmdC c kv)
  keys : KyR W kv c.keys
theorem LvR.on {W W' : World} {q : Nat} {c : Cmd} {kv : Value} (h : LvR W q c kv) (hb : Below W.heap.size W W') : LvR W' q c kv := ⟨h.box.new hb, h.keys.on hb⟩
theorem parsel_lit (s : ByteArray) (w : World) (hs : s.size ≤ maxLen) {c : Cmd} {t : Nat} (h : parseC s.data.toList = (c, t)) : Calls Tryd.prog 10 #[.string s] w fun e w' => ∃ A k, e = .returned (.tuple #[.agg (cmdC c (.slice A c.keys.length k)).toArray, .int .u8 (t : Nat)]) ∧ KyR w' (.slice A c.keys.length k) c.keys ∧ Below w.heap.size w w' := by
  refine (parsel s w hs).mono ?_
  rw [h]
  rintro e w' ⟨kv, rfl, hk, hb⟩
  have hr : KyR w' kv c.keys := (KyS.of_lst (U := fun _ => False) hk (fun _ _ _ e => e)).rd
  obtain ⟨A, k, rfl, -⟩ := hr.form
  exact ⟨A, k, rfl, hr, hb⟩
theorem key_at {W : World} {A : Option Addr} {n c : Nat} {l : List (List UInt8)} {k : Nat} {x : List UInt8} (h : KyR W (.slice A n c) l) (hk : l[k]? = some x) : ∃ g, A = some ⟨g, 0, none⟩ ∧ W.cell? ⟨g, k, none⟩ = some (.string ⟨x.toArray⟩) := by
  obtain ⟨A', c', e, -, -, h3⟩ := h.form
  obtain ⟨g, e2, -, h4⟩ := h3 k x hk
  injection e with e1 e3 e4
  exact ⟨g, e1.trans e2, h4⟩
set_option maxHeartbeats 8000000 in
set_option maxRecDepth 100000 in
theorem lives29 (w : World) : Calls Tryd.prog 9 #[] w fun e w' => e = .returned (.bool true) ∧ Below w.heap.size w w' := by
  have HF := Lib.hid line_flush
  have hB0 : Below w.heap.size w w := Below.refl _ _
  go_enter Tryd.func9, Tryd.ntmps9
  have hp1 := parsel_lit ⟨#[115, 101, 116, 32, 97, 32, 53, 32, 48, 32, 51]⟩ w (by decide) lv_p1
  go_upto_region 2 with (go_at_call 10; refine hp1.mono ?_; rintro e X1 ⟨A1, c1, he1, hk1, hb1⟩; have hf1 : e = .returned (.tuple #[.agg #[.int .u8 3, .slice A1 1 c1, .int .u8 3, .string ⟨#[97]⟩, .string ⟨#[]⟩, .int .u32 5, .int .i64 0, .int .u64 0, .int .u64 0, .int .i64 3, .bool false], .int .u8 0]) := he1; subst hf1; clear he1 hp1)
  have ha1 : Below X1.heap.size X1 (X1.alloc (.cells #[.int .u8 3, .slice A1 1 c1, .int .u8 3, .string ⟨#[97]⟩, .string ⟨#[]⟩, .int .u32 5, .int .i64 0, .int .u64 0, .int .u64 0, .int .i64 3, .bool false] 30)) := (Below.refl _ _).alloc (Nat.le_refl _) _
  have hq1 : Cb (X1.alloc (.cells #[.int .u8 3, .slice A1 1 c1, .int .u8 3, .string ⟨#[97]⟩, .string ⟨#[]⟩, .int .u32 5, .int .i64 0, .int .u64 0, .int .u64 0, .int .i64 3, .bool false] 30)) X1.heap.size (cmdC ⟨3, [[97]], 3, [97], [], 5, 0, 0, 0, 3, false⟩ (.slice A1 1 c1)) := cb_new rfl
  generalize X1.alloc _ = Y1 at *
  have hB1 : Below w.heap.size w Y1 := hB0.trans ((hb1.trans (ha1.mono hb1.size)).mono hB0.size)
  have hl1 := Lib.hid (LvR.mk hq1 (hk1.on ha1))
  clear hb1 ha1 hq1 hk1 hB0
  have hp2 := parsel_lit ⟨#[103, 101, 116, 32, 97, 32, 98]⟩ Y1 (by decide) lv_p2
  go_upto_region 3 with (go_at_call 10; refine hp2.mono ?_; rintro e X2 ⟨A2, c2, he2, hk2, hb2⟩; have hf2 : e = .returned (.tuple #[.agg #[.int .u8 1, .slice A2 2 c2, .int .u8 1, .string ⟨#[97]⟩, .string ⟨#[]⟩, .int .u32 0, .int .i64 0, .int .u64 0, .int .u64 0, .int .i64 (-1), .bool false], .int .u8 0]) := he2; subst hf2; clear he2 hp2)
  have ha2 : Below X2.heap.size X2 (X2.alloc (.cells #[.int .u8 1, .slice A2 2 c2, .int .u8 1, .string ⟨#[97]⟩, .string ⟨#[]⟩, .int .u32 0, .int .i64 0, .int .u64 0, .int .u64 0, .int .i64 (-1), .bool false] 30)) := (Below.refl _ _).alloc (Nat.le_refl _) _
  have hq2 : Cb (X2.alloc (.cells #[.int .u8 1, .slice A2 2 c2, .int .u8 1, .string ⟨#[97]⟩, .string ⟨#[]⟩, .int .u32 0, .int .i64 0, .int .u64 0, .int .u64 0, .int .i64 (-1), .bool false] 30)) X2.heap.size (cmdC ⟨1, [[97], [98]], 1, [97], [], 0, 0, 0, 0, -1, false⟩ (.slice A2 2 c2)) := cb_new rfl
  generalize X2.alloc _ = Y2 at *
  have hB2 : Below w.heap.size w Y2 := hB1.trans ((hb2.trans (ha2.mono hb2.size)).mono hB1.size)
  replace hl1 := (hl1.out.on hb2).on ha2; replace hl1 := Lib.hid hl1
  have hl2 := Lib.hid (LvR.mk hq2 (hk2.on ha2))
  clear hb2 ha2 hq2 hk2 hB1
  have hp3 := parsel_lit ⟨#[105, 110, 99, 114, 32, 97, 32, 120]⟩ Y2 (by decide) lv_p3
  go_upto_region 4 with (go_at_call 10; refine hp3.mono ?_; rintro e X3 ⟨A3, c3, he3, hk3, hb3⟩; have hf3 : e = .returned (.tuple #[.agg #[.int .u8 0, .slice A3 0 c3, .int .u8 0, .string ⟨#[]⟩, .string ⟨#[]⟩, .int .u32 0, .int .i64 0, .int .u64 0, .int .u64 0, .int .i64 0, .bool false], .int .u8 4]) := he3; subst hf3; clear he3 hp3)
  have ha3 : Below X3.heap.size X3 (X3.alloc (.cells #[.int .u8 0, .slice A3 0 c3, .int .u8 0, .string ⟨#[]⟩, .string ⟨#[]⟩, .int .u32 0, .int .i64 0, .int .u64 0, .int .u64 0, .int .i64 0, .bool false] 30)) := (Below.refl _ _).alloc (Nat.le_refl _) _
  have hq3 : Cb (X3.alloc (.cells #[.int .u8 0, .slice A3 0 c3, .int .u8 0, .string ⟨#[]⟩, .string ⟨#[]⟩, .int .u32 0, .int .i64 0, .int .u64 0, .int .u64 0, .int .i64 0, .bool false] 30)) X3.heap.size (cmdC Cmd.none (.slice A3 0 c3)) := cb_new rfl
  generalize X3.alloc _ = Y3 at *
  have hB3 : Below w.heap.size w Y3 := hB2.trans ((hb3.trans (ha3.mono hb3.size)).mono hB2.size)
  replace hl1 := (hl1.out.on hb3).on ha3; replace hl1 := Lib.hid hl1
  replace hl2 := (hl2.out.on hb3).on ha3; replace hl2 := Lib.hid hl2
  clear hb3 ha3 hq3 hk3 hB2
  have hp4 := parsel_lit ⟨#[115, 101, 116, 32, 97, 32, 53, 32, 48, 32, 49, 48, 50, 53]⟩ Y3 (by decide) lv_p4
  go_upto_region 5 with (go_at_call 10; refine hp4.mono ?_; rintro e X4 ⟨A4, c4, he4, hk4, hb4⟩; have hf4 : e = .returned (.tuple #[.agg #[.int .u8 3, .slice A4 1 c4, .int .u8 3, .string ⟨#[97]⟩, .string ⟨#[]⟩, .int .u32 5, .int .i64 0, .int .u64 0, .int .u64 0, .int .i64 1025, .bool false], .int .u8 5]) := he4; subst hf4; clear he4 hp4)
  have ha4 : Below X4.heap.size X4 (X4.alloc (.cells #[.int .u8 3, .slice A4 1 c4, .int .u8 3, .string ⟨#[97]⟩, .string ⟨#[]⟩, .int .u32 5, .int .i64 0, .int .u64 0, .int .u64 0, .int .i64 1025, .bool false] 30)) := (Below.refl _ _).alloc (Nat.le_refl _) _
  have hq4 : Cb (X4.alloc (.cells #[.int .u8 3, .slice A4 1 c4, .int .u8 3, .string ⟨#[97]⟩, .string ⟨#[]⟩, .int .u32 5, .int .i64 0, .int .u64 0, .int .u64 0, .int .i64 1025, .bool false] 30)) X4.heap.size (cmdC ⟨3, [[97]], 3, [97], [], 5, 0, 0, 0, 1025, false⟩ (.slice A4 1 c4)) := cb_new rfl
  generalize X4.alloc _ = Y4 at *
  have hB4 : Below w.heap.size w Y4 := hB3.trans ((hb4.trans (ha4.mono hb4.size)).mono hB3.size)
  replace hl1 := (hl1.out.on hb4).on ha4; replace hl1 := Lib.hid hl1
  replace hl2 := (hl2.out.on hb4).on ha4; replace hl2 := Lib.hid hl2
  have hl4 := Lib.hid (LvR.mk hq4 (hk4.on ha4))
  clear hb4 ha4 hq4 hk4 hB3
  have hp5 := parsel_lit ⟨#[115, 101, 116, 32, 97, 32, 53, 32, 48]⟩ Y4 (by decide) lv_p5
  go_upto_region 6 with (go_at_call 10; refine hp5.mono ?_; rintro e X5 ⟨A5, c5, he5, hk5, hb5⟩; have hf5 : e = .returned (.tuple #[.agg #[.int .u8 0, .slice A5 0 c5, .int .u8 0, .string ⟨#[]⟩, .string ⟨#[]⟩, .int .u32 0, .int .i64 0, .int .u64 0, .int .u64 0, .int .i64 0, .bool false], .int .u8 1]) := he5; subst hf5; clear he5 hp5)
  have ha5 : Below X5.heap.size X5 (X5.alloc (.cells #[.int .u8 0, .slice A5 0 c5, .int .u8 0, .string ⟨#[]⟩, .string ⟨#[]⟩, .int .u32 0, .int .i64 0, .int .u64 0, .int .u64 0, .int .i64 0, .bool false] 30)) := (Below.refl _ _).alloc (Nat.le_refl _) _
  have hq5 : Cb (X5.alloc (.cells #[.int .u8 0, .slice A5 0 c5, .int .u8 0, .string ⟨#[]⟩, .string ⟨#[]⟩, .int .u32 0, .int .i64 0, .int .u64 0, .int .u64 0, .int .i64 0, .bool false] 30)) X5.heap.size (cmdC Cmd.none (.slice A5 0 c5)) := cb_new rfl
  generalize X5.alloc _ = Y5 at *
  have hB5 : Below w.heap.size w Y5 := hB4.trans ((hb5.trans (ha5.mono hb5.size)).mono hB4.size)
  replace hl1 := (hl1.out.on hb5).on ha5; replace hl1 := Lib.hid hl1
  replace hl2 := (hl2.out.on hb5).on ha5; replace hl2 := Lib.hid hl2
  replace hl4 := (hl4.out.on hb5).on ha5; replace hl4 := Lib.hid hl4
  clear hb5 ha5 hq5 hk5 hB4
  have hp6 := parsel_lit ⟨#[115, 101, 116, 32, 97, 32, 53, 32, 48, 32, 45, 49]⟩ Y5 (by decide) lv_p6
  go_upto_region 7 with (go_at_call 10; refine hp6.mono ?_; rintro e X6 ⟨A6, c6, he6, hk6, hb6⟩; have hf6 : e = .returned (.tuple #[.agg #[.int .u8 0, .slice A6 0 c6, .int .u8 0, .string ⟨#[]⟩, .string ⟨#[]⟩, .int .u32 0, .int .i64 0, .int .u64 0, .int .u64 0, .int .i64 0, .bool false], .int .u8 2]) := he6; subst hf6; clear he6 hp6)
  have ha6 : Below X6.heap.size X6 (X6.alloc (.cells #[.int .u8 0, .slice A6 0 c6, .int .u8 0, .string ⟨#[]⟩, .string ⟨#[]⟩, .int .u32 0, .int .i64 0, .int .u64 0, .int .u64 0, .int .i64 0, .bool false] 30)) := (Below.refl _ _).alloc (Nat.le_refl _) _
  have hq6 : Cb (X6.alloc (.cells #[.int .u8 0, .slice A6 0 c6, .int .u8 0, .string ⟨#[]⟩, .string ⟨#[]⟩, .int .u32 0, .int .i64 0, .int .u64 0, .int .u64 0, .int .i64 0, .bool false] 30)) X6.heap.size (cmdC Cmd.none (.slice A6 0 c6)) := cb_new rfl
  generalize X6.alloc _ = Y6 at *
  have hB6 : Below w.heap.size w Y6 := hB5.trans ((hb6.trans (ha6.mono hb6.size)).mono hB5.size)
  replace hl1 := (hl1.out.on hb6).on ha6; replace hl1 := Lib.hid hl1
  replace hl2 := (hl2.out.on hb6).on ha6; replace hl2 := Lib.hid hl2
  replace hl4 := (hl4.out.on hb6).on ha6; replace hl4 := Lib.hid hl4
  clear hb6 ha6 hq6 hk6 hB5
  have hp7 := parsel_lit ⟨#[71, 69, 84, 32, 97]⟩ Y6 (by decide) lv_p7
  go_upto_region 8 with (go_at_call 10; refine hp7.mono ?_; rintro e X7 ⟨A7, c7, he7, hk7, hb7⟩; have hf7 : e = .returned (.tuple #[.agg #[.int .u8 0, .slice A7 0 c7, .int .u8 0, .string ⟨#[]⟩, .string ⟨#[]⟩, .int .u32 0, .int .i64 0, .int .u64 0, .int .u64 0, .int .i64 0, .bool false], .int .u8 1]) := he7; subst hf7; clear he7 hp7)
  have ha7 : Below X7.heap.size X7 (X7.alloc (.cells #[.int .u8 0, .slice A7 0 c7, .int .u8 0, .string ⟨#[]⟩, .string ⟨#[]⟩, .int .u32 0, .int .i64 0, .int .u64 0, .int .u64 0, .int .i64 0, .bool false] 30)) := (Below.refl _ _).alloc (Nat.le_refl _) _
  have hq7 : Cb (X7.alloc (.cells #[.int .u8 0, .slice A7 0 c7, .int .u8 0, .string ⟨#[]⟩, .string ⟨#[]⟩, .int .u32 0, .int .i64 0, .int .u64 0, .int .u64 0, .int .i64 0, .bool false] 30)) X7.heap.size (cmdC Cmd.none (.slice A7 0 c7)) := cb_new rfl
  generalize X7.alloc _ = Y7 at *
  have hB7 : Below w.heap.size w Y7 := hB6.trans ((hb7.trans (ha7.mono hb7.size)).mono hB6.size)
  replace hl1 := (hl1.out.on hb7).on ha7; replace hl1 := Lib.hid hl1
  replace hl2 := (hl2.out.on hb7).on ha7; replace hl2 := Lib.hid hl2
  replace hl4 := (hl4.out.on hb7).on ha7; replace hl4 := Lib.hid hl4
  clear hb7 ha7 hq7 hk7 hB6
  have hp8 := parsel_lit ⟨#[100, 101, 108, 101, 116, 101, 32, 97, 32, 110, 111, 114, 101, 112, 108, 121]⟩ Y7 (by decide) lv_p8
  go_upto_region 9 with (go_at_call 10; refine hp8.mono ?_; rintro e X8 ⟨A8, c8, he8, hk8, hb8⟩; have hf8 : e = .returned (.tuple #[.agg #[.int .u8 7, .slice A8 1 c8, .int .u8 7, .string ⟨#[97]⟩, .string ⟨#[]⟩, .int .u32 0, .int .i64 0, .int .u64 0, .int .u64 0, .int .i64 (-1), .bool true], .int .u8 0]) := he8; subst hf8; clear he8 hp8)
  have ha8 : Below X8.heap.size X8 (X8.alloc (.cells #[.int .u8 7, .slice A8 1 c8, .int .u8 7, .string ⟨#[97]⟩, .string ⟨#[]⟩, .int .u32 0, .int .i64 0, .int .u64 0, .int .u64 0, .int .i64 (-1), .bool true] 30)) := (Below.refl _ _).alloc (Nat.le_refl _) _
  have hq8 : Cb (X8.alloc (.cells #[.int .u8 7, .slice A8 1 c8, .int .u8 7, .string ⟨#[97]⟩, .string ⟨#[]⟩, .int .u32 0, .int .i64 0, .int .u64 0, .int .u64 0, .int .i64 (-1), .bool true] 30)) X8.heap.size (cmdC ⟨7, [[97]], 7, [97], [], 0, 0, 0, 0, -1, true⟩ (.slice A8 1 c8)) := cb_new rfl
  generalize X8.alloc _ = Y8 at *
  have hB8 : Below w.heap.size w Y8 := hB7.trans ((hb8.trans (ha8.mono hb8.size)).mono hB7.size)
  replace hl1 := (hl1.out.on hb8).on ha8; replace hl1 := Lib.hid hl1
  replace hl2 := (hl2.out.on hb8).on ha8; replace hl2 := Lib.hid hl2
  replace hl4 := (hl4.out.on hb8).on ha8; replace hl4 := Lib.hid hl4
  have hl8 := Lib.hid (LvR.mk hq8 (hk8.on ha8))
  clear hb8 ha8 hq8 hk8 hB7
  have hp9 := parsel_lit ⟨#[102, 108, 117, 115, 104, 95, 97, 108, 108, 32, 45, 48, 32, 110, 111, 114, 101, 112, 108, 121]⟩ Y8 (by decide) lv_p9
  go_upto_region 10 with (go_at_call 10; refine hp9.mono ?_; rintro e X9 ⟨A9, c9, he9, hk9, hb9⟩; have hf9 : e = .returned (.tuple #[.agg #[.int .u8 11, .slice A9 0 c9, .int .u8 11, .string ⟨#[]⟩, .string ⟨#[]⟩, .int .u32 0, .int .i64 0, .int .u64 0, .int .u64 0, .int .i64 (-1), .bool true], .int .u8 0]) := he9; subst hf9; clear he9 hp9)
  have ha9 : Below X9.heap.size X9 (X9.alloc (.cells #[.int .u8 11, .slice A9 0 c9, .int .u8 11, .string ⟨#[]⟩, .string ⟨#[]⟩, .int .u32 0, .int .i64 0, .int .u64 0, .int .u64 0, .int .i64 (-1), .bool true] 30)) := (Below.refl _ _).alloc (Nat.le_refl _) _
  have hq9 : Cb (X9.alloc (.cells #[.int .u8 11, .slice A9 0 c9, .int .u8 11, .string ⟨#[]⟩, .string ⟨#[]⟩, .int .u32 0, .int .i64 0, .int .u64 0, .int .u64 0, .int .i64 (-1), .bool true] 30)) X9.heap.size (cmdC flushC (.slice A9 0 c9)) := cb_new rfl
  generalize X9.alloc _ = Y9 at *
  have hB9 : Below w.heap.size w Y9 := hB8.trans ((hb9.trans (ha9.mono hb9.size)).mono hB8.size)
  replace hl1 := (hl1.out.on hb9).on ha9; replace hl1 := Lib.hid hl1
  replace hl2 := (hl2.out.on hb9).on ha9; replace hl2 := Lib.hid hl2
  replace hl4 := (hl4.out.on hb9).on ha9; replace hl4 := Lib.hid hl4
  replace hl8 := (hl8.out.on hb9).on ha9; replace hl8 := Lib.hid hl8
  have hl9 := Lib.hid (LvR.mk hq9 (hk9.on ha9))
  clear hb9 ha9 hq9 hk9 hB8
  obtain ⟨x0, x1, x2, x3, x4, x5, x6, x7, x8, x9, x10⟩ := cb_cells hl9.out.box
  go_upto_region 11 with (go_at_call 13; refine (HF.out _ Y9 hl9.out.keys).mono ?_; rintro e Z ⟨rfl, hbz⟩)
  clear x0 x1 x2 x3 x4 x5 x6 x7 x8 x9 x10
  replace hl1 := hl1.out.on hbz
  obtain ⟨p0, p1, p2, p3, p4, p5, p6, p7, p8, p9, p10⟩ := cb_cells hl1.box
  replace hl2 := hl2.out.on hbz
  obtain ⟨q0, q1, q2, q3, q4, q5, q6, q7, q8, q9, q10⟩ := cb_cells hl2.box
  replace hl4 := hl4.out.on hbz
  obtain ⟨r0, r1, r2, r3, r4, r5, r6, r7, r8, r9, r10⟩ := cb_cells hl4.box
  replace hl8 := hl8.out.on hbz
  obtain ⟨s0, s1, s2, s3, s4, s5, s6, s7, s8, s9, s10⟩ := cb_cells hl8.box
  replace hl9 := hl9.out.on hbz
  obtain ⟨t0, t1, t2, t3, t4, t5, t6, t7, t8, t9, t10⟩ := cb_cells hl9.box
  obtain ⟨g1, rfl, k1⟩ := key_at (k := 0) hl1.keys rfl
  obtain ⟨g2, rfl, k2⟩ := key_at (k := 1) hl2.keys rfl
  simp only [flushC] at t0 t1 t2 t3 t4 t5 t6 t7 t8 t9 t10
  clear hl1 hl2 hl4 hl8 hl9
  go_wp2_with fail
  refine bodyPost_ret (v := .bool true) (by simp [results, Tryd.results9, go_sem]; rfl) rfl ?_
  exact ⟨rfl, hB9.trans (hbz.mono hB9.size)⟩
end Go.Proofs.YtifbcejekdhnlaaDoor
/- Next: Lines: are commands the same, as the laws ask it. -/
namespace Go.Proofs.YtifbcejekdhnlaaDoor
open Go.RowKit Go.Maps
set_option linter.unusedVariables false

set_option maxHeartbeats 4000000 in
set_option maxRecDepth 100000 in
theorem lawsame29 (e : Cmd) (kv1 kv2 : Value) (w : World) (h1 : KyR w kv1 e.keys) (h2 : KyR w kv2 e.keys) :
    Calls Tryd.prog 16 #[.agg (cmdC e kv1).toArray, .agg (cmdC e kv2).toArray] w fun r w' => r = .returned (.bool true) ∧ Below w.heap.size w w' := by
  obtain ⟨A1, c1, rfl, hc1, hm1, r1⟩ := h1.form
  obtain ⟨A2, c2, rfl, hc2, hm2, r2⟩ := h2.form
  unfold maxLen at hm1 hm2
  obtain ⟨vb, ks, cv, ky, vl, fl, ex, id, by_, bt, qt⟩ := e
  simp only at hc1 hc2 r1 r2
  obtain ⟨n, hnn⟩ : ∃ n, n = ks.length := ⟨_, rfl⟩
  simp only [cmdC]
  rw [← hnn] at hc1 hc2 ⊢
  have HN := Lib.hid hnn
  have R1 := Lib.hid r1
  have R2 := Lib.hid r2
  clear r1 r2 hnn h1 h2
  go_enter Tryd.func16, Tryd.ntmps16
  go_wp2_with fail
  go_loopw [5] (fun i wr => ∃ k : Nat, k ≤ n ∧ i = .int .i64 k ∧ Below w.heap.size w wr ∧ wr.cell? ⟨w.heap.size, 1, none⟩ = some (.slice A1 n c1) ∧ wr.cell? ⟨w.heap.size + 1, 1, none⟩ = some (.slice A2 n c2)) (fun i _ => n - (intOf i).toNat)
  case atStart => exact ⟨0, by omega, rfl, ((Below.refl _ _).alloc (Nat.le_refl _) _).alloc (by simp) _, by simp [World.cell?_alloc_lt], by simp⟩
  case round =>
    obtain ⟨k, hk, rfl, hnx, p1, p2⟩ := hrel
    by_cases hlt : k < n
    · obtain ⟨x, hx⟩ : ∃ x, ks[k]? = some x := ⟨_, List.getElem?_eq_getElem (by have := HN.out; omega)⟩
      obtain ⟨g1, rfl, l1, a1⟩ := R1.out k x hx
      obtain ⟨g2, rfl, l2, a2⟩ := R2.out k x hx
      have b1 := (hnx.cell (p := ⟨g1, k, none⟩) l1).trans a1
      have b2 := (hnx.cell (p := ⟨g2, k, none⟩) l2).trans a2
      clear a1 a2 l1 l2 hx
      go_wp2_with fail
      go_quiet (fail)
      go_wp2
      go_roundw
      case rel => exact ⟨k + 1, by omega, by go_num, belowNf hnx _, by simpa using p1, by simpa using p2⟩
      case measure => simp [intOf]; omega
    · have hd : decide (k < n) = false := decide_eq_false hlt
      go_wp2_with fail
      go_ret
      exact ⟨rfl, hnx⟩
end Go.Proofs.YtifbcejekdhnlaaDoor
/- Next: Lines: texts with blanks between; helpers of a law. -/
namespace Go.Proofs.YtifbcejekdhnlaaDoor
open Go.RowKit Go.Maps
set_option linter.unusedVariables false

theorem kj_bytes {P : Program} {w : World} {t e : TypeId} {a : Option Addr} {len cap : Nat} (ht : P.underlying t = some (.slice e)) (hk : leaves P 9 e = some [.inl .u8]) (hc : P.cellsOf e = 1) (h : Reads P w t (.slice a len cap)) :
    len ≤ maxLen ∧ ∃ b off, (0 < len → len ≤ cap ∧ a = some ⟨b, off, none⟩) ∧ ∀ i, i < len → ∃ n : Int, 0 ≤ n ∧ n ≤ 255 ∧ w.cell? ⟨b, off + i, none⟩ = some (.int .u8 n) := by
  rcases Reads.slice ht hk h with ⟨_, rfl, _⟩ | ⟨b, off, sp, rfl, h1, h2, h3, h4⟩
  · exact ⟨by simp [maxLen], 0, 0, fun h => by omega, fun i hi => by omega⟩
  · refine ⟨by omega, b, off, fun h => ⟨h1, by rw [h3 (by omega) (by omega)]⟩, fun i hi => ?_⟩
    obtain ⟨l, hl, hll, hx⟩ := h4 i (by omega)
    obtain ⟨c, l', rfl, ⟨n, rfl, hw⟩, h0⟩ := all2_cons hl
    have hsp := h3 (by omega) (by omega)
    have := hx 0 (.int .u8 n) rfl
    rw [hc] at this
    obtain ⟨q0, q1⟩ := bounds_u8 hw
    exact ⟨n, q0, by omega, by simpa [hsp] using this⟩
theorem kj_on {w wr : World} {a : Addr} {v : Value} (h : w.cell? a = some v) (hb : Below w.heap.size w wr) : wr.cell? a = some v := by
  rw [hb.cell (World.block_lt_of_cell? _ _ h)]; exact h
theorem rep32 (n : Nat) : (⟨(Lib.repeatL [32] n).toArray⟩ : ByteArray).data.toList = List.replicate n 32 := by
  have h : Lib.repeatL [32] n = List.replicate n 32 := by
    have := Lib.repeatL_replicate 32 1 n
    simpa using this
  rw [h]
theorem rep32_size (n : Nat) : (⟨(Lib.repeatL [32] n).toArray⟩ : ByteArray).size = n := by
  show (Lib.repeatL [32] n).toArray.size = n
  rw [List.size_toArray, Lib.repeatL_length]; simp
theorem kj_gap {T : ByteArray} {ws : List (List UInt8)} (h : Txt T.data.toList ws) (n : Nat) : Txt (T ++ (⟨(Lib.repeatL [32] n).toArray⟩ : ByteArray)).data.toList ws := by
  have e : (T ++ (⟨(Lib.repeatL [32] n).toArray⟩ : ByteArray)).data.toList = T.data.toList ++ List.replicate n 32 := by
    rw [← rep32 n]; simp
  rw [e]; exact h.gap n
theorem kj_word {T R : ByteArray} {ws : List (List UInt8)} (h : Txt T.data.toList ws) (n : Nat) (hn : ws ≠ [] → 0 < n) (h0 : R.data.toList ≠ []) (hx : ∀ c ∈ R.data.toList, c ≠ 32) : Txt ((T ++ (⟨(Lib.repeatL [32] n).toArray⟩ : ByteArray)) ++ R).data.toList (ws ++ [R.data.toList]) := by
  have e : ((T ++ (⟨(Lib.repeatL [32] n).toArray⟩ : ByteArray)) ++ R).data.toList = T.data.toList ++ List.replicate n 32 ++ R.data.toList := by
    rw [← rep32 n]; simp
  rw [e]; exact h.word n hn h0 hx
theorem readFs_ne (fs : List Nat) (xs : List (List UInt8)) (c : Cmd) : (readFs fs xs c).2 ≠ 3 := by
  intro h
  by_cases h0 : (readFs fs xs c).2 = 0 ∨ (readFs fs xs c).2 = 5
  · omega
  · have := (readFs_fault fs xs c h0).2
    omega
theorem parseN_told (l : List (List UInt8)) : (parseN l).2 ≠ 3 := by
  unfold parseN
  split
  · decide
  · split
    · decide
    · next f _ =>
      unfold parseW keyedW
      split
      · show (1 : Nat) ≠ 3; decide
      · split
        · exact readFs_ne _ _ _
        · show (2 : Nat) ≠ 3; decide
theorem parseC_long {s : ByteArray} (h : 2048 < s.size) : parseC s.data.toList = (Cmd.none, 3) := by
  unfold parseC
  rw [if_pos (by have : s.data.toList.length = s.size := by simp
                 omega)]
theorem parseC_short {s : ByteArray} (h : ¬ 2048 < s.size) : parseC s.data.toList = parseN (wordsF s.data.toList) := by
  unfold parseC
  rw [if_neg (by have : s.data.toList.length = s.size := by simp
                 omega)]
end Go.Proofs.YtifbcejekdhnlaaDoor
/- Next: Lines: the document's commands beside ours. -/
namespace Go.Proofs.YtifbcejekdhnlaaDoor
open Go.RowKit Go.Maps
set_option linter.unusedVariables false

set_option maxHeartbeats 4000000 in
set_option maxRecDepth 100000 in
theorem rsame29 (e : Cmd) (kv1 kv2 : Value) (w : World) (h1 : KyR w kv1 e.keys) (h2 : KyR w kv2 e.keys) :
    Calls Tryd.prog 43 #[.agg (cmdC e kv1).toArray, .agg (cmdC e kv2).toArray] w fun r w' => r = .returned (.bool true) ∧ Below w.heap.size w w' := by
  obtain ⟨A1, c1, rfl, hc1, hm1, r1⟩ := h1.form
  obtain ⟨A2, c2, rfl, hc2, hm2, r2⟩ := h2.form
  unfold maxLen at hm1 hm2
  obtain ⟨vb, ks, cv, ky, vl, fl, ex, id, by_, bt, qt⟩ := e
  simp only at hc1 hc2 r1 r2
  obtain ⟨n, hnn⟩ : ∃ n, n = ks.length := ⟨_, rfl⟩
  simp only [cmdC]
  rw [← hnn] at hc1 hc2 ⊢
  have HN := Lib.hid hnn
  have R1 := Lib.hid r1
  have R2 := Lib.hid r2
  clear r1 r2 hnn h1 h2
  go_enter Tryd.func43, Tryd.ntmps43
  go_wp2_with fail
  go_loopw [5] (fun i wr => ∃ k : Nat, k ≤ n ∧ i = .int .i64 k ∧ Below w.heap.size w wr ∧ wr.cell? ⟨w.heap.size, 1, none⟩ = some (.slice A1 n c1) ∧ wr.cell? ⟨w.heap.size + 1, 1, none⟩ = some (.slice A2 n c2)) (fun i _ => n - (intOf i).toNat)
  case atStart => exact ⟨0, by omega, rfl, ((Below.refl _ _).alloc (Nat.le_refl _) _).alloc (by simp) _, by simp [World.cell?_alloc_lt], by simp⟩
  case round =>
    obtain ⟨k, hk, rfl, hnx, p1, p2⟩ := hrel
    by_cases hlt : k < n
    · obtain ⟨x, hx⟩ : ∃ x, ks[k]? = some x := ⟨_, List.getElem?_eq_getElem (by have := HN.out; omega)⟩
      obtain ⟨g1, rfl, l1, a1⟩ := R1.out k x hx
      obtain ⟨g2, rfl, l2, a2⟩ := R2.out k x hx
      have b1 := (hnx.cell (p := ⟨g1, k, none⟩) l1).trans a1
      have b2 := (hnx.cell (p := ⟨g2, k, none⟩) l2).trans a2
      clear a1 a2 l1 l2 hx
      go_wp2_with fail
      go_quiet (fail)
      go_wp2
      go_roundw
      case rel => exact ⟨k + 1, by omega, by go_num, belowNf hnx _, by simpa using p1, by simpa using p2⟩
      case measure => simp [intOf]; omega
    · have hd : decide (k < n) = false := decide_eq_false hlt
      go_wp2_with fail
      go_ret
      exact ⟨rfl, hnx⟩
set_option maxHeartbeats 4000000 in
set_option maxRecDepth 100000 in
theorem other29 (c : Cmd) (kv : Value) (w : World) (h : KyR w kv c.keys) :
    Calls Tryd.prog 15 #[.agg (cmdC c kv).toArray] w fun r w' => r = .returned (.agg (cmdC c kv).toArray) ∧ Below w.heap.size w w' := by
  obtain ⟨A, k, rfl, -⟩ := h.form
  obtain ⟨vb, ks, cv, ky, vl, fl, ex, id, by_, bt, qt⟩ := c
  simp only [cmdC]
  clear h
  go_enter Tryd.func15, Tryd.ntmps15
  go_wp2_with fail
  refine bodyPost_ret (v := .agg #[.int .u8 vb, .slice A ks.length k, .int .u8 cv, .string ⟨ky.toArray⟩, .string ⟨vl.toArray⟩, .int .u32 fl, .int .i64 ex, .int .u64 id, .int .u64 by_, .int .i64 bt, .bool qt]) (by simp [results, Tryd.results15, go_sem]) rfl ?_
  exact ⟨rfl, ((Below.refl _ _).alloc (Nat.le_refl _) _).alloc (by simp) _⟩
set_option maxHeartbeats 4000000 in
set_option maxRecDepth 100000 in
/-- Equal commands are the same. -/
theorem lsame29 (c : Cmd) (kv1 kv2 : Value) (w : World) (h1 : KyR w kv1 c.keys) (h2 : KyR w kv2 c.keys) :
    Calls Tryd.prog 12 #[.agg (cmdC c kv1).toArray, .agg (cmdC c kv2).toArray] w fun r w' => r = .returned (.bool true) ∧ Below w.heap.size w w' := by
  obtain ⟨A1, k1, rfl, -⟩ := h1.form
  obtain ⟨A2, k2, rfl, -⟩ := h2.form
  obtain ⟨W2, hW2⟩ : ∃ W2, W2 = (w.alloc (.cells (cmdC c (.slice A1 c.keys.length k1)).toArray 30)).alloc (.cells (cmdC c (.slice A2 c.keys.length k2)).toArray 34) := ⟨_, rfl⟩
  have hb : Below w.heap.size w W2 := by rw [hW2]; exact ((Below.refl _ _).alloc (Nat.le_refl _) _).alloc (by simp) _
  have ho : ∀ W, Below W2.heap.size W2 W → Calls Tryd.prog 15 #[.agg (cmdC c (.slice A1 c.keys.length k1)).toArray] W fun r w' => r = .returned (.agg (cmdC c (.slice A1 c.keys.length k1)).toArray) ∧ Below W.heap.size W w' := fun W hW => other29 c _ W ((h1.on hb).on hW)
  have hs : ∀ W, Below W2.heap.size W2 W → Calls Tryd.prog 43 #[.agg (cmdC c (.slice A1 c.keys.length k1)).toArray, .agg (cmdC c (.slice A2 c.keys.length k2)).toArray] W fun r w' => r = .returned (.bool true) ∧ Below W.heap.size W w' := fun W hW => rsame29 c _ _ W ((h1.on hb).on hW) ((h2.on hb).on hW)
  have HB := Lib.hid hb
  have HO := Lib.hid ho
  have HS := Lib.hid hs
  have hC1 : Cb W2 w.heap.size (cmdC c (.slice A1 c.keys.length k1)) := by rw [hW2]; exact (cb_new rfl).new ((Below.refl _ _).alloc (Nat.le_refl _) _)
  have hC2 : Cb W2 (w.heap.size + 1) (cmdC c (.slice A2 c.keys.length k2)) := by rw [hW2]; have := cb_new (W := w.alloc (.cells (cmdC c (.slice A1 c.keys.length k1)).toArray 30)) (C := (cmdC c (.slice A2 c.keys.length k2)).toArray) (T := 34) (L := cmdC c (.slice A2 c.keys.length k2)) rfl; rwa [World.size_alloc] at this
  obtain ⟨vb, ks, cv, ky, vl, fl, ex, id, by_, bt, qt⟩ := c
  simp only [cmdC] at hW2 HO HS ⊢
  have hcells : ∀ X, Below W2.heap.size W2 X → (X.cell? ⟨w.heap.size, 0, none⟩ = some (.int .u8 vb) ∧ X.cell? ⟨w.heap.size, 1, none⟩ = some (.slice A1 ks.length k1) ∧ X.cell? ⟨w.heap.size, 2, none⟩ = some (.int .u8 cv) ∧ X.cell? ⟨w.heap.size, 3, none⟩ = some (.string ⟨ky.toArray⟩) ∧ X.cell? ⟨w.heap.size, 4, none⟩ = some (.string ⟨vl.toArray⟩) ∧ X.cell? ⟨w.heap.size, 5, none⟩ = some (.int .u32 fl) ∧ X.cell? ⟨w.heap.size, 6, none⟩ = some (.int .i64 ex) ∧ X.cell? ⟨w.heap.size, 7, none⟩ = some (.int .u64 id) ∧ X.cell? ⟨w.heap.size, 8, none⟩ = some (.int .u64 by_) ∧ X.cell? ⟨w.heap.size, 9, none⟩ = some (.int .i64 bt) ∧ X.cell? ⟨w.heap.size, 10, none⟩ = some (.bool qt) ∧ X.cell? ⟨w.heap.size + 1, 0, none⟩ = some (.int .u8 vb) ∧ X.cell? ⟨w.heap.size + 1, 1, none⟩ = some (.slice A2 ks.length k2) ∧ X.cell? ⟨w.heap.size + 1, 2, none⟩ = some (.int .u8 cv) ∧ X.cell? ⟨w.heap.size + 1, 3, none⟩ = some (.string ⟨ky.toArray⟩) ∧ X.cell? ⟨w.heap.size + 1, 4, none⟩ = some (.string ⟨vl.toArray⟩) ∧ X.cell? ⟨w.heap.size + 1, 5, none⟩ = some (.int .u32 fl) ∧ X.cell? ⟨w.heap.size + 1, 6, none⟩ = some (.int .i64 ex) ∧ X.cell? ⟨w.heap.size + 1, 7, none⟩ = some (.int .u64 id) ∧ X.cell? ⟨w.heap.size + 1, 8, none⟩ = some (.int .u64 by_) ∧ X.cell? ⟨w.heap.size + 1, 9, none⟩ = some (.int .i64 bt) ∧ X.cell? ⟨w.heap.size + 1, 10, none⟩ = some (.bool qt)) := fun X hX => by
    obtain ⟨x0, x1, x2, x3, x4, x5, x6, x7, x8, x9, x10⟩ := cb_cells (hC1.new hX)
    obtain ⟨y0, y1, y2, y3, y4, y5, y6, y7, y8, y9, y10⟩ := cb_cells (hC2.new hX)
    exact ⟨x0, x1, x2, x3, x4, x5, x6, x7, x8, x9, x10, y0, y1, y2, y3, y4, y5, y6, y7, y8, y9, y10⟩
  have HCE := Lib.hid hcells
  clear ho hs hb h1 h2 hC1 hC2 hcells
  go_enter Tryd.func12, Tryd.ntmps12
  go_upto_region 1 with fail
  rw [← hW2]
  clear hW2
  have hb2 : Below W2.heap.size W2 W2.drew := (Below.refl _ _).drew
  have hd := HCE.out _ hb2
  go_region_held3 (fun X => X.cell? ⟨w.heap.size, 0, none⟩ = some (.int .u8 vb) ∧ X.cell? ⟨w.heap.size, 1, none⟩ = some (.slice A1 ks.length k1) ∧ X.cell? ⟨w.heap.size, 2, none⟩ = some (.int .u8 cv) ∧ X.cell? ⟨w.heap.size, 3, none⟩ = some (.string ⟨ky.toArray⟩) ∧ X.cell? ⟨w.heap.size, 4, none⟩ = some (.string ⟨vl.toArray⟩) ∧ X.cell? ⟨w.heap.size, 5, none⟩ = some (.int .u32 fl) ∧ X.cell? ⟨w.heap.size, 6, none⟩ = some (.int .i64 ex) ∧ X.cell? ⟨w.heap.size, 7, none⟩ = some (.int .u64 id) ∧ X.cell? ⟨w.heap.size, 8, none⟩ = some (.int .u64 by_) ∧ X.cell? ⟨w.heap.size, 9, none⟩ = some (.int .i64 bt) ∧ X.cell? ⟨w.heap.size, 10, none⟩ = some (.bool qt) ∧ X.cell? ⟨w.heap.size + 1, 0, none⟩ = some (.int .u8 vb) ∧ X.cell? ⟨w.heap.size + 1, 1, none⟩ = some (.slice A2 ks.length k2) ∧ X.cell? ⟨w.heap.size + 1, 2, none⟩ = some (.int .u8 cv) ∧ X.cell? ⟨w.heap.size + 1, 3, none⟩ = some (.string ⟨ky.toArray⟩) ∧ X.cell? ⟨w.heap.size + 1, 4, none⟩ = some (.string ⟨vl.toArray⟩) ∧ X.cell? ⟨w.heap.size + 1, 5, none⟩ = some (.int .u32 fl) ∧ X.cell? ⟨w.heap.size + 1, 6, none⟩ = some (.int .i64 ex) ∧ X.cell? ⟨w.heap.size + 1, 7, none⟩ = some (.int .u64 id) ∧ X.cell? ⟨w.heap.size + 1, 8, none⟩ = some (.int .u64 by_) ∧ X.cell? ⟨w.heap.size + 1, 9, none⟩ = some (.int .i64 bt) ∧ X.cell? ⟨w.heap.size + 1, 10, none⟩ = some (.bool qt))
    (first | exact hd | exact he)
    (first
      | (go_at_call 15; refine (HO.out _ hb2).mono ?_; rintro e W3 ⟨rfl, hb3⟩; have hb23 := hb2.trans (hb3.mono hb2.size); have he := HCE.out _ hb23)
      | (go_at_call 43; refine (HS.out _ hb23).mono ?_; rintro e W4 ⟨rfl, hb4⟩; have he := HCE.out _ (hb23.trans (hb4.mono hb23.size))))
  all_goals
    go_wp2_with fail
    refine bodyPost_ret (v := .bool true) (by simp [results, Tryd.results12, go_sem]) rfl ?_
    exact ⟨rfl, HB.out.trans ((hb23.trans (hb4.mono hb23.size)).mono HB.out.size)⟩
end Go.Proofs.YtifbcejekdhnlaaDoor
/- Next: Lines: keys that are written over. -/
namespace Go.Proofs.YtifbcejekdhnlaaDoor
open Go.RowKit Go.Maps
set_option linter.unusedVariables false

/-- The block of a list's strings: what can be written there. -/
def KeyW (W : World) (A : Option Addr) (B n g : Nat) : Prop := 0 < n → A = some ⟨g, 0, none⟩ ∧ B ≤ g ∧ g < W.heap.size ∧ ∀ j, j < n → (∃ v, W.cell? ⟨g, j, none⟩ = some v) ∧ W.frozen? ⟨g, j, none⟩ = false
theorem keyw_of {W : World} {B : Nat} {kv : Value} {l : List (List UInt8)} (h : KeysAt W B kv l) : ∃ A c g, kv = .slice A l.length c ∧ l.length ≤ c ∧ c ≤ maxLen ∧ KeyW W A B l.length g := by
  obtain ⟨hl, ⟨rfl, h0⟩ | ⟨g, cap, rfl, hB, hg, hn, hm, hx⟩⟩ := h
  · exact ⟨none, 0, 0, by rw [h0], by omega, by simp [maxLen], fun h => by omega⟩
  · refine ⟨_, cap, g, rfl, hn, hm, fun _ => ⟨rfl, hB, hg, fun j hj => ?_⟩⟩
    have := hx j (.string ⟨l[j].toArray⟩) (by simp only [strs, List.getElem?_map, List.getElem?_eq_getElem hj]; rfl)
    exact ⟨⟨_, this.1⟩, this.2⟩
theorem KeyW.keep {W W' : World} {A : Option Addr} {B n g : Nat} {T : Nat → Prop} (h : KeyW W A B n g) (hk : Keeps T W W') (hT : 0 < n → ¬ T g) : KeyW W' A B n g := fun h0 => by
  obtain ⟨h1, h2, h3, h4⟩ := h h0
  refine ⟨h1, h2, Nat.lt_of_lt_of_le h3 hk.size, fun j hj => ?_⟩
  obtain ⟨⟨v, hv⟩, hf⟩ := h4 j hj
  exact ⟨⟨v, hk.cell (p := ⟨g, j, none⟩) (hT h0) hv⟩, hk.frozen (p := ⟨g, j, none⟩) (hT h0) h3 hf⟩
theorem KeyW.set {W : World} {A : Option Addr} {B n g k : Nat} (h : KeyW W A B n g) (u : Value) (hk : k < n) : KeyW (W.setCell ⟨g, k, none⟩ u) A B n g := fun h0 => by
  obtain ⟨h1, h2, h3, h4⟩ := h h0
  refine ⟨h1, h2, by simpa [World.setCell] using h3, fun j hj => ?_⟩
  obtain ⟨⟨v, hv⟩, hf⟩ := h4 j hj
  exact ⟨cell?_setCell_some hv, by rw [World.frozen?_setCell]; exact hf⟩
theorem readFs_le (fs : List Nat) (xs : List (List UInt8)) (c : Cmd) : (readFs fs xs c).2 ≤ 5 := by
  by_cases h0 : (readFs fs xs c).2 = 0 ∨ (readFs fs xs c).2 = 5
  · omega
  · have := (readFs_fault fs xs c h0).2
    omega
theorem told_le (l : List UInt8) : (parseC l).2 ≤ 5 := by
  unfold parseC
  split
  · show 3 ≤ 5; omega
  · unfold parseN
    split
    · show 1 ≤ 5; omega
    · split
      · show 1 ≤ 5; omega
      · next f _ =>
        unfold parseW keyedW
        split
        · show 1 ≤ 5; omega
        · split
          · exact readFs_le _ _ _
          · show 2 ≤ 5; omega
end Go.Proofs.YtifbcejekdhnlaaDoor
