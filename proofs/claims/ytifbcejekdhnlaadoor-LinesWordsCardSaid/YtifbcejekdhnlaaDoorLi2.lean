/- Lines: the words of one command, 'flush_all noreply'. -/
import Derived.Test.YtifbcejekdhnlaaDoorLi1
import Derived.Test.YtifbcejekdhnlaaDoorLn9
import Derived.Maps.AppendAt
namespace Go.Proofs.YtifbcejekdhnlaaDoor
open Go.RowKit Go.Maps
set_option linter.unusedVariables false

def flushN : List UInt8 := [102, 108, 117, 115, 104, 95, 97, 108, 108]
def flushF : Form := ⟨11, 0, 0, [2], 1, true⟩
def flushC : Cmd := ⟨11, [], 11, [], [], 0, 0, 0, 0, -1, true⟩
theorem own_lit1 {W : World} {v : Value} {e : TypeId} {B : Nat} (hB : B ≤ W.heap.size) : (W.alloc (.cells #[v] e)).ownsRow B e 1 (.slice (some ⟨W.heap.size, 0, none⟩) 1 1) 1 [v] := by
  refine ⟨rfl, .inr ⟨W.heap.size, 1, #[v], rfl, hB, ?_, Nat.le_refl _, by unfold maxLen; decide, ?_, ?_⟩⟩
  · show (W.heap.push _)[W.heap.size]? = _
    simp
  · rfl
  · rfl
theorem formOk_flush : FormOk flushF := tbF_ok (flushN, flushF) (by decide)
/-- 'append' of nothing. -/
theorem run_append_zero {P : Program} (w : World) (t ty e : TypeId) (i : TypeInfo) (ht : P.underlying t = some (.slice e)) (hi : P.info? e = some i) (ad : Addr) (n c c' : Nat) (A : Option Addr) (hn : n ≤ c) :
    (Builtin.append_ #[t, t] ty #[.slice (some ad) n c, .slice A 0 c']).run P w = .ok (.slice (some ad) n c) w := by
  cases A <;> simp [Builtin.append_, run_underlying ht, sizeOf, typeInfo, hi, Builtin.lenOf, Builtin.firstCells, hn, storeCells, loadCells, loadCellsFrom]
theorem wpList_append_zero {P : Program} (w : World) {ops : Array Oper} {rest : List Oper} {o : Oper} {a : Act} {Q : Exit → Act → World → Prop} (hgd : o.guard = none) (s x : Operand) (t : TypeId)
    (ho : o.op = .call { callee := .builtin .append, args := #[s, x], argTypes := #[t, t] }) (e : TypeId) (i : TypeInfo) (ht : P.underlying t = some (.slice e)) (hi : P.info? e = some i)
    (ad : Addr) (n c c' : Nat) (A : Option Addr) (hn : n ≤ c) (hs : a.eval s = .slice (some ad) n c) (hx : a.eval x = .slice A 0 c') (h : wpList P ops Q rest (a.put o.dst (.slice (some ad) n c)) w) : wpList P ops Q (o :: rest) a w := by
  refine wpList_plain hgd fun K hK => ?_
  have hrun := run_append_zero (P := P) w t o.type e i ht hi ad n c c' A hn
  unfold Oper.wp execOp
  simp only [ho, resolve, invoke, builtin, Sem.run_bind, Sem.run_pure, Result.andThen_ok, List.map_toArray, List.map_cons, List.map_nil, hs, hx, hrun]
  exact hK _ _ h
set_option maxHeartbeats 4000000 in
set_option maxRecDepth 100000 in
theorem words_flush (kv : Value) (w : World) (hk : KyR w kv []) :
    Calls Tryd.prog 44 #[.agg (cmdC flushC kv).toArray, .string ⟨flushN.toArray⟩, .agg (formC flushF).toArray] w fun e w' => ∃ g cap, e = .returned (.slice (some ⟨g, 0, none⟩) 2 cap) ∧ 2 ≤ cap ∧ cap ≤ maxLen ∧ g < w'.heap.size ∧ w'.cell? ⟨g, 0, none⟩ = some (.string ⟨flushN.toArray⟩) ∧ w'.cell? ⟨g, 1, none⟩ = some (.string ⟨norep.toArray⟩) ∧ Below w.heap.size w w' := by
  obtain ⟨A1, c1, rfl, hc1, hm1, -⟩ := hk.form
  simp only [List.length_nil] at hc1 ⊢
  show Calls Tryd.prog 44 #[.agg #[.int .u8 11, .slice A1 0 c1, .int .u8 11, .string ⟨#[]⟩, .string ⟨#[]⟩, .int .u32 0, .int .i64 0, .int .u64 0, .int .u64 0, .int .i64 (-1), .bool true], .string ⟨flushN.toArray⟩, .agg #[.int .u8 11, .int .i64 0, .int .i64 0, .int .u8 2, .int .u8 0, .int .u8 0, .int .u8 0, .int .i64 1, .bool true]] w _
  go_enter Tryd.func44, Tryd.ntmps44
  obtain ⟨i0, hi, hz0, hz1, hz2⟩ := info_parts info_string
  go_upto_region 2 with (at_builtin; refine wpList_append_zero _ rfl (.tmp 11) (.tmp 13) 24 rfl 9 i0 Tryd.underlying24 hi ⟨w.heap.size + 1 + 1, 0, none⟩ 1 1 c1 A1 (Nat.le_refl _) rfl rfl ?_)
  have hb1 : Below w.heap.size w (w.alloc (.cells #[.int .u8 11, .slice A1 0 c1, .int .u8 11, .string ⟨#[]⟩, .string ⟨#[]⟩, .int .u32 0, .int .i64 0, .int .u64 0, .int .u64 0, .int .i64 (-1), .bool true] 30)) := (Below.refl _ _).alloc (Nat.le_refl _) _
  have hC1 : Cb (w.alloc (.cells #[.int .u8 11, .slice A1 0 c1, .int .u8 11, .string ⟨#[]⟩, .string ⟨#[]⟩, .int .u32 0, .int .i64 0, .int .u64 0, .int .u64 0, .int .i64 (-1), .bool true] 30)) w.heap.size (cmdC flushC (.slice A1 0 c1)) := cb_new rfl
  have hz1 : (w.alloc (.cells #[.int .u8 11, .slice A1 0 c1, .int .u8 11, .string ⟨#[]⟩, .string ⟨#[]⟩, .int .u32 0, .int .i64 0, .int .u64 0, .int .u64 0, .int .i64 (-1), .bool true] 30)).heap.size = w.heap.size + 1 := by simp
  generalize w.alloc _ = X1 at *
  have hb2 : Below X1.heap.size X1 (X1.alloc (.cells #[.int .u8 11, .int .i64 0, .int .i64 0, .int .u8 2, .int .u8 0, .int .u8 0, .int .u8 0, .int .i64 1, .bool true] 74)) := (Below.refl _ _).alloc (Nat.le_refl _) _
  have hF2 : Cb (X1.alloc (.cells #[.int .u8 11, .int .i64 0, .int .i64 0, .int .u8 2, .int .u8 0, .int .u8 0, .int .u8 0, .int .i64 1, .bool true] 74)) X1.heap.size (formC flushF) := cb_new rfl
  have hz2 : (X1.alloc (.cells #[.int .u8 11, .int .i64 0, .int .i64 0, .int .u8 2, .int .u8 0, .int .u8 0, .int .u8 0, .int .i64 1, .bool true] 74)).heap.size = X1.heap.size + 1 := by simp
  generalize X1.alloc _ = X2 at *
  have hb3 : Below X2.heap.size X2 (X2.alloc (.cells #[.string ⟨flushN.toArray⟩] 9)) := (Below.refl _ _).alloc (Nat.le_refl _) _
  have hO3 : (X2.alloc (.cells #[.string ⟨flushN.toArray⟩] 9)).ownsRow X2.heap.size 9 1 (.slice (some ⟨X2.heap.size, 0, none⟩) 1 1) 1 [.string ⟨flushN.toArray⟩] := own_lit1 (Nat.le_refl _)
  generalize X2.alloc _ = X3 at *
  have hC3 := (hC1.new hb2).new hb3
  have hF3 := hF2.new hb3
  rw [hz2, hz1] at hO3
  rw [hz1] at hF3
  have hB3 : Below w.heap.size w X3 := (hb1.trans (hb2.mono (by omega))).trans (hb3.mono (by omega))
  have hs3 := hb3.size
  have HO3 := Lib.hid hO3
  have HB3 := Lib.hid hB3
  have HC3 := Lib.hid hC3
  have HF3 := Lib.hid hF3
  have hCt : Calls Tryd.prog 64 #[.agg #[.int .u8 11, .int .i64 0, .int .i64 0, .int .u8 2, .int .u8 0, .int .u8 0, .int .u8 0, .int .i64 1, .bool true]] X3 fun e w' => e = .returned (.int .i64 1) ∧ Below X3.heap.size X3 w' := countw flushF X3 formOk_flush
  have HCt := Lib.hid hCt
  obtain ⟨f0, f1, f2, f3, f4, f5, f6, f7, f8⟩ : X3.cell? ⟨w.heap.size + 1, 0, none⟩ = some (.int .u8 11) ∧ X3.cell? ⟨w.heap.size + 1, 1, none⟩ = some (.int .i64 0) ∧ X3.cell? ⟨w.heap.size + 1, 2, none⟩ = some (.int .i64 0) ∧ X3.cell? ⟨w.heap.size + 1, 3, none⟩ = some (.int .u8 2) ∧ X3.cell? ⟨w.heap.size + 1, 4, none⟩ = some (.int .u8 0) ∧ X3.cell? ⟨w.heap.size + 1, 5, none⟩ = some (.int .u8 0) ∧ X3.cell? ⟨w.heap.size + 1, 6, none⟩ = some (.int .u8 0) ∧ X3.cell? ⟨w.heap.size + 1, 7, none⟩ = some (.int .i64 1) ∧ X3.cell? ⟨w.heap.size + 1, 8, none⟩ = some (.bool true) := ⟨hF3.at_ 0 _ rfl, hF3.at_ 1 _ rfl, hF3.at_ 2 _ rfl, hF3.at_ 3 _ rfl, hF3.at_ 4 _ rfl, hF3.at_ 5 _ rfl, hF3.at_ 6 _ rfl, hF3.at_ 7 _ rfl, hF3.at_ 8 _ rfl⟩
  have HZ := Lib.hid (And.intro hz1 (And.intro hz2 hs3))
  clear hb1 hC1 hb2 hF2 hb3 hO3 hC3 hF3 hB3 hCt hz1 hz2 hs3 hk
  go_wp2_with (go_at_call 64; refine HCt.out.mono ?_; rintro e X4 ⟨rfl, hb4⟩; have HB4 := Lib.hid hb4; have g3 : X4.cell? ⟨w.heap.size + 1, 3, none⟩ = some (.int .u8 2) := (HF3.out.new hb4).at_ 3 _ rfl; have g7 : X4.cell? ⟨w.heap.size + 1, 7, none⟩ = some (.int .i64 1) := (HF3.out.new hb4).at_ 7 _ rfl; have e6 : X4.cell? ⟨w.heap.size, 6, none⟩ = some (.int .i64 0) := (HC3.out.new hb4).at_ 6 _ rfl; have e10 : X4.cell? ⟨w.heap.size, 10, none⟩ = some (.bool true) := (HC3.out.new hb4).at_ 10 _ rfl; clear hb4 f0 f1 f2 f3 f4 f5 f6 f7 f8)
  have HO4 := Lib.hid (Keeps.ownsRow HO3.out (Keeps.of_new (S := fun _ => False) HB4.out) (fun _ _ e => e))
  have hbs : w.heap.size + 1 + 1 ≤ X4.heap.size := by have := HZ.out; have := HB4.out.size; omega
  refine wp_loop_rounds 2 ?_
  rw [rounds_succ]
  go_wp2_with fail
  rw [rounds_succ]
  go_wp2_with (at_builtin; refine wpList_append_own_at _ rfl (.tmp 42) (.tmp 43) 24 rfl (w.heap.size + 1 + 1) 9 i0 _ 1 16 Tryd.underlying24 hi hz0 hz1 hz2 rfl (by decide) _ 1 _ rfl (HO4.out.alloc _) ⟨X4.heap.size, 0, none⟩ 1 1 [.string ⟨norep.toArray⟩] rfl rfl ?c1 ?c2 ?c3 ?c4 ?c5 ?_)
  case c1 =>
    intro j u hj
    match j, hj with
    | 0, hj => simp at hj; subst hj; simp [Addr.add]; rfl
  case c2 => intro u hu; simp at hu; subst hu; rfl
  case c3 => unfold maxLen; decide
  case c4 => decide
  case c5 => simp; omega
  intro v' X5 hown5 hgr5 hnil5 hat5
  have hb5 : Below w.heap.size w X5 := (((HB3.out.trans (HB4.out.mono HB3.out.size)).alloc (by omega) _).grown hgr5 (by simp; omega) (fun j e => by simp [Value.ownBlock] at e; omega))
  have hcs : ∃ g cap, v' = .slice (some ⟨g, 0, none⟩) 2 cap ∧ 2 ≤ cap ∧ cap ≤ maxLen ∧ g < X5.heap.size ∧ X5.cell? ⟨g, 0, none⟩ = some (.string ⟨flushN.toArray⟩) ∧ X5.cell? ⟨g, 1, none⟩ = some (.string ⟨norep.toArray⟩) := by
    rcases hown5.2 with ⟨he, h0⟩ | ⟨g, cap, cur, rfl, hB, hbk, h1, h2, _⟩
    · exact absurd h0 (by decide)
    · have q0 := hown5.cells (g := g) rfl 0 _ rfl
      have q1 := hown5.cells (g := g) rfl 1 _ rfl
      rw [Addr.add_lit, Nat.zero_add] at q0 q1
      exact ⟨g, cap, rfl, h1, h2, (hown5.lt g rfl).2, q0, q1⟩
  obtain ⟨g, cap, rfl, h1, h2, h3, h4, h5⟩ := hcs
  have HH := Lib.hid (And.intro h1 (And.intro h2 (And.intro h3 (And.intro h4 (And.intro h5 hb5)))))
  clear h1 h2 h3 h4 h5 hb5 hown5 hgr5 hnil5 hat5 g3 g7 e6 e10
  go_wp2_with fail
  go_ret
  exact ⟨g, cap, rfl, HH.out⟩
end Go.Proofs.YtifbcejekdhnlaaDoor
