/- Feeds: how a feed lies; a turn to another way; a fault that is told. -/
import Derived.Test.YtifbcejekdhnlaaDoorLn9
import Derived.Test.YtifbcejekdhnlaaDoorFeMath
import Derived.Test.YtifbcejekdhnlaaDoorBy
namespace Go.Proofs.YtifbcejekdhnlaaDoor
open Go.RowKit Go.Maps
set_option linter.unusedVariables false

/-- A feed's fifteen cells; an event's thirteen. -/
def fdC (s : Fst) (hv kv : Value) : List Value := .int .i64 s.way :: hv :: .bool s.ended :: (cmdC s.cmd kv ++ [.int .i64 s.left])
def evC (e : Ev) (kv : Value) : List Value := cmdC e.cmd kv ++ [.string ⟨e.data.toArray⟩, .int .u8 e.told]
/-- Keys that are read alone, in a block that is none of U. -/
def KyS (W : World) (U : Nat → Prop) (kv : Value) (l : List (List UInt8)) : Prop :=
  (kv = .slice none 0 0 ∧ l = []) ∨ ∃ g cap, kv = .slice (some ⟨g, 0, none⟩) l.length cap ∧ l.length ≤ cap ∧ cap ≤ maxLen ∧ ¬ U g ∧ g < W.heap.size ∧ TxAt W g 0 l
theorem KyS.one {W : World} {U : Nat → Prop} {kv : Value} {l : List (List UInt8)} (h : KyS W U kv l) : kv.oneCell' = true := by
  rcases h with ⟨rfl, _⟩ | ⟨g, c, rfl, _⟩ <;> rfl
theorem KyS.nil (W : World) (U : Nat → Prop) : KyS W U (.slice none 0 0) [] := .inl ⟨rfl, rfl⟩
theorem KyS.turn {W W' : World} {U U' : Nat → Prop} {kv : Value} {l : List (List UInt8)} (h : KyS W U kv l) (ht : Turn U U' W W') : KyS W' U' kv l := by
  rcases h with h | ⟨g, c, rfl, h1, h2, h3, h4, h5⟩
  · exact .inl h
  · exact .inr ⟨g, c, rfl, h1, h2, fun u => by rcases ht.only g u with u | u; exact h3 u; omega, Nat.lt_of_lt_of_le h4 ht.keeps.size, h5.keep ht.keeps h3⟩
theorem KyS.of_lst {W : World} {U : Nat → Prop} {B : Nat} {kv : Value} {l : List (List UInt8)} (h : Lst W B 1 kv l.length (strs l)) (hU : ∀ g, B ≤ g → g < W.heap.size → ¬ U g) : KyS W U kv l := by
  obtain ⟨_, ⟨rfl, h0⟩ | ⟨g, c, rfl, hB, hg, hn, hc, hx⟩⟩ := h
  · exact .inl ⟨rfl, List.eq_nil_of_length_eq_zero h0⟩
  · exact .inr ⟨g, c, rfl, hn, hc, hU g hB hg, hg, fun j x hj => by rw [Nat.zero_add]; exact (hx j _ (by simp only [strs, List.getElem?_map, hj]; rfl)).1⟩
theorem KyS.len {W : World} {U : Nat → Prop} {kv : Value} {l : List (List UInt8)} (h : KyS W U kv l) : ∃ a c, kv = .slice a l.length c ∧ l.length ≤ c ∧ c ≤ maxLen := by
  rcases h with ⟨rfl, rfl⟩ | ⟨g, c, rfl, h1, h2, _⟩
  · exact ⟨none, 0, rfl, by simp, by simp [maxLen]⟩
  · exact ⟨_, c, rfl, h1, h2⟩
/-- A feed, and the blocks that are its own. -/
structure FdAt (W : World) (q : Nat) (U : Nat → Prop) (s : Fst) (hv kv : Value) : Prop where
  cells : Cb W q (fdC s hv kv)
  row : W.ownsRow 0 5 1 hv s.held.length (byv s.held)
  own : ∀ g, hv.ownBlock = some g → U g ∧ g ≠ q
  me : U q
  keys : KyS W U kv s.cmd.keys
  lt : ∀ k, U k → k < W.heap.size
theorem FdAt.turn {W W' : World} {q : Nat} {U T : Nat → Prop} {s : Fst} {hv kv : Value} (h : FdAt W q U s hv kv) (hk : Keeps T W W') (hT : ∀ k, T k → ¬ U k ∧ ∀ g c n, kv = .slice (some ⟨g, 0, none⟩) n c → g ≠ k) : FdAt W' q U s hv kv := by
  refine ⟨h.cells.keep hk (fun t => (hT q t).1 h.me), Keeps.ownsRow h.row hk (fun g e t => (hT g t).1 (h.own g e).1), h.own, h.me, ?_, fun k u => Nat.lt_of_lt_of_le (h.lt k u) hk.size⟩
  rcases h.keys with h' | ⟨g, c, e, h1, h2, h3, h4, h5⟩
  · exact .inl h'
  · exact .inr ⟨g, c, e, h1, h2, h3, Nat.lt_of_lt_of_le h4 hk.size, h5.keep hk (fun t => (hT g t).2 g c _ e rfl)⟩
theorem FdAt.new {W W' : World} {q : Nat} {U : Nat → Prop} {s : Fst} {hv kv : Value} (h : FdAt W q U s hv kv) (hb : Below W.heap.size W W') : FdAt W' q U s hv kv :=
  h.turn (T := fun _ => False) (Keeps.of_new hb) (fun k t => t.elim)
theorem row_slice {w : World} {B e size n : Nat} {v : Value} {xs : List Value} (h : w.ownsRow B e size v n xs) : ∃ a c, v = .slice a n c ∧ n ≤ c ∧ c ≤ maxLen ∧ (a = none → n = 0 ∧ c = 0) := by
  obtain ⟨_, ⟨rfl, rfl⟩ | ⟨g, cap, cur, rfl, _, _, hn, hm, _⟩⟩ := h
  · exact ⟨none, 0, rfl, by omega, by simp [maxLen], fun _ => ⟨rfl, rfl⟩⟩
  · exact ⟨_, cap, rfl, hn, hm, fun h => by simp at h⟩
theorem row_one {w : World} {B e size n : Nat} {v : Value} {xs : List Value} (h : w.ownsRow B e size v n xs) : v.oneCell' = true := by
  obtain ⟨a, c, rfl, _⟩ := row_slice h
  rfl
theorem info_fd : (Tryd.prog.info? 114).map (·.size) = some 15 := by kernel_rfl
theorem info_ev : (Tryd.prog.info? 67).map (·.size) = some 13 := by kernel_rfl
theorem fdC_one {s : Fst} {hv kv : Value} (h : hv.oneCell' = true) (h2 : kv.oneCell' = true) : (fdC s hv kv).toArray.all (·.oneCell') = true := by
  refine all_oneCell_toArray fun v hv' => ?_
  simp only [fdC, cmdC, List.cons_append, List.nil_append, List.mem_cons, List.not_mem_nil, or_false] at hv'
  rcases hv' with rfl | rfl | rfl | rfl | rfl | rfl | rfl | rfl | rfl | rfl | rfl | rfl | rfl | rfl | rfl
  all_goals first | exact h | exact h2 | rfl
theorem evC_one {e : Ev} {kv : Value} (h2 : kv.oneCell' = true) : (evC e kv).toArray.all (·.oneCell') = true := by
  refine all_oneCell_toArray fun v hv' => ?_
  simp only [evC, cmdC, List.cons_append, List.nil_append, List.mem_cons, List.not_mem_nil, or_false] at hv'
  rcases hv' with rfl | rfl | rfl | rfl | rfl | rfl | rfl | rfl | rfl | rfl | rfl | rfl | rfl
  all_goals first | exact h2 | rfl
/-- A store of a whole struct into a block. -/
theorem wpList_cb {P : Program} {ops : Array Oper} {rest : List Oper} {op : Oper} {a : Act} {w : World} {Q : Exit → Act → World → Prop} (hgd : op.guard = none) (ty : TypeId) (x y : Operand) (ho : op.op = .store ty x y)
    (q : Nat) (C C' : List Value) (h : Cb w q C) (hl : C'.length = C.length) (hi : (P.info? ty).map (·.size) = some C'.length) (h1 : C'.toArray.all (·.oneCell') = true) (hx : a.eval x = .pointer (some ⟨q, 0, none⟩)) (hy : a.eval y = .agg C'.toArray)
    (hK : ∀ W, Cb W q C' → Keeps (fun k => k = q) w W → wpList P ops Q rest (a.put op.dst undef) W) : wpList P ops Q (op :: rest) a w := by
  refine wpList_store_mid hgd ty x y ho q 0 C'.toArray hx hy ?_ ?_ h1 (hK _ ?_ ?_)
  · have := h.there
    rw [← hl] at this
    simpa using this
  · simpa using hi
  · simpa using cb_setCells h hl
  · exact keeps_setCells q _ 0 w
set_option maxHeartbeats 1000000 in
set_option maxRecDepth 100000 in
theorem turnw (q n : Nat) (s : Fst) (hv kv : Value) (w : World) (h : Cb w q (fdC s hv kv)) :
    Calls Tryd.prog 112 #[.pointer (some ⟨q, 0, none⟩), .int .i64 (n : Nat)] w fun e w' => e = .returned (.tuple #[]) ∧ Cb w' q (fdC (Fst.at n) (.slice none 0 0) (.slice none 0 0)) ∧ Keeps (fun k => k = q) w w' := by
  have H := Lib.hid h
  clear h
  go_enter Tryd.func112, Tryd.ntmps112
  go_wp2_with (refine wpList_cb rfl 114 (.tmp 7) (.tmp 6) rfl q _ (fdC (Fst.at n) (.slice none 0 0) (.slice none 0 0)) H.out rfl info_fd (fdC_one rfl rfl) rfl rfl ?_; intro W1 hC1 hK1)
  go_end0
  exact ⟨rfl, hC1, hK1⟩
def zeroEv : Value := .agg #[.int .u8 0, .slice none 0 0, .int .u8 0, .string ⟨#[]⟩, .string ⟨#[]⟩, .int .u32 0, .int .i64 0, .int .u64 0, .int .u64 0, .int .i64 0, .bool false, .string ⟨#[]⟩, .int .u8 0]
set_option maxHeartbeats 1000000 in
set_option maxRecDepth 100000 in
theorem faultw (t : Nat) (w : World) : Calls Tryd.prog 125 #[.int .u8 (t : Nat)] w fun e w' => e = .returned (.tuple #[.agg (evC (Ev.fault t) (.slice none 0 0)).toArray, .bool true]) ∧ Below w.heap.size w w' := by
  go_enter Tryd.func125, Tryd.ntmps125
  go_wp2_with fail
  refine bodyPost_ret (v := .tuple #[.agg (evC (Ev.fault t) (.slice none 0 0)).toArray, .bool true]) (by simp [results, Tryd.results125, go_sem, evC, cmdC, Ev.fault, Cmd.none]) rfl ⟨rfl, (Below.refl _ _).alloc (Nat.le_refl _) _⟩
end Go.Proofs.YtifbcejekdhnlaaDoor
