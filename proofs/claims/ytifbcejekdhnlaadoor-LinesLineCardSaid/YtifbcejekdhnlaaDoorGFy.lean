/- Feeds: like, of two events that are the same. -/
import Derived.Test.YtifbcejekdhnlaaDoorFw
import Derived.BigRegion
import Derived.Deep.RegionHeld
import Derived.IntWalk
import Derived.Laws.Slices
import Derived.Laws.Small
import Derived.Test.YtifbcejekdhnlaaDoorByO
namespace Go.Proofs.YtifbcejekdhnlaaDoor
open Go.RowKit Go.Maps
set_option linter.unusedVariables false

/-- Keys that can be read. -/
structure KyR (W : World) (kv : Value) (l : List (List UInt8)) : Prop where
  form : ∃ A c, kv = .slice A l.length c ∧ l.length ≤ c ∧ c ≤ maxLen ∧ ∀ k x, l[k]? = some x → ∃ g, A = some ⟨g, 0, none⟩ ∧ g < W.heap.size ∧ W.cell? ⟨g, k, none⟩ = some (.string ⟨x.toArray⟩)
theorem KyS.rd {W : World} {U : Nat → Prop} {kv : Value} {l : List (List UInt8)} (h : KyS W U kv l) : KyR W kv l := by
  rcases h with ⟨rfl, rfl⟩ | ⟨g, c, rfl, h1, h2, h3, h4, h5⟩
  · exact ⟨none, 0, rfl, by simp, by simp [maxLen], fun k x h => by simp at h⟩
  · exact ⟨_, c, rfl, h1, h2, fun k x hk => ⟨g, rfl, h4, by have := h5 k x hk; rwa [Nat.zero_add] at this⟩⟩
theorem belowNf {B : Nat} {a w : World} (h : Below B a w) (n : Nat) : Below B a (w.drewN n) := by
  induction n with
  | zero => exact h
  | succ n ih => exact ih.drew
end Go.Proofs.YtifbcejekdhnlaaDoor
/- Next: Feeds: a slice that is cut; events behind events; a feed beside a list of events. -/
namespace Go.Proofs.YtifbcejekdhnlaaDoor
open Go.RowKit Go.Maps
set_option linter.unusedVariables false

theorem add_zero' (A : Option Addr) : A.map (·.add 0) = A := by
  cases A with
  | none => rfl
  | some a => simp [Addr.add]
/-- The address a cut begins at. -/
def cutA (A : Option Addr) (n c : Nat) : Option Addr := if c = n then A else A.map (·.add n)
theorem run_size_one {P : Program} {e : TypeId} (w : World) (hsz : (P.info? e).map (·.size) = some 1) : (sizeOf e).run P w = .ok 1 w := by
  cases h : P.info? e with
  | none => simp [h] at hsz
  | some i =>
    have : i.size = 1 := by simpa [h] using hsz
    simp [sizeOf, typeInfo, h, this]
theorem wpList_cut_hi {P : Program} {ops : Array Oper} {rest : List Oper} {o : Oper} {a : Act} {w : World} {Q : Exit → Act → World → Prop} (hgd : o.guard = none) (t e : TypeId) (x y : Operand) (ho : o.op = .slice t x none (some y) none) (ht : P.underlying t = some (.slice e)) (hsz : (P.info? e).map (·.size) = some 1)
    (A : Option Addr) (m c n : Nat) (hx : a.eval x = .slice A m c) (hy : a.eval y = .int .i64 n) (hn : n ≤ c)
    (hK : wpList P ops Q rest (a.put o.dst (.slice A n c)) w) : wpList P ops Q (o :: rest) a w := by
  have hel : P.elem t = e := by simp [Program.elem, ht]
  refine wpList_plain hgd fun K hK' => ?_
  have hr : (Instr.sliceAt t (.slice A m c) none (some (.int .i64 (n : Int))) none).run P w = .ok (.slice A n c) w := by
    rw [run_sliceAt_slice w t _ _ _ _ (by rw [hel]; exact ht), run_slice_h w t A m c (by rw [hel]; exact ht) .i64 (n : Int) (by omega) (by omega), hel]
    simp only [run_size_one w hsz, Result.andThen, sliced, Int.toNat_natCast, Nat.zero_mul, add_zero', ite_self, Nat.sub_zero]
  unfold Oper.wp execOp
  simp only [ho, Sem.run_bind, Sem.run_pure, Result.andThen_ok, Option.map_some, Option.map_none, hx, hy, hr]
  exact hK' _ _ hK
theorem wpList_cut_lo {P : Program} {ops : Array Oper} {rest : List Oper} {o : Oper} {a : Act} {w : World} {Q : Exit → Act → World → Prop} (hgd : o.guard = none) (t e : TypeId) (x y : Operand) (ho : o.op = .slice t x (some y) none none) (ht : P.underlying t = some (.slice e)) (hsz : (P.info? e).map (·.size) = some 1)
    (A : Option Addr) (m c n : Nat) (hx : a.eval x = .slice A m c) (hy : a.eval y = .int .i64 n) (hn : n ≤ m)
    (hK : wpList P ops Q rest (a.put o.dst (.slice (cutA A n c) (m - n) (c - n))) w) : wpList P ops Q (o :: rest) a w := by
  have hel : P.elem t = e := by simp [Program.elem, ht]
  refine wpList_plain hgd fun K hK' => ?_
  have hr : (Instr.sliceAt t (.slice A m c) (some (.int .i64 (n : Int))) none none).run P w = .ok (.slice (cutA A n c) (m - n) (c - n)) w := by
    rw [run_sliceAt_slice w t _ _ _ _ (by rw [hel]; exact ht), run_slice_l w t A m c (by rw [hel]; exact ht) .i64 (n : Int) (by omega) (by omega), hel]
    simp only [run_size_one w hsz, Result.andThen, sliced, Int.toNat_natCast, Nat.mul_one, cutA]
  unfold Oper.wp execOp
  simp only [ho, Sem.run_bind, Sem.run_pure, Result.andThen_ok, Option.map_some, Option.map_none, hx, hy, hr]
  exact hK' _ _ hK
theorem wpList_min {P : Program} {ops : Array Oper} {rest : List Oper} {o : Oper} {a : Act} {w : World} {Q : Exit → Act → World → Prop} (hgd : o.guard = none) (t t' : TypeId) (x y : Operand) (ho : o.op = .call { callee := .builtin .min, args := #[x, y], argTypes := #[t, t'] })
    (m k n : Nat) (hx : a.eval x = .int .i64 m) (hy : a.eval y = .int .i64 k) (hn : min m k = n)
    (hK : wpList P ops Q rest (a.put o.dst (.int .i64 n)) w) : wpList P ops Q (o :: rest) a w := by
  refine wpList_plain hgd fun K hK' => ?_
  have e : (if (k : Int) < (m : Int) then (k : Int) else (m : Int)) = (n : Int) := by
    subst hn
    split <;> omega
  unfold Oper.wp execOp
  simp only [ho, resolve, invoke, builtin, Sem.run_bind, Sem.run_pure, Result.andThen_ok, List.map_toArray, List.map_cons, List.map_nil, hx, hy, run_min_int2, e]
  exact hK' _ _ hK
theorem Rd.past {w : World} {B : Nat} {A : Option Addr} {l : List UInt8} (h : Rd w B A l) (n c : Nat) (hc : l.length ≤ c) : Rd w B (cutA A n c) (l.drop n) := by
  intro h0
  have hl : n < l.length := by simp at h0; omega
  obtain ⟨g, off, rfl, hg, hcell⟩ := h (by omega)
  have : cutA (some ⟨g, off, none⟩) n c = some ⟨g, off + n, none⟩ := by
    unfold cutA
    rw [if_neg (by omega), Option.map_some, Addr.add_lit]
  rw [this]
  exact (Rd.add (fun _ => ⟨g, off, rfl, hg, hcell⟩) n) h0
/-- Events behind events. -/
theorem wpList_append_ev {P : Program} (w : World) {ops : Array Oper} {rest : List Oper} {o : Oper} {a : Act} {Q : Exit → Act → World → Prop} (hgd : o.guard = none) (s x : Operand) (t : TypeId)
    (ho : o.op = .call { callee := .builtin .append, args := #[s, x], argTypes := #[t, t] })
    (base : Nat) (e : TypeId) (z : Value) (size bytes : Nat) (ht : P.underlying t = some (.slice e)) (hinfo : (P.info? e).map (fun i => (i.zero, i.size, i.bytes)) = some (some z, size, bytes)) (hzs : z.cells.size = size) (hsz : 0 < size)
    (v : Value) (n : Nat) (xs : List Value) (hs : a.eval s = v) (hown : w.ownsRow base e size v n xs)
    (A : Option Addr) (m : Nat) (news : List Value) (hx : a.eval x = .slice A m m) (hl : news.length = m * size) (hr : 0 < m → ∃ g, A = some ⟨g, 0, none⟩ ∧ ∀ j u, news[j]? = some u → w.cell? ⟨g, j, none⟩ = some u) (h1 : ∀ u ∈ news, u.oneCell' = true)
    (hlen : n + m ≤ 1048576) (hby : bytes ≤ 65536) (hbase : base ≤ w.heap.size)
    (h : ∀ v' w', w'.ownsRow base e size v' (n + m) (xs ++ news) → w.grownBy w' v.ownBlock → (v' = .slice none 0 0 ↔ v = .slice none 0 0 ∧ m = 0) → (v'.ownBlock = v.ownBlock ∨ v'.ownBlock = some w.heap.size) → wpList P ops Q rest (a.put o.dst v') w') : wpList P ops Q (o :: rest) a w := by
  obtain ⟨i0, hi, hz0, hz1, hz2⟩ := info_parts hinfo
  cases A with
  | none =>
    have hm : m = 0 := by
      rcases Nat.eq_zero_or_pos m with h | h
      · exact h
      · obtain ⟨g, e, _⟩ := hr h; simp at e
    subst hm
    have hnn : news = [] := List.eq_nil_of_length_eq_zero (by simpa using hl)
    subst hnn
    refine wpList_append_own_none hgd s x t ho base e i0 size ht hi v _ _ hs hown hx ?_
    exact h v w (by simpa using hown) (World.grownBy.refl w _) (by simp) (.inl rfl)
  | some ad =>
    have hcell : ∀ j u, news[j]? = some u → w.cell? (ad.add j) = some u := by
      intro j u hj
      have hm : 0 < m := by
        rcases Nat.eq_zero_or_pos m with h | h
        · subst h
          have hnn : news = [] := List.eq_nil_of_length_eq_zero (by simpa using hl)
          subst hnn
          simp at hj
        · exact h
      obtain ⟨g, e, hc⟩ := hr hm
      injection e with e
      subst e
      rw [Addr.add_lit, Nat.zero_add]
      exact hc j u hj
    refine wpList_append_own_at w hgd s x t ho base e i0 z size bytes ht hi hz0 hz1 hz2 hzs hsz v n xs hs hown ad m m news hx hl hcell h1 (by unfold maxLen; omega) ?_ hbase fun v' w' h1 h2 h3 h4 => h v' w' h1 h2 h3 h4
    calc (n + m) * bytes ≤ 1048576 * 65536 := Nat.mul_le_mul hlen hby
      _ ≤ 140737488355328 := by decide
theorem rowsE_app : ∀ (ps qs : List (Ev × Value)), rowsE (ps ++ qs) = rowsE ps ++ rowsE qs
  | [], qs => rfl
  | p :: ps, qs => by
    show evC p.1 p.2 ++ rowsE (ps ++ qs) = (evC p.1 p.2 ++ rowsE ps) ++ rowsE qs
    rw [rowsE_app ps qs, List.append_assoc]
theorem EvAt.cells {W : World} {U : Nat → Prop} {B : Nat} {A : Option Addr} {m : Nat} {ps : List (Ev × Value)} (h : EvAt W U B (.slice A m m) ps) : m = ps.length ∧ (0 < m → ∃ g, A = some ⟨g, 0, none⟩ ∧ ∀ j u, (rowsE ps)[j]? = some u → W.cell? ⟨g, j, none⟩ = some u) := by
  obtain ⟨a, e⟩ := h.form
  injection e with e1 e2 _
  subst e1
  refine ⟨e2, fun h0 => ?_⟩
  obtain ⟨_, ⟨_, h1⟩ | ⟨g, cap, hv, _, _, _, _, hx⟩⟩ := h.lst
  · omega
  · injection hv with e3
    exact ⟨g, e3, fun j u hj => (hx j u hj).1⟩
theorem EvAt.ones {W : World} {U : Nat → Prop} {B : Nat} {v : Value} {ps : List (Ev × Value)} (h : EvAt W U B v ps) : ∀ u ∈ rowsE ps, u.oneCell' = true := by
  have : ∀ ps : List (Ev × Value), (∀ p ∈ ps, p.2.oneCell' = true) → ∀ u ∈ rowsE ps, u.oneCell' = true := by
    intro ps
    induction ps with
    | nil => intro _ u hu; simp [rowsE] at hu
    | cons p ps ih =>
      intro hp u hu
      have hu : u ∈ evC p.1 p.2 ++ rowsE ps := hu
      rcases List.mem_append.mp hu with hu | hu
      · exact Array.all_eq_true_iff_forall_mem.1 (evC_one (e := p.1) (hp p (by simp))) u (by simpa using hu)
      · exact ih (fun x hx => hp x (by simp [hx])) u hu
  exact this ps fun p hp => (h.keys p hp).one
/-- A feed q with its blocks U beside a list of events v, both of them of W1's time on. -/
structure Cts (W1 : World) (B q : Nat) (U : Nat → Prop) (s : Fst) (hv kv v : Value) (ps : List (Ev × Value)) (W : World) : Prop where
  fd : FdAt W q U s hv kv
  row : W.ownsRow B 67 13 v ps.length (rowsE ps)
  keys : ∀ p ∈ ps, KyS W U p.2 p.1.cmd.keys
  own : ∀ g, v.ownBlock = some g → ¬ U g
  nil : ps = [] → v = .slice none 0 0
  base : Below W1.heap.size W1 W
  up : ∀ k, U k → W1.heap.size ≤ k
  at_ : W1.heap.size ≤ B
  size : B ≤ W.heap.size
theorem Cts.in_ {W1 W W' : World} {B q : Nat} {U U' : Nat → Prop} {s s' : Fst} {hv kv v hv' kv' : Value} {ps : List (Ev × Value)} (h : Cts W1 B q U s hv kv v ps W) (hf : FdAt W' q U' s' hv' kv') (hk : Keeps U W W') (hg : ∀ k, U' k → U k ∨ W.heap.size ≤ k) : Cts W1 B q U' s' hv' kv' v ps W' := by
  have hlt : ∀ g, v.ownBlock = some g → g < W.heap.size := fun g e => (h.row.lt g e).2
  refine ⟨hf, Keeps.ownsRow h.row hk h.own, fun p hp => (h.keys p hp).turn ⟨hk, fun k u => (hg k u).imp id fun e => ⟨e, hf.lt k u⟩⟩, fun g e u => ?_, h.nil, ?_, fun k u => ?_, h.at_, Nat.le_trans h.size hk.size⟩
  · rcases hg g u with u | u
    · exact h.own g e u
    · have := hlt g e; omega
  · exact h.base.trans ((hk.mono (T := fun k => W1.heap.size ≤ k) (fun k _ u => h.up k u)).to_below (fun k _ u => u) h.base.size)
  · rcases hg k u with u | u
    · exact h.up k u
    · have := h.base.size; omega
theorem Cts.head {W1 W : World} {B q : Nat} {U : Nat → Prop} {s : Fst} {hv kv v : Value} {ps : List (Ev × Value)} (h : Cts W1 B q U s hv kv v ps W) : ∀ g, v.ownBlock = some g → ¬ U g ∧ ∀ x, W.cell? ⟨g, 0, none⟩ ≠ some (.string x) := by
  intro g hg
  refine ⟨h.own g hg, fun x e => ?_⟩
  obtain ⟨a, c, rfl, _⟩ := row_slice h.row
  cases ps with
  | nil =>
    have := h.nil rfl
    rw [this] at hg
    simp [Value.ownBlock] at hg
  | cons p ps =>
    rcases h.row.2 with ⟨he, h0⟩ | ⟨g', cap, cur, he, _⟩
    · simp at h0
    · injection he with e1
      subst e1
      have : g' = g := by simpa [Value.ownBlock] using hg
      subst this
      have := h.row.cells (g := g') rfl 0 (.int .u8 p.1.cmd.verb) (by rfl)
      rw [Addr.add_lit] at this
      rw [e] at this
      simp at this
theorem Cts.app {W1 W W' : World} {B q : Nat} {U : Nat → Prop} {s : Fst} {hv kv v v' : Value} {ps qs : List (Ev × Value)} (h : Cts W1 B q U s hv kv v ps W) (hq : ∀ p ∈ qs, KyS W U p.2 p.1.cmd.keys) (hown : W'.ownsRow B 67 13 v' (ps.length + qs.length) (rowsE ps ++ rowsE qs)) (hgr : W.grownBy W' v.ownBlock) (hnil : v' = .slice none 0 0 ↔ v = .slice none 0 0 ∧ qs.length = 0) (hat : v'.ownBlock = v.ownBlock ∨ v'.ownBlock = some W.heap.size) : Cts W1 B q U s hv kv v' (ps ++ qs) W' := by
  have hk : Keeps (fun k => v.ownBlock = some k) W W' := (Keeps.refl _ W).grown hgr fun k e => .inl e
  have hT : ∀ g, v.ownBlock = some g → ¬ U g ∧ ∀ x, W.cell? ⟨g, 0, none⟩ ≠ some (.string x) := h.head
  refine ⟨h.fd.other hk hT, ?_, fun p hp => ?_, fun g e u => ?_, fun e => ?_, ?_, h.up, h.at_, Nat.le_trans h.size hk.size⟩
  · rw [List.length_append, rowsE_app]; exact hown
  · rcases List.mem_append.mp hp with hp | hp
    · exact (h.keys p hp).other hk fun g t => (hT g t).2
    · exact (hq p hp).other hk fun g t => (hT g t).2
  · rcases hat with e' | e'
    · exact h.own g (by rw [← e', e]) u
    · rw [e] at e'
      injection e' with e'
      have := h.fd.lt g u
      omega
  · obtain ⟨e1, e2⟩ := List.append_eq_nil_iff.mp e
    exact hnil.2 ⟨h.nil e1, by rw [e2]; rfl⟩
  · exact h.base.grown hgr h.base.size fun k e => by
      have := (h.row.lt k e).1
      have := h.at_
      omega
end Go.Proofs.YtifbcejekdhnlaaDoor
/- Next: FeedsCuts: bytes in chunks are told as bytes in one. -/
namespace Go.Proofs.YtifbcejekdhnlaaDoor
open Go.RowKit Go.Maps
set_option linter.unusedVariables false

theorem cuts_next (L : List UInt8) (r n : Nat) : feedF Fst.new (L.take (r + n)) = ((feedF (feedF Fst.new (L.take r)).1 ((L.drop r).take n)).1, (feedF Fst.new (L.take r)).2 ++ (feedF (feedF Fst.new (L.take r)).1 ((L.drop r).take n)).2) := by
  rw [List.take_add, feedF_append]
theorem part_len (L : List UInt8) (r n : Nat) (h : n ≤ L.length - r) : ((L.drop r).take n).length = n := by
  rw [List.length_take, List.length_drop]; omega
/-- A chunk goes in. -/
theorem chunkw {w W1 W : World} {B q r n c : Nat} {U : Nat → Prop} {hv kv v : Value} {ps : List (Ev × Value)} {L : List UInt8} {A : Option Addr} (h : Cts W1 B q U (feedF Fst.new (L.take r)).1 hv kv v ps W) (hp : ps.map Prod.fst = (feedF Fst.new (L.take r)).2) (hL : L.length ≤ 6000) (hr : r ≤ L.length) (hn : n ≤ L.length - r) (hc : n ≤ c) (hcm : c ≤ maxLen) (hrd : Rd w w.heap.size A (L.drop r)) (hb : Below w.heap.size w W1) :
    Calls Tryd.prog 27 #[.pointer (some ⟨q, 0, none⟩), .slice A n c] W fun e W' => ∃ U hv kv a qs, e = .returned (.slice a (List.length qs) (List.length qs)) ∧ Cts W1 B q U (feedF Fst.new (L.take (r + n))).1 hv kv v ps W' ∧ (ps ++ qs).map Prod.fst = (feedF Fst.new (L.take (r + n))).2 ∧ EvAt W' U W.heap.size (.slice a qs.length qs.length) qs := by
  have hlen := part_len L r n hn
  have hrw : Rd W W.heap.size A ((L.drop r).take n) := by
    have h1 : Rd w w.heap.size A ((L.drop r).take n) := hrd.cut n
    have h2 : Rd W w.heap.size A ((L.drop r).take n) := h1.below (hb.trans (h.base.mono hb.size)) (Nat.le_refl _)
    exact h2.mono (Nat.le_trans hb.size h.base.size)
  have := inw q U _ hv kv A c ((L.drop r).take n) W h.fd (FOk.new.feed (L.take r)) (by rw [hlen]; exact ⟨hc, hcm⟩) (by rw [hlen]; omega) hrw (by
    intro g o e h0 u
    obtain ⟨g', o', e', hg, _⟩ := (hrd.cut n) h0
    rw [e] at e'
    injection e' with e'
    injection e' with e1 _
    subst e1
    have := h.up g u
    have := hb.size
    omega)
  rw [hlen] at this
  refine this.mono ?_
  rintro e W' ⟨U', hv', kv', v', qs, rfl, hf, hk, hg, hq, hev⟩
  have hc' := h.in_ hf hk hg
  obtain ⟨a, rfl⟩ := hev.form
  refine ⟨U', hv', kv', a, qs, rfl, ?_, ?_, hev⟩
  · rw [cuts_next]; exact hc'
  · rw [cuts_next, List.map_append, hp, hq]
theorem cut_rest {A : Option Addr} {l r n c : Nat} : Value.slice A (l - r - n) (c - n) = .slice A (l - (r + n)) (c - n) := by
  rw [Nat.sub_sub]
theorem KyR.on {W W' : World} {kv : Value} {l : List (List UInt8)} (h : KyR W kv l) (hb : Below W.heap.size W W') : KyR W' kv l := by
  obtain ⟨A, c, e, h1, h2, h3⟩ := h.form
  refine ⟨A, c, e, h1, h2, fun k x hx => ?_⟩
  obtain ⟨g, e2, hg, hc⟩ := h3 k x hx
  exact ⟨g, e2, Nat.lt_of_lt_of_le hg hb.size, (hb.cell (p := ⟨g, k, none⟩) hg).trans hc⟩
/-- Events that can be read: of whatever list. -/
structure EvR (W : World) (v : Value) (ps : List (Ev × Value)) : Prop where
  form : ∃ A c, v = .slice A ps.length c ∧ ps.length ≤ c ∧ c ≤ maxLen ∧ (0 < ps.length → ∃ g, A = some ⟨g, 0, none⟩ ∧ g < W.heap.size ∧ ∀ j u, (rowsE ps)[j]? = some u → W.cell? ⟨g, j, none⟩ = some u)
  keys : ∀ p ∈ ps, KyR W p.2 p.1.cmd.keys
theorem EvR.on {W W' : World} {v : Value} {ps : List (Ev × Value)} (h : EvR W v ps) (hb : Below W.heap.size W W') : EvR W' v ps := by
  obtain ⟨A, c, e, h1, h2, h3⟩ := h.form
  refine ⟨⟨A, c, e, h1, h2, fun h0 => ?_⟩, fun p hp => (h.keys p hp).on hb⟩
  obtain ⟨g, e2, hg, hc⟩ := h3 h0
  exact ⟨g, e2, Nat.lt_of_lt_of_le hg hb.size, fun j u hu => (hb.cell (p := ⟨g, j, none⟩) hg).trans (hc j u hu)⟩
theorem EvAt.rd {W : World} {U : Nat → Prop} {B : Nat} {v : Value} {ps : List (Ev × Value)} (h : EvAt W U B v ps) (hm : ps.length ≤ 1048576) : EvR W v ps := by
  obtain ⟨a, rfl⟩ := h.form
  refine ⟨⟨a, _, rfl, Nat.le_refl _, by unfold maxLen; omega, fun h0 => ?_⟩, fun p hp => (h.keys p hp).rd⟩
  obtain ⟨g, e, hc⟩ := h.cells.2 h0
  refine ⟨g, e, ?_, hc⟩
  obtain ⟨p, hp⟩ : ∃ p, ps[0]? = some p := ⟨_, List.getElem?_eq_getElem h0⟩
  cases ps with
  | nil => simp at h0
  | cons p ps => exact World.block_lt_of_cell? _ _ (hc 0 _ rfl)
theorem Cts.rd {W1 W : World} {B q : Nat} {U : Nat → Prop} {s : Fst} {hv kv v : Value} {ps : List (Ev × Value)} (h : Cts W1 B q U s hv kv v ps W) : EvR W v ps := by
  refine ⟨?_, fun p hp => (h.keys p hp).rd⟩
  obtain ⟨a, c, rfl, h1, h2, h3⟩ := row_slice h.row
  refine ⟨a, c, rfl, h1, h2, fun h0 => ?_⟩
  rcases h.row.2 with ⟨he, h4⟩ | ⟨g, cap, cur, he, _⟩
  · omega
  · injection he with e1
    subst e1
    have hc : ∀ j u, (rowsE ps)[j]? = some u → W.cell? ⟨g, j, none⟩ = some u := fun j u hu => by
      have := h.row.cells (g := g) rfl j u hu
      rwa [Addr.add_lit, Nat.zero_add] at this
    refine ⟨g, rfl, ?_, hc⟩
    cases ps with
    | nil => simp at h0
    | cons p ps => exact World.block_lt_of_cell? _ _ (hc 0 _ rfl)
theorem rowsE_at : ∀ (ps : List (Ev × Value)) (k j : Nat) (p : Ev × Value) (u : Value), ps[k]? = some p → (evC p.1 p.2)[j]? = some u → (rowsE ps)[k * 13 + j]? = some u
  | [], k, j, p, u, h, hu => by simp at h
  | q :: ps, 0, j, p, u, h, hu => by
    simp only [List.getElem?_cons_zero, Option.some.injEq] at h
    subst h
    show (evC q.1 q.2 ++ rowsE ps)[0 * 13 + j]? = some u
    rw [Nat.zero_mul, Nat.zero_add, List.getElem?_append_left]
    · exact hu
    · exact (List.getElem?_eq_some_iff.mp hu).1
  | q :: ps, k + 1, j, p, u, h, hu => by
    simp only [List.getElem?_cons_succ] at h
    show (evC q.1 q.2 ++ rowsE ps)[(k + 1) * 13 + j]? = some u
    rw [List.getElem?_append_right (by rw [evC_len]; omega), evC_len, show (k + 1) * 13 + j - 13 = k * 13 + j by omega]
    exact rowsE_at ps k j p u h hu
/-- The cells of an event in a list. -/
theorem ev_of {ps : List (Ev × Value)} {k : Nat} {p : Ev × Value} {W : World} {g : Nat} (hp : ps[k]? = some p) (h : ∀ j u, (rowsE ps)[j]? = some u → W.cell? ⟨g, j, none⟩ = some u) : ∀ j u, (evC p.1 p.2)[j]? = some u → W.cell? ⟨g, k * 13 + j, none⟩ = some u :=
  fun j u hu => h _ u (rowsE_at ps k j p u hp hu)
end Go.Proofs.YtifbcejekdhnlaaDoor
