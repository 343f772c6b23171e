/- A world, as the acts of WorldsSteps go. -/
import Derived.Test.YtadaeddklahjjaaWs
import Derived.Test.YtadaeddklahjjaaGBg
import Derived.Test.YtadaeddklahjjaaEpMath
namespace Go.Proofs.Ytadaeddklahjjaa
open Go.RowKit Go.Maps
set_option linter.unusedVariables false
/-- A world beside the blocks of G, behind k acts: c accesses, these notes. -/
structure WsAt (G : Nat → Prop) (X : World) (A : Ad) (V : Wv) (hd : Int) (k : Nat) (c : Int) (M : List Nv) : Prop where
  wd : WdG G X A V
  h : V.h = hd
  cnt : V.cnt = c
  c0 : 0 ≤ c
  c1 : c ≤ 1000 + (k : Int)
  it : V.I.length ≤ 40 + k
  m : V.M = M
  ml : M.length ≤ k
  ms : ∀ y, y ∈ M → y.1 ≤ c
  b0 : 0 ≤ V.c.budget
  b1 : V.c.budget ≤ 9223372036854775807
def WsI (G : Nat → Prop) (X : World) (A : Ad) (hd : Int) (k : Nat) (c : Int) (M : List Nv) : Prop := ∃ V, WsAt G X A V hd k c M
section
variable {G : Nat → Prop} {X Y : World} {A : Ad} {hd c : Int} {k : Nat} {M : List Nv}
theorem WdG.newB {w W : World} {V : Wv} (h : WdG G w A V) (hb : Below w.heap.size w W) : WdG G W A V := by
  obtain ⟨S, h1, h2, h3⟩ := h
  exact ⟨S, h1.new hb, h2, fun k g => Nat.lt_of_lt_of_le (h3 k g) hb.size⟩
theorem WdG.addB {w W : World} {V : Wv} {q : Nat} (h : WdG G w A V) (hb : Below w.heap.size w W) (hq : w.heap.size ≤ q) (hq2 : q < W.heap.size) : WdG (fun k => G k ∨ k = q) W A V := by
  obtain ⟨S, h1, h2, h3⟩ := h
  refine ⟨S, h1.new hb, fun k g => ?_, fun k g => ?_⟩
  · rcases g with g | rfl
    · exact h2 k g
    · intro s
      have := h1.lt _ s
      omega
  · rcases g with g | rfl
    · exact Nat.lt_of_lt_of_le (h3 k g) hb.size
    · exact hq2
theorem WdG.lessB {G' : Nat → Prop} {w : World} {V : Wv} (h : WdG G w A V) (hG : ∀ k, G' k → G k) : WdG G' w A V := by
  obtain ⟨S, h1, h2, h3⟩ := h
  exact ⟨S, h1, fun k g => h2 k (hG k g), fun k g => h3 k (hG k g)⟩
theorem WsI.box (h : WsI G X A hd k c M) : X.cell? ⟨A.p, 0, none⟩ = some (.pointer (some ⟨A.pc, 0, none⟩)) ∧ X.cell? ⟨A.p, 1, none⟩ = some (.pointer (some ⟨A.pi, 0, none⟩)) ∧ X.cell? ⟨A.p, 2, none⟩ = some (.pointer (some ⟨A.pn, 0, none⟩)) := by
  obtain ⟨V, ⟨S, h, -⟩, -⟩ := h
  exact ⟨h.box.c0, h.box.c1, h.box.c2⟩
theorem WsI.new (h : WsI G X A hd k c M) (hb : Below X.heap.size X Y) : WsI G Y A hd k c M := by
  obtain ⟨V, h⟩ := h
  exact ⟨V, h.wd.newB hb, h.h, h.cnt, h.c0, h.c1, h.it, h.m, h.ml, h.ms, h.b0, h.b1⟩
theorem WsI.add {q : Nat} (h : WsI G X A hd k c M) (hb : Below X.heap.size X Y) (hq : X.heap.size ≤ q) (hq2 : q < Y.heap.size) : WsI (fun k => G k ∨ k = q) Y A hd k c M := by
  obtain ⟨V, h⟩ := h
  exact ⟨V, h.wd.addB hb hq hq2, h.h, h.cnt, h.c0, h.c1, h.it, h.m, h.ml, h.ms, h.b0, h.b1⟩
theorem WsI.less {G' : Nat → Prop} (h : WsI G X A hd k c M) (hG : ∀ k, G' k → G k) : WsI G' X A hd k c M := by
  obtain ⟨V, h⟩ := h
  exact ⟨V, h.wd.lessB hG, h.h, h.cnt, h.c0, h.c1, h.it, h.m, h.ml, h.ms, h.b0, h.b1⟩
theorem WsI.next (h : WsI G X A hd k c M) : WsI G X A hd (k + 1) c M := by
  obtain ⟨V, h⟩ := h
  exact ⟨V, h.wd, h.h, h.cnt, h.c0, by have := h.c1; omega, by have := h.it; omega, h.m, by have := h.ml; omega, h.ms, h.b0, h.b1⟩
theorem ws_steps (h : WsI G X A hd k c M) : Calls Try.prog 10 #[.pointer (some ⟨A.p, 0, none⟩)] X fun e w' => e = .returned (.int .i64 c) ∧ X = w' := by
  obtain ⟨V, h⟩ := h
  obtain ⟨S, h1, -⟩ := h.wd
  rw [← h.cnt]
  exact wsteps h1
theorem ws_count (h : WsI G X A hd k c M) (hk : k ≤ 100) : Calls Try.prog 11 #[.pointer (some ⟨A.pn, 0, none⟩)] X fun e w' => e = .returned (.int .i64 (M.length : Int)) ∧ X = w' := by
  obtain ⟨V, h⟩ := h
  obtain ⟨S, h1, -⟩ := h.wd
  have := h.ml
  rw [← h.m]
  exact wncount h1 (by rw [h.m]; omega)
theorem ws_add (h : WsI G X A hd k c M) (hk : k ≤ 100) {a v : Int} (ha : isU a) :
    Calls Try.prog 12 #[.pointer (some ⟨A.pc, 0, none⟩), .int .u64 a, .int .u64 v] X fun e w' => (∃ z, e = .returned z) ∧ WsI G w' A hd (k + 1) (c + 1) M ∧ Kp G X w' := by
  obtain ⟨V, h⟩ := h
  obtain ⟨S, h1, h2, h3⟩ := h.wd
  have hc := h.cnt
  have hc1 := h.c1
  refine (wadd h1 ha (v := v) (by omega)).mono ?_
  rintro e w' ⟨rfl, hp⟩
  obtain ⟨q, kp⟩ := WdG.post h2 h3 hp
  exact ⟨⟨_, rfl⟩, ⟨_, q, h.h, by show V.cnt + 1 = _; omega, by have := h.c0; omega, by omega, by have := h.it; show V.I.length ≤ _; omega, h.m, by have := h.ml; omega, fun y hy => by have := h.ms y hy; omega, h.b0, h.b1⟩, kp⟩
theorem ws_item (h : WsI G X A hd k c M) (hk : k ≤ 100) (x0 x1 : ByteArray) (x2 x3 x4 x5 : Int) :
    Calls Try.prog 13 #[.pointer (some ⟨A.pi, 0, none⟩), .agg #[.string x0, .string x1, .int .u32 x2, .int .u64 x3, .int .i64 x4, .int .i64 x5]] X fun e w' => (∃ z, e = .returned z) ∧ WsI G w' A hd (k + 1) c M ∧ Kp G X w' := by
  obtain ⟨V, h⟩ := h
  obtain ⟨S, h1, h2, h3⟩ := h.wd
  have hi := h.it
  refine (witem h1 (by omega) x0 x1 x2 x3 x4 x5).mono ?_
  rintro e w' ⟨⟨z, rfl⟩, hp⟩
  obtain ⟨q, kp⟩ := WdG.post h2 h3 hp
  exact ⟨⟨_, rfl⟩, ⟨_, q, h.h, h.cnt, h.c0, by have := h.c1; omega, by show (V.I ++ [_]).length ≤ _; rw [List.length_append, List.length_singleton]; omega, h.m, by have := h.ml; omega, h.ms, h.b0, h.b1⟩, kp⟩
theorem ws_at (h : WsI G X A hd k c M) (hk : k ≤ 100) (ref : Int) :
    Calls Try.prog 14 #[.pointer (some ⟨A.pi, 0, none⟩), .int .i64 ref] X fun e w' => (∃ v, e = .returned v) ∧ Below X.heap.size X w' := by
  obtain ⟨V, h⟩ := h
  obtain ⟨S, h1, -⟩ := h.wd
  exact wat h1 (by have := h.it; omega) ref
theorem ws_note (h : WsI G X A hd k c M) (hk : k ≤ 100) (r b d e' v : Int) :
    Calls Try.prog 15 #[.pointer (some ⟨A.p, 0, none⟩), .int .u8 4, .int .i64 r, .agg #[.int .i64 b, .int .i64 d, .int .i64 e'], .int .i64 v] X fun e w' => e = .returned (.tuple #[]) ∧ WsI G w' A hd (k + 1) c (M ++ [(c, hd, 4, r, b, d, e', v)]) ∧ Kp G X w' := by
  obtain ⟨V, h⟩ := h
  obtain ⟨S, h1, h2, h3⟩ := h.wd
  have hml := h.ml
  have hadd : addL V.M (V.cnt, V.h, 4, r, b, d, e', v) = M ++ [(c, hd, 4, r, b, d, e', v)] := by
    rw [h.m, h.cnt, h.h]
    have hlow : lowN M (c, hd, 4, r, b, d, e', v) = false := by
      unfold lowN
      cases hl : M.getLast? with
      | none => rfl
      | some y => exact decide_eq_false (by have := h.ms y (List.mem_of_getLast? hl); show ¬ c < y.1; omega)
    have hF : addF M (c, hd, 4, r, b, d, e', v) = 0 := by
      unfold addF
      rw [if_neg (by rw [hlow]; simp [iskf, Nv.k]), if_neg (by omega)]
    unfold addL
    rw [if_pos hF]
  refine (wnote h1 (by rw [h.m]; omega) 4 r b d e' v).mono ?_
  rintro e w' ⟨rfl, hp⟩
  obtain ⟨q, kp⟩ := WdG.post h2 h3 hp
  refine ⟨rfl, ⟨_, q, h.h, h.cnt, h.c0, by have := h.c1; omega, by have := h.it; show V.I.length ≤ _; omega, hadd, by rw [List.length_append, List.length_singleton]; omega, fun y hy => ?_, h.b0, h.b1⟩, kp⟩
  rcases List.mem_append.1 hy with hy | hy
  · exact h.ms y hy
  · simp at hy
    subst hy
    exact Int.le_refl _
theorem ws_all (h : WsI G X A hd k c M) (hk : k ≤ 100) : Calls Try.prog 16 #[.pointer (some ⟨A.pn, 0, none⟩)] X (IsLst X 8 M.length (rowsN M)) := by
  obtain ⟨V, h⟩ := h
  obtain ⟨S, h1, -⟩ := h.wd
  have := h.ml
  have hm := wall h1 (by rw [h.m]; omega)
  rw [h.m] at hm
  exact hm
theorem ws_grows (h : WsI G X A hd k c M) : Calls Try.prog 17 #[.pointer (some ⟨A.p, 0, none⟩)] X fun e w' => (∃ v, e = .returned v) ∧ Below X.heap.size X w' := by
  obtain ⟨V, h⟩ := h
  obtain ⟨S, h1, -⟩ := h.wd
  exact (wgrows h1).mono fun e w' ⟨he, hb⟩ => ⟨⟨_, he⟩, hb⟩
theorem ws_full (h : WsI G X A hd k c M) : Calls Try.prog 18 #[.pointer (some ⟨A.p, 0, none⟩)] X fun e w' => (∃ v, e = .returned v) ∧ Below X.heap.size X w' := by
  obtain ⟨V, h⟩ := h
  obtain ⟨S, h1, -⟩ := h.wd
  exact (wfull h1 h.b0 h.b1).mono fun e w' ⟨he, hb⟩ => ⟨⟨_, he⟩, hb⟩
theorem ws_peek (h : WsI G X A hd k c M) {a : Int} (ha : isU a) : Calls Try.prog 19 #[.pointer (some ⟨A.pc, 0, none⟩), .int .u64 a] X fun e w' => (∃ v, e = .returned v) ∧ X = w' := by
  obtain ⟨V, h⟩ := h
  obtain ⟨S, h1, -⟩ := h.wd
  exact (wpeek h1 ha).mono fun e w' ⟨he, hb⟩ => ⟨⟨_, he⟩, hb⟩
/-- A tick, and what is told round it. -/
theorem ws_tick (h : WsI G X A hd k c M) (hk : k ≤ 100) : ∃ z t : Int, isU z ∧ isU t ∧ nowf t = (if nowf z < 16777215 then nowf z + 1 else 16777215) ∧
    (Calls Try.prog 19 #[.pointer (some ⟨A.pc, 0, none⟩), .int .u64 8] X fun e w' => e = .returned (.int .u64 z) ∧ X = w') ∧
    (∀ Y, Below X.heap.size X Y → Calls Try.prog 21 #[.pointer (some ⟨A.p, 0, none⟩)] Y fun e w' => e = .returned (.tuple #[]) ∧ WsI G w' A hd (k + 1) (c + 1) M ∧ Kp G Y w' ∧
      (Calls Try.prog 19 #[.pointer (some ⟨A.pc, 0, none⟩), .int .u64 8] w' fun e w2 => e = .returned (.int .u64 t) ∧ w' = w2) ∧
      (∀ Z, Below w'.heap.size w' Z → Calls Try.prog 22 #[.pointer (some ⟨A.pc, 0, none⟩)] Z fun e w2 => e = .returned (.agg #[.int .u8 3, .int .u64 8, .int .u64 z, .int .u64 t]) ∧ Below Z.heap.size Z w2)) := by
  obtain ⟨V, h⟩ := h
  obtain ⟨S, h1, h2, h3⟩ := h.wd
  have hc := h.cnt
  have hc1 := h.c1
  refine ⟨V.f 8, tickf (V.f 8), h1.rng ⟨by decide, by decide⟩, isU_tick _, tick_now _, wpeek h1 ⟨by decide, by decide⟩, fun Y hb => ?_⟩
  refine (wtick (h1.new hb) (by omega)).mono ?_
  rintro e w' ⟨rfl, hp⟩
  obtain ⟨q, kp⟩ := WdG.post h2 (fun k g => Nat.lt_of_lt_of_le (h3 k g) hb.size) hp
  obtain ⟨S', q1, -⟩ := id q
  refine ⟨rfl, ⟨_, q, h.h, by show V.cnt + 1 = _; omega, by have := h.c0; omega, by omega, by have := h.it; show V.I.length ≤ _; omega, h.m, by have := h.ml; omega, fun y hy => by have := h.ms y hy; omega, h.b0, h.b1⟩, kp, ?_, fun Z hz => ?_⟩
  · have := wpeek q1 (a := 8) ⟨by decide, by decide⟩
    rw [show (V.acc (upd V.f 8 (tickf (V.f 8))) 3 8 (V.f 8) (tickf (V.f 8))).f 8 = tickf (V.f 8) from by show upd V.f 8 (tickf (V.f 8)) 8 = _; exact upd_same _ _ _] at this
    exact this
  · exact wlast (q1.new hz)
end
/-- An act, as it came in. -/
theorem reads_acts {w : World} {t e : TypeId} {a : Option Addr} {len cap : Nat} (ht : Try.prog.underlying t = some (.slice e)) (hk : leaves Try.prog 9 e = some [.inl .u8, .inl .u8, .inl .i64, .inl .i64, .inl .i64, .inl .i64, .inl .i64, .inl .u64, .inl .u64, .inr (.inl true), .inr (.inl true), .inl .u32, .inl .u64, .inl .i64, .inl .i64]) (hc : Try.prog.cellsOf e = 15) (h : Reads Try.prog w t (.slice a len cap)) :
    len ≤ 9223372036854775807 ∧ ∃ b off, (0 < len → len ≤ cap ∧ a = some ⟨b, off, none⟩) ∧ ∀ i, i < len → ∃ (x0 x1 x2 x3 x4 x5 x6 x7 x8 : Int) (x9 x10 : ByteArray) (x11 x12 x13 x14 : Int), (0 ≤ x0 ∧ x0 ≤ 255) ∧ isU x7 ∧ isU x8 ∧ (w.cell? ⟨b, off + i * 15, none⟩ = some (.int .u8 x0) ∧ w.cell? ⟨b, off + i * 15 + 1, none⟩ = some (.int .u8 x1) ∧ w.cell? ⟨b, off + i * 15 + 2, none⟩ = some (.int .i64 x2) ∧ w.cell? ⟨b, off + i * 15 + 3, none⟩ = some (.int .i64 x3) ∧ w.cell? ⟨b, off + i * 15 + 4, none⟩ = some (.int .i64 x4) ∧ w.cell? ⟨b, off + i * 15 + 5, none⟩ = some (.int .i64 x5) ∧ w.cell? ⟨b, off + i * 15 + 6, none⟩ = some (.int .i64 x6) ∧ w.cell? ⟨b, off + i * 15 + 7, none⟩ = some (.int .u64 x7) ∧ w.cell? ⟨b, off + i * 15 + 8, none⟩ = some (.int .u64 x8) ∧ w.cell? ⟨b, off + i * 15 + 9, none⟩ = some (.string x9) ∧ w.cell? ⟨b, off + i * 15 + 10, none⟩ = some (.string x10) ∧ w.cell? ⟨b, off + i * 15 + 11, none⟩ = some (.int .u32 x11) ∧ w.cell? ⟨b, off + i * 15 + 12, none⟩ = some (.int .u64 x12) ∧ w.cell? ⟨b, off + i * 15 + 13, none⟩ = some (.int .i64 x13) ∧ w.cell? ⟨b, off + i * 15 + 14, none⟩ = some (.int .i64 x14)) := by
  rcases Reads.slice ht hk h with ⟨_, rfl, _⟩ | ⟨b, off, sp, rfl, h1, h2, h3, h4⟩
  · exact ⟨by omega, 0, 0, fun h => by omega, fun i hi => by omega⟩
  · refine ⟨by unfold maxLen at h2; omega, b, off, fun h => ⟨h1, by rw [h3 (by omega) (by omega)]⟩, fun i hi => ?_⟩
    obtain ⟨l, hl, hll, hx⟩ := h4 i (by omega)
    obtain ⟨_, _, rfl, ⟨x0, rfl, wx0⟩, g1⟩ := all2_cons hl
    obtain ⟨_, _, rfl, ⟨x1, rfl, -⟩, g2⟩ := all2_cons g1
    obtain ⟨_, _, rfl, ⟨x2, rfl, -⟩, g3⟩ := all2_cons g2
    obtain ⟨_, _, rfl, ⟨x3, rfl, -⟩, g4⟩ := all2_cons g3
    obtain ⟨_, _, rfl, ⟨x4, rfl, -⟩, g5⟩ := all2_cons g4
    obtain ⟨_, _, rfl, ⟨x5, rfl, -⟩, g6⟩ := all2_cons g5
    obtain ⟨_, _, rfl, ⟨x6, rfl, -⟩, g7⟩ := all2_cons g6
    obtain ⟨_, _, rfl, ⟨x7, rfl, wx7⟩, g8⟩ := all2_cons g7
    obtain ⟨_, _, rfl, ⟨x8, rfl, wx8⟩, g9⟩ := all2_cons g8
    obtain ⟨_, _, rfl, ⟨x9, rfl, -⟩, g10⟩ := all2_cons g9
    obtain ⟨_, _, rfl, ⟨x10, rfl, -⟩, g11⟩ := all2_cons g10
    obtain ⟨_, _, rfl, ⟨x11, rfl, -⟩, g12⟩ := all2_cons g11
    obtain ⟨_, _, rfl, ⟨x12, rfl, -⟩, g13⟩ := all2_cons g12
    obtain ⟨_, _, rfl, ⟨x13, rfl, -⟩, g14⟩ := all2_cons g13
    obtain ⟨_, _, rfl, ⟨x14, rfl, -⟩, g15⟩ := all2_cons g14
    obtain rfl := all2_nil g15
    rw [hc] at hx
    have b0 := bounds_u8 wx0
    have b7 := bounds_u64 wx7
    have b8 := bounds_u64 wx8
    exact ⟨x0, x1, x2, x3, x4, x5, x6, x7, x8, x9, x10, x11, x12, x13, x14, by omega, ⟨b7.1, by omega⟩, ⟨b8.1, by omega⟩, hx 0 _ rfl, hx 1 _ rfl, hx 2 _ rfl, hx 3 _ rfl, hx 4 _ rfl, hx 5 _ rfl, hx 6 _ rfl, hx 7 _ rfl, hx 8 _ rfl, hx 9 _ rfl, hx 10 _ rfl, hx 11 _ rfl, hx 12 _ rfl, hx 13 _ rfl, hx 14 _ rfl⟩
end Go.Proofs.Ytadaeddklahjjaa
