/- An act of chapter 10's law, in a pair of worlds. -/
import Derived.Test.YthlebfiedejhhaaGreatPwC
import Derived.Test.YthlebfiedejhhaaGreatPwB
import Derived.Test.YthlebfiedejhhaaGreatGBg
namespace Go.Proofs.YthlebfiedejhhaaGreat
open Go.RowKit Go.Maps
set_option linter.unusedVariables false
/-- An act, as it lies. -/
def Act10 (w : World) (b o : Nat) : Prop := ∃ (x0 x1 x2 x3 x4 x5 x6 x7 x8 : Int) (x9 x10 : ByteArray) (x11 x12 x13 x14 : Int), (0 ≤ x0 ∧ x0 ≤ 255) ∧ (0 ≤ x1 ∧ x1 ≤ 255) ∧ isU x7 ∧ isU x8 ∧ x9.size ≤ maxLen ∧ x10.size ≤ maxLen ∧ w.cell? ⟨b, o, none⟩ = some (.int .u8 x0) ∧ w.cell? ⟨b, o + 1, none⟩ = some (.int .u8 x1) ∧ w.cell? ⟨b, o + 2, none⟩ = some (.int .i64 x2) ∧ w.cell? ⟨b, o + 3, none⟩ = some (.int .i64 x3) ∧ w.cell? ⟨b, o + 4, none⟩ = some (.int .i64 x4) ∧ w.cell? ⟨b, o + 5, none⟩ = some (.int .i64 x5) ∧ w.cell? ⟨b, o + 6, none⟩ = some (.int .i64 x6) ∧ w.cell? ⟨b, o + 7, none⟩ = some (.int .u64 x7) ∧ w.cell? ⟨b, o + 8, none⟩ = some (.int .u64 x8) ∧ w.cell? ⟨b, o + 9, none⟩ = some (.string x9) ∧ w.cell? ⟨b, o + 10, none⟩ = some (.string x10) ∧ w.cell? ⟨b, o + 11, none⟩ = some (.int .u32 x11) ∧ w.cell? ⟨b, o + 12, none⟩ = some (.int .u64 x12) ∧ w.cell? ⟨b, o + 13, none⟩ = some (.int .i64 x13) ∧ w.cell? ⟨b, o + 14, none⟩ = some (.int .i64 x14)
theorem reads_acts10 {w : World} {t e : TypeId} {a : Option Addr} {len cap : Nat} (ht : Tryz.prog.underlying t = some (.slice e)) (hk : leaves Tryz.prog 9 e = some [.inl .u8, .inl .u8, .inl .i64, .inl .i64, .inl .i64, .inl .i64, .inl .i64, .inl .u64, .inl .u64, .inr (.inl true), .inr (.inl true), .inl .u32, .inl .u64, .inl .i64, .inl .i64]) (hc : Tryz.prog.cellsOf e = 15) (h : Reads Tryz.prog w t (.slice a len cap)) :
    len ≤ 9223372036854775807 ∧ ∃ b off, (0 < len → len ≤ cap ∧ a = some ⟨b, off, none⟩) ∧ ∀ i, i < len → Act10 w b (off + i * 15) := by
  rcases Reads.slice ht hk h with ⟨_, rfl, _⟩ | ⟨b, off, sp, rfl, h1, h2, h3, h4⟩
  · exact ⟨by omega, 0, 0, fun h => by omega, fun i hi => by omega⟩
  · refine ⟨by unfold maxLen at h2; omega, b, off, fun h => ⟨h1, by rw [h3 (by omega) (by omega)]⟩, fun i hi => ?_⟩
    obtain ⟨l, hl, hll, hx⟩ := h4 i (by omega)
    obtain ⟨_, _, rfl, ⟨x0, rfl, y0⟩, g0⟩ := all2_cons hl
    obtain ⟨_, _, rfl, ⟨x1, rfl, y1⟩, g1⟩ := all2_cons g0
    obtain ⟨_, _, rfl, ⟨x2, rfl, y2⟩, g2⟩ := all2_cons g1
    obtain ⟨_, _, rfl, ⟨x3, rfl, y3⟩, g3⟩ := all2_cons g2
    obtain ⟨_, _, rfl, ⟨x4, rfl, y4⟩, g4⟩ := all2_cons g3
    obtain ⟨_, _, rfl, ⟨x5, rfl, y5⟩, g5⟩ := all2_cons g4
    obtain ⟨_, _, rfl, ⟨x6, rfl, y6⟩, g6⟩ := all2_cons g5
    obtain ⟨_, _, rfl, ⟨x7, rfl, y7⟩, g7⟩ := all2_cons g6
    obtain ⟨_, _, rfl, ⟨x8, rfl, y8⟩, g8⟩ := all2_cons g7
    obtain ⟨_, _, rfl, ⟨x9, rfl, y9⟩, g9⟩ := all2_cons g8
    obtain ⟨_, _, rfl, ⟨x10, rfl, y10⟩, g10⟩ := all2_cons g9
    obtain ⟨_, _, rfl, ⟨x11, rfl, y11⟩, g11⟩ := all2_cons g10
    obtain ⟨_, _, rfl, ⟨x12, rfl, y12⟩, g12⟩ := all2_cons g11
    obtain ⟨_, _, rfl, ⟨x13, rfl, y13⟩, g13⟩ := all2_cons g12
    obtain ⟨_, _, rfl, ⟨x14, rfl, y14⟩, g14⟩ := all2_cons g13
    obtain rfl := all2_nil g14
    rw [hc] at hx
    have b0 := bounds_u8 y0
    have b1 := bounds_u8 y1
    have b7 := bounds_u64 y7
    have b8 := bounds_u64 y8
    exact ⟨x0, x1, x2, x3, x4, x5, x6, x7, x8, x9, x10, x11, x12, x13, x14, by omega, by omega, ⟨b7.1, by omega⟩, ⟨b8.1, by omega⟩, y9, y10, hx 0 _ rfl, hx 1 _ rfl, hx 2 _ rfl, hx 3 _ rfl, hx 4 _ rfl, hx 5 _ rfl, hx 6 _ rfl, hx 7 _ rfl, hx 8 _ rfl, hx 9 _ rfl, hx 10 _ rfl, hx 11 _ rfl, hx 12 _ rfl, hx 13 _ rfl, hx 14 _ rfl⟩
theorem Act10.new {w W : World} {b o : Nat} (h : Act10 w b o) (hb : Below w.heap.size w W) : Act10 W b o := by
  obtain ⟨x0, x1, x2, x3, x4, x5, x6, x7, x8, x9, x10, x11, x12, x13, x14, r1, r2, r3, r4, r5, r6, c0, c1, c2, c3, c4, c5, c6, c7, c8, c9, c10, c11, c12, c13, c14⟩ := h
  have up : ∀ {o v}, w.cell? ⟨b, o, none⟩ = some v → W.cell? ⟨b, o, none⟩ = some v := fun {o v} hc => (hb.cell (p := ⟨b, o, none⟩) (World.block_lt_of_cell? _ _ hc)).trans hc
  exact ⟨x0, x1, x2, x3, x4, x5, x6, x7, x8, x9, x10, x11, x12, x13, x14, r1, r2, r3, r4, r5, r6, up c0, up c1, up c2, up c3, up c4, up c5, up c6, up c7, up c8, up c9, up c10, up c11, up c12, up c13, up c14⟩
/-- A pair beside blocks that stand, behind so many acts. -/
structure WpI (G : Nat → Prop) (w : World) (A R : Ad) (V : Wv) (k : Nat) : Prop where
  pg : PwG G w A R V
  ml : V.M.length ≤ k
  kd : ∀ x, x ∈ V.M → 0 ≤ x.k ∧ x.k ≤ 255
  il : V.I.length ≤ 40 + k
  cc : V.cnt ≤ 1000 + (k : Int)
  bu : 0 ≤ V.c.budget ∧ V.c.budget ≤ 65536
section
variable {G G' : Nat → Prop} {w W : World} {A R : Ad} {V : Wv} {k : Nat}
theorem WpI.new (h : WpI G w A R V k) (hb : Below w.heap.size w W) : WpI G W A R V k := ⟨h.pg.new hb, h.ml, h.kd, h.il, h.cc, h.bu⟩
theorem WpI.less (h : WpI G w A R V k) (hG : ∀ j, G' j → G j) : WpI G' w A R V k := ⟨h.pg.less hG, h.ml, h.kd, h.il, h.cc, h.bu⟩
theorem WpI.add {q : Nat} (h : WpI G w A R V k) (hb : Below w.heap.size w W) (hq : w.heap.size ≤ q) (hq2 : q < W.heap.size) : WpI (fun j => G j ∨ j = q) W A R V k := ⟨h.pg.add hb hq hq2, h.ml, h.kd, h.il, h.cc, h.bu⟩
/-- What an act leaves. -/
def WpP (G : Nat → Prop) (A R : Ad) (k : Nat) (w w' : World) : Prop := ∃ V', WpI G w' A R V' (k + 1) ∧ Kp G w w'
theorem WpI.store (h : WpI G w A R V k) (hk : k < 60) {a v : Int} (ha : isU a) (hv : isU v) :
    Calls Tryz.prog 21 #[.agg #[.pointer (some ⟨A.p, 0, none⟩), .pointer (some ⟨R.p, 0, none⟩)], .agg #[.int .u64 a, .int .u64 v]] w fun e w' => e = .returned (.tuple #[]) ∧ WpP G A R k w w' := by
  refine (h.pg.store (by have := h.cc; omega) ha hv).mono ?_
  rintro e w' ⟨he, h', hk'⟩
  exact ⟨he, _, ⟨h', by have := h.ml; show V.M.length ≤ _; omega, h.kd, by have := h.il; show V.I.length ≤ _; omega, by have := h.cc; show V.cnt + 1 ≤ _; omega, h.bu⟩, hk'⟩
theorem WpI.item (h : WpI G w A R V k) (hk : k < 60) (x0 x1 : ByteArray) (x2 x3 x4 x5 : Int) :
    Calls Tryz.prog 62 #[.agg #[.pointer (some ⟨A.p, 0, none⟩), .pointer (some ⟨R.p, 0, none⟩)], .agg #[.string x0, .string x1, .int .u32 x2, .int .u64 x3, .int .i64 x4, .int .i64 x5]] w fun e w' => e = .returned (.tuple #[]) ∧ WpP G A R k w w' := by
  obtain ⟨S, T, h1, h2, h3⟩ := h.pg
  refine (pw_item h1 (by have := h.il; omega) x0 x1 x2 x3 x4 x5).mono ?_
  rintro e w' ⟨he, hp⟩
  obtain ⟨h', hk'⟩ := PwG.post h2 h3 hp
  exact ⟨he, _, ⟨h', by have := h.ml; show V.M.length ≤ _; omega, h.kd, by have := h.il; show (V.I ++ [_]).length ≤ _; simp; omega, by have := h.cc; show V.cnt ≤ _; omega, h.bu⟩, hk'⟩
theorem WpI.tick (h : WpI G w A R V k) (hk : k < 60) :
    Calls Tryz.prog 64 #[.agg #[.pointer (some ⟨A.p, 0, none⟩), .pointer (some ⟨R.p, 0, none⟩)]] w fun e w' => e = .returned (.tuple #[]) ∧ WpP G A R k w w' := by
  obtain ⟨S, T, h1, h2, h3⟩ := h.pg
  refine (pw_tick h1 (by have := h.cc; omega)).mono ?_
  rintro e w' ⟨he, hp⟩
  obtain ⟨h', hk'⟩ := PwG.post h2 h3 hp
  exact ⟨he, _, ⟨h', by have := h.ml; show V.M.length ≤ _; omega, h.kd, by have := h.il; show V.I.length ≤ _; omega, by have := h.cc; show V.cnt + 1 ≤ _; omega, h.bu⟩, hk'⟩
theorem addL_mem {L : List Nv} {x y : Nv} (h : y ∈ addL L x) : y ∈ L ∨ y = x := by
  unfold addL at h
  split at h
  · simpa using h
  · exact .inl h
theorem addL_len (L : List Nv) (x : Nv) : (addL L x).length ≤ L.length + 1 := by
  unfold addL
  split <;> simp
theorem WpI.noted (h : WpI G w A R V k) {x : Nv} (hx : 0 ≤ x.k ∧ x.k ≤ 255) {w' : World} (hf : Hf G w' A R (V.note x) (V.note x)) (hk : Kp G w w') : WpP G A R k w w' :=
  ⟨_, ⟨hf.pw, by have := addL_len V.M x; have := h.ml; show (addL V.M x).length ≤ _; omega, fun y hy => by
    rcases addL_mem hy with hy | rfl
    · exact h.kd y hy
    · exact hx, by have := h.il; show V.I.length ≤ _; omega, by have := h.cc; show V.cnt ≤ _; omega, h.bu⟩, hk⟩
theorem WpI.loaded (h : WpI G w A R V k) {a : Int} {w' : World} (hf : Hf G w' A R (V.acc V.f 1 a (V.f a) (V.f a)) (V.acc V.f 1 a (V.f a) (V.f a))) (hk : Kp G w w') : WpP G A R k w w' :=
  ⟨_, ⟨hf.pw, by have := h.ml; show V.M.length ≤ _; omega, h.kd, by have := h.il; show V.I.length ≤ _; omega, by have := h.cc; show V.cnt + 1 ≤ _; omega, h.bu⟩, hk⟩
end
end Go.Proofs.YthlebfiedejhhaaGreat
