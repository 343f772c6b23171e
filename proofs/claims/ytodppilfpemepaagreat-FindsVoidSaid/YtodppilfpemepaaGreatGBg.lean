/- What comes in with a First: puts and stores; what stands while Begin works. -/
import Derived.Test.YtodppilfpemepaaGreatPwU
import Derived.Test.YtodppilfpemepaaGreatRaT
import Derived.Test.YtodppilfpemepaaGreatBg0
import Derived.Test.YtodppilfpemepaaGreatOpen
import Derived.Deep.Cut
import Derived.Deep.CutBlock
import Derived.Deep.RegionHeld3
import Derived.Test.YtodppilfpemepaaGreatTi4
namespace Go.Proofs.YtodppilfpemepaaGreat
open Go.RowKit Go.Maps
set_option linter.unusedVariables false
theorem reads_puts {w : World} {t e : TypeId} {a : Option Addr} {len cap : Nat} (ht : Tryz.prog.underlying t = some (.slice e)) (hk : leaves Tryz.prog 9 e = some [.inl .u8, .inl .u8, .inl .u8]) (hc : Tryz.prog.cellsOf e = 3) (h : Reads Tryz.prog w t (.slice a len cap)) :
    len ≤ 9223372036854775807 ∧ ∃ b off, (0 < len → len ≤ cap ∧ a = some ⟨b, off, none⟩) ∧ ∀ i, i < len → ∃ x y z : Int, (0 ≤ x ∧ x < 256) ∧ (0 ≤ y ∧ y < 256) ∧ (0 ≤ z ∧ z < 256) ∧ w.cell? ⟨b, off + i * 3, none⟩ = some (.int .u8 x) ∧ w.cell? ⟨b, off + i * 3 + 1, none⟩ = some (.int .u8 y) ∧ w.cell? ⟨b, off + i * 3 + 2, none⟩ = some (.int .u8 z) := by
  rcases Reads.slice ht hk h with ⟨_, rfl, _⟩ | ⟨b, off, sp, rfl, h1, h2, h3, h4⟩
  · exact ⟨by omega, 0, 0, fun h => by omega, fun i hi => by omega⟩
  · refine ⟨by unfold maxLen at h2; omega, b, off, fun h => ⟨h1, by rw [h3 (by omega) (by omega)]⟩, fun i hi => ?_⟩
    obtain ⟨l, hl, hll, hx⟩ := h4 i (by omega)
    obtain ⟨_, _, rfl, ⟨x, rfl, wx⟩, g1⟩ := all2_cons hl
    obtain ⟨_, _, rfl, ⟨y, rfl, wy⟩, g2⟩ := all2_cons g1
    obtain ⟨_, _, rfl, ⟨z, rfl, wz⟩, g3⟩ := all2_cons g2
    obtain rfl := all2_nil g3
    rw [hc] at hx
    have bx := bounds_u8 wx
    have by' := bounds_u8 wy
    have bz := bounds_u8 wz
    exact ⟨x, y, z, by omega, by omega, by omega, hx 0 _ rfl, hx 1 _ rfl, hx 2 _ rfl⟩
theorem reads_stores {w : World} {t e : TypeId} {a : Option Addr} {len cap : Nat} (ht : Tryz.prog.underlying t = some (.slice e)) (hk : leaves Tryz.prog 9 e = some [.inl .u64, .inl .u64]) (hc : Tryz.prog.cellsOf e = 2) (h : Reads Tryz.prog w t (.slice a len cap)) :
    len ≤ 9223372036854775807 ∧ ∃ b off, (0 < len → len ≤ cap ∧ a = some ⟨b, off, none⟩) ∧ ∀ i, i < len → ∃ x y : Int, isU x ∧ isU y ∧ w.cell? ⟨b, off + i * 2, none⟩ = some (.int .u64 x) ∧ w.cell? ⟨b, off + i * 2 + 1, none⟩ = some (.int .u64 y) := by
  rcases Reads.slice ht hk h with ⟨_, rfl, _⟩ | ⟨b, off, sp, rfl, h1, h2, h3, h4⟩
  · exact ⟨by omega, 0, 0, fun h => by omega, fun i hi => by omega⟩
  · refine ⟨by unfold maxLen at h2; omega, b, off, fun h => ⟨h1, by rw [h3 (by omega) (by omega)]⟩, fun i hi => ?_⟩
    obtain ⟨l, hl, hll, hx⟩ := h4 i (by omega)
    obtain ⟨_, _, rfl, ⟨x, rfl, wx⟩, g1⟩ := all2_cons hl
    obtain ⟨_, _, rfl, ⟨y, rfl, wy⟩, g2⟩ := all2_cons g1
    obtain rfl := all2_nil g2
    rw [hc] at hx
    have bx := bounds_u64 wx
    have by' := bounds_u64 wy
    exact ⟨x, y, ⟨bx.1, by omega⟩, ⟨by'.1, by omega⟩, hx 0 _ rfl, hx 1 _ rfl⟩
/-- What stands while Begin works: its own blocks F (what came in), F + 1 (what goes out), P (the pair); the pair's worlds lie behind P. -/
structure BgI (w X : World) (F P : Nat) (A R : Ad) (f6 f7 f8 : Value) (tk : Int) (V : Wv) (S T : Nat → Prop) : Prop where
  c6 : X.cell? ⟨F, 6, none⟩ = some f6
  c7 : X.cell? ⟨F, 7, none⟩ = some f7
  c8 : X.cell? ⟨F, 8, none⟩ = some f8
  c9 : X.cell? ⟨F, 9, none⟩ = some (.int .i64 tk)
  p0 : X.cell? ⟨P, 0, none⟩ = some (.pointer (some ⟨A.p, 0, none⟩))
  p1 : X.cell? ⟨P, 1, none⟩ = some (.pointer (some ⟨R.p, 0, none⟩))
  d0 : X.cell? ⟨F + 1, 0, none⟩ = some (.pointer none)
  d1 : X.cell? ⟨F + 1, 1, none⟩ = some (.pointer none)
  z0 : X.frozen? ⟨F + 1, 0, none⟩ = false
  z1 : X.frozen? ⟨F + 1, 1, none⟩ = false
  pw : Pw X A R V S T
  st : ∀ j, S j ∨ T j → P < j
  fp : F + 1 < P
  lw : F = w.heap.size
  bel : Below F w X
theorem BgI.to {w X Y : World} {F P : Nat} {A R : Ad} {f6 f7 f8 : Value} {tk : Int} {V V' : Wv} {S T S' T' : Nat → Prop} (h : BgI w X F P A R f6 f7 f8 tk V S T) (hk : Keeps (fun j => S j ∨ T j) X Y) (hp : Pw Y A R V' S' T') (ho : ∀ j, S' j ∨ T' j → (S j ∨ T j) ∨ X.heap.size ≤ j) : BgI w Y F P A R f6 f7 f8 tk V' S' T' := by
  have hP := World.block_lt_of_cell? _ _ h.p0
  have hPl : P < X.heap.size := hP
  have hd := World.block_lt_of_cell? _ _ h.d0
  have nF : ¬ (S F ∨ T F) := fun s => by have := h.st F s; have := h.fp; omega
  have nD : ¬ (S (F + 1) ∨ T (F + 1)) := fun s => by have := h.st _ s; have := h.fp; omega
  have nP : ¬ (S P ∨ T P) := fun s => by have := h.st _ s; omega
  obtain ⟨c6, c7, c8, c9, p0, p1, d0, d1, z0, z1, pw, st, fp, lw, bel⟩ := h
  refine ⟨hk.cell (p := ⟨F, 6, none⟩) nF c6, hk.cell (p := ⟨F, 7, none⟩) nF c7, hk.cell (p := ⟨F, 8, none⟩) nF c8, hk.cell (p := ⟨F, 9, none⟩) nF c9, hk.cell (p := ⟨P, 0, none⟩) nP p0, hk.cell (p := ⟨P, 1, none⟩) nP p1, hk.cell (p := ⟨F + 1, 0, none⟩) nD d0, hk.cell (p := ⟨F + 1, 1, none⟩) nD d1, hk.frozen (p := ⟨F + 1, 0, none⟩) nD hd z0, hk.frozen (p := ⟨F + 1, 1, none⟩) nD hd z1, hp, fun j s => ?_, fp, lw, bel.trans (hk.to_below (fun k _ s => ?_) ?_)⟩
  · rcases ho j s with s | s
    · exact st j s
    · omega
  · have := st k s; omega
  · have := bel.size; omega
theorem BgI.new {w X Y : World} {F P : Nat} {A R : Ad} {f6 f7 f8 : Value} {tk : Int} {V : Wv} {S T : Nat → Prop} (h : BgI w X F P A R f6 f7 f8 tk V S T) (hb : Below X.heap.size X Y) : BgI w Y F P A R f6 f7 f8 tk V S T :=
  h.to (Keeps.of_new hb) (h.pw.new hb) (fun j s => .inl s)
theorem BgI.post {w X Y : World} {F P : Nat} {A R : Ad} {f6 f7 f8 : Value} {tk : Int} {V V' : Wv} {S T : Nat → Prop} (h : BgI w X F P A R f6 f7 f8 tk V S T) (hp : PwPost X A R V' S T Y) : ∃ S' T', BgI w Y F P A R f6 f7 f8 tk V' S' T' := by
  obtain ⟨S', T', q, k, o⟩ := hp
  exact ⟨S', T', h.to k q o⟩
/-- A pair that Begin has come to, with n accesses at most. -/
def BgS (w X : World) (F P : Nat) (A R : Ad) (f6 f7 f8 : Value) (tk : Int) (c : Cfg) (I : List It) (n : Int) : Prop := ∃ V S T, BgI w X F P A R f6 f7 f8 tk V S T ∧ Fix (V0 c) V ∧ V.I = I ∧ V.cnt ≤ n
theorem BgS.bel {w X : World} {F P : Nat} {A R : Ad} {f6 f7 f8 : Value} {tk : Int} {c : Cfg} {I : List It} {n : Int} (h : BgS w X F P A R f6 f7 f8 tk c I n) : Below F w X := by
  obtain ⟨V, S, T, h, _⟩ := h
  exact h.bel
theorem BgS.new {w X Y : World} {F P : Nat} {A R : Ad} {f6 f7 f8 : Value} {tk : Int} {c : Cfg} {I : List It} {n : Int} (h : BgS w X F P A R f6 f7 f8 tk c I n) (hb : Below X.heap.size X Y) : BgS w Y F P A R f6 f7 f8 tk c I n := by
  obtain ⟨V, S, T, h, r⟩ := h
  exact ⟨V, S, T, h.new hb, r⟩
theorem BgS.mono {w X : World} {F P : Nat} {A R : Ad} {f6 f7 f8 : Value} {tk : Int} {c : Cfg} {I : List It} {n m : Int} (h : BgS w X F P A R f6 f7 f8 tk c I n) (hn : n ≤ m) : BgS w X F P A R f6 f7 f8 tk c I m := by
  obtain ⟨V, S, T, h, f, i, l⟩ := h
  exact ⟨V, S, T, h, f, i, Int.le_trans l hn⟩
section
variable {w X : World} {F P : Nat} {A R : Ad} {f6 f7 f8 : Value} {tk : Int} {c : Cfg} {I : List It} {n : Int}
theorem BgS.item (h : BgS w X F P A R f6 f7 f8 tk c I n) (hI : I.length < 1048576) (x0 x1 : ByteArray) (x2 x3 x4 x5 : Int) :
    Calls Tryz.prog 23 #[.agg #[.pointer (some ⟨A.p, 0, none⟩), .pointer (some ⟨R.p, 0, none⟩)], .agg #[.string x0, .string x1, .int .u32 x2, .int .u64 x3, .int .i64 x4, .int .i64 x5]] X fun e w' => e = .returned (.tuple #[]) ∧ BgS w w' F P A R f6 f7 f8 tk c (I ++ [(x0, x1, x2, x3, x4, x5)]) n := by
  obtain ⟨V, S, T, h, f, i, l⟩ := h
  subst i
  refine (pw_item h.pw hI x0 x1 x2 x3 x4 x5).mono ?_
  rintro e w' ⟨rfl, hp⟩
  obtain ⟨S', T', h'⟩ := h.post hp
  exact ⟨rfl, _, S', T', h', ⟨f.c, f.tk, f.h, f.m⟩, rfl, l⟩
theorem BgS.store (h : BgS w X F P A R f6 f7 f8 tk c I n) (hn : n < 10000000) {a v : Int} (ha : isU a) (hv : isU v) :
    Calls Tryz.prog 22 #[.agg #[.pointer (some ⟨A.p, 0, none⟩), .pointer (some ⟨R.p, 0, none⟩)], .agg #[.int .u64 a, .int .u64 v]] X fun e w' => e = .returned (.tuple #[]) ∧ BgS w w' F P A R f6 f7 f8 tk c I (n + 1) := by
  obtain ⟨V, S, T, h, f, i, l⟩ := h
  refine (pw_store h.pw (by omega) ha hv).mono ?_
  rintro e w' ⟨rfl, hp⟩
  obtain ⟨S', T', h'⟩ := h.post hp
  exact ⟨rfl, _, S', T', h', ⟨f.c, f.tk, f.h, f.m⟩, i, by show V.cnt + 1 ≤ n + 1; omega⟩
theorem BgS.put (h : BgS w X F P A R f6 f7 f8 tk c I n) (hn : n < 1000000) (hI : I.length ≤ 300) (hk : ∀ x, x ∈ I → x.1.size ≤ 400) {many : Int} (hm : many = (I.length : Int)) (hm0 : 0 < many) {x y z : Int} (hx : 0 ≤ x ∧ x < 256) (hy : 0 ≤ y ∧ y < 256) (hz : 0 ≤ z ∧ z < 256) :
    Calls Tryz.prog 24 #[.agg #[.pointer (some ⟨A.p, 0, none⟩), .pointer (some ⟨R.p, 0, none⟩)], .agg #[.int .u8 x, .int .u8 y, .int .u8 z], .int .i64 many] X fun e w' => e = .returned (.tuple #[]) ∧ BgS w w' F P A R f6 f7 f8 tk c I (n + 2) := by
  obtain ⟨V, S, T, h, f, i, l⟩ := h
  subst i
  refine (pw_put h.pw (by omega) hI (fun x hx => by have := hk x hx; unfold maxLen; omega) hm hm0 hx hy hz).mono ?_
  rintro e w' ⟨rfl, V', h1, h2, h3, hp⟩
  obtain ⟨S', T', h'⟩ := h.post hp
  exact ⟨rfl, _, S', T', h', f.trans h3, h2, by omega⟩
theorem BgS.tick (h : BgS w X F P A R f6 f7 f8 tk c I n) (hn : n < 10000000) :
    Calls Tryz.prog 25 #[.agg #[.pointer (some ⟨A.p, 0, none⟩), .pointer (some ⟨R.p, 0, none⟩)]] X fun e w' => e = .returned (.tuple #[]) ∧ BgS w w' F P A R f6 f7 f8 tk c I (n + 1) := by
  obtain ⟨V, S, T, h, f, i, l⟩ := h
  refine (pw_tick h.pw (by omega)).mono ?_
  rintro e w' ⟨rfl, hp⟩
  obtain ⟨S', T', h'⟩ := h.post hp
  exact ⟨rfl, _, S', T', h', ⟨f.c, f.tk, f.h, f.m⟩, i, by show V.cnt + 1 ≤ n + 1; omega⟩
end
end Go.Proofs.YtodppilfpemepaaGreat
/- Next: Begin of whatever First: a pair of worlds. -/
namespace Go.Proofs.YtodppilfpemepaaGreat
open Go.RowKit Go.Maps
set_option linter.unusedVariables false
/-- What Begin leaves. -/
def BgN (w : World) (L : List It) (e : Ending) (w' : World) : Prop := ∃ A R V S T, e = .returned (.agg #[.pointer (some ⟨A.p, 0, none⟩), .pointer (some ⟨R.p, 0, none⟩)]) ∧ Pw w' A R V S T ∧ (V.M = [] ∧ V.h = -1 ∧ V.tk = (fun _ => 0)) ∧ (1 ≤ V.c.bits ∧ V.c.bits ≤ 12 ∧ 1 ≤ V.c.budget ∧ V.c.budget ≤ 65536 ∧ 0 ≤ V.c.tries ∧ V.c.tries ≤ 16 ∧ 1 ≤ V.c.quantum ∧ V.c.quantum ≤ 8 ∧ 2 ≤ V.c.way ∧ V.c.way ≤ 256) ∧ V.I = L ∧ V.cnt ≤ 1000 ∧ (∀ j, S j ∨ T j → w.heap.size ≤ j) ∧ Below w.heap.size w w'
/-- What stays of Begin's own variables. -/
structure BgE (X : World) (F D : Nat) (g : Bool) (f6 f7 f8 : Value) (tk : Int) : Prop where
  f5 : X.cell? ⟨F, 5, none⟩ = some (.bool g)
  f6 : X.cell? ⟨F, 6, none⟩ = some f6
  f7 : X.cell? ⟨F, 7, none⟩ = some f7
  f8 : X.cell? ⟨F, 8, none⟩ = some f8
  f9 : X.cell? ⟨F, 9, none⟩ = some (.int .i64 tk)
  d0 : X.cell? ⟨D, 0, none⟩ = some (.pointer none)
  d1 : X.cell? ⟨D, 1, none⟩ = some (.pointer none)
  z0 : X.frozen? ⟨D, 0, none⟩ = false
  z1 : X.frozen? ⟨D, 1, none⟩ = false
theorem BgE.keep {X Y : World} {F D : Nat} {g : Bool} {f6 f7 f8 : Value} {tk : Int} {U : Nat → Prop} (h : BgE X F D g f6 f7 f8 tk) (hk : Keeps U X Y) (hF : ¬ U F) (hD : ¬ U D) : BgE Y F D g f6 f7 f8 tk := by
  have hd := World.block_lt_of_cell? _ _ h.d0
  obtain ⟨f5, f6, f7, f8, f9, d0, d1, z0, z1⟩ := h
  exact ⟨hk.cell (p := ⟨F, 5, none⟩) hF f5, hk.cell (p := ⟨F, 6, none⟩) hF f6, hk.cell (p := ⟨F, 7, none⟩) hF f7, hk.cell (p := ⟨F, 8, none⟩) hF f8, hk.cell (p := ⟨F, 9, none⟩) hF f9, hk.cell (p := ⟨D, 0, none⟩) hD d0, hk.cell (p := ⟨D, 1, none⟩) hD d1, hk.frozen (p := ⟨D, 0, none⟩) hD hd z0, hk.frozen (p := ⟨D, 1, none⟩) hD hd z1⟩
theorem BgS.cells {w X : World} {F P : Nat} {A R : Ad} {f6 f7 f8 : Value} {tk : Int} {c : Cfg} {I : List It} {n : Int} (h : BgS w X F P A R f6 f7 f8 tk c I n) : X.cell? ⟨F, 6, none⟩ = some f6 ∧ X.cell? ⟨F, 7, none⟩ = some f7 ∧ X.cell? ⟨F, 8, none⟩ = some f8 ∧ X.cell? ⟨F, 9, none⟩ = some (.int .i64 tk) ∧ X.cell? ⟨P, 0, none⟩ = some (.pointer (some ⟨A.p, 0, none⟩)) ∧ X.cell? ⟨P, 1, none⟩ = some (.pointer (some ⟨R.p, 0, none⟩)) := by
  obtain ⟨V, S, T, h, -⟩ := h
  exact ⟨h.c6, h.c7, h.c8, h.c9, h.p0, h.p1⟩
set_option maxHeartbeats 8000000 in
set_option maxRecDepth 100000 in
theorem beginN {w : World} {b u t q y tk : Int} {g : Bool} {a0 : Option Addr} {l0 c0 : Nat} {a1 : Option Addr} {l1 c1 : Nat} {a2 : Option Addr} {l2 c2 : Nat} {b0 o0 b1 o1 b2 o2 : Nat} {L : List It}
    (p0 : 0 < l0 → l0 ≤ c0 ∧ a0 = some ⟨b0, o0, none⟩) (hL : L.length = l0) (lay0 : Lay w b0 o0 L)
    (p1 : 0 < l1 → l1 ≤ c1 ∧ a1 = some ⟨b1, o1, none⟩) (lay1 : ∀ i, i < l1 → ∃ x y z : Int, (0 ≤ x ∧ x < 256) ∧ (0 ≤ y ∧ y < 256) ∧ (0 ≤ z ∧ z < 256) ∧ w.cell? ⟨b1, o1 + i * 3, none⟩ = some (.int .u8 x) ∧ w.cell? ⟨b1, o1 + i * 3 + 1, none⟩ = some (.int .u8 y) ∧ w.cell? ⟨b1, o1 + i * 3 + 2, none⟩ = some (.int .u8 z))
    (p2 : 0 < l2 → l2 ≤ c2 ∧ a2 = some ⟨b2, o2, none⟩) (lay2 : ∀ i, i < l2 → ∃ x y : Int, isU x ∧ isU y ∧ w.cell? ⟨b2, o2 + i * 2, none⟩ = some (.int .u64 x) ∧ w.cell? ⟨b2, o2 + i * 2 + 1, none⟩ = some (.int .u64 y))
    (h0 : l0 ≤ 40) (h1 : l1 ≤ 60) (h2 : l2 ≤ 60) (hkey : ∀ x, x ∈ L → x.1.size ≤ 400) :
    Calls Tryz.prog 5 #[.agg #[.int .i64 b, .int .i64 u, .int .i64 t, .int .i64 q, .int .i64 y, .bool g, .slice a0 l0 c0, .slice a1 l1 c1, .slice a2 l2 c2, .int .i64 tk]] w (BgN w L) := by
  have CO := Lib.hid (fun b u t q y X => other10 b u t q y X)
  have CN := Lib.hid (fun X => rmay10 b u t q y X)
  have P0 := Lib.hid p0
  have P1 := Lib.hid p1
  have P2 := Lib.hid p2
  have HL := Lib.hid hL
  have LY0 := Lib.hid lay0
  have LY1 := Lib.hid lay1
  have LY2 := Lib.hid lay2
  have HKEY := Lib.hid hkey
  have HLS := Lib.hid (show l0 ≤ 40 ∧ l1 ≤ 60 ∧ l2 ≤ 60 from ⟨h0, h1, h2⟩)
  clear p0 p1 p2 hL lay0 lay1 lay2 hkey h0 h1 h2
  go_enter Tryz.func5, Tryz.ntmps5
  go_wp2_with fail
  obtain ⟨N, hN⟩ : ∃ N, N = w.heap.size := ⟨_, rfl⟩
  generalize hW : World.alloc (World.alloc (World.alloc w _) _) _ = W
  rw [← hN]
  have bW : Below N w W := by rw [← hW, hN]; exact bs_alloc (bs_alloc (bs_alloc (Below.refl _ _)))
  have hF : BgE W N (N + 1) g (.slice a0 l0 c0) (.slice a1 l1 c1) (.slice a2 l2 c2) tk := by
    rw [← hW, hN]
    exact ⟨by simp [World.cell?_alloc_some], by simp [World.cell?_alloc_some], by simp [World.cell?_alloc_some], by simp [World.cell?_alloc_some], by simp [World.cell?_alloc_some], by simp [World.cell?_alloc_some], by simp [World.cell?_alloc_some], old_fz (new_fz (by simp)) (by simp), old_fz (new_fz (by simp)) (by simp)⟩
  have hsW : W.heap.size = N + 3 := by rw [← hW, hN]; simp
  have c0' : W.cell? ⟨N + 1 + 1, 0, none⟩ = some (.int .i64 b) := by rw [← hW, hN]; exact new_at (by simp) rfl
  have c1' : W.cell? ⟨N + 1 + 1, 1, none⟩ = some (.int .i64 u) := by rw [← hW, hN]; exact new_at (by simp) rfl
  have c2' : W.cell? ⟨N + 1 + 1, 2, none⟩ = some (.int .i64 t) := by rw [← hW, hN]; exact new_at (by simp) rfl
  have c3 : W.cell? ⟨N + 1 + 1, 3, none⟩ = some (.int .i64 q) := by rw [← hW, hN]; exact new_at (by simp) rfl
  have c4 : W.cell? ⟨N + 1 + 1, 4, none⟩ = some (.int .i64 y) := by rw [← hW, hN]; exact new_at (by simp) rfl
  have cz : ∀ j, W.frozen? ⟨N + 1 + 1, j, none⟩ = false := fun j => by rw [← hW, hN]; exact new_fz (by simp)
  have HN := Lib.hid hN
  have hCl : N + 1 + 1 < W.heap.size := by omega
  have HSW := Lib.hid hsW
  clear hW hN hsW
  refine (CO.out _ _ _ _ _ _).mono ?_
  rintro e w1 ⟨rfl, k1⟩
  go_wp2_with fail
  refine (CN.out _).mono ?_
  rintro e w2 ⟨rfl, k2⟩
  have kk : Keeps (fun _ => False) W w2 := (Keeps.of_new k1).trans (Keeps.of_new k2) (fun _ _ s => s)
  obtain ⟨C, hC⟩ : ∃ C, C = N + 1 + 1 := ⟨_, rfl⟩
  rw [← hC] at c0' c1' c2' c3 c4 cz hCl ⊢
  have q0 := kk.cell (p := ⟨C, 0, none⟩) (fun s => s) c0'
  have q1 := kk.cell (p := ⟨C, 1, none⟩) (fun s => s) c1'
  have q2 := kk.cell (p := ⟨C, 2, none⟩) (fun s => s) c2'
  have q3 := kk.cell (p := ⟨C, 3, none⟩) (fun s => s) c3
  have q4 := kk.cell (p := ⟨C, 4, none⟩) (fun s => s) c4
  have r0 := kk.frozen (p := ⟨C, 0, none⟩) (fun s => s) hCl (cz 0)
  have r1 := kk.frozen (p := ⟨C, 1, none⟩) (fun s => s) hCl (cz 1)
  have r2 := kk.frozen (p := ⟨C, 2, none⟩) (fun s => s) hCl (cz 2)
  have r3 := kk.frozen (p := ⟨C, 3, none⟩) (fun s => s) hCl (cz 3)
  have r4 := kk.frozen (p := ⟨C, 4, none⟩) (fun s => s) hCl (cz 4)
  have hF2 := hF.keep kk (fun s => s) (fun s => s)
  have hs2 := kk.size
  have HC := Lib.hid hC
  have HBW := Lib.hid bW
  have HK := Lib.hid kk
  have HF2 := Lib.hid hF2
  clear c0' c1' c2' c3 c4 cz kk k1 k2 hF hF2 bW hC CN
  go_upto_if 14 with (fail)
  go_cut [] from 9 (fun wx => ∃ b' u' t' q' y' : Int, mayc b' u' t' q' y' = true ∧ (wx.cell? ⟨C, 0, none⟩ = some (.int .i64 b') ∧ wx.cell? ⟨C, 1, none⟩ = some (.int .i64 u') ∧ wx.cell? ⟨C, 2, none⟩ = some (.int .i64 t') ∧ wx.cell? ⟨C, 3, none⟩ = some (.int .i64 q') ∧ wx.cell? ⟨C, 4, none⟩ = some (.int .i64 y')) ∧ Keeps (fun j => j = C) w2 wx)
  case first =>
    cases hm : mayc b u t q y with
    | true =>
      go_wp2_with fail
      go_meet
      case rel => exact ⟨b, u, t, q, y, hm, ⟨q0, q1, q2, q3, q4⟩, Keeps.refl _ _⟩
    | false =>
      clear hm
      go_wp2_with fail
      go_meet
      case rel =>
        refine ⟨2, 8, 3, 1, 16, by decide, ⟨?_, ?_, ?_, ?_, ?_⟩, (((((Keeps.refl (fun j => j = C) w2).setCell (p := ⟨C, 0, none⟩) (.inl rfl) _).setCell (p := ⟨C, 1, none⟩) (.inl rfl) _).setCell (p := ⟨C, 2, none⟩) (.inl rfl) _).setCell (p := ⟨C, 3, none⟩) (.inl rfl) _).setCell (p := ⟨C, 4, none⟩) (.inl rfl) _⟩
        · exact setO (by decide) (setO (by decide) (setO (by decide) (setO (by decide) (World.cell?_setCell_same _ _ _ q0))))
        · exact setO (by decide) (setO (by decide) (setO (by decide) (World.cell?_setCell_same _ _ _ (setO (by decide) q1))))
        · exact setO (by decide) (setO (by decide) (World.cell?_setCell_same _ _ _ (setO (by decide) (setO (by decide) q2))))
        · exact setO (by decide) (World.cell?_setCell_same _ _ _ (setO (by decide) (setO (by decide) (setO (by decide) q3))))
        · exact World.cell?_setCell_same _ _ _ (setO (by decide) (setO (by decide) (setO (by decide) (setO (by decide) q4))))
  obtain ⟨b', u', t', q', y', hm', ⟨e0, e1, e2, e3, e4⟩, hk3⟩ := hcut
  clear q0 q1 q2 q3 q4 r0 r1 r2 r3 r4
  have hmm := of_decide_eq_true (show decide _ = true from hm')
  have HMM := Lib.hid hmm
  have HBT := Lib.hid (show 1 ≤ b' ∧ b' ≤ 12 by omega)
  have CR := Lib.hid (fun X => newR b' u' t' q' y' X hm')
  have CW := Lib.hid (fun X => newW b' u' t' q' y' X hm')
  clear hmm hm'
  generalize wc = W3 at *
  have hC2 : C < w2.heap.size := Nat.lt_of_lt_of_le hCl hs2
  have hC3 : C < W3.heap.size := Nat.lt_of_lt_of_le hC2 hk3.size
  have hF3 := HF2.out.keep hk3 (by have := HC.out; omega) (by have := HC.out; omega)
  have hB3 : Below N w W3 := (HBW.out.trans (HK.out.to_below (B := N) (fun _ _ s => s.elim) (by have := HSW.out; omega))).trans (hk3.to_below (fun k _ e => by have := HC.out; omega) (by have := HC.out; omega))
  obtain ⟨P, hPq⟩ : ∃ P, P = W3.heap.size := ⟨_, rfl⟩
  have HF3 := Lib.hid hF3
  have HB3 := Lib.hid hB3
  clear hk3 hF3 hB3 hs2 hCl hC2 HF2 HBW HK
  go_upto_region 5 with (fail)
  generalize hW4 : World.alloc W3 _ = W4
  rw [← hPq]
  have hb4 : Below W3.heap.size W3 W4 := by rw [← hW4]; exact bs_alloc (Below.refl _ _)
  have p0 : W4.cell? ⟨P, 0, none⟩ = some (.pointer none) := by rw [← hW4, hPq]; exact new_at rfl rfl
  have p1 : W4.cell? ⟨P, 1, none⟩ = some (.pointer none) := by rw [← hW4, hPq]; exact new_at rfl rfl
  have pz : ∀ j, W4.frozen? ⟨P, j, none⟩ = false := fun j => by rw [← hW4, hPq]; exact new_fz rfl
  have hP4 : P < W4.heap.size := by rw [← hW4, hPq]; simp
  have HPQ := Lib.hid hPq
  have HCP := Lib.hid (show C < P by rw [hPq]; exact hC3)
  clear hW4 hPq
  replace e0 := (hb4.cell (p := ⟨C, 0, none⟩) hC3).trans e0
  replace e1 := (hb4.cell (p := ⟨C, 1, none⟩) hC3).trans e1
  replace e2 := (hb4.cell (p := ⟨C, 2, none⟩) hC3).trans e2
  replace e3 := (hb4.cell (p := ⟨C, 3, none⟩) hC3).trans e3
  replace e4 := (hb4.cell (p := ⟨C, 4, none⟩) hC3).trans e4
  have HB4 := Lib.hid hb4
  have hC4 : C < W4.heap.size := Nat.lt_of_lt_of_le hC3 hb4.size
  clear hb4 hC3
  go_wp2_with fail
  refine (CO.out _ _ _ _ _ _).mono ?_
  rintro e w5 ⟨rfl, k5⟩
  go_wp2_with fail
  refine (CR.out _).mono ?_
  intro e w6 hnr
  obtain ⟨R, T, rfl, hrw, hRT, k6⟩ := hnr
  have k56 : Below W4.heap.size W4 w6 := below_then k5 k6
  have x0 := (k56.cell (p := ⟨P, 0, none⟩) hP4).trans p0
  have x1 := (k56.cell (p := ⟨P, 1, none⟩) hP4).trans p1
  have y0 := (k56.frozen (p := ⟨P, 0, none⟩) hP4).trans (pz 0)
  have y1 := (k56.frozen (p := ⟨P, 1, none⟩) hP4).trans (pz 1)
  replace e0 := (k56.cell (p := ⟨C, 0, none⟩) hC4).trans e0
  replace e1 := (k56.cell (p := ⟨C, 1, none⟩) hC4).trans e1
  replace e2 := (k56.cell (p := ⟨C, 2, none⟩) hC4).trans e2
  replace e3 := (k56.cell (p := ⟨C, 3, none⟩) hC4).trans e3
  replace e4 := (k56.cell (p := ⟨C, 4, none⟩) hC4).trans e4
  have hP6 : P < w6.heap.size := Nat.lt_of_lt_of_le hP4 k56.size
  have hC6 : C < w6.heap.size := Nat.lt_of_lt_of_le hC4 k56.size
  have HRW := Lib.hid hrw
  have HRT := Lib.hid (show ∀ j, T j → W4.heap.size ≤ j from fun j t => Nat.le_trans k5.size (hRT j t))
  have HK6 := Lib.hid k56
  have HPL := Lib.hid hP4
  clear p0 p1 pz k5 k6 k56 hrw hRT hP4 hC4
  have HP4 := Lib.hid HPL.out
  go_upto_region 6 with (fail)
  generalize hW7 : World.setCell w6 _ _ = W7
  have hk7 : Keeps (fun j => j = P) w6 W7 := by rw [← hW7]; exact (Keeps.refl (fun j => j = P) w6).setCell (p := ⟨P, 1, none⟩) (.inl rfl) _
  have hPC : ¬ C = P := by have := HCP.out; omega
  replace x1 : W7.cell? ⟨P, 1, none⟩ = some (.pointer (some ⟨R.p, 0, none⟩)) := by rw [← hW7]; exact World.cell?_setCell_same _ _ _ x1
  replace x0 : W7.cell? ⟨P, 0, none⟩ = some (.pointer none) := by rw [← hW7]; exact setO (by decide) x0
  replace y0 : W7.frozen? ⟨P, 0, none⟩ = false := by rw [← hW7]; simpa using y0
  replace y1 : W7.frozen? ⟨P, 1, none⟩ = false := by rw [← hW7]; simpa using y1
  clear hW7
  replace e0 := hk7.cell (p := ⟨C, 0, none⟩) hPC e0
  replace e1 := hk7.cell (p := ⟨C, 1, none⟩) hPC e1
  replace e2 := hk7.cell (p := ⟨C, 2, none⟩) hPC e2
  replace e3 := hk7.cell (p := ⟨C, 3, none⟩) hPC e3
  replace e4 := hk7.cell (p := ⟨C, 4, none⟩) hPC e4
  have hP7 : P < W7.heap.size := Nat.lt_of_lt_of_le hP6 hk7.size
  have hC7 : C < W7.heap.size := Nat.lt_of_lt_of_le hC6 hk7.size
  have HRW7 := Lib.hid (HRW.out.keep hk7 (fun j s e => by have := HRT.out j s; have := HP4.out; omega))
  have HK7 := Lib.hid hk7
  have HPC := Lib.hid hPC
  clear hk7 hP6 hC6 hPC
  go_wp2_with fail
  refine (CW.out _).mono ?_
  rintro e w8 ⟨A, rfl, hwd, k8⟩
  have s47 : W4.heap.size ≤ W7.heap.size := Nat.le_trans HK6.out.size HK7.out.size
  obtain ⟨S, hpw, hST⟩ := pw_made2 HBT.out HRW7.out HRT.out (Below.refl _ _) s47 hwd k8
  replace x0 := (k8.cell (p := ⟨P, 0, none⟩) hP7).trans x0
  replace x1 := (k8.cell (p := ⟨P, 1, none⟩) hP7).trans x1
  replace y0 := (k8.frozen (p := ⟨P, 0, none⟩) hP7).trans y0
  replace e0 := (k8.cell (p := ⟨C, 0, none⟩) hC7).trans e0
  have HPW := Lib.hid hpw
  have HST := Lib.hid hST
  have HK8 := Lib.hid k8
  clear y1 e1 e2 e3 e4 hwd k8 hpw hST hP7 hC7 s47
  go_upto_region 7 with (fail)
  generalize hW9 : World.setCell w8 _ _ = W9
  have hk9 : Keeps (fun j => j = P) w8 W9 := by rw [← hW9]; exact (Keeps.refl (fun j => j = P) w8).setCell (p := ⟨P, 0, none⟩) (.inl rfl) _
  replace x0 : W9.cell? ⟨P, 0, none⟩ = some (.pointer (some ⟨A.p, 0, none⟩)) := by rw [← hW9]; exact World.cell?_setCell_same _ _ _ x0
  replace x1 : W9.cell? ⟨P, 1, none⟩ = some (.pointer (some ⟨R.p, 0, none⟩)) := by rw [← hW9]; exact setO (by decide) x1
  replace e0 := hk9.cell (p := ⟨C, 0, none⟩) HPC.out e0
  clear hW9 y0
  have hP9 : Pw W9 A R (V0 ⟨b', u', t', q', y'⟩) S T := HPW.out.keep hk9 (fun j s e => by have := HST.out j (.inl s); have := HP4.out; omega) (fun j s e => by have := HST.out j (.inr s); have := HP4.out; omega)
  have k39 : Keeps (fun j => j = P) W3 W9 := (((Keeps.of_new (S := fun j => j = P) HB4.out).trans (Keeps.of_new HK6.out) (fun _ _ s => s)).trans HK7.out (fun _ _ s => s)).trans ((Keeps.of_new (S := fun j => j = P) HK8.out).trans hk9 (fun _ _ s => s)) (fun _ _ s => s)
  obtain ⟨f5, f6, f7, f8, f9, d0, d1, z0, z1⟩ := HF3.out.keep k39 (by have := HCP.out; have := HC.out; omega) (by have := HCP.out; have := HC.out; omega)
  have hB9 : Below N w W9 := HB3.out.trans (k39.to_below (fun k _ e => by have := HCP.out; have := HC.out; omega) (by have := HB3.out.size; have := HN.out; omega))
  have hS9 : BgS w W9 N P A R (.slice a0 l0 c0) (.slice a1 l1 c1) (.slice a2 l2 c2) tk ⟨b', u', t', q', y'⟩ [] 0 :=
    ⟨V0 ⟨b', u', t', q', y'⟩, S, T, ⟨f6, f7, f8, f9, x0, x1, d0, d1, z0, z1, hP9, fun j s => by have := HST.out j s; have := HP4.out; omega, by have := HCP.out; have := HC.out; omega, HN.out, hB9⟩, Fix.refl _, rfl, by simp [V0]⟩
  have HS9 := Lib.hid hS9
  clear hk9 hP9 k39 hB9 hS9 HK6 HK7 HK8 HB3 HB4 HPW HRW HRW7 HF3 d0 d1 z0 z1 f6 f7 f8 f9 HRT HST HPL
  generalize hcc : Cfg.mk b' u' t' q' y' = cc at HS9
  have HCC := Lib.hid hcc
  clear hcc
  go_upto_region 9 with (fail)
  go_cut [42] from 9 (fun s42 wx => ∃ B : Bool, s42 = .bool B ∧ (B = true → b' < 12) ∧ BgS w wx N P A R (.slice a0 l0 c0) (.slice a1 l1 c1) (.slice a2 l2 c2) tk cc [] 0 ∧ wx.cell? ⟨C, 0, none⟩ = some (.int .i64 b'))
  case first =>
    cases g with
    | false =>
      go_wp2_with fail
      go_meet
      case rel => exact ⟨false, rfl, by simp, HS9.out, e0⟩
    | true =>
      by_cases hb : b' < 12
      · have g0 : decide (b' < 12) = true := decide_eq_true hb
        go_wp2_with fail
        go_meet
        case rel => exact ⟨true, rfl, fun _ => hb, HS9.out, e0⟩
      · have g0 : decide (b' < 12) = false := decide_eq_false hb
        clear hb
        go_wp2_with fail
        go_meet
        case rel => exact ⟨false, rfl, by simp, HS9.out, e0⟩
  obtain ⟨B, rfl, hB12, hS9, e0'⟩ := hcut
  have HS9' := Lib.hid hS9
  clear hS9 HS9 e0 f5 x0 x1
  go_upto_if 42 with (fail)
  go_cut [] from 9 (fun wx => BgS w wx N P A R (.slice a0 l0 c0) (.slice a1 l1 c1) (.slice a2 l2 c2) tk cc [] 1)
  case first =>
    cases B with
    | false =>
      go_wp2_with fail
      go_meet
      case rel => exact HS9'.out.mono (by decide)
    | true =>
      have hb12 := hB12 rfl
      clear hB12
      have g1 : IntKind.i64.wrap (b' + 1) = b' + 1 := IntWalk.i64_in _ (by have := HBT.out; omega)
      have g2 : IntKind.i64.wrap (256 * (b' + 1)) = 256 * (b' + 1) := IntWalk.i64_in _ (by have := HBT.out; omega)
      have g3 : IntKind.i64.wrap (b' + 256 * (b' + 1)) = b' + 256 * (b' + 1) := IntWalk.i64_in _ (by have := HBT.out; omega)
      have g4 : IntKind.u64.wrap (b' + 256 * (b' + 1)) = b' + 256 * (b' + 1) := by rw [IntKind.wrap_u64]; have := HBT.out; omega
      have hv : isU (b' + 256 * (b' + 1)) := by have := HBT.out; exact ⟨by omega, by omega⟩
      obtain ⟨-, -, -, -, x0, x1⟩ := HS9'.out.cells
      have CS := Lib.hid (HS9'.out.store (a := 2) (by decide) ⟨by decide, by decide⟩ hv)
      clear hv hb12
      go_wp2_with (go_at_call 22; ((refine CS.out.mono ?_); rintro e W10 ⟨rfl, hS10⟩))
      go_meet
      case rel => exact hS10.mono (by decide)
  have HS := Lib.hid hcut
  clear hcut HS9' e0' hB12
  generalize wc = W10 at *
  go_wp2_with fail
  go_loopw [5] (fun i X => ∃ k : Nat, k ≤ l0 ∧ i = .int .i64 k ∧ BgS w X N P A R (.slice a0 l0 c0) (.slice a1 l1 c1) (.slice a2 l2 c2) tk cc (L.take k) 1) (fun i _ => l0 - (intOf i).toNat)
  case atStart => exact ⟨0, Nat.zero_le _, rfl, by simpa using HS.out⟩
  case round =>
    obtain ⟨k, hk, rfl, hR⟩ := hrel
    have hl0 := HLS.out.1
    by_cases hlt : k < l0
    · obtain ⟨hlc, rfl⟩ := P0.out (by omega)
      obtain ⟨x, hx⟩ : ∃ x, L[k]? = some x := ⟨_, List.getElem?_eq_getElem (by have := HL.out; omega)⟩
      obtain ⟨xk, xv, x2, x3, x4, x5⟩ := x
      have hb := hR.bel
      obtain ⟨e0, e1, e2, e3, e4, e5, hbN⟩ := LY0.out.now HN.out hb.drew hx
      obtain ⟨c6, c7, c8, c9, p0, p1⟩ := hR.cells
      have c6' : wr.drew.cell? ⟨N, 6, none⟩ = some (.slice (some ⟨b0, o0, none⟩) l0 c0) := c6
      have p0' : wr.drew.cell? ⟨P, 0, none⟩ = some (.pointer (some ⟨A.p, 0, none⟩)) := p0
      have p1' : wr.drew.cell? ⟨P, 1, none⟩ = some (.pointer (some ⟨R.p, 0, none⟩)) := p1
      have LN := Lib.hid (fun (X : World) (hb : Below N w X) => LY0.out.now HN.out hb hx)
      have C1 := Lib.hid ((hR.new (Below.refl _ _).drew).item (by rw [List.length_take]; omega) xk xv x2 x3 x4 x5)
      have HX := Lib.hid (take_one hx)
      have hkc : k < c0 := by omega
      have j0 : (0 : Int) ≤ (k : Int) := by omega
      have j1 : (k : Int) < (l0 : Int) := by omega
      clear hx hR hb hbN c7 c8 c9 p0 p1
      go_wp2_with fail
      clear c6
      go_region_held3 (fun X => X.cell? ⟨N, 6, none⟩ = some (.slice (some ⟨b0, o0, none⟩) l0 c0) ∧ X.cell? ⟨P, 0, none⟩ = some (.pointer (some ⟨A.p, 0, none⟩)) ∧ X.cell? ⟨P, 1, none⟩ = some (.pointer (some ⟨R.p, 0, none⟩)) ∧ X.cell? ⟨b0, o0 + k * 6, none⟩ = some (.string xk) ∧ X.cell? ⟨b0, o0 + k * 6 + 1, none⟩ = some (.string xv) ∧ X.cell? ⟨b0, o0 + k * 6 + 2, none⟩ = some (.int .u32 x2) ∧ X.cell? ⟨b0, o0 + k * 6 + 3, none⟩ = some (.int .u64 x3) ∧ X.cell? ⟨b0, o0 + k * 6 + 4, none⟩ = some (.int .i64 x4) ∧ X.cell? ⟨b0, o0 + k * 6 + 5, none⟩ = some (.int .i64 x5))
        (first | exact ⟨by assumption, by assumption, by assumption, by assumption, by assumption, by assumption, by assumption, by assumption, by assumption⟩)
        (first
          | (go_at_call 23; ((refine C1.out.mono ?_); rintro e w11 ⟨rfl, h11⟩; clear c6' p0' p1' e0 e1 e2 e3 e4 e5; obtain ⟨e0, e1, e2, e3, e4, e5, -⟩ := LN.out _ h11.bel; obtain ⟨c6', -, -, -, p0', p1'⟩ := h11.cells; have H11 := Lib.hid h11; clear h11)))
      all_goals
        clear c6' p0' p1' e0 e1 e2 e3 e4 e5
        go_wp2_with fail
        go_roundw
        case rel => exact ⟨k + 1, by omega, by go_num, by rw [HX.out]; exact H11.out⟩
        case measure => simp [intOf]; omega
    · obtain rfl : l0 = k := by omega
      obtain ⟨c6, c7, c8, c9, p0, p1⟩ := hR.cells
      have HS2 := Lib.hid (show BgS w wr N P A R (.slice a0 l0 c0) (.slice a1 l1 c1) (.slice a2 l2 c2) tk cc L 1 by rw [List.take_of_length_le (by have := HL.out; omega)] at hR; exact hR)
      clear hR c7 c8 c9 p0 p1 HS
      go_upto_block 2 with (fail)
      clear c6
      go_cut [] from 9 (fun wx => BgS w wx N P A R (.slice a0 l0 c0) (.slice a1 l1 c1) (.slice a2 l2 c2) tk cc L 121)
      case first =>
        go_wp2_with fail
        go_loopw [6] (fun i X => ∃ k : Nat, k ≤ l1 ∧ i = .int .i64 k ∧ BgS w X N P A R (.slice a0 l0 c0) (.slice a1 l1 c1) (.slice a2 l2 c2) tk cc L (1 + 2 * (k : Int))) (fun i _ => l1 - (intOf i).toNat)
        case atStart => exact ⟨0, Nat.zero_le _, rfl, by simpa using HS2.out⟩
        case round =>
          obtain ⟨k, hk, rfl, hR⟩ := hrel
          have hl1 := HLS.out.2.1
          have hl0 := HLS.out.1
          obtain ⟨c6, c7, c8, c9, p0, p1⟩ := hR.cells
          by_cases hlt : k < l1 ∧ 0 < l0
          · obtain ⟨hlt, hl00⟩ := hlt
            obtain ⟨hlc, rfl⟩ := P1.out (by omega)
            obtain ⟨x, y', z, hx, hy, hz, q0, q1, q2⟩ := LY1.out k hlt
            have hbN : b1 < N := by have := World.block_lt_of_cell? _ _ q0; rw [HN.out]; exact this
            have LN : Hid (∀ X, Below N w X → X.cell? ⟨b1, o1 + k * 3, none⟩ = some (.int .u8 x) ∧ X.cell? ⟨b1, o1 + k * 3 + 1, none⟩ = some (.int .u8 y') ∧ X.cell? ⟨b1, o1 + k * 3 + 2, none⟩ = some (.int .u8 z)) := Lib.hid (fun X hb => ⟨(hb.cell (p := ⟨b1, o1 + k * 3, none⟩) hbN).trans q0, (hb.cell (p := ⟨b1, o1 + k * 3 + 1, none⟩) hbN).trans q1, (hb.cell (p := ⟨b1, o1 + k * 3 + 2, none⟩) hbN).trans q2⟩)
            have C1 := Lib.hid ((hR.new (Below.refl _ _).drew).put (by omega) (by have := HL.out; omega) HKEY.out (many := (l0 : Int)) (by have := HL.out; omega) (by omega) hx hy hz)
            clear q0 q1 q2
            obtain ⟨q0, q1, q2⟩ := LN.out _ hR.bel.drew
            have c6' : wr.drew.cell? ⟨N, 6, none⟩ = some (.slice a0 l0 c0) := c6
            have c7' : wr.drew.cell? ⟨N, 7, none⟩ = some (.slice (some ⟨b1, o1, none⟩) l1 c1) := c7
            have p0' : wr.drew.cell? ⟨P, 0, none⟩ = some (.pointer (some ⟨A.p, 0, none⟩)) := p0
            have p1' : wr.drew.cell? ⟨P, 1, none⟩ = some (.pointer (some ⟨R.p, 0, none⟩)) := p1
            have hkc : k < c1 := by omega
            have j0 : (0 : Int) ≤ (k : Int) := by omega
            have j1 : (k : Int) < (l1 : Int) := by omega
            have d1 : decide ((k : Int) < (l1 : Int)) = true := decide_eq_true j1
            have d2 : decide (0 < (l0 : Int)) = true := decide_eq_true (by omega)
            clear hR hbN c8 c9 p0 p1 hx hy hz
            go_wp2_with fail
            clear c6 c7
            go_region_held3 (fun X => X.cell? ⟨N, 6, none⟩ = some (.slice a0 l0 c0) ∧ X.cell? ⟨N, 7, none⟩ = some (.slice (some ⟨b1, o1, none⟩) l1 c1) ∧ X.cell? ⟨P, 0, none⟩ = some (.pointer (some ⟨A.p, 0, none⟩)) ∧ X.cell? ⟨P, 1, none⟩ = some (.pointer (some ⟨R.p, 0, none⟩)) ∧ X.cell? ⟨b1, o1 + k * 3, none⟩ = some (.int .u8 x) ∧ X.cell? ⟨b1, o1 + k * 3 + 1, none⟩ = some (.int .u8 y') ∧ X.cell? ⟨b1, o1 + k * 3 + 2, none⟩ = some (.int .u8 z))
              (first | exact ⟨by assumption, by assumption, by assumption, by assumption, by assumption, by assumption, by assumption⟩)
              (first
                | (go_at_call 24; ((refine C1.out.mono ?_); rintro e w11 ⟨rfl, h11⟩; clear c6' c7' p0' p1' q0 q1 q2; obtain ⟨q0, q1, q2⟩ := LN.out _ h11.bel; obtain ⟨c6', c7', -, -, p0', p1'⟩ := h11.cells; have H11 := Lib.hid h11; clear h11)))
            all_goals
              clear c6' c7' p0' p1' q0 q1 q2
              go_wp2_with fail
              go_roundw
              case rel => exact ⟨k + 1, by omega, by go_num, H11.out.mono (by omega)⟩
              case measure => simp [intOf]; omega
          · have HS3 := Lib.hid (hR.mono (m := 121) (by omega))
            by_cases h : k < l1
            · have d1 : decide (0 < l0) = false := decide_eq_false (by omega)
              have d2 : ¬ 0 < l0 := by omega
              clear hR hlt hk hl0 hl1 p0 p1 c8 c9 HS2
              go_wp2_with fail
              go_meet
              case rel => exact HS3.out
            · obtain rfl : l1 = k := by omega
              clear hR hlt hk hl0 hl1 p0 p1 c8 c9 HS2
              go_wp2_with fail
              go_meet
              case rel => exact HS3.out
      have HS3 := Lib.hid hcut
      clear hcut HS2
      generalize wc = W11 at *
      go_upto_block 4 with (fail)
      go_cut [] from 9 (fun wx => BgS w wx N P A R (.slice a0 l0 c0) (.slice a1 l1 c1) (.slice a2 l2 c2) tk cc L 161)
      case first =>
        go_wp2_with fail
        go_loopw [7] (fun i X => ∃ k : Nat, k ≤ 40 ∧ i = .int .i64 k ∧ BgS w X N P A R (.slice a0 l0 c0) (.slice a1 l1 c1) (.slice a2 l2 c2) tk cc L (121 + (k : Int))) (fun i _ => 40 - (intOf i).toNat)
        case atStart => exact ⟨0, Nat.zero_le _, rfl, by simpa using HS3.out⟩
        case round =>
          obtain ⟨k', hk', rfl, hR⟩ := hrel
          obtain ⟨c6, c7, c8, c9, p0, p1⟩ := hR.cells
          by_cases hlt : (k' : Int) < tk ∧ k' < 40
          · obtain ⟨hlt, hl40⟩ := hlt
            have C1 := Lib.hid (hR.tick (by omega))
            have t1 : decide ((k' : Int) < tk) = true := decide_eq_true hlt
            have t2 : decide ((k' : Int) < 40) = true := decide_eq_true (by omega)
            clear hR c6 c7 c8
            go_wp2_with (go_at_call 25; ((refine C1.out.mono ?_); rintro e w11 ⟨rfl, h11⟩; have H11 := Lib.hid h11; clear h11))
            clear c9 p0 p1
            go_roundw
            case rel => exact ⟨k' + 1, by omega, by go_num, H11.out.mono (by omega)⟩
            case measure => simp [intOf]; omega
          · have HS4 := Lib.hid (hR.mono (m := 161) (by omega))
            by_cases h : (k' : Int) < tk
            · have t1 : decide ((k' : Int) < tk) = true := decide_eq_true h
              obtain rfl : k' = 40 := by omega
              clear hR hlt hk' p0 p1 c6 c7 c8 HS3
              go_wp2_with fail
              go_meet
              case rel => exact HS4.out
            · have t1 : decide ((k' : Int) < tk) = false := decide_eq_false h
              clear hR hlt hk' p0 p1 c6 c7 c8 HS3
              go_wp2_with fail
              go_meet
              case rel => exact HS4.out
      have HS4 := Lib.hid hcut
      clear hcut HS3
      generalize wc = W12 at *
      go_wp2_with fail
      go_loopw [8] (fun i X => ∃ k : Nat, k ≤ l2 ∧ i = .int .i64 k ∧ BgS w X N P A R (.slice a0 l0 c0) (.slice a1 l1 c1) (.slice a2 l2 c2) tk cc L (161 + (k : Int))) (fun i _ => l2 - (intOf i).toNat)
      case atStart => exact ⟨0, Nat.zero_le _, rfl, by simpa using HS4.out⟩
      case round =>
        obtain ⟨k2, hk2, rfl, hR⟩ := hrel
        have hl2 := HLS.out.2.2
        obtain ⟨c6, c7, c8, c9, p0, p1⟩ := hR.cells
        by_cases hlt : k2 < l2
        · obtain ⟨hlc, rfl⟩ := P2.out (by omega)
          obtain ⟨x, y', hx, hy, q0, q1⟩ := LY2.out k2 hlt
          have hbN : b2 < N := by have := World.block_lt_of_cell? _ _ q0; rw [HN.out]; exact this
          have LN : Hid (∀ X, Below N w X → X.cell? ⟨b2, o2 + k2 * 2, none⟩ = some (.int .u64 x) ∧ X.cell? ⟨b2, o2 + k2 * 2 + 1, none⟩ = some (.int .u64 y')) := Lib.hid (fun X hb => ⟨(hb.cell (p := ⟨b2, o2 + k2 * 2, none⟩) hbN).trans q0, (hb.cell (p := ⟨b2, o2 + k2 * 2 + 1, none⟩) hbN).trans q1⟩)
          have C1 := Lib.hid ((hR.new (Below.refl _ _).drew).store (by omega) hx hy)
          clear q0 q1
          obtain ⟨q0, q1⟩ := LN.out _ hR.bel.drew
          have c8' : wr.drew.cell? ⟨N, 8, none⟩ = some (.slice (some ⟨b2, o2, none⟩) l2 c2) := c8
          have p0' : wr.drew.cell? ⟨P, 0, none⟩ = some (.pointer (some ⟨A.p, 0, none⟩)) := p0
          have p1' : wr.drew.cell? ⟨P, 1, none⟩ = some (.pointer (some ⟨R.p, 0, none⟩)) := p1
          have hkc : k2 < c2 := by omega
          have j0 : (0 : Int) ≤ (k2 : Int) := by omega
          have j1 : (k2 : Int) < (l2 : Int) := by omega
          clear hR hbN c6 c7 c9 p0 p1 hx hy
          go_wp2_with fail
          clear c8
          go_region_held3 (fun X => X.cell? ⟨N, 8, none⟩ = some (.slice (some ⟨b2, o2, none⟩) l2 c2) ∧ X.cell? ⟨P, 0, none⟩ = some (.pointer (some ⟨A.p, 0, none⟩)) ∧ X.cell? ⟨P, 1, none⟩ = some (.pointer (some ⟨R.p, 0, none⟩)) ∧ X.cell? ⟨b2, o2 + k2 * 2, none⟩ = some (.int .u64 x) ∧ X.cell? ⟨b2, o2 + k2 * 2 + 1, none⟩ = some (.int .u64 y'))
            (first | exact ⟨by assumption, by assumption, by assumption, by assumption, by assumption⟩)
            (first
              | (go_at_call 22; ((refine C1.out.mono ?_); rintro e w11 ⟨rfl, h11⟩; clear c8' p0' p1' q0 q1; obtain ⟨q0, q1⟩ := LN.out _ h11.bel; obtain ⟨-, -, c8', -, p0', p1'⟩ := h11.cells; have H11 := Lib.hid h11; clear h11)))
          all_goals
            clear c8' p0' p1' q0 q1
            go_wp2_with fail
            go_roundw
            case rel => exact ⟨k2 + 1, by omega, by go_num, H11.out.mono (by omega)⟩
            case measure => simp [intOf]; omega
        · obtain rfl : l2 = k2 := by omega
          obtain ⟨V, S', T', hI, hFx, hVI, hn⟩ := hR
          have d0 := hI.d0
          have d1' := hI.d1
          have z0 := hI.z0
          have z1 := hI.z1
          have HI := Lib.hid hI
          have HFX := Lib.hid (And.intro hFx (And.intro hVI hn))
          clear hI c6 c7 c9 HS4 hFx hVI hn hlt hk2
          go_upto_region 27 with (fail)
          clear c8 hl2
          iterate 11 (first | go_values | go_skip | go_guarded | go_step | go_upon | go_back)
          have hl2 := HLS.out.2.2
          obtain ⟨hFx, hVI, hn⟩ := HFX.out
          have hk10 : ∀ u v, Keeps (fun j => j = N + 1) wr ((wr.setCell ⟨N + 1, 0, none⟩ u).setCell ⟨N + 1, 1, none⟩ v) := fun u v => ((Keeps.refl (fun j => j = N + 1) wr).setCell (p := ⟨N + 1, 0, none⟩) (.inl rfl) _).setCell (p := ⟨N + 1, 1, none⟩) (.inl rfl) _
          have hN := HN.out
          have hfp := HI.out.fp
          refine bodyPost_ret (v := .agg #[.pointer (some ⟨A.p, 0, none⟩), .pointer (some ⟨R.p, 0, none⟩)]) (by simp [results, Tryz.results5, go_sem, setO, World.cell?_setCell_same, d0, d1']) rfl ⟨A, R, V, S', T', rfl, ?_, ⟨hFx.m, hFx.h, hFx.tk⟩, ?_, hVI, by omega, ?_, ?_⟩
          · exact HI.out.pw.keep (hk10 _ _) (fun j s e => by have := HI.out.st j (.inl s); omega) (fun j s e => by have := HI.out.st j (.inr s); omega)
          · rw [hFx.c]
            show 1 ≤ cc.bits ∧ _
            rw [← HCC.out]
            exact HMM.out
          · intro j s
            have := HI.out.st j s
            omega
          · have hb := HI.out.bel.trans ((hk10 (.pointer (some ⟨A.p, 0, none⟩)) (.pointer (some ⟨R.p, 0, none⟩))).to_below (B := N) (fun k _ e => by omega) (by have := HI.out.bel.size; omega))
            rw [← hN]
            exact hb
end Go.Proofs.YtodppilfpemepaaGreat
/- Next: First: has it more in it than is gone through? -/
namespace Go.Proofs.YtodppilfpemepaaGreat
open Go.RowKit Go.Maps
set_option linter.unusedVariables false
/-- What Great tells. -/
def GrP (w : World) (l0 l1 l2 : Nat) (L : List It) (e : Ending) (w' : World) : Prop := ∃ r, e = .returned (.bool r) ∧ Below w.heap.size w w' ∧ (r = false → l0 ≤ 40 ∧ l1 ≤ 60 ∧ l2 ≤ 60 ∧ ∀ x, x ∈ L → x.1.size ≤ 400 ∧ x.2.1.size ≤ 2000)
end Go.Proofs.YtodppilfpemepaaGreat
/- Next: What a law begins with: Great, Begin; the pair behind it, beside blocks that stand. -/
namespace Go.Proofs.YtodppilfpemepaaGreat
open Go.RowKit Go.Maps
set_option linter.unusedVariables false
theorem Lay.new {w W : World} {b off : Nat} {L : List It} (h : Lay w b off L) (hb : Below w.heap.size w W) : Lay W b off L := fun i x hx => by
  obtain ⟨d0, d1, d2, d3, d4, d5⟩ := h i x hx
  have lt : ∀ {o v}, w.cell? ⟨b, o, none⟩ = some v → W.cell? ⟨b, o, none⟩ = some v := fun {o v} hc => (hb.cell (p := ⟨b, o, none⟩) (World.block_lt_of_cell? _ _ hc)).trans hc
  exact ⟨lt d0, lt d1, lt d2, lt d3, lt d4, lt d5⟩
def BigOk (l0 l1 l2 : Nat) (L : List It) : Prop := l0 ≤ 40 ∧ l1 ≤ 60 ∧ l2 ≤ 60 ∧ ∀ x, x ∈ L → x.1.size ≤ 400 ∧ x.2.1.size ≤ 2000
/-- A pair of worlds beside the blocks of G. -/
def PwG (G : Nat → Prop) (w : World) (A R : Ad) (V : Wv) : Prop := ∃ S T, Pw w A R V S T ∧ (∀ k, G k → ¬ (S k ∨ T k)) ∧ ∀ k, G k → k < w.heap.size
section
variable {G : Nat → Prop} {w W : World} {A R : Ad} {V : Wv}
theorem Pw.lts {S T : Nat → Prop} (h : Pw w A R V S T) : ∀ j, S j ∨ T j → j < w.heap.size := fun j s => by
  rcases s with s | s
  · exact h.a.lt j s
  · obtain ⟨L, ⟨TC, TI, TN, r⟩, -⟩ := h.r
    exact r.lt j s
theorem PwG.new (h : PwG G w A R V) (hb : Below w.heap.size w W) : PwG G W A R V := by
  obtain ⟨S, T, h1, h2, h3⟩ := h
  exact ⟨S, T, h1.new hb, h2, fun k g => Nat.lt_of_lt_of_le (h3 k g) hb.size⟩
theorem PwG.less {G' : Nat → Prop} (h : PwG G w A R V) (hG : ∀ k, G' k → G k) : PwG G' w A R V := by
  obtain ⟨S, T, h1, h2, h3⟩ := h
  exact ⟨S, T, h1, fun k g => h2 k (hG k g), fun k g => h3 k (hG k g)⟩
/-- A block more, that is new. -/
theorem PwG.add {q : Nat} (h : PwG G w A R V) (hb : Below w.heap.size w W) (hq : w.heap.size ≤ q) (hq2 : q < W.heap.size) : PwG (fun k => G k ∨ k = q) W A R V := by
  obtain ⟨S, T, h1, h2, h3⟩ := h
  refine ⟨S, T, h1.new hb, fun k g => ?_, fun k g => ?_⟩
  · rcases g with g | rfl
    · exact h2 k g
    · intro s
      have := h1.lts _ s
      omega
  · rcases g with g | rfl
    · exact Nat.lt_of_lt_of_le (h3 k g) hb.size
    · exact hq2
theorem PwG.wd (h : PwG G w A R V) : WdG G w A V := by
  obtain ⟨S, T, h1, h2, h3⟩ := h
  exact ⟨S, h1.a, fun k g s => h2 k g (.inl s), h3⟩
theorem PwG.post {V' : Wv} {S T : Nat → Prop} (h2 : ∀ k, G k → ¬ (S k ∨ T k)) (h3 : ∀ k, G k → k < w.heap.size) (hp : PwPost w A R V' S T W) : PwG G W A R V' ∧ Kp G w W := by
  obtain ⟨S', T', q, k, o⟩ := hp
  refine ⟨⟨S', T', q, fun j g s => ?_, fun j g => Nat.lt_of_lt_of_le (h3 j g) k.size⟩, k.mono (fun j _ s g => h2 j g s)⟩
  rcases o j s with s | s
  · exact h2 j g s
  · have := h3 j g; omega
theorem PwG.of_begin {L : List It} {S T : Nat → Prop} (h : Pw W A R V S T) (hST : ∀ j, S j ∨ T j → w.heap.size ≤ j) (hb : Below w.heap.size w W) : PwG (fun k => k < w.heap.size) W A R V :=
  ⟨S, T, h, fun k g s => by have := hST k s; omega, fun k g => Nat.lt_of_lt_of_le g hb.size⟩
theorem PwG.store (h : PwG G w A R V) (hc : V.cnt < 100000000) {a v : Int} (ha : isU a) (hv : isU v) :
    Calls Tryz.prog 22 #[.agg #[.pointer (some ⟨A.p, 0, none⟩), .pointer (some ⟨R.p, 0, none⟩)], .agg #[.int .u64 a, .int .u64 v]] w fun e w' => e = .returned (.tuple #[]) ∧ PwG G w' A R (V.acc (upd V.f a v) 2 a (V.f a) v) ∧ Kp G w w' := by
  obtain ⟨S, T, h1, h2, h3⟩ := h
  exact (pw_store h1 hc ha hv).mono fun e w' ⟨he, hp⟩ => ⟨he, PwG.post h2 h3 hp⟩
end
end Go.Proofs.YtodppilfpemepaaGreat
