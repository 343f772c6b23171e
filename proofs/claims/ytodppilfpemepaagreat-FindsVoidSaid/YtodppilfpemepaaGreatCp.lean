/- The program's cells and the chapter's, side by side: one access of both. -/
import Derived.Test.YtodppilfpemepaaGreatGRg
import Derived.Test.YtodppilfpemepaaGreatGCl
import Derived.BigQuiet
import Derived.Deep.QuietTactic
import Derived.Deep.RegionHeld3
namespace Go.Proofs.YtodppilfpemepaaGreat
open Go.RowKit
set_option linter.unusedVariables false

structure CP (w : World) (p r : Nat) (f : Int → Int) (cnt k a x y : Int) (L : List (Int × Int)) (n : Nat) (S T : Nat → Prop) : Prop where
  c : Cel w p f cnt k a x y n S
  g : Rg w r L cnt k a x y T
  l : IsLs L f
  dis : ∀ j, S j → ¬ T j
  lt : ∀ j, S j → j < w.heap.size
  ln : (L.length : Int) ≤ cnt + 1000000
section
variable {w W : World} {p r : Nat} {f : Int → Int} {cnt k a x y u v z : Int} {L : List (Int × Int)} {n : Nat} {S T U : Nat → Prop}
theorem CP.keep (h : CP w p r f cnt k a x y L n S T) (hk : Keeps U w W) (hS : ∀ j, S j → ¬ U j) (hT : ∀ j, T j → ¬ U j) : CP W p r f cnt k a x y L n S T :=
  ⟨IsCells.keep h.c hk hS, h.g.keep hk hT, h.l, h.dis, fun j s => Nat.lt_of_lt_of_le (h.lt j s) hk.size, h.ln⟩
theorem CP.new (h : CP w p r f cnt k a x y L n S T) (hb : Below w.heap.size w W) : CP W p r f cnt k a x y L n S T := h.keep (U := fun _ => False) (Keeps.of_new hb) (fun _ _ s => s) (fun _ _ s => s)
/-- What an access of both leaves. -/
def CPost (w : World) (p r : Nat) (S T : Nat → Prop) (cnt : Int) (f : Int → Int) (k a x y : Int) (n : Nat) (w' : World) : Prop :=
  ∃ L' S' T', CP w' p r f cnt k a x y L' n S' T' ∧ Keeps (fun j => S j ∨ T j) w w' ∧ ∀ j, S' j ∨ T' j → (S j ∨ T j) ∨ w.heap.size ≤ j
theorem CP.step {w1 w2 : World} {k0 a0 x0 y0 kk : Int} (h : CP w p r f cnt k0 a0 x0 y0 L n S T) (h1 : AccPost w p (upd f a v) (cnt + 1) kk a u v (n + 1) S w1) (h2 : RPost w1 r (putL L a v) (cnt + 1) kk a u v T w2) (ha : isU a) (hv : isU v) : CPost w p r S T (cnt + 1) (upd f a v) kk a u v (n + 1) w2 := by
  obtain ⟨S', t1, c'⟩ := h1
  obtain ⟨T', t2, g'⟩ := h2
  have s1 := t1.keeps.size
  have s2 := t2.keeps.size
  have hST : ∀ j, S' j → ¬ T j := fun j s t => by
    have := h.g.lt j t
    rcases t1.only j s with s | s
    · exact h.dis j s t
    · omega
  refine ⟨_, S', T', ⟨IsCells.keep c' t2.keeps hST, g', h.l.put ha hv, fun j s t => ?_, fun j s => ?_, ?_⟩, (t1.keeps.mono (fun j _ s => .inl s)).trans (t2.keeps.mono (fun j _ s => .inr s)) (fun j _ s => s), fun j s => ?_⟩
  · rcases t2.only j t with t | t
    · exact hST j s t
    · rcases t1.only j s with s | s
      · have := h.lt j s; omega
      · omega
  · rcases t1.only j s with s | s
    · have := h.lt j s; omega
    · omega
  · have := goL_len a v L (v == 0)
    have := h.ln
    unfold putL
    omega
  · rcases s with s | s
    · rcases t1.only j s with s | s
      · exact .inl (.inl s)
      · exact .inr (by omega)
    · rcases t2.only j s with s | s
      · exact .inl (.inr s)
      · exact .inr (by omega)
theorem AccPost.cell {w1 : World} {f' : Int → Int} {c' k' a' x' y' : Int} {n' : Nat} (h : AccPost w p f' c' k' a' x' y' n' S w1) {b j : Nat} {q : Value} (hb : ¬ S b) (hc : w.cell? ⟨b, j, none⟩ = some q) : w1.cell? ⟨b, j, none⟩ = some q := by
  obtain ⟨S', t, -⟩ := h
  exact t.keeps.cell (p := ⟨b, j, none⟩) hb hc
theorem RPost.cell {w1 : World} {M : List (Int × Int)} {c' k' a' x' y' : Int} (h : RPost w r M c' k' a' x' y' T w1) {b j : Nat} {q : Value} (hb : ¬ T b) (hc : w.cell? ⟨b, j, none⟩ = some q) : w1.cell? ⟨b, j, none⟩ = some q := by
  obtain ⟨T', t, -⟩ := h
  exact t.keeps.cell (p := ⟨b, j, none⟩) hb hc
theorem CP.rg {w1 : World} {f' : Int → Int} {c' k' a' x' y' : Int} {n' : Nat} (h : CP w p r f cnt k a x y L n S T) (h1 : AccPost w p f' c' k' a' x' y' n' S w1) : Rg w1 r L cnt k a x y T := by
  obtain ⟨S', t, -⟩ := h1
  exact h.g.keep t.keeps (fun j t s => h.dis j s t)
variable (h : Cel w p f cnt k a x y n S) {xa : Int} (ha : isU xa) (hn : n ≤ 1000000000) (hc0 : 0 ≤ cnt) (hc1 : cnt ≤ 1000000000) (hu : f xa = u)
include h ha hn hc0 hc1 hu
theorem c_load : Calls Tryz.prog 50 #[.pointer (some ⟨p, 0, none⟩), .int .u64 xa] w fun e w' => e = .returned (.int .u64 u) ∧ AccPost w p (upd f xa u) (cnt + 1) 1 xa u u (n + 1) S w' := by
  subst hu
  rw [upd_id]
  exact load_any h ha (by omega) hc0 (by omega)
theorem c_store (hv : isU v) : Calls Tryz.prog 39 #[.pointer (some ⟨p, 0, none⟩), .int .u64 xa, .int .u64 v] w fun e w' => e = .returned (.int .u64 u) ∧ AccPost w p (upd f xa v) (cnt + 1) 2 xa u v (n + 1) S w' := by
  subst hu
  exact store_any h ha hv (by omega) hc0 (by omega)
theorem c_add (hz : IntKind.u64.wrap (u + v) = z) : Calls Tryz.prog 220 #[.pointer (some ⟨p, 0, none⟩), .int .u64 xa, .int .u64 v] w fun e w' => e = .returned (.int .u64 u) ∧ AccPost w p (upd f xa z) (cnt + 1) 4 xa u z (n + 1) S w' := by
  subst hu
  subst hz
  exact add_any h ha (by omega) hc0 (by omega)
theorem c_cas (hS : ∀ j, S j → j < w.heap.size) (hv : isU v) {b : Bool} (hb : (u == z) = b) : Calls Tryz.prog 106 #[.pointer (some ⟨p, 0, none⟩), .int .u64 xa, .int .u64 z, .int .u64 v] w fun e w' => e = .returned (.tuple #[.int .u64 u, .bool b]) ∧ AccPost w p (upd f xa (casI b v u)) (cnt + 1) 3 xa u (casI b v u) (n + 1) S w' := by
  subst hu
  exact cas_any h hS ha hv (by omega) hc0 (by omega) hb
end
theorem five5 {kd : Int} (h : 0 ≤ kd ∧ kd ≤ 255) : kd.tmod 5 = 0 ∨ kd.tmod 5 = 1 ∨ kd.tmod 5 = 2 ∨ kd.tmod 5 = 3 ∨ kd.tmod 5 = 4 := by
  rw [Int.tmod_eq_emod_of_nonneg h.1]; omega
def SmP (w : World) (p r : Nat) (S T : Nat → Prop) (cnt : Int) (xa : Int) (n : Nat) (w' : World) : Prop := ∃ f' k x y, CPost w p r S T cnt f' k xa x y n w'
theorem CPost.after {w w1 w' : World} {p r : Nat} {S T : Nat → Prop} {cnt : Int} {f : Int → Int} {k a x y : Int} {n : Nat} (hb : Below w.heap.size w w1) (h : CPost w1 p r S T cnt f k a x y n w') : CPost w p r S T cnt f k a x y n w' := by
  obtain ⟨L', S', T', q, hk, ho⟩ := h
  have := hb.size
  exact ⟨L', S', T', q, (Keeps.of_new hb).trans hk (fun _ _ s => s), fun j s => (ho j s).imp id (fun h => by omega)⟩
end Go.Proofs.YtodppilfpemepaaGreat
