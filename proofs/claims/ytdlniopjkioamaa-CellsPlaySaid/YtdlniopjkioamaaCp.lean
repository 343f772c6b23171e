/- The program's cells and the chapter's, side by side: one access of both. -/
import Derived.Test.YtdlniopjkioamaaRgO
import Derived.Test.YtdlniopjkioamaaClS
import Derived.BigQuiet
import Derived.Deep.QuietTactic
import Derived.Deep.RegionHeld3
namespace Go.Proofs.Ytdlniopjkioamaa
open Go.RowKit
set_option linter.unusedVariables false

structure CP (w : World) (p r : Nat) (f : Int → Int) (cnt k a x y : Int) (L : List (Int × Int)) (n : Nat) (S T : Nat → Prop) : Prop where
  c : Cel w p f cnt k a x y n S
  g : Rg w r L cnt k a x y T
  l : IsL L f
  dis : ∀ j, S j → ¬ T j
  lt : ∀ j, S j → j < w.heap.size
  ln : L.length ≤ n + 1000000
section
variable {w W : World} {p r : Nat} {f : Int → Int} {cnt k a x y u v z : Int} {L : List (Int × Int)} {n : Nat} {S T U : Nat → Prop}
theorem CP.keep (h : CP w p r f cnt k a x y L n S T) (hk : Keeps U w W) (hS : ∀ j, S j → ¬ U j) (hT : ∀ j, T j → ¬ U j) : CP W p r f cnt k a x y L n S T :=
  ⟨IsCells.keep h.c hk hS, h.g.keep hk hT, h.l, h.dis, fun j s => Nat.lt_of_lt_of_le (h.lt j s) hk.size, h.ln⟩
theorem CP.new (h : CP w p r f cnt k a x y L n S T) (hb : Below w.heap.size w W) : CP W p r f cnt k a x y L n S T := h.keep (U := fun _ => False) (Keeps.of_new hb) (fun _ _ s => s) (fun _ _ s => s)
/-- What an access of both leaves. -/
def CPost (w : World) (p r : Nat) (S T : Nat → Prop) (cnt : Int) (f : Int → Int) (k a x y : Int) (n : Nat) (w' : World) : Prop :=
  ∃ L' S' T', CP w' p r f cnt k a x y L' n S' T' ∧ Keeps (fun j => S j ∨ T j) w w' ∧ ∀ j, S' j ∨ T' j → (S j ∨ T j) ∨ w.heap.size ≤ j
theorem CP.step {w1 w2 : World} {k0 a0 x0 y0 kk : Int} (h : CP w p r f cnt k0 a0 x0 y0 L n S T) (h1 : AccPost w p (upd f a v) (cnt + 1) kk a u v (n + 1) S w1) (h2 : RPost w1 r (putL L a v) (cnt + 1) kk a u v T w2) (ha : isU a) (hv : isU v) : CPost w p r S T (cnt + 1) (upd f a v) kk a u v (n + 1) w2 := by
  obtain ⟨S', t1, c'⟩ := h1
  obtain ⟨T', t2, g'⟩ := h2
  have s1 := t1.keeps.size
  have s2 := t2.keeps.size
  have hST : ∀ j, S' j → ¬ T j := fun j s t => by
    have := h.g.lt j t
    rcases t1.only j s with s | s
    · exact h.dis j s t
    · omega
  refine ⟨_, S', T', ⟨IsCells.keep c' t2.keeps hST, g', h.l.put ha hv, fun j s t => ?_, fun j s => ?_, ?_⟩, (t1.keeps.mono (fun j _ s => .inl s)).trans (t2.keeps.mono (fun j _ s => .inr s)) (fun j _ s => s), fun j s => ?_⟩
  · rcases t2.only j t with t | t
    · exact hST j s t
    · rcases t1.only j s with s | s
      · have := h.lt j s; omega
      · omega
  · rcases t1.only j s with s | s
    · have := h.lt j s; omega
    · omega
  · have := goL_len a v L (v == 0)
    have := h.ln
    unfold putL
    omega
  · rcases s with s | s
    · rcases t1.only j s with s | s
      · exact .inl (.inl s)
      · exact .inr (by omega)
    · rcases t2.only j s with s | s
      · exact .inl (.inr s)
      · exact .inr (by omega)
theorem AccPost.cell {w1 : World} {f' : Int → Int} {c' k' a' x' y' : Int} {n' : Nat} (h : AccPost w p f' c' k' a' x' y' n' S w1) {b j : Nat} {q : Value} (hb : ¬ S b) (hc : w.cell? ⟨b, j, none⟩ = some q) : w1.cell? ⟨b, j, none⟩ = some q := by
  obtain ⟨S', t, -⟩ := h
  exact t.keeps.cell (p := ⟨b, j, none⟩) hb hc
theorem RPost.cell {w1 : World} {M : List (Int × Int)} {c' k' a' x' y' : Int} (h : RPost w r M c' k' a' x' y' T w1) {b j : Nat} {q : Value} (hb : ¬ T b) (hc : w.cell? ⟨b, j, none⟩ = some q) : w1.cell? ⟨b, j, none⟩ = some q := by
  obtain ⟨T', t, -⟩ := h
  exact t.keeps.cell (p := ⟨b, j, none⟩) hb hc
theorem CP.rg {w1 : World} {f' : Int → Int} {c' k' a' x' y' : Int} {n' : Nat} (h : CP w p r f cnt k a x y L n S T) (h1 : AccPost w p f' c' k' a' x' y' n' S w1) : Rg w1 r L cnt k a x y T := by
  obtain ⟨S', t, -⟩ := h1
  exact h.g.keep t.keeps (fun j t s => h.dis j s t)
variable (h : Cel w p f cnt k a x y n S) {xa : Int} (ha : isU xa) (hn : n ≤ 1000000000) (hc0 : 0 ≤ cnt) (hc1 : cnt ≤ 1000000000) (hu : f xa = u)
include h ha hn hc0 hc1 hu
theorem c_load : Calls Try.prog 13 #[.pointer (some ⟨p, 0, none⟩), .int .u64 xa] w fun e w' => e = .returned (.int .u64 u) ∧ AccPost w p (upd f xa u) (cnt + 1) 1 xa u u (n + 1) S w' := by
  subst hu
  rw [upd_id]
  exact load_any h ha (by omega) hc0 (by omega)
theorem c_store (hv : isU v) : Calls Try.prog 12 #[.pointer (some ⟨p, 0, none⟩), .int .u64 xa, .int .u64 v] w fun e w' => e = .returned (.int .u64 u) ∧ AccPost w p (upd f xa v) (cnt + 1) 2 xa u v (n + 1) S w' := by
  subst hu
  exact store_any h ha hv (by omega) hc0 (by omega)
theorem c_swap (hv : isU v) : Calls Try.prog 16 #[.pointer (some ⟨p, 0, none⟩), .int .u64 xa, .int .u64 v] w fun e w' => e = .returned (.int .u64 u) ∧ AccPost w p (upd f xa v) (cnt + 1) 5 xa u v (n + 1) S w' := by
  subst hu
  exact swap_any h ha hv (by omega) hc0 (by omega)
theorem c_add (hz : IntKind.u64.wrap (u + v) = z) : Calls Try.prog 15 #[.pointer (some ⟨p, 0, none⟩), .int .u64 xa, .int .u64 v] w fun e w' => e = .returned (.int .u64 u) ∧ AccPost w p (upd f xa z) (cnt + 1) 4 xa u z (n + 1) S w' := by
  subst hu
  subst hz
  exact add_any h ha (by omega) hc0 (by omega)
theorem c_cas (hS : ∀ j, S j → j < w.heap.size) (hv : isU v) {b : Bool} (hb : (u == z) = b) : Calls Try.prog 14 #[.pointer (some ⟨p, 0, none⟩), .int .u64 xa, .int .u64 z, .int .u64 v] w fun e w' => e = .returned (.tuple #[.int .u64 u, .bool b]) ∧ AccPost w p (upd f xa (casI b v u)) (cnt + 1) 3 xa u (casI b v u) (n + 1) S w' := by
  subst hu
  exact cas_any h hS ha hv (by omega) hc0 (by omega) hb
end
theorem five5 {kd : Int} (h : 0 ≤ kd ∧ kd ≤ 255) : kd.tmod 5 = 0 ∨ kd.tmod 5 = 1 ∨ kd.tmod 5 = 2 ∨ kd.tmod 5 = 3 ∨ kd.tmod 5 = 4 := by
  rw [Int.tmod_eq_emod_of_nonneg h.1]; omega
def SmP (w : World) (p r : Nat) (S T : Nat → Prop) (cnt : Int) (xa : Int) (n : Nat) (w' : World) : Prop := ∃ f' k x y, CPost w p r S T cnt f' k xa x y n w'
theorem CPost.after {w w1 w' : World} {p r : Nat} {S T : Nat → Prop} {cnt : Int} {f : Int → Int} {k a x y : Int} {n : Nat} (hb : Below w.heap.size w w1) (h : CPost w1 p r S T cnt f k a x y n w') : CPost w p r S T cnt f k a x y n w' := by
  obtain ⟨L', S', T', q, hk, ho⟩ := h
  have := hb.size
  exact ⟨L', S', T', q, (Keeps.of_new hb).trans hk (fun _ _ s => s), fun j s => (ho j s).imp id (fun h => by omega)⟩
set_option maxHeartbeats 4000000 in
set_option maxRecDepth 100000 in
theorem same_any {w : World} {p r n : Nat} {f : Int → Int} {cnt k0 a0 x0 y0 : Int} {L : List (Int × Int)} {S T : Nat → Prop} (h : CP w p r f cnt k0 a0 x0 y0 L n S T) (hn : n ≤ 100000000) (hc0 : 0 ≤ cnt) (hc1 : cnt ≤ 100000000) {kd xa xv xi : Int} (hkd : 0 ≤ kd ∧ kd ≤ 255) (ux : isU xa) (uv : isU xv) (ui : isU xi) :
    Calls Try.prog 8 #[.pointer (some ⟨p, 0, none⟩), .pointer (some ⟨r, 0, none⟩), .agg #[.int .u8 kd, .int .u64 xa, .int .u64 xv, .int .u64 xi]] w fun e w' => e = .returned (.bool true) ∧ SmP w p r S T (cnt + 1) xa (n + 1) w' := by
  have h5 := five5 hkd
  obtain ⟨u, hu⟩ : ∃ u, f xa = u := ⟨_, rfl⟩
  have uu : isU u := hu ▸ h.c.rng xa ux
  have hpk : peekL L xa = u := (h.l.peek ux).trans hu
  have hLn : L.length ≤ 1000000000 := by have := h.ln; omega
  have hcc : cnt < 1000000000000 := by omega
  have hnn : n ≤ 1000000000 := by omega
  have hcn : cnt ≤ 1000000000 := by omega
  have HH := Lib.hid h
  clear h hn hc1
  rcases h5 with h5 | h5 | h5 | h5 | h5
  all_goals
    have h5' : kd % 5 = kd.tmod 5 := (Int.tmod_eq_emod_of_nonneg hkd.1).symm
    rw [h5] at h5'
    go_enter Try.func8, Try.ntmps8
    go_wp2_with fail
    generalize hW : w.alloc _ = W
    have bW : Below w.heap.size w W := by rw [← hW]; exact (Below.refl _ _).alloc (Nat.le_refl _) _
    have x1 : W.cell? ⟨w.heap.size, 1, none⟩ = some (.int .u64 xa) := by rw [← hW]; simp
    have x2 : W.cell? ⟨w.heap.size, 2, none⟩ = some (.int .u64 xv) := by rw [← hW]; simp
    have x3 : W.cell? ⟨w.heap.size, 3, none⟩ = some (.int .u64 xi) := by rw [← hW]; simp
    have hnS : ¬ S w.heap.size := fun s => by have := HH.out.lt _ s; omega
    have hnT : ¬ T w.heap.size := fun s => by have := HH.out.g.lt _ s; omega
    replace x1 : W.drew.cell? ⟨w.heap.size, 1, none⟩ = some (.int .u64 xa) := x1
    have q0 : CP W p r f cnt k0 a0 x0 y0 L n S T := HH.out.new bW
    have q1 : CP W.drew p r f cnt k0 a0 x0 y0 L n S T := HH.out.new bW.drew
    have HB := Lib.hid bW
    have HX := Lib.hid hnS
    have HY := Lib.hid hnT
    have Q0 := Lib.hid q0
    have Q1 := Lib.hid q1
    clear hW bW hnS hnT q0 q1 HH
  · have C1 := Lib.hid (c_load Q1.out.c ux hnn hc0 hcn hu)
    clear x2 x3
    go_region_held3 (fun w' => w'.cell? ⟨w.heap.size, 1, none⟩ = some (.int .u64 xa))
      (first
        | assumption)
      (first
        | (go_at_call 13; ((with_reducible refine C1.out.mono ?_); rintro e w2 ⟨rfl, hd⟩; have y1 := hd.cell HX.out x1; have C2 := Lib.hid (rg_load (Q1.out.rg hd) hLn hc0 hcc hpk); have HD := Lib.hid hd; clear hd))
        | (go_at_call 21; ((with_reducible refine C2.out.mono ?_); rintro e w3 ⟨rfl, hk⟩; have D := CPost.after HB.out.drew (Q1.out.step HD.out hk ux uu); have y3 := hk.cell HY.out y1;)))
    all_goals
      go_wp2
      go_ret
      exact ⟨rfl, _, _, _, _, D⟩
  · have C1 := Lib.hid (c_store (v := xv) Q1.out.c ux hnn hc0 hcn hu uv)
    replace x2 : W.drew.cell? ⟨w.heap.size, 2, none⟩ = some (.int .u64 xv) := x2
    clear x3
    go_region_held3 (fun w' => w'.cell? ⟨w.heap.size, 1, none⟩ = some (.int .u64 xa) ∧ w'.cell? ⟨w.heap.size, 2, none⟩ = some (.int .u64 xv))
      (first
        | exact ⟨by assumption, by assumption⟩)
      (first
        | (go_at_call 12; ((with_reducible refine C1.out.mono ?_); rintro e w2 ⟨rfl, hd⟩; have y1 := hd.cell HX.out x1; have y2 := hd.cell HX.out x2; have C2 := Lib.hid (rg_store (Q1.out.rg hd) hLn hc0 hcc hpk xv); have HD := Lib.hid hd; clear hd))
        | (go_at_call 22; ((with_reducible refine C2.out.mono ?_); rintro e w3 ⟨rfl, hk⟩; have D := CPost.after HB.out.drew (Q1.out.step HD.out hk ux uv); have y3 := hk.cell HY.out y1; have y4 := hk.cell HY.out y2;)))
    all_goals
      go_wp2
      go_ret
      exact ⟨rfl, _, _, _, _, D⟩
  · obtain ⟨b, hb⟩ : ∃ b, (u == xv) = b := ⟨_, rfl⟩
    have C1 := Lib.hid (c_cas (v := xi) Q0.out.c ux hnn hc0 hcn hu Q0.out.lt ui hb)
    replace x1 : W.cell? ⟨w.heap.size, 1, none⟩ = some (.int .u64 xa) := x1
    have HBB := Lib.hid hb
    clear hb
    go_wp2_with (go_at_call 14; ((with_reducible refine C1.out.mono ?_); rintro e w2 ⟨rfl, hd⟩; have y1 := hd.cell HX.out x1; have y2 := hd.cell HX.out x2; have y3 := hd.cell HX.out x3; have C2 := Lib.hid (rg_cas (Q0.out.rg hd) hLn hc0 hcc hpk xv xi HBB.out); have HD := Lib.hid hd; clear hd x1 x2 x3))
    refine C2.out.mono ?_
    rintro e w3 ⟨rfl, hk⟩
    have D := CPost.after HB.out (Q0.out.step HD.out hk ux (isU_cas ui uu))
    clear y1 y2 y3 C1 C2
    cases b
    all_goals
      go_wp2_with fail
      go_ret
      exact ⟨rfl, _, _, _, _, D⟩
  · have C1 := Lib.hid (c_swap (v := xv) Q1.out.c ux hnn hc0 hcn hu uv)
    replace x2 : W.drew.cell? ⟨w.heap.size, 2, none⟩ = some (.int .u64 xv) := x2
    clear x3
    go_region_held3 (fun w' => w'.cell? ⟨w.heap.size, 1, none⟩ = some (.int .u64 xa) ∧ w'.cell? ⟨w.heap.size, 2, none⟩ = some (.int .u64 xv))
      (first
        | exact ⟨by assumption, by assumption⟩)
      (first
        | (go_at_call 16; ((with_reducible refine C1.out.mono ?_); rintro e w2 ⟨rfl, hd⟩; have y1 := hd.cell HX.out x1; have y2 := hd.cell HX.out x2; have C2 := Lib.hid (rg_swap (Q1.out.rg hd) hLn hc0 hcc hpk xv); have HD := Lib.hid hd; clear hd))
        | (go_at_call 24; ((with_reducible refine C2.out.mono ?_); rintro e w3 ⟨rfl, hk⟩; have D := CPost.after HB.out.drew (Q1.out.step HD.out hk ux uv); have y3 := hk.cell HY.out y1; have y4 := hk.cell HY.out y2;)))
    all_goals
      go_wp2
      go_ret
      exact ⟨rfl, _, _, _, _, D⟩
  · obtain ⟨z, hz⟩ : ∃ z, IntKind.u64.wrap (u + xv) = z := ⟨_, rfl⟩
    have C1 := Lib.hid (c_add (v := xv) Q1.out.c ux hnn hc0 hcn hu hz)
    replace x2 : W.drew.cell? ⟨w.heap.size, 2, none⟩ = some (.int .u64 xv) := x2
    clear x3
    go_region_held3 (fun w' => w'.cell? ⟨w.heap.size, 1, none⟩ = some (.int .u64 xa) ∧ w'.cell? ⟨w.heap.size, 2, none⟩ = some (.int .u64 xv))
      (first
        | exact ⟨by assumption, by assumption⟩)
      (first
        | (go_at_call 15; ((with_reducible refine C1.out.mono ?_); rintro e w2 ⟨rfl, hd⟩; have y1 := hd.cell HX.out x1; have y2 := hd.cell HX.out x2; have C2 := Lib.hid (rg_add (Q1.out.rg hd) hLn hc0 hcc hpk xv hz); have HD := Lib.hid hd; clear hd))
        | (go_at_call 25; ((with_reducible refine C2.out.mono ?_); rintro e w3 ⟨rfl, hk⟩; have D := CPost.after HB.out.drew (Q1.out.step HD.out hk ux (hz ▸ isU_wrap _)); have y3 := hk.cell HY.out y1; have y4 := hk.cell HY.out y2;)))
    all_goals
      go_wp2
      go_ret
      exact ⟨rfl, _, _, _, _, D⟩
end Go.Proofs.Ytdlniopjkioamaa
