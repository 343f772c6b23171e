/- The chapter's worlds: May, New. -/
import Derived.Test.YtodppilfpemepaaGreatPw
import Derived.Deep.RegionHeld3
namespace Go.Proofs.YtodppilfpemepaaGreat
open Go.RowKit Go.Maps
set_option linter.unusedVariables false
theorem rmay10 (b u t q y : Int) (w : World) : Calls Tryz.prog 18 #[.agg #[.int .i64 b, .int .i64 u, .int .i64 t, .int .i64 q, .int .i64 y]] w fun e w' => e = .returned (.bool (mayc b u t q y)) ∧ Below w.heap.size w w' := by
  go_enter Tryz.func18, Tryz.ntmps18
  go_wp2_with fail
  all_goals
    go_ret
    refine ⟨?_, (Below.refl _ _).alloc (Nat.le_refl _) _⟩
    refine congrArg (fun x => Ending.returned (Value.bool x)) ?_
    unfold mayc
    first
      | (refine (decide_eq_false ?_).symm; omega)
      | exact decide_eq_decide.mpr (by omega)
theorem five_alloc {w : World} {Q : Nat} {c0 c1 c2 c3 c4 : Value} (h : w.cell? ⟨Q, 0, none⟩ = some c0 ∧ w.cell? ⟨Q, 1, none⟩ = some c1 ∧ w.cell? ⟨Q, 2, none⟩ = some c2 ∧ w.cell? ⟨Q, 3, none⟩ = some c3 ∧ w.cell? ⟨Q, 4, none⟩ = some c4) (o : Obj) : (w.alloc o).cell? ⟨Q, 0, none⟩ = some c0 ∧ (w.alloc o).cell? ⟨Q, 1, none⟩ = some c1 ∧ (w.alloc o).cell? ⟨Q, 2, none⟩ = some c2 ∧ (w.alloc o).cell? ⟨Q, 3, none⟩ = some c3 ∧ (w.alloc o).cell? ⟨Q, 4, none⟩ = some c4 := by
  have hq : Q < w.heap.size := World.block_lt_of_cell? _ _ h.1
  obtain ⟨h0, h1, h2, h3, h4⟩ := h
  exact ⟨(World.cell?_alloc_lt w o ⟨Q, 0, none⟩ hq).trans h0, (World.cell?_alloc_lt w o ⟨Q, 1, none⟩ hq).trans h1, (World.cell?_alloc_lt w o ⟨Q, 2, none⟩ hq).trans h2, (World.cell?_alloc_lt w o ⟨Q, 3, none⟩ hq).trans h3, (World.cell?_alloc_lt w o ⟨Q, 4, none⟩ hq).trans h4⟩
theorem zrw : Tryz.zeroCells98.toList = [.pointer none, .pointer none, .pointer none, .int .i64 0, .int .i64 0, .int .i64 0, .int .i64 0, .int .i64 0] ++ List.replicate 64 (.int .u64 0) ++ [.int .i64 0] := by kernel_rfl
theorem zrw_facts : Tryz.zeroCells98.size = 73 ∧ ∀ i, i < 64 → Tryz.zeroCells98[8 + i]? = some (.int .u64 0) := by
  refine ⟨by rw [← Array.length_toList, zrw]; rfl, fun i hi => ?_⟩
  rw [← Array.getElem?_toList, zrw, List.append_assoc, List.getElem?_append_right (by simp), List.getElem?_append_left (by simp; omega)]
  rw [show [Value.pointer none, .pointer none, .pointer none, .int .i64 0, .int .i64 0, .int .i64 0, .int .i64 0, .int .i64 0].length = 8 from rfl, Nat.add_sub_cancel_left, List.getElem?_replicate, if_pos hi]
/-- A block of two words. -/
structure Two (w : World) (q : Nat) (x y : Int) : Prop where
  c0 : w.cell? ⟨q, 0, none⟩ = some (.int .u64 x)
  c1 : w.cell? ⟨q, 1, none⟩ = some (.int .u64 y)
theorem two_new {W : World} {q : Nat} {x y : Int} {T : TypeId} (hq : q = W.heap.size) : Two (W.alloc (.cells #[.int .u64 x, .int .u64 y] T)) q x y := by
  subst hq
  exact ⟨by simp, by simp⟩
theorem two_alloc {W : World} {q : Nat} {x y : Int} {o : Obj} (h : Two W q x y) : Two (W.alloc o) q x y := by
  have hq := World.block_lt_of_cell? _ _ h.c0
  exact ⟨(World.cell?_alloc_lt W o ⟨q, 0, none⟩ hq).trans h.c0, (World.cell?_alloc_lt W o ⟨q, 1, none⟩ hq).trans h.c1⟩
theorem two_drew {W : World} {q : Nat} {x y : Int} (h : Two W q x y) : Two W.drew q x y := ⟨h.c0, h.c1⟩
/-- A block of one cell: nil. -/
structure Nil (w : World) (p : Nat) : Prop where
  c0 : w.cell? ⟨p, 0, none⟩ = some (.slice none 0 0)
  f0 : w.frozen? ⟨p, 0, none⟩ = false
theorem nil_new {W : World} {p : Nat} {T : TypeId} (hp : p = W.heap.size) : Nil (W.alloc (.cells #[.slice none 0 0] T)) p := by
  subst hp
  exact ⟨by simp, by simp⟩
theorem nil_alloc {W : World} {p : Nat} {o : Obj} (h : Nil W p) : Nil (W.alloc o) p := by
  have hp := World.block_lt_of_cell? _ _ h.c0
  exact ⟨(World.cell?_alloc_lt W o ⟨p, 0, none⟩ hp).trans h.c0, (((Keeps.refl (fun _ => False) W).alloc o).frozen (p := ⟨p, 0, none⟩) (fun s => s) hp) h.f0⟩
theorem nil_drew {W : World} {p : Nat} (h : Nil W p) : Nil W.drew p := ⟨h.c0, h.f0⟩
theorem nil_below {X W : World} {p : Nat} (K : Below X.heap.size X W) (h : Nil X p) : Nil W p := by
  have hp := World.block_lt_of_cell? _ _ h.c0
  exact ⟨(K.cell (p := ⟨p, 0, none⟩) hp).trans h.c0, (K.frozen (p := ⟨p, 0, none⟩) hp).trans h.f0⟩
theorem nil_ras {W : World} {p : Nat} (h : Nil W p) : Ras W p [] (fun k => k = p) :=
  ⟨_, h.c0, h.f0, World.ownsRow_nil _ _ _ _, fun g hg => by simp [Value.ownBlock] at hg, rfl, fun k e => by rw [e]; exact World.block_lt_of_cell? _ _ h.c0⟩
theorem nil_nrs {W : World} {p : Nat} (h : Nil W p) : Nrs W p [] (fun k => k = p) :=
  ⟨_, h.c0, h.f0, World.ownsRow_nil _ _ _ _, fun _ => rfl, fun g hg => by simp [Value.ownBlock] at hg, rfl, fun k e => by rw [e]; exact World.block_lt_of_cell? _ _ h.c0⟩
/-- The chapter's New of one word. -/
theorem rnew_two {X : World} {q : Nat} {x y : Int} (h : Two X q x y) : Calls Tryz.prog 51 #[.slice (some ⟨q, 0, none⟩) 1 1] X fun e w' => ∃ r T, e = .returned (.pointer (some ⟨r, 0, none⟩)) ∧ Below X.heap.size X w' ∧ Rg w' r (listL [(x, y)]) 0 0 0 0 0 T ∧ ∀ j, T j → X.heap.size ≤ j := by
  have hq := World.block_lt_of_cell? _ _ h.c0
  have hl : RL X (.slice (some ⟨q, 0, none⟩) 1 1) [(x, y)] (fun _ => True) := .inr ⟨q, 1, rfl, trivial, hq, Nat.le_refl _, by simp [maxLen], fun i z hz => by
    match i, hz with
    | 0, hz => simp at hz; subst hz; exact ⟨h.c0, h.c1⟩
    | i + 1, hz => simp at hz⟩
  refine (rg_new hl (by simp)).mono ?_
  rintro e w' ⟨rfl, hb, T, hg, hT⟩
  exact ⟨_, T, rfl, hb, hg, hT⟩
/-- The chapter's world as at first. -/
def NewR (w : World) (b u t q y : Int) (e : Ending) (w' : World) : Prop := ∃ R T, e = .returned (.tuple #[.pointer (some ⟨R.p, 0, none⟩), .int .i64 0]) ∧ Rw w' R (V0 ⟨b, u, t, q, y⟩) (listL [(2, b)]) T ∧ (∀ j, T j → w.heap.size ≤ j) ∧ Below w.heap.size w w'
theorem newR_end {w wE : World} {R : Ad} {b u t q y : Int} {TC : Nat → Prop} (hbox : IsBox wE R ⟨b, u, t, q, y⟩ (fun _ => 0) (-1)) (hc : Rg wE R.pc (listL [(2, b)]) 0 0 0 0 0 TC) (hi : Nil wE R.pi) (hn : Nil wE R.pn) (hT : ∀ j, TC j → j ≠ R.p ∧ j ≠ R.pi ∧ j ≠ R.pn ∧ w.heap.size ≤ j) (hd : R.pi ≠ R.p ∧ R.pn ≠ R.p ∧ R.pi ≠ R.pn) (hs : w.heap.size ≤ R.p ∧ w.heap.size ≤ R.pi ∧ w.heap.size ≤ R.pn) (hb : Below w.heap.size w wE) : NewR w b u t q y (.returned (.tuple #[.pointer (some ⟨R.p, 0, none⟩), .int .i64 0])) wE := by
  refine ⟨R, fun j => j = R.p ∨ j = R.pi ∨ j = R.pn ∨ TC j, rfl, ⟨TC, _, _, hbox, hc, nil_ras hi, nil_nrs hn, .inl rfl, fun k s => ⟨.inr (.inr (.inr s)), (hT k s).1, (hT k s).2.1, (hT k s).2.2.1⟩, fun k s => ⟨.inr (.inl s), ?_, ?_⟩, fun k s => ⟨.inr (.inr (.inl s)), ?_⟩, fun k s => ?_⟩, fun j s => ?_, hb⟩
  · have s' : k = R.pi := s; omega
  · have s' : k = R.pi := s; show ¬ k = R.pn; omega
  · have s' : k = R.pn := s; omega
  · rcases s with s | s | s | s
    · rw [s]; exact hbox.lt
    · rw [s]; exact World.block_lt_of_cell? _ _ hi.c0
    · rw [s]; exact World.block_lt_of_cell? _ _ hn.c0
    · exact hc.lt k s
  · rcases s with s | s | s | s
    · omega
    · omega
    · omega
    · exact (hT j s).2.2.2
end Go.Proofs.YtodppilfpemepaaGreat
/- Next: The chapter's worlds: New of a config that may be, and of one that may not. -/
namespace Go.Proofs.YtodppilfpemepaaGreat
open Go.RowKit Go.Maps
set_option linter.unusedVariables false
theorem bs_alloc {a w : World} {o : Obj} (h : Below a.heap.size a w) : Below a.heap.size a (w.alloc o) := h.alloc h.size o
theorem bs_drew {a w : World} (h : Below a.heap.size a w) : Below a.heap.size a w.drew := h.drew
theorem rg_after {w W : World} {r : Nat} {L : List (Int × Int)} {cnt k a x y : Int} {T : Nat → Prop} (h : Rg w r L cnt k a x y T) (hb : Below w.heap.size w W) : Rg W r L cnt k a x y T := h.keep (S := fun _ => False) (Keeps.of_new hb) (fun _ _ s => s)
theorem newR_end4 {w wE : World} {p pc pi pn : Nat} {b u t q y : Int} {TC : Nat → Prop} (hbox : IsBox wE ⟨p, pc, pi, pn⟩ ⟨b, u, t, q, y⟩ (fun _ => 0) (-1)) (hc : Rg wE pc (listL [(2, b)]) 0 0 0 0 0 TC) (hi : Nil wE pi) (hn : Nil wE pn) (hT : ∀ j, TC j → j ≠ p ∧ j ≠ pi ∧ j ≠ pn ∧ w.heap.size ≤ j) (hd : pi ≠ p ∧ pn ≠ p ∧ pi ≠ pn) (hs : w.heap.size ≤ p ∧ w.heap.size ≤ pi ∧ w.heap.size ≤ pn) (hb : Below w.heap.size w wE) : NewR w b u t q y (.returned (.tuple #[.pointer (some ⟨p, 0, none⟩), .int .i64 0])) wE :=
  newR_end (R := ⟨p, pc, pi, pn⟩) hbox hc hi hn hT hd hs hb
set_option maxHeartbeats 1000000 in
set_option maxRecDepth 100000 in
theorem newR_no (b u t q y : Int) (w : World) (hm : mayc b u t q y = false) : Calls Tryz.prog 20 #[.agg #[.int .i64 b, .int .i64 u, .int .i64 t, .int .i64 q, .int .i64 y]] w fun e w' => e = .returned (.tuple #[.pointer none, .int .i64 1]) ∧ Below w.heap.size w w' := by
  have CM := fun W => rmay10 b u t q y W
  rw [hm] at CM
  have C := Lib.hid CM
  clear CM hm
  go_enter Tryz.func20, Tryz.ntmps20
  go_wp2_with fail
  refine (C.out _).mono ?_
  rintro e w1 ⟨rfl, K1⟩
  have hb := ((Below.refl _ _).alloc (Nat.le_refl _) _).trans (K1.mono (by simp))
  clear K1
  go_wp2_with fail
  go_ret2
  exact ⟨rfl, hb⟩
set_option maxHeartbeats 4000000 in
set_option maxRecDepth 100000 in
theorem newR (b u t q y : Int) (w : World) (hm : mayc b u t q y = true) : Calls Tryz.prog 20 #[.agg #[.int .i64 b, .int .i64 u, .int .i64 t, .int .i64 q, .int .i64 y]] w (NewR w b u t q y) := by
  have CM := fun W => rmay10 b u t q y W
  rw [hm] at CM
  have C := Lib.hid CM
  have hb1 : 1 ≤ b ∧ b ≤ 12 := by
    have := of_decide_eq_true (show decide _ = true from hm)
    omega
  have h64 : IntKind.u64.wrap b = b := by simp [IntKind.wrap, IntKind.bits, IntKind.signed]; omega
  clear CM hm
  go_enter Tryz.func20, Tryz.ntmps20
  go_wp2_with fail
  obtain ⟨Q, hQ⟩ : ∃ Q, Q = w.heap.size := ⟨_, rfl⟩
  have HQ := Lib.hid hQ
  rw [← hQ]
  refine (C.out _).mono ?_
  rintro e w1 ⟨rfl, K1⟩
  have d0 := (K1.cell (p := ⟨Q, 0, none⟩) (by simp [hQ])).trans (show _ = some (.int .i64 b) by simp [hQ])
  have d1 := (K1.cell (p := ⟨Q, 1, none⟩) (by simp [hQ])).trans (show _ = some (.int .i64 u) by simp [hQ])
  have d2 := (K1.cell (p := ⟨Q, 2, none⟩) (by simp [hQ])).trans (show _ = some (.int .i64 t) by simp [hQ])
  have d3 := (K1.cell (p := ⟨Q, 3, none⟩) (by simp [hQ])).trans (show _ = some (.int .i64 q) by simp [hQ])
  have d4 := (K1.cell (p := ⟨Q, 4, none⟩) (by simp [hQ])).trans (show _ = some (.int .i64 y) by simp [hQ])
  have hb := ((Below.refl _ _).alloc (Nat.le_refl _) _).trans (K1.mono (by simp))
  have sQ : Q < w1.heap.size := by have := K1.size; simp at this; omega
  have HB := Lib.hid hb
  clear K1 hb hQ
  go_wp2_with fail
  go_region_held3 (fun w' => w'.cell? ⟨Q, 0, none⟩ = some (.int .i64 b) ∧ w'.cell? ⟨Q, 1, none⟩ = some (.int .i64 u) ∧ w'.cell? ⟨Q, 2, none⟩ = some (.int .i64 t) ∧ w'.cell? ⟨Q, 3, none⟩ = some (.int .i64 q) ∧ w'.cell? ⟨Q, 4, none⟩ = some (.int .i64 y))
    (first | exact ⟨by assumption, by assumption, by assumption, by assumption, by assumption⟩ | exact five_alloc (by assumption) _ | exact five_alloc ⟨by assumption, by assumption, by assumption, by assumption, by assumption⟩ _ | exact five_alloc (five_alloc ⟨by assumption, by assumption, by assumption, by assumption, by assumption⟩ _) _ | exact five_alloc (five_alloc (five_alloc ⟨by assumption, by assumption, by assumption, by assumption, by assumption⟩ _) _) _)
    (first
      | (go_at_call 51; refine Calls.mono (rnew_two (x := 2) (y := b) (by first | exact two_drew (two_new rfl) | exact two_drew (two_new (by simp)) | exact two_drew (two_alloc (two_new rfl)) | exact two_drew (two_alloc (two_new (by simp))) | exact two_drew (two_alloc (two_alloc (two_new rfl))) | exact two_drew (two_alloc (two_alloc (two_new (by simp)))))) ?_; rintro e w3 ⟨r, TC, rfl, K3, hg, hT⟩; have hb3 : Below w1.heap.size w1 w3 := (by first | exact below_then (bs_drew (bs_alloc (Below.refl _ _))) K3 | exact below_then (bs_drew (bs_alloc (bs_alloc (Below.refl _ _)))) K3 | exact below_then (bs_drew (bs_alloc (bs_alloc (bs_alloc (Below.refl _ _))))) K3); replace d0 := (hb3.cell (p := ⟨Q, 0, none⟩) sQ).trans d0; replace d1 := (hb3.cell (p := ⟨Q, 1, none⟩) sQ).trans d1; replace d2 := (hb3.cell (p := ⟨Q, 2, none⟩) sQ).trans d2; replace d3 := (hb3.cell (p := ⟨Q, 3, none⟩) sQ).trans d3; replace d4 := (hb3.cell (p := ⟨Q, 4, none⟩) sQ).trans d4; have HG := Lib.hid hg; have HB3 := Lib.hid hb3; have HT := Lib.hid hT; have HK3 := Lib.hid K3; clear K3 hg hb3 hT))
  all_goals
    clear d0 d1 d2 d3 d4
    go_wp2_with fail
    go_ret2
    obtain ⟨z1, z2⟩ := zrw_facts
    generalize Tryz.zeroCells98 = Z at *
    have s3 := HB3.out.size
    have sk := HK3.out.size
    have sb := HB.out.size
    have hT := HT.out
    simp at hT sk
    refine newR_end4 (box_made _ _ z1 z2 _ _ _ ⟨b, u, t, q, y⟩ (by simp)) ?_ ?_ ?_ (TC := TC) ?_ ?_ ?_ ?_
    · exact rg_after HG.out (by first | exact bs_alloc (Below.refl _ _) | exact bs_alloc (bs_alloc (Below.refl _ _)) | exact bs_alloc (bs_alloc (bs_alloc (Below.refl _ _))))
    · repeat (first | ((with_reducible refine nil_new ?_); (first | rfl | (simp; done))) | with_reducible apply nil_alloc | with_reducible refine nil_below HK3.out ?_ | with_reducible apply nil_drew)
    · repeat (first | ((with_reducible refine nil_new ?_); (first | rfl | (simp; done))) | with_reducible apply nil_alloc | with_reducible refine nil_below HK3.out ?_ | with_reducible apply nil_drew)
    · intro j h
      have h1 := hT j h
      have h2 := HG.out.lt j h
      omega
    · omega
    · omega
    · exact below_then HB.out (below_then HB3.out (by first | exact bs_alloc (Below.refl _ _) | exact bs_alloc (bs_alloc (Below.refl _ _)) | exact bs_alloc (bs_alloc (bs_alloc (Below.refl _ _)))))
end Go.Proofs.YtodppilfpemepaaGreat
