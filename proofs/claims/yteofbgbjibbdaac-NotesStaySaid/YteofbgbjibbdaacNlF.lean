/- The first note of a list, with a frame by its own block. -/
import Derived.Test.YteofbgbjibbdaacNr
import Derived.Test.YteofbgbjibbdaacKeep
namespace Go.Proofs.Yteofbgbjibbdaac
open Go.RowKit
set_option linter.unusedVariables false

/-- A list of one note, whose row is newer than w0. -/
def One (T : TypeId) (w0 w : World) (p : Nat) (xs : List Value) : Prop := ∃ v, w.cell? ⟨p, 0, none⟩ = some v ∧ w.frozen? ⟨p, 0, none⟩ = false ∧ w.ownsRow w0.heap.size T 8 v 1 xs
theorem One.keep {T : TypeId} {w0 w W : World} {p : Nat} {xs : List Value} {S : Nat → Prop} (h : One T w0 w p xs) (hk : Keeps S w W) (hp : ¬ S p) (hS : ∀ k, w0.heap.size ≤ k → k < w.heap.size → ¬ S k) : One T w0 W p xs := by
  obtain ⟨v, h1, h2, h3⟩ := h
  have hlt : p < w.heap.size := World.block_lt_of_cell? _ _ h1
  exact ⟨v, hk.cell (p := ⟨p, 0, none⟩) hp h1, hk.frozen (p := ⟨p, 0, none⟩) hp hlt h2, Keeps.ownsRow h3 hk (fun g hg => hS g (h3.lt g hg).1 (h3.lt g hg).2)⟩
theorem one_done {T : TypeId} {w W w1 : World} {p g cap : Nat} {v : Value} {ys : List Value} {o : Obj} (hlt : p < w.heap.size) (hbel : Below w.heap.size w W) (hv : v.ownBlock = none) (hgrow : (W.alloc o).grownBy w1 v.ownBlock) (c1 : w1.cell? ⟨p, 0, none⟩ = some v) (c2 : w1.frozen? ⟨p, 0, none⟩ = false)
    (hown1 : w1.ownsRow w.heap.size T 8 (.slice (some ⟨g, 0, none⟩) 1 cap) 1 ys) :
    One T w (w1.setCell ⟨p, 0, none⟩ (.slice (some ⟨g, 0, none⟩) 1 cap)) p ys ∧ Keeps (fun k => k = p) w (w1.setCell ⟨p, 0, none⟩ (.slice (some ⟨g, 0, none⟩) 1 cap)) :=
  ⟨⟨_, World.cell?_setCell_same _ _ _ c1, by simpa using c2, ownsRow_setCell_below hown1 hlt _⟩, (((Keeps.of_new (S := fun k => k = p) hbel).alloc o).grown hgrow (fun k hk => by rw [hv] at hk; simp at hk)).setCell (p := ⟨p, 0, none⟩) (.inl rfl) _⟩
set_option maxHeartbeats 4000000 in
set_option maxRecDepth 100000 in
theorem addl_firstK (s th k r b c d v : Int) (w : World) (p : Nat) (hp : w.cell? ⟨p, 0, none⟩ = some (.slice none 0 0)) (hf : w.frozen? ⟨p, 0, none⟩ = false) (hk : iskf k = true) :
    Calls Try.prog 54 #[.pointer (some ⟨p, 0, none⟩), .agg #[.int .i64 s, .int .i64 th, .int .u8 k, .int .i64 r, .int .i64 b, .int .i64 c, .int .i64 d, .int .i64 v]] w fun e w' => e = .returned (.int .i64 0) ∧ One 80 w w' p (ncells s th k r b c d v) ∧ Keeps (fun k => k = p) w w' := by
  obtain ⟨i0, hi, hz0, hz1, hz2⟩ := info_parts info_note
  have hlt : p < w.heap.size := World.block_lt_of_cell? _ _ hp
  have hp' := fun o => (World.cell?_alloc_some w _ o (by simp [hp])).trans hp
  go_enter Try.func54, Try.ntmps54
  go_wp2_with fail
  go_quiet ((go_at_call 90; exact quiet_left (iskw _ _)))
  go_wp2_with fail
  generalize hW : (World.drewN (w.alloc _) nq) = W
  obtain ⟨⟨e0, e1, e2, e3, e4, e5, e6, e7⟩, ep, ef, hown, hsz, hbel⟩ := box_facts nq hp hf (World.ownsRow_nil w (p + 1) _ 8) hW.symm
  have hpW : p < W.heap.size := by omega
  clear hW hp' hp hf
  have hown2 := World.ownsRow_nil W w.heap.size 80 8
  have HSZ := Lib.hid hsz
  have hbW : w.heap.size < W.heap.size := by omega
  clear hsz
  go_region_law (refine step_append_lies _ rfl (.tmp 41) (.tmp 43) 68 rfl w.heap.size 80 i0 _ 8 64 Try.underlying68 hi hz0 hz1 hz2 rfl (by decide) (.slice none 0 0) 0 [] (by simp [Act.eval]) (hown2.alloc _) ⟨W.heap.size, 0, none⟩ 1 1 (ncells s th k r b c d v) (by simp [Act.eval]) rfl (by intro j u hj; exact news8 hj) (by simp [ncells, Value.oneCell']) (by decide) (by unfold maxLen; decide) (by decide) (by simp; omega) _ rfl ?_; intro g cap w1 hown1 hgrow hg hltg; have hgr := grown_undrew hgrow; obtain ⟨c1, c2⟩ := nl_cell hpW hown ep ef hgr)
  all_goals
    go_wp2
    go_ret
    exact ⟨rfl, one_done hlt hbel rfl hgr c1 c2 hown1⟩
set_option maxHeartbeats 4000000 in
set_option maxRecDepth 100000 in
theorem radd_firstK (s th k r b c d v : Int) (w : World) (p : Nat) (hp : w.cell? ⟨p, 0, none⟩ = some (.slice none 0 0)) (hf : w.frozen? ⟨p, 0, none⟩ = false) (k1 : 1 ≤ k) (k9 : k ≤ 9) :
    Calls Try.prog 55 #[.pointer (some ⟨p, 0, none⟩), .agg #[.int .i64 s, .int .i64 th, .int .i64 k, .int .i64 r, .int .i64 b, .int .i64 c, .int .i64 d, .int .i64 v]] w fun e w' => e = .returned (.int .i64 0) ∧ One 83 w w' p (rcells s th k r b c d v) ∧ Keeps (fun k => k = p) w w' := by
  obtain ⟨i0, hi, hz0, hz1, hz2⟩ := info_parts info_rnote
  have hlt : p < w.heap.size := World.block_lt_of_cell? _ _ hp
  have hp' := fun o => (World.cell?_alloc_some w _ o (by simp [hp])).trans hp
  go_enter Try.func55, Try.ntmps55
  go_wp2_with fail
  go_quiet (fail)
  go_wp2_with fail
  generalize hW : (World.drewN (w.alloc _) nq) = W
  obtain ⟨⟨e0, e1, e2, e3, e4, e5, e6, e7⟩, ep, ef, hown, hsz, hbel⟩ := box_factsR nq hp hf (World.ownsRow_nil w (p + 1) _ 8) hW.symm
  have hpW : p < W.heap.size := by omega
  clear hW hp' hp hf
  have hown2 := World.ownsRow_nil W w.heap.size 83 8
  have HSZ := Lib.hid hsz
  have hbW : w.heap.size < W.heap.size := by omega
  clear hsz
  go_region_law (refine step_append_lies _ rfl (.tmp 47) (.tmp 49) 73 rfl w.heap.size 83 i0 _ 8 64 Try.underlying73 hi hz0 hz1 hz2 rfl (by decide) (.slice none 0 0) 0 [] (by simp [Act.eval]) (hown2.alloc _) ⟨W.heap.size, 0, none⟩ 1 1 (rcells s th k r b c d v) (by simp [Act.eval]) rfl (by intro j u hj; exact news8R hj) (by simp [rcells, Value.oneCell']) (by decide) (by unfold maxLen; decide) (by decide) (by simp; omega) _ rfl ?_; intro g cap w1 hown1 hgrow hg hltg; have hgr := grown_undrew hgrow; obtain ⟨c1, c2⟩ := nr_cell hpW hown ep ef hgr)
  all_goals
    go_wp2
    go_ret
    exact ⟨rfl, one_done hlt hbel rfl hgr c1 c2 hown1⟩
end Go.Proofs.Yteofbgbjibbdaac
