/- Lists of notes, framed by sets of blocks: Add. -/
import Derived.Test.YtmdofhdjikapgaaNlT
namespace Go.Proofs.Ytmdofhdjikapgaa
open Go.RowKit
set_option linter.unusedVariables false

set_option maxHeartbeats 4000000 in
set_option maxRecDepth 100000 in
theorem addt_first (s th k r b c d v : Int) (w : World) (p : Nat) {T : Nat → Prop} (h : IsNt w p 0 [] (.slice none 0 0) T) (hk : iskf k = true) :
    Calls Try.prog 65 #[.pointer (some ⟨p, 0, none⟩), .agg #[.int .i64 s, .int .i64 th, .int .u8 k, .int .i64 r, .int .i64 b, .int .i64 c, .int .i64 d, .int .i64 v]] w fun e w' => e = .returned (.int .i64 0) ∧ NtPost w p 1 (ncells s th k r b c d v) T w' := by
  obtain ⟨i0, hi, hz0, hz1, hz2⟩ := info_parts info_note
  have hp := h.c0
  have hf := h.f0
  have hown0 := h.row
  have HH := Lib.hid h
  clear h
  have hlt : p < w.heap.size := World.block_lt_of_cell? _ _ hp
  have hp' := fun o => (World.cell?_alloc_some w _ o (by simp [hp])).trans hp
  go_enter Try.func65, Try.ntmps65
  go_wp2_with fail
  go_quiet ((go_at_call 93; exact quiet_left (iskw _ _)))
  go_wp2_with fail
  generalize hW : (World.drewN (w.alloc _) nq) = W
  obtain ⟨⟨e0, e1, e2, e3, e4, e5, e6, e7⟩, ep, ef, hown, hsz, hbel⟩ := box_facts0 nq hp hf hown0 hW.symm
  have hpW : p < W.heap.size := by omega
  clear hW hp' hp hf
  have HSZ := Lib.hid hsz
  have hbW : w.heap.size < W.heap.size := by omega
  clear hsz
  go_region_law (refine step_append_lies _ rfl (.tmp 41) (.tmp 43) 73 rfl 0 76 i0 _ 8 64 Try.underlying73 hi hz0 hz1 hz2 rfl (by decide) (.slice none 0 0) 0 [] (by simp [Act.eval]) (hown.alloc _) ⟨W.heap.size, 0, none⟩ 1 1 (ncells s th k r b c d v) (by simp [Act.eval]) rfl (by intro j u hj; exact news8 hj) (by simp [ncells, Value.oneCell']) (by decide) (by unfold maxLen; decide) (by decide) (Nat.zero_le _) _ rfl ?_; intro g cap w1 hown1 hgrow hg hltg; have hgr := grown_undrew hgrow; have D := Lib.hid (nt_done HH.out hbel hgr (hg.imp id (fun e => by simp at e; omega)) hltg hown1 (by omega)); obtain ⟨c1, c2⟩ := D.out.1)
  all_goals
    go_wp2
    go_ret
    exact ⟨rfl, D.out.2⟩
set_option maxHeartbeats 4000000 in
set_option maxRecDepth 100000 in
theorem addt_more (s th k r b c d v ls : Int) (w : World) (p n g cap : Nat) (xs : List Value) (hn : 0 < n) (hnM : n < 1048576) {T : Nat → Prop} (h : IsNt w p n xs (.slice (some ⟨g, 0, none⟩) n cap) T)
    (hl : xs[(n - 1) * 8]? = some (.int .i64 ls)) (hs : ¬ s < ls) (hk : iskf k = true) :
    Calls Try.prog 65 #[.pointer (some ⟨p, 0, none⟩), .agg #[.int .i64 s, .int .i64 th, .int .u8 k, .int .i64 r, .int .i64 b, .int .i64 c, .int .i64 d, .int .i64 v]] w fun e w' => e = .returned (.int .i64 0) ∧ NtPost w p (n + 1) (xs ++ ncells s th k r b c d v) T w' := by
  obtain ⟨i0, hi, hz0, hz1, hz2⟩ := info_parts info_note
  have hp := h.c0
  have hf := h.f0
  have hown0 := h.row
  have HH := Lib.hid h
  clear h
  have hlt : p < w.heap.size := World.block_lt_of_cell? _ _ hp
  have hp' := fun o => (World.cell?_alloc_some w _ o (by simp [hp])).trans hp
  have hc0 : w.cell? ⟨g, (n - 1) * 8, none⟩ = some (.int .i64 ls) := by
    have := hown0.cells rfl _ _ hl
    rwa [Addr.add_lit, Nat.zero_add] at this
  have hc' := fun o => (World.cell?_alloc_some w _ o (by simp [hc0])).trans hc0
  have hs' : decide (s < ls) = false := decide_eq_false hs
  have y1 : ((n : Int) - 1).toNat = n - 1 := by omega
  have y2 : IntKind.i64.wrap ((n : Int) - 1) = (n : Int) - 1 := IntWalk.i64_in _ (by omega)
  have y3 : 0 ≤ (n : Int) - 1 := by omega
  have y4 : (n : Int) - 1 < n := by omega
  have y5 : (1 : Int) ≤ n := by omega
  have y6 : decide ((1048576 : Int) ≤ (n : Int)) = false := decide_eq_false (by omega)
  have HNM := Lib.hid hnM
  clear hc0 hnM
  go_enter Try.func65, Try.ntmps65
  go_wp2_with fail
  go_quiet ((go_at_call 93; exact quiet_left (iskw _ _)))
  go_wp2_with fail
  generalize hW : (World.drewN (w.alloc _) nq) = W
  obtain ⟨⟨e0, e1, e2, e3, e4, e5, e6, e7⟩, ep, ef, hown, hsz, hbel⟩ := box_facts0 nq hp hf hown0 hW.symm
  have hpW : p < W.heap.size := by omega
  clear hW hp' hp hf hc' y1 y2 y3 y4 y5 y6
  have HSZ := Lib.hid hsz
  have hbW : w.heap.size < W.heap.size := by omega
  clear hsz
  go_region_law (refine step_append_lies _ rfl (.tmp 41) (.tmp 43) 73 rfl 0 76 i0 _ 8 64 Try.underlying73 hi hz0 hz1 hz2 rfl (by decide) (.slice (some ⟨g, 0, none⟩) n cap) n xs (by simp [Act.eval]) (hown.alloc _) ⟨W.heap.size, 0, none⟩ 1 1 (ncells s th k r b c d v) (by simp [Act.eval]) rfl (by intro j u hj; exact news8 hj) (by simp [ncells, Value.oneCell']) (by decide) (by have := HNM.out; unfold maxLen; omega) (by have := HNM.out; omega) (Nat.zero_le _) _ rfl ?_; intro g' cap' w1 hown1 hgrow hg hltg; have hgr := grown_undrew hgrow; have D := Lib.hid (nt_done HH.out hbel hgr (hg.imp id (fun e => by simp at e; omega)) hltg hown1 (by omega)); obtain ⟨c1, c2⟩ := D.out.1)
  all_goals
    go_wp2
    go_ret
    exact ⟨rfl, D.out.2⟩
end Go.Proofs.Ytmdofhdjikapgaa
