/- Contracts of package cells: a word is put. -/
import Derived.Test.YtdlniopjkioamaaClA
import Derived.Test.YtdlniopjkioamaaClB
import Derived.OwnWalk
import Derived.Deep.Cut
import Derived.Deep.CutBlock
namespace Go.Proofs.Ytdlniopjkioamaa
open Go.RowKit Go.Maps
set_option linter.unusedVariables false

/-- What a put leaves. -/
def PutPost (w : World) (p : Nat) (f : Int → Int) (cnt k a0 x y : Int) (n : Nat) (S : Nat → Prop) (w' : World) : Prop := ∃ S', Turn S S' w w' ∧ Cel w' p f cnt k a0 x y n S'
theorem map_some_nil (m : Nat) (w : World) : (binOp .eql 52 (.map (some m)) (.map none)).run Try.prog w = .ok (.bool false) w := by kernel_rfl
theorem map_nil_nil (w : World) : (binOp .eql 52 (.map none) (.map none)).run Try.prog w = .ok (.bool true) w := by kernel_rfl
section
variable {w : World} {p m n : Nat} {D : DataW Unit} {f : Int → Int} {cnt k a0 x y a v : Int} {S : Nat → Prop}
theorem put_zero_nil (ha : isU a) (hm : w.cell? ⟨p, 0, none⟩ = some (.map none)) :
    Calls Try.prog 19 #[.pointer (some ⟨p, 0, none⟩), .int .u64 a, .int .u64 0] w fun e w' => e = .returned (.tuple #[]) ∧ w = w' := by
  have hl := Maps.drop_nil (P := Try.prog) (w := w) lawA Try.underlying52 (keyA ha)
  go_enter Try.func19, Try.ntmps19
  go_wp2_with fail
  refine bodyPost_ret (results_none rfl _ _ _) rfl ?_
  exact ⟨rfl, rfl⟩
theorem put_zero_map (h : Cel w p f cnt k a0 x y n S) (ha : isU a) (hm : w.cell? ⟨p, 0, none⟩ = some (.map (some m))) (H : MapOk Try.prog 27 w p m n D f S) :
    Calls Try.prog 19 #[.pointer (some ⟨p, 0, none⟩), .int .u64 a, .int .u64 0] w fun e w' => e = .returned (.tuple #[]) ∧ PutPost w p (upd f a 0) cnt k a0 x y n S w' := by
  have hown := H.own
  have HH := Lib.hid h
  clear h
  go_enter Try.func19, Try.ntmps19
  go_wp2_with (at_delete; refine wpList_delete_own _ rfl _ _ 52 27 rfl 56 lawA Try.underlying52 _ m n D rfl hown _ _ rfl (keyA ha) ?_; intro w1 hown1 hturn1)
  refine bodyPost_ret (results_none rfl _ _ _) rfl ?_
  obtain ⟨q1, q2⟩ := IsCells.del HH.out hm H ha hown1 hturn1
  exact ⟨rfl, S, q2, q1⟩
set_option maxRecDepth 100000 in
theorem put_set (h : Cel w p f cnt k a0 x y n S) (ha : isU a) (hu : isU v) (hv : v ≠ 0) (hm : w.cell? ⟨p, 0, none⟩ = some (.map (some m))) (H : MapOk Try.prog 27 w p m n D f S) (h0 : f a ≠ 0) :
    Calls Try.prog 19 #[.pointer (some ⟨p, 0, none⟩), .int .u64 a, .int .u64 v] w fun e w' => e = .returned (.tuple #[]) ∧ PutPost w p (upd f a v) cnt k a0 x y n S w' := by
  obtain ⟨u, ps, hrun, hR⟩ := H.own.lookup lawA Try.underlying52 (zeroP w) cR_nil (keyA ha)
  obtain ⟨b, hb, hc, hfz, -⟩ := H.at_ a ha h0
  rw [hb] at hR
  obtain rfl := cR_lit hR
  have HQ := Lib.hid (IsCells.set h hm H ha h0 hu hv hb)
  have hmn := map_some_nil m
  have hv' : (v == 0) = false := beq_eq_false_iff_ne.2 hv
  have hv'' : decide (v = 0) = false := decide_eq_false hv
  clear h H hR h0 hb hv hu ha
  generalize f a = z at hc
  go_enter Try.func19, Try.ntmps19
  go_wp2_with (go_at_call 37; refine (astore _ _ _ _ hc hfz).mono ?_; rintro e w' ⟨rfl, rfl⟩)
  go_end0
  exact ⟨rfl, S, HQ.out.2, HQ.out.1⟩
set_option maxRecDepth 100000 in
theorem put_new (h : Cel w p f cnt k a0 x y n S) (ha : isU a) (hu : isU v) (hv : v ≠ 0) (hn : n < 1099511627776) (hm : w.cell? ⟨p, 0, none⟩ = some (.map (some m))) (H : MapOk Try.prog 27 w p m n D f S) (h0 : f a = 0) :
    Calls Try.prog 19 #[.pointer (some ⟨p, 0, none⟩), .int .u64 a, .int .u64 v] w fun e w' => e = .returned (.tuple #[]) ∧ PutPost w p (upd f a v) cnt k a0 x y (n + 1) S w' := by
  obtain ⟨u, ps, hrun, hR⟩ := H.own.lookup lawA Try.underlying52 (zeroP w) cR_nil (keyA ha)
  have hhas : Maps.has D (kA a) = false := by rw [H.has a ha, h0]; rfl
  rw [Maps.atKey_of_not_has hhas] at hR
  obtain rfl := cR_no hR
  have hmn := map_some_nil m
  have hv' : (v == 0) = false := beq_eq_false_iff_ne.2 hv
  have hv'' : decide (v = 0) = false := decide_eq_false hv
  have hnM : n < maxLen := by unfold maxLen; omega
  have hpa : ∀ o, (w.alloc o).cell? ⟨p, 0, none⟩ = some (.map (some m)) := fun o => ((Keeps.refl (fun _ => False) w).alloc o).cell (p := ⟨p, 0, none⟩) (by simp) hm
  have hown := fun o => H.own.alloc o
  have HH := Lib.hid h
  have HV := Lib.hid hv
  have H0 := Lib.hid h0
  clear h hR hv hhas h0
  go_enter Try.func19, Try.ntmps19
  go_wp2_with (at_mapUpdate; refine wpList_mapUpdate_own _ rfl _ _ _ 52 rfl 27 56 lawA Try.underlying52 cR m n D rfl (hown _) hnM _ _ (kA a) rfl rfl (keyA ha) (.lit (.int .i64 w.heap.size)) [] (cR_at _) ?_; intro w2 own2 hg2; obtain ⟨g1, g2, g3, g4⟩ := new_facts hm H ha lawA Try.underlying52 zeroP (keyA ha) own2 hg2; clear hrun hpa hown)
  go_wp2_with (go_at_call 37; refine (astore _ _ _ _ g3 g4).mono ?_; rintro e w' ⟨rfl, rfl⟩)
  go_end0
  obtain ⟨q1, q2⟩ := IsCells.new HH.out hm H ha H0.out hu HV.out own2 hg2 g3 g4
  exact ⟨rfl, _, q2, q1⟩
set_option maxRecDepth 100000 in
theorem put_made (h : Cel w p f cnt k a0 x y n S) (ha : isU a) (hu : isU v) (hv : v ≠ 0) (hn : n < 1099511627776) (hm : w.cell? ⟨p, 0, none⟩ = some (.map none)) (hf : ∀ a, isU a → f a = 0) :
    Calls Try.prog 19 #[.pointer (some ⟨p, 0, none⟩), .int .u64 a, .int .u64 v] w fun e w' => e = .returned (.tuple #[]) ∧ PutPost w p (upd f a v) cnt k a0 x y (n + 1) S w' := by
  have h0 := hf a ha
  obtain ⟨r1, H, r3, r4, r5⟩ := IsCells.made h hm hf
  generalize hW : (w.alloc (.map #[] 0)).setCell ⟨p, 0, none⟩ (.map (some w.heap.size)) = W at r1 H r3 r4 r5
  generalize hm' : w.heap.size = m at hW r1 H r3 r4 r5
  obtain ⟨u, ps, hrun, hR⟩ := H.own.lookup lawA Try.underlying52 (zeroP W) cR_nil (keyA ha)
  have hhas : Maps.has (.map [] : DataW Unit) (kA a) = false := rfl
  rw [Maps.atKey_of_not_has hhas] at hR
  obtain rfl := cR_no hR
  have hmm := @run_makeMap Try.prog
  have hn0 := map_nil_nil
  have hmn := map_some_nil m
  have hv' : (v == 0) = false := beq_eq_false_iff_ne.2 hv
  have hv'' : decide (v = 0) = false := decide_eq_false hv
  have hnM : n < maxLen := by unfold maxLen; omega
  have hpa : ∀ o, (W.alloc o).cell? ⟨p, 0, none⟩ = some (.map (some m)) := fun o => ((Keeps.refl (fun _ => False) W).alloc o).cell (p := ⟨p, 0, none⟩) (by simp) r1
  have hp1 : (w.alloc (.map #[] 0)).cell? ⟨p, 0, none⟩ = some (.map none) := ((Keeps.refl (fun _ => False) w).alloc _).cell (p := ⟨p, 0, none⟩) (by simp) hm
  have hf1 : (w.alloc (.map #[] 0)).frozen? ⟨p, 0, none⟩ = false := ((Keeps.refl (fun _ => False) w).alloc _).frozen (p := ⟨p, 0, none⟩) (by simp) h.lt (h.fz 0 (by decide))
  have hown := fun o => H.own.alloc o
  have HV := Lib.hid hv
  have H0 := Lib.hid h0
  have HR := Lib.hid r3
  have HT := Lib.hid r4
  have HH := Lib.hid H
  have HW := Lib.hid hW
  have HM := Lib.hid hm'
  have H5 := Lib.hid r5
  clear h hR hv hhas h0 hf r3 r4 hW hm' r5 H
  go_enter Try.func19, Try.ntmps19
  go_upto_region 4 with (fail)
  have E : ((w.alloc (.map #[] 0)).setCell ⟨p, 0, none⟩ (.map (some w.heap.size))) = W := by rw [HM.out]; exact HW.out
  rw [E]
  clear E hmm hn0 hp1 hf1
  go_wp2_with (at_mapUpdate; refine wpList_mapUpdate_own _ rfl _ _ _ 52 rfl 27 56 lawA Try.underlying52 cR m n (.map []) rfl (hown _) hnM _ _ (kA a) rfl rfl (keyA ha) (.lit (.int .i64 W.heap.size)) [] (cR_at _) ?_; intro w2 own2 hg2; obtain ⟨g1, g2, g3, g4⟩ := new_facts r1 HH.out ha lawA Try.underlying52 zeroP (keyA ha) own2 hg2; clear hrun hpa hown)
  go_wp2_with (go_at_call 37; refine (astore _ _ _ _ g3 g4).mono ?_; rintro e w' ⟨rfl, rfl⟩)
  go_end0
  obtain ⟨q1, q2⟩ := IsCells.new HR.out r1 HH.out ha H0.out hu HV.out own2 hg2 g3 g4
  exact ⟨rfl, _, HT.out.trans q2, q1⟩
/-- A word is put. -/
theorem put_any (h : Cel w p f cnt k a0 x y n S) (ha : isU a) (hu : isU v) (hn : n < 1099511627776) :
    Calls Try.prog 19 #[.pointer (some ⟨p, 0, none⟩), .int .u64 a, .int .u64 v] w fun e w' => e = .returned (.tuple #[]) ∧ PutPost w p (upd f a v) cnt k a0 x y (n + 1) S w' := by
  by_cases hv : v = 0
  · subst hv
    rcases h.map with ⟨hm, hf⟩ | ⟨m, D, hm, H⟩
    · refine (put_zero_nil ha hm).mono ?_
      rintro e w' ⟨rfl, rfl⟩
      have e1 : upd f a 0 = f := by have := upd_id f a; rwa [hf a ha] at this
      rw [e1]
      exact ⟨rfl, S, Turn.refl _ _, IsCells.more h (by omega) (fun _ s => s)⟩
    · refine (put_zero_map h ha hm H).mono ?_
      rintro e w' ⟨rfl, S', h1, h2⟩
      exact ⟨rfl, S', h1, IsCells.more h2 (by omega) (fun _ s => s)⟩
  · rcases h.map with ⟨hm, hf⟩ | ⟨m, D, hm, H⟩
    · exact put_made h ha hu hv hn hm hf
    · by_cases h0 : f a = 0
      · exact put_new h ha hu hv hn hm H h0
      · refine (put_set h ha hu hv hm H h0).mono ?_
        rintro e w' ⟨rfl, S', h1, h2⟩
        exact ⟨rfl, S', h1, IsCells.more h2 (by omega) (fun _ s => s)⟩
end
end Go.Proofs.Ytdlniopjkioamaa
