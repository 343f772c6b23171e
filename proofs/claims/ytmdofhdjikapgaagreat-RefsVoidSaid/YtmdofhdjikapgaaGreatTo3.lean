/- Touches of an item: NewTouch, Run. -/
import Derived.Test.YtmdofhdjikapgaaGreatTo2
import Derived.LoopTactic
namespace Go.Proofs.YtmdofhdjikapgaaGreat
open Go.RowKit Go.Maps
set_option linter.unusedVariables false
section
variable {G : Nat → Prop} {w : World} {A : Ad} {V : Wv} {q : Nat} {mark word : Int} {done : Bool}
set_option maxHeartbeats 1000000 in
set_option maxRecDepth 100000 in
theorem run_m (h : Tw G w A V q mark word 3 done) (hm : isU mark) (hc : V.cnt < 100000000) (hv : (V.f mark % 2 == 1) = true) :
    Calls Tryz.prog 53 #[.pointer (some ⟨A.p, 0, none⟩), .iface 55 (.pointer (some ⟨q, 0, none⟩)), .int .i64 9] w fun e w' => e = .returned (.int .i64 1) ∧ Tw G w' A (V.acc V.f 1 mark (V.f mark) (V.f mark)) q mark (V.f mark) 0 done ∧ Kp G w w' := by
  have C1 := Lib.hid (step3m h hm (by omega) hv)
  have CO := Lib.hid (overn h.to (by decide))
  have HB := Lib.hid (show Kp G w w from Keeps.refl _ w)
  clear h
  go_enter Tryz.func53, Tryz.ntmps53
  go_wp2_with fail
  refine wp_loop_rounds 2 ?_
  rw [rounds_succ]
  go_wp2_with fail
  refine CO.out.mono ?_
  rintro e w100 ⟨rfl, rfl⟩
  go_wp2_with fail
  refine C1.out.mono ?_
  rintro e w1 ⟨rfl, hT, K⟩
  clear CO C1
  have HB1 := Lib.hid (Kp.to HB.out K)
  have CO := Lib.hid (overw hT.to rfl)
  have HT := Lib.hid hT
  clear hT K
  go_wp2_with fail
  rw [rounds_succ]
  go_wp2_with fail
  refine CO.out.mono ?_
  rintro e w200 ⟨rfl, rfl⟩
  go_wp2_with fail
  go_ret
  exact ⟨rfl, HT.out, HB1.out⟩
set_option maxHeartbeats 1000000 in
set_option maxRecDepth 100000 in
theorem run_s (h : Tw G w A V q mark word 3 done) (hm : isU mark) (hc : V.cnt < 100000000) (hv : (V.f mark % 2 == 1) = false) (hs : (V.f 5 == 0) = false) :
    Calls Tryz.prog 53 #[.pointer (some ⟨A.p, 0, none⟩), .iface 55 (.pointer (some ⟨q, 0, none⟩)), .int .i64 9] w fun e w' => e = .returned (.int .i64 2) ∧ Tw G w' A ((V.acc V.f 1 mark (V.f mark) (V.f mark)).acc V.f 1 5 (V.f 5) (V.f 5)) q mark (V.f mark) 0 done ∧ Kp G w w' := by
  have C1 := Lib.hid (step3u h hm (by omega) hv)
  have CO := Lib.hid (overn h.to (by decide))
  have HB := Lib.hid (show Kp G w w from Keeps.refl _ w)
  clear h
  go_enter Tryz.func53, Tryz.ntmps53
  go_wp2_with fail
  refine wp_loop_rounds 3 ?_
  rw [rounds_succ]
  go_wp2_with fail
  refine CO.out.mono ?_
  rintro e w100 ⟨rfl, rfl⟩
  go_wp2_with fail
  refine C1.out.mono ?_
  rintro e w1 ⟨rfl, hT, K⟩
  clear CO C1
  have HB1 := Lib.hid (Kp.to HB.out K)
  have CO := Lib.hid (overn hT.to (by decide))
  have C1 := Lib.hid (step2s hT (by show V.cnt + 1 < _; omega) hs)
  clear hT K
  go_wp2_with fail
  rw [rounds_succ]
  go_wp2_with fail
  refine CO.out.mono ?_
  rintro e w101 ⟨rfl, rfl⟩
  go_wp2_with fail
  refine C1.out.mono ?_
  rintro e w2 ⟨rfl, hT, K⟩
  clear CO C1
  have HB2 := Lib.hid (Kp.to HB1.out K)
  have CO := Lib.hid (overw hT.to rfl)
  have HT := Lib.hid hT
  clear hT K
  go_wp2_with fail
  rw [rounds_succ]
  go_wp2_with fail
  refine CO.out.mono ?_
  rintro e w200 ⟨rfl, rfl⟩
  go_wp2_with fail
  go_ret
  exact ⟨rfl, HT.out, HB2.out⟩
set_option maxHeartbeats 1000000 in
set_option maxRecDepth 100000 in
theorem run_u (h : Tw G w A V q mark word 3 done) (hm : isU mark) (hc : V.cnt < 100000000) (hv : (V.f mark % 2 == 1) = false) (hs : (V.f 5 == 0) = true) :
    Calls Tryz.prog 53 #[.pointer (some ⟨A.p, 0, none⟩), .iface 55 (.pointer (some ⟨q, 0, none⟩)), .int .i64 9] w fun e w' => e = .returned (.int .i64 3) ∧ Tw G w' A (((V.acc V.f 1 mark (V.f mark) (V.f mark)).acc V.f 1 5 (V.f 5) (V.f 5)).acc (upd V.f mark (V.f mark + 1)) 3 mark (V.f mark) (V.f mark + 1)) q mark (V.f mark) 0 true ∧ Kp G w w' := by
  have hu : isU (V.f mark) := h.rng hm
  have hu2 : V.f mark ≠ 18446744073709551615 := by intro e; rw [e] at hv; simp at hv
  have C1 := Lib.hid (step3u h hm (by omega) hv)
  have CO := Lib.hid (overn h.to (by decide))
  have HB := Lib.hid (show Kp G w w from Keeps.refl _ w)
  clear h
  go_enter Tryz.func53, Tryz.ntmps53
  go_wp2_with fail
  refine wp_loop_rounds 4 ?_
  rw [rounds_succ]
  go_wp2_with fail
  refine CO.out.mono ?_
  rintro e w100 ⟨rfl, rfl⟩
  go_wp2_with fail
  refine C1.out.mono ?_
  rintro e w1 ⟨rfl, hT, K⟩
  clear CO C1
  have HB1 := Lib.hid (Kp.to HB.out K)
  have CO := Lib.hid (overn hT.to (by decide))
  have C1 := Lib.hid (step2u hT (by show V.cnt + 1 < _; omega) hs)
  clear hT K
  go_wp2_with fail
  rw [rounds_succ]
  go_wp2_with fail
  refine CO.out.mono ?_
  rintro e w101 ⟨rfl, rfl⟩
  go_wp2_with fail
  refine C1.out.mono ?_
  rintro e w2 ⟨rfl, hT, K⟩
  clear CO C1
  have HB2 := Lib.hid (Kp.to HB1.out K)
  have CO := Lib.hid (overn hT.to (by decide))
  have C1 := Lib.hid ((step1 (r := true) hT hm hu.1 (by have := hu.2; omega) (by show V.cnt + 1 + 1 < _; omega) (by simp [Wv.acc])))
  clear hT K
  go_wp2_with fail
  rw [rounds_succ]
  go_wp2_with fail
  refine CO.out.mono ?_
  rintro e w102 ⟨rfl, rfl⟩
  go_wp2_with fail
  refine C1.out.mono ?_
  rintro e w3 ⟨rfl, hT, K⟩
  clear CO C1
  have HB3 := Lib.hid (Kp.to HB2.out K)
  have CO := Lib.hid (overw hT.to rfl)
  have HT := Lib.hid hT
  clear hT K
  go_wp2_with fail
  rw [rounds_succ]
  go_wp2_with fail
  refine CO.out.mono ?_
  rintro e w200 ⟨rfl, rfl⟩
  go_wp2_with fail
  go_ret
  exact ⟨rfl, HT.out, HB3.out⟩
/-- A new touch. -/
theorem newTo (h : WdG G w A V) (r : Int) (r1 : 1 ≤ r) (r2 : r ≤ 9223372036854775807) :
    Calls Tryz.prog 13 #[.int .i64 r] w fun e w' => e = .returned (.pointer (some ⟨w.heap.size, 0, none⟩)) ∧ Tw G w' A V w.heap.size (4294967296 + r) 0 3 false ∧ Below w.heap.size w w' := by
  have hr : reff r = 4294967296 + r := by unfold reff; rw [if_neg (by omega)]
  have CR := refw r w r2
  rw [hr] at CR
  have C := Lib.hid CR
  have HH := Lib.hid h
  clear h CR hr
  go_enter Tryz.func13, Tryz.ntmps13
  go_wp2_with fail
  refine C.out.mono ?_
  rintro e w1 ⟨rfl, rfl⟩
  go_wp2_with fail
  go_ret
  refine ⟨rfl, ?_, (Below.refl _ _).alloc (Nat.le_refl _) _⟩
  obtain ⟨S, h1, h2, h3⟩ := HH.out
  refine ⟨S, h1.new ((Below.refl _ _).alloc (Nat.le_refl _) _), h2, fun s => ?_, ⟨by simp, by simp, by simp, by simp, fun j hj => by simp⟩, fun g => ?_, fun k g => ?_⟩
  · have := h1.lt _ s; omega
  · have := h3 _ g; omega
  · have := h3 k g; simp; omega
end
end Go.Proofs.YtmdofhdjikapgaaGreat
