/- Touches of an item: Step, Run. -/
import Derived.Test.YtmdofhdjikapgaaGreatTo
import Derived.Laws.EntriesVeiled
namespace Go.Proofs.YtmdofhdjikapgaaGreat
open Go.RowKit Go.Maps
set_option linter.unusedVariables false
section
variable {G : Nat → Prop} {w : World} {A : Ad} {V : Wv} {q : Nat} {mark word : Int} {done : Bool}
/-- What a step leaves. -/
def StP (G : Nat → Prop) (w : World) (A : Ad) (V : Wv) (q : Nat) (mark word left : Int) (done over : Bool) (e : Ending) (w' : World) : Prop := e = .returned (.bool over) ∧ Tw G w' A V q mark word left done ∧ Kp G w w'
set_option maxHeartbeats 1000000 in
set_option maxRecDepth 100000 in
theorem step3m (h : Tw G w A V q mark word 3 done) (hm : isU mark) (hc : V.cnt < 1000000000) (hv : (V.f mark % 2 == 1) = true) :
    Calls Tryz.prog 21 #[.pointer (some ⟨q, 0, none⟩), .pointer (some ⟨A.p, 0, none⟩)] w (StP G w A (V.acc V.f 1 mark (V.f mark) (V.f mark)) q mark (V.f mark) 0 done true) := by
  have CO := Lib.hid (overn h.to (by decide))
  have CS := Lib.hid (fun o => (show Calls _ _ _ (w.alloc o) _ from by have := loadMarkw (h.new ((Below.refl w.heap.size w).alloc (Nat.le_refl _) o)) hm hc; rw [hv] at this; exact this))
  have hlt := h.to.lt
  have d2 := fun o => (World.cell?_alloc_lt w o ⟨q, 2, none⟩ hlt).trans h.to.c2
  obtain ⟨V2, hV2⟩ : ∃ V2, V2 = V.acc V.f 1 mark (V.f mark) (V.f mark) := ⟨_, rfl⟩
  rw [← hV2] at CS ⊢
  clear hV2 h
  go_enter Tryz.func21, Tryz.ntmps21
  go_wp2_with fail
  refine CO.out.mono ?_
  rintro e w1 ⟨rfl, rfl⟩
  go_wp2_with fail
  refine (CS.out _).mono ?_
  rintro e w2 ⟨rfl, hT, K2⟩
  have c2 := hT.to.c2
  have f2 := hT.to.fz 2 (by decide)
  have hT3 := hT.set 2 (.int .i64 0) (hT.to.left 0)
  have hB3 := hT.below 2 (.int .i64 0) (Kp.to ((Keeps.refl _ w).alloc _) K2)
  have HT3 := Lib.hid hT3
  have HB3 := Lib.hid hB3
  have CO2 := Lib.hid (overw hT3.to rfl)
  clear hT K2 hT3 hB3 d2 CS CO
  go_wp2_with fail
  refine CO2.out.mono ?_
  rintro e w4 ⟨rfl, rfl⟩
  go_wp2_with fail
  go_ret
  exact ⟨rfl, HT3.out, HB3.out⟩
set_option maxHeartbeats 1000000 in
set_option maxRecDepth 100000 in
theorem step3u (h : Tw G w A V q mark word 3 done) (hm : isU mark) (hc : V.cnt < 1000000000) (hv : (V.f mark % 2 == 1) = false) :
    Calls Tryz.prog 21 #[.pointer (some ⟨q, 0, none⟩), .pointer (some ⟨A.p, 0, none⟩)] w (StP G w A (V.acc V.f 1 mark (V.f mark) (V.f mark)) q mark (V.f mark) 2 done false) := by
  have CO := Lib.hid (overn h.to (by decide))
  have CS := Lib.hid (fun o => (show Calls _ _ _ (w.alloc o) _ from by have := loadMarkw (h.new ((Below.refl w.heap.size w).alloc (Nat.le_refl _) o)) hm hc; rw [hv] at this; exact this))
  have hlt := h.to.lt
  have d2 := fun o => (World.cell?_alloc_lt w o ⟨q, 2, none⟩ hlt).trans h.to.c2
  obtain ⟨V2, hV2⟩ : ∃ V2, V2 = V.acc V.f 1 mark (V.f mark) (V.f mark) := ⟨_, rfl⟩
  rw [← hV2] at CS ⊢
  clear hV2 h
  go_enter Tryz.func21, Tryz.ntmps21
  go_wp2_with fail
  refine CO.out.mono ?_
  rintro e w1 ⟨rfl, rfl⟩
  go_wp2_with fail
  refine (CS.out _).mono ?_
  rintro e w2 ⟨rfl, hT, K2⟩
  have c2 := hT.to.c2
  have f2 := hT.to.fz 2 (by decide)
  have hT3 := hT.set 2 (.int .i64 2) (hT.to.left 2)
  have hB3 := hT.below 2 (.int .i64 2) (Kp.to ((Keeps.refl _ w).alloc _) K2)
  have HT3 := Lib.hid hT3
  have HB3 := Lib.hid hB3
  have CO2 := Lib.hid (overn hT3.to (by decide))
  clear hT K2 hT3 hB3 d2 CS CO
  go_wp2_with fail
  refine CO2.out.mono ?_
  rintro e w4 ⟨rfl, rfl⟩
  go_wp2_with fail
  go_ret
  exact ⟨rfl, HT3.out, HB3.out⟩
set_option maxHeartbeats 1000000 in
set_option maxRecDepth 100000 in
theorem step2s (h : Tw G w A V q mark word 2 done) (hc : V.cnt < 1000000000) (hv : (V.f 5 == 0) = false) :
    Calls Tryz.prog 21 #[.pointer (some ⟨q, 0, none⟩), .pointer (some ⟨A.p, 0, none⟩)] w (StP G w A (V.acc V.f 1 5 (V.f 5) (V.f 5)) q mark word 0 done true) := by
  have CO := Lib.hid (overn h.to (by decide))
  have CS := Lib.hid (fun o => (show Calls _ _ _ (w.alloc o) _ from by have := loadSweepw (h.new ((Below.refl w.heap.size w).alloc (Nat.le_refl _) o)) hc; rw [hv] at this; exact this))
  have hlt := h.to.lt
  have d2 := fun o => (World.cell?_alloc_lt w o ⟨q, 2, none⟩ hlt).trans h.to.c2
  obtain ⟨V2, hV2⟩ : ∃ V2, V2 = V.acc V.f 1 5 (V.f 5) (V.f 5) := ⟨_, rfl⟩
  rw [← hV2] at CS ⊢
  clear hV2 h
  go_enter Tryz.func21, Tryz.ntmps21
  go_wp2_with fail
  refine CO.out.mono ?_
  rintro e w1 ⟨rfl, rfl⟩
  go_wp2_with fail
  refine (CS.out _).mono ?_
  rintro e w2 ⟨rfl, hT, K2⟩
  have c2 := hT.to.c2
  have f2 := hT.to.fz 2 (by decide)
  have hT3 := hT.set 2 (.int .i64 0) (hT.to.left 0)
  have hB3 := hT.below 2 (.int .i64 0) (Kp.to ((Keeps.refl _ w).alloc _) K2)
  have HT3 := Lib.hid hT3
  have HB3 := Lib.hid hB3
  have CO2 := Lib.hid (overw hT3.to rfl)
  clear hT K2 hT3 hB3 d2 CS CO
  go_wp2_with fail
  refine CO2.out.mono ?_
  rintro e w4 ⟨rfl, rfl⟩
  go_wp2_with fail
  go_ret
  exact ⟨rfl, HT3.out, HB3.out⟩
set_option maxHeartbeats 1000000 in
set_option maxRecDepth 100000 in
theorem step2u (h : Tw G w A V q mark word 2 done) (hc : V.cnt < 1000000000) (hv : (V.f 5 == 0) = true) :
    Calls Tryz.prog 21 #[.pointer (some ⟨q, 0, none⟩), .pointer (some ⟨A.p, 0, none⟩)] w (StP G w A (V.acc V.f 1 5 (V.f 5) (V.f 5)) q mark word 1 done false) := by
  have CO := Lib.hid (overn h.to (by decide))
  have CS := Lib.hid (fun o => (show Calls _ _ _ (w.alloc o) _ from by have := loadSweepw (h.new ((Below.refl w.heap.size w).alloc (Nat.le_refl _) o)) hc; rw [hv] at this; exact this))
  have hlt := h.to.lt
  have d2 := fun o => (World.cell?_alloc_lt w o ⟨q, 2, none⟩ hlt).trans h.to.c2
  obtain ⟨V2, hV2⟩ : ∃ V2, V2 = V.acc V.f 1 5 (V.f 5) (V.f 5) := ⟨_, rfl⟩
  rw [← hV2] at CS ⊢
  clear hV2 h
  go_enter Tryz.func21, Tryz.ntmps21
  go_wp2_with fail
  refine CO.out.mono ?_
  rintro e w1 ⟨rfl, rfl⟩
  go_wp2_with fail
  refine (CS.out _).mono ?_
  rintro e w2 ⟨rfl, hT, K2⟩
  have c2 := hT.to.c2
  have f2 := hT.to.fz 2 (by decide)
  have hT3 := hT.set 2 (.int .i64 1) (hT.to.left 1)
  have hB3 := hT.below 2 (.int .i64 1) (Kp.to ((Keeps.refl _ w).alloc _) K2)
  have HT3 := Lib.hid hT3
  have HB3 := Lib.hid hB3
  have CO2 := Lib.hid (overn hT3.to (by decide))
  clear hT K2 hT3 hB3 d2 CS CO
  go_wp2_with fail
  refine CO2.out.mono ?_
  rintro e w4 ⟨rfl, rfl⟩
  go_wp2_with fail
  go_ret
  exact ⟨rfl, HT3.out, HB3.out⟩
set_option maxHeartbeats 1000000 in
set_option maxRecDepth 100000 in
theorem step1 (h : Tw G w A V q mark word 1 done) (hm : isU mark) (hw : 0 ≤ word) (hw2 : word < 18446744073709551615) (hc : V.cnt < 1000000000) {r : Bool} (hr : (V.f mark == word) = r) :
    Calls Tryz.prog 21 #[.pointer (some ⟨q, 0, none⟩), .pointer (some ⟨A.p, 0, none⟩)] w (StP G w A (V.acc (upd V.f mark (casI r (word + 1) (V.f mark))) 3 mark (V.f mark) (casI r (word + 1) (V.f mark))) q mark word 0 r true) := by
  have CO := Lib.hid (overn h.to (by decide))
  have CS := Lib.hid (fun o => (setMarkw (h.new ((Below.refl w.heap.size w).alloc (Nat.le_refl _) o)) hm hw hw2 hc hr))
  have hlt := h.to.lt
  have d2 := fun o => (World.cell?_alloc_lt w o ⟨q, 2, none⟩ hlt).trans h.to.c2
  obtain ⟨V2, hV2⟩ : ∃ V2, V2 = V.acc (upd V.f mark (casI r (word + 1) (V.f mark))) 3 mark (V.f mark) (casI r (word + 1) (V.f mark)) := ⟨_, rfl⟩
  rw [← hV2] at CS ⊢
  clear hV2 h
  go_enter Tryz.func21, Tryz.ntmps21
  go_wp2_with fail
  refine CO.out.mono ?_
  rintro e w1 ⟨rfl, rfl⟩
  go_wp2_with fail
  refine (CS.out _).mono ?_
  rintro e w2 ⟨rfl, hT, K2⟩
  have c2 := hT.to.c2
  have f2 := hT.to.fz 2 (by decide)
  have hT3 := hT.set 2 (.int .i64 0) (hT.to.left 0)
  have hB3 := hT.below 2 (.int .i64 0) (Kp.to ((Keeps.refl _ w).alloc _) K2)
  have HT3 := Lib.hid hT3
  have HB3 := Lib.hid hB3
  have CO2 := Lib.hid (overw hT3.to rfl)
  clear hT K2 hT3 hB3 d2 CS CO
  go_wp2_with fail
  refine CO2.out.mono ?_
  rintro e w4 ⟨rfl, rfl⟩
  go_wp2_with fail
  go_ret
  exact ⟨rfl, HT3.out, HB3.out⟩
end
end Go.Proofs.YtmdofhdjikapgaaGreat
