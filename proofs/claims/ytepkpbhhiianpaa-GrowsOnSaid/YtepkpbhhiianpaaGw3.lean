/- Growths and swaps of tables: Run; the examples of chapter 19. -/
import Derived.Test.YtepkpbhhiianpaaGw2
import Derived.Test.YtepkpbhhiianpaaSv
import Derived.LoopTactic
namespace Go.Proofs.Ytepkpbhhiianpaa
open Go.RowKit Go.Maps
set_option linter.unusedVariables false
section
variable {G : Nat → Prop} {w W : World} {A : Ad} {V : Wv} {q b : Nat} {o n t : Int} {a : Option Addr} {l c : Nat}
/-- A new operation beside a world. -/
theorem opwG {C : List Value} (h : WdG G w A V) (ho : Ob W q C) (hq : w.heap.size ≤ q) (hb : Below w.heap.size w W) : Opw G W A V q C := by
  obtain ⟨S, h1, h2, h3⟩ := h
  exact ⟨S, h1.new hb, h2, fun s => by have := h1.lt _ s; omega, ho, fun g => by have := h3 _ g; omega, fun k g => Nat.lt_of_lt_of_le (h3 k g) hb.size⟩
/-- The same beside one block more of the operation's. -/
theorem opwGb {C : List Value} (h : WdG G w A V) (ho : Ob W q C) (hq : w.heap.size ≤ q) (hb : Below w.heap.size w W) (hB : w.heap.size ≤ b) (hb2 : b < W.heap.size) (hqb : q ≠ b) : Opw (fun k => G k ∨ k = b) W A V q C := by
  obtain ⟨S, h1, h2, h3⟩ := h
  refine ⟨S, h1.new hb, fun k g s => ?_, fun s => by have := h1.lt _ s; omega, ho, fun g => ?_, fun k g => ?_⟩
  · rcases g with g | rfl
    · exact h2 k g s
    · have := h1.lt _ s; omega
  · rcases g with g | g
    · have := h3 _ g; omega
    · exact hqb g
  · rcases g with g | rfl
    · exact Nat.lt_of_lt_of_le (h3 k g) hb.size
    · exact hb2
/-- What a run leaves. -/
def RunW (G : Nat → Prop) (w : World) (A : Ad) (V : Wv) (t z k kd n : Int) (e : Ending) (w' : World) : Prop := e = .returned (.int .i64 k) ∧ ∃ V' : Wv, WdG G w' A V' ∧ (V'.f 2 = t ∧ V'.f 3 = z ∧ V'.cnt = V.cnt + k ∧ V'.h = V.h ∧ V'.c = V.c ∧ V'.M = addL V.M (V.cnt + k, V.h, kd, 0, 0, 0, 0, n)) ∧ Kp G w w'
set_option maxHeartbeats 1000000 in
set_option maxRecDepth 100000 in
theorem gwRun (h : WdG G w A V) (hW : Below w.heap.size w W) (ho : Ob W q (gwC (.slice (some ⟨b, 0, none⟩) 2 2) o n)) (hob : Ob W b [.int .i64 0, .int .i64 1]) (hs : Shp W q 110) (hq : w.heap.size ≤ q) (hB : w.heap.size ≤ b) (hqb : q ≠ b) (hc : V.cnt < 100000000) (hM : V.M.length ≤ 1000000) (ht : wordf o n = t) (hu : isU t) :
    Calls Try.prog 20 #[.pointer (some ⟨A.p, 0, none⟩), .iface 52 (.pointer (some ⟨q, 0, none⟩)), .int .i64 9] W (RunW G W A V t 0 2 4 n) := by
  have h0 := opwGb (b := b) h ho hq hW hB hob.lt hqb
  have C1 := Lib.hid (gst (P := fun w' => Opw (fun k => G k ∨ k = b) w' A (V.acc (upd V.f 3 0) 2 3 (V.f 3) 0) q (gwC (.slice (some ⟨b, 1, none⟩) 1 1) o n) ∧ Shp w' q 110 ∧ Kp (fun k => G k ∨ k = b) W w') (gcstep2 h0 hs (hob.at_ 0 _ rfl) (by omega)))
  have CO := Lib.hid (gov_f ho (by decide))
  have HOB := Lib.hid hob
  have HC := Lib.hid (And.intro hc (And.intro hM (And.intro ht hu)))
  clear h h0 hW ho hob hs hq hB hqb hc hM ht hu
  go_enter Try.func20, Try.ntmps20
  go_wp2_with fail
  refine wp_loop_rounds 3 ?_
  rw [rounds_succ]
  go_wp2_with fail
  refine CO.out.mono ?_
  rintro e w100 ⟨rfl, rfl⟩
  go_wp2_with fail
  refine C1.out.mono ?_
  rintro e w1 ⟨rfl, hT, hS, K⟩
  clear CO C1
  have HK1 := Lib.hid K
  have CO := Lib.hid (gov_f hT.ob (by decide))
  obtain ⟨V1, hV1⟩ : ∃ V1, V1 = V.acc (upd V.f 3 0) 2 3 (V.f 3) 0 := ⟨_, rfl⟩
  have HV1 := Lib.hid hV1
  rw [← hV1] at hT
  have C1 := Lib.hid (gst (P := fun w' => Opw (fun k => G k ∨ k = b) w' A ((V1.acc (upd V1.f 2 t) 2 2 (V1.f 2) t).note (V1.cnt + 1, V1.h, 4, 0, 0, 0, 0, n)) q (gwC (.slice (some ⟨b, 1, none⟩) 0 0) o n) ∧ Shp w' q 110 ∧ Kp (fun k => G k ∨ k = b) w1 w') (gcstep1 hT hS (K.cell (p := ⟨b, 1, none⟩) (fun n => n (.inr rfl)) (HOB.out.at_ 1 _ rfl)) (by rw [hV1]; show V.cnt + 1 < _; have := HC.out.1; omega) (by rw [hV1]; have := HC.out.2.1; show V.M.length ≤ _; omega) HC.out.2.2.1 HC.out.2.2.2))
  clear hT hS K hV1
  go_wp2_with fail
  rw [rounds_succ]
  go_wp2_with fail
  refine CO.out.mono ?_
  rintro e w101 ⟨rfl, rfl⟩
  go_wp2_with fail
  refine C1.out.mono ?_
  rintro e w2 ⟨rfl, hT, hS, K⟩
  clear CO C1
  have CO := Lib.hid (gov_t hT.ob)
  have HT := Lib.hid hT
  have HK := Lib.hid (Kp.to HK1.out K)
  clear hT hS K
  go_wp2_with fail
  rw [rounds_succ]
  go_wp2_with fail
  refine CO.out.mono ?_
  rintro e w200 ⟨rfl, rfl⟩
  go_wp2_with fail
  go_ret
  have hv := HV1.out
  refine ⟨rfl, _, HT.out.wdG.less (fun k g => .inl (.inl g)), ⟨?_, ?_, ?_, ?_, ?_, ?_⟩, HK.out.less (fun k g => .inl g)⟩
  · show upd V1.f 2 t 2 = t
    exact upd_same _ _ _
  · show upd V1.f 2 t 3 = 0
    rw [upd_other (by decide), hv]
    show upd V.f 3 0 3 = 0
    exact upd_same _ _ _
  · rw [hv]; show V.cnt + 1 + 1 = V.cnt + 2; omega
  · rw [hv]; rfl
  · rw [hv]; rfl
  · rw [hv]; show addL V.M (V.cnt + 1 + 1, V.h, 4, 0, 0, 0, 0, n) = _; rw [show V.cnt + 1 + 1 = V.cnt + 2 by omega]
set_option maxHeartbeats 1000000 in
set_option maxRecDepth 100000 in
theorem swRun (h : WdG G w A V) (hW : Below w.heap.size w W) (ho : Ob W q (gwC (.slice (some ⟨b, 0, none⟩) 1 1) o n)) (hob : Ob W b [.int .i64 2]) (hs : Shp W q 102) (hq : w.heap.size ≤ q) (hB : w.heap.size ≤ b) (hqb : q ≠ b) (hc : V.cnt < 100000000) (hM : V.M.length ≤ 1000000) (ht : wordf n 0 = t) (hu : isU t) :
    Calls Try.prog 20 #[.pointer (some ⟨A.p, 0, none⟩), .iface 49 (.pointer (some ⟨q, 0, none⟩)), .int .i64 9] W (RunW G W A V t (V.f 3) 1 5 n) := by
  have h0 := opwG h ho hq hW
  have C1 := Lib.hid (sst (P := fun w' => Opw G w' A ((V.acc (upd V.f 2 t) 2 2 (V.f 2) t).note (V.cnt + 1, V.h, 5, 0, 0, 0, 0, n)) q (gwC (.slice (some ⟨b, 0, none⟩) 0 0) o n) ∧ Shp w' q 102 ∧ Kp G W w') (scstep1 h0 hs (hob.at_ 0 _ rfl) (by omega) (by omega) ht hu))
  have CO := Lib.hid (sov_f ho (by decide))
  clear h h0 hW ho hob hs hq hB hqb hc hM ht hu
  go_enter Try.func20, Try.ntmps20
  go_wp2_with fail
  refine wp_loop_rounds 2 ?_
  rw [rounds_succ]
  go_wp2_with fail
  refine CO.out.mono ?_
  rintro e w100 ⟨rfl, rfl⟩
  go_wp2_with fail
  refine C1.out.mono ?_
  rintro e w2 ⟨rfl, hT, hS, K⟩
  clear CO C1
  have CO := Lib.hid (sov_t hT.ob)
  have HT := Lib.hid hT
  have HK := Lib.hid K
  clear hT hS K
  go_wp2_with fail
  rw [rounds_succ]
  go_wp2_with fail
  refine CO.out.mono ?_
  rintro e w200 ⟨rfl, rfl⟩
  go_wp2_with fail
  go_ret
  refine ⟨rfl, _, HT.out.wdG.less (fun k g => .inl g), ⟨(show upd V.f 2 t 2 = t from upd_same _ _ _), (show upd V.f 2 t 3 = V.f 3 from upd_other (by decide)), rfl, rfl, rfl, rfl⟩, HK.out⟩
end
end Go.Proofs.Ytepkpbhhiianpaa
