/- FeedsVoid: no feed tells nothing; a void one is one as at first. -/
import Derived.Test.YtifbcejekdhnlaaGRe
namespace Go.Proofs.Ytifbcejekdhnlaa
open Go.RowKit Go.Maps
set_option linter.unusedVariables false

set_option maxHeartbeats 8000000 in
set_option maxRecDepth 100000 in
theorem walk_FeedsVoid (a0 : Option Addr) (l0 c0 : Nat) (w : World) (w0 : Reads Try.prog w 23 (.slice a0 l0 c0)) :
    Calls Try.prog 4 #[.slice a0 l0 c0] w fun e w' => e = .returned (.bool true) ∧ Below w.heap.size w w' := by
  obtain ⟨L, rfl, hLc, hLm, hA0, hrL⟩ := open_by (P := Try.prog) Try.underlying23 (by kernel_rfl) (by kernel_rfl) w0
  have HRL := Lib.hid hrL
  clear w0 hrL
  obtain ⟨m, hm⟩ : ∃ m, m = L.length := ⟨_, rfl⟩
  have HM := Lib.hid hm
  rw [← hm] at hLc ⊢
  clear hm
  by_cases h3 : m ≤ 3000
  · have d3 : decide (3000 < (m : Int)) = false := decide_eq_false (by omega)
    go_enter Try.func4, Try.ntmps4
    go_upto_region 6 with (fail)
    have hF0 := fd_zero w
    generalize hW1 : w.alloc _ = W1 at *
    have hR0 := rf_new W1
    generalize hW2 : W1.alloc _ = W2 at *
    have hz1 : W1.heap.size = w.heap.size + 1 := by rw [← hW1]; simp
    have hb1 : Below w.heap.size w W1 := by rw [← hW1]; exact (Below.refl _ _).alloc (Nat.le_refl _) _
    have hb12 : Below W1.heap.size W1 W2 := by rw [← hW2]; exact (Below.refl _ _).alloc (Nat.le_refl _) _
    have hz2 : W2.heap.size = w.heap.size + 2 := by rw [← hW2]; simp; omega
    have hF2 := hF0.new hb12
    have hb2 : Below w.heap.size w W2 := hb1.trans (hb12.mono hb1.size)
    clear hW1 hW2 hF0 hb1 hb12
    rw [hz1] at hR0
    try rw [hz1]
    have HF2 := Lib.hid hF2
    have HR2 := Lib.hid hR0
    have HB2 := Lib.hid hb2
    have hll := feed_ok L
    have HLL := Lib.hid hll
    have hml : L.length ≤ 3000 := by rw [← HM.out]; exact h3
    have HML := Lib.hid hml
    clear hF2 hR0 hb2 hll hml
    go_wp2_with fail
    refine (in_nil _ _).mono ?_
    rintro e x1 ⟨rfl, rfl⟩
    go_wp2_with fail
    refine (left_nil _).mono ?_
    rintro e x2 ⟨rfl, rfl⟩
    go_wp2_with fail
    refine (leftw _ Fst.new _ _ _ HF2.out.cells HF2.out.row (by simp [Fst.new, Fst.at])).mono ?_
    rintro e x3 ⟨rfl, rfl⟩
    rw [show ((leftF Fst.new : Nat) : Int) = 0 from rfl]
    go_wp2_with fail
    have hin := inw w.heap.size _ _ _ _ a0 c0 L W2 HF2.out FOk.new (by have := HM.out; exact ⟨by omega, hLm⟩) (by have := HML.out; omega) ((HRL.out.below HB2.out (Nat.le_refl _)).mono HB2.out.size) (by
      intro g o e h0 u
      obtain ⟨g', o', e', hg, _⟩ := HRL.out h0
      rw [e] at e'
      injection e' with e'
      injection e' with e1 _
      omega)
    rw [← HM.out] at hin
    refine hin.mono ?_
    clear hin
    rintro e W3 ⟨U3, hv3, kv3, v3, ps3, rfl, f3, k3, g3, hp3, ev3⟩
    obtain ⟨a3, rfl⟩ := ev3.form
    have hR3 := HR2.out.keep k3 (by omega) (by omega)
    have hb3 : Below w.heap.size w W3 := HB2.out.trans (k3.to_below (fun k _ e => by omega) HB2.out.size)
    have H3 := Lib.hid (And.intro f3 (And.intro g3 (And.intro hp3 ev3)))
    have HR3 := Lib.hid hR3
    have HB3 := Lib.hid hb3
    clear f3 k3 g3 hp3 ev3 hR3 hb3 HF2 HR2
    go_wp2_with fail
    have hin := rinw (w.heap.size + 1) (w.heap.size + 1) [] L a0 c0 W3 HR3.out (by simp; have := HML.out; omega) ((HRL.out.below HB3.out (Nat.le_refl _)).mono HB3.out.size) hA0
    rw [← HM.out] at hin
    refine hin.mono ?_
    clear hin
    rintro e W4 ⟨v4, ps4, g4, rfl, e4, hp4, r4, k4, hg4⟩
    obtain ⟨f3, g3, hp3, ev3⟩ := H3.out
    obtain ⟨u4, hu4, hus4, -⟩ := HR3.out.head
    rw [List.nil_append] at r4
    have hev : (feedF (feedF Fst.new []).1 L).2 = (feedF Fst.new L).2 := rfl
    rw [hev] at hp4
    have hpl : ps3.length ≤ 1048576 := by
      have := feedF_count Fst.new L
      rw [← hp3, List.length_map] at this
      have := HML.out
      omega
    have hE3 := ev3.rd_keep hpl k4 (by omega) hu4 hus4
    have hf4 := f3.other k4 (fun g t => by
      subst t
      refine ⟨fun u => ?_, fun x hx => by rw [hu4] at hx; injection hx with hx; exact hus4 x hx⟩
      rcases g3 _ u with u | u
      · omega
      · omega)
    have hb4 : Below w.heap.size w W4 := HB3.out.trans (k4.to_below (fun k _ e => by omega) HB3.out.size)
    have HS := Lib.hid (samew ps3.length a3 v4 ps3 ps4 W4 hE3 e4 (by rw [hp3, hp4]) (by rw [hp3]; exact evOk_feed L _))
    have HF4 := Lib.hid hf4
    have HR4 := Lib.hid r4
    have HB4 := Lib.hid hb4
    clear f3 g3 hp3 ev3 hu4 hus4 r4 hev hp4 hpl hE3 hf4 hb4 e4 k4 hg4
    go_wp2_with fail
    refine HS.out.mono ?_
    rintro e W5 ⟨rfl, hb5⟩
    have HF5 := Lib.hid (HF4.out.new hb5)
    have HR5 := Lib.hid (HR4.out.new hb5)
    have HB5 := Lib.hid (HB4.out.trans (hb5.mono HB4.out.size))
    clear hb5
    go_wp2_with fail
    refine (leftw _ _ _ _ _ HF5.out.cells HF5.out.row HLL.out).mono ?_
    rintro e x5 ⟨rfl, rfl⟩
    go_wp2_with fail
    refine (rleftw _ _ L _ HR5.out (by have := HML.out; omega)).mono ?_
    rintro e W6 ⟨rfl, hb6⟩
    have HB6 := Lib.hid (HB5.out.trans (hb6.mono HB5.out.size))
    clear hb6
    go_wp2_with fail
    refine (lives30 W6).mono ?_
    rintro e W7 ⟨rfl, hb7⟩
    have HB7 := Lib.hid (HB6.out.trans (hb7.mono HB6.out.size))
    clear hb7
    go_wp2_with fail
    go_ret
    exact ⟨rfl, HB7.out⟩
  · have d3 : decide (3000 < (m : Int)) = true := decide_eq_true (by omega)
    go_enter Try.func4, Try.ntmps4
    go_wp2_with fail
    refine (lives30 w).mono ?_
    rintro e w1 ⟨rfl, hb⟩
    have HB := Lib.hid hb
    clear hb
    go_wp2_with fail
    go_ret
    exact ⟨rfl, HB.out⟩
end Go.Proofs.Ytifbcejekdhnlaa
