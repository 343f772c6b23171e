/- A pair of worlds: Other, the chapter's Peek and Grows. -/
import Derived.Test.YtmdofhdjikapgaaGreatPwA
import Derived.Test.YtmdofhdjikapgaaGreatGPn
import Derived.Test.YtmdofhdjikapgaaGreatGPl
namespace Go.Proofs.YtmdofhdjikapgaaGreat
open Go.RowKit Go.Maps
set_option linter.unusedVariables false
theorem other10 (b u t q y : Int) (w : World) : Calls Tryz.prog 30 #[.agg #[.int .i64 b, .int .i64 u, .int .i64 t, .int .i64 q, .int .i64 y]] w fun e w' => e = .returned (.agg #[.int .i64 b, .int .i64 u, .int .i64 t, .int .i64 q, .int .i64 y]) ∧ Below w.heap.size w w' := by
  go_enter Tryz.func30, Tryz.ntmps30
  go_wp2_with fail
  refine bodyPost_ret (v := .agg #[.int .i64 b, .int .i64 u, .int .i64 t, .int .i64 q, .int .i64 y]) (by simp [results, Tryz.results30, go_sem]) rfl ⟨rfl, ?_⟩
  exact ((Below.refl w.heap.size w).alloc (Nat.le_refl _) _).alloc (by simp) _
section
variable {w : World} {A R : Ad} {V : Wv} {S T : Nat → Prop}
theorem pw_rpeek (h : Pw w A R V S T) {a : Int} (ha : isU a) : Calls Tryz.prog 19 #[.pointer (some ⟨R.p, 0, none⟩), .int .u64 a] w fun e w' => e = .returned (.int .u64 (V.f a)) ∧ ∃ n, w' = w.drewN n := by
  obtain ⟨L, ⟨TC, TI, TN, r⟩, hl, -⟩ := h.r
  have c0 := r.box.c0
  have C := Lib.hid (rgc_peek r.cel (hl.peek ha))
  clear r h hl
  go_enter Tryz.func19, Tryz.ntmps19
  go_wp2_with fail
  refine C.out.mono ?_
  rintro e w' ⟨rfl, n, rfl⟩
  go_wp2_with fail
  go_ret
  exact ⟨rfl, n, rfl⟩
set_option maxHeartbeats 1000000 in
set_option maxRecDepth 100000 in
theorem pw_rgrows (h : Pw w A R V S T) : Calls Tryz.prog 44 #[.pointer (some ⟨R.p, 0, none⟩)] w fun e w' => e = .returned (.bool (growsF V)) ∧ Below w.heap.size w w' := by
  obtain ⟨u1, u2⟩ := h.a.rng (a := 2) ⟨by decide, by decide⟩
  have C := Lib.hid (pw_rpeek h (a := 2) ⟨by decide, by decide⟩)
  have HH : Hid (∀ X, Below w.heap.size w X → X.cell? ⟨R.p, 3, none⟩ = some (.int .i64 V.c.bits) ∧ X.cell? ⟨R.p, 4, none⟩ = some (.int .i64 V.c.budget)) := Lib.hid (fun X hb => by
    obtain ⟨L, ⟨TC, TI, TN, r⟩, -⟩ := (h.new hb).r
    exact ⟨r.box.c3, r.box.c4⟩)
  have CA := Lib.hid (fun W => ras (V.f 2) W u1 (by omega))
  unfold growsF
  clear h
  generalize V.f 2 = z at *
  generalize V.c.budget = b at *
  generalize V.c.bits = f at *
  generalize asO z = o at *
  generalize asN z = m at *
  by_cases hm : m = 0
  · have hmb : (m == 0) = true := by simpa using hm
    have e1 : (m == 0 && mayf f b o) = mayf f b o := by rw [hmb]; rfl
    rw [e1]
    clear e1 hm
    generalize hr : mayf f b o = r
    have CM := Lib.hid (fun W => rmay f b o W)
    rw [hr] at CM
    clear hr
    go_enter Tryz.func44, Tryz.ntmps44
    go_wp2_with fail
    refine C.out.mono ?_
    rintro e w' ⟨rfl, n, rfl⟩
    have hbn := drewN_below w n
    go_wp2_with fail
    refine (CA.out _).mono ?_
    rintro e w1 ⟨rfl, rfl⟩
    obtain ⟨c3, c4⟩ := HH.out _ hbn
    have HK := Lib.hid hbn
    generalize w.drewN n = w1 at *
    clear HH C hbn
    go_wp2_with fail
    go_quiet ((go_at_call 94; exact quiet_left (CM.out _)))
    go_wp2_with fail
    go_ret
    exact ⟨rfl, belowWd HK.out nq⟩
  · have hmb : (m == 0) = false := by simpa using hm
    have e1 : (m == 0 && mayf f b o) = false := by rw [hmb]; rfl
    rw [e1]
    clear e1 hm
    go_enter Tryz.func44, Tryz.ntmps44
    go_wp2_with fail
    refine C.out.mono ?_
    rintro e w' ⟨rfl, n, rfl⟩
    have hbn := drewN_below w n
    go_wp2_with fail
    refine (CA.out _).mono ?_
    rintro e w1 ⟨rfl, rfl⟩
    have HK := Lib.hid hbn
    generalize w.drewN n = w1 at *
    clear HH C hbn
    go_wp2_with fail
    go_quiet (fail)
    go_wp2_with fail
    go_ret
    exact ⟨rfl, belowWd HK.out nq⟩
end
end Go.Proofs.YtmdofhdjikapgaaGreat
