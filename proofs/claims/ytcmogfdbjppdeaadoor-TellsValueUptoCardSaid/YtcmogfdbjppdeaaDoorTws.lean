/- Tells: the chapter's value, with its unique number. -/
import Derived.Test.YtcmogfdbjppdeaaDoorTwm
import Derived.Laws.Concat
import Derived.Deep.RegionHeld3
namespace Go.Proofs.YtcmogfdbjppdeaaDoor
open Go.RowKit
set_option linter.unusedVariables false

set_option maxHeartbeats 1500000 in
set_option maxRecDepth 100000 in
theorem rvalue_gets (ks : Value) (cv : Int) (ck cval : ByteArray) (cf ce ci cb ex : Int) (q : Bool) (n : Int) (ik iv : ByteArray) (f id : Nat) (d e2 : Int) (w : World) (hK : ik.size ≤ 4000) (hV : iv.size ≤ 4000) (hf : f < 4294967296) (hid : id < 18446744073709551616) :
    Calls Tryd.prog 19 #[.agg #[.int .u8 2, ks, .int .u8 cv, .string ck, .string cval, .int .u32 cf, .int .i64 ce, .int .u64 ci, .int .u64 cb, .int .i64 ex, .bool q], .agg #[.int .u8 11, .int .u64 n, .string ik, .string iv, .int .u32 f, .int .u64 id, .int .i64 d, .int .i64 e2]] w fun e w' => e = .returned (.string (valueB ik (toldB [f, iv.size, id]) iv)) ∧ Below w.heap.size w w' := by
  have hf' : (f : Int) < 4294967296 := by omega
  have wf : IntKind.u64.wrap (f : Int) = f := IntWalk.u64_in _ (by omega)
  have wv : IntKind.u64.wrap (iv.size : Int) = iv.size := IntWalk.u64_in _ (by omega)
  obtain ⟨D, hD⟩ : ∃ D : Nat → ByteArray, D = fun m => ⟨(Lib.decDigits m).toArray⟩ := ⟨_, rfl⟩
  have hDs : ∀ m, m < 18446744073709551616 → (D m).size ≤ 20 := fun m hm => by rw [hD]; exact (dec_len (u := m) (by omega)).2
  have E : Hid (∀ (m : Nat), m < 18446744073709551616 → ∀ w : World, Calls Tryd.prog 31 #[.int .u64 (m : Int)] w fun e w' => e = .returned (.string (D m)) ∧ w = w') := Lib.hid (fun m hm w => by rw [hD]; exact reftext m hm w)
  have hsF := hDs f (by omega)
  have hsV := hDs iv.size (by omega)
  have hsI := hDs id (by omega)
  have HF : Hid (D f = ⟨(Lib.decDigits f).toArray⟩) := Lib.hid (by rw [hD])
  have HV : Hid (D iv.size = ⟨(Lib.decDigits iv.size).toArray⟩) := Lib.hid (by rw [hD])
  have HI : Hid (D id = ⟨(Lib.decDigits id).toArray⟩) := Lib.hid (by rw [hD])
  clear hD hDs
  have adds : ∀ a b : ByteArray, a.size + b.size ≤ 20000 → ∃ c : ByteArray, Hid (a ++ b = c) ∧ c.size = a.size + b.size ∧ ∀ w : World, (Op.stringOp .add a b).run Tryd.prog w = .ok (.string c) w := fun a b h => ⟨a ++ b, Lib.hid rfl, ByteArray.size_append, fun w => run_string_add_sum w a b (by omega)⟩
  have z6 : (⟨#[86, 65, 76, 85, 69, 32]⟩ : ByteArray).size = 6 := rfl
  have z1 : (⟨#[32]⟩ : ByteArray).size = 1 := rfl
  have z2 : (⟨#[13, 10]⟩ : ByteArray).size = 2 := rfl
  obtain ⟨S1, h1, s1, r1⟩ := adds ⟨#[86, 65, 76, 85, 69, 32]⟩ ik (by omega)
  obtain ⟨S2, h2, s2, r2⟩ := adds S1 ⟨#[32]⟩ (by omega)
  obtain ⟨S3, h3, s3, r3⟩ := adds S2 (D f) (by omega)
  obtain ⟨S4, h4, s4, r4⟩ := adds S3 ⟨#[32]⟩ (by omega)
  obtain ⟨S5, h5, s5, r5⟩ := adds S4 (D iv.size) (by omega)
  obtain ⟨S6, h6, s6, r6⟩ := adds S5 ⟨#[32]⟩ (by omega)
  obtain ⟨S7, h7, s7, r7⟩ := adds S6 (D id) (by omega)
  obtain ⟨S8, h8, s8, r8⟩ := adds S7 ⟨#[13, 10]⟩ (by omega)
  obtain ⟨S9, h9, s9, r9⟩ := adds S8 iv (by omega)
  obtain ⟨T, hT, sT, rT⟩ := adds S9 ⟨#[13, 10]⟩ (by omega)
  have hR : Hid (T = valueB ik (toldB [f, iv.size, id]) iv) := Lib.hid (by rw [← hT.out, ← h9.out, ← h8.out, ← h7.out, ← h6.out, ← h5.out, ← h4.out, ← h3.out, ← h2.out, ← h1.out]; exact told3 HF.out HV.out HI.out)
  clear adds z6 z1 z2 h1 h2 h3 h4 h5 h6 h7 h8 h9 hT s1 s2 s3 s4 s5 s6 s7 s8 s9 sT hsF hsV hsI
  go_enter Tryd.func19, Tryd.ntmps19
  go_wp2_with fail
  generalize hW : (w.alloc _).alloc _ = W
  obtain ⟨F1, F2, hb, hs⟩ := pair_facts hW
  have c0 : W.cell? ⟨w.heap.size, 0, none⟩ = some (.int .u8 2) := F1 0
  have i0 : W.cell? ⟨w.heap.size + 1, 2, none⟩ = some (.string ik) := F2 2
  have i1 : W.cell? ⟨w.heap.size + 1, 3, none⟩ = some (.string iv) := F2 3
  have i2 : W.cell? ⟨w.heap.size + 1, 4, none⟩ = some (.int .u32 (f : Int)) := F2 4
  have i3 : W.cell? ⟨w.heap.size + 1, 5, none⟩ = some (.int .u64 (id : Int)) := F2 5
  clear F1 F2 hW
  have hl0 : w.heap.size < W.heap.size := by omega
  have hl1 : w.heap.size + 1 < W.heap.size := by omega
  replace hb := hb.drew
  clear hs
  go_region_held3 (fun w' => w'.cell? ⟨w.heap.size, 0, none⟩ = some (.int .u8 2) ∧ w'.cell? ⟨w.heap.size + 1, 2, none⟩ = some (.string ik) ∧ w'.cell? ⟨w.heap.size + 1, 3, none⟩ = some (.string iv) ∧ w'.cell? ⟨w.heap.size + 1, 4, none⟩ = some (.int .u32 (f : Int)) ∧ w'.cell? ⟨w.heap.size + 1, 5, none⟩ = some (.int .u64 (id : Int)))
    (first | exact ⟨c0, i0, i1, i2, i3⟩)
    (first | (go_at_call 31; refine (E.out _ (by omega) _).mono ?_; rintro e w1 ⟨rfl, rfl⟩))
  all_goals
    go_wp2_with fail
    refine (E.out id (by omega) _).mono ?_
    rintro e w1 ⟨rfl, rfl⟩
    go_wp2_with fail
    go_ret
    exact ⟨by rw [← hR.out]; rfl, hb⟩
end Go.Proofs.YtcmogfdbjppdeaaDoor
