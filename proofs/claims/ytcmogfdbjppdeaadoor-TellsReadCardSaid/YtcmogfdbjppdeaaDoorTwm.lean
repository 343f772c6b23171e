/- Tells: of the chapter's value, the mathematics and the value of what was not found. -/
import Derived.Test.YtcmogfdbjppdeaaDoorTr
import Derived.Deep.RegionHeld3
import Derived.BigQuiet
namespace Go.Proofs.YtcmogfdbjppdeaaDoor
open Go.RowKit
set_option linter.unusedVariables false

theorem rvalue_no (v : Int) (ks : Value) (cv : Int) (ck cval : ByteArray) (cf ce ci cb ex : Int) (q : Bool) (k n : Int) (ik iv : ByteArray) (f id d e2 : Int) (w : World) (hk : k ≠ 11) :
    Calls Tryd.prog 19 #[.agg #[.int .u8 v, ks, .int .u8 cv, .string ck, .string cval, .int .u32 cf, .int .i64 ce, .int .u64 ci, .int .u64 cb, .int .i64 ex, .bool q], .agg #[.int .u8 k, .int .u64 n, .string ik, .string iv, .int .u32 f, .int .u64 id, .int .i64 d, .int .i64 e2]] w fun e w' => e = .returned (.string ⟨#[]⟩) ∧ Below w.heap.size w w' := by
  have h1 : (k != 11) = true := by simpa using hk
  clear hk
  go_enter Tryd.func19, Tryd.ntmps19
  go_wp2
  go_ret
  exact ⟨rfl, two_below _ _ _⟩
set_option maxHeartbeats 4000000 in
set_option maxRecDepth 100000 in
theorem pair_facts {w W : World} {CA NA : Array Value} {t1 t4 : TypeId} (hW : (w.alloc (Obj.cells CA t1)).alloc (Obj.cells NA t4) = W) :
    (∀ i, W.cell? ⟨w.heap.size, i, none⟩ = CA[i]?) ∧ (∀ i, W.cell? ⟨w.heap.size + 1, i, none⟩ = NA[i]?) ∧ Below w.heap.size w W ∧ W.heap.size = w.heap.size + 1 + 1 := by
  subst hW
  have b1 := heap_alloc_new w (Obj.cells CA t1)
  have b3 := heap_alloc_new (w.alloc (Obj.cells CA t1)) (Obj.cells NA t4)
  have s1 : (w.alloc (Obj.cells CA t1)).heap.size = w.heap.size + 1 := by simp
  rw [s1] at b3
  have k1 := (Below.heap_alloc (w.alloc (Obj.cells CA t1)) (Obj.cells NA t4) w.heap.size (by omega)).trans b1
  refine ⟨fun i => by simp only [World.cell?, k1]; rfl, fun i => by simp only [World.cell?, b3]; rfl, two_below _ _ _, by simp⟩
theorem told2 {ik iv F V : ByteArray} {f : Nat} (hF : F = ⟨(Lib.decDigits f).toArray⟩) (hV : V = ⟨(Lib.decDigits iv.size).toArray⟩) : ((((((((⟨#[86, 65, 76, 85, 69, 32]⟩ ++ ik) ++ ⟨#[32]⟩) ++ F) ++ ⟨#[32]⟩) ++ V) ++ ⟨#[13, 10]⟩) ++ iv) ++ ⟨#[13, 10]⟩ : ByteArray) = valueB ik (toldB [f, iv.size]) iv := by
  subst hF hV
  have e : toldB [f, iv.size] = (⟨(Lib.decDigits f).toArray⟩ ++ ⟨#[32]⟩) ++ ⟨(Lib.decDigits iv.size).toArray⟩ := by
    apply ByteArray.ext
    apply Array.toList_inj.mp
    simp [toldB, Lib.join]
  rw [e]
  unfold valueB
  simp only [ByteArray.append_assoc]
theorem told3 {ik iv F V I : ByteArray} {f id : Nat} (hF : F = ⟨(Lib.decDigits f).toArray⟩) (hV : V = ⟨(Lib.decDigits iv.size).toArray⟩) (hI : I = ⟨(Lib.decDigits id).toArray⟩) : ((((((((((⟨#[86, 65, 76, 85, 69, 32]⟩ ++ ik) ++ ⟨#[32]⟩) ++ F) ++ ⟨#[32]⟩) ++ V) ++ ⟨#[32]⟩) ++ I) ++ ⟨#[13, 10]⟩) ++ iv) ++ ⟨#[13, 10]⟩ : ByteArray) = valueB ik (toldB [f, iv.size, id]) iv := by
  subst hF hV hI
  have e : toldB [f, iv.size, id] = (((⟨(Lib.decDigits f).toArray⟩ ++ ⟨#[32]⟩) ++ ⟨(Lib.decDigits iv.size).toArray⟩) ++ ⟨#[32]⟩) ++ ⟨(Lib.decDigits id).toArray⟩ := by
    apply ByteArray.ext
    apply Array.toList_inj.mp
    simp [toldB, Lib.join]
  rw [e]
  unfold valueB
  simp only [ByteArray.append_assoc]
end Go.Proofs.YtcmogfdbjppdeaaDoor
