/- slices.SortFunc at the words of cells: by rising addresses. -/
import Derived.Test.YtodppilfpemepaaGreatSort
import Derived.Test.YtodppilfpemepaaGreatCpMath
import Derived.Test.YtodppilfpemepaaGreatKeep
import Derived.Shelf.SlSortCmp.NoneTotal
namespace Go.Proofs.YtodppilfpemepaaGreat
open Go.RowKit Go.Lib
open Go.Sort (putRowK size_putRowK HoldsK)
set_option linter.unusedVariables false

def cmpI (a b : Int) : Int := if a < b then -1 else if b < a then 1 else 0
theorem cmpw (a b : Int) (w : World) : Calls Tryz.prog 117 #[.int .u64 a, .int .u64 b] w fun e w' => e = .returned (.int .i64 (cmpI a b)) ∧ w' = w := by
  have hn : ∀ (x : Int) (W : World), Calls Tryz.prog 146 #[.int .u64 x] W fun e w' => e = .returned (.bool false) ∧ w' = W := by
    intro x W
    have h : (x != x) = false := by simp
    have h2 : (!decide (x = x)) = false := by simp
    go_enter Tryz.func146, Tryz.ntmps146
    go_wp2_with fail
    go_ret
    exact ⟨rfl, rfl⟩
  unfold cmpI
  by_cases h1 : a < b
  · have d1 : decide (a < b) = true := decide_eq_true h1
    rw [if_pos h1]
    go_enter Tryz.func117, Tryz.ntmps117
    go_wp2_with (go_at_call 146; refine (hn _ _).mono ?_; rintro e w' ⟨rfl, rfl⟩)
    go_ret
    exact ⟨rfl, rfl⟩
  · have d1 : decide (a < b) = false := decide_eq_false h1
    rw [if_neg h1]
    by_cases h2 : b < a
    · have d2 : decide (b < a) = true := decide_eq_true h2
      rw [if_pos h2]
      go_enter Tryz.func117, Tryz.ntmps117
      go_wp2_with (go_at_call 146; refine (hn _ _).mono ?_; rintro e w' ⟨rfl, rfl⟩)
      go_ret
      exact ⟨rfl, rfl⟩
    · have d2 : decide (b < a) = false := decide_eq_false h2
      rw [if_neg h2]
      go_enter Tryz.func117, Tryz.ntmps117
      go_wp2_with (go_at_call 146; refine (hn _ _).mono ?_; rintro e w' ⟨rfl, rfl⟩)
      go_ret
      exact ⟨rfl, rfl⟩
theorem closw (x y : Int × Int) (W : World) : Calls Tryz.prog 116 #[.agg #[.int .u64 x.1, .int .u64 x.2], .agg #[.int .u64 y.1, .int .u64 y.2]] W fun e w' => e = .returned (.int .i64 (cmpI x.1 y.1)) ∧ ∃ q os', w' = Go.Sort.grow (W.drewN q) os' := by
  have hcon := fun W' => cmpw x.1 y.1 W'
  generalize cmpI x.1 y.1 = r at hcon ⊢
  go_enter Tryz.func116, Tryz.ntmps116
  go_wp2_with (go_at_call 117; refine (hcon _).mono ?_; rintro e w' ⟨rfl, rfl⟩)
  go_ret
  exact ⟨rfl, 0, _, by rw [Go.Sort.alloc_eq_grow, Go.Sort.alloc_eq_grow, Go.Sort.grow_grow]; rfl⟩
def encW (x : Int × Int) : List Value := [.int .u64 x.1, .int .u64 x.2]
theorem cmp_lt (x y : Int × Int) : (decide (cmpI x.1 y.1 < 0)) = decide (x.1 < y.1) := by
  unfold cmpI
  by_cases h1 : x.1 < y.1
  · simp [h1]
  · by_cases h2 : y.1 < x.1 <;> simp [h1, h2]
theorem swo_w : Go.Sort.SWO (Go.Proofs.ltOf fun x y : Int × Int => cmpI x.1 y.1) where
  irrefl x := by unfold ltOf; rw [cmp_lt]; simp
  trans x y z h1 h2 := by unfold ltOf at *; rw [cmp_lt] at *; simp at *; omega
  ntrans x y z h1 h2 := by unfold ltOf at *; rw [cmp_lt] at *; simp at *; omega
theorem sorted_keeps {w : World} {blk n : Nat} {d : Array (Int × Int)} {os : Array Obj} : Keeps (fun j => j = blk) w (sortWorldK encW 2 w blk 0 n d os) := by
  refine ⟨rfl, rfl, rfl, ?_, fun k hk hn => ?_⟩
  · show w.heap.size ≤ (Go.Sort.grow _ os).heap.size
    rw [Go.Sort.size_grow, size_putRowK]
    exact Nat.le_add_right _ _
  · show (Go.Sort.grow _ os).heap[k]? = _
    have hs : (putRowK encW 2 (Go.Sort.ahead w n) blk 0 d).heap.size = w.heap.size := by rw [size_putRowK]; rfl
    rw [Go.Sort.heap_grow_old _ _ (by rw [hs]; exact hk)]
    unfold putRowK Go.Sort.putRow Go.Sort.mapBlock
    simp only [Array.getElem?_modify]
    rw [if_neg (fun e => hn e.symm)]
    rfl
set_option maxHeartbeats 2000000 in
theorem sortw (blk cap : Nat) (d : Array (Int × Int)) (w : World) (hH : HoldsK encW 2 w blk 0 d) (hblk : blk < w.heap.size) (hsz : d.size < 4611686018427387904) :
    Calls Tryz.prog 115 #[.slice (some ⟨blk, 0, none⟩) d.size cap, .func (.func 116) #[] #[]] w fun e w' =>
      e = .returned (.tuple #[]) ∧ ∃ d' : Array (Int × Int), Go.Sort.PermIn 0 d.size d d' ∧ Go.Sort.SortedIn (fun x y : Int × Int => decide (cmpI x.1 y.1 < 0)) 0 d.size d' ∧ HoldsK encW 2 w' blk 0 d' ∧ Keeps (fun j => j = blk) w w' := by
  have eg : ∀ args w, (callFunc 116 args).run Tryz.prog w = .ok (.enter 116 args) w := enters_of Tryz.func116 (by kernel_rfl) rfl
  have hcon := AnyQ.slices_SortFunc Tryz.sortW 2 Tryz.isAgg134 Tryz.sizeOf134 encW (fun _ => rfl) (fun x v hv => by simp [encW] at hv; rcases hv with rfl | rfl <;> rfl) (fun x y => cmpI x.1 y.1) swo_w 116 #[] blk 0 cap d w eg (fun _ _ _ _ x y => closw x y _) hH hblk hsz
  refine hcon.mono ?_
  rintro e w' ⟨rfl, d', n, os, hp, hs, rfl⟩
  exact ⟨rfl, d', hp, hs, holdsK_sortWorldK encW 2 w blk 0 n d d' os hblk hH hp.1, sorted_keeps⟩
end Go.Proofs.YtodppilfpemepaaGreat
