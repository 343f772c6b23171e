/- The chapter's cells of whatever words: Load, Store, Swap, Add, CAS. -/
import Derived.Test.YtdlniopjkioamaaRgA
import Derived.Test.YtdlniopjkioamaaClC
import Derived.Deep.RegionHeld3
import Derived.BigQuiet
import Derived.Deep.QuietTactic
namespace Go.Proofs.Ytdlniopjkioamaa
open Go.RowKit
set_option linter.unusedVariables false

section
variable {w : World} {r : Nat} {L : List (Int × Int)} {cnt kk a0 x y u : Int} {T : Nat → Prop}
theorem rgc_peek (h : Rg w r L cnt kk a0 x y T) {a : Int} (hu : peekL L a = u) :
    Calls Try.prog 11 #[.pointer (some ⟨r, 0, none⟩), .int .u64 a] w fun e w' => e = .returned (.int .u64 u) ∧ ∃ n, w' = w.drewN n := hu ▸ rg_peek h a
theorem rgc_access (h : Rg w r L cnt kk a0 x y T) (hL : L.length ≤ 1000000000) (hc0 : 0 ≤ cnt) (hc1 : cnt < 1000000000000) {a : Int} (hu : peekL L a = u) (k v : Int) (n : Nat) :
    Calls Try.prog 38 #[.pointer (some ⟨r, 0, none⟩), .int .u8 k, .int .u64 a, .int .u64 v] (w.drewN n) fun e w' => e = .returned (.int .u64 u) ∧ RPost w r (putL L a v) (cnt + 1) k a u v T w' := by
  refine (rg_access (h.after (drewN_below w n)) hL hc0 hc1 k a v).mono ?_
  rintro e w' ⟨rfl, hp⟩
  rw [hu] at hp ⊢
  exact ⟨rfl, RPost.after (drewN_below w n) hp⟩
theorem rgc_acc (h : Rg w r L cnt kk a0 x y T) (hL : L.length ≤ 1000000000) (hc0 : 0 ≤ cnt) (hc1 : cnt < 1000000000000) {a : Int} (hu : peekL L a = u) (k v : Int) :
    Calls Try.prog 38 #[.pointer (some ⟨r, 0, none⟩), .int .u8 k, .int .u64 a, .int .u64 v] w fun e w' => e = .returned (.int .u64 u) ∧ RPost w r (putL L a v) (cnt + 1) k a u v T w' := rgc_access h hL hc0 hc1 hu k v 0
variable (h : Rg w r L cnt kk a0 x y T) (hL : L.length ≤ 1000000000) (hc0 : 0 ≤ cnt) (hc1 : cnt < 1000000000000) {a : Int} (hu : peekL L a = u)
include h hL hc0 hc1 hu
theorem rg_load : Calls Try.prog 21 #[.pointer (some ⟨r, 0, none⟩), .int .u64 a] w fun e w' => e = .returned (.int .u64 u) ∧ RPost w r (putL L a u) (cnt + 1) 1 a u u T w' := by
  have C1 := Lib.hid (rgc_peek h hu)
  have C2 := Lib.hid (fun n => rgc_access h hL hc0 hc1 hu 1 u n)
  clear h hu
  go_enter Try.func21, Try.ntmps21
  go_wp2_with (first
    | (go_at_call 11; ((with_reducible refine C1.out.mono ?_); rintro e w1 ⟨rfl, n, rfl⟩))
    | (go_at_call 38; ((with_reducible refine (C2.out _).mono ?_); rintro e w1 ⟨rfl, hk⟩)))
  go_ret
  exact ⟨rfl, hk⟩
theorem rg_store (v : Int) : Calls Try.prog 22 #[.pointer (some ⟨r, 0, none⟩), .int .u64 a, .int .u64 v] w fun e w' => e = .returned (.int .u64 u) ∧ RPost w r (putL L a v) (cnt + 1) 2 a u v T w' := by
  have C2 := Lib.hid (rgc_acc h hL hc0 hc1 hu 2 v)
  clear h hu
  go_enter Try.func22, Try.ntmps22
  go_wp2_with ((go_at_call 38; ((with_reducible refine C2.out.mono ?_); rintro e w1 ⟨rfl, hk⟩)))
  go_ret
  exact ⟨rfl, hk⟩
theorem rg_swap (v : Int) : Calls Try.prog 24 #[.pointer (some ⟨r, 0, none⟩), .int .u64 a, .int .u64 v] w fun e w' => e = .returned (.int .u64 u) ∧ RPost w r (putL L a v) (cnt + 1) 5 a u v T w' := by
  have C2 := Lib.hid (rgc_acc h hL hc0 hc1 hu 5 v)
  clear h hu
  go_enter Try.func24, Try.ntmps24
  go_wp2_with ((go_at_call 38; ((with_reducible refine C2.out.mono ?_); rintro e w1 ⟨rfl, hk⟩)))
  go_ret
  exact ⟨rfl, hk⟩
theorem rg_add (v : Int) {z : Int} (hz : IntKind.u64.wrap (u + v) = z) : Calls Try.prog 25 #[.pointer (some ⟨r, 0, none⟩), .int .u64 a, .int .u64 v] w fun e w' => e = .returned (.int .u64 u) ∧ RPost w r (putL L a z) (cnt + 1) 4 a u z T w' := by
  have C1 := Lib.hid (rgc_peek h hu)
  have C2 := Lib.hid (fun n => rgc_access h hL hc0 hc1 hu 4 z n)
  clear h hu
  go_enter Try.func25, Try.ntmps25
  go_wp2_with (first
    | (go_at_call 11; ((with_reducible refine C1.out.mono ?_); rintro e w1 ⟨rfl, n, rfl⟩))
    | (go_at_call 38; ((with_reducible refine (C2.out _).mono ?_); rintro e w1 ⟨rfl, hk⟩)))
  go_ret
  exact ⟨rfl, hk⟩
theorem rg_cas (was is : Int) {b : Bool} (hb : (u == was) = b) : Calls Try.prog 23 #[.pointer (some ⟨r, 0, none⟩), .int .u64 a, .int .u64 was, .int .u64 is] w fun e w' => e = .returned (.tuple #[.int .u64 u, .bool b]) ∧ RPost w r (putL L a (casI b is u)) (cnt + 1) 3 a u (casI b is u) T w' := by
  have C1 := Lib.hid (rgc_peek h hu)
  have C2 := Lib.hid (fun v n => rgc_access h hL hc0 hc1 hu 3 v n)
  clear h hu
  cases b with
  | true =>
    have e : u = was := by simpa using hb
    subst e
    have d2 : (u != u) = false := by simp
    go_enter Try.func23, Try.ntmps23
    go_wp2_with (first
      | (go_at_call 11; ((with_reducible refine C1.out.mono ?_); rintro e w1 ⟨rfl, n, rfl⟩))
      | (go_at_call 38; ((with_reducible refine (C2.out _ _).mono ?_); rintro e w1 ⟨rfl, hk⟩)))
    go_ret2
    exact ⟨rfl, hk⟩
  | false =>
    have d2 : (u != was) = true := by simpa using hb
    have d3 : decide (u = was) = false := by simpa using hb
    go_enter Try.func23, Try.ntmps23
    go_wp2_with (first
      | (go_at_call 11; ((with_reducible refine C1.out.mono ?_); rintro e w1 ⟨rfl, n, rfl⟩))
      | (go_at_call 38; ((with_reducible refine (C2.out _ _).mono ?_); rintro e w1 ⟨rfl, hk⟩)))
    go_ret2
    exact ⟨rfl, hk⟩
end
/-- The list of whatever words at first. -/
def listL (M : List (Int × Int)) : List (Int × Int) := M.foldl (fun L x => putL L x.1 x.2) []
theorem listL_take {M : List (Int × Int)} {k : Nat} {x : Int × Int} (h : M[k]? = some x) : listL (M.take (k + 1)) = putL (listL (M.take k)) x.1 x.2 := by
  have hk : k < M.length := by
    rcases Nat.lt_or_ge k M.length with h' | h'
    · exact h'
    · rw [List.getElem?_eq_none h'] at h; simp at h
  rw [List.take_succ_eq_append_getElem hk]
  rw [List.getElem?_eq_getElem hk] at h
  simp at h
  unfold listL
  rw [List.foldl_append, h]; rfl
theorem listL_len (M : List (Int × Int)) : (listL M).length ≤ M.length := by
  have key : ∀ (M L : List (Int × Int)), (M.foldl (fun L x => putL L x.1 x.2) L).length ≤ L.length + M.length := by
    intro M
    induction M with
    | nil => intro L; simp
    | cons x r ih =>
      intro L
      rw [List.foldl_cons]
      have h1 := ih (putL L x.1 x.2)
      have h2 := goL_len x.1 x.2 L (x.2 == 0)
      simp only [List.length_cons]
      unfold putL at h1 ⊢
      omega
  have := key M []
  simpa [listL] using this
set_option maxHeartbeats 2000000 in
set_option maxRecDepth 100000 in
theorem rg_new {w : World} {v : Value} {M : List (Int × Int)} {T0 : Nat → Prop} (h : RL w v M T0) (hM : M.length ≤ 1000000) :
    Calls Try.prog 6 #[v] w fun e w' => e = .returned (.pointer (some ⟨w.heap.size, 0, none⟩)) ∧ Below w.heap.size w w' ∧ ∃ T, Rg w' w.heap.size (listL M) 0 0 0 0 0 T ∧ ∀ j, T j → w.heap.size ≤ j := by
  rcases h with ⟨rfl, rfl⟩ | ⟨g, cap, rfl, h2, h3, h4, h5, h6⟩
  · refine (rc_new w).mono ?_
    rintro e w' ⟨rfl, rfl⟩
    exact ⟨rfl, (Below.refl _ _).alloc (Nat.le_refl _) _, _, rg_made w _, fun j e => by omega⟩
  · have HX := Lib.hid h6
    unfold maxLen at h5
    clear h6
    obtain ⟨B, hB⟩ : ∃ B, B = w.heap.size := ⟨_, rfl⟩
    have HB := Lib.hid hB
    clear hB
    go_enter Try.func6, Try.ntmps6
    go_wp2_with fail
    rw [show w.heap.size = B from HB.out.symm]
    generalize hW : w.alloc _ = W
    have hr0 : ∃ T, Rg W B [] 0 0 0 0 0 T ∧ (∀ j, T j → B ≤ j) ∧ Below B w W := by
      rw [← hW, HB.out]
      exact ⟨_, rg_made w _, fun j e => by omega, (Below.refl _ _).alloc (Nat.le_refl _) _⟩
    clear hW
    go_loopw [4] (fun i wr => ∃ (k : Nat) (T : Nat → Prop), k ≤ M.length ∧ i = .int .i64 k ∧ Rg wr B (listL (M.take k)) 0 0 0 0 0 T ∧ (∀ j, T j → B ≤ j) ∧ Below B w wr) (fun i _ => M.length - (intOf i).toNat)
    case atStart => obtain ⟨T, q1, q2, q3⟩ := hr0; exact ⟨0, T, Nat.zero_le _, rfl, q1, q2, q3⟩
    case round =>
      obtain ⟨k, T, hk, rfl, hR, hT, hnx⟩ := hrel
      clear hr0
      by_cases hlt : k < M.length
      · have hlt' : decide ((k : Int) < (M.length : Int)) = true := decide_eq_true (by omega)
        obtain ⟨z, hz⟩ : ∃ z, M[k]? = some z := ⟨_, List.getElem?_eq_getElem hlt⟩
        obtain ⟨d0, d1⟩ := HX.out k z hz
        have hgB : g < B := by rw [HB.out]; exact h3
        have e0 : wr.cell? ⟨g, k * 2, none⟩ = some (.int .u64 z.1) := (hnx.cell (p := ⟨g, k * 2, none⟩) hgB).trans d0
        have e1 : wr.cell? ⟨g, k * 2 + 1, none⟩ = some (.int .u64 z.2) := (hnx.cell (p := ⟨g, k * 2 + 1, none⟩) hgB).trans d1
        have hkc : k < cap := by omega
        have hl := listL_len (M.take k)
        rw [List.length_take] at hl
        have hgT : ¬ T g := fun s => by have := hT g s; omega
        have HP := Lib.hid (rg_put (w := wr.drew) (hR.keep (S := fun _ => False) ((Keeps.refl _ wr).drew) (fun _ _ s => s)) (by omega) z.1 z.2)
        replace e0 : wr.drew.cell? ⟨g, k * 2, none⟩ = some (.int .u64 z.1) := e0
        replace e1 : wr.drew.cell? ⟨g, k * 2 + 1, none⟩ = some (.int .u64 z.2) := e1
        have HT := Lib.hid hT
        have HZ := Lib.hid hz
        have HNX := Lib.hid hnx
        have HGT := Lib.hid hgT
        clear hR hT hz d0 d1 hl hnx hgT
        go_wp2_with fail
        go_region_held3 (fun w' => w'.cell? ⟨g, k * 2, none⟩ = some (.int .u64 z.1) ∧ w'.cell? ⟨g, k * 2 + 1, none⟩ = some (.int .u64 z.2))
          (first
            | exact ⟨by assumption, by assumption⟩)
          (first | (go_at_call 20; ((with_reducible refine HP.out.mono ?_); rintro e w2 ⟨rfl, T2, ht, hg2⟩; (have y0 : w2.cell? ⟨g, k * 2, none⟩ = some (.int .u64 z.1) := ht.keeps.cell (p := ⟨g, k * 2, none⟩) HGT.out e0); (have y1 : w2.cell? ⟨g, k * 2 + 1, none⟩ = some (.int .u64 z.2) := ht.keeps.cell (p := ⟨g, k * 2 + 1, none⟩) HGT.out e1); have HG2 := Lib.hid hg2; have HT2 := Lib.hid ht; clear hg2 ht)))
        all_goals
          go_wp2_with fail
          go_roundw
          case rel => exact ⟨k + 1, T2, by omega, by go_num, by rw [listL_take HZ.out]; exact HG2.out, (HT2.out.to_below (fun j s => HT.out j s) (by have := HNX.out.size; have := HB.out; show B ≤ wr.heap.size; omega)).2, HNX.out.drew.trans (HT2.out.to_below (fun j s => HT.out j s) (by have := HNX.out.size; have := HB.out; show B ≤ wr.heap.size; omega)).1⟩
          case measure => simp [intOf]; omega
      · obtain rfl : k = M.length := by omega
        have hlt' : decide ((M.length : Int) < (M.length : Int)) = false := decide_eq_false (by omega)
        rw [List.take_length] at hR
        have HR := Lib.hid hR
        clear hR
        go_wp2_with fail
        go_ret
        exact ⟨by rw [HB.out]; rfl, by rw [← HB.out]; exact hnx, T, by rw [← HB.out]; exact HR.out, fun j s => by rw [← HB.out]; exact hT j s⟩
end Go.Proofs.Ytdlniopjkioamaa
