/- Growths and swaps that are over, and such as are not there; new ones, whatever they are. -/
import Derived.Test.YtepkpbhhiianpaaGreatGGw
namespace Go.Proofs.YtepkpbhhiianpaaGreat
open Go.RowKit Go.Maps
set_option linter.unusedVariables false
/-- One that is over, or is not there. -/
def OvG (w : World) (v : Value) : Prop := v = .pointer none ∨ ∃ q, v = .pointer (some ⟨q, 0, none⟩) ∧ Ob w q (gwC (.slice none 0 0) 0 0)
theorem OvG.new {w W : World} {v : Value} (h : OvG w v) (hb : Below w.heap.size w W) : OvG W v := by
  rcases h with h | ⟨q, rfl, h⟩
  · exact .inl h
  · exact .inr ⟨q, rfl, h.new hb⟩
theorem ovg_over {w : World} {v : Value} (h : OvG w v) : Calls Tryz.prog 25 #[v] w fun e w' => e = .returned (.bool true) ∧ w = w' := by
  rcases h with rfl | ⟨q, rfl, h⟩
  · exact gov_nil w
  · exact gov_t h
theorem ovs_over {w : World} {v : Value} (h : OvG w v) : Calls Tryz.prog 28 #[v] w fun e w' => e = .returned (.bool true) ∧ w = w' := by
  rcases h with rfl | ⟨q, rfl, h⟩
  · exact sov_nil w
  · exact sov_t h
theorem ovg_step {w : World} {v : Value} (h : OvG w v) (x : Value) : Calls Tryz.prog 30 #[v, x] w fun e w' => e = .returned (.bool true) ∧ w = w' := by
  rcases h with rfl | ⟨q, rfl, h⟩
  · exact gst_nil w x
  · exact gst (P := fun w' => w = w') (gc_over h x)
theorem ovs_step {w : World} {v : Value} (h : OvG w v) (x : Value) : Calls Tryz.prog 31 #[v, x] w fun e w' => e = .returned (.bool true) ∧ w = w' := by
  rcases h with rfl | ⟨q, rfl, h⟩
  · exact sst_nil w x
  · exact sst (P := fun w' => w = w') (sc_over h x)
/-- A new one: is it over? -/
def NwGb (w : World) (b : Bool) (e : Ending) (w' : World) : Prop := ∃ q a l c o n, e = .returned (.pointer (some ⟨q, 0, none⟩)) ∧ Ob w' q (gwC (.slice a l c) o n) ∧ ((l : Nat) == 0) = b ∧ Below w.heap.size w w'
theorem nwgb0 {T : TypeId} {w w' : World} {e : Ending} (h : NwG0 T w e w') : NwGb w true e w' := by
  obtain ⟨q, he, ho, hs, hq, hb⟩ := h
  exact ⟨q, _, _, _, _, _, he, ho, rfl, hb⟩
theorem nwgb1 {T : TypeId} {k : Nat} {L : List Value} {o n : Int} {w w' : World} {e : Ending} (hk : (k == 0) = false) (h : NwG1 T w k L o n e w') : NwGb w false e w' := by
  obtain ⟨q, b, he, ho, hob, hs, hq, hB, hqb, hb⟩ := h
  exact ⟨q, _, _, _, _, _, he, ho, hk, hb⟩
def govF (t : Int) : Bool := !decide (asN t = 0 ∧ asO t ≠ 12)
def sovF (t : Int) : Bool := decide (asN t = 0)
theorem nwgG (t : Int) (w : World) (ht : isU t) : Calls Tryz.prog 23 #[.int .u64 t] w (NwGb w (govF t)) := by
  unfold govF
  by_cases c : asN t = 0 ∧ asO t ≠ 12
  · rw [decide_eq_true c]
    exact (newGrow t w ht c.1 rfl c.2).mono fun e w' h => nwgb1 rfl h
  · rw [decide_eq_false c]
    exact (newGrow_no t w ht (by omega)).mono fun e w' h => nwgb0 h
theorem nwgS (t : Int) (w : World) (ht : isU t) : Calls Tryz.prog 26 #[.int .u64 t] w (NwGb w (sovF t)) := by
  unfold sovF
  by_cases c : asN t = 0
  · rw [decide_eq_true c]
    exact (newSwap_no t w ht c).mono fun e w' h => nwgb0 h
  · rw [decide_eq_false c]
    exact (newSwap t w ht rfl rfl c).mono fun e w' h => nwgb1 rfl h
/-- The chapter's new one, by its line. -/
def NwLb (w : World) (b : Bool) (e : Ending) (w' : World) : Prop := ∃ (q : Nat) (l : Int), e = .returned (.pointer (some ⟨q, 0, none⟩)) ∧ w'.cell? ⟨q, 0, none⟩ = some (.int .i64 l) ∧ (l == 0) = b ∧ Below w.heap.size w w'
theorem rnwG (t : Int) (w : World) (ht : isU t) : Calls Tryz.prog 24 #[.int .u64 t] w (NwLb w (govF t)) := by
  unfold govF
  by_cases c : asN t = 0 ∧ asO t ≠ 12
  · rw [decide_eq_true c]
    refine (rnewGrow t w ht (l := 1) (z := asO t) (.inl ⟨c.1, c.2, rfl, rfl⟩)).mono ?_
    rintro e w' ⟨rfl, rfl⟩
    exact ⟨_, 1, rfl, by simp, rfl, gw_bs (Below.refl _ _)⟩
  · rw [decide_eq_false c]
    refine (rnewGrow t w ht (l := 0) (z := 0) (.inr ⟨by omega, rfl, rfl⟩)).mono ?_
    rintro e w' ⟨rfl, rfl⟩
    exact ⟨_, 0, rfl, by simp, rfl, gw_bs (Below.refl _ _)⟩
theorem rnwS (t : Int) (w : World) (ht : isU t) : Calls Tryz.prog 27 #[.int .u64 t] w (NwLb w (sovF t)) := by
  unfold sovF
  by_cases c : asN t = 0
  · rw [decide_eq_true c]
    refine (rnewSwap t w ht (l := 0) (z := 0) (.inr ⟨c, rfl, rfl⟩)).mono ?_
    rintro e w' ⟨rfl, rfl⟩
    exact ⟨_, 0, rfl, by simp, rfl, gw_bs (Below.refl _ _)⟩
  · rw [decide_eq_false c]
    refine (rnewSwap t w ht (l := 1) (z := asN t) (.inl ⟨c, rfl, rfl⟩)).mono ?_
    rintro e w' ⟨rfl, rfl⟩
    exact ⟨_, 1, rfl, by simp, rfl, gw_bs (Below.refl _ _)⟩
section
variable {w : World} {q l c : Nat} {a : Option Addr} {o n : Int} {b : Bool}
theorem gov_b (h : Ob w q (gwC (.slice a l c) o n)) (hl : (l == 0) = b) : Calls Tryz.prog 25 #[.pointer (some ⟨q, 0, none⟩)] w fun e w' => e = .returned (.bool b) ∧ w = w' := by
  cases b
  · exact gov_f h (by simp at hl; simp; omega)
  · obtain rfl : l = 0 := by simpa using hl
    exact gov_t h
theorem sov_b (h : Ob w q (gwC (.slice a l c) o n)) (hl : (l == 0) = b) : Calls Tryz.prog 28 #[.pointer (some ⟨q, 0, none⟩)] w fun e w' => e = .returned (.bool b) ∧ w = w' := by
  cases b
  · exact sov_f h (by simp at hl; simp; omega)
  · obtain rfl : l = 0 := by simpa using hl
    exact sov_t h
theorem gst_b (h : Ob w q (gwC (.slice a l c) o n)) (hl : (l == 0) = b) : Calls Tryz.prog 30 #[.pointer (some ⟨q, 0, none⟩), .pointer none] w fun e w' => e = .returned (.bool b) ∧ w = w' := by
  cases b
  · exact gst (P := fun w' => w = w') (gc_no h (by simp at hl; simp; omega))
  · obtain rfl : l = 0 := by simpa using hl
    exact gst (P := fun w' => w = w') (gc_over h _)
theorem sst_b (h : Ob w q (gwC (.slice a l c) o n)) (hl : (l == 0) = b) : Calls Tryz.prog 31 #[.pointer (some ⟨q, 0, none⟩), .pointer none] w fun e w' => e = .returned (.bool b) ∧ w = w' := by
  cases b
  · exact sst (P := fun w' => w = w') (sc_no h (by simp at hl; simp; omega))
  · obtain rfl : l = 0 := by simpa using hl
    exact sst (P := fun w' => w = w') (sc_over h _)
end
end Go.Proofs.YtepkpbhhiianpaaGreat
