/- The law NotesStay: what holds at each round. -/
import Derived.Test.YteofbgbjibbdaacNpR
import Derived.Deep.QuietTactic
import Derived.BigQuiet
import Derived.LoopTactic
namespace Go.Proofs.Yteofbgbjibbdaac
open Go.RowKit
set_option linter.unusedVariables false

/-- The list has these notes, the row those. -/
def NyMid (N : Nat) (w : World) (M' M : List Nv) (v : Value) (wr : World) : Prop := ∃ S, Nts wr N M' S ∧ (∀ j, S j → N ≤ j) ∧ wr.ownsRow N 80 8 v M.length (rowsN M) ∧ (∀ g, v.ownBlock = some g → ¬ S g) ∧ (M.length = 0 → v = .slice none 0 0) ∧ Below N w wr ∧ N < wr.heap.size
theorem NyMid.below {N : Nat} {w : World} {M' M : List Nv} {v : Value} {wr : World} (h : NyMid N w M' M v wr) : Below N w wr ∧ N < wr.heap.size := by
  obtain ⟨S, h1, h2, h3, h4, h5, h6, h7⟩ := h
  exact ⟨h6, h7⟩
theorem NyMid.new {N : Nat} {w : World} {M' M : List Nv} {v : Value} {wr W : World} (h : NyMid N w M' M v wr) (hb : Below wr.heap.size wr W) : NyMid N w M' M v W := by
  obtain ⟨S, h1, h2, h3, h4, h5, h6, h7⟩ := h
  have := hb.size
  exact ⟨S, h1.new hb, h2, own_below h3 hb, h4, h5, h6.trans (hb.mono (by omega)), by omega⟩
theorem NyMid.count {N : Nat} {w : World} {M : List Nv} {v : Value} {wr : World} (h : NyMid N w M M v wr) (hM : M.length ≤ 1000) :
    Calls Try.prog 57 #[.pointer (some ⟨N, 0, none⟩)] wr fun e w' => e = .returned (.int .i64 (M.length : Int)) ∧ wr = w' := by
  obtain ⟨S, h1, h2, h3, h4, h5, h6, h7⟩ := h
  exact countT h1 (by omega)
theorem NyMid.add {N : Nat} {w : World} {M : List Nv} {v : Value} {wr : World} (x : Nv) (h : NyMid N w M M v wr) (hM : M.length ≤ 1000) :
    Calls Try.prog 54 #[.pointer (some ⟨N, 0, none⟩), x.agg] wr fun e w' => e = .returned (.int .i64 (addF M x)) ∧ NyMid N w (addL M x) M v w' := by
  obtain ⟨S, h1, h2, h3, h4, h5, h6, h7⟩ := h
  refine (addT x h1 (by omega)).mono ?_
  rintro e w' ⟨rfl, S', t, q⟩
  obtain ⟨b1, b2⟩ := t.to_below h2 (by omega)
  refine ⟨rfl, S', q, b2, Keeps.ownsRow h3 t.keeps h4, fun g hg s => ?_, h5, h6.trans b1, by have := t.keeps.size; omega⟩
  rcases t.only g s with s | s
  · exact h4 g hg s
  · obtain ⟨hl, hr⟩ := h3
    rcases hr with ⟨rfl, _⟩ | ⟨g', cap, cur, rfl, hB, hblk, r⟩
    · simp [Value.ownBlock] at hg
    · simp [Value.ownBlock] at hg
      subst hg
      rw [Array.getElem?_eq_none (by omega)] at hblk
      simp at hblk
/-- Behind the append. -/
theorem NyMid.app {N : Nat} {w : World} {M : List Nv} {x : Nv} {v : Value} {wr w1 : World} {o : Obj} {g cap : Nat} (h : NyMid N w (M ++ [x]) M v wr) (own1 : w1.ownsRow N 80 8 (.slice (some ⟨g, 0, none⟩) (M.length + 1) cap) (M.length + 1) (rowsN M ++ x.cells)) (hg : (wr.alloc o).grownBy w1 v.ownBlock) (hl : v.ownBlock = some g ∨ g = wr.heap.size + 1) :
    NyMid N w (M ++ [x]) (M ++ [x]) (.slice (some ⟨g, 0, none⟩) (M.length + 1) cap) w1 := by
  obtain ⟨S, h1, h2, h3, h4, h5, h6, h7⟩ := h
  have kA : Keeps (fun k => v.ownBlock = some k) wr w1 := (((Keeps.refl _ wr).alloc o)).grown hg (fun k e => .inl e)
  have hsz := kA.size
  refine ⟨S, h1.keep kA (fun k s e => h4 k e s), h2, by rw [List.length_append, rowsN_snoc]; exact own1, fun g' hg' s => ?_, fun e => by simp at e, ?_, by omega⟩
  · simp [Value.ownBlock] at hg'
    subst hg'
    rcases hl with e | e
    · exact h4 _ e s
    · have := h1.lt' _ s; omega
  · refine h6.trans (kA.to_below (fun k hk e => ?_) (by omega))
    obtain ⟨hl', hr⟩ := h3
    rcases hr with ⟨rfl, _⟩ | ⟨g', cap', cur, rfl, hB, hblk, r⟩
    · simp [Value.ownBlock] at e
    · simp [Value.ownBlock] at e; omega
theorem addF_bad {M : List Nv} {x : Nv} (h : iskf x.k = false ∨ lowN M x = true) : addF M x = 1 ∧ addL M x = M := by
  have h1 : addF M x = 1 := by unfold addF; rw [if_pos h]
  exact ⟨h1, by unfold addL; rw [if_neg (by rw [h1]; decide)]⟩
theorem addF_ok {M : List Nv} {x : Nv} (h1 : iskf x.k = true) (h2 : lowN M x = false) (hM : M.length < 1048576) : addF M x = 0 ∧ addL M x = M ++ [x] := by
  have h : addF M x = 0 := by unfold addF; rw [if_neg (by rw [h1, h2]; simp), if_neg (by omega)]
  exact ⟨h, by unfold addL; rw [if_pos h]⟩
/-- The row's last note. -/
theorem NyMid.row {N : Nat} {w : World} {M' M : List Nv} {v : Value} {wr : World} (h : NyMid N w M' M v wr) : (M = [] ∧ v = .slice none 0 0) ∨ ∃ g cap y, v = .slice (some ⟨g, 0, none⟩) M.length cap ∧ 0 < M.length ∧ M.getLast? = some y ∧ M.length ≤ cap ∧ g < wr.heap.size ∧ wr.cell? ⟨g, (M.length - 1) * 8, none⟩ = some (.int .i64 y.s) := by
  obtain ⟨S, h1, h2, h3, h4, h5, h6, h7⟩ := h
  by_cases h0 : M.length = 0
  · exact .inl ⟨List.eq_nil_of_length_eq_zero h0, h5 h0⟩
  · obtain ⟨hl, ⟨rfl, h0'⟩ | ⟨g, cap, rfl, hB, hg, hn, hc, hx⟩⟩ := Lst.of_own h3
    · exact absurd h0' h0
    · obtain ⟨y, hy1, hy2⟩ := last_at (L := M) (by omega)
      exact .inr ⟨g, cap, y, rfl, by omega, hy1, hn, hg, (hx _ _ hy2).1⟩
theorem NyMid.own {N : Nat} {w : World} {M' M : List Nv} {v : Value} {wr : World} (h : NyMid N w M' M v wr) : wr.ownsRow N 80 8 v M.length (rowsN M) := by
  obtain ⟨S, h1, h2, h3, h4, h5, h6, h7⟩ := h
  exact h3
theorem NyMid.isL {N : Nat} {w : World} {M' M : List Nv} {v : Value} {wr : World} (h : NyMid N w M' M v wr) : IsL wr N M' := by
  obtain ⟨S, h1, h2, h3, h4, h5, h6, h7⟩ := h
  exact h1.isL h2
theorem low_nil (x : Nv) : lowN [] x = false := rfl
theorem low_last {M : List Nv} {x y : Nv} (h : M.getLast? = some y) : lowN M x = decide (x.s < y.s) := by unfold lowN; rw [h]
/-- A row's note, cell by cell. -/
theorem Lst.at8 {w : World} {B n i : Nat} {a : Option Addr} {cap : Nat} {M : List Nv} {x : Nv} (h : Lst w B 8 (.slice a n cap) n (rowsN M)) (hn : n = M.length) (hx : M[i]? = some x) : ∃ g, a = some ⟨g, 0, none⟩ ∧ i < n ∧ n ≤ cap ∧ ∀ j u, j < 8 → x.cells[j]? = some u → w.cell? ⟨g, i * 8 + j, none⟩ = some u := by
  have hi : i < M.length := by
    rcases Nat.lt_or_ge i M.length with h' | h'
    · exact h'
    · rw [List.getElem?_eq_none h'] at hx; simp at hx
  have hxx : M[i] = x := by rw [List.getElem?_eq_getElem hi] at hx; simpa using hx
  obtain ⟨hl, ⟨e, h0⟩ | ⟨g, c, e, hB, hg, hnc, hc, hcell⟩⟩ := h
  · omega
  · injection e with e1 _ e2
    subst e1 e2
    refine ⟨g, rfl, by omega, hnc, fun j u hj hu => (hcell _ _ ?_).1⟩
    rw [rowsN_at M i j hi hj, hxx, hu]
theorem filter_pos {M : List Nv} {i : Nat} {x : Nv} {so : Nv → Bool} (hx : M[i]? = some x) (hs : so x = true) : (M.filter so)[((M.take i).filter so).length]? = some x := by
  have hi : i < M.length := by
    rcases Nat.lt_or_ge i M.length with h' | h'
    · exact h'
    · rw [List.getElem?_eq_none h'] at hx; simp at hx
  have hxx : M[i] = x := by rw [List.getElem?_eq_getElem hi] at hx; simpa using hx
  have e : M = M.take i ++ x :: M.drop (i + 1) := by
    rw [← hxx, List.getElem_cons_drop, List.take_append_drop]
  have e2 : M.filter so = (M.take i).filter so ++ (x :: (M.drop (i + 1)).filter so) := by
    conv => lhs; rw [e]
    rw [List.filter_append, List.filter_cons, if_pos hs]
  rw [e2, List.getElem?_append_right (Nat.le_refl _)]
  simp
/-- How many notes are of kinds below this one. -/
def upto (M : List Nv) (k : Nat) : Nat := (M.filter fun x => decide (x.k < (k : Int))).length
theorem upto_zero {M : List Nv} (h : ∀ x ∈ M, 0 ≤ x.k ∧ x.k ≤ 255) : upto M 0 = 0 := by
  unfold upto
  rw [List.filter_eq_nil_iff.mpr]
  · rfl
  · intro x hx; have := h x hx; simp; omega
theorem upto_all {M : List Nv} (h : ∀ x ∈ M, 0 ≤ x.k ∧ x.k ≤ 255) : upto M 256 = M.length := by
  unfold upto
  rw [List.filter_eq_self.mpr]
  intro x hx; have := h x hx; simp; omega
theorem upto_succ (M : List Nv) (k : Nat) : upto M (k + 1) = upto M k + (M.filter (soK (k : Int))).length := by
  induction M with
  | nil => rfl
  | cons x M ih =>
    have a1 : upto (x :: M) (k + 1) = (if x.k < ((k + 1 : Nat) : Int) then 1 else 0) + upto M (k + 1) := by
      unfold upto; rw [List.filter_cons]; split <;> simp_all <;> omega
    have a2 : upto (x :: M) k = (if x.k < (k : Int) then 1 else 0) + upto M k := by
      unfold upto; rw [List.filter_cons]; split <;> simp_all <;> omega
    have a3 : ((x :: M).filter (soK (k : Int))).length = (if x.k = (k : Int) then 1 else 0) + (M.filter (soK (k : Int))).length := by
      rw [List.filter_cons]
      by_cases h : x.k = (k : Int)
      · rw [if_pos (by simp [soK, h]), if_pos h, List.length_cons]; omega
      · rw [if_neg (by simp [soK, h]), if_neg h]; omega
    rw [a1, a2, a3, ih]
    split <;> split <;> split <;> omega
end Go.Proofs.Yteofbgbjibbdaac
