/- Looks: the program's; what one tells, and its steps' frame. -/
import Derived.Test.YtepkpbhhiianpaaOb
import Derived.Test.YtepkpbhhiianpaaGSt
import Derived.Test.YtepkpbhhiianpaaPsM
import Derived.Laws.EntriesVeiled
import Derived.Deep.Cut
import Derived.Deep.CutBlock
import Derived.Deep.RegionHeld3
import Derived.Test.YtepkpbhhiianpaaWs
import Derived.Deep.AppendLies
import Derived.Test.YtepkpbhhiianpaaWd4
import Derived.Test.YtepkpbhhiianpaaTagHas
namespace Go.Proofs.Ytepkpbhhiianpaa
open Go.RowKit Go.Maps
set_option linter.unusedVariables false
/-- A Look, as it lies. -/
def lkC (key : ByteArray) (tr : Int) (nx : Value) (fl : Bool) (t : Int) (pl st vs : Value) (at_ : Int) (sl : Value) (ref ep pt : Int) : List Value := [.string key, .int .i64 tr, nx, .bool fl, .int .u64 t, pl, st, vs, .int .i64 at_, sl, .int .i64 ref, .int .u64 ep, .int .i64 pt]
/-- What comes next. -/
def nxV (f : FuncId) : Value := .func (.func f) #[] #[]
def lk0 (key : ByteArray) (tr : Int) : List Value := lkC key tr (nxV 55) false 0 (.slice none 0 0) (.slice none 0 0) (.slice none 0 0) 0 (.slice none 0 0) 0 0 0
section
variable {G : Nat → Prop} {w : World} {A : Ad} {V : Wv} {q : Nat} {key : ByteArray} {tr t at_ ref ep pt : Int} {fl r : Bool} {pl st vs sl : Value} {f : FuncId}
theorem lk_over_nil (w : World) : Calls Try.prog 69 #[.pointer none] w fun e w' => e = .returned (.bool true) ∧ w = w' := by
  go_enter Try.func69, Try.ntmps69
  go_wp2_with fail
  go_ret
  exact ⟨rfl, rfl⟩
theorem lk_over (h : Ob w q (lkC key tr .nilFunc fl t pl st vs at_ sl ref ep pt)) : Calls Try.prog 69 #[.pointer (some ⟨q, 0, none⟩)] w fun e w' => e = .returned (.bool true) ∧ w = w' := by
  have c3 := h.at_ 2 _ rfl
  have hq : ∀ W, (binOp .eql 127 .nilFunc .nilFunc).run Try.prog W = .ok (.bool true) W := fun W => by kernel_rfl
  clear h
  go_enter Try.func69, Try.ntmps69
  go_wp2_with fail
  go_ret
  exact ⟨rfl, rfl⟩
theorem lk_overn (h : Ob w q (lkC key tr (nxV f) fl t pl st vs at_ sl ref ep pt)) : Calls Try.prog 69 #[.pointer (some ⟨q, 0, none⟩)] w fun e w' => e = .returned (.bool false) ∧ w = w' := by
  have c3 := h.at_ 2 _ rfl
  unfold nxV at c3
  have hq : ∀ W, (binOp .eql 127 (.func (.func f) #[] #[]) .nilFunc).run Try.prog W = .ok (.bool false) W := fun W => by kernel_rfl
  clear h
  go_enter Try.func69, Try.ntmps69
  go_wp2_with fail
  go_ret
  exact ⟨rfl, rfl⟩
theorem lk_fails_nil (w : World) : Calls Try.prog 34 #[.pointer none] w fun e w' => e = .returned (.bool false) ∧ w = w' := by
  go_enter Try.func34, Try.ntmps34
  go_wp2_with fail
  go_ret
  exact ⟨rfl, rfl⟩
theorem lk_fails {nx : Value} (h : Ob w q (lkC key tr nx fl t pl st vs at_ sl ref ep pt)) : Calls Try.prog 34 #[.pointer (some ⟨q, 0, none⟩)] w fun e w' => e = .returned (.bool fl) ∧ w = w' := by
  have c3 := h.at_ 3 _ rfl
  clear h
  go_enter Try.func34, Try.ntmps34
  go_wp2_with fail
  go_ret
  exact ⟨rfl, rfl⟩
def gotV (a b c : Int) : Value := .tuple #[.int .i64 a, .int .u64 b, .int .i64 c]
theorem lk_got_nil (w : World) : Calls Try.prog 50 #[.pointer none] w fun e w' => e = .returned (gotV 0 0 0) ∧ Below w.heap.size w w' := by
  go_enter Try.func50, Try.ntmps50
  go_wp2_with fail
  exact bodyPost_ret (v := gotV 0 0 0) (by simp [results, Try.results50, go_sem, gotV]) rfl ⟨rfl, Below.refl _ _⟩
theorem lk_got (h : Ob w q (lkC key tr .nilFunc false t pl st vs at_ sl ref ep pt)) : Calls Try.prog 50 #[.pointer (some ⟨q, 0, none⟩)] w fun e w' => e = .returned (gotV ref ep pt) ∧ Below w.heap.size w w' := by
  have c3 := h.at_ 3 _ rfl
  have c10 := h.at_ 10 _ rfl
  have c11 := h.at_ 11 _ rfl
  have c12 := h.at_ 12 _ rfl
  have C := Lib.hid (lk_over h)
  clear h
  go_enter Try.func50, Try.ntmps50
  go_wp2_with (go_at_call 69; ((with_reducible refine C.out.mono ?_); rintro e w1 ⟨rfl, rfl⟩))
  go_region
  go_wp2_with fail
  exact bodyPost_ret (v := gotV ref ep pt) (by simp [results, Try.results50, go_sem, gotV]) rfl ⟨rfl, (Below.refl _ _).drew⟩
theorem lk_got_f (h : Ob w q (lkC key tr .nilFunc true t pl st vs at_ sl ref ep pt)) : Calls Try.prog 50 #[.pointer (some ⟨q, 0, none⟩)] w fun e w' => e = .returned (gotV 0 0 0) ∧ Below w.heap.size w w' := by
  have c3 := h.at_ 3 _ rfl
  have C := Lib.hid (lk_over h)
  clear h
  go_enter Try.func50, Try.ntmps50
  go_wp2_with (go_at_call 69; ((with_reducible refine C.out.mono ?_); rintro e w1 ⟨rfl, rfl⟩))
  exact bodyPost_ret (v := gotV 0 0 0) (by simp [results, Try.results50, go_sem, gotV]) rfl ⟨rfl, Below.refl _ _⟩
theorem lk_got_n (h : Ob w q (lkC key tr (nxV f) fl t pl st vs at_ sl ref ep pt)) : Calls Try.prog 50 #[.pointer (some ⟨q, 0, none⟩)] w fun e w' => e = .returned (gotV 0 0 0) ∧ Below w.heap.size w w' := by
  have C := Lib.hid (lk_overn h)
  clear h
  go_enter Try.func50, Try.ntmps50
  go_wp2_with (go_at_call 69; ((with_reducible refine C.out.mono ?_); rintro e w1 ⟨rfl, rfl⟩))
  exact bodyPost_ret (v := gotV 0 0 0) (by simp [results, Try.results50, go_sem, gotV]) rfl ⟨rfl, Below.refl _ _⟩
theorem newLook (key : ByteArray) (tr : Int) (w : World) : Calls Try.prog 33 #[.string key, .int .i64 tr] w fun e w' => e = .returned (.pointer (some ⟨w.heap.size, 0, none⟩)) ∧ Ob w' w.heap.size (lk0 key tr) ∧ Below w.heap.size w w' := by
  go_enter Try.func33, Try.ntmps33
  go_wp2_with fail
  go_ret
  exact ⟨rfl, ob_new rfl, (Below.refl _ _).alloc (Nat.le_refl _) _⟩
theorem lk_st_nil (w : World) (x : Value) : Calls Try.prog 126 #[.pointer none, x] w fun e w' => e = .returned (.bool true) ∧ w = w' := by
  go_enter Try.func126, Try.ntmps126
  go_wp2_with (go_at_call 69; ((with_reducible refine (lk_over_nil _).mono ?_); rintro e w1 ⟨rfl, rfl⟩))
  go_ret
  exact ⟨rfl, rfl⟩
theorem lk_st_over (h : Ob w q (lkC key tr .nilFunc fl t pl st vs at_ sl ref ep pt)) (x : Value) : Calls Try.prog 126 #[.pointer (some ⟨q, 0, none⟩), x] w fun e w' => e = .returned (.bool true) ∧ w = w' := by
  have C1 := Lib.hid (lk_over h)
  clear h
  go_enter Try.func126, Try.ntmps126
  go_wp2_with (go_at_call 69; ((with_reducible refine C1.out.mono ?_); rintro e w1 ⟨rfl, rfl⟩))
  go_ret
  exact ⟨rfl, rfl⟩
theorem lk_st_no (h : Ob w q (lkC key tr (nxV f) fl t pl st vs at_ sl ref ep pt)) : Calls Try.prog 126 #[.pointer (some ⟨q, 0, none⟩), .pointer none] w fun e w' => e = .returned (.bool false) ∧ w = w' := by
  have C1 := Lib.hid (lk_overn h)
  clear h
  go_enter Try.func126, Try.ntmps126
  go_wp2_with (go_at_call 69; ((with_reducible refine C1.out.mono ?_); rintro e w1 ⟨rfl, rfl⟩))
  go_ret
  exact ⟨rfl, rfl⟩
theorem lk_st_loadTables {a : Nat} {P : World → Prop} (h : Ob w q (lkC key tr (nxV 55) fl t pl st vs at_ sl ref ep pt)) (hs : Calls Try.prog 55 #[.pointer (some ⟨q, 0, none⟩), .pointer (some ⟨a, 0, none⟩)] w fun e w' => e = .returned (.tuple #[]) ∧ P w') (hP : ∀ w', P w' → Calls Try.prog 69 #[.pointer (some ⟨q, 0, none⟩)] w' fun e w'' => e = .returned (.bool r) ∧ w' = w'') :
    Calls Try.prog 126 #[.pointer (some ⟨q, 0, none⟩), .pointer (some ⟨a, 0, none⟩)] w fun e w' => e = .returned (.bool r) ∧ P w' := by
  have c2 := h.at_ 2 _ rfl
  have C1 := Lib.hid (lk_overn h)
  unfold nxV at c2
  have HS := Lib.hid hs
  have HP := Lib.hid hP
  clear h hs hP
  go_enter Try.func126, Try.ntmps126
  go_wp2_with (first
    | (go_at_call 69; first | ((with_reducible refine C1.out.mono ?_); rintro e w1 ⟨rfl, rfl⟩) | ((with_reducible refine CO.out.mono ?_); rintro e w1 ⟨rfl, rfl⟩))
    | (go_at_call 55; ((with_reducible refine HS.out.mono ?_); rintro e w2 ⟨rfl, h2⟩; have CO := Lib.hid (HP.out _ h2); have H2 := Lib.hid h2; clear h2 c2 C1)))
  go_ret
  exact ⟨rfl, H2.out⟩
theorem lk_st_loadVersion {a : Nat} {P : World → Prop} (h : Ob w q (lkC key tr (nxV 75) fl t pl st vs at_ sl ref ep pt)) (hs : Calls Try.prog 75 #[.pointer (some ⟨q, 0, none⟩), .pointer (some ⟨a, 0, none⟩)] w fun e w' => e = .returned (.tuple #[]) ∧ P w') (hP : ∀ w', P w' → Calls Try.prog 69 #[.pointer (some ⟨q, 0, none⟩)] w' fun e w'' => e = .returned (.bool r) ∧ w' = w'') :
    Calls Try.prog 126 #[.pointer (some ⟨q, 0, none⟩), .pointer (some ⟨a, 0, none⟩)] w fun e w' => e = .returned (.bool r) ∧ P w' := by
  have c2 := h.at_ 2 _ rfl
  have C1 := Lib.hid (lk_overn h)
  unfold nxV at c2
  have HS := Lib.hid hs
  have HP := Lib.hid hP
  clear h hs hP
  go_enter Try.func126, Try.ntmps126
  go_wp2_with (first
    | (go_at_call 69; first | ((with_reducible refine C1.out.mono ?_); rintro e w1 ⟨rfl, rfl⟩) | ((with_reducible refine CO.out.mono ?_); rintro e w1 ⟨rfl, rfl⟩))
    | (go_at_call 75; ((with_reducible refine HS.out.mono ?_); rintro e w2 ⟨rfl, h2⟩; have CO := Lib.hid (HP.out _ h2); have H2 := Lib.hid h2; clear h2 c2 C1)))
  go_ret
  exact ⟨rfl, H2.out⟩
theorem lk_st_loadEpoch {a : Nat} {P : World → Prop} (h : Ob w q (lkC key tr (nxV 82) fl t pl st vs at_ sl ref ep pt)) (hs : Calls Try.prog 82 #[.pointer (some ⟨q, 0, none⟩), .pointer (some ⟨a, 0, none⟩)] w fun e w' => e = .returned (.tuple #[]) ∧ P w') (hP : ∀ w', P w' → Calls Try.prog 69 #[.pointer (some ⟨q, 0, none⟩)] w' fun e w'' => e = .returned (.bool r) ∧ w' = w'') :
    Calls Try.prog 126 #[.pointer (some ⟨q, 0, none⟩), .pointer (some ⟨a, 0, none⟩)] w fun e w' => e = .returned (.bool r) ∧ P w' := by
  have c2 := h.at_ 2 _ rfl
  have C1 := Lib.hid (lk_overn h)
  unfold nxV at c2
  have HS := Lib.hid hs
  have HP := Lib.hid hP
  clear h hs hP
  go_enter Try.func126, Try.ntmps126
  go_wp2_with (first
    | (go_at_call 69; first | ((with_reducible refine C1.out.mono ?_); rintro e w1 ⟨rfl, rfl⟩) | ((with_reducible refine CO.out.mono ?_); rintro e w1 ⟨rfl, rfl⟩))
    | (go_at_call 82; ((with_reducible refine HS.out.mono ?_); rintro e w2 ⟨rfl, h2⟩; have CO := Lib.hid (HP.out _ h2); have H2 := Lib.hid h2; clear h2 c2 C1)))
  go_ret
  exact ⟨rfl, H2.out⟩
theorem lk_st_loadTags {a : Nat} {P : World → Prop} (h : Ob w q (lkC key tr (nxV 85) fl t pl st vs at_ sl ref ep pt)) (hs : Calls Try.prog 85 #[.pointer (some ⟨q, 0, none⟩), .pointer (some ⟨a, 0, none⟩)] w fun e w' => e = .returned (.tuple #[]) ∧ P w') (hP : ∀ w', P w' → Calls Try.prog 69 #[.pointer (some ⟨q, 0, none⟩)] w' fun e w'' => e = .returned (.bool r) ∧ w' = w'') :
    Calls Try.prog 126 #[.pointer (some ⟨q, 0, none⟩), .pointer (some ⟨a, 0, none⟩)] w fun e w' => e = .returned (.bool r) ∧ P w' := by
  have c2 := h.at_ 2 _ rfl
  have C1 := Lib.hid (lk_overn h)
  unfold nxV at c2
  have HS := Lib.hid hs
  have HP := Lib.hid hP
  clear h hs hP
  go_enter Try.func126, Try.ntmps126
  go_wp2_with (first
    | (go_at_call 69; first | ((with_reducible refine C1.out.mono ?_); rintro e w1 ⟨rfl, rfl⟩) | ((with_reducible refine CO.out.mono ?_); rintro e w1 ⟨rfl, rfl⟩))
    | (go_at_call 85; ((with_reducible refine HS.out.mono ?_); rintro e w2 ⟨rfl, h2⟩; have CO := Lib.hid (HP.out _ h2); have H2 := Lib.hid h2; clear h2 c2 C1)))
  go_ret
  exact ⟨rfl, H2.out⟩
theorem lk_st_loadItem {a : Nat} {P : World → Prop} (h : Ob w q (lkC key tr (nxV 93) fl t pl st vs at_ sl ref ep pt)) (hs : Calls Try.prog 93 #[.pointer (some ⟨q, 0, none⟩), .pointer (some ⟨a, 0, none⟩)] w fun e w' => e = .returned (.tuple #[]) ∧ P w') (hP : ∀ w', P w' → Calls Try.prog 69 #[.pointer (some ⟨q, 0, none⟩)] w' fun e w'' => e = .returned (.bool r) ∧ w' = w'') :
    Calls Try.prog 126 #[.pointer (some ⟨q, 0, none⟩), .pointer (some ⟨a, 0, none⟩)] w fun e w' => e = .returned (.bool r) ∧ P w' := by
  have c2 := h.at_ 2 _ rfl
  have C1 := Lib.hid (lk_overn h)
  unfold nxV at c2
  have HS := Lib.hid hs
  have HP := Lib.hid hP
  clear h hs hP
  go_enter Try.func126, Try.ntmps126
  go_wp2_with (first
    | (go_at_call 69; first | ((with_reducible refine C1.out.mono ?_); rintro e w1 ⟨rfl, rfl⟩) | ((with_reducible refine CO.out.mono ?_); rintro e w1 ⟨rfl, rfl⟩))
    | (go_at_call 93; ((with_reducible refine HS.out.mono ?_); rintro e w2 ⟨rfl, h2⟩; have CO := Lib.hid (HP.out _ h2); have H2 := Lib.hid h2; clear h2 c2 C1)))
  go_ret
  exact ⟨rfl, H2.out⟩
theorem lk_st_checkTables {a : Nat} {P : World → Prop} (h : Ob w q (lkC key tr (nxV 94) fl t pl st vs at_ sl ref ep pt)) (hs : Calls Try.prog 94 #[.pointer (some ⟨q, 0, none⟩), .pointer (some ⟨a, 0, none⟩)] w fun e w' => e = .returned (.tuple #[]) ∧ P w') (hP : ∀ w', P w' → Calls Try.prog 69 #[.pointer (some ⟨q, 0, none⟩)] w' fun e w'' => e = .returned (.bool r) ∧ w' = w'') :
    Calls Try.prog 126 #[.pointer (some ⟨q, 0, none⟩), .pointer (some ⟨a, 0, none⟩)] w fun e w' => e = .returned (.bool r) ∧ P w' := by
  have c2 := h.at_ 2 _ rfl
  have C1 := Lib.hid (lk_overn h)
  unfold nxV at c2
  have HS := Lib.hid hs
  have HP := Lib.hid hP
  clear h hs hP
  go_enter Try.func126, Try.ntmps126
  go_wp2_with (first
    | (go_at_call 69; first | ((with_reducible refine C1.out.mono ?_); rintro e w1 ⟨rfl, rfl⟩) | ((with_reducible refine CO.out.mono ?_); rintro e w1 ⟨rfl, rfl⟩))
    | (go_at_call 94; ((with_reducible refine HS.out.mono ?_); rintro e w2 ⟨rfl, h2⟩; have CO := Lib.hid (HP.out _ h2); have H2 := Lib.hid h2; clear h2 c2 C1)))
  go_ret
  exact ⟨rfl, H2.out⟩
theorem lk_st_checkVersion {a : Nat} {P : World → Prop} (h : Ob w q (lkC key tr (nxV 97) fl t pl st vs at_ sl ref ep pt)) (hs : Calls Try.prog 97 #[.pointer (some ⟨q, 0, none⟩), .pointer (some ⟨a, 0, none⟩)] w fun e w' => e = .returned (.tuple #[]) ∧ P w') (hP : ∀ w', P w' → Calls Try.prog 69 #[.pointer (some ⟨q, 0, none⟩)] w' fun e w'' => e = .returned (.bool r) ∧ w' = w'') :
    Calls Try.prog 126 #[.pointer (some ⟨q, 0, none⟩), .pointer (some ⟨a, 0, none⟩)] w fun e w' => e = .returned (.bool r) ∧ P w' := by
  have c2 := h.at_ 2 _ rfl
  have C1 := Lib.hid (lk_overn h)
  unfold nxV at c2
  have HS := Lib.hid hs
  have HP := Lib.hid hP
  clear h hs hP
  go_enter Try.func126, Try.ntmps126
  go_wp2_with (first
    | (go_at_call 69; first | ((with_reducible refine C1.out.mono ?_); rintro e w1 ⟨rfl, rfl⟩) | ((with_reducible refine CO.out.mono ?_); rintro e w1 ⟨rfl, rfl⟩))
    | (go_at_call 97; ((with_reducible refine HS.out.mono ?_); rintro e w2 ⟨rfl, h2⟩; have CO := Lib.hid (HP.out _ h2); have H2 := Lib.hid h2; clear h2 c2 C1)))
  go_ret
  exact ⟨rfl, H2.out⟩
end
end Go.Proofs.Ytepkpbhhiianpaa
/- Next: Looks: what one holds, beside a world. -/
namespace Go.Proofs.Ytepkpbhhiianpaa
open Go.RowKit Go.Maps
set_option linter.unusedVariables false
/-- A list that is only read, in a block of U. -/
def R0 (w : World) (U : Nat → Prop) (v : Value) (n size : Nat) (xs : List Value) : Prop := xs.length = n * size ∧ ((v = .slice none 0 0 ∧ n = 0) ∨ ∃ g o c, v = .slice (some ⟨g, o, none⟩) n c ∧ n ≤ c ∧ c ≤ maxLen ∧ U g ∧ ∀ j u, xs[j]? = some u → w.cell? ⟨g, o + j, none⟩ = some u)
theorem R0.nil (w : World) (U : Nat → Prop) (size : Nat) : R0 w U (.slice none 0 0) 0 size [] := ⟨by simp, .inl ⟨rfl, rfl⟩⟩
theorem R0.keep {w W : World} {U T : Nat → Prop} {v : Value} {n size : Nat} {xs : List Value} (h : R0 w U v n size xs) (hk : Keeps T w W) (hT : ∀ g, U g → ¬ T g) : R0 W U v n size xs := by
  obtain ⟨hl, h | ⟨g, o, c, rfl, hn, hc, hu, hx⟩⟩ := h
  · exact ⟨hl, .inl h⟩
  · exact ⟨hl, .inr ⟨g, o, c, rfl, hn, hc, hu, fun j u hj => hk.cell (p := ⟨g, o + j, none⟩) (hT g hu) (hx j u hj)⟩⟩
theorem R0.mono {w : World} {U U' : Nat → Prop} {v : Value} {n size : Nat} {xs : List Value} (h : R0 w U v n size xs) (hU : ∀ g, U g → U' g) : R0 w U' v n size xs := by
  obtain ⟨hl, h | ⟨g, o, c, rfl, hn, hc, hu, hx⟩⟩ := h
  · exact ⟨hl, .inl h⟩
  · exact ⟨hl, .inr ⟨g, o, c, rfl, hn, hc, hU g hu, hx⟩⟩
theorem R0.of_lst {w : World} {U : Nat → Prop} {B n size : Nat} {v : Value} {xs : List Value} (h : Lst w B size v n xs) (hU : ∀ g, B ≤ g → g < w.heap.size → U g) : R0 w U v n size xs := by
  obtain ⟨hl, h | ⟨g, c, rfl, hB, hg, hn, hc, hx⟩⟩ := h
  · exact ⟨hl, .inl h⟩
  · exact ⟨hl, .inr ⟨g, 0, c, rfl, hn, hc, hU g hB hg, fun j u hj => by rw [Nat.zero_add]; exact (hx j u hj).1⟩⟩
theorem rowsP_two {L : List Pv} {i : Nat} {b k : Int} (h : L[i]? = some (b, k)) : (rowsP L)[i * 2]? = some (.int .i64 b) ∧ (rowsP L)[i * 2 + 1]? = some (.int .i64 k) := by
  obtain ⟨hi, e⟩ := List.getElem?_eq_some_iff.1 h
  have r0 := rowsP_at L i 0 hi (by decide)
  have r1 := rowsP_at L i 1 hi (by decide)
  rw [e] at r0 r1
  exact ⟨r0, r1⟩
theorem R0.layP {w : World} {U : Nat → Prop} {v : Value} {L : List Pv} (h : R0 w U v L.length 2 (rowsP L)) : ∃ a c, v = .slice a L.length c ∧ LayP w a L.length c L := by
  obtain ⟨hl, ⟨rfl, h0⟩ | ⟨g, o, c, rfl, hn, hc, hu, hx⟩⟩ := h
  · refine ⟨none, 0, by rw [h0], rfl, fun i b k hi => ?_⟩
    rw [List.eq_nil_of_length_eq_zero h0] at hi
    simp at hi
  · refine ⟨_, c, rfl, rfl, fun i b k hi => ⟨g, o, rfl, hn, ?_⟩⟩
    obtain ⟨r1, r2⟩ := rowsP_two hi
    refine ⟨?_, ?_⟩
    · exact hx _ _ r1
    · rw [Nat.add_assoc]; exact hx _ _ r2
theorem R0.at_ {w : World} {U : Nat → Prop} {v : Value} {n size i : Nat} {xs : List Value} (h : R0 w U v n size xs) (hi : i < n) : ∃ g o c, v = .slice (some ⟨g, o, none⟩) n c ∧ n ≤ c ∧ c ≤ maxLen ∧ U g ∧ ∀ j u, xs[j]? = some u → w.cell? ⟨g, o + j, none⟩ = some u := by
  obtain ⟨hl, ⟨rfl, h0⟩ | h⟩ := h
  · omega
  · exact h
section
variable {G T : Nat → Prop} {w W : World} {A : Ad} {V : Wv} {q : Nat} {C : List Value}
theorem ow_keep (h : Opw G w A V q C) (hk : Keeps T w W) (hT : ∀ k, T k → G k) : Opw G W A V q C := by
  obtain ⟨S, h1, h2, h3, h4, h5, h6⟩ := h
  exact ⟨S, h1.keep hk (fun k s t => h2 k (hT k t) s), h2, h3, h4.keep hk (fun t => h5 (hT q t)), h5, fun k g => Nat.lt_of_lt_of_le (h6 k g) hk.size⟩
theorem ow_addN (h : Opw G w A V q C) (hb : Below w.heap.size w W) : Opw (fun k => G k ∨ (w.heap.size ≤ k ∧ k < W.heap.size)) W A V q C := by
  obtain ⟨S, h1, h2, h3, h4, h5, h6⟩ := h
  refine ⟨S, h1.new hb, fun k g s => ?_, h3, h4.new hb, fun g => ?_, fun k g => ?_⟩
  · rcases g with g | g
    · exact h2 k g s
    · have := h1.lt _ s; omega
  · rcases g with g | g
    · exact h5 g
    · have := h4.lt; omega
  · rcases g with g | g
    · exact Nat.lt_of_lt_of_le (h6 k g) hb.size
    · exact g.2
theorem ow_less {G' : Nat → Prop} (h : Opw G w A V q C) (hG : ∀ k, G' k → G k) : Opw G' w A V q C := by
  obtain ⟨S, h1, h2, h3, h4, h5, h6⟩ := h
  exact ⟨S, h1, fun k g => h2 k (hG k g), h3, h4, fun g => h5 (hG q g), fun k g => h6 k (hG k g)⟩
/-- The same, with all blocks from B on. -/
def Ow (G : Nat → Prop) (B : Nat) (w : World) (A : Ad) (V : Wv) (q : Nat) (C : List Value) : Prop := (B ≤ w.heap.size ∧ q < B) ∧ Opw (fun k => G k ∨ (B ≤ k ∧ k < w.heap.size)) w A V q C
theorem Ow.of (h : Opw G w A V q C) : Ow G w.heap.size w A V q C := ⟨⟨Nat.le_refl _, h.ob.lt⟩, ow_addN h (Below.refl _ _)⟩
theorem Ow.ext {B : Nat} (h : Ow G B w A V q C) (hb : Below w.heap.size w W) : Ow G B W A V q C := by
  obtain ⟨⟨h1, hq⟩, h2⟩ := h
  refine ⟨⟨Nat.le_trans h1 hb.size, hq⟩, ow_less (ow_addN h2 hb) (fun k g => ?_)⟩
  rcases g with g | g
  · exact .inl (.inl g)
  · rcases Nat.lt_or_ge k w.heap.size with l | l
    · exact .inl (.inr ⟨g.1, l⟩)
    · exact .inr ⟨l, g.2⟩
theorem Ow.set {B : Nat} {C' : List Value} (h : Ow G B w A V q C) (i : Nat) (u : Value) (hi : i < C.length) (hC : C' = C.set i u) : Ow G B (w.setCell ⟨q, i, none⟩ u) A V q C' ∧ Kp G w (w.setCell ⟨q, i, none⟩ u) := by
  obtain ⟨⟨h1, hq⟩, h2⟩ := h
  have hs : (w.setCell ⟨q, i, none⟩ u).heap.size = w.heap.size := by simp [World.setCell]
  obtain ⟨h3, k3⟩ := h2.set i u hi hC
  exact ⟨⟨⟨by rw [hs]; exact h1, hq⟩, by rw [hs]; exact h3⟩, k3.less (fun k g => .inl g)⟩
theorem Ow.op {B : Nat} (h : Ow G B w A V q C) : Opw G w A V q C := ow_less h.2 (fun k g => .inl g)
/-- A list that is only read, in a block from B on. -/
def Rb (w : World) (B : Nat) (v : Value) (n size : Nat) (xs : List Value) : Prop := R0 w (fun k => B ≤ k ∧ k < w.heap.size) v n size xs
theorem Rb.ext {B n size : Nat} {v : Value} {xs : List Value} (h : Rb w B v n size xs) (hb : Below w.heap.size w W) : Rb W B v n size xs :=
  (R0.keep h (Keeps.of_new (S := fun _ => False) hb) (fun _ _ s => s)).mono (fun g u => ⟨u.1, Nat.lt_of_lt_of_le u.2 hb.size⟩)
theorem Rb.set {B n size i : Nat} {v : Value} {xs : List Value} (h : Rb w B v n size xs) (hq : q < B) (u : Value) : Rb (w.setCell ⟨q, i, none⟩ u) B v n size xs := by
  have hs : (w.setCell ⟨q, i, none⟩ u).heap.size = w.heap.size := by simp [World.setCell]
  unfold Rb
  rw [hs]
  exact R0.keep h (Keeps.setCell (S := fun k => k = q) (Keeps.refl _ w) (p := ⟨q, i, none⟩) (.inl rfl) u) (fun g u e => by omega)
theorem Rb.of_lst {B B' n size : Nat} {v : Value} {xs : List Value} (h : Lst w B' size v n xs) (hB : B ≤ B') : Rb w B v n size xs := R0.of_lst h (fun g l1 l2 => ⟨Nat.le_trans hB l1, l2⟩)
theorem ow_lt (h : Opw G w A V q C) : ∀ k, G k → k < w.heap.size := by obtain ⟨S, h1, h2, h3, h4, h5, h6⟩ := h; exact h6
theorem ow_nq (h : Opw G w A V q C) : ¬ G q := by obtain ⟨S, h1, h2, h3, h4, h5, h6⟩ := h; exact h5
end
/-- What a Look knows. -/
structure Lk where
  tr : Int
  fl : Bool
  t : Int
  P : List Pv
  S : List Int
  D : List Int
  i : Int
  L : List Int
  ref : Int
  ep : Int
  pt : Int
/-- A Look beside a world. -/
def LkO (G : Nat → Prop) (w : World) (A : Ad) (V : Wv) (q : Nat) (key : ByteArray) (nx : Value) (x : Lk) : Prop := ∃ (U Z : Nat → Prop) (pl st vs sl : Value), Opw (fun j => (G j ∨ U j) ∨ Z j) w A V q (lkC key x.tr nx x.fl x.t pl st vs x.i sl x.ref x.ep x.pt) ∧ (∀ j, U j → ¬ G j) ∧ (∀ j, Z j → ¬ G j ∧ ¬ U j) ∧ (R0 w U pl x.P.length 2 (rowsP x.P) ∧ R0 w U st x.S.length 1 (rowsU x.S) ∧ R0 w U sl x.L.length 1 (ints x.L)) ∧ w.ownsRow 0 22 1 vs x.D.length (rowsU x.D) ∧ (∀ g, vs.ownBlock = some g → Z g)
/-- What a step leaves. -/
def LkP (G : Nat → Prop) (w : World) (A : Ad) (V : Wv) (q : Nat) (key : ByteArray) (nx : Value) (x : Lk) (e : Ending) (w' : World) : Prop := e = .returned (.tuple #[]) ∧ LkO G w' A V q key nx x ∧ Kp G w w'
end Go.Proofs.Ytepkpbhhiianpaa
/- Next: Looks: the program's; its first load. -/
namespace Go.Proofs.Ytepkpbhhiianpaa
open Go.RowKit Go.Maps
set_option linter.unusedVariables false
theorem addP_leL (D : List Pv) (p : Pv) : (addP D p).length ≤ D.length + 1 := by unfold addP; split <;> simp
theorem ded_leL (L : List Pv) : ∀ D : List Pv, (L.foldl addP D).length ≤ D.length + L.length := by
  induction L with
  | nil => intro D; simp
  | cons x L ih => intro D; have := ih (addP D x); have := addP_leL D x; simp at *; omega
theorem placesF_le (z t : Int) : (placesF z t).length ≤ 4 := by
  have := ded_leL (placesL z t) []
  have h2 : (placesL z t).length ≤ 4 := by unfold placesL; split <;> simp
  simp at this
  exact Nat.le_trans this h2
section
variable {G : Nat → Prop} {w : World} {A : Ad} {V : Wv} {q : Nat} {key : ByteArray} {tr t t0 z i ref ep pt : Int} {fl : Bool} {pl st vs sl nx : Value}
/-- Behind the load of the tables' word. -/
def LkT (G : Nat → Prop) (w : World) (A : Ad) (V : Wv) (q : Nat) (key : ByteArray) (tr : Int) (fl : Bool) (t z i : Int) (sl : Value) (ref ep pt : Int) (e : Ending) (w' : World) : Prop := e = .returned (.tuple #[]) ∧ ∃ (B : Nat) (pl st : Value), w.heap.size ≤ B ∧ Ow G B w' A V q (lkC key tr (nxV 75) fl t pl st (.slice none 0 0) i sl ref ep pt) ∧ Rb w' B pl (placesF z t).length 2 (rowsP (placesF z t)) ∧ Rb w' B st (strsF (placesF z t)).length 1 (rowsU (strsF (placesF z t))) ∧ Kp G w w'
set_option maxHeartbeats 2000000 in
set_option maxRecDepth 100000 in
theorem lk_tables (h : Opw G w A V q (lkC key tr nx fl t0 pl st vs i sl ref ep pt)) (hc : V.cnt < 1000000000) (hk : key.size ≤ maxLen) (ht : V.f 2 = t) (hz : hsl key.data.toList = z) (hzu : isU z) :
    Calls Try.prog 55 #[.pointer (some ⟨q, 0, none⟩), .pointer (some ⟨A.p, 0, none⟩)] w (LkT G w A (V.acc V.f 1 2 t t) q key tr fl t z i sl ref ep pt) := by
  have htu : isU t := ht ▸ h.rng ⟨by decide, by decide⟩
  have c0 := h.box.c0
  have C := h.load (a := 2) ⟨by decide, by decide⟩ hc
  rw [ht] at C
  have C := Lib.hid C
  have CH := fun W => hash key W hk
  rw [hz] at CH
  have CH := Lib.hid CH
  have CPL := Lib.hid (fun W => placesw z t W hzu.1 (by have := hzu.2; omega) htu.1 (by have := htu.2; omega))
  have HM := Lib.hid (placesF_le z t)
  generalize V.acc V.f 1 2 t t = V1 at *
  unfold LkT
  generalize placesF z t = PL at *
  clear h ht hz hzu htu
  go_enter Try.func55, Try.ntmps55
  go_wp2_with fail
  refine C.out.mono ?_
  rintro e w1 ⟨rfl, h1, k1⟩
  have d4 := h1.ob.at_ 4 _ rfl
  have f4 := h1.ob.fz 4 (by show 4 < 13; decide)
  obtain ⟨h2, k2⟩ := h1.set 4 (.int .u64 t) (by show 4 < 13; decide) (C' := lkC key tr nx fl t pl st vs i sl ref ep pt) rfl
  have H2 := Lib.hid h2
  have K2 := Lib.hid (Kp.to k1 k2)
  clear h1 k1 h2 k2 c0 C
  go_upto_region 1 with (fail)
  generalize hW2 : World.setCell w1 _ _ = W2 at *
  clear hW2 d4 f4
  have b2 : Below W2.heap.size W2 W2.drew := (Below.refl _ _).drew
  have h2 := H2.out.new b2
  have x0 : W2.drew.cell? ⟨q, 0, none⟩ = some (.string key) := h2.ob.at_ 0 _ rfl
  have x4 : W2.drew.cell? ⟨q, 4, none⟩ = some (.int .u64 t) := h2.ob.at_ 4 _ rfl
  have x5 : W2.drew.cell? ⟨q, 5, none⟩ = some pl := h2.ob.at_ 5 _ rfl
  have z5 : W2.drew.frozen? ⟨q, 5, none⟩ = false := h2.ob.fz 5 (by show 5 < 13; decide)
  have HB := Lib.hid b2
  clear b2 h2
  go_region_held3 (fun X => X.cell? ⟨q, 0, none⟩ = some (.string key) ∧ X.cell? ⟨q, 4, none⟩ = some (.int .u64 t))
    (first | exact ⟨by assumption, by assumption⟩ | exact ⟨set_other (by decide) (by assumption), set_other (by decide) (by assumption)⟩)
    (first
      | (go_at_call 27; ((with_reducible refine (CH.out _).mono ?_); rintro e w3 ⟨rfl, b3⟩; have b3' := below_then HB.out b3; have h3 := H2.out.new b3'; clear x0 x4 x5 z5 HB; have x0 := h3.ob.at_ 0 _ rfl; have x4 := h3.ob.at_ 4 _ rfl; have x5 := h3.ob.at_ 5 _ rfl; have z5 := h3.ob.fz 5 (by show 5 < 13; decide); have HB := Lib.hid b3'; clear b3 b3' h3))
      | (go_at_call 30; ((with_reducible refine (CPL.out _).mono ?_); rintro e w4 ⟨a4, rfl, l4, b4⟩; have b4' := below_then HB.out b4; have h4 := H2.out.new b4'; have HL := Lib.hid (Rb.of_lst (B := W2.heap.size) l4 HB.out.size); clear x0 x4 x5 z5 HB; have x0 := h4.ob.at_ 0 _ rfl; have x4 := h4.ob.at_ 4 _ rfl; have x5 := h4.ob.at_ 5 _ rfl; have z5 := h4.ob.fz 5 (by show 5 < 13; decide); have HB := Lib.hid b4'; clear b4 b4' h4 l4)))
  have hb4 := HB.out
  have o5 := (Ow.of H2.out).ext hb4
  have r5 := HL.out
  obtain ⟨o6, k6⟩ := o5.set 5 (.slice a4 PL.length PL.length) (by show 5 < 13; decide) (C' := lkC key tr nx fl t (.slice a4 PL.length PL.length) st vs i sl ref ep pt) rfl
  have r6 := Rb.set (i := 5) r5 o5.1.2 (.slice a4 PL.length PL.length)
  have H6 := Lib.hid o6
  have R6 := Lib.hid r6
  have K6 := Lib.hid (Kp.to (Kp.to K2.out (Kp.of hb4)) k6)
  have HBB := Lib.hid (show w.heap.size ≤ W2.heap.size from K2.out.size)
  generalize hB : W2.heap.size = B at *
  clear hb4 o5 r5 o6 k6 r6 HB HL H2 K2 hB
  generalize hW6 : World.setCell w4 _ _ = W6 at *
  clear hW6 x0 x4 x5 z5
  have CO : Calls Try.prog 49 #[.slice a4 PL.length PL.length] W6 (IsClp W6 1 (strsF PL).length (rowsU (strsF PL))) := by
    obtain ⟨a, c, e, hl⟩ := R0.layP R6.out
    injection e with e1 e2 e3
    subst e1 e3
    exact strOf hl (by have := HM.out; omega)
  have CO := Lib.hid CO
  have x5 : W6.cell? ⟨q, 5, none⟩ = some (.slice a4 PL.length PL.length) := H6.out.op.ob.at_ 5 _ rfl
  have x6 : W6.cell? ⟨q, 6, none⟩ = some st := H6.out.op.ob.at_ 6 _ rfl
  have z6 : W6.frozen? ⟨q, 6, none⟩ = false := H6.out.op.ob.fz 6 (by show 6 < 13; decide)
  go_wp2_with (go_at_call 49; ((with_reducible refine CO.out.mono ?_); rintro e w7 ⟨a7, rfl, l7, b7⟩; have h7 := H6.out.ext b7; clear x5 x6 z6; have x6 := h7.op.ob.at_ 6 _ rfl; have z6 := h7.op.ob.fz 6 (by show 6 < 13; decide); have x7 := h7.op.ob.at_ 7 _ rfl; have z7 := h7.op.ob.fz 7 (by show 7 < 13; decide); have x2 := h7.op.ob.at_ 2 _ rfl; have z2 := h7.op.ob.fz 2 (by show 2 < 13; decide); have H7 := Lib.hid h7; have R7 := Lib.hid (And.intro (R6.out.ext b7) (Rb.of_lst (B := B) l7 H6.out.1.1)); have K7 := Lib.hid (Kp.to K6.out (Kp.of b7)); clear h7 l7 b7))
  generalize hS : strsF PL = SL at *
  obtain ⟨h8, k8⟩ := H7.out.set 6 (.slice a7 SL.length SL.length) (by show 6 < 13; decide) (C' := lkC key tr nx fl t (.slice a4 PL.length PL.length) (.slice a7 SL.length SL.length) vs i sl ref ep pt) rfl
  obtain ⟨h9, k9⟩ := h8.set 7 (.slice none 0 0) (by show 7 < 13; decide) (C' := lkC key tr nx fl t (.slice a4 PL.length PL.length) (.slice a7 SL.length SL.length) (.slice none 0 0) i sl ref ep pt) rfl
  obtain ⟨h10, k10⟩ := h9.set 2 (nxV 75) (by show 2 < 13; decide) (C' := lkC key tr (nxV 75) fl t (.slice a4 PL.length PL.length) (.slice a7 SL.length SL.length) (.slice none 0 0) i sl ref ep pt) rfl
  have hq := h8.1.2
  have FIN := Lib.hid (And.intro h10 (And.intro (Rb.set (i := 2) (Rb.set (i := 7) (Rb.set (i := 6) R7.out.1 hq (.slice a7 SL.length SL.length)) hq (.slice none 0 0)) hq (nxV 75)) (And.intro (Rb.set (i := 2) (Rb.set (i := 7) (Rb.set (i := 6) R7.out.2 hq (.slice a7 SL.length SL.length)) hq (.slice none 0 0)) hq (nxV 75)) (Kp.to (Kp.to (Kp.to K7.out k8) k9) k10))))
  clear h8 k8 h9 k9 h10 k10
  go_end0
  exact ⟨rfl, B, _, _, HBB.out, FIN.out.1, FIN.out.2.1, FIN.out.2.2.1, FIN.out.2.2.2⟩
end
end Go.Proofs.Ytepkpbhhiianpaa
/- Next: Looks: the program's; another try, and versions. -/
namespace Go.Proofs.Ytepkpbhhiianpaa
open Go.RowKit Go.Maps
set_option linter.unusedVariables false
section
variable {G Z : Nat → Prop} {w : World} {A : Ad} {V : Wv} {q : Nat} {C : List Value} {key : ByteArray} {tr t z i ref ep pt : Int} {fl : Bool} {pl st vs sl nx : Value}
theorem ow_note (h : Opw G w A V q C) (hM : V.M.length ≤ 1048576) (k r b c d v : Int) :
    Calls Try.prog 84 #[.pointer (some ⟨A.p, 0, none⟩), .int .u8 k, .int .i64 r, .agg #[.int .i64 b, .int .i64 c, .int .i64 d], .int .i64 v] w fun e w' => e = .returned (.tuple #[]) ∧ Opw G w' A (V.note (V.cnt, V.h, k, r, b, c, d, v)) q C ∧ Kp G w w' := by
  obtain ⟨S, h1, h2, h3, h4, h5, h6⟩ := h
  exact (wnote h1 hM k r b c d v).mono fun e w' ⟨he, hp⟩ => ⟨he, Opw.post h2 h3 h4 h5 h6 hp⟩
theorem ow_steps (h : Opw G w A V q C) {c : Int} (hc : V.cnt = c) : Calls Try.prog 25 #[.pointer (some ⟨A.p, 0, none⟩)] w fun e w' => e = .returned (.int .i64 c) ∧ w = w' := by
  subst hc
  obtain ⟨S, h1, h2, h3, h4, h5, h6⟩ := h
  exact wsteps h1
/-- No try is left. -/
theorem lk_again0 (h : Opw G w A V q (lkC key tr nx fl t pl st vs i sl ref ep pt)) (htr : tr < 1) (x : Value) :
    Calls Try.prog 81 #[.pointer (some ⟨q, 0, none⟩), x] w fun e w' => e = .returned (.tuple #[]) ∧ Opw G w' A V q (lkC key tr .nilFunc true t pl st vs i sl 0 ep pt) ∧ Kp G w w' := by
  have x10 := h.ob.at_ 10 _ rfl
  have z10 := h.ob.fz 10 (by show 10 < 13; decide)
  obtain ⟨h1, k1⟩ := h.set 10 (.int .i64 0) (by show 10 < 13; decide) (C' := lkC key tr nx fl t pl st vs i sl 0 ep pt) rfl
  have H1 := Lib.hid h1
  have K1 := Lib.hid k1
  have dt : decide (tr < 1) = true := decide_eq_true htr
  clear h h1 k1
  go_enter Try.func81, Try.ntmps81
  go_upto_region 1 with (fail)
  generalize hW1 : World.setCell w _ _ = W1 at *
  clear hW1 x10 z10
  have x1 := H1.out.ob.at_ 1 _ rfl
  have x3 := H1.out.ob.at_ 3 _ rfl
  have z3 := H1.out.ob.fz 3 (by show 3 < 13; decide)
  have x2 := H1.out.ob.at_ 2 _ rfl
  have z2 := H1.out.ob.fz 2 (by show 2 < 13; decide)
  obtain ⟨h2, k2⟩ := H1.out.set 3 (.bool true) (by show 3 < 13; decide) (C' := lkC key tr nx true t pl st vs i sl 0 ep pt) rfl
  obtain ⟨h3, k3⟩ := h2.set 2 .nilFunc (by show 2 < 13; decide) (C' := lkC key tr .nilFunc true t pl st vs i sl 0 ep pt) rfl
  have H3 := Lib.hid h3
  have K3 := Lib.hid (Kp.to (Kp.to K1.out k2) k3)
  clear h2 k2 h3 k3
  go_wp2_with fail
  exact bodyPost_ret (v := .tuple #[]) (by simp [results, Try.results81, go_sem]) rfl ⟨rfl, H3.out, K3.out⟩
/-- A try is left. -/
theorem lk_again (h : Opw G w A V q (lkC key tr nx fl t pl st vs i sl ref ep pt)) (htr : 1 ≤ tr) (ht2 : tr ≤ 9223372036854775807) (hM : V.M.length ≤ 1048576) {u : Int} (hu : tr - 1 = u) :
    Calls Try.prog 81 #[.pointer (some ⟨q, 0, none⟩), .pointer (some ⟨A.p, 0, none⟩)] w fun e w' => e = .returned (.tuple #[]) ∧ Opw G w' A (V.note (V.cnt, V.h, 6, 0, 0, 0, 0, u)) q (lkC key u (nxV 55) fl t pl st vs i sl 0 ep pt) ∧ Kp G w w' := by
  obtain ⟨V1, hV1⟩ : ∃ V1, V1 = V.note (V.cnt, V.h, 6, 0, 0, 0, 0, u) := ⟨_, rfl⟩
  rw [← hV1]
  have HV1 := Lib.hid hV1
  clear hV1
  have x10 := h.ob.at_ 10 _ rfl
  have z10 := h.ob.fz 10 (by show 10 < 13; decide)
  obtain ⟨h1, k1⟩ := h.set 10 (.int .i64 0) (by show 10 < 13; decide) (C' := lkC key tr nx fl t pl st vs i sl 0 ep pt) rfl
  have H1 := Lib.hid h1
  have K1 := Lib.hid k1
  have dt : decide (tr < 1) = false := decide_eq_false (by omega)
  have HM := Lib.hid hM
  clear h h1 k1 hM
  go_enter Try.func81, Try.ntmps81
  go_upto_region 1 with (fail)
  generalize hW1 : World.setCell w _ _ = W1 at *
  clear hW1 x10 z10
  have x1 := H1.out.ob.at_ 1 _ rfl
  have z1 := H1.out.ob.fz 1 (by show 1 < 13; decide)
  obtain ⟨h2, k2⟩ := H1.out.set 1 (.int .i64 u) (by show 1 < 13; decide) (C' := lkC key u nx fl t pl st vs i sl 0 ep pt) rfl
  have H2 := Lib.hid h2
  have K2 := Lib.hid (Kp.to K1.out k2)
  have y1 := h2.ob.at_ 1 _ rfl
  have CN := ow_note h2 HM.out 6 0 0 0 0 u
  rw [← HV1.out] at CN
  have CN := Lib.hid CN
  clear h2 k2 H1 K1 HV1
  subst hu
  go_wp2_with (go_at_call 84; ((with_reducible refine CN.out.mono ?_); rintro e w3 ⟨rfl, h3, k3⟩; have x2 := h3.ob.at_ 2 _ rfl; have z2 := h3.ob.fz 2 (by show 2 < 13; decide); have H3 := Lib.hid h3; have K3 := Lib.hid (Kp.to K2.out k3); clear h3 k3))
  obtain ⟨h4, k4⟩ := H3.out.set 2 (nxV 55) (by show 2 < 13; decide) (C' := lkC key (tr - 1) (nxV 55) fl t pl st vs i sl 0 ep pt) rfl
  have FIN := Lib.hid (And.intro h4 (Kp.to K3.out k4))
  clear h4 k4
  go_end0
  exact ⟨rfl, FIN.out.1, FIN.out.2⟩
end
end Go.Proofs.Ytepkpbhhiianpaa
/- Next: Looks: the program's; versions. -/
namespace Go.Proofs.Ytepkpbhhiianpaa
open Go.RowKit Go.Maps
set_option linter.unusedVariables false
theorem info_u64 : (Try.prog.info? 22).map (fun i => (i.zero, i.size, i.bytes)) = some (some (.int .u64 0), 1, 8) := by kernel_rfl
section
variable {G T : Nat → Prop} {w W : World} {A : Ad} {V : Wv} {q : Nat} {C : List Value} {key : ByteArray} {tr t z i ref ep pt : Int} {fl : Bool} {pl st vs sl nx : Value} {g o n c d vc : Nat} {va : Option Addr} {a v : Int} {P : World → Prop}
theorem ow_addb {b : Nat} (h : Opw G w A V q C) (hk : Keeps T w W) (hT : ∀ k, T k → G k) (hb : G b ∨ w.heap.size ≤ b) (hl : b < W.heap.size) : Opw (fun k => G k ∨ k = b) W A V q C := by
  obtain ⟨S, h1, h2, h3, h4, h5, h6⟩ := h
  have hq := h4.lt
  refine ⟨S, h1.keep hk (fun k s t => h2 k (hT k t) s), fun k g s => ?_, h3, h4.keep hk (fun t => h5 (hT q t)), fun g => ?_, fun k g => ?_⟩
  · rcases g with g | rfl
    · exact h2 k g s
    · rcases hb with hb | hb
      · exact h2 _ hb s
      · have := h1.lt _ s; omega
  · rcases g with g | e
    · exact h5 g
    · rcases hb with hb | hb
      · exact h5 (e ▸ hb)
      · omega
  · rcases g with g | rfl
    · exact Nat.lt_of_lt_of_le (h6 k g) hk.size
    · exact hl
set_option maxHeartbeats 2000000 in
set_option maxRecDepth 100000 in
theorem lk_ver_odd (h : Opw G w A V q (lkC key tr nx fl t pl (.slice (some ⟨g, o, none⟩) n c) (.slice va d vc) i sl ref ep pt)) (hd : d < n) (hn : n ≤ c) (hcell : w.cell? ⟨g, o + d, none⟩ = some (.int .u64 a)) (hg : G g) (ha : isU a) (hc : V.cnt < 1000000000) (hv : V.f a = v) (hodd : (v % 2 == 1) = true)
    (hs : ∀ w1, Opw G w1 A (V.acc V.f 1 a v v) q (lkC key tr nx fl t pl (.slice (some ⟨g, o, none⟩) n c) (.slice va d vc) i sl ref ep pt) → Kp G w w1 → Calls Try.prog 81 #[.pointer (some ⟨q, 0, none⟩), .pointer (some ⟨A.p, 0, none⟩)] w1 fun e w' => e = .returned (.tuple #[]) ∧ P w') :
    Calls Try.prog 75 #[.pointer (some ⟨q, 0, none⟩), .pointer (some ⟨A.p, 0, none⟩)] w fun e w' => e = .returned (.tuple #[]) ∧ P w' := by
  have hvu : isU v := hv ▸ h.rng ha
  have hd0 : Below w.heap.size w w.drew := (Below.refl _ _).drew
  have h0 := h.new hd0
  have CL := h0.load ha hc
  rw [hv] at CL
  have CL := Lib.hid CL
  have CO := fun W => oddw v ⟨hvu.1, by have := hvu.2; omega⟩ W
  rw [hodd] at CO
  have CO := Lib.hid CO
  have HS := Lib.hid hs
  have HG := Lib.hid hg
  have c0 : w.drew.cell? ⟨A.p, 0, none⟩ = some (.pointer (some ⟨A.pc, 0, none⟩)) := h0.box.c0
  have x6 : w.drew.cell? ⟨q, 6, none⟩ = some (.slice (some ⟨g, o, none⟩) n c) := h0.ob.at_ 6 _ rfl
  have x7 : w.drew.cell? ⟨q, 7, none⟩ = some (.slice va d vc) := h0.ob.at_ 7 _ rfl
  have xa : w.drew.cell? ⟨g, o + d, none⟩ = some (.int .u64 a) := hcell
  have j1 : (0 : Int) ≤ (d : Int) := by omega
  have j2 : (d : Int) < (n : Int) := by omega
  have KD := Lib.hid (show Kp G w w.drew from Kp.of hd0)
  generalize V.acc V.f 1 a v v = V1 at *
  clear h h0 hs hg hv hodd hcell hvu hd0
  go_enter Try.func75, Try.ntmps75
  go_wp2_with fail
  go_region_held3 (fun X => X.cell? ⟨A.p, 0, none⟩ = some (.pointer (some ⟨A.pc, 0, none⟩)) ∧ X.cell? ⟨q, 6, none⟩ = some (.slice (some ⟨g, o, none⟩) n c) ∧ X.cell? ⟨q, 7, none⟩ = some (.slice va d vc) ∧ X.cell? ⟨g, o + d, none⟩ = some (.int .u64 a))
    (first | exact ⟨by assumption, by assumption, by assumption, by assumption⟩)
    (first
      | (go_at_call 63; ((with_reducible refine CL.out.mono ?_); rintro e w1 ⟨rfl, h1, k1⟩; replace c0 := h1.box.c0; replace x6 := h1.ob.at_ 6 _ rfl; replace x7 := h1.ob.at_ 7 _ rfl; replace xa := k1.cell (p := ⟨g, o + d, none⟩) (fun n => n HG.out) xa; have CA := Lib.hid (HS.out _ h1 (Kp.to KD.out k1)); clear h1 k1)))
  clear c0 x6 x7 xa
  go_wp2_with (first
    | (go_at_call 80; ((with_reducible refine (CO.out _).mono ?_); rintro e w2 ⟨rfl, rfl⟩))
    | (go_at_call 81; ((with_reducible refine CA.out.mono ?_); rintro e w3 ⟨rfl, h3⟩; have H3 := Lib.hid h3; clear h3)))
  exact bodyPost_ret (v := .tuple #[]) (by simp [results, Try.results75, go_sem]) rfl ⟨rfl, H3.out⟩
/-- A version that is even: it is kept. -/
def LkV (G : Nat → Prop) (w : World) (A : Ad) (V : Wv) (q : Nat) (key : ByteArray) (tr : Int) (nx : Value) (fl : Bool) (t : Int) (pl st vs : Value) (D : List Int) (i : Int) (sl : Value) (ref ep pt : Int) (e : Ending) (w' : World) : Prop := e = .returned (.tuple #[]) ∧ ∃ b c', Opw (fun j => G j ∨ j = b) w' A V q (lkC key tr nx fl t pl st (.slice (some ⟨b, 0, none⟩) D.length c') i sl ref ep pt) ∧ w'.ownsRow 0 22 1 (.slice (some ⟨b, 0, none⟩) D.length c') D.length (rowsU D) ∧ (vs.ownBlock = some b ∨ w.heap.size ≤ b) ∧ Kp (fun j => G j ∧ ¬ vs.ownBlock = some j) w w'
set_option maxHeartbeats 4000000 in
set_option maxRecDepth 100000 in
theorem lk_ver {D : List Int} (h : Opw G w A V q (lkC key tr nx fl t pl (.slice (some ⟨g, o, none⟩) n c) (.slice va d vc) i sl ref ep pt)) (hd : d < n) (hn : n ≤ c) (hM : n ≤ 1000) (hcell : w.cell? ⟨g, o + d, none⟩ = some (.int .u64 a)) (hg : G g ∧ ¬ (Value.slice va d vc).ownBlock = some g) (ha : isU a) (hc : V.cnt < 1000000000) (hv : V.f a = v) (hodd : (v % 2 == 1) = false)
    (hD : D.length = d) (hown : w.ownsRow 0 22 1 (.slice va d vc) d (rowsU D)) (hz : ∀ j, (Value.slice va d vc).ownBlock = some j → G j) {nx' : Value} (hnx : nx' = if d + 1 = n then nxV 82 else nx) :
    Calls Try.prog 75 #[.pointer (some ⟨q, 0, none⟩), .pointer (some ⟨A.p, 0, none⟩)] w (LkV G w A (V.acc V.f 1 a v v) q key tr nx' fl t pl (.slice (some ⟨g, o, none⟩) n c) (.slice va d vc) (D ++ [v]) i sl ref ep pt) := by
  obtain ⟨i0, hi, hz0, hz1, hz2⟩ := info_parts info_u64
  have hvu : isU v := hv ▸ h.rng ha
  have hd0 : Below w.heap.size w w.drew := (Below.refl _ _).drew
  have h0 := h.new hd0
  have CL := h0.load ha hc
  rw [hv] at CL
  have CL := Lib.hid CL
  have CO := fun W => oddw v ⟨hvu.1, by have := hvu.2; omega⟩ W
  rw [hodd] at CO
  have CO := Lib.hid CO
  have HG := Lib.hid hg
  have HZ := Lib.hid hz
  have HOWN := Lib.hid hown
  have HDL := Lib.hid hD
  have HNX := Lib.hid hnx
  have c0 : w.drew.cell? ⟨A.p, 0, none⟩ = some (.pointer (some ⟨A.pc, 0, none⟩)) := h0.box.c0
  have x6 : w.drew.cell? ⟨q, 6, none⟩ = some (.slice (some ⟨g, o, none⟩) n c) := h0.ob.at_ 6 _ rfl
  have x7 : w.drew.cell? ⟨q, 7, none⟩ = some (.slice va d vc) := h0.ob.at_ 7 _ rfl
  have xa : w.drew.cell? ⟨g, o + d, none⟩ = some (.int .u64 a) := hcell
  have j1 : (0 : Int) ≤ (d : Int) := by omega
  have j2 : (d : Int) < (n : Int) := by omega
  have KD := Lib.hid (show Kp G w w.drew from Kp.of hd0)
  have HNL := Lib.hid (ow_nq h)
  have HLT := Lib.hid (show ∀ k, G k → k < w.heap.size from ow_lt h)
  generalize V.acc V.f 1 a v v = V1 at *
  clear h h0 hg hv hodd hcell hvu hd0 hz hown hD hnx
  go_enter Try.func75, Try.ntmps75
  go_wp2_with fail
  go_region_held3 (fun X => X.cell? ⟨A.p, 0, none⟩ = some (.pointer (some ⟨A.pc, 0, none⟩)) ∧ X.cell? ⟨q, 6, none⟩ = some (.slice (some ⟨g, o, none⟩) n c) ∧ X.cell? ⟨q, 7, none⟩ = some (.slice va d vc) ∧ X.cell? ⟨g, o + d, none⟩ = some (.int .u64 a))
    (first | exact ⟨by assumption, by assumption, by assumption, by assumption⟩)
    (first
      | (go_at_call 63; ((with_reducible refine CL.out.mono ?_); rintro e w1 ⟨rfl, h1, k1⟩; replace c0 := h1.box.c0; replace x6 := h1.ob.at_ 6 _ rfl; replace x7 := h1.ob.at_ 7 _ rfl; replace xa := k1.cell (p := ⟨g, o + d, none⟩) (fun n => n HG.out.1) xa; have H1 := Lib.hid h1; have K1 := Lib.hid (Kp.to KD.out k1); clear h1 k1)))
  clear c0 x6 xa
  go_upto_region 3 with (go_at_call 80; ((with_reducible refine (CO.out _).mono ?_); rintro e w2 ⟨rfl, rfl⟩))
  have HO := Lib.hid (Keeps.ownsRow HOWN.out K1.out (fun j hj n => n (HZ.out j hj)))
  have HB1 := Lib.hid (show ∀ (ob : Obj) (w4 : World) (b : Nat), (w1.alloc ob).grownBy w4 (Value.slice va d vc).ownBlock → ((Value.slice va d vc).ownBlock = some b ∨ b = w1.heap.size + 1) → b < w4.heap.size → Opw (fun j => G j ∨ j = b) w4 A V1 q (lkC key tr nx fl t pl (.slice (some ⟨g, o, none⟩) n c) (.slice va d vc) i sl ref ep pt) ∧ Keeps (fun j => (Value.slice va d vc).ownBlock = some j) w1 w4 ∧ ((Value.slice va d vc).ownBlock = some b ∨ w.heap.size ≤ b) from by
    intro ob w4 b hgr hat hlt
    have k4 : Keeps (fun j => (Value.slice va d vc).ownBlock = some j) w1 w4 := ((Keeps.refl _ w1).alloc ob).grown hgr (fun k hk => .inl hk)
    have hs := K1.out.size
    refine ⟨ow_addb H1.out k4 HZ.out ?_ hlt, k4, ?_⟩
    · rcases hat with e | e
      · exact .inl (HZ.out b e)
      · exact .inr (by omega)
    · rcases hat with e | e
      · exact .inl e
      · exact .inr (by omega))
  go_upto_region 4 with (at_builtin; refine wpList_append_lies _ rfl (.tmp 30) (.tmp 32) 129 rfl 0 22 i0 (.int .u64 0) 1 8 Try.underlying129 hi hz0 hz1 hz2 rfl (by decide) (.slice va d vc) d (rowsU D) rfl (HO.out.alloc _) ⟨w1.heap.size, 0, none⟩ 1 1 [.int .u64 v] rfl rfl (by intro j u hj; exact newsU hj) (by simp [Value.oneCell']) (by decide) (by unfold maxLen; omega) (by omega) (Nat.zero_le _) (w1.heap.size + 1) (by simp) ?_; intro g' cap' w4 hown4 hgrow hat hltg; obtain ⟨o4, k4, n4⟩ := HB1.out _ _ _ hgrow hat hltg; clear x7; have x7 := o4.ob.at_ 7 _ rfl; have z7 := o4.ob.fz 7 (by show 7 < 13; decide); have H4 := Lib.hid (And.intro o4 (And.intro k4 (And.intro n4 hown4))); clear o4 k4 n4 hown4 hgrow hat hltg)
  obtain ⟨h5, k5⟩ := H4.out.1.set 7 (.slice (some ⟨g', 0, none⟩) (d + 1) cap') (by show 7 < 13; decide) (C' := lkC key tr nx fl t pl (.slice (some ⟨g, o, none⟩) n c) (.slice (some ⟨g', 0, none⟩) (d + 1) cap') i sl ref ep pt) rfl
  have H5 := Lib.hid (And.intro h5 (And.intro k5 (Keeps.ownsRow H4.out.2.2.2 k5 (fun j hj n => n (by simp [Value.ownBlock] at hj; exact .inr hj.symm)))))
  have HE := Lib.hid (And.intro H4.out.2.1 H4.out.2.2.1)
  clear h5 k5 H4 HB1
  generalize hW5 : World.setCell w4 _ _ = W5 at *
  clear hW5 x7 z7
  have hd5 : Below W5.heap.size W5 W5.drew := (Below.refl _ _).drew
  have h6 := H5.out.1.new hd5
  have x6 : W5.drew.cell? ⟨q, 6, none⟩ = some (.slice (some ⟨g, o, none⟩) n c) := h6.ob.at_ 6 _ rfl
  have x7 : W5.drew.cell? ⟨q, 7, none⟩ = some (.slice (some ⟨g', 0, none⟩) (d + 1) cap') := h6.ob.at_ 7 _ rfl
  have x2 : W5.drew.cell? ⟨q, 2, none⟩ = some nx := h6.ob.at_ 2 _ rfl
  have z2 : W5.drew.frozen? ⟨q, 2, none⟩ = false := h6.ob.fz 2 (by show 2 < 13; decide)
  have HL : (D ++ [v]).length = d + 1 := by simp [HDL.out]
  have HLL := Lib.hid HL
  have FIN : ∀ (W : World) (nx' : Value), Opw (fun j => G j ∨ j = g') W A V1 q (lkC key tr nx' fl t pl (.slice (some ⟨g, o, none⟩) n c) (.slice (some ⟨g', 0, none⟩) (d + 1) cap') i sl ref ep pt) → Kp (fun j => G j ∨ j = g') W5 W → LkV G w A V1 q key tr nx' fl t pl (.slice (some ⟨g, o, none⟩) n c) (.slice va d vc) (D ++ [v]) i sl ref ep pt (.returned (.tuple #[])) W := by
    intro W nx' hW hK
    refine ⟨rfl, g', cap', ?_, ?_, HE.out.2, ?_⟩
    · rw [HL]; exact hW
    · rw [HL, rowsU_snoc]
      exact Keeps.ownsRow H5.out.2.2 hK (fun j hj n => n (by simp [Value.ownBlock] at hj; exact .inr hj.symm))
    · have a1 : Kp (fun j => G j ∧ ¬ (Value.slice va d vc).ownBlock = some j) w w1 := K1.out.less (fun j h => h.1)
      have a2 : Kp (fun j => G j ∧ ¬ (Value.slice va d vc).ownBlock = some j) w1 w4 := HE.out.1.mono (fun k _ e h => h.2 e)
      exact Kp.to (Kp.to (Kp.to a1 a2) (H5.out.2.1.less (fun j h => .inl h.1))) (hK.less (fun j h => .inl h.1))
  have FIN := Lib.hid FIN
  have KD5 := Lib.hid (show Kp (fun j => G j ∨ j = g') W5 W5.drew from Kp.of hd5)
  have H6 := Lib.hid h6
  clear h6 hd5 HL
  by_cases hb : d + 1 = n
  · have e1 : (((d : Nat) : Int) + 1 == (n : Int)) = true := by simp; omega
    have e2 : nx' = nxV 82 := by rw [HNX.out, if_pos hb]
    subst e2
    obtain ⟨h7, k7⟩ := H6.out.set 2 (nxV 82) (by show 2 < 13; decide) (C' := lkC key tr (nxV 82) fl t pl (.slice (some ⟨g, o, none⟩) n c) (.slice (some ⟨g', 0, none⟩) (d + 1) cap') i sl ref ep pt) rfl
    have H7 := Lib.hid (FIN.out _ _ h7 (Kp.to KD5.out k7))
    clear h7 k7 hb
    go_region
    go_wp2_with fail
    go_end0
    exact H7.out
  · have e1 : (((d : Nat) : Int) + 1 == (n : Int)) = false := by simp; omega
    have e2 : nx' = nx := by rw [HNX.out, if_neg hb]
    subst e2
    have H7 := Lib.hid (FIN.out _ _ H6.out KD5.out)
    clear hb
    go_region
    go_wp2_with fail
    go_end0
    exact H7.out
end
end Go.Proofs.Ytepkpbhhiianpaa
/- Next: Looks: the program's; the epoch, tags, and what is looked at again. -/
namespace Go.Proofs.Ytepkpbhhiianpaa
open Go.RowKit Go.Maps
set_option linter.unusedVariables false
theorem lst_slice {w : World} {B size n : Nat} {v : Value} {xs : List Value} (h : Lst w B size v n xs) : ∃ a c, v = .slice a n c := by
  obtain ⟨hl, ⟨rfl, rfl⟩ | ⟨g, c, rfl, -⟩⟩ := h
  · exact ⟨_, _, rfl⟩
  · exact ⟨_, _, rfl⟩
section
variable {G : Nat → Prop} {w : World} {A : Ad} {V : Wv} {q : Nat} {C : List Value} {key : ByteArray} {tr t z ref ep pt s : Int} {fl : Bool} {pl st vs sl nx : Value} {g o n c i l : Nat} {a v : Int} {P : World → Prop}
theorem ow_stepsE (h : Opw G w A V q C) {c : Int} (hc : V.cnt = c) : Calls Try.prog 25 #[.pointer (some ⟨A.p, 0, none⟩)] w fun e w' => e = .returned (.int .i64 c) ∧ w = w' := by
  subst hc
  obtain ⟨S, h1, h2, h3, h4, h5, h6⟩ := h
  exact wsteps h1
set_option maxHeartbeats 2000000 in
set_option maxRecDepth 100000 in
theorem lk_epoch {j e' : Int} (h : Opw G w A V q (lkC key tr nx fl t pl st vs j sl ref ep pt)) (hc : V.cnt < 1000000000) (hv : V.f 8 = z) (hct : V.cnt + 1 = e') :
    Calls Try.prog 82 #[.pointer (some ⟨q, 0, none⟩), .pointer (some ⟨A.p, 0, none⟩)] w fun e w' => e = .returned (.tuple #[]) ∧ Opw G w' A (V.acc V.f 1 8 z z) q (lkC key tr (nxV 85) fl t pl st vs 0 sl ref z e') ∧ Kp G w w' := by
  have c0 := h.box.c0
  have CL := h.load (a := 8) ⟨by decide, by decide⟩ hc
  rw [hv] at CL
  have CL := Lib.hid CL
  have HV1 := Lib.hid (show (V.acc V.f 1 8 z z).cnt = e' from hct)
  generalize V.acc V.f 1 8 z z = V1 at *
  clear h hv hct
  go_enter Try.func82, Try.ntmps82
  go_wp2_with fail
  refine CL.out.mono ?_
  rintro e w1 ⟨rfl, h1, k1⟩
  have x11 := h1.ob.at_ 11 _ rfl
  have z11 := h1.ob.fz 11 (by show 11 < 13; decide)
  obtain ⟨h2, k2⟩ := h1.set 11 (.int .u64 z) (by show 11 < 13; decide) (C' := lkC key tr nx fl t pl st vs j sl ref z pt) rfl
  have H2 := Lib.hid h2
  have K2 := Lib.hid (Kp.to k1 k2)
  clear h1 k1 h2 k2 c0 CL
  go_upto_region 1 with (fail)
  generalize hW2 : World.setCell w1 _ _ = W2 at *
  clear hW2 x11 z11
  have CS := Lib.hid (ow_stepsE H2.out HV1.out)
  have x12 := H2.out.ob.at_ 12 _ rfl
  have z12 := H2.out.ob.fz 12 (by show 12 < 13; decide)
  have x8 := H2.out.ob.at_ 8 _ rfl
  have z8 := H2.out.ob.fz 8 (by show 8 < 13; decide)
  have x2 := H2.out.ob.at_ 2 _ rfl
  have z2 := H2.out.ob.fz 2 (by show 2 < 13; decide)
  go_wp2_with (go_at_call 25; ((with_reducible refine CS.out.mono ?_); rintro e w3 ⟨rfl, rfl⟩))
  obtain ⟨h4, k4⟩ := H2.out.set 12 (.int .i64 e') (by show 12 < 13; decide) (C' := lkC key tr nx fl t pl st vs j sl ref z e') rfl
  obtain ⟨h5, k5⟩ := h4.set 8 (.int .i64 0) (by show 8 < 13; decide) (C' := lkC key tr nx fl t pl st vs 0 sl ref z e') rfl
  obtain ⟨h6, k6⟩ := h5.set 2 (nxV 85) (by show 2 < 13; decide) (C' := lkC key tr (nxV 85) fl t pl st vs 0 sl ref z e') rfl
  have FIN := Lib.hid (And.intro h6 (Kp.to (Kp.to (Kp.to K2.out k4) k5) k6))
  clear h4 k4 h5 k5 h6 k6
  go_end0
  exact ⟨rfl, FIN.out.1, FIN.out.2⟩
/-- A slot is left. -/
theorem lk_on_slot {j : Int} {sa : Option Addr} (h : Opw G w A V q (lkC key tr nx fl t pl st vs j (.slice sa l c) ref ep pt)) (hl : 0 < l) :
    Calls Try.prog 89 #[.pointer (some ⟨q, 0, none⟩)] w fun e w' => e = .returned (.tuple #[]) ∧ Opw G w' A V q (lkC key tr (nxV 93) fl t pl st vs j (.slice sa l c) ref ep pt) ∧ Kp G w w' := by
  have x9 := h.ob.at_ 9 _ rfl
  have x2 := h.ob.at_ 2 _ rfl
  have z2 := h.ob.fz 2 (by show 2 < 13; decide)
  have d1 : decide ((l : Int) > 0) = true := decide_eq_true (by omega)
  have d2 : decide ((0 : Int) < (l : Int)) = true := decide_eq_true (by omega)
  obtain ⟨h6, k6⟩ := h.set 2 (nxV 93) (by show 2 < 13; decide) (C' := lkC key tr (nxV 93) fl t pl st vs j (.slice sa l c) ref ep pt) rfl
  have FIN := Lib.hid (And.intro h6 k6)
  clear h h6 k6
  go_enter Try.func89, Try.ntmps89
  go_wp2_with fail
  exact bodyPost_ret (v := .tuple #[]) (by simp [results, Try.results89, go_sem]) rfl ⟨rfl, FIN.out.1, FIN.out.2⟩
set_option maxHeartbeats 2000000 in
set_option maxRecDepth 100000 in
/-- None is left: the next place, or what is checked. -/
theorem lk_on {sa pa : Option Addr} {pc : Nat} (h : Opw G w A V q (lkC key tr nx fl t (.slice pa n pc) st vs (i : Int) (.slice sa 0 c) ref ep pt)) (hi : i < 1000) {nx' : Value} (hnx : nx' = if i + 1 = n then nxV 94 else nxV 85) :
    Calls Try.prog 89 #[.pointer (some ⟨q, 0, none⟩)] w fun e w' => e = .returned (.tuple #[]) ∧ Opw G w' A V q (lkC key tr nx' fl t (.slice pa n pc) st vs ((i + 1 : Nat) : Int) (.slice sa 0 c) ref ep pt) ∧ Kp G w w' := by
  have x9 := h.ob.at_ 9 _ rfl
  have x8 := h.ob.at_ 8 _ rfl
  have z8 := h.ob.fz 8 (by show 8 < 13; decide)
  obtain ⟨i1, hi1⟩ : ∃ i1 : Int, i1 = ((i + 1 : Nat) : Int) := ⟨_, rfl⟩
  have hi2 : (i : Int) + 1 = i1 := by omega
  obtain ⟨h1, k1⟩ := h.set 8 (.int .i64 i1) (by show 8 < 13; decide) (C' := lkC key tr nx fl t (.slice pa n pc) st vs i1 (.slice sa 0 c) ref ep pt) rfl
  have H1 := Lib.hid h1
  have K1 := Lib.hid k1
  have b1 : (0 : Int) ≤ (i : Int) := by omega
  have b2 : (i : Int) < 1000 := by omega
  have HI := Lib.hid hi1
  have HI2 := Lib.hid hi2
  have HNX := Lib.hid hnx
  clear h h1 k1 hnx hi1 hi2
  go_enter Try.func89, Try.ntmps89
  go_upto_region 3 with (fail)
  rw [HI2.out]
  generalize hW1 : World.setCell w _ _ = W1 at *
  clear hW1 x8 z8 x9
  have x2 := H1.out.ob.at_ 2 _ rfl
  have z2 := H1.out.ob.fz 2 (by show 2 < 13; decide)
  obtain ⟨h2, k2⟩ := H1.out.set 2 (.func (.func 85) #[] #[]) (by show 2 < 13; decide) (C' := lkC key tr (nxV 85) fl t (.slice pa n pc) st vs i1 (.slice sa 0 c) ref ep pt) rfl
  have H2 := Lib.hid h2
  have K2 := Lib.hid (Kp.to K1.out k2)
  clear h2 k2
  go_upto_region 4 with (fail)
  generalize hW2 : World.setCell W1 _ _ = W2 at *
  clear hW2 x2 z2
  have hd : Below W2.heap.size W2 W2.drew := (Below.refl _ _).drew
  have h3 := H2.out.new hd
  have x8 : W2.drew.cell? ⟨q, 8, none⟩ = some (.int .i64 i1) := h3.ob.at_ 8 _ rfl
  have x5 : W2.drew.cell? ⟨q, 5, none⟩ = some (.slice pa n pc) := h3.ob.at_ 5 _ rfl
  have x2 : W2.drew.cell? ⟨q, 2, none⟩ = some (.func (.func 85) #[] #[]) := h3.ob.at_ 2 _ rfl
  have z2 : W2.drew.frozen? ⟨q, 2, none⟩ = false := h3.ob.fz 2 (by show 2 < 13; decide)
  have H3 := Lib.hid h3
  have K3 := Lib.hid (Kp.to K2.out (Kp.of hd))
  clear h3 hd
  by_cases hb : i + 1 = n
  · have e1 : (i1 == (n : Int)) = true := by have := HI.out; simp; omega
    have e2 : nx' = nxV 94 := by rw [HNX.out, if_pos hb]
    subst e2
    obtain ⟨h7, k7⟩ := H3.out.set 2 (.func (.func 94) #[] #[]) (by show 2 < 13; decide) (C' := lkC key tr (nxV 94) fl t (.slice pa n pc) st vs i1 (.slice sa 0 c) ref ep pt) rfl
    have H7 := Lib.hid (And.intro h7 (Kp.to K3.out k7))
    clear h7 k7 hb
    go_region
    go_wp2_with fail
    go_end0
    rw [← HI.out]
    exact ⟨rfl, H7.out.1, H7.out.2⟩
  · have e1 : (i1 == (n : Int)) = false := by have := HI.out; simp; omega
    have e2 : nx' = nxV 85 := by rw [HNX.out, if_neg hb]
    subst e2
    clear hb
    go_region
    go_wp2_with fail
    go_end0
    rw [← HI.out]
    exact ⟨rfl, H3.out, K3.out⟩
set_option maxHeartbeats 2000000 in
set_option maxRecDepth 100000 in
theorem lk_tags {b k : Int} (h : Opw G w A V q (lkC key tr nx fl t (.slice (some ⟨g, o, none⟩) n c) st vs (i : Int) sl ref ep pt)) (hi : i < n) (hn : n ≤ c) (y1 : w.cell? ⟨g, o + i * 2, none⟩ = some (.int .i64 b)) (y2 : w.cell? ⟨g, o + i * 2 + 1, none⟩ = some (.int .i64 k)) (hg : G g) (hk : key.size ≤ maxLen) (hz : hsl key.data.toList = z) (hzu : isU z) (hta : tagsf b k = a) (hau : isU a) (hc : V.cnt < 1000000000) (hv : V.f a = v) (hs : max 1 (z / 72057594037927936) = s)
    (hon : ∀ w2 B sa sc, w.heap.size ≤ B → Ow G B w2 A (V.acc V.f 1 a v v) q (lkC key tr nx fl t (.slice (some ⟨g, o, none⟩) n c) st vs (i : Int) (.slice sa (hasl v s 4).length sc) ref ep pt) → Rb w2 B (.slice sa (hasl v s 4).length sc) (hasl v s 4).length 1 (ints (hasl v s 4)) → Kp G w w2 → Calls Try.prog 89 #[.pointer (some ⟨q, 0, none⟩)] w2 fun e w' => e = .returned (.tuple #[]) ∧ P w') :
    Calls Try.prog 85 #[.pointer (some ⟨q, 0, none⟩), .pointer (some ⟨A.p, 0, none⟩)] w fun e w' => e = .returned (.tuple #[]) ∧ P w' := by
  have hvu : isU v := hv ▸ h.rng hau
  have hd0 : Below w.heap.size w w.drew := (Below.refl _ _).drew
  have h0 := h.new hd0
  have CT := fun W => tagsw b k W
  rw [hta] at CT
  have CT := Lib.hid CT
  have CL := fun W (hW : Opw G W A V q (lkC key tr nx fl t (.slice (some ⟨g, o, none⟩) n c) st vs (i : Int) sl ref ep pt)) => hW.load hau hc
  rw [hv] at CL
  have CL := Lib.hid CL
  have CH := fun W => hash key W hk
  rw [hz] at CH
  have CH := Lib.hid CH
  have CG := fun W => tag z W hzu.1 (by have := hzu.2; omega)
  rw [hs] at CG
  have CG := Lib.hid CG
  have CS := Lib.hid (fun W => hasw v s W (by rw [← hs]; omega) hvu.1 (by have := hvu.2; omega))
  have HON := Lib.hid hon
  have HG := Lib.hid hg
  have c0 : w.drew.cell? ⟨A.p, 0, none⟩ = some (.pointer (some ⟨A.pc, 0, none⟩)) := h0.box.c0
  have x5 : w.drew.cell? ⟨q, 5, none⟩ = some (.slice (some ⟨g, o, none⟩) n c) := h0.ob.at_ 5 _ rfl
  have x8 : w.drew.cell? ⟨q, 8, none⟩ = some (.int .i64 (i : Int)) := h0.ob.at_ 8 _ rfl
  have xa : w.drew.cell? ⟨g, o + i * 2, none⟩ = some (.int .i64 b) := y1
  have xb : w.drew.cell? ⟨g, o + i * 2 + 1, none⟩ = some (.int .i64 k) := y2
  have j1 : (0 : Int) ≤ (i : Int) := by omega
  have j2 : (i : Int) < (n : Int) := by omega
  have H0 := Lib.hid h0
  have KD := Lib.hid (show Kp G w w.drew from Kp.of hd0)
  generalize hV1 : V.acc V.f 1 a v v = V1 at *
  clear h h0 hon hg hv hvu hd0 hs hta hz hzu y1 y2 hau hV1
  go_enter Try.func85, Try.ntmps85
  go_wp2_with fail
  go_region_held3 (fun X => X.cell? ⟨A.p, 0, none⟩ = some (.pointer (some ⟨A.pc, 0, none⟩)) ∧ X.cell? ⟨q, 5, none⟩ = some (.slice (some ⟨g, o, none⟩) n c) ∧ X.cell? ⟨q, 8, none⟩ = some (.int .i64 (i : Int)) ∧ X.cell? ⟨g, o + i * 2, none⟩ = some (.int .i64 b) ∧ X.cell? ⟨g, o + i * 2 + 1, none⟩ = some (.int .i64 k))
    (first | exact ⟨by assumption, by assumption, by assumption, by assumption, by assumption⟩)
    (first
      | (go_at_call 87; ((with_reducible refine (CT.out _).mono ?_); rintro e w1 ⟨rfl, b1⟩; have h1 := H0.out.new b1; replace c0 := h1.box.c0; replace x5 := h1.ob.at_ 5 _ rfl; replace x8 := h1.ob.at_ 8 _ rfl; replace xa := (Kp.of (G := G) b1).cell (p := ⟨g, o + i * 2, none⟩) (fun n => n HG.out) xa; replace xb := (Kp.of (G := G) b1).cell (p := ⟨g, o + i * 2 + 1, none⟩) (fun n => n HG.out) xb; have C1 := Lib.hid (CL.out _ h1); have K1 := Lib.hid (Kp.to KD.out (Kp.of b1)); clear h1 b1))
      | (go_at_call 63; ((with_reducible refine C1.out.mono ?_); rintro e w2 ⟨rfl, h1, k1⟩; replace c0 := h1.box.c0; replace x5 := h1.ob.at_ 5 _ rfl; replace x8 := h1.ob.at_ 8 _ rfl; replace xa := k1.cell (p := ⟨g, o + i * 2, none⟩) (fun n => n HG.out) xa; replace xb := k1.cell (p := ⟨g, o + i * 2 + 1, none⟩) (fun n => n HG.out) xb; have H2 := Lib.hid (Ow.of h1); have K2 := Lib.hid (Kp.to K1.out k1); clear h1 k1 C1 K1)))
  clear c0 x5 x8 xa xb
  have HBS := Lib.hid (show w.heap.size ≤ w2.heap.size from K2.out.size)
  obtain ⟨B, hB⟩ : ∃ B, B = w2.heap.size := ⟨_, rfl⟩
  rw [← hB] at HBS H2
  have HSB := Lib.hid (show B ≤ w2.heap.size by omega)
  clear hB
  have x0 := H2.out.op.ob.at_ 0 _ rfl
  go_upto_region 2 with (first
    | (go_at_call 27; ((with_reducible refine (CH.out _).mono ?_); rintro e w3 ⟨rfl, b3⟩; have H3 := Lib.hid (H2.out.ext b3); have K3 := Lib.hid (Kp.to K2.out (Kp.of b3)); clear b3 x0))
    | (go_at_call 72; ((with_reducible refine (CG.out _).mono ?_); rintro e w4 ⟨rfl, rfl⟩))
    | (go_at_call 88; ((with_reducible refine (CS.out _).mono ?_); rintro e w5 ⟨sl', rfl, l5, b5⟩; obtain ⟨sa, sc, hsl⟩ := lst_slice l5; subst hsl; have h5 := H3.out.ext b5; have x9 := h5.op.ob.at_ 9 _ rfl; have z9 := h5.op.ob.fz 9 (by show 9 < 13; decide); have R5 := Lib.hid (Rb.of_lst (B := B) l5 H3.out.1.1); have H5 := Lib.hid h5; have K5 := Lib.hid (Kp.to K3.out (Kp.of b5)); clear h5 l5 b5)))
  obtain ⟨h6, k6⟩ := H5.out.set 9 (.slice sa (hasl v s 4).length sc) (by show 9 < 13; decide) (C' := lkC key tr nx fl t (.slice (some ⟨g, o, none⟩) n c) st vs (i : Int) (.slice sa (hasl v s 4).length sc) ref ep pt) rfl
  have CC := Lib.hid (HON.out _ B sa sc HBS.out h6 (Rb.set (i := 9) R5.out h6.1.2 (.slice sa (hasl v s 4).length sc)) (Kp.to K5.out k6))
  clear h6 k6
  generalize hW6 : World.setCell w5 _ _ = W6 at *
  clear hW6 x9 z9
  go_wp2_with (go_at_call 89; ((with_reducible refine CC.out.mono ?_); rintro e w7 ⟨rfl, h7⟩; have H7 := Lib.hid h7; clear h7))
  go_end0
  exact ⟨rfl, H7.out⟩
end
end Go.Proofs.Ytepkpbhhiianpaa
/- Next: Looks: the program's; what is looked at again. -/
namespace Go.Proofs.Ytepkpbhhiianpaa
open Go.RowKit Go.Maps
set_option linter.unusedVariables false
section
variable {G : Nat → Prop} {w : World} {A : Ad} {V : Wv} {q : Nat} {key : ByteArray} {tr t ref ep pt : Int} {fl : Bool} {pl st vs sl nx : Value} {g o n c i g2 d vc : Nat} {a v x : Int} {P : World → Prop}
set_option maxHeartbeats 2000000 in
set_option maxRecDepth 100000 in
theorem lk_ct {j : Int} (h : Opw G w A V q (lkC key tr nx fl t pl st vs j sl ref ep pt)) (hc : V.cnt < 1000000000) (hv : V.f 2 = t) :
    Calls Try.prog 94 #[.pointer (some ⟨q, 0, none⟩), .pointer (some ⟨A.p, 0, none⟩)] w fun e w' => e = .returned (.tuple #[]) ∧ Opw G w' A (V.acc V.f 1 2 t t) q (lkC key tr (nxV 97) fl t pl st vs 0 sl ref ep pt) ∧ Kp G w w' := by
  have hd0 : Below w.heap.size w w.drew := (Below.refl _ _).drew
  have h0 := h.new hd0
  have CL := h0.load (a := 2) ⟨by decide, by decide⟩ hc
  rw [hv] at CL
  have CL := Lib.hid CL
  have c0 : w.drew.cell? ⟨A.p, 0, none⟩ = some (.pointer (some ⟨A.pc, 0, none⟩)) := h0.box.c0
  have x4 : w.drew.cell? ⟨q, 4, none⟩ = some (.int .u64 t) := h0.ob.at_ 4 _ rfl
  have KD := Lib.hid (show Kp G w w.drew from Kp.of hd0)
  have hb : (t != t) = false := by simp
  generalize V.acc V.f 1 2 t t = V1 at *
  clear h h0 hv hd0
  go_enter Try.func94, Try.ntmps94
  go_wp2_with fail
  go_region_held3 (fun X => X.cell? ⟨A.p, 0, none⟩ = some (.pointer (some ⟨A.pc, 0, none⟩)) ∧ X.cell? ⟨q, 4, none⟩ = some (.int .u64 t))
    (first | exact ⟨by assumption, by assumption⟩)
    (first
      | (go_at_call 63; ((with_reducible refine CL.out.mono ?_); rintro e w1 ⟨rfl, h1, k1⟩; replace c0 := h1.box.c0; replace x4 := h1.ob.at_ 4 _ rfl; have x8 := h1.ob.at_ 8 _ rfl; have z8 := h1.ob.fz 8 (by show 8 < 13; decide); have x2 := h1.ob.at_ 2 _ rfl; have z2 := h1.ob.fz 2 (by show 2 < 13; decide); have H1 := Lib.hid h1; have K1 := Lib.hid (Kp.to KD.out k1); clear h1 k1)))
  obtain ⟨h5, k5⟩ := H1.out.set 8 (.int .i64 0) (by show 8 < 13; decide) (C' := lkC key tr nx fl t pl st vs 0 sl ref ep pt) rfl
  obtain ⟨h6, k6⟩ := h5.set 2 (nxV 97) (by show 2 < 13; decide) (C' := lkC key tr (nxV 97) fl t pl st vs 0 sl ref ep pt) rfl
  have FIN := Lib.hid (And.intro h6 (Kp.to (Kp.to K1.out k5) k6))
  clear h5 k5 h6 k6
  go_wp2_with fail
  go_end0
  exact ⟨rfl, FIN.out.1, FIN.out.2⟩
set_option maxHeartbeats 2000000 in
set_option maxRecDepth 100000 in
theorem lk_ct_no {j : Int} (h : Opw G w A V q (lkC key tr nx fl t pl st vs j sl ref ep pt)) (hc : V.cnt < 1000000000) (hv : V.f 2 = v) (hne : (v != t) = true)
    (hs : ∀ w1, Opw G w1 A (V.acc V.f 1 2 v v) q (lkC key tr nx fl t pl st vs j sl ref ep pt) → Kp G w w1 → Calls Try.prog 81 #[.pointer (some ⟨q, 0, none⟩), .pointer (some ⟨A.p, 0, none⟩)] w1 fun e w' => e = .returned (.tuple #[]) ∧ P w') :
    Calls Try.prog 94 #[.pointer (some ⟨q, 0, none⟩), .pointer (some ⟨A.p, 0, none⟩)] w fun e w' => e = .returned (.tuple #[]) ∧ P w' := by
  have hd0 : Below w.heap.size w w.drew := (Below.refl _ _).drew
  have h0 := h.new hd0
  have CL := h0.load (a := 2) ⟨by decide, by decide⟩ hc
  rw [hv] at CL
  have CL := Lib.hid CL
  have HS := Lib.hid hs
  have c0 : w.drew.cell? ⟨A.p, 0, none⟩ = some (.pointer (some ⟨A.pc, 0, none⟩)) := h0.box.c0
  have x4 : w.drew.cell? ⟨q, 4, none⟩ = some (.int .u64 t) := h0.ob.at_ 4 _ rfl
  have KD := Lib.hid (show Kp G w w.drew from Kp.of hd0)
  generalize V.acc V.f 1 2 v v = V1 at *
  clear h h0 hv hd0 hs
  go_enter Try.func94, Try.ntmps94
  go_wp2_with fail
  go_region_held3 (fun X => X.cell? ⟨A.p, 0, none⟩ = some (.pointer (some ⟨A.pc, 0, none⟩)) ∧ X.cell? ⟨q, 4, none⟩ = some (.int .u64 t))
    (first | exact ⟨by assumption, by assumption⟩)
    (first
      | (go_at_call 63; ((with_reducible refine CL.out.mono ?_); rintro e w1 ⟨rfl, h1, k1⟩; replace c0 := h1.box.c0; replace x4 := h1.ob.at_ 4 _ rfl; have CA := Lib.hid (HS.out _ h1 (Kp.to KD.out k1)); clear h1 k1)))
  clear c0 x4
  go_wp2_with (go_at_call 81; ((with_reducible refine CA.out.mono ?_); rintro e w3 ⟨rfl, h3⟩; have H3 := Lib.hid h3; clear h3))
  exact bodyPost_ret (v := .tuple #[]) (by simp [results, Try.results94, go_sem]) rfl ⟨rfl, H3.out⟩
set_option maxHeartbeats 2000000 in
set_option maxRecDepth 100000 in
theorem lk_cv (h : Opw G w A V q (lkC key tr (nxV 97) fl t pl (.slice (some ⟨g, o, none⟩) n c) (.slice (some ⟨g2, 0, none⟩) d vc) (i : Int) sl ref ep pt)) (hi : i < n) (hi2 : i < d) (hn : n ≤ c) (hd : d ≤ vc) (hM : n ≤ 1000) (y1 : w.cell? ⟨g, o + i, none⟩ = some (.int .u64 a)) (y2 : w.cell? ⟨g2, i, none⟩ = some (.int .u64 v)) (hg : G g ∧ G g2) (ha : isU a) (hc : V.cnt < 1000000000) (hv : V.f a = v) {nx' : Value} (hnx : nx' = if i + 1 = n then .nilFunc else nxV 97) :
    Calls Try.prog 97 #[.pointer (some ⟨q, 0, none⟩), .pointer (some ⟨A.p, 0, none⟩)] w fun e w' => e = .returned (.tuple #[]) ∧ Opw G w' A (V.acc V.f 1 a v v) q (lkC key tr nx' fl t pl (.slice (some ⟨g, o, none⟩) n c) (.slice (some ⟨g2, 0, none⟩) d vc) ((i + 1 : Nat) : Int) sl ref ep pt) ∧ Kp G w w' := by
  have hd0 : Below w.heap.size w w.drew := (Below.refl _ _).drew
  have h0 := h.new hd0
  have CL := h0.load ha hc
  rw [hv] at CL
  have CL := Lib.hid CL
  have HG := Lib.hid hg
  have HNX := Lib.hid hnx
  have c0 : w.drew.cell? ⟨A.p, 0, none⟩ = some (.pointer (some ⟨A.pc, 0, none⟩)) := h0.box.c0
  have x6 : w.drew.cell? ⟨q, 6, none⟩ = some (.slice (some ⟨g, o, none⟩) n c) := h0.ob.at_ 6 _ rfl
  have x7 : w.drew.cell? ⟨q, 7, none⟩ = some (.slice (some ⟨g2, 0, none⟩) d vc) := h0.ob.at_ 7 _ rfl
  have x8 : w.drew.cell? ⟨q, 8, none⟩ = some (.int .i64 (i : Int)) := h0.ob.at_ 8 _ rfl
  have xa : w.drew.cell? ⟨g, o + i, none⟩ = some (.int .u64 a) := y1
  have xb : w.drew.cell? ⟨g2, i, none⟩ = some (.int .u64 v) := y2
  have j1 : (0 : Int) ≤ (i : Int) := by omega
  have j2 : (i : Int) < (n : Int) := by omega
  have j3 : (i : Int) < (d : Int) := by omega
  have j4 : (i : Int) < 1000 := by omega
  have hb : (v != v) = false := by simp
  have KD := Lib.hid (show Kp G w w.drew from Kp.of hd0)
  generalize V.acc V.f 1 a v v = V1 at *
  clear h h0 hv hd0 hg y1 y2 hnx
  go_enter Try.func97, Try.ntmps97
  go_wp2_with fail
  go_region_held3 (fun X => X.cell? ⟨A.p, 0, none⟩ = some (.pointer (some ⟨A.pc, 0, none⟩)) ∧ X.cell? ⟨q, 6, none⟩ = some (.slice (some ⟨g, o, none⟩) n c) ∧ X.cell? ⟨q, 7, none⟩ = some (.slice (some ⟨g2, 0, none⟩) d vc) ∧ X.cell? ⟨q, 8, none⟩ = some (.int .i64 (i : Int)) ∧ X.cell? ⟨g, o + i, none⟩ = some (.int .u64 a) ∧ X.cell? ⟨g2, i, none⟩ = some (.int .u64 v))
    (first | exact ⟨by assumption, by assumption, by assumption, by assumption, by assumption, by assumption⟩)
    (first
      | (go_at_call 63; ((with_reducible refine CL.out.mono ?_); rintro e w1 ⟨rfl, h1, k1⟩; replace c0 := h1.box.c0; replace x6 := h1.ob.at_ 6 _ rfl; replace x7 := h1.ob.at_ 7 _ rfl; replace x8 := h1.ob.at_ 8 _ rfl; replace xa := k1.cell (p := ⟨g, o + i, none⟩) (fun n => n HG.out.1) xa; replace xb := k1.cell (p := ⟨g2, i, none⟩) (fun n => n HG.out.2) xb; have z8 := h1.ob.fz 8 (by show 8 < 13; decide); have H1 := Lib.hid h1; have K1 := Lib.hid (Kp.to KD.out k1); clear h1 k1)))
  clear c0 x6 x7 xa xb
  obtain ⟨i1, hi1⟩ : ∃ i1 : Int, i1 = ((i + 1 : Nat) : Int) := ⟨_, rfl⟩
  have HI2 := Lib.hid (show (i : Int) + 1 = i1 by omega)
  have HI := Lib.hid hi1
  obtain ⟨h5, k5⟩ := H1.out.set 8 (.int .i64 i1) (by show 8 < 13; decide) (C' := lkC key tr (nxV 97) fl t pl (.slice (some ⟨g, o, none⟩) n c) (.slice (some ⟨g2, 0, none⟩) d vc) i1 sl ref ep pt) rfl
  have H5 := Lib.hid h5
  have K5 := Lib.hid (Kp.to K1.out k5)
  clear h5 k5 hi1
  go_upto_region 3 with (fail)
  rw [HI2.out]
  generalize hW5 : World.setCell _ _ _ = W5 at *
  clear hW5 x8 z8
  have hd5 : Below W5.heap.size W5 W5.drew := (Below.refl _ _).drew
  have h6 := H5.out.new hd5
  have x8 : W5.drew.cell? ⟨q, 8, none⟩ = some (.int .i64 i1) := h6.ob.at_ 8 _ rfl
  have x6 : W5.drew.cell? ⟨q, 6, none⟩ = some (.slice (some ⟨g, o, none⟩) n c) := h6.ob.at_ 6 _ rfl
  have x2 : W5.drew.cell? ⟨q, 2, none⟩ = some (.func (.func 97) #[] #[]) := h6.ob.at_ 2 _ rfl
  have z2 : W5.drew.frozen? ⟨q, 2, none⟩ = false := h6.ob.fz 2 (by show 2 < 13; decide)
  have H6 := Lib.hid h6
  have K6 := Lib.hid (Kp.to K5.out (Kp.of hd5))
  clear h6 hd5
  by_cases hb : i + 1 = n
  · have e1 : (i1 == (n : Int)) = true := by have := HI.out; simp; omega
    have e2 : nx' = .nilFunc := by rw [HNX.out, if_pos hb]
    subst e2
    obtain ⟨h7, k7⟩ := H6.out.set 2 .nilFunc (by show 2 < 13; decide) (C' := lkC key tr .nilFunc fl t pl (.slice (some ⟨g, o, none⟩) n c) (.slice (some ⟨g2, 0, none⟩) d vc) i1 sl ref ep pt) rfl
    have H7 := Lib.hid (And.intro h7 (Kp.to K6.out k7))
    clear h7 k7 hb
    go_region
    go_wp2_with fail
    go_end0
    rw [← HI.out]
    exact ⟨rfl, H7.out.1, H7.out.2⟩
  · have e1 : (i1 == (n : Int)) = false := by have := HI.out; simp; omega
    have e2 : nx' = nxV 97 := by rw [HNX.out, if_neg hb]
    subst e2
    clear hb
    go_region
    go_wp2_with fail
    go_end0
    rw [← HI.out]
    exact ⟨rfl, H6.out, K6.out⟩
set_option maxHeartbeats 2000000 in
set_option maxRecDepth 100000 in
theorem lk_cv_no (h : Opw G w A V q (lkC key tr nx fl t pl (.slice (some ⟨g, o, none⟩) n c) (.slice (some ⟨g2, 0, none⟩) d vc) (i : Int) sl ref ep pt)) (hi : i < n) (hi2 : i < d) (hn : n ≤ c) (hd : d ≤ vc) (y1 : w.cell? ⟨g, o + i, none⟩ = some (.int .u64 a)) (y2 : w.cell? ⟨g2, i, none⟩ = some (.int .u64 x)) (hg : G g ∧ G g2) (ha : isU a) (hc : V.cnt < 1000000000) (hv : V.f a = v) (hne : (v != x) = true)
    (hs : ∀ w1, Opw G w1 A (V.acc V.f 1 a v v) q (lkC key tr nx fl t pl (.slice (some ⟨g, o, none⟩) n c) (.slice (some ⟨g2, 0, none⟩) d vc) (i : Int) sl ref ep pt) → Kp G w w1 → Calls Try.prog 81 #[.pointer (some ⟨q, 0, none⟩), .pointer (some ⟨A.p, 0, none⟩)] w1 fun e w' => e = .returned (.tuple #[]) ∧ P w') :
    Calls Try.prog 97 #[.pointer (some ⟨q, 0, none⟩), .pointer (some ⟨A.p, 0, none⟩)] w fun e w' => e = .returned (.tuple #[]) ∧ P w' := by
  have hd0 : Below w.heap.size w w.drew := (Below.refl _ _).drew
  have h0 := h.new hd0
  have CL := h0.load ha hc
  rw [hv] at CL
  have CL := Lib.hid CL
  have HG := Lib.hid hg
  have HS := Lib.hid hs
  have c0 : w.drew.cell? ⟨A.p, 0, none⟩ = some (.pointer (some ⟨A.pc, 0, none⟩)) := h0.box.c0
  have x6 : w.drew.cell? ⟨q, 6, none⟩ = some (.slice (some ⟨g, o, none⟩) n c) := h0.ob.at_ 6 _ rfl
  have x7 : w.drew.cell? ⟨q, 7, none⟩ = some (.slice (some ⟨g2, 0, none⟩) d vc) := h0.ob.at_ 7 _ rfl
  have x8 : w.drew.cell? ⟨q, 8, none⟩ = some (.int .i64 (i : Int)) := h0.ob.at_ 8 _ rfl
  have xa : w.drew.cell? ⟨g, o + i, none⟩ = some (.int .u64 a) := y1
  have xb : w.drew.cell? ⟨g2, i, none⟩ = some (.int .u64 x) := y2
  have j1 : (0 : Int) ≤ (i : Int) := by omega
  have j2 : (i : Int) < (n : Int) := by omega
  have j3 : (i : Int) < (d : Int) := by omega
  have KD := Lib.hid (show Kp G w w.drew from Kp.of hd0)
  generalize V.acc V.f 1 a v v = V1 at *
  clear h h0 hv hd0 hg y1 y2 hs
  go_enter Try.func97, Try.ntmps97
  go_wp2_with fail
  go_region_held3 (fun X => X.cell? ⟨A.p, 0, none⟩ = some (.pointer (some ⟨A.pc, 0, none⟩)) ∧ X.cell? ⟨q, 6, none⟩ = some (.slice (some ⟨g, o, none⟩) n c) ∧ X.cell? ⟨q, 7, none⟩ = some (.slice (some ⟨g2, 0, none⟩) d vc) ∧ X.cell? ⟨q, 8, none⟩ = some (.int .i64 (i : Int)) ∧ X.cell? ⟨g, o + i, none⟩ = some (.int .u64 a) ∧ X.cell? ⟨g2, i, none⟩ = some (.int .u64 x))
    (first | exact ⟨by assumption, by assumption, by assumption, by assumption, by assumption, by assumption⟩)
    (first
      | (go_at_call 63; ((with_reducible refine CL.out.mono ?_); rintro e w1 ⟨rfl, h1, k1⟩; replace c0 := h1.box.c0; replace x6 := h1.ob.at_ 6 _ rfl; replace x7 := h1.ob.at_ 7 _ rfl; replace x8 := h1.ob.at_ 8 _ rfl; replace xa := k1.cell (p := ⟨g, o + i, none⟩) (fun n => n HG.out.1) xa; replace xb := k1.cell (p := ⟨g2, i, none⟩) (fun n => n HG.out.2) xb; have CA := Lib.hid (HS.out _ h1 (Kp.to KD.out k1)); clear h1 k1)))
  clear c0 x6 x7 x8 xa xb
  go_wp2_with (go_at_call 81; ((with_reducible refine CA.out.mono ?_); rintro e w3 ⟨rfl, h3⟩; have H3 := Lib.hid h3; clear h3))
  exact bodyPost_ret (v := .tuple #[]) (by simp [results, Try.results97, go_sem]) rfl ⟨rfl, H3.out⟩
end
end Go.Proofs.Ytepkpbhhiianpaa
/- Next: Looks: the program's; each step, of what a Look holds. -/
namespace Go.Proofs.Ytepkpbhhiianpaa
open Go.RowKit Go.Maps
set_option linter.unusedVariables false
section
variable {G : Nat → Prop} {w W : World} {A : Ad} {V : Wv} {q : Nat} {key : ByteArray} {nx : Value} {f : FuncId} {x : Lk} {a v t z s : Int}
theorem LkO.wd (h : LkO G w A V q key nx x) : WdG (fun k => G k ∨ k = q) w A V := by
  obtain ⟨U, Z, pl, st, vs, sl, ho, hU, hZ, hr, hown, hvz⟩ := h
  exact (ow_less (G' := G) ho (fun j g => .inl (.inl g))).wdG
theorem LkO.box (h : LkO G w A V q key nx x) : IsBox w A V.c V.tk V.h := by
  obtain ⟨U, Z, pl, st, vs, sl, ho, -⟩ := h
  exact ho.box
theorem LkO.rng (h : LkO G w A V q key nx x) {a : Int} (ha : isU a) : isU (V.f a) := by
  obtain ⟨U, Z, pl, st, vs, sl, ho, -⟩ := h
  exact ho.rng ha
theorem LkO.over (h : LkO G w A V q key .nilFunc x) : Calls Try.prog 69 #[.pointer (some ⟨q, 0, none⟩)] w fun e w' => e = .returned (.bool true) ∧ w = w' := by
  obtain ⟨U, Z, pl, st, vs, sl, ho, -⟩ := h
  exact lk_over ho.ob
theorem LkO.overn (h : LkO G w A V q key (nxV f) x) : Calls Try.prog 69 #[.pointer (some ⟨q, 0, none⟩)] w fun e w' => e = .returned (.bool false) ∧ w = w' := by
  obtain ⟨U, Z, pl, st, vs, sl, ho, -⟩ := h
  exact lk_overn ho.ob
theorem LkO.fails (h : LkO G w A V q key nx x) : Calls Try.prog 34 #[.pointer (some ⟨q, 0, none⟩)] w fun e w' => e = .returned (.bool x.fl) ∧ w = w' := by
  obtain ⟨U, Z, pl, st, vs, sl, ho, -⟩ := h
  exact lk_fails ho.ob
theorem LkO.got (h : LkO G w A V q key .nilFunc x) (hf : x.fl = false) : Calls Try.prog 50 #[.pointer (some ⟨q, 0, none⟩)] w fun e w' => e = .returned (gotV x.ref x.ep x.pt) ∧ Below w.heap.size w w' := by
  obtain ⟨U, Z, pl, st, vs, sl, ho, -⟩ := h
  rw [hf] at ho
  exact lk_got ho.ob
theorem LkO.new (h : LkO G w A V q key nx x) (hb : Below w.heap.size w W) : LkO G W A V q key nx x := by
  obtain ⟨U, Z, pl, st, vs, sl, ho, hU, hZ, ⟨rp, rs, rl⟩, hown, hvz⟩ := h
  have k : Keeps (fun _ => False) w W := Keeps.of_new hb
  exact ⟨U, Z, pl, st, vs, sl, ho.new hb, hU, hZ, ⟨rp.keep k (fun _ _ s => s), rs.keep k (fun _ _ s => s), rl.keep k (fun _ _ s => s)⟩, Keeps.ownsRow hown k (fun _ _ s => s), hvz⟩
/-- A new Look. -/
theorem lkO_first {tr : Int} (h : WdG G w A V) (ho : Ob W q (lk0 key tr)) (hq : w.heap.size ≤ q) (hb : Below w.heap.size w W) : LkO G W A V q key (nxV 55) ⟨tr, false, 0, [], [], [], 0, [], 0, 0, 0⟩ := by
  obtain ⟨S, h1, h2, h3⟩ := h
  have hl := ho.lt
  refine ⟨fun _ => False, fun _ => False, .slice none 0 0, .slice none 0 0, .slice none 0 0, .slice none 0 0, ⟨S, h1.new hb, fun k g s => ?_, fun s => ?_, ho, fun g => ?_, fun k g => ?_⟩, fun j h => h.elim, fun j h => h.elim, ⟨R0.nil _ _ _, R0.nil _ _ _, R0.nil _ _ _⟩, World.ownsRow_nil _ _ _ _, fun g hg => by simp [Value.ownBlock] at hg⟩
  · rcases g with (g | g) | g
    · exact h2 k g s
    · exact g
    · exact g
  · have := h1.lt _ s; omega
  · rcases g with (g | g) | g
    · have := h3 _ g; omega
    · exact g
    · exact g
  · rcases g with (g | g) | g
    · exact Nat.lt_of_lt_of_le (h3 k g) hb.size
    · exact g.elim
    · exact g.elim
theorem lkO_tables (h : LkO G w A V q key (nxV 55) x) (hc : V.cnt < 1000000000) (hk : key.size ≤ maxLen) (ht : V.f 2 = t) (hz : hsl key.data.toList = z) (hzu : isU z) :
    Calls Try.prog 126 #[.pointer (some ⟨q, 0, none⟩), .pointer (some ⟨A.p, 0, none⟩)] w fun e w' => e = .returned (.bool false) ∧ LkO G w' A (V.acc V.f 1 2 t t) q key (nxV 75) { x with t := t, P := placesF z t, S := strsF (placesF z t), D := [] } ∧ Kp G w w' := by
  obtain ⟨U, Z, pl, st, vs, sl, ho, hU, hZ, ⟨rp, rs, rl⟩, hown, hvz⟩ := h
  refine lk_st_loadTables ho.ob ((lk_tables ho hc hk ht hz hzu).mono ?_) ?_
  · rintro e w' ⟨he, B, pl', st', hB, hO, rp', rs', hk'⟩
    have hlt := ow_lt ho
    refine ⟨he, ⟨fun j => U j ∨ (B ≤ j ∧ j < w'.heap.size), fun _ => False, pl', st', .slice none 0 0, sl, ow_less hO.2 (fun j g => ?_), fun j u g => ?_, fun j u => u.elim, ⟨rp'.mono (fun g u => .inr u), rs'.mono (fun g u => .inr u), (rl.keep hk' (fun g u n => n (.inl (.inr u)))).mono (fun g u => .inl u)⟩, World.ownsRow_nil _ _ _ _, fun g hg => by simp [Value.ownBlock] at hg⟩, hk'.less (fun j g => .inl (.inl g))⟩
    · rcases g with (g | g | g) | g
      · exact .inl (.inl (.inl g))
      · exact .inl (.inl (.inr g))
      · exact .inr g
      · exact g.elim
    · rcases u with u | u
      · exact hU j u g
      · have := hlt j (.inl (.inl g)); omega
  · rintro w' ⟨h', -⟩
    exact h'.overn
theorem own_slice {w : World} {B e size n : Nat} {v : Value} {xs : List Value} (h : w.ownsRow B e size v n xs) : ∃ a c, v = .slice a n c := by
  obtain ⟨hl, ⟨rfl, rfl⟩ | ⟨g, c, cur, rfl, -⟩⟩ := h
  · exact ⟨_, _, rfl⟩
  · exact ⟨_, _, rfl⟩
theorem lkO_ver {nx' : Value} (h : LkO G w A V q key (nxV 75) x) (ha : isU a) (hx : x.S[x.D.length]? = some a) (hM : x.S.length ≤ 1000) (hc : V.cnt < 1000000000) (hv : V.f a = v) (hodd : (v % 2 == 1) = false) (hnx : nx' = if x.D.length + 1 = x.S.length then nxV 82 else nxV 75) :
    Calls Try.prog 126 #[.pointer (some ⟨q, 0, none⟩), .pointer (some ⟨A.p, 0, none⟩)] w fun e w' => e = .returned (.bool false) ∧ LkO G w' A (V.acc V.f 1 a v v) q key nx' { x with D := x.D ++ [v] } ∧ Kp G w w' := by
  obtain ⟨U, Z, pl, st, vs, sl, ho, hU, hZ, ⟨rp, rs, rl⟩, hown, hvz⟩ := h
  have hlt := ow_lt ho
  have hd : x.D.length < x.S.length := (List.getElem?_eq_some_iff.1 hx).1
  obtain ⟨g, o, c, rfl, hn, hcm, hu, hat⟩ := rs.at_ hd
  obtain ⟨va, vc, rfl⟩ := own_slice hown
  have hcell : w.cell? ⟨g, o + x.D.length, none⟩ = some (.int .u64 a) := hat _ _ (rowsU_at hx)
  have hne : ∀ j, U j → ¬ (Value.slice va x.D.length vc).ownBlock = some j := fun j u e => (hZ j (hvz j e)).2 u
  refine lk_st_loadVersion ho.ob ((lk_ver ho hd hn hM hcell ⟨.inl (.inr hu), hne g hu⟩ ha hc hv hodd rfl hown (fun j e => .inr (hvz j e)) hnx).mono ?_) ?_
  · rintro e w' ⟨he, b, c', hO, hrow, hb, hk'⟩
    have hU' : ∀ j, U j → ¬ ¬ (((G j ∨ U j) ∨ Z j) ∧ ¬ (Value.slice va x.D.length vc).ownBlock = some j) := fun j u n => n ⟨.inl (.inr u), hne j u⟩
    refine ⟨he, ⟨U, fun j => j = b, pl, _, _, sl, ow_less hO (fun j g => ?_), hU, fun j e => ?_, ⟨rp.keep hk' hU', rs.keep hk' hU', rl.keep hk' hU'⟩, hrow, fun j hj => by simp [Value.ownBlock] at hj; exact hj.symm⟩, hk'.less (fun j g => ⟨.inl (.inl g), fun e => (hZ j (hvz j e)).1 g⟩)⟩
    · rcases g with (g | g) | g
      · exact .inl (.inl (.inl g))
      · exact .inl (.inl (.inr g))
      · exact .inr g
    · subst e
      rcases hb with hb | hb
      · exact hZ j (hvz j hb)
      · exact ⟨fun g => by have := hlt j (.inl (.inl g)); omega, fun u => by have := hlt j (.inl (.inr u)); omega⟩
  · rintro w' ⟨h', -⟩
    rw [hnx] at h'
    split at h'
    · exact h'.overn
    · exact h'.overn
/-- Another try: what it leaves. -/
def agV (V : Wv) (x : Lk) : Wv := if x.tr < 1 then V else V.note (V.cnt, V.h, 6, 0, 0, 0, 0, x.tr - 1)
def agX (x : Lk) : Lk := if x.tr < 1 then { x with fl := true, ref := 0 } else { x with tr := x.tr - 1, ref := 0 }
def agN (x : Lk) : Value := if x.tr < 1 then .nilFunc else nxV 55
theorem lk_ag {pl st vs sl : Value} (h : Opw G w A V q (lkC key x.tr nx x.fl x.t pl st vs x.i sl x.ref x.ep x.pt)) (ht2 : x.tr ≤ 9223372036854775807) (hM : V.M.length ≤ 1048576) :
    Calls Try.prog 81 #[.pointer (some ⟨q, 0, none⟩), .pointer (some ⟨A.p, 0, none⟩)] w fun e w' => e = .returned (.tuple #[]) ∧ Opw G w' A (agV V x) q (lkC key (agX x).tr (agN x) (agX x).fl x.t pl st vs x.i sl 0 x.ep x.pt) ∧ Kp G w w' := by
  unfold agV agX agN
  by_cases ht : x.tr < 1
  · rw [if_pos ht, if_pos ht, if_pos ht]
    exact lk_again0 h ht _
  · rw [if_neg ht, if_neg ht, if_neg ht]
    exact lk_again h (by omega) ht2 hM rfl
theorem agX_same (x : Lk) : (agX x).t = x.t ∧ (agX x).P = x.P ∧ (agX x).S = x.S ∧ (agX x).D = x.D ∧ (agX x).i = x.i ∧ (agX x).L = x.L ∧ (agX x).ref = 0 ∧ (agX x).ep = x.ep ∧ (agX x).pt = x.pt := by
  unfold agX
  split <;> exact ⟨rfl, rfl, rfl, rfl, rfl, rfl, rfl, rfl, rfl⟩
theorem LkO.overg (h : LkO G w A V q key (agN x) (agX x)) : Calls Try.prog 69 #[.pointer (some ⟨q, 0, none⟩)] w fun e w' => e = .returned (.bool (decide (x.tr < 1))) ∧ w = w' := by
  unfold agN at h
  by_cases ht : x.tr < 1
  · rw [if_pos ht] at h
    rw [decide_eq_true ht]
    exact h.over
  · rw [if_neg ht] at h
    rw [decide_eq_false ht]
    exact h.overn
/-- What is kept over an access and another try. -/
theorem lkO_ag {U Z : Nat → Prop} {pl st vs sl : Value} {V1 : Wv} {w1 w2 : World} {e : Ending} (hU : ∀ j, U j → ¬ G j) (hZ : ∀ j, Z j → ¬ G j ∧ ¬ U j) (hr : R0 w U pl x.P.length 2 (rowsP x.P) ∧ R0 w U st x.S.length 1 (rowsU x.S) ∧ R0 w U sl x.L.length 1 (ints x.L)) (hown : w.ownsRow 0 22 1 vs x.D.length (rowsU x.D)) (hvz : ∀ g, vs.ownBlock = some g → Z g)
    (h1 : Kp (fun j => (G j ∨ U j) ∨ Z j) w w1) (h : e = .returned (.tuple #[]) ∧ Opw (fun j => (G j ∨ U j) ∨ Z j) w2 A (agV V1 x) q (lkC key (agX x).tr (agN x) (agX x).fl x.t pl st vs x.i sl 0 x.ep x.pt) ∧ Kp (fun j => (G j ∨ U j) ∨ Z j) w1 w2) :
    e = .returned (.tuple #[]) ∧ LkO G w2 A (agV V1 x) q key (agN x) (agX x) ∧ Kp G w w2 := by
  obtain ⟨he, ho, hk⟩ := h
  obtain ⟨rp, rs, rl⟩ := hr
  have k := Kp.to h1 hk
  obtain ⟨e1, e2, e3, e4, e5, e6, e7, e8, e9⟩ := agX_same x
  refine ⟨he, ⟨U, Z, pl, st, vs, sl, ?_, hU, hZ, ?_, ?_, hvz⟩, k.less (fun j g => .inl (.inl g))⟩
  · rw [e1, e5, e7, e8, e9]; exact ho
  · rw [e2, e3, e6]
    exact ⟨rp.keep k (fun j u n => n (.inl (.inr u))), rs.keep k (fun j u n => n (.inl (.inr u))), rl.keep k (fun j u n => n (.inl (.inr u)))⟩
  · rw [e4]
    exact Keeps.ownsRow hown k (fun j e n => n (.inr (hvz j e)))
theorem lkO_odd (h : LkO G w A V q key (nxV 75) x) (ha : isU a) (hx : x.S[x.D.length]? = some a) (hc : V.cnt < 1000000000) (hv : V.f a = v) (hodd : (v % 2 == 1) = true) (ht2 : x.tr ≤ 9223372036854775807) (hM : V.M.length ≤ 1048576) :
    Calls Try.prog 126 #[.pointer (some ⟨q, 0, none⟩), .pointer (some ⟨A.p, 0, none⟩)] w fun e w' => e = .returned (.bool (decide (x.tr < 1))) ∧ LkO G w' A (agV (V.acc V.f 1 a v v) x) q key (agN x) (agX x) ∧ Kp G w w' := by
  obtain ⟨U, Z, pl, st, vs, sl, ho, hU, hZ, ⟨rp, rs, rl⟩, hown, hvz⟩ := h
  have hd : x.D.length < x.S.length := (List.getElem?_eq_some_iff.1 hx).1
  obtain ⟨g, o, c, rfl, hn, hcm, hu, hat⟩ := rs.at_ hd
  obtain ⟨va, vc, rfl⟩ := own_slice hown
  have hcell : w.cell? ⟨g, o + x.D.length, none⟩ = some (.int .u64 a) := hat _ _ (rowsU_at hx)
  refine lk_st_loadVersion ho.ob (lk_ver_odd (P := fun w' => LkO G w' A (agV (V.acc V.f 1 a v v) x) q key (agN x) (agX x) ∧ Kp G w w') ho hd hn hcell (.inl (.inr hu)) ha hc hv hodd (fun w1 h1 k1 => ?_)) ?_
  · exact (lk_ag h1 ht2 hM).mono fun e w2 h2 => lkO_ag hU hZ ⟨rp, rs, rl⟩ hown hvz k1 h2
  · rintro w' ⟨h', -⟩
    exact h'.overg
theorem lkO_epoch {e' : Int} (h : LkO G w A V q key (nxV 82) x) (hc : V.cnt < 1000000000) (hv : V.f 8 = z) (hct : V.cnt + 1 = e') :
    Calls Try.prog 126 #[.pointer (some ⟨q, 0, none⟩), .pointer (some ⟨A.p, 0, none⟩)] w fun e w' => e = .returned (.bool false) ∧ LkO G w' A (V.acc V.f 1 8 z z) q key (nxV 85) { x with i := 0, ep := z, pt := e' } ∧ Kp G w w' := by
  obtain ⟨U, Z, pl, st, vs, sl, ho, hU, hZ, ⟨rp, rs, rl⟩, hown, hvz⟩ := h
  refine lk_st_loadEpoch ho.ob ((lk_epoch ho hc hv hct).mono ?_) ?_
  · rintro e w' ⟨he, hO, k⟩
    exact ⟨he, ⟨U, Z, pl, st, vs, sl, hO, hU, hZ, ⟨rp.keep k (fun j u n => n (.inl (.inr u))), rs.keep k (fun j u n => n (.inl (.inr u))), rl.keep k (fun j u n => n (.inl (.inr u)))⟩, Keeps.ownsRow hown k (fun j e n => n (.inr (hvz j e))), hvz⟩, k.less (fun j g => .inl (.inl g))⟩
  · rintro w' ⟨h', -⟩
    exact h'.overn
theorem lkO_ct (h : LkO G w A V q key (nxV 94) x) (hc : V.cnt < 1000000000) (hv : V.f 2 = x.t) :
    Calls Try.prog 126 #[.pointer (some ⟨q, 0, none⟩), .pointer (some ⟨A.p, 0, none⟩)] w fun e w' => e = .returned (.bool false) ∧ LkO G w' A (V.acc V.f 1 2 x.t x.t) q key (nxV 97) { x with i := 0 } ∧ Kp G w w' := by
  obtain ⟨U, Z, pl, st, vs, sl, ho, hU, hZ, ⟨rp, rs, rl⟩, hown, hvz⟩ := h
  refine lk_st_checkTables ho.ob ((lk_ct ho hc hv).mono ?_) ?_
  · rintro e w' ⟨he, hO, k⟩
    exact ⟨he, ⟨U, Z, pl, st, vs, sl, hO, hU, hZ, ⟨rp.keep k (fun j u n => n (.inl (.inr u))), rs.keep k (fun j u n => n (.inl (.inr u))), rl.keep k (fun j u n => n (.inl (.inr u)))⟩, Keeps.ownsRow hown k (fun j e n => n (.inr (hvz j e))), hvz⟩, k.less (fun j g => .inl (.inl g))⟩
  · rintro w' ⟨h', -⟩
    exact h'.overn
theorem lkO_ct_no (h : LkO G w A V q key (nxV 94) x) (hc : V.cnt < 1000000000) (hv : V.f 2 = v) (hne : (v != x.t) = true) (ht2 : x.tr ≤ 9223372036854775807) (hM : V.M.length ≤ 1048576) :
    Calls Try.prog 126 #[.pointer (some ⟨q, 0, none⟩), .pointer (some ⟨A.p, 0, none⟩)] w fun e w' => e = .returned (.bool (decide (x.tr < 1))) ∧ LkO G w' A (agV (V.acc V.f 1 2 v v) x) q key (agN x) (agX x) ∧ Kp G w w' := by
  obtain ⟨U, Z, pl, st, vs, sl, ho, hU, hZ, ⟨rp, rs, rl⟩, hown, hvz⟩ := h
  refine lk_st_checkTables ho.ob (lk_ct_no (P := fun w' => LkO G w' A (agV (V.acc V.f 1 2 v v) x) q key (agN x) (agX x) ∧ Kp G w w') ho hc hv hne (fun w1 h1 k1 => ?_)) ?_
  · exact (lk_ag h1 ht2 hM).mono fun e w2 h2 => lkO_ag hU hZ ⟨rp, rs, rl⟩ hown hvz k1 h2
  · rintro w' ⟨h', -⟩
    exact h'.overg
theorem own_at {w : World} {B e n i : Nat} {v : Value} {xs : List Value} {u : Value} (h : w.ownsRow B e 1 v n xs) (hi : i < n) (hu : xs[i]? = some u) : ∃ g c, v = .slice (some ⟨g, 0, none⟩) n c ∧ n ≤ c ∧ v.ownBlock = some g ∧ w.cell? ⟨g, i, none⟩ = some u := by
  have hc := h
  obtain ⟨hl, ⟨rfl, h0⟩ | ⟨g, c, cur, rfl, hB, hblk, hn, -⟩⟩ := h
  · omega
  · exact ⟨g, c, rfl, hn, rfl, by have := hc.cells rfl i u hu; rw [Addr.add_lit, Nat.zero_add] at this; exact this⟩
theorem lkO_cv {nx' : Value} {i : Nat} (h : LkO G w A V q key (nxV 97) x) (hi : x.i = (i : Int)) (ha : isU a) (hx : x.S[i]? = some a) (hy : x.D[i]? = some v) (hM : x.S.length ≤ 1000) (hc : V.cnt < 1000000000) (hv : V.f a = v) (hnx : nx' = if i + 1 = x.S.length then .nilFunc else nxV 97) :
    Calls Try.prog 126 #[.pointer (some ⟨q, 0, none⟩), .pointer (some ⟨A.p, 0, none⟩)] w fun e w' => e = .returned (.bool (decide (i + 1 = x.S.length))) ∧ LkO G w' A (V.acc V.f 1 a v v) q key nx' { x with i := ((i + 1 : Nat) : Int) } ∧ Kp G w w' := by
  obtain ⟨U, Z, pl, st, vs, sl, ho, hU, hZ, ⟨rp, rs, rl⟩, hown, hvz⟩ := h
  have hd : i < x.S.length := (List.getElem?_eq_some_iff.1 hx).1
  have hd2 : i < x.D.length := (List.getElem?_eq_some_iff.1 hy).1
  obtain ⟨g, o, c, rfl, hn, hcm, hu, hat⟩ := rs.at_ hd
  obtain ⟨g2, c2, rfl, hn2, ho2, hat2⟩ := own_at hown hd2 (rowsU_at hy)
  rw [hi] at ho
  refine lk_st_checkVersion ho.ob ((lk_cv ho hd hd2 hn hn2 hM (hat _ _ (rowsU_at hx)) hat2 ⟨.inl (.inr hu), .inr (hvz g2 ho2)⟩ ha hc hv hnx).mono ?_) ?_
  · rintro e w' ⟨he, hO, k⟩
    exact ⟨he, ⟨U, Z, pl, _, _, sl, hO, hU, hZ, ⟨rp.keep k (fun j u n => n (.inl (.inr u))), rs.keep k (fun j u n => n (.inl (.inr u))), rl.keep k (fun j u n => n (.inl (.inr u)))⟩, Keeps.ownsRow hown k (fun j e n => n (.inr (hvz j e))), hvz⟩, k.less (fun j g => .inl (.inl g))⟩
  · rintro w' ⟨h', -⟩
    rw [hnx] at h'
    by_cases e : i + 1 = x.S.length
    · rw [if_pos e] at h'
      rw [decide_eq_true e]
      exact h'.over
    · rw [if_neg e] at h'
      rw [decide_eq_false e]
      exact h'.overn
theorem lkO_cv_no {i : Nat} {y : Int} (h : LkO G w A V q key (nxV 97) x) (hi : x.i = (i : Int)) (ha : isU a) (hx : x.S[i]? = some a) (hy : x.D[i]? = some y) (hc : V.cnt < 1000000000) (hv : V.f a = v) (hne : (v != y) = true) (ht2 : x.tr ≤ 9223372036854775807) (hM : V.M.length ≤ 1048576) :
    Calls Try.prog 126 #[.pointer (some ⟨q, 0, none⟩), .pointer (some ⟨A.p, 0, none⟩)] w fun e w' => e = .returned (.bool (decide (x.tr < 1))) ∧ LkO G w' A (agV (V.acc V.f 1 a v v) x) q key (agN x) (agX x) ∧ Kp G w w' := by
  obtain ⟨U, Z, pl, st, vs, sl, ho, hU, hZ, ⟨rp, rs, rl⟩, hown, hvz⟩ := h
  have hd : i < x.S.length := (List.getElem?_eq_some_iff.1 hx).1
  have hd2 : i < x.D.length := (List.getElem?_eq_some_iff.1 hy).1
  obtain ⟨g, o, c, rfl, hn, hcm, hu, hat⟩ := rs.at_ hd
  obtain ⟨g2, c2, rfl, hn2, ho2, hat2⟩ := own_at hown hd2 (rowsU_at hy)
  have ho' := ho
  rw [hi] at ho'
  refine lk_st_checkVersion ho'.ob (lk_cv_no (P := fun w' => LkO G w' A (agV (V.acc V.f 1 a v v) x) q key (agN x) (agX x) ∧ Kp G w w') ho' hd hd2 hn hn2 (hat _ _ (rowsU_at hx)) hat2 ⟨.inl (.inr hu), .inr (hvz g2 ho2)⟩ ha hc hv hne (fun w1 h1 k1 => ?_)) ?_
  · rw [← hi] at h1
    exact (lk_ag h1 ht2 hM).mono fun e w2 h2 => lkO_ag hU hZ ⟨rp, rs, rl⟩ hown hvz k1 h2
  · rintro w' ⟨h', -⟩
    exact h'.overg
theorem hasl_lenL (x t : Int) : (hasl x t 4).length ≤ 4 := hasl_le x t 4
/-- Tags are loaded: the slots that have the key's. -/
theorem lkO_tags {nx' : Value} {i : Nat} {b k : Int} {x' : Lk} (h : LkO G w A V q key (nxV 85) x) (hi : x.i = (i : Int)) (hM : i < 1000) (hp : x.P[i]? = some (b, k)) (hk : key.size ≤ maxLen) (hz : hsl key.data.toList = z) (hzu : isU z) (hta : tagsf b k = a) (hau : isU a) (hc : V.cnt < 1000000000) (hv : V.f a = v) (hs : max 1 (z / 72057594037927936) = s)
    (hnx : nx' = if hasl v s 4 = [] then (if i + 1 = x.P.length then nxV 94 else nxV 85) else nxV 93) (hx' : x' = { x with L := hasl v s 4, i := if hasl v s 4 = [] then ((i + 1 : Nat) : Int) else (i : Int) }) :
    Calls Try.prog 126 #[.pointer (some ⟨q, 0, none⟩), .pointer (some ⟨A.p, 0, none⟩)] w fun e w' => e = .returned (.bool false) ∧ LkO G w' A (V.acc V.f 1 a v v) q key nx' x' ∧ Kp G w w' := by
  obtain ⟨U, Z, pl, st, vs, sl, ho, hU, hZ, ⟨rp, rs, rl⟩, hown, hvz⟩ := h
  have hlt := ow_lt ho
  have hd : i < x.P.length := (List.getElem?_eq_some_iff.1 hp).1
  obtain ⟨g, o, c, rfl, hn, hcm, hu, hat⟩ := rp.at_ hd
  obtain ⟨r1, r2⟩ := rowsP_two hp
  rw [hi] at ho
  refine lk_st_loadTags ho.ob (lk_tags (P := fun w' => LkO G w' A (V.acc V.f 1 a v v) q key nx' x' ∧ Kp G w w') ho hd hn (hat _ _ r1) (by rw [Nat.add_assoc]; exact hat _ _ r2) (.inl (.inr hu)) hk hz hzu hta hau hc hv hs (fun w2 B sa sc hB hO r k1 => ?_)) ?_
  · subst hx'
    have fin : ∀ (e : Ending) (w' : World) (nx1 : Value) (i1 : Int), e = .returned (.tuple #[]) ∧ Opw (fun k => ((G k ∨ U k) ∨ Z k) ∨ (B ≤ k ∧ k < w2.heap.size)) w' A (V.acc V.f 1 a v v) q (lkC key x.tr nx1 x.fl x.t (.slice (some ⟨g, o, none⟩) x.P.length c) st vs i1 (.slice sa (hasl v s 4).length sc) x.ref x.ep x.pt) ∧ Kp (fun k => ((G k ∨ U k) ∨ Z k) ∨ (B ≤ k ∧ k < w2.heap.size)) w2 w' → e = .returned (.tuple #[]) ∧ LkO G w' A (V.acc V.f 1 a v v) q key nx1 { x with L := hasl v s 4, i := i1 } ∧ Kp G w w' := by
      rintro e w' nx1 i1 ⟨he, hO', hk'⟩
      have kk : Kp (fun j => (G j ∨ U j) ∨ Z j) w w' := Kp.to k1 (hk'.less (fun j g => .inl g))
      refine ⟨he, ⟨fun j => U j ∨ (B ≤ j ∧ j < w2.heap.size), Z, _, st, vs, _, ow_less hO' (fun j g => ?_), fun j u g => ?_, fun j zj => ⟨(hZ j zj).1, fun u => ?_⟩, ⟨(rp.keep kk (fun j u n => n (.inl (.inr u)))).mono (fun g u => .inl u), (rs.keep kk (fun j u n => n (.inl (.inr u)))).mono (fun g u => .inl u), (R0.keep r hk' (fun j u n => n (.inr u))).mono (fun g u => .inr u)⟩, Keeps.ownsRow hown kk (fun j e n => n (.inr (hvz j e))), hvz⟩, kk.less (fun j g => .inl (.inl g))⟩
      · rcases g with (g | g | g) | g
        · exact .inl (.inl (.inl g))
        · exact .inl (.inl (.inr g))
        · exact .inr g
        · exact .inl (.inr g)
      · rcases u with u | u
        · exact hU j u g
        · have := hlt j (.inl (.inl g)); omega
      · rcases u with u | u
        · exact (hZ j zj).2 u
        · have := hlt j (.inr zj); omega
    by_cases he : hasl v s 4 = []
    · rw [if_pos he] at hnx
      have hl0 : (hasl v s 4).length = 0 := by rw [he]; rfl
      have hO2 := hO.2
      rw [hl0] at hO2
      refine (lk_on hO2 hM hnx).mono fun e w' hh => ?_
      rw [if_pos he]
      exact fin e w' nx' _ (by rw [hl0]; exact hh)
    · rw [if_neg he] at hnx
      subst hnx
      refine (lk_on_slot hO.2 (List.length_pos_iff.2 he)).mono fun e w' hh => ?_
      rw [if_neg he]
      exact fin e w' _ _ hh
  · rintro w' ⟨h', -⟩
    rw [hnx] at h'
    split at h'
    · split at h'
      · exact h'.overn
      · exact h'.overn
    · exact h'.overn
end
end Go.Proofs.Ytepkpbhhiianpaa
/- Next: A Look by itself: Run, step by step. -/
namespace Go.Proofs.Ytepkpbhhiianpaa
open Go.RowKit Go.Maps
set_option linter.unusedVariables false
set_option maxHeartbeats 1000000 in
set_option maxRecDepth 100000 in
theorem lk_run {St : Nat → World → Prop} {p q m : Nat} {M : Int} {w : World} (hm : (m : Int) < M) (hM : M ≤ 1000)
    (hov : ∀ k W, k < m → St k W → Calls Try.prog 69 #[.pointer (some ⟨q, 0, none⟩)] W fun e w' => e = .returned (.bool false) ∧ W = w')
    (hend : ∀ W, St m W → Calls Try.prog 69 #[.pointer (some ⟨q, 0, none⟩)] W fun e w' => e = .returned (.bool true) ∧ W = w')
    (hst : ∀ k W, k < m → St k W → Calls Try.prog 126 #[.pointer (some ⟨q, 0, none⟩), .pointer (some ⟨p, 0, none⟩)] W fun e w' => ∃ b, e = .returned (.bool b) ∧ St (k + 1) w')
    (h0 : St 0 w) :
    Calls Try.prog 20 #[.pointer (some ⟨p, 0, none⟩), .iface 76 (.pointer (some ⟨q, 0, none⟩)), .int .i64 M] w fun e w' => e = .returned (.int .i64 m) ∧ St m w' := by
  have HO := Lib.hid hov
  have HE := Lib.hid hend
  have HS := Lib.hid hst
  have H0 := Lib.hid h0
  clear hov hend hst h0
  go_enter Try.func20, Try.ntmps20
  go_wp2_with fail
  go_loopw [7] (fun i X => ∃ k : Nat, k ≤ m ∧ i = .int .i64 k ∧ St k X) (fun i _ => m - (intOf i).toNat)
  case atStart => exact ⟨0, Nat.zero_le _, rfl, H0.out⟩
  case round =>
    obtain ⟨k, hk, rfl, hs⟩ := hrel
    have hkM : (k : Int) < M := by omega
    by_cases hlt : k < m
    · have C := Lib.hid (HO.out k _ hlt hs)
      have C2 := Lib.hid (HS.out k _ hlt hs)
      clear hs
      go_wp2_with fail
      refine C.out.mono ?_
      rintro e w1 ⟨rfl, rfl⟩
      go_wp2_with fail
      refine C2.out.mono ?_
      rintro e w2 ⟨b, rfl, h2⟩
      have H2 := Lib.hid h2
      clear h2
      go_wp2_with fail
      go_roundw
      case rel => exact ⟨k + 1, by omega, by go_num, H2.out⟩
      case measure => simp [intOf]; omega
    · obtain rfl : k = m := by omega
      have C := Lib.hid (HE.out _ hs)
      have H2 := Lib.hid hs
      clear hs
      go_wp2_with fail
      refine C.out.mono ?_
      rintro e w1 ⟨rfl, rfl⟩
      go_wp2_with fail
      go_ret
      exact ⟨rfl, H2.out⟩
end Go.Proofs.Ytepkpbhhiianpaa
/- Next: Looks: the chapter's example lives. -/
namespace Go.Proofs.Ytepkpbhhiianpaa
open Go.RowKit Go.Maps
set_option linter.unusedVariables false
theorem hsl_UL (l : List UInt8) : isU (hsl l) := by
  rcases List.eq_nil_or_concat l with rfl | ⟨l', c, rfl⟩
  · exact ⟨by decide, by decide⟩
  · rw [List.concat_eq_append, hsl_snoc]; unfold hs1 isU; rw [IntKind.wrap_u64]; omega
/-- All places, by the tables' word. -/
def keyL : ByteArray := ⟨#[97]⟩
def zL : Int := 12638187200555641996
theorem keyL_z : hsl keyL.data.toList = zL := by decide
theorem zL_U : isU zL := ⟨by decide, by decide⟩
theorem keyL_pl : placesF zL 1 = [((1 : Int), (0 : Int)), (1, 1)] := by decide
theorem keyL_st : strsF [((1 : Int), (0 : Int)), (1, 1)] = [95, 96] := by decide
/-- The Look of the example, behind k steps. -/
def xL (k : Nat) : Lk := match k with
  | 0 => ⟨2, false, 0, [], [], [], 0, [], 0, 0, 0⟩
  | 1 => ⟨2, false, 1, [(1, 0), (1, 1)], [95, 96], [], 0, [], 0, 0, 0⟩
  | 2 => ⟨2, false, 1, [(1, 0), (1, 1)], [95, 96], [0], 0, [], 0, 0, 0⟩
  | 3 => ⟨2, false, 1, [(1, 0), (1, 1)], [95, 96], [0, 0], 0, [], 0, 0, 0⟩
  | 4 => ⟨2, false, 1, [(1, 0), (1, 1)], [95, 96], [0, 0], 0, [], 0, 0, 4⟩
  | 5 => ⟨2, false, 1, [(1, 0), (1, 1)], [95, 96], [0, 0], 1, [], 0, 0, 4⟩
  | 6 => ⟨2, false, 1, [(1, 0), (1, 1)], [95, 96], [0, 0], 2, [], 0, 0, 4⟩
  | 7 => ⟨2, false, 1, [(1, 0), (1, 1)], [95, 96], [0, 0], 0, [], 0, 0, 4⟩
  | 8 => ⟨2, false, 1, [(1, 0), (1, 1)], [95, 96], [0, 0], 1, [], 0, 0, 4⟩
  | _ => ⟨2, false, 1, [(1, 0), (1, 1)], [95, 96], [0, 0], 2, [], 0, 0, 4⟩
def nL (k : Nat) : Value := match k with
  | 0 => nxV 55
  | 1 => nxV 75
  | 2 => nxV 75
  | 3 => nxV 82
  | 4 => nxV 85
  | 5 => nxV 85
  | 6 => nxV 94
  | 7 => nxV 97
  | 8 => nxV 97
  | _ => .nilFunc
def StA (G : Nat → Prop) (w0 : World) (A : Ad) (q k : Nat) (w : World) : Prop := ∃ V, V.f = W1.f ∧ V.cnt = (k : Int) ∧ LkO G w A V q keyL (nL k) (xL k) ∧ Kp G w0 w
theorem stA_step {G : Nat → Prop} {w0 : World} {A : Ad} {q : Nat} : ∀ k W, k < 9 → StA G w0 A q k W → Calls Try.prog 126 #[.pointer (some ⟨q, 0, none⟩), .pointer (some ⟨A.p, 0, none⟩)] W fun e w' => ∃ b, e = .returned (.bool b) ∧ StA G w0 A q (k + 1) w' := by
  rintro k W hk ⟨V, hf, hc, h, hk0⟩
  have hb : V.cnt < 1000000000 := by rw [hc]; omega
  have f2 : V.f 2 = 1 := by rw [hf]; rfl
  have f8 : V.f 8 = 0 := by rw [hf]; exact w1_f 8 (by decide)
  have f95 : V.f 95 = 0 := by rw [hf]; exact w1_f 95 (by decide)
  have f96 : V.f 96 = 0 := by rw [hf]; exact w1_f 96 (by decide)
  have t0 : tagsf 1 0 = 4112 := by decide
  have t1 : tagsf 1 1 = 4120 := by decide
  have ft0 : V.f 4112 = 0 := by rw [hf]; exact w1_f _ (by decide)
  have ft1 : V.f 4120 = 0 := by rw [hf]; exact w1_f _ (by decide)
  have hs : max 1 (zL / 72057594037927936) = 175 := by decide
  have hh : hasl 0 175 4 = [] := by decide
  have hm : keyL.size ≤ maxLen := by decide
  match k, hk with
  | 0, _ =>
    refine (lkO_tables h hb hm f2 keyL_z zL_U).mono ?_
    rintro e w' ⟨he, h', k'⟩
    rw [keyL_pl, keyL_st] at h'
    refine ⟨_, he, _, ?_, ?_, h', Kp.to hk0 k'⟩
    · exact hf
    · show V.cnt + 1 = _; rw [hc]; rfl
  | 1, _ =>
    refine (lkO_ver h (a := 95) ⟨by decide, by decide⟩ rfl (by decide) hb f95 rfl (nx' := nL 2) rfl).mono ?_
    rintro e w' ⟨he, h', k'⟩
    refine ⟨_, he, _, ?_, ?_, h', Kp.to hk0 k'⟩
    · exact hf
    · show V.cnt + 1 = _; rw [hc]; rfl
  | 2, _ =>
    refine (lkO_ver h (a := 96) ⟨by decide, by decide⟩ rfl (by decide) hb f96 rfl (nx' := nL 3) rfl).mono ?_
    rintro e w' ⟨he, h', k'⟩
    refine ⟨_, he, _, ?_, ?_, h', Kp.to hk0 k'⟩
    · exact hf
    · show V.cnt + 1 = _; rw [hc]; rfl
  | 3, _ =>
    refine (lkO_epoch h hb f8 (e' := 4) (by rw [hc]; rfl)).mono ?_
    rintro e w' ⟨he, h', k'⟩
    refine ⟨_, he, _, ?_, ?_, h', Kp.to hk0 k'⟩
    · exact hf
    · show V.cnt + 1 = _; rw [hc]; rfl
  | 4, _ =>
    refine (lkO_tags h (i := 0) (b := 1) (k := 0) rfl (by decide) rfl hm keyL_z zL_U t0 ⟨by decide, by decide⟩ hb ft0 hs (nx' := nL 5) (by rw [if_pos hh]; rfl) (x' := xL 5) (by rw [if_pos hh, hh]; rfl)).mono ?_
    rintro e w' ⟨he, h', k'⟩
    refine ⟨_, he, _, ?_, ?_, h', Kp.to hk0 k'⟩
    · exact hf
    · show V.cnt + 1 = _; rw [hc]; rfl
  | 5, _ =>
    refine (lkO_tags h (i := 1) (b := 1) (k := 1) rfl (by decide) rfl hm keyL_z zL_U t1 ⟨by decide, by decide⟩ hb ft1 hs (nx' := nL 6) (by rw [if_pos hh]; rfl) (x' := xL 6) (by rw [if_pos hh, hh]; rfl)).mono ?_
    rintro e w' ⟨he, h', k'⟩
    refine ⟨_, he, _, ?_, ?_, h', Kp.to hk0 k'⟩
    · exact hf
    · show V.cnt + 1 = _; rw [hc]; rfl
  | 6, _ =>
    refine (lkO_ct h hb f2).mono ?_
    rintro e w' ⟨he, h', k'⟩
    refine ⟨_, he, _, ?_, ?_, h', Kp.to hk0 k'⟩
    · exact hf
    · show V.cnt + 1 = _; rw [hc]; rfl
  | 7, _ =>
    refine (lkO_cv h (i := 0) (a := 95) rfl ⟨by decide, by decide⟩ rfl rfl (by decide) hb f95 (nx' := nL 8) rfl).mono ?_
    rintro e w' ⟨he, h', k'⟩
    refine ⟨_, he, _, ?_, ?_, h', Kp.to hk0 k'⟩
    · exact hf
    · show V.cnt + 1 = _; rw [hc]; rfl
  | 8, _ =>
    refine (lkO_cv h (i := 1) (a := 96) rfl ⟨by decide, by decide⟩ rfl rfl (by decide) hb f96 (nx' := nL 9) rfl).mono ?_
    rintro e w' ⟨he, h', k'⟩
    refine ⟨_, he, _, ?_, ?_, h', Kp.to hk0 k'⟩
    · exact hf
    · show V.cnt + 1 = _; rw [hc]; rfl
  | k + 9, hk => omega
theorem stA_over {G : Nat → Prop} {w0 : World} {A : Ad} {q : Nat} : ∀ k W, k < 9 → StA G w0 A q k W → Calls Try.prog 69 #[.pointer (some ⟨q, 0, none⟩)] W fun e w' => e = .returned (.bool false) ∧ W = w' := by
  rintro k W hk ⟨V, hf, hc, h, hk0⟩
  match k, hk with
  | 0, _ => exact h.overn
  | 1, _ => exact h.overn
  | 2, _ => exact h.overn
  | 3, _ => exact h.overn
  | 4, _ => exact h.overn
  | 5, _ => exact h.overn
  | 6, _ => exact h.overn
  | 7, _ => exact h.overn
  | 8, _ => exact h.overn
  | k + 9, hk => omega
/-- The places of the example's key. -/
def IsPL (W : World) (e : Ending) (w' : World) : Prop := ∃ a, e = .returned (.slice a 2 2) ∧ Below W.heap.size W w' ∧ Calls Try.prog 49 #[.slice a 2 2] w' fun e x => ∃ a', e = .returned (.slice a' 2 2) ∧ Below w'.heap.size w' x
theorem keyL_of (W : World) : Calls Try.prog 30 #[.int .u64 zL, .int .u64 1] W (IsPL W) := by
  refine (placesw zL 1 W zL_U.1 (by decide) (by decide) (by decide)).mono ?_
  rintro e w ⟨a, rfl, h, hb⟩
  have r : R0 w (fun _ => True) (.slice a (placesF zL 1).length (placesF zL 1).length) (placesF zL 1).length 2 (rowsP (placesF zL 1)) := R0.of_lst h (fun _ _ _ => trivial)
  rw [keyL_pl] at r
  obtain ⟨a', c, e, hl⟩ := r.layP
  injection e with e1 e2 e3
  subst e1
  rw [← e3] at hl
  have hS := strOf hl (by decide)
  rw [keyL_st] at hS
  refine ⟨a, by rw [keyL_pl]; rfl, hb, hS.mono ?_⟩
  rintro e x ⟨a', rfl, -, hx⟩
  exact ⟨a', rfl, hx⟩
set_option maxHeartbeats 2000000 in
set_option maxRecDepth 100000 in
theorem lives14 (w : World) : Calls Try.prog 29 #[] w fun e w' => e = .returned (.bool true) ∧ Below w.heap.size w w' := by
  obtain ⟨G, hG⟩ : ∃ G : Nat → Prop, G = fun k => k < w.heap.size := ⟨_, rfl⟩
  have HGG := Lib.hid hG
  clear hG
  have CH : ∀ W, Calls Try.prog 27 #[.string ⟨#[97]⟩] W _ := fun W => hash keyL W (by decide)
  rw [keyL_z] at CH
  have CH := Lib.hid CH
  have CP := Lib.hid keyL_of
  go_enter Try.func29, Try.ntmps29
  go_wp2_with fail
  refine (world1 _).mono ?_
  rintro e w1 ⟨A, rfl, hW, k1⟩
  have HW := Lib.hid (show WdG G w1 A W1 by rw [HGG.out]; exact hW.g k1.size)
  have K1 := Lib.hid k1
  clear hW k1
  go_wp2_with fail
  refine wp_loop_rounds 1 ?_
  rw [rounds_succ]
  go_wp2_with fail
  refine (CH.out _).mono ?_
  rintro e w2 ⟨rfl, b2⟩
  have HB := Lib.hid b2
  clear b2
  go_wp2_with fail
  refine (CP.out _).mono ?_
  rintro e w3 ⟨a3, rfl, b3, CO⟩
  have CO := Lib.hid CO
  have HB := Lib.hid (below_then HB.out b3)
  clear b3
  go_wp2_with fail
  refine CO.out.mono ?_
  rintro e w4 ⟨a4, rfl, b4⟩
  have HB := Lib.hid (below_then HB.out b4)
  clear b4 CO
  go_wp2_with fail
  refine (newLook _ _ _).mono ?_
  rintro e w5 ⟨rfl, o5, b5⟩
  obtain ⟨q, hq⟩ : ∃ q, q = w4.heap.size := ⟨_, rfl⟩
  rw [← hq] at o5 ⊢
  have s0 : StA G w1 A q 0 w5 := ⟨W1, rfl, rfl, lkO_first HW.out o5 (by have := HB.out.size; omega) (below_then HB.out b5), Kp.of (below_then HB.out b5)⟩
  have CR := Lib.hid (lk_run (St := StA G w1 A q) (p := A.p) (q := q) (m := 9) (M := 40) (by decide) (by decide) stA_over (fun W h => by obtain ⟨V, -, -, h, -⟩ := h; exact h.over) stA_step s0)
  clear hq o5 b5 s0
  go_wp2_with fail
  refine CR.out.mono ?_
  rintro e w6 ⟨rfl, V6, hf6, hc6, h6, k6⟩
  have CG := Lib.hid (h6.got rfl)
  have CF := Lib.hid (fun W (hb : Below w6.heap.size w6 W) => (h6.new hb).fails)
  have K6 := Lib.hid k6
  clear hf6 hc6 h6 k6 CR
  go_wp2_with fail
  refine CG.out.mono ?_
  rintro e w7 ⟨rfl, b7⟩
  have CF := Lib.hid (CF.out _ b7)
  have K7 := Lib.hid (Kp.to K6.out (Kp.of b7))
  clear b7 CG
  unfold gotV
  go_wp2_with fail
  refine CF.out.mono ?_
  rintro e w8 ⟨rfl, rfl⟩
  go_wp2_with fail
  refine (CH.out _).mono ?_
  rintro e w9 ⟨rfl, b9⟩
  have K9 := Lib.hid (Kp.to K7.out (Kp.of b9))
  clear b9
  go_wp2_with fail
  refine (CP.out _).mono ?_
  rintro e w10 ⟨a10, rfl, b10, CO⟩
  have CO := Lib.hid CO
  have K10 := Lib.hid (Kp.to K9.out (Kp.of b10))
  clear b10
  go_wp2_with fail
  refine CO.out.mono ?_
  rintro e w11 ⟨a11, rfl, b11⟩
  have K11 := Lib.hid (Kp.to K10.out (Kp.of b11))
  clear b11
  go_wp2_with fail
  go_ret
  refine ⟨rfl, ?_⟩
  have kk : Kp G w w11 := Kp.to (Kp.of K1.out) K11.out
  rw [HGG.out] at kk
  exact kk.below (Nat.le_refl _)
end Go.Proofs.Ytepkpbhhiianpaa
