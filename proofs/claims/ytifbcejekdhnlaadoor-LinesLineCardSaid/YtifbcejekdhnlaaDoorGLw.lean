/- Lines: the words of each verb, and what is told of them (mathematics). -/
import Derived.Test.YtifbcejekdhnlaaDoorLnMath
import Derived.Test.YtifbcejekdhnlaaDoorKyJn
import Derived.Test.YtifbcejekdhnlaaDoorShelf
import Derived.Test.YtifbcejekdhnlaaDoorGLi
import Derived.Maps.AppendAt
namespace Go.Proofs.YtifbcejekdhnlaaDoor
set_option linter.unusedVariables false

def keyL : List UInt8 := [107, 101, 121]
def onesL (n : Nat) : List UInt8 := List.replicate (1 + n) 49
def nameL (v : Nat) : List UInt8 := (tbF.getD v ([], ⟨0, 0, 0, [], 0, false⟩)).1
def tailL (v : Nat) (a b c d : List UInt8) : List (List UInt8) :=
  match v with
  | 0 => [keyL]
  | 1 => [keyL, [111, 116, 104, 101, 114]]
  | 2 => [keyL, a, b, c]
  | 3 => [keyL, a, b, c]
  | 4 => [keyL, a, b, c]
  | 5 => [keyL, a, b, c, d]
  | 6 => [keyL]
  | 7 => [keyL, b]
  | 8 => [keyL, d]
  | 9 => [keyL, d]
  | 10 => [b]
  | _ => []
def wordsL (v : Nat) (a b c d : List UInt8) : List (List UInt8) := nameL v :: tailL v a b c d
def moreW : List UInt8 := [109, 111, 114, 101]
/-- Has the same call. -/
def callEq (c d : Cmd) : Bool := decide (c.cverb = d.cverb) && decide (c.key = d.key) && decide (c.value = d.value) && decide (c.flags = d.flags) && decide (c.exp = d.exp) && decide (c.id = d.id) && decide (c.by_ = d.by_)
/-- What the law asks of a verb's words. -/
def chkW (v : Nat) (l : List (List UInt8)) : Bool :=
  let c := parseN l
  let m := parseN (l ++ [moreW])
  let s := parseN l.dropLast
  let u := parseN (l ++ [norep])
  decide (c.2 = 0) && !c.1.quiet &&
  (if v ≤ 1 then decide (m.2 = 0) && (decide (u.2 = 0) && (!u.1.quiet && (decide (u.1.keys.length = l.length) && decide (decide (s.2 = 0) = decide (l.length = 3)))))
   else if v = 10 then decide (m.2 = 1) && (decide (s.2 = 0) && (decide (u.2 = 0) && (u.1.quiet && callEq u.1 c.1)))
   else if 11 ≤ v then decide (m.2 = 1) && (decide (s.2 = 1) && decide (u.2 = 1))
   else decide (m.2 = 1) && (decide (s.2 = 1) && (decide (u.2 = 0) && (u.1.quiet && (callEq u.1 c.1 && decide (u.1.bytes = c.1.bytes))))))
def goodL (l : List (List UInt8)) : Bool := decide (l.length ≤ 8) && l.all (fun x => decide (x ≠ []) && x.all (fun c => decide (c ≠ 32)) && decide (x.length ≤ 20))
theorem chk_all : ∀ (v : Fin 13) (a b c d : Fin 3), chkW v (wordsL v (onesL a) (onesL b) (onesL c) (onesL d)) = true := by decide +kernel
theorem good_all : ∀ (v : Fin 13) (a b c d : Fin 3), goodL (wordsL v (onesL a) (onesL b) (onesL c) (onesL d)) = true := by decide +kernel
/-- A name with a letter of it in another case. -/
def oddL (n : List UInt8) (i : Nat) : List UInt8 := n.take i ++ Lib.toUpperA ((n.drop i).take 1) ++ n.drop (i + 1)
theorem odd_all : ∀ (v : Fin 13) (i : Fin 9), i.val < (nameL v).length → (nameL v)[i.val]? ≠ some 95 → formOf (oddL (nameL v) i) = none := by decide +kernel
theorem more_all : ∀ (v : Fin 13), formOf (nameL v ++ [120]) = none := by decide +kernel
theorem name_len : ∀ (v : Fin 13), 0 < (nameL v).length ∧ (nameL v).length ≤ 9 ∧ ∀ x ∈ nameL v, x.toNat < 128 := by decide +kernel
theorem odd_good : ∀ (v : Fin 13) (i : Fin 9), i.val < (nameL v).length → (oddL (nameL v) i).all (fun c => decide (c ≠ 32)) = true ∧ (oddL (nameL v) i).length = (nameL v).length := by decide +kernel
end Go.Proofs.YtifbcejekdhnlaaDoor
/- Next: Lines: the words of each verb: contracts. -/
namespace Go.Proofs.YtifbcejekdhnlaaDoor
open Go.RowKit Go.Maps
set_option linter.unusedVariables false

theorem cb_new' {W : World} {C : Array Value} {T : TypeId} {L : List Value} {q : Nat} (hq : q = W.heap.size) (hL : L = C.toList) : Cb (W.alloc (.cells C T)) q L := by
  subst hq
  exact cb_new hL
theorem KyR.of_cb {W : World} {q : Nat} {l : List (List UInt8)} (h : Cb W q (strs l)) (hl : l.length ≤ 1048576) : KyR W (.slice (some ⟨q, 0, none⟩) l.length l.length) l :=
  ⟨⟨_, _, rfl, Nat.le_refl _, by unfold maxLen; omega, fun j x hj => ⟨q, rfl, h.lt, h.at_ j _ (by simp only [strs, List.getElem?_map, hj]; rfl)⟩⟩⟩
theorem ones_rep (n : Nat) : Lib.repeatL [49] (1 + n) = onesL n := by
  have := Lib.repeatL_replicate 49 1 (1 + n)
  unfold onesL
  simpa using this
set_option maxHeartbeats 2000000 in
set_option maxRecDepth 100000 in
theorem numberw (q i : Nat) (z : Int) (m : Nat) (w : World) (hi : i < 4) (hz0 : 0 ≤ z) (hz : z ≤ 65535) (hm : z % 3 = m) (hc : w.cell? ⟨q, i, none⟩ = some (.int .u16 z)) :
    Calls Tryd.prog 20 #[.int .i64 i, .pointer (some ⟨q, 0, none⟩)] w fun e w' => e = .returned (.string ⟨(onesL m).toArray⟩) ∧ Below w.heap.size w w' := by
  have hm3 : m ≤ 2 := by omega
  have h1 : IntKind.u16.wrap (m : Int) = m := by simp [IntKind.wrap, IntKind.bits, IntKind.signed]; omega
  have h2 : IntKind.i64.wrap (m : Int) = m := IntWalk.i64_in _ (by omega)
  have h3 : IntKind.i64.wrap (1 + (m : Int)) = 1 + (m : Int) := IntWalk.i64_in _ (by omega)
  have hrep : ∀ W, Calls Tryd.prog 19 #[.string ⟨#[49]⟩, .int .i64 (1 + (m : Int))] W fun e w' => e = .returned (.string ⟨(onesL m).toArray⟩) ∧ Below W.heap.size W w' := fun W => by
    have := Tryd.strings_Repeat ⟨#[49]⟩ (1 + m) W (by omega) (by rw [show (⟨#[49]⟩ : ByteArray).size = 1 from rfl]; omega)
    rw [show ((⟨#[49]⟩ : ByteArray).data.toList) = [49] from rfl, ones_rep] at this
    have e : (((1 + m : Nat)) : Int) = 1 + (m : Int) := by omega
    rwa [e] at this
  go_enter Tryd.func20, Tryd.ntmps20
  go_wp2_with (go_at_call 19; refine (hrep _).mono ?_; rintro e w2 ⟨rfl, hb2⟩)
  go_ret
  exact ⟨rfl, hb2⟩
set_option maxHeartbeats 8000000 in
set_option maxRecDepth 100000 in
theorem wordslw (v : Int) (k : Nat) (a b c d : List UInt8) (w : World) (hv0 : 0 ≤ v) (hv : v ≤ 255) (hk : v % 13 = k) :
    Calls Tryd.prog 21 #[.int .u8 v, .agg #[.string ⟨a.toArray⟩, .string ⟨b.toArray⟩, .string ⟨c.toArray⟩, .string ⟨d.toArray⟩]] w fun e w' => ∃ g, e = .returned (.slice (some ⟨g, 0, none⟩) (wordsL k a b c d).length (wordsL k a b c d).length) ∧ KyR w' (.slice (some ⟨g, 0, none⟩) (wordsL k a b c d).length (wordsL k a b c d).length) (wordsL k a b c d) ∧ Below w.heap.size w w' := by
  have h1 : IntKind.i64.wrap v = v := IntWalk.i64_in _ (by omega)
  have h2 : IntKind.i64.wrap (k : Int) = k := IntWalk.i64_in _ (by omega)
  have hk13 : k < 13 := by omega
  go_enter Tryd.func21, Tryd.ntmps21
  go_upto_region 3 with fail
  have hk' : k = 0 ∨ k = 1 ∨ k = 2 ∨ k = 3 ∨ k = 4 ∨ k = 5 ∨ k = 6 ∨ k = 7 ∨ k = 8 ∨ k = 9 ∨ k = 10 ∨ k = 11 ∨ k = 12 := by omega
  rcases hk' with rfl | rfl | rfl | rfl | rfl | rfl | rfl | rfl | rfl | rfl | rfl | rfl | rfl
  all_goals
    go_wp2_with fail
    go_ret
    refine ⟨_, rfl, KyR.of_cb ?_ (by simp [wordsL, tailL]), ?_⟩
    · repeat (first | exact cb_new' (by simp) rfl | refine Cb.new ?_ ((Below.refl _ _).alloc (Nat.le_refl _) _))
    · repeat (first | exact Below.refl _ _ | refine Below.alloc ?_ (by simp; try omega) _)
end Go.Proofs.YtifbcejekdhnlaaDoor
/- Next: Lines: words that are joined, and parsed. -/
namespace Go.Proofs.YtifbcejekdhnlaaDoor
open Go.RowKit Go.Maps
set_option linter.unusedVariables false

structure GoodL (l : List (List UInt8)) : Prop where
  len : l.length ≤ 8
  each : ∀ x ∈ l, x ≠ [] ∧ (∀ c ∈ x, c ≠ 32) ∧ x.length ≤ 20
theorem GoodL.of {l : List (List UInt8)} (h : goodL l = true) : GoodL l := by
  unfold goodL at h
  simp only [Bool.and_eq_true, decide_eq_true_eq, List.all_eq_true] at h
  exact ⟨h.1, fun x hx => ⟨(h.2 x hx).1.1, (h.2 x hx).1.2, (h.2 x hx).2⟩⟩
theorem joinTail_len : ∀ (l : List (List UInt8)), (∀ x ∈ l, x.length ≤ 20) → (Lib.joinTail [32] l).length ≤ l.length * 21
  | [], _ => by simp [Lib.joinTail]
  | x :: r, h => by
    have e : Lib.joinTail [32] (x :: r) = 32 :: (x ++ Lib.joinTail [32] r) := by simp [Lib.joinTail]
    have h1 := joinTail_len r (fun y hy => h y (List.mem_cons_of_mem _ hy))
    have h2 := h x (by simp)
    rw [e]
    simp only [List.length_cons, List.length_append]
    omega
theorem join_len {l : List (List UInt8)} (h : GoodL l) : (Lib.join l [32]).length ≤ 200 := by
  cases l with
  | nil => simp [Lib.join, List.intercalate]
  | cons x r =>
    rw [Lib.join_cons]
    have h1 := joinTail_len r (fun y hy => (h.each y (List.mem_cons_of_mem _ hy)).2.2)
    have h2 := (h.each x (by simp)).2.2
    have h3 := h.len
    simp only [List.length_cons] at h3
    rw [List.length_append]
    omega
theorem join_parse {l : List (List UInt8)} (h : GoodL l) : parseC (Lib.join l [32]) = parseN l := by
  unfold parseC
  rw [if_neg (by have := join_len h; omega), words_join l (fun x hx => ⟨(h.each x hx).1, (h.each x hx).2.1⟩)]
theorem bs_map (l : List (List UInt8)) : (l.map (fun x => (⟨x.toArray⟩ : ByteArray))).map (·.data.toList) = l := by
  rw [List.map_map]
  have : ((fun x : ByteArray => x.data.toList) ∘ fun x : List UInt8 => (⟨x.toArray⟩ : ByteArray)) = id := by
    funext x
    simp
  rw [this, List.map_id]
/-- Words that stand in a block are joined. -/
theorem joinl {l : List (List UInt8)} {g o cap n : Nat} (W : World) (hn : l.length = n) (hc : ∀ k x, l[k]? = some x → W.cell? ⟨g, o + k, none⟩ = some (.string ⟨x.toArray⟩)) (hg : g < W.heap.size) (hcap : n ≤ cap) (h : GoodL l) :
    Calls Tryd.prog 22 #[.slice (some ⟨g, o, none⟩) n cap, .string ⟨#[32]⟩] W fun e w' => e = .returned (.string ⟨(Lib.join l [32]).toArray⟩) ∧ Below W.heap.size W w' := by
  subst hn
  have hxl : (l.map (fun x => (⟨x.toArray⟩ : ByteArray))).length = l.length := by simp
  have h8 := h.len
  have hj := join_len h
  have q := Tryd.strings_Join g o cap (l.map (fun x => (⟨x.toArray⟩ : ByteArray))) ⟨#[32]⟩ W (fun j x hj => by
      rw [List.getElem?_map] at hj
      cases hl : l[j]? with
      | none => rw [hl] at hj; simp at hj
      | some y => rw [hl] at hj; simp at hj; rw [← hj]; exact hc j y hl) hg (by rw [hxl]; omega) (by rw [hxl]; exact hcap) (by rw [bs_map]; show (Lib.join l [32]).length ≤ _; omega)
  rw [bs_map, hxl] at q
  exact q
theorem parsej {l : List (List UInt8)} (W : World) (h : GoodL l) : Calls Tryd.prog 10 #[.string ⟨(Lib.join l [32]).toArray⟩] W (IsPar W (parseN l)) := by
  have q := parsel ⟨(Lib.join l [32]).toArray⟩ W (by
    show (Lib.join l [32]).toArray.size ≤ maxLen
    have := join_len h
    simp [maxLen]
    omega)
  rwa [show (⟨(Lib.join l [32]).toArray⟩ : ByteArray).data.toList = Lib.join l [32] by simp, join_parse h] at q
theorem good_snoc {l : List (List UInt8)} {x : List UInt8} (h : GoodL l) (hl : l.length ≤ 7) (hx : (decide (x ≠ []) && x.all (fun c => decide (c ≠ 32)) && decide (x.length ≤ 20)) = true) : GoodL (l ++ [x]) := by
  simp only [Bool.and_eq_true, decide_eq_true_eq, List.all_eq_true] at hx
  refine ⟨by simp; omega, fun y hy => ?_⟩
  rcases List.mem_append.mp hy with hy | hy
  · exact h.each y hy
  · simp at hy; subst hy; exact ⟨hx.1.1, hx.1.2, hx.2⟩
theorem good_drop {l : List (List UInt8)} (h : GoodL l) : GoodL l.dropLast := ⟨by simp; have := h.len; omega, fun x hx => h.each x (List.dropLast_subset _ hx)⟩
theorem good_cons {x : List UInt8} {l : List (List UInt8)} (h : GoodL l) (hl : l.length ≤ 7) (h1 : x ≠ []) (h2 : ∀ c ∈ x, c ≠ 32) (h3 : x.length ≤ 20) : GoodL (x :: l) := by
  refine ⟨by simp; omega, fun y hy => ?_⟩
  rcases List.mem_cons.mp hy with rfl | hy
  · exact ⟨h1, h2, h3⟩
  · exact h.each y hy
theorem good_tail {x : List UInt8} {l : List (List UInt8)} (h : GoodL (x :: l)) : GoodL l := ⟨by have := h.len; simp at this; omega, fun y hy => h.each y (List.mem_cons_of_mem _ hy)⟩
/-- The calls are the same. -/
def CallP (u c : Cmd) : Prop := u.cverb = c.cverb ∧ u.key = c.key ∧ u.value = c.value ∧ u.flags = c.flags ∧ u.exp = c.exp ∧ u.id = c.id ∧ u.by_ = c.by_
def ChkP (v n : Nat) (c m s u : Cmd × Nat) : Prop := c.2 = 0 ∧ c.1.quiet = false ∧
  ((v ≤ 1 ∧ m.2 = 0 ∧ u.2 = 0 ∧ u.1.quiet = false ∧ u.1.keys.length = n ∧ decide (s.2 = 0) = decide (n = 3)) ∨ (v = 10 ∧ m.2 = 1 ∧ s.2 = 0 ∧ u.2 = 0 ∧ u.1.quiet = true ∧ CallP u.1 c.1) ∨ (11 ≤ v ∧ m.2 = 1 ∧ s.2 = 1 ∧ u.2 = 1) ∨
   (2 ≤ v ∧ v ≤ 9 ∧ m.2 = 1 ∧ s.2 = 1 ∧ u.2 = 0 ∧ u.1.quiet = true ∧ CallP u.1 c.1 ∧ u.1.bytes = c.1.bytes))
theorem callP_of {u c : Cmd} (h : callEq u c = true) : CallP u c := by
  unfold callEq at h
  simp only [Bool.and_eq_true, decide_eq_true_eq] at h
  obtain ⟨⟨⟨⟨⟨⟨h1, h2⟩, h3⟩, h4⟩, h5⟩, h6⟩, h7⟩ := h
  exact ⟨h1, h2, h3, h4, h5, h6, h7⟩
theorem chk_out {v : Nat} {l : List (List UInt8)} (hv : v < 13) (h : chkW v l = true) : ChkP v l.length (parseN l) (parseN (l ++ [moreW])) (parseN l.dropLast) (parseN (l ++ [norep])) := by
  unfold chkW at h
  generalize parseN l = c at h ⊢
  generalize parseN (l ++ [moreW]) = m at h ⊢
  generalize parseN l.dropLast = s at h ⊢
  generalize parseN (l ++ [norep]) = u at h ⊢
  simp only [Bool.and_eq_true, decide_eq_true_eq] at h
  obtain ⟨⟨h1, h2⟩, h3⟩ := h
  refine ⟨h1, by simpa using h2, ?_⟩
  split at h3
  · next hv1 =>
    simp only [Bool.and_eq_true, decide_eq_true_eq] at h3
    obtain ⟨a1, a2, a3, a4, a5⟩ := h3
    exact .inl ⟨hv1, a1, a2, by simpa using a3, a4, a5⟩
  · next hv1 =>
    split at h3
    · next hv2 =>
      simp only [Bool.and_eq_true, decide_eq_true_eq] at h3
      obtain ⟨a1, a2, a3, a4, a5⟩ := h3
      exact .inr (.inl ⟨hv2, a1, a2, a3, a4, callP_of a5⟩)
    · next hv2 =>
      split at h3
      · next hv3 =>
        simp only [Bool.and_eq_true, decide_eq_true_eq] at h3
        exact .inr (.inr (.inl ⟨hv3, h3.1, h3.2.1, h3.2.2⟩))
      · next hv3 =>
        simp only [Bool.and_eq_true, decide_eq_true_eq] at h3
        obtain ⟨a1, a2, a3, a4, a5, a6⟩ := h3
        exact .inr (.inr (.inr ⟨by omega, by omega, a1, a2, a3, a4, callP_of a5, a6⟩))
end Go.Proofs.YtifbcejekdhnlaaDoor
/- Next: Lines: a name with a letter of it in another case, as bytes; words ahead of others. -/
namespace Go.Proofs.YtifbcejekdhnlaaDoor
open Go.RowKit Go.Maps
set_option linter.unusedVariables false

theorem ext_list (B : ByteArray) (i j : Nat) : (B.extract i j).data.toList = (B.data.toList.drop i).take (j - i) := by
  rw [ByteArray.data_extract, Array.toList_extract]
theorem of_list {A B : ByteArray} (h : A.data.toList = B.data.toList) : A = B := by
  apply ByteArray.ext
  exact Array.ext' h
theorem size_list (B : ByteArray) : B.data.toList.length = B.size := by simp
structure OddB (x : List UInt8) (i : Nat) (P Q R U : ByteArray) : Prop where
  asc : (∀ c ∈ x, c.toNat < 128) → ∀ (j : Nat) (b : UInt8), Q.data.toList[j]? = some b → b.toNat < 128
  small : Q.size ≤ 1 ∧ P.size ≤ i ∧ U.size ≤ 1 ∧ R.size ≤ x.length
  all : (P ++ U) ++ R = ⟨(oddL x i).toArray⟩
theorem odd_b {x : List UInt8} {i : Nat} {NB : ByteArray} (hN : NB = ⟨x.toArray⟩) (hi : i < x.length) {n : Nat} (hn : NB.size = n) : OddB x i (NB.extract 0 i) (NB.extract i (i + 1)) (NB.extract (i + 1) n) ⟨(Lib.toUpperA (NB.extract i (i + 1)).data.toList).toArray⟩ := by
  have hd : NB.data.toList = x := by rw [hN]
  have hl : x.length = n := by rw [← hd, size_list, hn]
  have e1 := ext_list NB 0 i
  have e2 := ext_list NB i (i + 1)
  have e3 := ext_list NB (i + 1) n
  rw [hd] at e1 e2 e3
  rw [List.drop_zero, Nat.sub_zero] at e1
  rw [show i + 1 - i = 1 by omega] at e2
  rw [List.take_of_length_le (by rw [List.length_drop]; omega)] at e3
  have hu : (Lib.toUpperA ((x.drop i).take 1)).length ≤ 1 := by
    have : (Lib.toUpperA ((x.drop i).take 1)).length = ((x.drop i).take 1).length := by simp [Lib.toUpperA]
    rw [this, List.length_take]; omega
  refine ⟨fun h j b hb => ?_, ⟨?_, ?_, ?_, ?_⟩, ?_⟩
  · rw [e2] at hb
    exact h b (List.mem_of_mem_drop (List.mem_of_mem_take (List.mem_of_getElem? hb)))
  · rw [← size_list, e2, List.length_take]; omega
  · rw [← size_list, e1, List.length_take]; omega
  · rw [e2]
    show (Lib.toUpperA ((x.drop i).take 1)).toArray.size ≤ 1
    simpa using hu
  · rw [← size_list, e3, List.length_drop]; omega
  · apply of_list
    rw [ByteArray.data_append, Array.toList_append, ByteArray.data_append, Array.toList_append, e1, e3, e2]
    simp [oddL]
/-- What a row of strings holds. -/
theorem row_at {W : World} {B n : Nat} {e : TypeId} {v' : Value} {ws : List (List UInt8)} (h : W.ownsRow B e 1 v' n (ws.map fun x => .string ⟨x.toArray⟩)) (hn : 0 < n) (hl : ws.length = n) : ∃ g cap, v' = .slice (some ⟨g, 0, none⟩) n cap ∧ n ≤ cap ∧ cap ≤ maxLen ∧ g < W.heap.size ∧ ∀ k x, ws[k]? = some x → W.cell? ⟨g, 0 + k, none⟩ = some (.string ⟨x.toArray⟩) := by
  rcases h.2 with ⟨he, h0⟩ | ⟨g, cap, cur, rfl, hB, hbk, h1, h2, _⟩
  · omega
  · refine ⟨g, cap, rfl, h1, h2, (h.lt g rfl).2, fun k x hk => ?_⟩
    have q := h.cells (g := g) rfl k (.string ⟨x.toArray⟩) (by rw [List.getElem?_map, hk]; rfl)
    rw [Addr.add_lit] at q
    exact q
theorem bad_parse {x : List UInt8} {tl : List (List UInt8)} (h : formOf x = none) : parseN (x :: tl) = (Cmd.none, 1) := by
  unfold parseN
  simp only [h]
/-- Words that were put behind one. -/
theorem app_row {N : Nat} {w X : World} {OD : ByteArray} {x : List UInt8} {tl : List (List UInt8)} {v' : Value} {m : Nat} (hx : OD = ⟨x.toArray⟩) (hl : tl.length = m) (hN : 1 + m = N) (hown : X.ownsRow w.heap.size 9 1 v' (1 + m) ([.string OD] ++ tl.map fun x => .string ⟨x.toArray⟩)) (hgr : (w.alloc (.cells #[.string OD] 9)).grownBy X (Value.ownBlock (.slice (some ⟨w.heap.size, 0, none⟩) 1 1))) :
    ∃ g cap, v' = .slice (some ⟨g, 0, none⟩) N cap ∧ N ≤ cap ∧ cap ≤ maxLen ∧ g < X.heap.size ∧ (∀ k y, (x :: tl)[k]? = some y → X.cell? ⟨g, 0 + k, none⟩ = some (.string ⟨y.toArray⟩)) ∧ Below w.heap.size w X := by
  subst hN
  have e : ([.string OD] ++ tl.map fun x => .string ⟨x.toArray⟩ : List Value) = (x :: tl).map fun x => .string ⟨x.toArray⟩ := by rw [hx]; rfl
  rw [e] at hown
  obtain ⟨g, cap, h1, h2, h3, h4, h5⟩ := row_at hown (by omega) (by rw [List.length_cons, hl]; omega)
  exact ⟨g, cap, h1, h2, h3, h4, h5, ((Below.refl _ _).alloc (Nat.le_refl _) _).grown hgr (by simp) (fun j e => by simp [Value.ownBlock] at e; omega)⟩
theorem strs_at {W : World} {g o : Nat} {tl : List (List UInt8)} (h : ∀ k x, tl[k]? = some x → W.cell? ⟨g, o + k, none⟩ = some (.string ⟨x.toArray⟩)) : ∀ j u, (tl.map fun x => (.string ⟨x.toArray⟩ : Value))[j]? = some u → W.cell? ((⟨g, o, none⟩ : Addr).add j) = some u := by
  intro j u hu
  rw [List.getElem?_map] at hu
  cases hx : tl[j]? with
  | none => rw [hx] at hu; simp at hu
  | some x =>
    rw [hx] at hu
    simp only [Option.map_some] at hu
    injection hu with hu
    subst hu
    rw [Addr.add_lit]
    exact h j x hx
theorem strs_one {tl : List (List UInt8)} : ∀ u ∈ (tl.map fun x => (.string ⟨x.toArray⟩ : Value)), u.oneCell' = true := by
  intro u hu
  obtain ⟨x, _, rfl⟩ := List.mem_map.mp hu
  rfl
/-- A row's copy, and one word more behind it. -/
theorem nil_row {w X : World} {l : List (List UInt8)} {v' : Value} {n : Nat} (hl : l.length = n) (hn : 0 < n) (hown : X.ownsRow w.heap.size 9 1 v' (0 + n) ([] ++ l.map fun x => .string ⟨x.toArray⟩)) (hgr : w.grownBy X (Value.ownBlock (.slice none 0 0))) :
    ∃ g cap, v' = .slice (some ⟨g, 0, none⟩) n cap ∧ n ≤ cap ∧ X.ownsRow w.heap.size 9 1 (.slice (some ⟨g, 0, none⟩) n cap) n (l.map fun x => .string ⟨x.toArray⟩) ∧ Below w.heap.size w X := by
  rw [Nat.zero_add, List.nil_append] at hown
  obtain ⟨g, cap, rfl, h2, h3, h4, h5⟩ := row_at hown hn hl
  exact ⟨g, cap, rfl, h2, hown, (Below.refl _ _).grown hgr (Nat.le_refl _) (fun j e => by simp [Value.ownBlock] at e)⟩
theorem snoc_row {N : Nat} {w X Z : World} {OB : Obj} {x : List UInt8} {l : List (List UInt8)} {g cap n : Nat} {v' : Value} (hown0 : X.ownsRow w.heap.size 9 1 (.slice (some ⟨g, 0, none⟩) n cap) n (l.map fun x => .string ⟨x.toArray⟩)) (hb : Below w.heap.size w X) (hl : l.length = n) (hN : n + 1 = N) (hown : Z.ownsRow w.heap.size 9 1 v' (n + 1) ((l.map fun x => .string ⟨x.toArray⟩) ++ [.string ⟨x.toArray⟩])) (hgr : (X.alloc OB).grownBy Z (Value.ownBlock (.slice (some ⟨g, 0, none⟩) n cap))) :
    ∃ g cap, v' = .slice (some ⟨g, 0, none⟩) N cap ∧ N ≤ cap ∧ cap ≤ maxLen ∧ g < Z.heap.size ∧ (∀ k y, (l ++ [x])[k]? = some y → Z.cell? ⟨g, 0 + k, none⟩ = some (.string ⟨y.toArray⟩)) ∧ Below w.heap.size w Z := by
  subst hN
  have e : ((l.map fun x => .string ⟨x.toArray⟩) ++ [.string ⟨x.toArray⟩] : List Value) = (l ++ [x]).map fun x => .string ⟨x.toArray⟩ := by rw [List.map_append]; rfl
  rw [e] at hown
  have hg := (hown0.lt g rfl).1
  obtain ⟨g', cap', h1, h2, h3, h4, h5⟩ := row_at hown (by omega) (by rw [List.length_append, hl]; rfl)
  exact ⟨g', cap', h1, h2, h3, h4, h5, (hb.alloc hb.size _).grown hgr (by have := hb.size; simp; omega) (fun j e => by simp [Value.ownBlock] at e; omega)⟩
theorem one_at {W : World} {v : Value} {e : TypeId} : ∀ j u, [v][j]? = some u → (W.alloc (.cells #[v] e)).cell? ((⟨W.heap.size, 0, none⟩ : Addr).add j) = some u := by
  intro j u hj
  match j, hj with
  | 0, hj => simp at hj; subst hj; simp [Addr.add]
theorem one_one {x : ByteArray} : ∀ u ∈ [(.string x : Value)], u.oneCell' = true := by
  intro u hu
  rw [List.mem_singleton.mp hu]; rfl
theorem name_cls : ∀ v : Fin 13, 2 ≤ v.val → v.val ≤ 9 → (nameL v == [103, 101, 116]) = false ∧ (nameL v == [103, 101, 116, 115]) = false ∧ (nameL v == [102, 108, 117, 115, 104, 95, 97, 108, 108]) = false ∧ (nameL v == [118, 101, 114, 115, 105, 111, 110]) = false ∧ (nameL v == [113, 117, 105, 116]) = false := by decide +kernel
end Go.Proofs.YtifbcejekdhnlaaDoor
