/- Stripes of places: Of, and the chapter's. -/
import Derived.Test.YtepkpbhhiianpaaGPs
import Derived.Test.YtepkpbhhiianpaaGPl
import Derived.Deep.AppendLies
import Derived.Deep.Cut
import Derived.Deep.CutBlock
import Derived.OwnWalk
import Derived.LoopTactic
import Derived.IntWalk
import Derived.Test.YtepkpbhhiianpaaGTo
namespace Go.Proofs.Ytepkpbhhiianpaa
open Go.RowKit
set_option linter.unusedVariables false
theorem info_addr : (Try.prog.info? 27).map (fun i => (i.zero, i.size, i.bytes)) = some (some (.int .u64 0), 1, 8) := by kernel_rfl
def rowsU (D : List Int) : List Value := D.map (Value.int .u64)
theorem rowsU_len (D : List Int) : (rowsU D).length = D.length := by simp [rowsU]
theorem rowsU_snoc (D : List Int) (x : Int) : rowsU (D ++ [x]) = rowsU D ++ [.int .u64 x] := by simp [rowsU]
theorem rowsU_at {D : List Int} {i : Nat} {x : Int} (h : D[i]? = some x) : (rowsU D)[i]? = some (.int .u64 x) := by simp [rowsU, h]
theorem LieG.u64 {w : World} {a : Option Addr} {cap n i : Nat} {D : List Int} {x : Int} (h : LieG w a cap n (rowsU D)) (hn : n = D.length) (hx : D[i]? = some x) : ∃ g, a = some ⟨g, 0, none⟩ ∧ g < w.heap.size ∧ i < n ∧ n ≤ cap ∧ w.cell? ⟨g, i, none⟩ = some (.int .u64 x) := by
  have hi : i < D.length := by
    rcases Nat.lt_or_ge i D.length with h' | h'
    · exact h'
    · rw [List.getElem?_eq_none h'] at hx; simp at hx
  obtain ⟨g, h1, h2, h3, h4⟩ := h (by omega)
  exact ⟨g, h1, h2, by omega, h3, h4 _ _ (rowsU_at hx)⟩
/-- One stripe more, if it is a new one. -/
def addS (D : List Int) (v : Int) : List Int := if v = 0 ∨ v ∈ D then D else D ++ [v]
def strsF (L : List Pv) : List Int := L.foldl (fun D p => addS D (versf p.1 p.2)) []
theorem strsF_snoc {L : List Pv} {k : Nat} {x : Pv} (h : L[k]? = some x) : strsF (L.take (k + 1)) = addS (strsF (L.take k)) (versf x.1 x.2) := by
  have hk : k < L.length := by
    rcases Nat.lt_or_ge k L.length with h' | h'
    · exact h'
    · rw [List.getElem?_eq_none h'] at h; simp at h
  rw [List.getElem?_eq_getElem hk] at h
  simp at h
  rw [List.take_succ_eq_append_getElem hk, h]
  simp [strsF]
theorem addS_len (D : List Int) (v : Int) : (addS D v).length ≤ D.length + 1 := by unfold addS; split <;> simp
theorem strsF_len (L : List Pv) : ∀ k, (strsF (L.take k)).length ≤ k
  | 0 => by simp [strsF]
  | k + 1 => by
    by_cases h : k < L.length
    · obtain ⟨x, hx⟩ : ∃ x, L[k]? = some x := ⟨_, List.getElem?_eq_getElem h⟩
      rw [strsF_snoc hx]
      have := addS_len (strsF (L.take k)) (versf x.1 x.2)
      have := strsF_len L k
      omega
    · have := strsF_len L k
      rw [List.take_of_length_le (by omega)] at this ⊢
      omega
set_option maxHeartbeats 1000000 in
set_option maxRecDepth 100000 in
theorem idxw {w : World} {a : Option Addr} {cap n : Nat} {D : List Int} (v : Int) (h : LieG w a cap n (rowsU D)) (hn : n = D.length) (hM : n ≤ 1048576) :
    Calls Try.prog 79 #[.slice a n cap, .int .u64 v] w fun e w' => (∃ z : Int, e = .returned (.int .i64 z) ∧ decide (0 ≤ z) = decide (v ∈ D)) ∧ w = w' := by
  have H := Lib.hid h
  have HN := Lib.hid hn
  clear h hn
  obtain ⟨W, hW⟩ : ∃ W, W = w := ⟨_, rfl⟩
  have HW := Lib.hid hW
  clear hW
  go_enter Try.func79, Try.ntmps79
  go_wp2_with fail
  go_loopw [8] (fun i wr => ∃ k0 : Nat, k0 ≤ n ∧ i = .int .i64 k0 ∧ wr = w ∧ Hid (∀ j, j < k0 → D[j]? ≠ some v)) (fun i _ => n - (intOf i).toNat)
  case atStart => exact ⟨0, Nat.zero_le _, rfl, rfl, Lib.hid (fun j h => by omega)⟩
  case round =>
    obtain ⟨k0, hk0, rfl, hwr, hall⟩ := hrel
    subst hwr
    by_cases hlt : k0 < n
    · obtain ⟨x, hx⟩ : ∃ x, D[k0]? = some x := ⟨_, List.getElem?_eq_getElem (by have := HN.out; omega)⟩
      obtain ⟨g, rfl, hg, -, hnc, e0⟩ := H.out.u64 HN.out hx
      have hkc : k0 < cap := by omega
      have HX := Lib.hid hx
      clear hx hg
      by_cases hv : v = x
      · subst hv
        go_wp2_with fail
        go_ret
        exact ⟨⟨_, rfl, by rw [decide_eq_true (List.mem_of_getElem? HX.out)]; exact decide_eq_true (by omega)⟩, rfl⟩
      · have c1 : (v == x) = false := by simpa using hv
        have HV := Lib.hid hv
        clear hv
        go_wp2_with fail
        go_roundw
        case rel => exact ⟨k0 + 1, by omega, by go_num, by simp, Lib.hid (fun j hj => by
          by_cases e : j = k0
          · subst e; rw [HX.out]; intro h; injection h with h; exact HV.out h.symm
          · exact hall.out j (by omega))⟩
        case measure => simp [intOf]; omega
    · obtain rfl : n = k0 := by omega
      have HALL := hall
      clear hall
      go_wp2_with fail
      go_ret
      refine ⟨⟨-1, rfl, ?_⟩, rfl⟩
      have hno : ¬ v ∈ D := fun hm => by
        obtain ⟨j, hj⟩ := List.getElem?_of_mem hm
        have : j < D.length := by
          rcases Nat.lt_or_ge j D.length with h' | h'
          · exact h'
          · rw [List.getElem?_eq_none h'] at hj; simp at hj
        exact HALL.out j (by have := HN.out; omega) hj
      rw [decide_eq_false hno]
      decide
theorem contw {w : World} {a : Option Addr} {cap n : Nat} {D : List Int} (v : Int) (h : LieG w a cap n (rowsU D)) (hn : n = D.length) (hM : n ≤ 1048576) :
    Calls Try.prog 67 #[.slice a n cap, .int .u64 v] w fun e w' => e = .returned (.bool (decide (v ∈ D))) ∧ w = w' := by
  have C := Lib.hid (idxw v h hn hM)
  clear h hn
  go_enter Try.func67, Try.ntmps67
  go_wp2_with fail
  refine C.out.mono ?_
  rintro e w' ⟨⟨z, rfl, hz⟩, rfl⟩
  go_wp2_with fail
  go_ret
  exact ⟨by rw [← hz]; rfl, rfl⟩
theorem clipu (a : Option Addr) (n c : Nat) (w : World) (hn : n ≤ c) (hc : c ≤ maxLen) (h0 : a = none → n = 0 ∧ c = 0) :
    Calls Try.prog 68 #[.slice a n c] w fun e w' => e = .returned (.slice a n n) ∧ w = w' := by
  unfold maxLen at hc
  cases a with
  | none =>
    obtain ⟨rfl, rfl⟩ := h0 rfl
    go_enter Try.func68, Try.ntmps68
    go_wp2
    go_ret
    exact ⟨rfl, rfl⟩
  | some a =>
    clear h0
    go_enter Try.func68, Try.ntmps68
    go_wp2
    go_ret
    exact ⟨rfl, rfl⟩
/-- These places lie there. -/
def LayP (w : World) (a : Option Addr) (n c : Nat) (L : List Pv) : Prop := L.length = n ∧ ∀ i b k, L[i]? = some (b, k) → ∃ g o, a = some ⟨g, o, none⟩ ∧ n ≤ c ∧ w.cell? ⟨g, o + i * 2, none⟩ = some (.int .i64 b) ∧ w.cell? ⟨g, o + i * 2 + 1, none⟩ = some (.int .i64 k)
theorem LayP.new {w W : World} {a : Option Addr} {n c : Nat} {L : List Pv} (h : LayP w a n c L) (hb : Below w.heap.size w W) : LayP W a n c L := by
  refine ⟨h.1, fun i b k hx => ?_⟩
  obtain ⟨g, o, h1, h2, h3, h4⟩ := h.2 i b k hx
  exact ⟨g, o, h1, h2, (hb.cell (p := ⟨g, o + i * 2, none⟩) (World.block_lt_of_cell? _ _ h3)).trans h3, (hb.cell (p := ⟨g, o + i * 2 + 1, none⟩) (World.block_lt_of_cell? _ _ h4)).trans h4⟩
theorem newsU {w : World} {v : Int} {t : TypeId} {j : Nat} {u : Value} (hj : ([.int .u64 v] : List Value)[j]? = some u) : (w.alloc (.cells #[.int .u64 v] t)).cell? ((⟨w.heap.size, 0, none⟩ : Addr).add j) = some u := by
  match j, hj with
  | 0, hj => simp at hj; subst hj; simp [Addr.add]
  | j + 1, hj => simp at hj
set_option maxHeartbeats 2000000 in
set_option maxRecDepth 100000 in
theorem strOf {w : World} {a : Option Addr} {c n : Nat} {L : List Pv} (h : LayP w a n c L) (hM : n ≤ 1000000) :
    Calls Try.prog 49 #[.slice a n c] w (IsClp w 1 (strsF L).length (rowsU (strsF L))) := by
  obtain ⟨i0, hi, hz0, hz1, hz2⟩ := info_parts info_addr
  have HN := Lib.hid h.1
  have H := Lib.hid h
  clear h
  go_enter Try.func49, Try.ntmps49
  go_wp2_with fail
  obtain ⟨C, hC⟩ : ∃ C, C = w.heap.size := ⟨_, rfl⟩
  have HC := Lib.hid hC
  have hCl : C ≤ w.heap.size := by omega
  clear hC
  go_loopw [3, 9] (fun o i wr => ∃ (k0 : Nat), k0 ≤ n ∧ i = .int .i64 k0 ∧ wr.ownsRow C 27 1 o (strsF (L.take k0)).length (rowsU (strsF (L.take k0))) ∧ Below C w wr) (fun _ i _ => n - (intOf i).toNat)
  case atStart => exact ⟨0, Nat.zero_le _, rfl, World.ownsRow_nil _ _ _ _, Below.refl _ _⟩
  case round =>
    obtain ⟨k0, hk0, rfl, hown, hbel⟩ := hrel
    have hsz := hbel.size
    have hlen := strsF_len L k0
    by_cases hlt : k0 < n
    · obtain ⟨⟨x1, x2⟩, hx⟩ : ∃ x, L[k0]? = some x := ⟨_, List.getElem?_eq_getElem (by have := HN.out; omega)⟩
      have hsn := strsF_snoc hx
      have hbw : Below w.heap.size w wr := by rw [← HC.out]; exact hbel
      obtain ⟨g, o, rfl, hnc, e0, e1⟩ := (H.out.new hbw).2 k0 x1 x2 hx
      obtain ⟨a', c', hv, hcm, hnc', h0, hlie⟩ := LieG.of (Lst.of_own hown)
      rename_i u3
      generalize strsF (L.take k0) = D at *
      obtain ⟨m, hm⟩ : ∃ m, m = D.length := ⟨_, rfl⟩
      rw [← hm] at hv hown hlen hlie hnc' h0
      have HM := Lib.hid hm
      have HSN := Lib.hid hsn
      have hkc : k0 < c := by omega
      have hb1 : ∀ o, Below C w (wr.alloc o) := fun o => hbel.alloc (by omega) o
      have HB1 := Lib.hid hb1
      have hl1 : ∀ o, LieG (wr.alloc o) a' c' m (rowsU D) := fun o => hlie.new ((Below.refl _ _).alloc (Nat.le_refl _) o)
      have HL1 := Lib.hid hl1
      have HOWN := Lib.hid hown
      have HV := Lib.hid hv
      have CV := Lib.hid (fun W => versw x1 x2 W)
      clear hx hbel hbw hm hsn hb1 hl1 hown hlie hcm h0
      subst hv
      generalize versf x1 x2 = v at *
      go_upto_region 6 with (go_at_call 32; ((with_reducible refine (CV.out _).mono ?_); rintro e w2 ⟨rfl, K2⟩))
      have hbn := (HB1.out _).trans (K2.mono (by simp; omega))
      have hown2 := own_belowP (HOWN.out.alloc _) K2
      have hl2 := (HL1.out _).new K2
      have HBN := Lib.hid hbn
      have sbn := hbn.size
      have HO2 := Lib.hid hown2
      have HL2 := Lib.hid hl2
      clear hbn hown2 hl2 K2
      by_cases hin : v = 0 ∨ v ∈ D
      · have HIN := Lib.hid hin
        have hw : (v = 0) ∨ ((v != 0) = true ∧ decide (v ∈ D) = true) := by
          by_cases h0 : v = 0
          · exact .inl h0
          · exact .inr ⟨by simpa using h0, decide_eq_true (hin.resolve_left h0)⟩
        clear hin
        rcases hw with rfl | ⟨hz, hd⟩
        · go_wp2_with fail
          go_roundw
          case rel => exact ⟨k0 + 1, by omega, by go_num, by rw [HSN.out]; unfold addS; rw [if_pos HIN.out, ← HM.out]; exact HO2.out, HBN.out⟩
          case measure => simp [intOf]; omega
        · have CC := contw v HL2.out HM.out (by omega)
          rw [hd] at CC
          have CC := Lib.hid CC
          go_wp2_with (go_at_call 67; ((with_reducible refine CC.out.mono ?_); rintro e w3 ⟨rfl, rfl⟩))
          go_roundw
          case rel => exact ⟨k0 + 1, by omega, by go_num, by rw [HSN.out]; unfold addS; rw [if_pos HIN.out, ← HM.out]; exact HO2.out, HBN.out⟩
          case measure => simp [intOf]; omega
      · have HIN := Lib.hid hin
        have hz : (v != 0) = true := by simpa using fun h => hin (.inl h)
        have CC := contw v HL2.out HM.out (by omega)
        rw [decide_eq_false (fun h => hin (.inr h))] at CC
        have CC := Lib.hid CC
        clear hin
        go_upto_region 7 with (go_at_call 67; ((with_reducible refine CC.out.mono ?_); rintro e w3 ⟨rfl, rfl⟩))
        go_wp2_with (at_builtin; refine wpList_append_lies _ rfl (.tmp 23) (.tmp 25) 116 rfl C 27 i0 (.int .u64 0) 1 8 Try.underlying116 hi hz0 hz1 hz2 rfl (by decide) (.slice a' m c') m (rowsU D) rfl (HO2.out.alloc _) ⟨w2.heap.size, 0, none⟩ 1 1 [.int .u64 v] rfl rfl (by intro j u hj; exact newsU hj) (by simp [Value.oneCell']) (by decide) (by unfold maxLen; omega) (by omega) (by simp; omega) (w2.heap.size + 1) (by simp) ?_; intro g' cap' w4 hown3 hgrow hat hltg)
        have hb3 : Below C w w4 := app_below HO2.out HBN.out (by omega) hgrow
        have HB3 := Lib.hid hb3
        have HO3 := Lib.hid hown3
        clear hb3 hown3 hgrow hat hltg
        go_wp2_with fail
        go_roundw
        case rel => exact ⟨k0 + 1, by omega, by go_num, by rw [HSN.out]; unfold addS; rw [if_neg HIN.out, List.length_append, ← HM.out, rowsU_snoc]; exact HO3.out, HB3.out⟩
        case measure => simp [intOf]; omega
    · obtain rfl : n = k0 := by omega
      rw [List.take_of_length_le (by have := HN.out; omega)] at hown hlen
      obtain ⟨a', m', c', hv, hmc, hcm, h0, hl⟩ := lst_clip hown
      have hml := hl.len
      have HLL := Lib.hid hl
      have HBB := Lib.hid hbel
      generalize (strsF L).length = m at *
      subst hml
      subst hv
      clear hown hl hbel
      go_wp2_with fail
      refine (clipu _ _ _ _ hmc hcm h0).mono ?_
      rintro e w2 ⟨rfl, rfl⟩
      go_wp2_with fail
      go_ret
      exact ⟨a', rfl, by rw [← HC.out]; exact HLL.out, by rw [← HC.out]; exact HBB.out⟩
end Go.Proofs.Ytepkpbhhiianpaa
/- Next: Stripes of places: the chapter's; odd words. -/
namespace Go.Proofs.Ytepkpbhhiianpaa
open Go.RowKit
set_option linter.unusedVariables false
theorem take_u {D : List Int} {k : Nat} {x : Int} (h : D[k]? = some x) : D.take (k + 1) = D.take k ++ [x] := by
  have hk : k < D.length := by
    rcases Nat.lt_or_ge k D.length with h' | h'
    · exact h'
    · rw [List.getElem?_eq_none h'] at h; simp at h
  rw [List.getElem?_eq_getElem hk] at h
  simp at h
  rw [List.take_succ_eq_append_getElem hk, h]
/-- What the chapter hands back: a list of its own. -/
def IsOwnU (w : World) (D : List Int) (e : Ending) (w' : World) : Prop := ∃ C v, w.heap.size ≤ C ∧ e = .returned v ∧ w'.ownsRow C 27 1 v D.length (rowsU D) ∧ Below w.heap.size w w'
theorem oddw (v : Int) (h : 0 ≤ v ∧ v < 18446744073709551616) (w : World) : Calls Try.prog 80 #[.int .u64 v] w fun e w' => e = .returned (.bool (v % 2 == 1)) ∧ w = w' := by
  have e1 : bits .and .u64 v 1 = v % 2 := mask_u64 1 (by decide) v h.1 (by omega)
  go_enter Try.func80, Try.ntmps80
  go_wp2_with fail
  go_ret
  exact ⟨rfl, rfl⟩
end Go.Proofs.Ytepkpbhhiianpaa
