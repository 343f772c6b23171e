/- The law CellsPlay. -/
import Derived.Test.YtdlniopjkioamaaSm
import Derived.Test.YtdlniopjkioamaaClAct
import Derived.Test.YtdlniopjkioamaaClL
import Derived.Laws.AppendOwnNone
import Derived.Deep.RegionHeld3
import Derived.BigRegion
import Derived.Deep.AppendLies
namespace Go.Proofs.Ytdlniopjkioamaa
open Go.RowKit
set_option linter.unusedVariables false

theorem list_of {P : Nat → Int → Int → Prop} : ∀ n, (∀ i, i < n → ∃ x v, P i x v) → ∃ L : List (Int × Int), L.length = n ∧ ∀ i z, L[i]? = some z → P i z.1 z.2
  | 0, _ => ⟨[], rfl, fun i z h => by simp at h⟩
  | n + 1, h => by
    obtain ⟨L, hl, hx⟩ := list_of n (fun i hi => h i (by omega))
    obtain ⟨x, v, hp⟩ := h n (by omega)
    refine ⟨L ++ [(x, v)], by simp [hl], fun i z hz => ?_⟩
    rcases Nat.lt_or_ge i n with hi | hi
    · rw [List.getElem?_append_left (by omega)] at hz
      exact hx i z hz
    · rw [List.getElem?_append_right (by omega), hl] at hz
      have e : i - n = 0 := by
        rcases Nat.eq_zero_or_pos (i - n) with e | e
        · exact e
        · rw [List.getElem?_eq_none (by simp; omega)] at hz; simp at hz
      rw [e] at hz
      simp at hz
      subst hz
      rw [show i = n by omega]
      exact hp
theorem reads_words {w : World} {t e : TypeId} {a : Option Addr} {len cap : Nat} (ht : Try.prog.underlying t = some (.slice e)) (hk : leaves Try.prog 9 e = some [.inl .u64, .inl .u64]) (hc : Try.prog.cellsOf e = 2) (h : Reads Try.prog w t (.slice a len cap)) :
    ∃ L : List (Int × Int), L.length = len ∧ len ≤ cap ∧ cap ≤ maxLen ∧ (∀ x ∈ L, isU x.1 ∧ isU x.2) ∧ (a = none → cap = 0) ∧ ∃ b off, (0 < len → a = some ⟨b, off, none⟩) ∧ ∀ i z, L[i]? = some z → w.cell? ⟨b, off + i * 2, none⟩ = some (.int .u64 z.1) ∧ w.cell? ⟨b, off + i * 2 + 1, none⟩ = some (.int .u64 z.2) := by
  rcases Reads.slice ht hk h with ⟨rfl, rfl, rfl⟩ | ⟨b, off, sp, rfl, h1, h2, h3, h4⟩
  · exact ⟨[], rfl, Nat.le_refl _, by simp [maxLen], fun x hx => by simp at hx, fun _ => rfl, 0, 0, fun h => by omega, fun i z hz => by simp at hz⟩
  · obtain ⟨L, hl, hx⟩ := list_of (P := fun i x v => (isU x ∧ isU v) ∧ w.cell? ⟨b, off + i * 2, none⟩ = some (.int .u64 x) ∧ w.cell? ⟨b, off + i * 2 + 1, none⟩ = some (.int .u64 v)) len (fun i hi => by
      obtain ⟨l, hl, hll, hx⟩ := h4 i (by omega)
      obtain ⟨_, _, rfl, ⟨x, rfl, q1⟩, g1⟩ := all2_cons hl
      obtain ⟨_, _, rfl, ⟨v, rfl, q2⟩, g2⟩ := all2_cons g1
      obtain rfl := all2_nil g2
      rw [hc] at hx
      exact ⟨x, v, ⟨wf_isU q1, wf_isU q2⟩, hx 0 _ rfl, hx 1 _ rfl⟩)
    refine ⟨L, hl, h1, h2, fun x hm => ?_, fun h => by simp at h, b, off, fun h => by rw [h3 (by omega) (by omega)], fun i z hz => (hx i z hz).2⟩
    obtain ⟨i, hi⟩ := List.mem_iff_getElem?.mp hm
    exact (hx i x hi).1
theorem flat2_get {L : List (Int × Int)} {j : Nat} {u : Value} (h : (flat2 L)[j]? = some u) : ∃ i z, L[i]? = some z ∧ ((j = i * 2 ∧ u = .int .u64 z.1) ∨ (j = i * 2 + 1 ∧ u = .int .u64 z.2)) := by
  have hj : j < L.length * 2 := by
    rcases Nat.lt_or_ge j (L.length * 2) with h' | h'
    · exact h'
    · rw [List.getElem?_eq_none (by rw [flat2_len]; exact h')] at h; simp at h
  have hi : j / 2 < L.length := by omega
  refine ⟨j / 2, L[j / 2], List.getElem?_eq_getElem hi, ?_⟩
  obtain ⟨e0, e1⟩ := flat2_at (List.getElem?_eq_getElem hi)
  rcases Nat.mod_two_eq_zero_or_one j with hm | hm
  · have e : j = j / 2 * 2 := by omega
    rw [e, e0] at h
    injection h with h
    exact .inl ⟨e, h.symm⟩
  · have e : j = j / 2 * 2 + 1 := by omega
    rw [e, e1] at h
    injection h with h
    exact .inr ⟨e, h.symm⟩
theorem flat2_one {L : List (Int × Int)} {u : Value} (h : u ∈ flat2 L) : u.oneCell' = true := by
  obtain ⟨j, hj⟩ := List.mem_iff_getElem?.mp h
  obtain ⟨i, z, _, ⟨_, rfl⟩ | ⟨_, rfl⟩⟩ := flat2_get hj <;> rfl
/-- 'append(nil, x...)' of words. -/
theorem wpList_append_flat {P : Program} (w : World) {ops : Array Oper} {rest : List Oper} {o : Oper} {a : Act} {Q : Exit → Act → World → Prop} (hgd : o.guard = none) (s x : Operand) (t : TypeId)
    (ho : o.op = .call { callee := .builtin .append, args := #[s, x], argTypes := #[t, t] })
    (e : TypeId) (ht : P.underlying t = some (.slice e)) (hinfo : (P.info? e).map (fun i => (i.zero, i.size, i.bytes)) = some (some (.agg #[.int .u64 0, .int .u64 0]), 2, 16))
    (hs : a.eval s = .slice none 0 0) (A : Option Addr) (n c : Nat) (L : List (Int × Int)) (hn : L.length = n) (hx : a.eval x = .slice A n c) (hc0 : A = none → c = 0 ∧ n = 0)
    (hcell : ∀ ad, A = some ad → ∀ j u, (flat2 L)[j]? = some u → w.cell? (ad.add j) = some u) (hlen : n ≤ 1048576)
    (h : ∀ v' w', w'.ownsRow w.heap.size e 2 v' L.length (flat2 L) → Below w.heap.size w w' → wpList P ops Q rest (a.put o.dst v') w') : wpList P ops Q (o :: rest) a w := by
  obtain ⟨i0, hi, hz0, hz1, hz2⟩ := info_parts hinfo
  have hown : w.ownsRow w.heap.size e 2 (.slice none 0 0) 0 [] := World.ownsRow_nil _ _ _ _
  cases A with
  | none =>
    obtain ⟨rfl, rfl⟩ := hc0 rfl
    obtain rfl : L = [] := List.eq_nil_of_length_eq_zero hn
    refine wpList_append_own_none hgd s x t ho w.heap.size e i0 2 ht hi (.slice none 0 0) 0 [] hs hown hx ?_
    exact h _ w hown (Below.refl _ _)
  | some ad =>
    refine wpList_append_own w hgd s x t ho w.heap.size e i0 (.agg #[.int .u64 0, .int .u64 0]) 2 16 ht hi hz0 hz1 hz2 rfl (by decide) (.slice none 0 0) 0 [] hs hown ad n c (flat2 L) hx (by rw [flat2_len, hn]) (hcell ad rfl) (fun u hu => flat2_one hu) (by unfold maxLen; omega) (by omega) (Nat.le_refl _) ?_
    intro v' w' h1 h2 h3
    rw [List.nil_append, Nat.zero_add, ← hn] at h1
    exact h v' w' h1 ((Below.refl w.heap.size w).grown h2 (Nat.le_refl _) (fun k e => by simp [Value.ownBlock] at e))
theorem own_shape {w : World} {B size n : Nat} {e : TypeId} {v : Value} {xs : List Value} (h : w.ownsRow B e size v n xs) : ∃ a c, v = .slice a n c := by
  rcases h.2 with ⟨rfl, rfl⟩ | ⟨g, cap, cur, rfl, _⟩
  · exact ⟨_, _, rfl⟩
  · exact ⟨_, _, rfl⟩
theorem undrew {w w1 : World} {row : Option Nat} (h : w.drew.grownBy w1 row) : w.grownBy w1 row := ⟨h.os, h.tape, h.output, h.size, h.block⟩
theorem isL_list (M : List (Int × Int)) (hU : ∀ x ∈ M, isU x.1 ∧ isU x.2) : IsL (listL M) (wordsF M) := by
  have key : ∀ (M L : List (Int × Int)) (f : Int → Int), (∀ x ∈ M, isU x.1 ∧ isU x.2) → IsL L f → IsL (M.foldl (fun L x => putL L x.1 x.2) L) (M.foldl (fun f x => upd f x.1 x.2) f) := by
    intro M
    induction M with
    | nil => intro L f _ h; exact h
    | cons x r ih =>
      intro L f hu h
      exact ih _ _ (fun y hy => hu y (by simp [hy])) (h.put (hu x (by simp)).1 (hu x (by simp)).2)
  exact key M [] (fun _ => 0) hU IsL.nil
theorem cnew_any (L : List (Int × Int)) (hU : ∀ x ∈ L, isU x.1 ∧ isU x.2) (w : World) {B : Nat} {e : TypeId} {v : Value} (h : w.ownsRow B e 2 v L.length (flat2 L)) (hL : L.length ≤ 1000000) :
    Calls Try.prog 5 #[v] w fun e w' => e = .returned (.pointer (some ⟨w.heap.size, 0, none⟩)) ∧ ClsPost w.heap.size w w.heap.size (wordsF L) 0 0 0 0 0 w' := by
  obtain ⟨_, ⟨rfl, h0⟩ | ⟨g, cap, rfl, hB, hg, hn, hc, hx⟩⟩ := Lst.of_own h
  · obtain rfl : L = [] := List.eq_nil_of_length_eq_zero h0
    exact znew w
  · exact new_words L hU g 0 cap w hL hn (fun i x hi => by
      rw [Nat.zero_add]
      exact ⟨(hx _ _ (flat2_at hi).1).1, (hx _ _ (flat2_at hi).2).1⟩) hg
def PlR (N : Nat) (w : World) (p r k : Nat) (wr : World) : Prop := ∃ f kk a x y L n S T, CP wr p r f k kk a x y L n S T ∧ (∀ j, S j ∨ T j → N ≤ j) ∧ n ≤ k + 1000000 ∧ Below N w wr
def PlM (N : Nat) (w : World) (p r k : Nat) (xa : Int) (wr : World) : Prop := ∃ f kk x y L n S T, CP wr p r f k kk xa x y L n S T ∧ (∀ j, S j ∨ T j → N ≤ j) ∧ n ≤ k + 1000000 ∧ Below N w wr
theorem PlM.r {N : Nat} {w : World} {p r k : Nat} {xa : Int} {wr : World} (h : PlM N w p r k xa wr) : PlR N w p r k wr := by
  obtain ⟨f, kk, x, y, L, n, S, T, h⟩ := h
  exact ⟨f, kk, xa, x, y, L, n, S, T, h⟩
theorem PlM.new {N : Nat} {w : World} {p r k : Nat} {xa : Int} {wr W : World} (h : PlM N w p r k xa wr) (hb : Below wr.heap.size wr W) (hN : N ≤ wr.heap.size) : PlM N w p r k xa W := by
  obtain ⟨f, kk, x, y, L, n, S, T, h1, h2, h3, h4⟩ := h
  exact ⟨f, kk, x, y, L, n, S, T, h1.new hb, h2, h3, h4.trans (hb.mono hN)⟩
theorem PlR.new {N : Nat} {w : World} {p r k : Nat} {wr W : World} (h : PlR N w p r k wr) (hb : Below wr.heap.size wr W) (hN : N ≤ wr.heap.size) : PlR N w p r k W := by
  obtain ⟨f, kk, a, x, y, L, n, S, T, h1, h2, h3, h4⟩ := h
  exact ⟨f, kk, a, x, y, L, n, S, T, h1.new hb, h2, h3, h4.trans (hb.mono hN)⟩
theorem PlR.below {N : Nat} {w : World} {p r k : Nat} {wr : World} (h : PlR N w p r k wr) : Below N w wr := by
  obtain ⟨f, kk, a, x, y, L, n, S, T, h1, h2, h3, h4⟩ := h
  exact h4
theorem PlR.same {N : Nat} {w : World} {p r k : Nat} {wr : World} (h : PlR N w p r k wr) (hN : N ≤ wr.heap.size) (hk : k ≤ 300) {kd xa xv xi : Int} (hkd : 0 ≤ kd ∧ kd ≤ 255) (ux : isU xa) (uv : isU xv) (ui : isU xi) :
    Calls Try.prog 8 #[.pointer (some ⟨p, 0, none⟩), .pointer (some ⟨r, 0, none⟩), .agg #[.int .u8 kd, .int .u64 xa, .int .u64 xv, .int .u64 xi]] wr fun e w' => e = .returned (.bool true) ∧ PlM N w p r (k + 1) xa w' ∧ N ≤ w'.heap.size := by
  obtain ⟨f, kk, a, x, y, L, n, S, T, h1, h2, h3, h4⟩ := h
  refine (same_any h1 (by omega) (by omega) (by omega) hkd ux uv ui).mono ?_
  rintro e w' ⟨rfl, f', k', x', y', L', S', T', q, hk', ho⟩
  have hb := hk'.to_below (B := N) (fun j _ s => h2 j s) hN
  exact ⟨rfl, ⟨f', k', x', y', L', n + 1, S', T', q, fun j s => (ho j s).elim (h2 j) (fun h => by omega), by omega, h4.trans hb⟩, Nat.le_trans hN hb.size⟩
theorem PlR.all {N : Nat} {w : World} {p r k : Nat} {wr : World} (h : PlR N w p r k wr) (hk : k ≤ 300) :
    Calls Try.prog 7 #[.pointer (some ⟨p, 0, none⟩), .pointer (some ⟨r, 0, none⟩)] wr fun e w' => e = .returned (.bool true) ∧ Below wr.heap.size wr w' := by
  obtain ⟨f, kk, a, x, y, L, n, S, T, h1, h2, h3, h4⟩ := h
  exact same_all h1 (by omega)
theorem held_mono {P : Program} {md : Region.Mode} {ops : Array Oper} {Q : Exit → Act → World → Prop} {S S' : World → Prop} (hS : ∀ w, S' w → S w) : ∀ (fuel : Nat) (listed : Array Bool) (a : Act) (w : World), wpAnyH P md ops Q S' fuel listed a w → wpAnyH P md ops Q S fuel listed a w
  | 0, _, _, _, h => h
  | fuel + 1, _, _, _, h => ⟨h.1, fun i hi => wpOp_mono (fun a' w' h' => ⟨hS w' h'.1, held_mono hS fuel _ a' w' h'.2⟩) (h.2 i hi)⟩
theorem shut_eq {P : Program} {md : Region.Mode} {ops : Array Oper} {Q : Exit → Act → World → Prop} {S : World → Prop} {fuel : Nat} {l : Array Bool} {K : Act → World → Prop} (hA : Shut (∀ a w, S w → (S w → wpAnyH P md ops Q S fuel l a w) → K a w)) (S' : World → Prop) (hS : ∀ w, S' w → S w) :
    Shut (∀ a w, S w → (S w → wpAnyH P md ops Q S fuel l a w) → K a w) = Shut (∀ a w, S' w → (S' w → wpAnyH P md ops Q S' fuel l a w) → K a w) :=
  propext ⟨fun _ => fun a w h1 h2 => hA a w (hS w h1) (fun _ => held_mono hS _ _ _ _ (h2 h1)), fun _ => hA⟩
def QT (w : World) (ta : Option Addr) (n k : Nat) : Prop := ∀ g, ta = some ⟨g, 0, none⟩ → ∀ i, k ≤ i → i < n → ∃ u, w.cell? ⟨g, i * 2 + 1, none⟩ = some u ∧ w.frozen? ⟨g, i * 2 + 1, none⟩ = false
set_option maxHeartbeats 8000000 in
set_option maxRecDepth 100000 in
theorem walk_CellsPlay (a0 : Option Addr) (l0 c0 : Nat) (a1 : Option Addr) (l1 c1 : Nat) (w : World) (w0 : Reads Try.prog w 22 (.slice a0 l0 c0)) (w1 : Reads Try.prog w 23 (.slice a1 l1 c1)) :
    Calls Try.prog 3 #[.slice a0 l0 c0, .slice a1 l1 c1] w fun e w' => e = .returned (.bool true) ∧ Below w.heap.size w w' := by
  have HSN := Lib.hid sort_none
  obtain ⟨L, hL, h01, h02, hU, hnil, b0, o0, ha0, hx0⟩ := reads_words (e := 29) Try.underlying22 (by kernel_rfl) (by kernel_rfl) w0
  have hrd := reads_acts (e := 38) Try.underlying23 (by kernel_rfl) (by kernel_rfl) w1
  have hm : l1 ≤ 9223372036854775807 := by
    rcases hrd with ⟨_, rfl, _⟩ | ⟨b, off, h1, h2, _⟩
    · omega
    · unfold maxLen at h2; omega
  unfold maxLen at h02
  clear w0 w1
  have HX0 := Lib.hid hx0
  have HA0 := Lib.hid ha0
  have HR := Lib.hid hrd
  have HU := Lib.hid hU
  have HL := Lib.hid hL
  have HNIL := Lib.hid hnil
  clear hx0 ha0 hrd hU hnil hL
  by_cases hbig : 20 < l0
  · have hd : decide (20 < (l0 : Int)) = true := decide_eq_true (by omega)
    go_enter Try.func3, Try.ntmps3
    go_wp2_with (go_at_call 4; refine (lives05 HSN.out _).mono ?_; rintro e w' ⟨rfl, hk⟩)
    go_ret
    exact ⟨rfl, hk⟩
  have hd : decide (20 < (l0 : Int)) = false := decide_eq_false (by omega)
  have hs0 : l0 ≤ 20 := by omega
  by_cases hbig1 : 300 < l1
  · have hd1 : decide (300 < (l1 : Int)) = true := decide_eq_true (by omega)
    go_enter Try.func3, Try.ntmps3
    go_wp2_with (go_at_call 4; refine (lives05 HSN.out _).mono ?_; rintro e w' ⟨rfl, hk⟩)
    go_ret
    exact ⟨rfl, hk⟩
  have hd1 : decide (300 < (l1 : Int)) = false := decide_eq_false (by omega)
  have hs1 : l1 ≤ 300 := by omega
  clear hbig hbig1 hm
  obtain ⟨N, hN⟩ : ∃ N, N = w.heap.size := ⟨_, rfl⟩
  have HN := Lib.hid hN
  have hNl : N ≤ w.heap.size := by omega
  have hbN : 0 < l0 → b0 < N := fun h => by
    obtain ⟨z, hz⟩ : ∃ z, L[0]? = some z := ⟨_, List.getElem?_eq_getElem (by rw [HL.out]; exact h)⟩
    have := World.block_lt_of_cell? _ _ (HX0.out 0 z hz).1
    rw [HN.out]; exact this
  have HBN := Lib.hid hbN
  clear hN hbN
  obtain ⟨i0, hi, hz0, hz1, hz2⟩ := info_parts info_rw
  go_enter Try.func3, Try.ntmps3
  go_wp2_with fail
  go_loopw [5, 6] (fun ov iv wr => ∃ k : Nat, k ≤ l0 ∧ iv = .int .i64 k ∧ wr.ownsRow N 30 2 ov (L.take k).length (flat2 (L.take k)) ∧ Below N w wr) (fun _ iv _ => l0 - (intOf iv).toNat)
  case atStart => exact ⟨0, Nat.zero_le _, rfl, World.ownsRow_nil _ _ _ _, Below.refl _ _⟩
  case round =>
    obtain ⟨k, hk, rfl, hown, hnx⟩ := hrel
    by_cases hlt : k < l0
    · obtain ⟨z, hz⟩ : ∃ z, L[k]? = some z := ⟨_, List.getElem?_eq_getElem (by rw [HL.out]; exact hlt)⟩
      obtain ⟨q0, q1⟩ := HX0.out k z hz
      obtain rfl := HA0.out (by omega)
      have hbl := HBN.out (by omega)
      have x0 : wr.cell? ⟨b0, o0 + k * 2, none⟩ = some (.int .u64 z.1) := (hnx.cell (p := ⟨b0, o0 + k * 2, none⟩) hbl).trans q0
      have x1 : wr.cell? ⟨b0, o0 + k * 2 + 1, none⟩ = some (.int .u64 z.2) := (hnx.cell (p := ⟨b0, o0 + k * 2 + 1, none⟩) hbl).trans q1
      have hkc : k < c0 := by omega
      have hkl : (L.take k).length = k := by rw [List.length_take, HL.out]; omega
      rw [hkl] at hown
      have HK := Lib.hid (show L.take (k + 1) = L.take k ++ [z] by
        rw [List.take_succ_eq_append_getElem (by rw [HL.out]; exact hlt)]
        rw [List.getElem?_eq_getElem (by rw [HL.out]; exact hlt)] at hz
        simp at hz
        rw [hz])
      clear q0 q1 hz hkl
      obtain ⟨av, cap, hv⟩ := own_shape hown
      have hnz : N ≤ wr.heap.size := by have := hnx.size; omega
      rw [hv]
      rw [hv] at hown
      clear hv
      have HO := Lib.hid hown
      have HX := Lib.hid hnx
      clear hown hnx
      go_wp2_with fail
      go_region_law (refine step_append_lies _ rfl (.tmp 27) (.tmp 39) 25 rfl N 30 i0 _ 2 16 Try.underlying25 hi hz0 hz1 hz2 rfl (by decide) (.slice av k cap) k (flat2 (L.take k)) (by simp [Act.eval]) (HO.out.alloc _) ⟨wr.heap.size, 0, none⟩ 1 1 [.int .u64 z.1, .int .u64 z.2] (by simp [Act.eval]) rfl (by intro j u hj; exact new2c hj) (by simp [Value.oneCell']) (by decide) (by unfold maxLen; omega) (by omega) (by simp; omega) (wr.heap.size + 1) (by simp) ?_; intro g cap' w1 own1 hgrow hg hltg; have D := Lib.hid own1; have DB := Lib.hid (app_below HO.out HX.out hNl (undrew hgrow)); clear hgrow hg hltg own1)
      all_goals (try go_wp2_with fail)
      all_goals
        go_roundw
        case rel => exact ⟨k + 1, by omega, by go_num, by rw [HK.out, flat2_snoc, List.length_append]; rw [show (L.take k).length = k by rw [List.length_take, HL.out]; omega]; exact D.out, DB.out⟩
        case measure => simp [intOf]; omega
    · obtain rfl : l0 = k := by omega
      rw [show L.take l0 = L from by rw [← HL.out]; exact List.take_length] at hown
      have HOWN := Lib.hid hown
      have HNX := Lib.hid hnx
      have hszr : N ≤ wr.heap.size := by have := hnx.size; omega
      clear hown hnx
      have hd' : decide ((l0 : Int) < (l0 : Int)) = false := decide_eq_false (by omega)
      go_wp2_with (at_builtin; refine wpList_append_flat _ rfl _ _ 22 rfl 29 Try.underlying22 info_cw rfl a0 l0 c0 L HL.out rfl (fun h => by have := HNIL.out h; omega) ?g1 (by omega) ?_)
      case g1 =>
        intro ad hA j u hj
        obtain ⟨i, z, hz, hcase⟩ := flat2_get hj
        have hil : i < l0 := by
          rcases Nat.lt_or_ge i L.length with h' | h'
          · rw [HL.out] at h'; exact h'
          · rw [List.getElem?_eq_none h'] at hz; simp at hz
        have hA2 := HA0.out (by omega)
        rw [hA2] at hA
        injection hA with hA
        subst hA
        rw [Addr.add_lit]
        obtain ⟨q0, q1⟩ := HX0.out i z hz
        have hbl := HBN.out (by omega)
        rcases hcase with ⟨rfl, rfl⟩ | ⟨rfl, rfl⟩
        · exact (HNX.out.cell (p := ⟨b0, o0 + i * 2, none⟩) hbl).trans q0
        · exact (HNX.out.cell (p := ⟨b0, o0 + i * 2 + 1, none⟩) hbl).trans q1
      intro tv w8 hownt hb8
      have hL8 : L.length ≤ 1000000 := by rw [HL.out]; omega
      have CN := Lib.hid (cnew_any L HU.out w8 hownt hL8)
      have hm8 : RL w8 u5 L (fun j => N ≤ j) := (RL.of_own HOWN.out (T := fun j => N ≤ j) (fun j h _ => h)).keep (Keeps.of_new (S := fun _ => False) hb8) (fun _ _ s => s)
      have hb8' : Below N w w8 := HNX.out.trans (hb8.mono hszr)
      have hs8 : N ≤ w8.heap.size := Nat.le_trans hszr hb8.size
      obtain ⟨ta, tc, rfl, htc, htg⟩ : ∃ ta tc, tv = .slice ta l0 tc ∧ l0 ≤ tc ∧ (0 < l0 → ∃ g, ta = some ⟨g, 0, none⟩ ∧ wr.heap.size ≤ g ∧ g < w8.heap.size) ∧ QT w8 ta l0 0 := by
        obtain ⟨_, ⟨rfl, h0⟩ | ⟨g, cap, rfl, hB, hg, hn, hc, hx⟩⟩ := Lst.of_own hownt
        · rw [HL.out] at h0
          subst h0
          exact ⟨none, 0, rfl, Nat.le_refl _, fun h => by omega, fun g e => by simp at e⟩
        · rw [HL.out] at hn ⊢
          refine ⟨_, cap, rfl, hn, fun _ => ⟨g, rfl, hB, hg⟩, fun g' e i _ hi => ?_⟩
          injection e with e
          injection e with e
          subst e
          have := hx _ _ (flat2_at (List.getElem?_eq_getElem (by rw [HL.out]; exact hi))).2
          exact ⟨_, this⟩
      obtain ⟨htg, hqt⟩ := htg
      have HB8 := Lib.hid hb8'
      have HM8 := Lib.hid hm8
      have HTG := Lib.hid htg
      have HQT := Lib.hid hqt
      clear hownt hb8 hb8' hm8 htg hqt HOWN HNX hi hz0 hz1 hz2
      go_wp2_with (go_at_call 5; ((with_reducible refine CN.out.mono ?_); rintro e w9 ⟨rfl, hb9, hc9⟩; have CR := Lib.hid (rg_new (HM8.out.keep (Keeps.of_new (S := fun _ => False) hb9) (fun _ _ s => s)) hL8); have HB9 := Lib.hid hb9; have HC9 := Lib.hid hc9; clear hb9 hc9))
      refine CR.out.mono ?_
      rintro e w10 ⟨rfl, hb10, T, hg10, hT⟩
      obtain ⟨n9, S, hc9, hS, hn9⟩ := HC9.out
      have hs9 := HB9.out.size
      have hs10 := hb10.size
      have hcp : CP w10 w8.heap.size w9.heap.size (wordsF L) 0 0 0 0 0 (listL L) n9 S T := by
        refine ⟨IsCells.keep hc9 (Keeps.of_new (S := fun _ => False) hb10) (fun _ _ s => s), hg10, isL_list L HU.out, fun j s t => ?_, fun j s => ?_, ?_⟩
        · have := (hS j s).2; have := hT j t; omega
        · have := (hS j s).2; omega
        · have := listL_len L; rw [HL.out] at this; omega
      have hpl : PlR N w w8.heap.size w9.heap.size 0 w10 := ⟨_, _, _, _, _, _, n9, S, T, hcp, fun j s => by
        rcases s with s | s
        · have := (hS j s).1; omega
        · have := hT j s; omega, by omega, (HB8.out.trans (HB9.out.mono hs8)).trans (hb10.mono (by omega))⟩
      have hqt10 : QT w10 ta l0 0 := fun g e i hi hil => by
        obtain ⟨u, q1, q2⟩ := HQT.out g e i hi hil
        have hlt := World.block_lt_of_cell? _ _ q1
        have k := Keeps.of_new (S := fun _ => False) (HB9.out.trans (hb10.mono hs9))
        exact ⟨u, k.cell (p := ⟨g, i * 2 + 1, none⟩) (fun s => s) q1, k.frozen (p := ⟨g, i * 2 + 1, none⟩) (fun s => s) hlt q2⟩
      have hkeepT : ∀ W, Keeps (fun j => ta = some ⟨j, 0, none⟩ ∧ 0 < l0) w10 W → PlR N w w8.heap.size w9.heap.size 0 W := fun W hk => by
        have hta : ∀ j, (ta = some ⟨j, 0, none⟩ ∧ 0 < l0) → wr.heap.size ≤ j ∧ j < w8.heap.size := fun j e => by
          obtain ⟨g, e2, h3, h4⟩ := HTG.out e.2
          have e1 := e.1
          rw [e2] at e1
          injection e1 with e1
          injection e1 with e1
          omega
        obtain ⟨f, kk, a, x, y, L', n, S', T', q, h2, h3, h4⟩ := hpl
        refine ⟨_, _, _, _, _, _, n9, S, T, hcp.keep hk (fun j s e => ?_) (fun j t e => ?_), fun j s => ?_, by omega, h4.trans (hk.to_below (fun j _ e => by have := (hta j e).1; omega) (by omega))⟩
        · have := (hS j s).1; have := (hta j e).2; omega
        · have := hT j t; have := (hta j e).2; omega
        · rcases s with s | s
          · have := (hS j s).1; omega
          · have := hT j s; omega
      have HKT := Lib.hid hkeepT
      have HQT10 := Lib.hid hqt10
      generalize w8.heap.size = P at *
      generalize w9.heap.size = R at *
      have hs10' : N ≤ w10.heap.size := by omega
      clear hcp hpl hqt10 hkeepT hb10 hg10 hT hc9 hS hn9 HB9 HC9 HM8 HQT CN CR
      go_wp2_with fail
      go_loopw [10] (fun i W => ∃ k : Nat, k ≤ l0 ∧ i = .int .i64 k ∧ Keeps (fun j => ta = some ⟨j, 0, none⟩ ∧ 0 < l0) w10 W ∧ QT W ta l0 k) (fun i _ => l0 - (intOf i).toNat)
      case atStart => exact ⟨0, Nat.zero_le _, rfl, Keeps.refl _ _, HQT10.out⟩
      case round =>
        obtain ⟨k, hk2, rfl, hkp, hqk⟩ := hrel
        by_cases hlt2 : k < l0
        · obtain ⟨g, rfl, hgB, hgl⟩ := HTG.out (by omega)
          obtain ⟨u, q1, q2⟩ := hqk g rfl k (Nat.le_refl _) hlt2
          have hkt : k < tc := by omega
          have HKP := Lib.hid hkp
          have HQK := Lib.hid hqk
          clear hkp hqk
          go_wp2_with fail
          go_roundw
          case rel =>
            refine ⟨k + 1, by omega, by go_num, HKP.out.setCell (.inl ⟨rfl, by omega⟩) _, fun g' e i hi hil => ?_⟩
            injection e with e
            injection e with e
            subst e
            obtain ⟨u', r1, r2⟩ := HQK.out g rfl i (by omega) hil
            exact ⟨u', by rw [World.cell?_setCell_other _ _ _ _ (by intro e; injection e with _ e; omega)]; exact r1, by simpa using r2⟩
          case measure => simp [intOf]; omega
        · obtain rfl : l0 = k := by omega
          have hR0 := HKT.out _ hkp
          have hsz0 : N ≤ wr.heap.size := by have := hkp.size; omega
          have CS := Lib.hid (hR0.all (by omega))
          have HR0 := Lib.hid hR0
          clear hkp hqk HQT10 HKT HTG hR0
          go_wp2_with (go_at_call 7; ((with_reducible refine CS.out.mono ?_); rintro e w11 ⟨rfl, hk11⟩))
          have hR1 := HR0.out.new hk11 hsz0
          have hsz1 : N ≤ w11.heap.size := Nat.le_trans hsz0 hk11.size
          clear hk11 HR0 CS hsz0
          go_wp2_with fail
          go_loopw [11] (fun i W => ∃ j : Nat, j ≤ l1 ∧ i = .int .i64 j ∧ PlR N w P R j W ∧ N ≤ W.heap.size) (fun i _ => l1 - (intOf i).toNat)
          case atStart => exact ⟨0, Nat.zero_le _, rfl, hR1, hsz1⟩
          case round =>
            obtain ⟨j, hj, rfl, hR, hsz⟩ := hrel
            clear hR1 hsz1
            by_cases hlt3 : j < l1
            · rcases HR.out with ⟨-, e0, -⟩ | ⟨b, off, h1, h2, h3, h4⟩
              · omega
              obtain ⟨kd, xa, xv, xi, hkd, ux, uv, ui, d0, d1, d2, d3⟩ := h4 j (by omega)
              obtain rfl := h3 (by omega)
              have hbl : b < N := by have := World.block_lt_of_cell? _ _ d0; rw [HN.out]; exact this
              have LY : Hid (∀ X, Below N w X → X.cell? ⟨b, off + j * 4, none⟩ = some (.int .u8 kd) ∧ X.cell? ⟨b, off + j * 4 + 1, none⟩ = some (.int .u64 xa) ∧ X.cell? ⟨b, off + j * 4 + 2, none⟩ = some (.int .u64 xv) ∧ X.cell? ⟨b, off + j * 4 + 3, none⟩ = some (.int .u64 xi)) := Lib.hid (fun X hb =>
                ⟨(hb.cell (p := ⟨b, off + j * 4, none⟩) hbl).trans d0, (hb.cell (p := ⟨b, off + j * 4 + 1, none⟩) hbl).trans d1, (hb.cell (p := ⟨b, off + j * 4 + 2, none⟩) hbl).trans d2, (hb.cell (p := ⟨b, off + j * 4 + 3, none⟩) hbl).trans d3⟩)
              have hR' : PlR N w P R j wr.drew := hR.new ((Below.refl _ _).drew) hsz
              have C1 := Lib.hid (hR'.same hsz (by omega) hkd ux uv ui)
              have hjc : j < c1 := by omega
              have UX := Lib.hid ux
              clear d0 d1 d2 d3 h1 h2 h3 h4 hkd ux uv ui hbl HR
              obtain ⟨d0, d1, d2, d3⟩ := LY.out _ hR'.below
              clear hR hR'
              go_wp2_with fail
              go_region_held3 (fun w' => w'.cell? ⟨b, off + j * 4, none⟩ = some (.int .u8 kd) ∧ w'.cell? ⟨b, off + j * 4 + 1, none⟩ = some (.int .u64 xa) ∧ w'.cell? ⟨b, off + j * 4 + 2, none⟩ = some (.int .u64 xv) ∧ w'.cell? ⟨b, off + j * 4 + 3, none⟩ = some (.int .u64 xi))
                (first | exact ⟨by assumption, by assumption, by assumption, by assumption⟩ | exact ⟨by assumption, by assumption, by assumption, by assumption, by assumption, by assumption, by assumption, by assumption⟩)
                (first
                  | (go_at_call 8; ((with_reducible refine C1.out.mono ?_); rintro e w2 ⟨rfl, hM, hs2⟩; clear d0 d1 d2 d3 C1; obtain ⟨d0, d1, d2, d3⟩ := LY.out _ hM.r.below; obtain ⟨f, kk, x, y, L2, n2, S2, T2, hcp, -, -, -⟩ := id hM; obtain ⟨-, -, g2, g3, g4, g5, -, -, -⟩ := id hcp.g; have C2 := Lib.hid (last_any hcp.c); have HCP := Lib.hid hcp; have HM := Lib.hid hM; clear hM hcp; have hA : Shut (∀ (a : Act) (w' : World), _ → (_ → wpAnyH _ _ _ _ _ _ _ a w') → _) := (by assumption); have eqn := shut_eq hA (fun w' => w'.cell? ⟨b, off + j * 4, none⟩ = some (.int .u8 kd) ∧ w'.cell? ⟨b, off + j * 4 + 1, none⟩ = some (.int .u64 xa) ∧ w'.cell? ⟨b, off + j * 4 + 2, none⟩ = some (.int .u64 xv) ∧ w'.cell? ⟨b, off + j * 4 + 3, none⟩ = some (.int .u64 xi) ∧ w'.cell? ⟨R, 2, none⟩ = some (.int .u8 kk) ∧ w'.cell? ⟨R, 3, none⟩ = some (.int .u64 xa) ∧ w'.cell? ⟨R, 4, none⟩ = some (.int .u64 x) ∧ w'.cell? ⟨R, 5, none⟩ = some (.int .u64 y)) (fun w' h => ⟨h.1, h.2.1, h.2.2.1, h.2.2.2.1⟩); clear hA; simp only [eqn] at *; clear eqn))
                  | (go_at_call 9; ((with_reducible refine C2.out.mono ?_); rintro e w3 ⟨rfl, hk3⟩; have hcp3 := HCP.out.new hk3; replace g2 := hcp3.g.c2; replace g3 := hcp3.g.c3; replace g4 := hcp3.g.c4; replace g5 := hcp3.g.c5; have hM3 := HM.out.new hk3 hs2; clear d0 d1 d2 d3; obtain ⟨d0, d1, d2, d3⟩ := LY.out _ hM3.r.below; have C3 := Lib.hid (peek_any hcp3.c xa UX.out); have C4 := Lib.hid (rgc_peek hcp3.g (hcp3.l.peek UX.out)); have HM3 := Lib.hid hM3; have hs3 : N ≤ w3.heap.size := Nat.le_trans hs2 hk3.size; clear hk3 hcp3 hM3 HM C2))
                  | (go_at_call 10; ((with_reducible refine C3.out.mono ?_); rintro e w4 ⟨rfl, rfl⟩))
                  | (go_at_call 11; ((with_reducible refine C4.out.mono ?_); rintro e w5 ⟨rfl, nn, rfl⟩; have kn := drewN_below w3 nn; replace g2 := (kn.cell (p := ⟨R, 2, none⟩) (World.block_lt_of_cell? _ _ g2)).trans g2; replace g3 := (kn.cell (p := ⟨R, 3, none⟩) (World.block_lt_of_cell? _ _ g3)).trans g3; replace g4 := (kn.cell (p := ⟨R, 4, none⟩) (World.block_lt_of_cell? _ _ g4)).trans g4; replace g5 := (kn.cell (p := ⟨R, 5, none⟩) (World.block_lt_of_cell? _ _ g5)).trans g5; replace d0 := (kn.cell (p := ⟨b, off + j * 4, none⟩) (World.block_lt_of_cell? _ _ d0)).trans d0; replace d1 := (kn.cell (p := ⟨b, off + j * 4 + 1, none⟩) (World.block_lt_of_cell? _ _ d1)).trans d1; replace d2 := (kn.cell (p := ⟨b, off + j * 4 + 2, none⟩) (World.block_lt_of_cell? _ _ d2)).trans d2; replace d3 := (kn.cell (p := ⟨b, off + j * 4 + 3, none⟩) (World.block_lt_of_cell? _ _ d3)).trans d3; have HKN := Lib.hid kn; clear kn)))
              all_goals
                clear d0 d1 d2 d3 g2 g3 g4 g5 C3 C4
                go_wp2_with fail
                go_roundw
                case rel => exact ⟨j + 1, by omega, by go_num, (HM3.out.new HKN.out hs3).r, Nat.le_trans hs3 HKN.out.size⟩
                case measure => simp [intOf]; omega
            · obtain rfl : l1 = j := by omega
              have CS := Lib.hid (hR.all (by omega))
              have HB := Lib.hid hR.below
              clear hR
              go_wp2_with (first
                | (go_at_call 7; ((with_reducible refine CS.out.mono ?_); rintro e w12 ⟨rfl, hk12⟩))
                | (go_at_call 4; refine (lives05 HSN.out _).mono ?_; rintro e w' ⟨rfl, hk⟩))
              go_ret
              refine ⟨rfl, ?_⟩
              have hb := (HB.out.trans (hk12.mono hsz))
              rw [HN.out] at hb
              exact below_then hb hk
end Go.Proofs.Ytdlniopjkioamaa
