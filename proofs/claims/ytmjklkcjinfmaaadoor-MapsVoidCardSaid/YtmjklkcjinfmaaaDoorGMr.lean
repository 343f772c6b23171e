/- The chapter's maps: a list of records in memory; At; without. -/
import Derived.Test.YtmjklkcjinfmaaaDoorMaW
import Derived.Test.YtmjklkcjinfmaaaDoorLst
import Derived.Maps.AppendAt
import Derived.Test.YtmjklkcjinfmaaaDoorEpRef
import Derived.Test.YtmjklkcjinfmaaaDoorNmRef
import Derived.Test.YtmjklkcjinfmaaaDoorMa6
namespace Go.Proofs.YtmjklkcjinfmaaaDoor
open Go.RowKit Go.Maps
set_option linter.unusedVariables false
def itsC (L : List Itm) : List Value := L.flatMap itC
theorem itC_len (x : Itm) : (itC x).length = 6 := rfl
theorem itsC_len (L : List Itm) : (itsC L).length = L.length * 6 := by
  induction L with
  | nil => rfl
  | cons x L ih =>
    show (itC x ++ itsC L).length = _
    rw [List.length_append, ih, itC_len, List.length_cons]
    omega
theorem itsC_at : ∀ {L : List Itm} {i : Nat} {x : Itm} {j : Nat} {v : Value}, L[i]? = some x → (itC x)[j]? = some v → (itsC L)[i * 6 + j]? = some v
  | [], i, x, j, v, h, _ => by simp at h
  | y :: L, 0, x, j, v, h, hv => by
    simp at h
    subst h
    show (itC y ++ itsC L)[0 * 6 + j]? = _
    have hj := (List.getElem?_eq_some_iff.1 hv).1
    rw [List.getElem?_append_left (by omega), Nat.zero_mul, Nat.zero_add]
    exact hv
  | y :: L, i + 1, x, j, v, h, hv => by
    show (itC y ++ itsC L)[(i + 1) * 6 + j]? = _
    rw [List.getElem?_append_right (by rw [itC_len]; omega), itC_len]
    have e : (i + 1) * 6 + j - 6 = i * 6 + j := by omega
    rw [e]
    exact itsC_at (by simpa using h) hv
theorem itsC_app (L M : List Itm) : itsC (L ++ M) = itsC L ++ itsC M := by simp [itsC]
/-- A slice of records. -/
structure RL (w : World) (B : Nat) (a : Option Addr) (n cp : Nat) (L : List Itm) : Prop where
  own : w.ownsRow B 38 6 (.slice a n cp) n (itsC L)
  len : n = L.length
section
variable {w W : World} {B : Nat} {a : Option Addr} {n cp : Nat} {L : List Itm}
theorem RL.nil : RL w B none 0 0 [] := ⟨World.ownsRow_nil _ _ _ _, rfl⟩
theorem RL.base (h : RL w B a n cp L) {B' : Nat} (hB : B' ≤ B) : RL w B' a n cp L := by
  refine ⟨⟨h.own.1, ?_⟩, h.len⟩
  rcases h.own.2 with h | ⟨g, c, cur, e, hb, r⟩
  · exact .inl h
  · exact .inr ⟨g, c, cur, e, Nat.le_trans hB hb, r⟩
theorem RL.keep {T : Nat → Prop} (h : RL w B a n cp L) (hk : Keeps T w W) (hT : ∀ g o s, a = some ⟨g, o, s⟩ → ¬ T g) : RL W B a n cp L :=
  ⟨Keeps.ownsRow h.own hk (fun g hg => by
    cases a with
    | none => simp [Value.ownBlock] at hg
    | some ad =>
      simp [Value.ownBlock] at hg
      exact hT g ad.off ad.spot (by rw [← hg])), h.len⟩
theorem RL.new (h : RL w B a n cp L) (hb : Below w.heap.size w W) : RL W B a n cp L := h.keep (T := fun _ => False) (Keeps.of_new hb) (fun _ _ _ _ s => s)
theorem RL.alloc (h : RL w B a n cp L) (o : Obj) : RL (w.alloc o) B a n cp L := h.new ((Below.refl _ _).alloc (Nat.le_refl _) _)
theorem RL.caps (h : RL w B a n cp L) : n ≤ cp ∧ cp ≤ maxLen := by
  rcases h.own.2 with ⟨e, e2⟩ | ⟨g, c, cur, e, hb, hg, h1, h2, _⟩
  · injection e with _ _ e3
    subst e3
    subst e2
    exact ⟨Nat.le_refl _, by simp [maxLen]⟩
  · injection e with _ _ e3
    subst e3
    exact ⟨h1, h2⟩
theorem RL.blk (h : RL w B a n cp L) {g : Nat} {o : Nat} {s : _} (e : a = some ⟨g, o, s⟩) : B ≤ g ∧ g < w.heap.size := h.own.lt g (by rw [e]; rfl)
theorem RL.at (h : RL w B a n cp L) {i : Nat} {x : Itm} (hx : L[i]? = some x) : ∃ g, a = some ⟨g, 0, none⟩ ∧ g < w.heap.size ∧ ∀ j v, (itC x)[j]? = some v → w.cell? ⟨g, i * 6 + j, none⟩ = some v := by
  have hi := (List.getElem?_eq_some_iff.1 hx).1
  have hl := h.len
  rcases h.own.2 with ⟨e, e2⟩ | ⟨g, c, cur, e, hb, hg, r⟩
  · omega
  · injection e with e1
    refine ⟨g, e1, (Array.getElem?_eq_some_iff.1 hg).1, fun j v hv => ?_⟩
    have := h.own.cells (g := g) (by rw [e1]; rfl) _ _ (itsC_at hx hv)
    rw [Addr.add_lit, Nat.zero_add] at this
    exact this
set_option maxRecDepth 100000 in
theorem info_it3 : (Tryd.prog.info? 38).map (fun i => (i.zero, i.size, i.bytes)) = some (some (itV Itm.none), 6, 64) := by kernel_rfl
theorem wp_append_it {o : Oper} {a : Act} {K : Act → World → Prop} {Q : Exit → Act → World → Prop} (s x : Operand)
    (ho : o.op = .call { callee := .builtin .append, args := #[s, x], argTypes := #[28, 28] }) {w : World} {B : Nat} {a0 : Option Addr} {n cp : Nat} {L : List Itm} (y : Itm) (hs : a.eval s = .slice a0 n cp) (h : RL w B a0 n cp L)
    (g : Nat) (hx : a.eval x = .slice (some ⟨g, 0, none⟩) 1 1) (hy : Bk w g (itC y)) (hB : B ≤ w.heap.size) (hn : n < 1000000)
    (hK : ∀ a1 n1 c1 W, RL W B a1 n1 c1 (L ++ [y]) → w.grownBy W (Value.ownBlock (.slice a0 n cp)) → K (a.put o.dst (.slice a1 n1 c1)) W) : o.wp Tryd.prog a w K Q := by
  obtain ⟨i0, hi, hz0, hz1, hz2⟩ := info_parts info_it3
  refine wp_append_own w s x 28 ho B 38 i0 (itV Itm.none) 6 64 Tryd.underlying28 hi hz0 hz1 hz2 rfl (by decide) _ n (itsC L) hs h.own ⟨g, 0, none⟩ 1 1 (itC y) hx rfl (fun j u hj => by rw [Addr.add_lit, Nat.zero_add]; exact hy.at_ j u hj) (fun u hu => by simp [itC] at hu; rcases hu with rfl | rfl | rfl | rfl | rfl | rfl <;> rfl) (by unfold maxLen; omega) (by omega) hB fun v' w' h1 h2 h3 => ?_
  obtain ⟨a1, n1, c1, rfl⟩ : ∃ a1 n1 c1, v' = .slice a1 n1 c1 := by
    rcases h1.2 with ⟨e, _⟩ | ⟨g, c, cur, e, _⟩ <;> exact ⟨_, _, _, e⟩
  have e : n1 = n + 1 := by
    rcases h1.2 with ⟨e, e2⟩ | ⟨g, c, cur, e, _⟩
    · exact (Value.slice.inj e).2.1.trans e2.symm
    · exact (Value.slice.inj e).2.1
  subst e
  refine hK a1 _ c1 w' ⟨?_, ?_⟩ h2
  · rw [itsC_app]
    have e : itsC [y] = itC y := by simp [itsC]
    rw [e]
    exact h1
  · rw [List.length_append, h.len]; rfl
theorem wpList_append_it {ops : Array Oper} {rest : List Oper} {o : Oper} {a : Act} {Q : Exit → Act → World → Prop} (hgd : o.guard = none) (s x : Operand)
    (ho : o.op = .call { callee := .builtin .append, args := #[s, x], argTypes := #[28, 28] }) {w : World} {B : Nat} {a0 : Option Addr} {n cp : Nat} {L : List Itm} (y : Itm) (hs : a.eval s = .slice a0 n cp) (h : RL w B a0 n cp L)
    (g : Nat) (hx : a.eval x = .slice (some ⟨g, 0, none⟩) 1 1) (hy : Bk w g (itC y)) (hB : B ≤ w.heap.size) (hn : n < 1000000)
    (hK : ∀ a1 n1 c1 W, RL W B a1 n1 c1 (L ++ [y]) → w.grownBy W (Value.ownBlock (.slice a0 n cp)) → wpList Tryd.prog ops Q rest (a.put o.dst (.slice a1 n1 c1)) W) : wpList Tryd.prog ops Q (o :: rest) a w :=
  wpList_plain hgd fun _ hk => wp_append_it s x ho y hs h g hx hy hB hn fun a1 n1 c1 W h1 h2 => hk _ _ (hK a1 n1 c1 W h1 h2)
theorem step_append_it {ops : Array Oper} {o : Oper} {a : Act} {K : Act → World → Prop} {Q : Exit → Act → World → Prop} {E : Prop} (hgd : o.guard = none) (s x : Operand)
    (ho : o.op = .call { callee := .builtin .append, args := #[s, x], argTypes := #[28, 28] }) {w : World} {B : Nat} {a0 : Option Addr} {n cp : Nat} {L : List Itm} (y : Itm) (hs : a.eval s = .slice a0 n cp) (h : RL w B a0 n cp L)
    (g : Nat) (hx : a.eval x = .slice (some ⟨g, 0, none⟩) 1 1) (hy : Bk w g (itC y)) (hB : B ≤ w.heap.size) (hn : n < 1000000)
    (hK : ∀ a1 n1 c1 W, RL W B a1 n1 c1 (L ++ [y]) → w.grownBy W (Value.ownBlock (.slice a0 n cp)) → K (a.put o.dst (.slice a1 n1 c1)) W) : if Region.wanted o (yielded ops a.tmps) = true then Oper.wp Tryd.prog o a w K Q else E :=
  step_of hgd (wp_append_it s x ho y hs h g hx hy hB hn hK)
/-- Behind an append: what stood below stands. -/
theorem RL.grown {w0 : World} (h : RL w B a n cp L) (hnx : Below B w0 w) (hB : B ≤ w0.heap.size) (hg : w.grownBy W (Value.ownBlock (.slice a n cp))) : Below B w0 W :=
  hnx.grown hg (by have := hnx.size; omega) (fun k hk => (h.own.lt k hk).1)
end
theorem mlook_cut {L : List Itm} {key : ByteArray} {k : Nat} {x : Itm} (h : mlook (L.take k) key = none) (hx : L[k]? = some x) : (x.k = key → mlook L key = some x) ∧ (¬ x.k = key → mlook (L.take (k + 1)) key = none) := by
  have e1 : L.take (k + 1) = L.take k ++ [x] := by rw [List.take_add_one, hx]; rfl
  refine ⟨fun e => ?_, fun e => ?_⟩
  · have e2 : L = L.take (k + 1) ++ L.drop (k + 1) := (List.take_append_drop _ _).symm
    rw [e1] at e2
    rw [e2]
    unfold mlook at h ⊢
    rw [List.append_assoc, List.find?_append, h]
    simp [e]
  · rw [e1]
    unfold mlook at h ⊢
    rw [List.find?_append, h]
    simp [e]
theorem wo_cut {L : List Itm} {key : ByteArray} {k : Nat} {x : Itm} (hx : L[k]? = some x) : (x.k = key → wo (L.take (k + 1)) key = wo (L.take k) key) ∧ (¬ x.k = key → wo (L.take (k + 1)) key = wo (L.take k) key ++ [x]) := by
  have e1 : L.take (k + 1) = L.take k ++ [x] := by rw [List.take_add_one, hx]; rfl
  unfold wo
  rw [e1, List.filter_append]
  refine ⟨fun e => ?_, fun e => ?_⟩ <;> simp [e]
def mapR (a : Option Addr) (n cp : Nat) (e i : Int) : List Value := [.slice a n cp, .int .u64 e, .int .u64 i]
theorem map_cells {w : World} {r : Nat} {a : Option Addr} {n cp : Nat} {e i : Int} (h : Bk w r (mapR a n cp e i)) : w.cell? ⟨r, 0, none⟩ = some (.slice a n cp) ∧ w.cell? ⟨r, 1, none⟩ = some (.int .u64 e) ∧ w.cell? ⟨r, 2, none⟩ = some (.int .u64 i) := ⟨h.at_ 0 _ rfl, h.at_ 1 _ rfl, h.at_ 2 _ rfl⟩
section
variable {w : World} {r : Nat} {a : Option Addr} {n cp : Nat} {e i : Int} {L : List Itm} {B : Nat}
set_option maxHeartbeats 4000000 in
set_option maxRecDepth 100000 in
theorem rAtw (hr : Bk w r (mapR a n cp e i)) (hl : RL w B a n cp L) (key : ByteArray) :
    Calls Tryd.prog 14 #[.pointer (some ⟨r, 0, none⟩), .string key] w fun e w' => e = .returned (atV L key) ∧ Below w.heap.size w w' := by
  have HR := Lib.hid hr
  have HL := Lib.hid hl
  have hc := hl.caps
  have hlen := Lib.hid hl.len
  unfold maxLen at hc
  clear hr hl
  go_enter Tryd.func14, Tryd.ntmps14
  go_wp2_with (first
    | ((with_reducible refine at_wq ?_); refine wpList_alloc_bk rfl 38 (itC Itm.none) alloc_it rfl ?_; intro W1 q4 h1))
  go_loopw [6] (fun i wr => ∃ k : Nat, k ≤ n ∧ i = .int .i64 k ∧ mlook (L.take k) key = none ∧ Below W1.heap.size W1 wr) (fun i _ => n - (intOf i).toNat)
  case atStart => exact ⟨0, by omega, rfl, rfl, Below.refl _ _⟩
  case round =>
    obtain ⟨k, hk, rfl, hm, hnx⟩ := hrel
    have HM := Lib.hid hm
    have HX := Lib.hid hnx
    have HF := Lib.hid (fr_new h1.below hnx)
    have HQ := Lib.hid (h1.bk.new hnx)
    obtain ⟨c0, c1, c2⟩ := map_cells (HR.out.new HF.out)
    clear hm hnx
    by_cases hlt : k < n
    · obtain ⟨x, hx⟩ : ∃ x, L[k]? = some x := ⟨L[k]'(by have := hlen.out; omega), List.getElem?_eq_getElem _⟩
      obtain ⟨g, ea, hg, hcell⟩ := (HL.out.new HF.out).at hx
      have HA := Lib.hid ea
      subst ea
      have x0 := hcell 0 _ rfl
      rw [Nat.add_zero] at x0
      have HC := Lib.hid hcell
      have HXX := Lib.hid hx
      obtain ⟨b, hb⟩ : ∃ b, (x.k.toList == key.toList) = b := ⟨_, rfl⟩
      have HB := Lib.hid hb
      have hrg : wr.rangeAt g (k * 6) (itC x) := fun i v hv => HC.out i v hv
      have HRG := Lib.hid hrg
      clear hcell hx hrg hg
      cases b with
      | true =>
        go_wp2_with (first
          | ((with_reducible refine at_wq ?_); refine wpList_load_mid rfl 38 (.tmp 31) rfl g (k * 6) rfl (itC x) _ HRG.out Tryd.underlying38 rfl info_it ?_)
          | ((with_reducible refine at_wq ?_); refine wpList_store_bk rfl 38 (.tmp 4) (.tmp 32) rfl q4 0 (itC Itm.none) (itC x) (itC x) HQ.out (Nat.le_refl 6) rfl info_it (itC_one _) rfl rfl ?_; intro W3 h3 k3))
        have hkk : x.k = key := (bytes_inj _ _).mp (by have := HB.out; simpa using this)
        have hlk := (mlook_cut HM.out HXX.out).1 hkk
        refine bodyPost_ret (results_two rfl _ h3 rfl rfl _ Tryd.underlying38 rfl info_it) rfl ⟨?_, fr_set HF.out k3 (by rw [h1.eq]; exact Nat.le_refl _)⟩
        unfold atV
        rw [hlk]
        rfl
      | false =>
        go_wp2_with fail
        go_roundw
        case rel => exact ⟨k + 1, by omega, by go_num, (mlook_cut HM.out HXX.out).2 (fun e => by have := HB.out; rw [e] at this; simp at this), HX.out⟩
        case measure => simp [intOf]; omega
    · have hkd : decide (k < n) = false := decide_eq_false hlt
      go_wp2_with (first
        | ((with_reducible refine at_wq ?_); refine wpList_store_bk rfl 38 (.tmp 4) (.tmp 33) rfl q4 0 (itC Itm.none) (itC Itm.none) (itC Itm.none) HQ.out (Nat.le_refl 6) rfl info_it (itC_one _) rfl rfl ?_; intro W3 h3 k3))
      have hlk : mlook L key = none := by
        have := HM.out
        rwa [List.take_of_length_le (by have := hlen.out; omega)] at this
      refine bodyPost_ret (results_two rfl _ h3 rfl rfl _ Tryd.underlying38 rfl info_it) rfl ⟨?_, fr_set HF.out k3 (by rw [h1.eq]; exact Nat.le_refl _)⟩
      unfold atV
      rw [hlk]
      rfl
/-- A list of new records. -/
def LsP (w : World) (L : List Itm) (e : Ending) (w' : World) : Prop := ∃ a n cp, e = .returned (.slice a n cp) ∧ RL w' w.heap.size a n cp L ∧ Below w.heap.size w w'
set_option maxHeartbeats 4000000 in
set_option maxRecDepth 100000 in
theorem rwow (hr : Bk w r (mapR a n cp e i)) (hl : RL w B a n cp L) (hn : n < 1000000) (key : ByteArray) :
    Calls Tryd.prog 38 #[.pointer (some ⟨r, 0, none⟩), .string key] w (LsP w (wo L key)) := by
  have HR := Lib.hid hr
  have HL := Lib.hid hl
  have hc := hl.caps
  have hlen := Lib.hid hl.len
  unfold maxLen at hc
  clear hr hl
  go_enter Tryd.func38, Tryd.ntmps38
  go_wp2_with fail
  go_loopw [5, 6] (fun s i wr => ∃ (k : Nat) (a1 : Option Addr) (n1 c1 : Nat), k ≤ n ∧ s = .slice a1 n1 c1 ∧ i = .int .i64 k ∧ RL wr w.heap.size a1 n1 c1 (wo (L.take k) key) ∧ Below w.heap.size w wr) (fun _ i _ => n - (intOf i).toNat)
  case atStart => exact ⟨0, none, 0, 0, by omega, rfl, rfl, RL.nil, Below.refl _ _⟩
  case round =>
    obtain ⟨k, a1, n1, c1, hk, rfl, rfl, hm, hnx⟩ := hrel
    have HM := Lib.hid hm
    have HF := Lib.hid hnx
    obtain ⟨c0, c3, c2⟩ := map_cells (HR.out.new HF.out)
    clear hm hnx
    by_cases hlt : k < n
    · obtain ⟨x, hx⟩ : ∃ x, L[k]? = some x := ⟨L[k]'(by have := hlen.out; omega), List.getElem?_eq_getElem _⟩
      obtain ⟨g, ea, hg, hcell⟩ := (HL.out.new HF.out).at hx
      have HA := Lib.hid ea
      subst ea
      have x0 := hcell 0 _ rfl
      rw [Nat.add_zero] at x0
      have HC := Lib.hid hcell
      have HXX := Lib.hid hx
      obtain ⟨b, hb⟩ : ∃ b, (x.k.toList == key.toList) = b := ⟨_, rfl⟩
      have HB := Lib.hid hb
      have hrg : wr.rangeAt g (k * 6) (itC x) := fun i v hv => HC.out i v hv
      have HRG := Lib.hid hrg
      clear hcell hx hrg hg
      cases b with
      | true =>
        have hkk : x.k = key := (bytes_inj _ _).mp (by have := HB.out; simpa using this)
        have HW := Lib.hid ((wo_cut HXX.out).1 hkk)
        clear hkk
        go_wp2_with fail
        go_roundw
        case rel => exact ⟨k + 1, a1, n1, c1, by omega, rfl, by go_num, by rw [HW.out]; exact HM.out, HF.out⟩
        case measure => simp [intOf]; omega
      | false =>
        have HW := Lib.hid ((wo_cut (key := key) HXX.out).2 (fun e => by have := HB.out; rw [e] at this; simp at this))
        have hn1 : n1 < 1000000 := by
          have e1 := HM.out.len
          have e2 := wo_len_le (L.take k) key
          rw [List.length_take] at e2
          omega
        have HN1 := Lib.hid hn1
        go_wp2_with (first
          | ((with_reducible refine at_wq ?_); refine wpList_load_mid rfl 38 (.tmp 32) rfl g (k * 6) rfl [.string x.k, .string x.v, .int .u32 x.fl, .int .u64 x.id, .int .i64 x.dies, .int .i64 x.gen] _ HRG.out Tryd.underlying38 rfl info_it ?_)
          | ((with_reducible refine at_wq ?_); refine wpList_append_it rfl (.tmp 26) (.tmp 34) rfl x rfl (HM.out.alloc _) _ rfl (bk_new rfl) (by have := HF.out.size; simp; omega) HN1.out ?_; intro a2 n2 c2' W2 h2 hg2))
        go_roundw
        case rel => exact ⟨k + 1, a2, n2, c2', by omega, rfl, by go_num, by rw [HW.out]; exact h2, RL.grown (HM.out.alloc _) (HF.out.alloc (by have := HF.out.size; omega) _) (Nat.le_refl _) hg2⟩
        case measure => simp [intOf]; omega
    · have hkd : decide (k < n) = false := decide_eq_false hlt
      go_wp2_with fail
      go_ret
      refine ⟨a1, n1, c1, rfl, ?_, HF.out⟩
      have := HM.out
      rwa [List.take_of_length_le (by have := hlen.out; omega)] at this
end
end Go.Proofs.YtmjklkcjinfmaaaDoor
/- Next: The chapter's maps: may an epoch come? -/
namespace Go.Proofs.YtmjklkcjinfmaaaDoor
open Go.RowKit Go.Maps
set_option linter.unusedVariables false
theorem fret_bool {a b : Bool} (h : a = b) : Ending.returned (.bool a) = .returned (.bool b) := by rw [h]
set_option maxHeartbeats 8000000 in
set_option maxRecDepth 100000 in
theorem rComesw {w : World} {r : Nat} {a : Option Addr} {m cp : Nat} {E i : Int} (hr : Bk w r (mapR a m cp E i)) (x : Int) (hE : 0 ≤ E ∧ E < 18446744073709551616) (hx : 0 ≤ x ∧ x < 18446744073709551616) :
    Calls Tryd.prog 49 #[.pointer (some ⟨r, 0, none⟩), .int .u64 x] w fun e w' => e = .returned (.bool (comes E x)) ∧ w = w' := by
  obtain ⟨e0, e1⟩ := hE
  obtain ⟨x0, x1⟩ := hx
  rw [← comesR_eq E x e0 e1]
  obtain ⟨c0, c1, c2⟩ := map_cells hr
  obtain ⟨⟨k1, k2⟩, ⟨a1, a2⟩, ⟨g1, g2⟩⟩ := ep_range E
  obtain ⟨⟨n1, n2⟩, _⟩ := ep_range x
  have hI0 := isR_range E x
  have hisr : isR E x = if nowf E < nowf x ∧ 0 < atf E ∧ atf E ≤ nowf x then putf (nowf x) 0 (min (genf E + 1) 65535) else putf (nowf x) (atf E) (genf E) := rfl
  unfold comesR
  obtain ⟨I, hI⟩ : ∃ I, isR E x = I := ⟨_, rfl⟩
  rw [hI] at hisr hI0 ⊢
  clear hI
  obtain ⟨n, hn⟩ : ∃ n, nowf x = n := ⟨_, rfl⟩
  obtain ⟨k, hk⟩ : ∃ n, nowf E = n := ⟨_, rfl⟩
  obtain ⟨t, ht⟩ : ∃ n, atf E = n := ⟨_, rfl⟩
  obtain ⟨g, hg⟩ : ∃ n, genf E = n := ⟨_, rfl⟩
  rw [hn, hk, ht, hg] at hisr
  rw [hn, hk]
  rw [hn] at n1 n2
  rw [hk] at k1 k2
  rw [ht] at a1 a2
  rw [hg] at g1 g2
  have HN := Lib.hid hn
  have HK := Lib.hid hk
  have HA := Lib.hid ht
  have HG := Lib.hid hg
  clear hn hk ht hg hr
  by_cases q : n < k
  · clear hisr hI0
    go_enter Tryd.func49, Tryd.ntmps49
    go_wp2_with (first
      | (go_at_call 72; refine (rnow x _ x0 x1).mono ?_; rintro e W1 ⟨rfl, rfl⟩; rw [HN.out])
      | (go_at_call 72; refine (rnow E _ e0 e1).mono ?_; rintro e W1 ⟨rfl, rfl⟩; rw [HK.out])
      | (go_at_call 73; refine (rat07 _ _ e0 e1).mono ?_; rintro e W2 ⟨rfl, rfl⟩; rw [HA.out])
      | (go_at_call 74; refine (rgen _ _ e0 e1).mono ?_; rintro e W3 ⟨rfl, rfl⟩; rw [HG.out]))
    go_ret
    exact ⟨fret_bool (by simp [q]), rfl⟩
  · obtain ⟨b1, hb1⟩ : ∃ b, (x == I) = b := ⟨_, rfl⟩
    obtain ⟨b2, hb2⟩ : ∃ b, (n == 16777215) = b := ⟨_, rfl⟩
    have hc : (k < n ∧ 0 < t ∧ t ≤ n) ∨ (k < n ∧ 0 < t ∧ n < t) ∨ (k < n ∧ ¬ 0 < t) ∨ ¬ k < n := by omega
    have hD : b1 = true ∨ (b1 = false ∧ b2 = false) ∨ (b1 = false ∧ b2 = true) := by cases b1 <;> cases b2 <;> simp
    rw [hb1, hb2, decide_eq_false q]
    have HB2 := Lib.hid hb2
    have HB1 := Lib.hid hb1
    have HI := Lib.hid hI0
    clear hI0
    rcases hc with ⟨q1, q2, q3⟩ | ⟨q1, q2, q3⟩ | ⟨q1, q2⟩ | q1
    · have HP := Lib.hid (show putf n 0 (min (g + 1) 65535) = I by rw [hisr, if_pos ⟨q1, q2, q3⟩])
      clear hisr
      rcases hD with rfl | ⟨rfl, rfl⟩ | ⟨rfl, rfl⟩
      all_goals
        go_enter Tryd.func49, Tryd.ntmps49
        go_wp2_with (first
          | (go_at_call 72; refine (rnow x _ x0 x1).mono ?_; rintro e W1 ⟨rfl, rfl⟩; rw [HN.out])
          | (go_at_call 72; refine (rnow E _ e0 e1).mono ?_; rintro e W1 ⟨rfl, rfl⟩; rw [HK.out])
          | (go_at_call 73; refine (rat07 _ _ e0 e1).mono ?_; rintro e W2 ⟨rfl, rfl⟩; rw [HA.out])
          | (go_at_call 74; refine (rgen _ _ e0 e1).mono ?_; rintro e W3 ⟨rfl, rfl⟩; rw [HG.out])
          | (go_at_call 75; refine (rput _ _ _ _).mono ?_; rintro e W4 ⟨rfl, rfl⟩; rw [HP.out])
          | (go_at_call 76; refine (rtick _ _ HI.out.1 HI.out.2).mono ?_; rintro e W5 ⟨rfl, rfl⟩))
        go_ret
        exact ⟨fret_bool (by simp), rfl⟩
    · have HP := Lib.hid (show putf n t g = I by rw [hisr, if_neg (fun h => by omega)])
      clear hisr
      rcases hD with rfl | ⟨rfl, rfl⟩ | ⟨rfl, rfl⟩
      all_goals
        go_enter Tryd.func49, Tryd.ntmps49
        go_wp2_with (first
          | (go_at_call 72; refine (rnow x _ x0 x1).mono ?_; rintro e W1 ⟨rfl, rfl⟩; rw [HN.out])
          | (go_at_call 72; refine (rnow E _ e0 e1).mono ?_; rintro e W1 ⟨rfl, rfl⟩; rw [HK.out])
          | (go_at_call 73; refine (rat07 _ _ e0 e1).mono ?_; rintro e W2 ⟨rfl, rfl⟩; rw [HA.out])
          | (go_at_call 74; refine (rgen _ _ e0 e1).mono ?_; rintro e W3 ⟨rfl, rfl⟩; rw [HG.out])
          | (go_at_call 75; refine (rput _ _ _ _).mono ?_; rintro e W4 ⟨rfl, rfl⟩; rw [HP.out])
          | (go_at_call 76; refine (rtick _ _ HI.out.1 HI.out.2).mono ?_; rintro e W5 ⟨rfl, rfl⟩))
        go_ret
        exact ⟨fret_bool (by simp), rfl⟩
    · have HP := Lib.hid (show putf n t g = I by rw [hisr, if_neg (fun h => by omega)])
      clear hisr
      rcases hD with rfl | ⟨rfl, rfl⟩ | ⟨rfl, rfl⟩
      all_goals
        go_enter Tryd.func49, Tryd.ntmps49
        go_wp2_with (first
          | (go_at_call 72; refine (rnow x _ x0 x1).mono ?_; rintro e W1 ⟨rfl, rfl⟩; rw [HN.out])
          | (go_at_call 72; refine (rnow E _ e0 e1).mono ?_; rintro e W1 ⟨rfl, rfl⟩; rw [HK.out])
          | (go_at_call 73; refine (rat07 _ _ e0 e1).mono ?_; rintro e W2 ⟨rfl, rfl⟩; rw [HA.out])
          | (go_at_call 74; refine (rgen _ _ e0 e1).mono ?_; rintro e W3 ⟨rfl, rfl⟩; rw [HG.out])
          | (go_at_call 75; refine (rput _ _ _ _).mono ?_; rintro e W4 ⟨rfl, rfl⟩; rw [HP.out])
          | (go_at_call 76; refine (rtick _ _ HI.out.1 HI.out.2).mono ?_; rintro e W5 ⟨rfl, rfl⟩))
        go_ret
        exact ⟨fret_bool (by simp), rfl⟩
    · have HP := Lib.hid (show putf n t g = I by rw [hisr, if_neg (fun h => by omega)])
      clear hisr
      rcases hD with rfl | ⟨rfl, rfl⟩ | ⟨rfl, rfl⟩
      all_goals
        go_enter Tryd.func49, Tryd.ntmps49
        go_wp2_with (first
          | (go_at_call 72; refine (rnow x _ x0 x1).mono ?_; rintro e W1 ⟨rfl, rfl⟩; rw [HN.out])
          | (go_at_call 72; refine (rnow E _ e0 e1).mono ?_; rintro e W1 ⟨rfl, rfl⟩; rw [HK.out])
          | (go_at_call 73; refine (rat07 _ _ e0 e1).mono ?_; rintro e W2 ⟨rfl, rfl⟩; rw [HA.out])
          | (go_at_call 74; refine (rgen _ _ e0 e1).mono ?_; rintro e W3 ⟨rfl, rfl⟩; rw [HG.out])
          | (go_at_call 75; refine (rput _ _ _ _).mono ?_; rintro e W4 ⟨rfl, rfl⟩; rw [HP.out])
          | (go_at_call 76; refine (rtick _ _ HI.out.1 HI.out.2).mono ?_; rintro e W5 ⟨rfl, rfl⟩))
        go_ret
        exact ⟨fret_bool (by simp), rfl⟩
end Go.Proofs.YtmjklkcjinfmaaaDoor
/- Next: The chapter's maps: what is told; a record that is stored. -/
namespace Go.Proofs.YtmjklkcjinfmaaaDoor
open Go.RowKit Go.Maps
set_option linter.unusedVariables false
theorem step_bs_it {ops : Array Oper} {op : Oper} {a : Act} {w : World} {K : Act → World → Prop} {Q : Exit → Act → World → Prop} {E : Prop} (hgd : op.guard = none) (x : Operand) (ho : op.op = .buildSlice 28 1 #[(0, x)]) (y : Itm) (hx : a.eval x = .agg (itC y).toArray)
    (hK : ∀ W g, Nb w W g (itC y) → K (a.put op.dst (.slice (some ⟨g, 0, none⟩) 1 1)) W) : if Region.wanted op (yielded ops a.tmps) = true then Oper.wp Tryd.prog op a w K Q else E := by
  refine step_of hgd ?_
  unfold itC at hx
  have h1 := hK (w.alloc (.cells (itC y).toArray 38)) w.heap.size ⟨bk_new (by simp), rfl, by simp, (Below.refl _ _).alloc (Nat.le_refl _) _⟩
  clear hK
  unfold itC at h1
  unfold Oper.wp execOp
  rw [ho]
  simp only [List.map_toArray, List.map_cons, List.map_nil, hx]
  go_simp
  exact h1
/-- What is given, as the chapter has it. -/
def gvnC (a : Ans) (ad : Option Addr) (n cp : Nat) (e i : Int) (b : Bool) : List Value := [.int .u8 a.kind, .int .u64 a.num, .string a.item.k, .string a.item.v, .int .u32 a.item.fl, .int .u64 a.item.id, .int .i64 a.item.dies, .int .i64 a.item.gen, .slice ad n cp, .int .u64 e, .int .u64 i, .bool b]
abbrev gvnZ : List Value := gvnC Ans.none none 0 0 0 0 false
set_option maxRecDepth 100000 in
theorem alloc_gvn (w : World) : (Instr.alloc 87 true (.tuple #[])).run Tryd.prog w = .ok (.pointer (some ⟨w.heap.size, 0, none⟩)) (w.alloc (.cells gvnZ.toArray 87)) := by kernel_rfl
theorem info_gvn : (Tryd.prog.info? 87).map (·.size) = some 12 := by kernel_rfl
theorem info_rm : (Tryd.prog.info? 31).map (·.size) = some 3 := by kernel_rfl
theorem gvnC_one (a : Ans) (ad : Option Addr) (n cp : Nat) (e i : Int) (b : Bool) : (gvnC a ad n cp e i b).toArray.all (·.oneCell') = true := by simp [gvnC, Value.oneCell']
theorem mapR_one (ad : Option Addr) (n cp : Nat) (e i : Int) : (mapR ad n cp e i).toArray.all (·.oneCell') = true := by simp [mapR, Value.oneCell']
/-- A slice that is new, or the one that was. -/
def OnA (B : Nat) (a a1 : Option Addr) : Prop := ∀ g o s, a1 = some ⟨g, o, s⟩ → B ≤ g ∨ a1 = a
def GnP (w : World) (a : Option Addr) (g : Gv) (e : Ending) (w' : World) : Prop := ∃ a1 n1 c1, e = .returned (.agg (gvnC g.a a1 n1 c1 g.S.e g.S.i g.refused).toArray) ∧ RL w' 0 a1 n1 c1 g.S.L ∧ OnA w.heap.size a a1 ∧ Below w.heap.size w w'
theorem RL.onA {w : World} {B B' : Nat} {a a1 : Option Addr} {n cp : Nat} {L : List Itm} (h : RL w B a1 n cp L) (hB : B' ≤ B) : OnA B' a a1 := fun g o s e => .inl (Nat.le_trans hB (h.blk e).1)
set_option maxHeartbeats 4000000 in
set_option maxRecDepth 100000 in
theorem rsaysw (k : Int) (a : Option Addr) (n cp : Nat) (e i : Int) (w : World) :
    Calls Tryd.prog 52 #[.int .u8 k, .agg (mapR a n cp e i).toArray] w fun en w' => en = .returned (.tuple #[.agg (gvnC (Ans.of k) a n cp e i false).toArray, .bool true]) ∧ Below w.heap.size w w' := by
  go_enter Tryd.func52, Tryd.ntmps52
  go_wp2_with (first
    | ((with_reducible refine at_wq ?_); refine wpList_box_bk rfl 31 (.tmp 1) rfl (mapR a n cp e i) rfl ?_; intro W1 q3 h1)
    | ((with_reducible refine at_wq ?_); refine wpList_alloc_bk rfl 87 gvnZ alloc_gvn rfl ?_; intro W2 q4 h2)
    | ((with_reducible refine at_wq ?_); refine wpList_load_bk rfl 31 (.tmp 3) rfl q3 0 (mapR a n cp e i) [.slice a n cp, .int .u64 e, .int .u64 i] (h1.bk.new h2.below) rfl _ Tryd.underlying31 rfl info_rm rfl ?_)
    | ((with_reducible refine at_wq ?_); refine wpList_store_bk rfl 87 (.tmp 4) (.tmp 9) rfl q4 0 gvnZ (gvnC (Ans.of k) a n cp e i false) (gvnC (Ans.of k) a n cp e i false) h2.bk (Nat.le_refl 12) rfl info_gvn (gvnC_one _ _ _ _ _ _ _) rfl rfl ?_; intro W3 h3 k3))
  exact bodyPost_ret (results_two rfl _ h3 rfl rfl _ Tryd.underlying87 rfl info_gvn) rfl ⟨rfl, fr_set (fr_new h1.below h2.below) k3 (h2.at h1.below)⟩
theorem info_oc : (Tryd.prog.info? 52).map (·.size) = some 20 := by kernel_rfl
set_option maxRecDepth 100000 in
theorem alloc_oc (w : World) : (Instr.alloc 52 true (.tuple #[])).run Tryd.prog w = .ok (.pointer (some ⟨w.heap.size, 0, none⟩)) (w.alloc (.cells (cldC ⟨0, ⟨0, ⟨#[]⟩, ⟨#[]⟩, 0, 0, 0, 0⟩, 0, 0, Ans.none, 0, 0⟩).toArray 52)) := by kernel_rfl
theorem cldC_one (d : Cld) : (cldC d).toArray.all (·.oneCell') = true := by simp [cldC, Value.oneCell']
set_option maxHeartbeats 8000000 in
set_option maxRecDepth 100000 in
theorem otherw (d : Cld) (w : World) :
    Calls Tryd.prog 19 #[.agg (cldC d).toArray] w fun e w' => e = .returned (.agg (cldC d).toArray) ∧ Below w.heap.size w w' := by
  go_enter Tryd.func19, Tryd.ntmps19
  go_wp2_with (first
    | ((with_reducible refine at_wq ?_); refine wpList_box_bk rfl 42 (.tmp 0) rfl (cldC d) rfl ?_; intro W1 q1 h1)
    | ((with_reducible refine at_wq ?_); refine wpList_alloc_bk rfl 52 (cldC ⟨0, ⟨0, ⟨#[]⟩, ⟨#[]⟩, 0, 0, 0, 0⟩, 0, 0, Ans.none, 0, 0⟩) alloc_oc rfl ?_; intro W2 q2 h2; have p := h1.bk.new h2.below; have y0 := p.at_ 0 _ rfl; have y8 := p.at_ 8 _ rfl; have y9 := p.at_ 9 _ rfl; have y18 := p.at_ 18 _ rfl; have y19 := p.at_ 19 _ rfl; clear p)
    | ((with_reducible refine at_wq ?_); refine wpList_load_bk rfl 35 (.tmp 5) rfl q1 1 (cldC d) [.int .u8 d.c.verb, .string d.c.key, .string d.c.val, .int .u32 d.c.fl, .int .i64 d.c.exp, .int .u64 d.c.id, .int .u64 d.c.by_] (h1.bk.new h2.below) rfl _ Tryd.underlying35 rfl info_ca rfl ?_)
    | ((with_reducible refine at_wq ?_); refine wpList_load_bk rfl 40 (.tmp 11) rfl q1 10 (cldC d) [.int .u8 d.a.kind, .int .u64 d.a.num, .string d.a.item.k, .string d.a.item.v, .int .u32 d.a.item.fl, .int .u64 d.a.item.id, .int .i64 d.a.item.dies, .int .i64 d.a.item.gen] (h1.bk.new h2.below) rfl _ Tryd.underlying40 rfl info_an rfl ?_)
    | ((with_reducible refine at_wq ?_); refine wpList_store_bk rfl 52 (.tmp 2) (.tmp 17) rfl q2 0 _ (cldC d) (cldC d) h2.bk (Nat.le_refl 20) rfl info_oc (cldC_one _) rfl rfl ?_; intro W3 h3 k3))
  exact bodyPost_ret (results_bk rfl _ h3 rfl _ Tryd.underlying52 rfl info_oc) rfl ⟨rfl, fr_set (fr_new h1.below h2.below) k3 (h2.at h1.below)⟩
section
variable {w : World} {r : Nat} {a : Option Addr} {n cp : Nat} {e i : Int} {L : List Itm} {B : Nat} {c : Cal}
set_option maxHeartbeats 8000000 in
set_option maxRecDepth 100000 in
theorem rstoresw (hr : Bk w r (mapR a n cp e i)) (hl : RL w B a n cp L) (hn : n < 1000000) (x : Int) (hx : 0 ≤ x ∧ x < 18446744073709551616) (has : Bool) (hh : has = (mlook L c.key).isSome) :
    Calls Tryd.prog 55 #[.pointer (some ⟨r, 0, none⟩), .agg (calC c).toArray, .int .u64 x, .bool has] w (GnP w a (Mst.stores ⟨L, e, i⟩ c x)) := by
  have HR := Lib.hid hr
  have HL := Lib.hid hl
  have HN := Lib.hid hn
  have HX := Lib.hid hx
  have hrf : (mlook L c.key).isNone = !has := by rw [hh]; cases mlook L c.key <;> rfl
  unfold Mst.stores recM
  simp only
  rw [hrf]
  obtain ⟨I, hI⟩ : ∃ I, u64 (i + 1) = I := ⟨_, rfl⟩
  obtain ⟨D, hD⟩ : ∃ D, diesf x c.exp = D := ⟨_, rfl⟩
  obtain ⟨G, hG⟩ : ∃ G, genf x = G := ⟨_, rfl⟩
  rw [hI, hD, hG]
  have HD := Lib.hid hD
  have HGG := Lib.hid hG
  have HI := Lib.hid (show IntKind.u64.wrap (i + 1) = I from hI)
  clear hr hl hn hx hh hrf hI hD hG
  go_enter Tryd.func55, Tryd.ntmps55
  go_wp2_with (first
    | ((with_reducible refine at_wq ?_); refine wpList_box_bk rfl 35 (.tmp 1) rfl (calC c) rfl ?_; intro W1 q5 h1)
    | ((with_reducible refine at_wq ?_); refine wpList_alloc_bk rfl 87 gvnZ alloc_gvn rfl ?_; intro W2 q8 h2; have HF2 := Lib.hid (fr_new h1.below h2.below); have HC := Lib.hid (h1.bk.new h2.below); have HG2 := Lib.hid h2.bk; have HQ := Lib.hid (show w.heap.size ≤ q8 ∧ q5 ≠ q8 ∧ q8 < W2.heap.size from ⟨h2.at h1.below, by have e1 := h1.bk.lt; have e2 := h2.eq; omega, h2.bk.lt⟩); obtain ⟨c0, c1, c2⟩ := map_cells (HR.out.new HF2.out); clear h1 h2))
  rw [HI.out]
  clear c0 c1 c2
  have KEEP : Hid (∀ X, Below W2.heap.size W2 X → X.cell? ⟨q5, 1, none⟩ = some (.string c.key) ∧ X.cell? ⟨q5, 2, none⟩ = some (.string c.val) ∧ X.cell? ⟨q5, 3, none⟩ = some (.int .u32 c.fl) ∧ X.cell? ⟨q5, 4, none⟩ = some (.int .i64 c.exp)) := Lib.hid fun X hb => by
    obtain ⟨y0, y1, y2, y3, y4, y5, y6⟩ := call_cells (HC.out.new hb)
    exact ⟨y1, y2, y3, y4⟩
  have hB : Below W2.heap.size W2 W2.drew := (Below.refl _ _).drew
  have hB0 := hB
  refine wp_region_held_drew (S := fun X => X.cell? ⟨q5, 1, none⟩ = some (.string c.key) ∧ X.cell? ⟨q5, 2, none⟩ = some (.string c.val) ∧ X.cell? ⟨q5, 3, none⟩ = some (.int .u32 c.fl) ∧ X.cell? ⟨q5, 4, none⟩ = some (.int .i64 c.exp)) (by kernel_rfl) (KEEP.out _ hB) (fun hHeld => ?_)
  refine wpAnyH_take (i := 0) (oi := ({ dst := some 16, op := Op.fieldAddr 35 (Operand.tmp 5) 1, type := 0, pos := "ref.go:67", after := #[], guard := none })) (v := ?_) rfl (by kernel_rfl) (by kernel_rfl) (by kernel_rfl) (fun _ _ _ h => h) (Or.inl ⟨by rfl, ?_⟩) (by assumption) ?_
  rotate_left 1
  · (intro w9 hSw; (try dsimp only at hSw); go_simp; try with_reducible rfl)
  try simp only [Act.put, List.setIfInBounds_toArray, List.set_cons_zero, List.set_cons_succ]
  refine wpAnyH_take (i := 1) (oi := ({ dst := some 17, op := Op.load 9 (Operand.tmp 16), type := 9, pos := "ref.go:67", after := #[{ on := 0, ground := Ground.data }], guard := none })) (v := ?_) rfl (by kernel_rfl) (by kernel_rfl) (by kernel_rfl) (fun _ _ _ h => h) (Or.inl ⟨by rfl, ?_⟩) (by assumption) ?_
  rotate_left 1
  · (intro w9 hSw; (try dsimp only at hSw); go_simp; try with_reducible rfl)
  try simp only [Act.put, List.setIfInBounds_toArray, List.set_cons_zero, List.set_cons_succ]
  refine wpAnyH_take (i := 2) (oi := ({ dst := some 18, op := Op.fieldAddr 35 (Operand.tmp 5) 2, type := 0, pos := "ref.go:67", after := #[], guard := none })) (v := ?_) rfl (by kernel_rfl) (by kernel_rfl) (by kernel_rfl) (fun _ _ _ h => h) (Or.inl ⟨by rfl, ?_⟩) (by assumption) ?_
  rotate_left 1
  · (intro w9 hSw; (try dsimp only at hSw); go_simp; try with_reducible rfl)
  try simp only [Act.put, List.setIfInBounds_toArray, List.set_cons_zero, List.set_cons_succ]
  refine wpAnyH_take (i := 3) (oi := ({ dst := some 19, op := Op.load 9 (Operand.tmp 18), type := 9, pos := "ref.go:67", after := #[{ on := 2, ground := Ground.data }], guard := none })) (v := ?_) rfl (by kernel_rfl) (by kernel_rfl) (by kernel_rfl) (fun _ _ _ h => h) (Or.inl ⟨by rfl, ?_⟩) (by assumption) ?_
  rotate_left 1
  · (intro w9 hSw; (try dsimp only at hSw); go_simp; try with_reducible rfl)
  try simp only [Act.put, List.setIfInBounds_toArray, List.set_cons_zero, List.set_cons_succ]
  refine wpAnyH_take (i := 4) (oi := ({ dst := some 20, op := Op.fieldAddr 35 (Operand.tmp 5) 3, type := 0, pos := "ref.go:67", after := #[], guard := none })) (v := ?_) rfl (by kernel_rfl) (by kernel_rfl) (by kernel_rfl) (fun _ _ _ h => h) (Or.inl ⟨by rfl, ?_⟩) (by assumption) ?_
  rotate_left 1
  · (intro w9 hSw; (try dsimp only at hSw); go_simp; try with_reducible rfl)
  try simp only [Act.put, List.setIfInBounds_toArray, List.set_cons_zero, List.set_cons_succ]
  refine wpAnyH_take (i := 5) (oi := ({ dst := some 21, op := Op.load 33 (Operand.tmp 20), type := 33, pos := "ref.go:67", after := #[{ on := 4, ground := Ground.data }], guard := none })) (v := ?_) rfl (by kernel_rfl) (by kernel_rfl) (by kernel_rfl) (fun _ _ _ h => h) (Or.inl ⟨by rfl, ?_⟩) (by assumption) ?_
  rotate_left 1
  · (intro w9 hSw; (try dsimp only at hSw); go_simp; try with_reducible rfl)
  try simp only [Act.put, List.setIfInBounds_toArray, List.set_cons_zero, List.set_cons_succ]
  refine wpAnyH_take (i := 6) (oi := ({ dst := some 22, op := Op.move (Operand.tmp 9), type := 29, pos := "ref.go:67", after := #[], guard := none })) (v := ?_) rfl (by kernel_rfl) (by kernel_rfl) (by kernel_rfl) (fun _ _ _ h => h) (Or.inl ⟨by rfl, ?_⟩) (by assumption) ?_
  rotate_left 1
  · (intro w9 hSw; (try dsimp only at hSw); go_simp; try with_reducible rfl)
  try simp only [Act.put, List.setIfInBounds_toArray, List.set_cons_zero, List.set_cons_succ]
  refine wpAnyH_take (i := 7) (oi := ({ dst := some 23, op := Op.move (Operand.tmp 2), type := 29, pos := "ref.go:67", after := #[], guard := none })) (v := ?_) rfl (by kernel_rfl) (by kernel_rfl) (by kernel_rfl) (fun _ _ _ h => h) (Or.inl ⟨by rfl, ?_⟩) (by assumption) ?_
  rotate_left 1
  · (intro w9 hSw; (try dsimp only at hSw); go_simp; try with_reducible rfl)
  try simp only [Act.put, List.setIfInBounds_toArray, List.set_cons_zero, List.set_cons_succ]
  refine wpAnyH_take (i := 8) (oi := ({ dst := some 24, op := Op.fieldAddr 35 (Operand.tmp 5) 4, type := 0, pos := "ref.go:67", after := #[], guard := none })) (v := ?_) rfl (by kernel_rfl) (by kernel_rfl) (by kernel_rfl) (fun _ _ _ h => h) (Or.inl ⟨by rfl, ?_⟩) (by assumption) ?_
  rotate_left 1
  · (intro w9 hSw; (try dsimp only at hSw); go_simp; try with_reducible rfl)
  try simp only [Act.put, List.setIfInBounds_toArray, List.set_cons_zero, List.set_cons_succ]
  refine wpAnyH_take (i := 9) (oi := ({ dst := some 25, op := Op.load 2 (Operand.tmp 24), type := 2, pos := "ref.go:67", after := #[{ on := 8, ground := Ground.data }], guard := none })) (v := ?_) rfl (by kernel_rfl) (by kernel_rfl) (by kernel_rfl) (fun _ _ _ h => h) (Or.inl ⟨by rfl, ?_⟩) (by assumption) ?_
  rotate_left 1
  · (intro w9 hSw; (try dsimp only at hSw); go_simp; try with_reducible rfl)
  try simp only [Act.put, List.setIfInBounds_toArray, List.set_cons_zero, List.set_cons_succ]
  refine wpAnyH_take (i := 11) (oi := ({ dst := some 27, op := Op.move (Operand.tmp 2), type := 29, pos := "ref.go:67", after := #[], guard := none })) (v := ?_) rfl (by kernel_rfl) (by kernel_rfl) (by kernel_rfl) (fun _ _ _ h => h) (Or.inl ⟨by rfl, ?_⟩) (by assumption) ?_
  rotate_left 1
  · (intro w9 hSw; (try dsimp only at hSw); go_simp; try with_reducible rfl)
  try simp only [Act.put, List.setIfInBounds_toArray, List.set_cons_zero, List.set_cons_succ]
  refine wpAnyH_ready (rs := [10, 14]) (by kernel_rfl) (by simp) ?_
  refine (AllReadyH.cons (o := ({ dst := some 26, op := Op.call { callee := Callee.value (Operand.func 78), args := #[Operand.tmp 23, Operand.tmp 25], argTypes := #[29, 2] }, type := 3, pos := "ref.go:67", after := #[{ on := 7, ground := Ground.data }, { on := 9, ground := Ground.data }], guard := none })) rfl (fun K hK => ?_) (AllReadyH.cons (o := ({ dst := some 10, op := Op.alloc 38, type := 0, pos := "ref.go:67", after := #[], guard := none })) rfl (fun K hK => ?_) AllReadyH.nil))
  focus
    go_simp
    refine (rdies x c.exp _ HX.out.1 HX.out.2).mono ?_
    rintro e1 Y ⟨rfl, rfl⟩
    rw [HD.out]
    refine hK.out _ _ (KEEP.out _ hB) (fun hHeld => ?_)
    clear hK K
    try simp only [Act.put, List.setIfInBounds_toArray, List.set_cons_zero, List.set_cons_succ]
    refine wpAnyH_ready (rs := [12, 14]) (by kernel_rfl) (by simp) ?_
    refine (AllReadyH.cons (o := ({ dst := some 28, op := Op.call { callee := Callee.value (Operand.func 74), args := #[Operand.tmp 27], argTypes := #[29] }, type := 3, pos := "ref.go:67", after := #[{ on := 11, ground := Ground.data }, { on := 10, ground := Ground.chain }], guard := none })) rfl (fun K hK => ?_) (AllReadyH.cons (o := ({ dst := some 10, op := Op.alloc 38, type := 0, pos := "ref.go:67", after := #[], guard := none })) rfl (fun K hK => ?_) AllReadyH.nil))
    focus
      go_simp
      refine (rgen x _ HX.out.1 HX.out.2).mono ?_
      rintro e1 Y ⟨rfl, rfl⟩
      rw [HGG.out]
      refine hK.out _ _ (KEEP.out _ hB) (fun hHeld => ?_)
      clear hK K
      try simp only [Act.put, List.setIfInBounds_toArray, List.set_cons_zero, List.set_cons_succ]
      refine wpAnyH_take (i := 13) (oi := ({ dst := some 29, op := Op.build 38 #[(0, Operand.tmp 17), (1, Operand.tmp 19), (2, Operand.tmp 21), (3, Operand.tmp 22), (4, Operand.tmp 26), (5, Operand.tmp 28)], type := 38, pos := "ref.go:67", after := #[{ on := 1, ground := Ground.data }, { on := 3, ground := Ground.data }, { on := 5, ground := Ground.data }, { on := 6, ground := Ground.data }, { on := 10, ground := Ground.data }, { on := 12, ground := Ground.data }], guard := none })) (v := ?_) rfl (by kernel_rfl) (by kernel_rfl) (by kernel_rfl) (fun _ _ _ h => h) (Or.inl ⟨by rfl, ?_⟩) (by assumption) ?_
      rotate_left 1
      · (intro w9 hSw; (try dsimp only at hSw); go_simp; try with_reducible rfl)
      try simp only [Act.put, List.setIfInBounds_toArray, List.set_cons_zero, List.set_cons_succ]
      refine wpAnyH_ready (rs := [14]) (by kernel_rfl) (by simp) ?_
      refine AllReadyH.cons (o := ({ dst := some 10, op := Op.alloc 38, type := 0, pos := "ref.go:67", after := #[], guard := none })) rfl (fun K hK => ?_) AllReadyH.nil
      refine step_alloc_bk rfl 38 (itC Itm.none) alloc_it rfl ?_
      intro W6 q10 h6
      replace hB := fr_new hB h6.below
      refine hK.out _ _ (KEEP.out _ hB) (fun hHeld => ?_)
      clear hK K
      try simp only [Act.put, List.setIfInBounds_toArray, List.set_cons_zero, List.set_cons_succ]
      refine wpAnyH_ready (rs := [15]) (by kernel_rfl) (by simp) ?_
      refine AllReadyH.cons (o := ({ dst := none, op := Op.store 38 (Operand.tmp 10) (Operand.tmp 29), type := 0, pos := "ref.go:67", after := #[{ on := 14, ground := Ground.data }, { on := 13, ground := Ground.data }, { on := 12, ground := Ground.chain }, { on := 0, ground := Ground.phase }, { on := 1, ground := Ground.phase }, { on := 2, ground := Ground.phase }, { on := 3, ground := Ground.phase }, { on := 4, ground := Ground.phase }, { on := 5, ground := Ground.phase }, { on := 6, ground := Ground.phase }, { on := 7, ground := Ground.phase }, { on := 8, ground := Ground.phase }, { on := 9, ground := Ground.phase }, { on := 10, ground := Ground.phase }, { on := 11, ground := Ground.phase }, { on := 12, ground := Ground.phase }, { on := 13, ground := Ground.phase }, { on := 14, ground := Ground.phase }], guard := none })) rfl (fun K hK => ?_) AllReadyH.nil
      refine step_store_bk rfl 38 (.tmp 10) (.tmp 29) rfl q10 0 (itC Itm.none) (itC ⟨c.key, c.val, c.fl, I, D, G⟩) (itC ⟨c.key, c.val, c.fl, I, D, G⟩) h6.bk (Nat.le_refl 6) rfl info_it (itC_one _) rfl rfl ?_
      intro W7 h7 k7
      replace hB := fr_set hB k7 (h6.at hB0)
      refine hK.out _ _ (KEEP.out _ hB) (fun hHeld => ?_)
      clear hK K
      try simp only [Act.put]
      refine wpAnyH_done (by kernel_rfl) ?_ _
    rotate_left 1
    focus
      refine step_alloc_bk rfl 38 (itC Itm.none) alloc_it rfl ?_
      intro W6 q10 h6
      replace hB := fr_new hB h6.below
      refine hK.out _ _ (KEEP.out _ hB) (fun hHeld => ?_)
      clear hK K
      try simp only [Act.put, List.setIfInBounds_toArray, List.set_cons_zero, List.set_cons_succ]
      refine wpAnyH_ready (rs := [12]) (by kernel_rfl) (by simp) ?_
      refine AllReadyH.cons (o := ({ dst := some 28, op := Op.call { callee := Callee.value (Operand.func 74), args := #[Operand.tmp 27], argTypes := #[29] }, type := 3, pos := "ref.go:67", after := #[{ on := 11, ground := Ground.data }, { on := 10, ground := Ground.chain }], guard := none })) rfl (fun K hK => ?_) AllReadyH.nil
      go_simp
      refine (rgen x _ HX.out.1 HX.out.2).mono ?_
      rintro e1 Y ⟨rfl, rfl⟩
      rw [HGG.out]
      refine hK.out _ _ (KEEP.out _ hB) (fun hHeld => ?_)
      clear hK K
      try simp only [Act.put, List.setIfInBounds_toArray, List.set_cons_zero, List.set_cons_succ]
      refine wpAnyH_take (i := 13) (oi := ({ dst := some 29, op := Op.build 38 #[(0, Operand.tmp 17), (1, Operand.tmp 19), (2, Operand.tmp 21), (3, Operand.tmp 22), (4, Operand.tmp 26), (5, Operand.tmp 28)], type := 38, pos := "ref.go:67", after := #[{ on := 1, ground := Ground.data }, { on := 3, ground := Ground.data }, { on := 5, ground := Ground.data }, { on := 6, ground := Ground.data }, { on := 10, ground := Ground.data }, { on := 12, ground := Ground.data }], guard := none })) (v := ?_) rfl (by kernel_rfl) (by kernel_rfl) (by kernel_rfl) (fun _ _ _ h => h) (Or.inl ⟨by rfl, ?_⟩) (by assumption) ?_
      rotate_left 1
      · (intro w9 hSw; (try dsimp only at hSw); go_simp; try with_reducible rfl)
      try simp only [Act.put, List.setIfInBounds_toArray, List.set_cons_zero, List.set_cons_succ]
      refine wpAnyH_ready (rs := [15]) (by kernel_rfl) (by simp) ?_
      refine AllReadyH.cons (o := ({ dst := none, op := Op.store 38 (Operand.tmp 10) (Operand.tmp 29), type := 0, pos := "ref.go:67", after := #[{ on := 14, ground := Ground.data }, { on := 13, ground := Ground.data }, { on := 12, ground := Ground.chain }, { on := 0, ground := Ground.phase }, { on := 1, ground := Ground.phase }, { on := 2, ground := Ground.phase }, { on := 3, ground := Ground.phase }, { on := 4, ground := Ground.phase }, { on := 5, ground := Ground.phase }, { on := 6, ground := Ground.phase }, { on := 7, ground := Ground.phase }, { on := 8, ground := Ground.phase }, { on := 9, ground := Ground.phase }, { on := 10, ground := Ground.phase }, { on := 11, ground := Ground.phase }, { on := 12, ground := Ground.phase }, { on := 13, ground := Ground.phase }, { on := 14, ground := Ground.phase }], guard := none })) rfl (fun K hK => ?_) AllReadyH.nil
      refine step_store_bk rfl 38 (.tmp 10) (.tmp 29) rfl q10 0 (itC Itm.none) (itC ⟨c.key, c.val, c.fl, I, D, G⟩) (itC ⟨c.key, c.val, c.fl, I, D, G⟩) h6.bk (Nat.le_refl 6) rfl info_it (itC_one _) rfl rfl ?_
      intro W7 h7 k7
      replace hB := fr_set hB k7 (h6.at hB0)
      refine hK.out _ _ (KEEP.out _ hB) (fun hHeld => ?_)
      clear hK K
      try simp only [Act.put]
      refine wpAnyH_done (by kernel_rfl) ?_ _
    rotate_left 1
  rotate_left 2
  focus
    refine step_alloc_bk rfl 38 (itC Itm.none) alloc_it rfl ?_
    intro W6 q10 h6
    replace hB := fr_new hB h6.below
    refine hK.out _ _ (KEEP.out _ hB) (fun hHeld => ?_)
    clear hK K
    try simp only [Act.put, List.setIfInBounds_toArray, List.set_cons_zero, List.set_cons_succ]
    refine wpAnyH_ready (rs := [10]) (by kernel_rfl) (by simp) ?_
    refine AllReadyH.cons (o := ({ dst := some 26, op := Op.call { callee := Callee.value (Operand.func 78), args := #[Operand.tmp 23, Operand.tmp 25], argTypes := #[29, 2] }, type := 3, pos := "ref.go:67", after := #[{ on := 7, ground := Ground.data }, { on := 9, ground := Ground.data }], guard := none })) rfl (fun K hK => ?_) AllReadyH.nil
    go_simp
    refine (rdies x c.exp _ HX.out.1 HX.out.2).mono ?_
    rintro e1 Y ⟨rfl, rfl⟩
    rw [HD.out]
    refine hK.out _ _ (KEEP.out _ hB) (fun hHeld => ?_)
    clear hK K
    try simp only [Act.put, List.setIfInBounds_toArray, List.set_cons_zero, List.set_cons_succ]
    refine wpAnyH_ready (rs := [12]) (by kernel_rfl) (by simp) ?_
    refine AllReadyH.cons (o := ({ dst := some 28, op := Op.call { callee := Callee.value (Operand.func 74), args := #[Operand.tmp 27], argTypes := #[29] }, type := 3, pos := "ref.go:67", after := #[{ on := 11, ground := Ground.data }, { on := 10, ground := Ground.chain }], guard := none })) rfl (fun K hK => ?_) AllReadyH.nil
    go_simp
    refine (rgen x _ HX.out.1 HX.out.2).mono ?_
    rintro e1 Y ⟨rfl, rfl⟩
    rw [HGG.out]
    refine hK.out _ _ (KEEP.out _ hB) (fun hHeld => ?_)
    clear hK K
    try simp only [Act.put, List.setIfInBounds_toArray, List.set_cons_zero, List.set_cons_succ]
    refine wpAnyH_take (i := 13) (oi := ({ dst := some 29, op := Op.build 38 #[(0, Operand.tmp 17), (1, Operand.tmp 19), (2, Operand.tmp 21), (3, Operand.tmp 22), (4, Operand.tmp 26), (5, Operand.tmp 28)], type := 38, pos := "ref.go:67", after := #[{ on := 1, ground := Ground.data }, { on := 3, ground := Ground.data }, { on := 5, ground := Ground.data }, { on := 6, ground := Ground.data }, { on := 10, ground := Ground.data }, { on := 12, ground := Ground.data }], guard := none })) (v := ?_) rfl (by kernel_rfl) (by kernel_rfl) (by kernel_rfl) (fun _ _ _ h => h) (Or.inl ⟨by rfl, ?_⟩) (by assumption) ?_
    rotate_left 1
    · (intro w9 hSw; (try dsimp only at hSw); go_simp; try with_reducible rfl)
    try simp only [Act.put, List.setIfInBounds_toArray, List.set_cons_zero, List.set_cons_succ]
    refine wpAnyH_ready (rs := [15]) (by kernel_rfl) (by simp) ?_
    refine AllReadyH.cons (o := ({ dst := none, op := Op.store 38 (Operand.tmp 10) (Operand.tmp 29), type := 0, pos := "ref.go:67", after := #[{ on := 14, ground := Ground.data }, { on := 13, ground := Ground.data }, { on := 12, ground := Ground.chain }, { on := 0, ground := Ground.phase }, { on := 1, ground := Ground.phase }, { on := 2, ground := Ground.phase }, { on := 3, ground := Ground.phase }, { on := 4, ground := Ground.phase }, { on := 5, ground := Ground.phase }, { on := 6, ground := Ground.phase }, { on := 7, ground := Ground.phase }, { on := 8, ground := Ground.phase }, { on := 9, ground := Ground.phase }, { on := 10, ground := Ground.phase }, { on := 11, ground := Ground.phase }, { on := 12, ground := Ground.phase }, { on := 13, ground := Ground.phase }, { on := 14, ground := Ground.phase }], guard := none })) rfl (fun K hK => ?_) AllReadyH.nil
    refine step_store_bk rfl 38 (.tmp 10) (.tmp 29) rfl q10 0 (itC Itm.none) (itC ⟨c.key, c.val, c.fl, I, D, G⟩) (itC ⟨c.key, c.val, c.fl, I, D, G⟩) h6.bk (Nat.le_refl 6) rfl info_it (itC_one _) rfl rfl ?_
    intro W7 h7 k7
    replace hB := fr_set hB k7 (h6.at hB0)
    refine hK.out _ _ (KEEP.out _ hB) (fun hHeld => ?_)
    clear hK K
    try simp only [Act.put]
    refine wpAnyH_done (by kernel_rfl) ?_ _
  rotate_left 1
  all_goals
    go_wp2_with fail
    have HF7 := Lib.hid (fr_new HF2.out hB)
    have HG7 := Lib.hid (HG2.out.new hB)
    have HQ7 := Lib.hid (show q10 ≠ q8 ∧ q8 < W7.heap.size from ⟨by have e1 := h6.at hB0; have e2 := HQ.out; omega, by have e1 := hB.size; have e2 := HQ.out; omega⟩)
    have KEEP3 : Hid (∀ X, Keeps (fun k => k = q8 ∨ W7.heap.size ≤ k) W7 X → X.cell? ⟨q5, 1, none⟩ = some (.string c.key) ∧ X.cell? ⟨q10, 0, none⟩ = some (.string c.key) ∧ X.cell? ⟨q10, 1, none⟩ = some (.string c.val) ∧ X.cell? ⟨q10, 2, none⟩ = some (.int .u32 c.fl) ∧ X.cell? ⟨q10, 3, none⟩ = some (.int .u64 I) ∧ X.cell? ⟨q10, 4, none⟩ = some (.int .i64 D) ∧ X.cell? ⟨q10, 5, none⟩ = some (.int .i64 G)) := Lib.hid fun X hb => by
      obtain ⟨y0, y1, y2, y3, y4, y5, y6⟩ := call_cells ((HC.out.new hB).keep hb (by have e1 := HQ.out; have e2 := (HC.out.new hB).lt; omega))
      exact ⟨y1, it_cells (h7.keep hb (by have e1 := HQ7.out; have e2 := h7.lt; omega))⟩
    have hB7 : Below W7.heap.size W7 W7.drew := (Below.refl _ _).drew
    clear h6 h7 k7 hB hB0 hHeld
    refine wp_region_held_drew (S := fun X => X.cell? ⟨q5, 1, none⟩ = some (.string c.key) ∧ X.cell? ⟨q10, 0, none⟩ = some (.string c.key) ∧ X.cell? ⟨q10, 1, none⟩ = some (.string c.val) ∧ X.cell? ⟨q10, 2, none⟩ = some (.int .u32 c.fl) ∧ X.cell? ⟨q10, 3, none⟩ = some (.int .u64 I) ∧ X.cell? ⟨q10, 4, none⟩ = some (.int .i64 D) ∧ X.cell? ⟨q10, 5, none⟩ = some (.int .i64 G)) (by kernel_rfl) (KEEP3.out _ (kq hB7)) (fun hHeld => ?_)
    refine wpAnyH_take (i := 0) (oi := ({ dst := some 30, op := Op.move (Operand.tmp 9), type := 29, pos := "ref.go:68", after := #[], guard := none })) (v := ?_) rfl (by kernel_rfl) (by kernel_rfl) (by kernel_rfl) (fun _ _ _ h => h) (Or.inl ⟨by rfl, ?_⟩) (by assumption) ?_
    rotate_left 1
    · (intro w9 hSw; (try dsimp only at hSw); go_simp; try with_reducible rfl)
    try simp only [Act.put, List.setIfInBounds_toArray, List.set_cons_zero, List.set_cons_succ]
    refine wpAnyH_take (i := 1) (oi := ({ dst := some 31, op := Op.build 40 #[(0, Operand.const (Value.int IntKind.u8 1)), (1, Operand.tmp 30)], type := 40, pos := "ref.go:68", after := #[{ on := 0, ground := Ground.data }], guard := none })) (v := ?_) rfl (by kernel_rfl) (by kernel_rfl) (by kernel_rfl) (fun _ _ _ h => h) (Or.inl ⟨by rfl, ?_⟩) (by assumption) ?_
    rotate_left 1
    · (intro w9 hSw; (try dsimp only at hSw); go_simp; try with_reducible rfl)
    try simp only [Act.put, List.setIfInBounds_toArray, List.set_cons_zero, List.set_cons_succ]
    refine wpAnyH_take (i := 2) (oi := ({ dst := some 32, op := Op.move (Operand.tmp 0), type := 27, pos := "ref.go:68", after := #[], guard := none })) (v := ?_) rfl (by kernel_rfl) (by kernel_rfl) (by kernel_rfl) (fun _ _ _ h => h) (Or.inl ⟨by rfl, ?_⟩) (by assumption) ?_
    rotate_left 1
    · (intro w9 hSw; (try dsimp only at hSw); go_simp; try with_reducible rfl)
    try simp only [Act.put, List.setIfInBounds_toArray, List.set_cons_zero, List.set_cons_succ]
    refine wpAnyH_take (i := 3) (oi := ({ dst := some 33, op := Op.fieldAddr 35 (Operand.tmp 5) 1, type := 0, pos := "ref.go:68", after := #[], guard := none })) (v := ?_) rfl (by kernel_rfl) (by kernel_rfl) (by kernel_rfl) (fun _ _ _ h => h) (Or.inl ⟨by rfl, ?_⟩) (by assumption) ?_
    rotate_left 1
    · (intro w9 hSw; (try dsimp only at hSw); go_simp; try with_reducible rfl)
    try simp only [Act.put, List.setIfInBounds_toArray, List.set_cons_zero, List.set_cons_succ]
    refine wpAnyH_take (i := 4) (oi := ({ dst := some 34, op := Op.load 9 (Operand.tmp 33), type := 9, pos := "ref.go:68", after := #[{ on := 3, ground := Ground.data }], guard := none })) (v := ?_) rfl (by kernel_rfl) (by kernel_rfl) (by kernel_rfl) (fun _ _ _ h => h) (Or.inl ⟨by rfl, ?_⟩) (by assumption) ?_
    rotate_left 1
    · (intro w9 hSw; (try dsimp only at hSw); go_simp; try with_reducible rfl)
    try simp only [Act.put, List.setIfInBounds_toArray, List.set_cons_zero, List.set_cons_succ]
    refine wpAnyH_take (i := 6) (oi := ({ dst := some 36, op := Op.load 38 (Operand.tmp 10), type := 38, pos := "ref.go:68", after := #[], guard := none })) (v := ?_) rfl (by kernel_rfl) (by kernel_rfl) (by kernel_rfl) (fun _ _ _ h => h) (Or.inl ⟨by rfl, ?_⟩) (by assumption) ?_
    rotate_left 1
    · (intro w9 hSw; (try dsimp only at hSw); go_simp; try with_reducible rfl)
    try simp only [Act.put, List.setIfInBounds_toArray, List.set_cons_zero, List.set_cons_succ]
    refine wpAnyH_take (i := 9) (oi := ({ dst := some 39, op := Op.move (Operand.tmp 2), type := 29, pos := "ref.go:68", after := #[], guard := none })) (v := ?_) rfl (by kernel_rfl) (by kernel_rfl) (by kernel_rfl) (fun _ _ _ h => h) (Or.inl ⟨by rfl, ?_⟩) (by assumption) ?_
    rotate_left 1
    · (intro w9 hSw; (try dsimp only at hSw); go_simp; try with_reducible rfl)
    try simp only [Act.put, List.setIfInBounds_toArray, List.set_cons_zero, List.set_cons_succ]
    refine wpAnyH_take (i := 10) (oi := ({ dst := some 40, op := Op.move (Operand.tmp 9), type := 29, pos := "ref.go:68", after := #[], guard := none })) (v := ?_) rfl (by kernel_rfl) (by kernel_rfl) (by kernel_rfl) (fun _ _ _ h => h) (Or.inl ⟨by rfl, ?_⟩) (by assumption) ?_
    rotate_left 1
    · (intro w9 hSw; (try dsimp only at hSw); go_simp; try with_reducible rfl)
    try simp only [Act.put, List.setIfInBounds_toArray, List.set_cons_zero, List.set_cons_succ]
    refine wpAnyH_take (i := 12) (oi := ({ dst := some 42, op := Op.move (Operand.tmp 3), type := 4, pos := "ref.go:68", after := #[], guard := none })) (v := ?_) rfl (by kernel_rfl) (by kernel_rfl) (by kernel_rfl) (fun _ _ _ h => h) (Or.inl ⟨by rfl, ?_⟩) (by assumption) ?_
    rotate_left 1
    · (intro w9 hSw; (try dsimp only at hSw); go_simp; try with_reducible rfl)
    try simp only [Act.put, List.setIfInBounds_toArray, List.set_cons_zero, List.set_cons_succ]
    refine wpAnyH_take (i := 13) (oi := ({ dst := some 43, op := Op.unOp UnOp.not 4 (Operand.tmp 42), type := 4, pos := "ref.go:68", after := #[{ on := 12, ground := Ground.data }], guard := none })) (v := ?_) rfl (by kernel_rfl) (by kernel_rfl) (by kernel_rfl) (fun _ _ _ h => h) (Or.inl ⟨by rfl, ?_⟩) (by assumption) ?_
    rotate_left 1
    · (intro w9 hSw; (try dsimp only at hSw); go_simp; try with_reducible rfl)
    try simp only [Act.put, List.setIfInBounds_toArray, List.set_cons_zero, List.set_cons_succ]
    refine wpAnyH_ready (rs := [5, 7]) (by kernel_rfl) (by simp) ?_
    refine (AllReadyH.cons (o := ({ dst := some 35, op := Op.call { callee := Callee.value (Operand.func 38), args := #[Operand.tmp 32, Operand.tmp 34], argTypes := #[27, 9] }, type := 28, pos := "ref.go:68", after := #[{ on := 2, ground := Ground.data }, { on := 4, ground := Ground.data }], guard := none })) rfl (fun K hK => ?_) (AllReadyH.cons (o := ({ dst := some 37, op := Op.buildSlice 28 1 #[(0, Operand.tmp 36)], type := 28, pos := "ref.go:68", after := #[{ on := 6, ground := Ground.data }], guard := none })) rfl (fun K hK => ?_) AllReadyH.nil))
    focus
      go_simp
      refine (rwow (HR.out.new (fr_new HF7.out hB7)) (HL.out.new (fr_new HF7.out hB7)) HN.out c.key).mono ?_
      rintro e1 W8 ⟨a1, n1, c1, rfl, hl1, b8⟩
      replace hl1 := hl1.base (B' := W7.heap.size) hB7.size
      replace hB7 := fr_new hB7 b8
      (try replace h9 := h9.new b8)
      refine hK.out _ _ (KEEP3.out _ (kq hB7)) (fun hHeld => ?_)
      clear hK K
      try simp only [Act.put, List.setIfInBounds_toArray, List.set_cons_zero, List.set_cons_succ]
      refine wpAnyH_ready (rs := [7]) (by kernel_rfl) (by simp) ?_
      refine AllReadyH.cons (o := ({ dst := some 37, op := Op.buildSlice 28 1 #[(0, Operand.tmp 36)], type := 28, pos := "ref.go:68", after := #[{ on := 6, ground := Ground.data }], guard := none })) rfl (fun K hK => ?_) AllReadyH.nil
      refine step_bs_it rfl (.tmp 36) rfl ⟨c.key, c.val, c.fl, I, D, G⟩ rfl ?_
      intro W9 g9 h9'
      replace hB7 := fr_new hB7 h9'.below
      (try replace hl1 := hl1.new h9'.below)
      have h9 := h9'.bk
      clear h9'
      refine hK.out _ _ (KEEP3.out _ (kq hB7)) (fun hHeld => ?_)
      clear hK K
      try simp only [Act.put, List.setIfInBounds_toArray, List.set_cons_zero, List.set_cons_succ]
      refine wpAnyH_ready (rs := [8]) (by kernel_rfl) (by simp) ?_
      refine AllReadyH.cons (o := ({ dst := some 38, op := Op.call { callee := Callee.builtin Builtin.append, args := #[Operand.tmp 35, Operand.tmp 37], argTypes := #[28, 28] }, type := 28, pos := "ref.go:68", after := #[{ on := 5, ground := Ground.data }, { on := 7, ground := Ground.data }, { on := 5, ground := Ground.chain }], guard := none })) rfl (fun K hK => ?_) AllReadyH.nil
      refine step_append_it rfl (.tmp 35) (.tmp 37) rfl ⟨c.key, c.val, c.fl, I, D, G⟩ rfl hl1 g9 rfl h9 hB7.size (by have e1 := hl1.len; have e2 := wo_len_le L c.key; have e3 := HL.out.len; have e4 := HN.out; omega) ?_
      intro a2 n2 c2 W10 hl2 hg2
      replace hB7 := RL.grown hl1 hB7 (Nat.le_refl _) hg2
      clear hg2 hl1 h9
      refine hK.out _ _ (KEEP3.out _ (kq hB7)) (fun hHeld => ?_)
      clear hK K
      try simp only [Act.put, List.setIfInBounds_toArray, List.set_cons_zero, List.set_cons_succ]
      refine wpAnyH_take (i := 11) (oi := ({ dst := some 41, op := Op.build 31 #[(0, Operand.tmp 38), (1, Operand.tmp 39), (2, Operand.tmp 40)], type := 31, pos := "ref.go:68", after := #[{ on := 8, ground := Ground.data }, { on := 9, ground := Ground.data }, { on := 10, ground := Ground.data }], guard := none })) (v := ?_) rfl (by kernel_rfl) (by kernel_rfl) (by kernel_rfl) (fun _ _ _ h => h) (Or.inl ⟨by rfl, ?_⟩) (by assumption) ?_
      rotate_left 1
      · (intro w9 hSw; (try dsimp only at hSw); go_simp; try with_reducible rfl)
      try simp only [Act.put, List.setIfInBounds_toArray, List.set_cons_zero, List.set_cons_succ]
      refine wpAnyH_take (i := 14) (oi := ({ dst := some 44, op := Op.build 87 #[(0, Operand.tmp 31), (1, Operand.tmp 41), (2, Operand.tmp 43)], type := 87, pos := "ref.go:68", after := #[{ on := 1, ground := Ground.data }, { on := 11, ground := Ground.data }, { on := 13, ground := Ground.data }], guard := none })) (v := ?_) rfl (by kernel_rfl) (by kernel_rfl) (by kernel_rfl) (fun _ _ _ h => h) (Or.inl ⟨by rfl, ?_⟩) (by assumption) ?_
      rotate_left 1
      · (intro w9 hSw; (try dsimp only at hSw); go_simp; try with_reducible rfl)
      try simp only [Act.put, List.setIfInBounds_toArray, List.set_cons_zero, List.set_cons_succ]
      refine wpAnyH_ready (rs := [15]) (by kernel_rfl) (by simp) ?_
      refine AllReadyH.cons (o := ({ dst := none, op := Op.store 87 (Operand.tmp 8) (Operand.tmp 44), type := 0, pos := "ref.go:68", after := #[{ on := 14, ground := Ground.data }, { on := 8, ground := Ground.chain }, { on := 0, ground := Ground.phase }, { on := 1, ground := Ground.phase }, { on := 2, ground := Ground.phase }, { on := 3, ground := Ground.phase }, { on := 4, ground := Ground.phase }, { on := 5, ground := Ground.phase }, { on := 6, ground := Ground.phase }, { on := 7, ground := Ground.phase }, { on := 8, ground := Ground.phase }, { on := 9, ground := Ground.phase }, { on := 10, ground := Ground.phase }, { on := 11, ground := Ground.phase }, { on := 12, ground := Ground.phase }, { on := 13, ground := Ground.phase }, { on := 14, ground := Ground.phase }], guard := none })) rfl (fun K hK => ?_) AllReadyH.nil
      refine step_store_bk rfl 87 (.tmp 8) (.tmp 44) rfl q8 0 gvnZ (gvnC ⟨1, I, Itm.none⟩ a2 n2 c2 x I (!has)) (gvnC ⟨1, I, Itm.none⟩ a2 n2 c2 x I (!has)) (HG7.out.new hB7) (Nat.le_refl 12) rfl info_gvn (gvnC_one _ _ _ _ _ _ _) rfl rfl ?_
      intro W11 h11 k11
      refine hK.out _ _ (KEEP3.out _ ((kq hB7).trans k11 (fun j hj s => .inl s))) (fun hHeld => ?_)
      clear hK K
      try simp only [Act.put]
      refine wpAnyH_done (by kernel_rfl) ?_ _
    rotate_left 1
    focus
      refine step_bs_it rfl (.tmp 36) rfl ⟨c.key, c.val, c.fl, I, D, G⟩ rfl ?_
      intro W9 g9 h9'
      replace hB7 := fr_new hB7 h9'.below
      (try replace hl1 := hl1.new h9'.below)
      have h9 := h9'.bk
      clear h9'
      refine hK.out _ _ (KEEP3.out _ (kq hB7)) (fun hHeld => ?_)
      clear hK K
      try simp only [Act.put, List.setIfInBounds_toArray, List.set_cons_zero, List.set_cons_succ]
      refine wpAnyH_ready (rs := [5]) (by kernel_rfl) (by simp) ?_
      refine AllReadyH.cons (o := ({ dst := some 35, op := Op.call { callee := Callee.value (Operand.func 38), args := #[Operand.tmp 32, Operand.tmp 34], argTypes := #[27, 9] }, type := 28, pos := "ref.go:68", after := #[{ on := 2, ground := Ground.data }, { on := 4, ground := Ground.data }], guard := none })) rfl (fun K hK => ?_) AllReadyH.nil
      go_simp
      refine (rwow (HR.out.new (fr_new HF7.out hB7)) (HL.out.new (fr_new HF7.out hB7)) HN.out c.key).mono ?_
      rintro e1 W8 ⟨a1, n1, c1, rfl, hl1, b8⟩
      replace hl1 := hl1.base (B' := W7.heap.size) hB7.size
      replace hB7 := fr_new hB7 b8
      (try replace h9 := h9.new b8)
      refine hK.out _ _ (KEEP3.out _ (kq hB7)) (fun hHeld => ?_)
      clear hK K
      try simp only [Act.put, List.setIfInBounds_toArray, List.set_cons_zero, List.set_cons_succ]
      refine wpAnyH_ready (rs := [8]) (by kernel_rfl) (by simp) ?_
      refine AllReadyH.cons (o := ({ dst := some 38, op := Op.call { callee := Callee.builtin Builtin.append, args := #[Operand.tmp 35, Operand.tmp 37], argTypes := #[28, 28] }, type := 28, pos := "ref.go:68", after := #[{ on := 5, ground := Ground.data }, { on := 7, ground := Ground.data }, { on := 5, ground := Ground.chain }], guard := none })) rfl (fun K hK => ?_) AllReadyH.nil
      refine step_append_it rfl (.tmp 35) (.tmp 37) rfl ⟨c.key, c.val, c.fl, I, D, G⟩ rfl hl1 g9 rfl h9 hB7.size (by have e1 := hl1.len; have e2 := wo_len_le L c.key; have e3 := HL.out.len; have e4 := HN.out; omega) ?_
      intro a2 n2 c2 W10 hl2 hg2
      replace hB7 := RL.grown hl1 hB7 (Nat.le_refl _) hg2
      clear hg2 hl1 h9
      refine hK.out _ _ (KEEP3.out _ (kq hB7)) (fun hHeld => ?_)
      clear hK K
      try simp only [Act.put, List.setIfInBounds_toArray, List.set_cons_zero, List.set_cons_succ]
      refine wpAnyH_take (i := 11) (oi := ({ dst := some 41, op := Op.build 31 #[(0, Operand.tmp 38), (1, Operand.tmp 39), (2, Operand.tmp 40)], type := 31, pos := "ref.go:68", after := #[{ on := 8, ground := Ground.data }, { on := 9, ground := Ground.data }, { on := 10, ground := Ground.data }], guard := none })) (v := ?_) rfl (by kernel_rfl) (by kernel_rfl) (by kernel_rfl) (fun _ _ _ h => h) (Or.inl ⟨by rfl, ?_⟩) (by assumption) ?_
      rotate_left 1
      · (intro w9 hSw; (try dsimp only at hSw); go_simp; try with_reducible rfl)
      try simp only [Act.put, List.setIfInBounds_toArray, List.set_cons_zero, List.set_cons_succ]
      refine wpAnyH_take (i := 14) (oi := ({ dst := some 44, op := Op.build 87 #[(0, Operand.tmp 31), (1, Operand.tmp 41), (2, Operand.tmp 43)], type := 87, pos := "ref.go:68", after := #[{ on := 1, ground := Ground.data }, { on := 11, ground := Ground.data }, { on := 13, ground := Ground.data }], guard := none })) (v := ?_) rfl (by kernel_rfl) (by kernel_rfl) (by kernel_rfl) (fun _ _ _ h => h) (Or.inl ⟨by rfl, ?_⟩) (by assumption) ?_
      rotate_left 1
      · (intro w9 hSw; (try dsimp only at hSw); go_simp; try with_reducible rfl)
      try simp only [Act.put, List.setIfInBounds_toArray, List.set_cons_zero, List.set_cons_succ]
      refine wpAnyH_ready (rs := [15]) (by kernel_rfl) (by simp) ?_
      refine AllReadyH.cons (o := ({ dst := none, op := Op.store 87 (Operand.tmp 8) (Operand.tmp 44), type := 0, pos := "ref.go:68", after := #[{ on := 14, ground := Ground.data }, { on := 8, ground := Ground.chain }, { on := 0, ground := Ground.phase }, { on := 1, ground := Ground.phase }, { on := 2, ground := Ground.phase }, { on := 3, ground := Ground.phase }, { on := 4, ground := Ground.phase }, { on := 5, ground := Ground.phase }, { on := 6, ground := Ground.phase }, { on := 7, ground := Ground.phase }, { on := 8, ground := Ground.phase }, { on := 9, ground := Ground.phase }, { on := 10, ground := Ground.phase }, { on := 11, ground := Ground.phase }, { on := 12, ground := Ground.phase }, { on := 13, ground := Ground.phase }, { on := 14, ground := Ground.phase }], guard := none })) rfl (fun K hK => ?_) AllReadyH.nil
      refine step_store_bk rfl 87 (.tmp 8) (.tmp 44) rfl q8 0 gvnZ (gvnC ⟨1, I, Itm.none⟩ a2 n2 c2 x I (!has)) (gvnC ⟨1, I, Itm.none⟩ a2 n2 c2 x I (!has)) (HG7.out.new hB7) (Nat.le_refl 12) rfl info_gvn (gvnC_one _ _ _ _ _ _ _) rfl rfl ?_
      intro W11 h11 k11
      refine hK.out _ _ (KEEP3.out _ ((kq hB7).trans k11 (fun j hj s => .inl s))) (fun hHeld => ?_)
      clear hK K
      try simp only [Act.put]
      refine wpAnyH_done (by kernel_rfl) ?_ _
    rotate_left 1
    all_goals
      go_wp2_with fail
      refine bodyPost_ret (results_bk rfl _ h11 rfl _ Tryd.underlying87 rfl info_gvn) rfl ⟨a2, n2, c2, rfl, (hl2.base (Nat.zero_le _)).keep k11 (fun g o s e e1 => by have := (hl2.blk e).1; have e3 := HQ7.out; omega), hl2.onA HF7.out.size, fr_set (fr_new HF7.out hB7) k11 HQ.out.1⟩
end
end Go.Proofs.YtmjklkcjinfmaaaDoor
/- Next: The chapter's maps: what is there is taken away, touched or counted. -/
namespace Go.Proofs.YtmjklkcjinfmaaaDoor
open Go.RowKit Go.Maps
set_option linter.unusedVariables false
theorem fr_keep {w W W' : World} {T : Nat → Prop} (h : Below w.heap.size w W) (k : Keeps T W W') (hT : ∀ j, T j → w.heap.size ≤ j) : Below w.heap.size w W' := h.trans (k.to_below (fun j _ s => hT j s) h.size)
theorem ret_u4 {a b : Int} (h : a = b) : Ending.returned (.int .u64 a) = .returned (.int .u64 b) := by rw [h]
theorem rincr4 (n b : Int) (w : World) (n0 : 0 ≤ n) (n1 : n ≤ 18446744073709551615) (b0 : 0 ≤ b) (b1 : b ≤ 18446744073709551615) :
    Calls Tryd.prog 80 #[.int .u64 n, .int .u64 b] w fun e w' => e = .returned (.int .u64 (incrF n b)) ∧ w = w' := by
  go_enter Tryd.func80, Tryd.ntmps80
  go_wp2
  go_ret
  exact ⟨ret_u4 (by unfold incrF; simp [IntKind.wrap, IntKind.bits, IntKind.signed]), rfl⟩
theorem rdecr4 (n b : Int) (w : World) (n0 : 0 ≤ n) (n1 : n ≤ 18446744073709551615) (b0 : 0 ≤ b) (b1 : b ≤ 18446744073709551615) :
    Calls Tryd.prog 81 #[.int .u64 n, .int .u64 b] w fun e w' => e = .returned (.int .u64 (decrF n b)) ∧ w = w' := by
  by_cases h : n < b
  · rw [show decrF n b = 0 by unfold decrF; rw [if_pos h]]
    go_enter Tryd.func81, Tryd.ntmps81
    go_wp2
    go_ret
    exact ⟨rfl, rfl⟩
  · rw [show decrF n b = n - b by unfold decrF; rw [if_neg h]]
    have q : decide (n < b) = false := decide_eq_false h
    have q0 : 0 ≤ n - b := by omega
    have q1 : n - b ≤ 18446744073709551615 := by omega
    clear h
    go_enter Tryd.func81, Tryd.ntmps81
    go_wp2
    go_ret
    exact ⟨rfl, rfl⟩
section
variable {w : World} {r : Nat} {a : Option Addr} {n cp : Nat} {e i : Int} {L : List Itm} {B : Nat} {c : Cal}
set_option maxHeartbeats 8000000 in
set_option maxRecDepth 100000 in
theorem rch_del (hr : Bk w r (mapR a n cp e i)) (hl : RL w B a n cp L) (hn : n < 1000000) (x : Int) (hx : 0 ≤ x ∧ x < 18446744073709551616) (y : Itm) (hy : y.k = c.key) (hv : c.verb = 7) : Calls Tryd.prog 54 #[.pointer (some ⟨r, 0, none⟩), .agg (calC c).toArray, .int .u64 x, .agg (itC y).toArray] w (GnP w a ⟨Ans.of 6, ⟨wo L c.key, x, i⟩, false⟩) := by
  have HR := Lib.hid hr
  have HL := Lib.hid hl
  have HN := Lib.hid hn
  have HX := Lib.hid hx
  have HV := Lib.hid hv
  have HYK := Lib.hid hy
  clear hr hl hn hx hv hy
  go_enter Tryd.func54, Tryd.ntmps54
  go_wp2_with (first
    | ((with_reducible refine at_wq ?_); refine wpList_box_bk rfl 35 (.tmp 1) rfl (calC c) rfl ?_; intro W1 q5 h1)
    | ((with_reducible refine at_wq ?_); refine wpList_box_bk rfl 38 (.tmp 3) rfl (itC y) rfl ?_; intro W2 q7 h2)
    | ((with_reducible refine at_wq ?_); refine wpList_alloc_bk rfl 87 gvnZ alloc_gvn rfl ?_; intro W3 q8 h3; have HF3 := Lib.hid (fr_new (fr_new h1.below h2.below) h3.below); have HC := Lib.hid ((h1.bk.new h2.below).new h3.below); have HI7 := Lib.hid (h2.bk.new h3.below); have HG3 := Lib.hid h3.bk; have HQ := Lib.hid (show w.heap.size ≤ q8 ∧ q5 ≠ q8 ∧ q7 ≠ q8 ∧ q5 ≠ q7 ∧ q8 < W3.heap.size ∧ w.heap.size ≤ q7 ∧ q7 < W3.heap.size from ⟨h3.at (fr_new h1.below h2.below), by have e1 := h1.bk.lt; have e2 := h3.eq; have e3 := h2.below.size; omega, by have e1 := h2.bk.lt; have e2 := h3.eq; omega, by have e1 := h1.bk.lt; have e2 := h2.eq; omega, h3.bk.lt, h2.at h1.below, by have e1 := h2.bk.lt; have e2 := h3.below.size; omega⟩); obtain ⟨y0, y1, y2, y3, y4, y5, y6⟩ := call_cells HC.out; clear h1 h2 h3)
    | (go_at_call 38; refine (rwow (HR.out.new HF3.out) (HL.out.new HF3.out) HN.out c.key).mono ?_; rintro e1 W4 ⟨a1, n1, c1, rfl, hl1, b4⟩; have HL1 := Lib.hid hl1; have HB4 := Lib.hid b4; have HF4 := Lib.hid (fr_new HF3.out b4); clear hl1 b4 y0 y1 y2 y3 y4 y5 y6; have HC4 := Lib.hid (HC.out.new HB4.out); have HI4 := Lib.hid (HI7.out.new HB4.out); have HG4 := Lib.hid (HG3.out.new HB4.out); have HR4 := Lib.hid (HR.out.new HF4.out); obtain ⟨y0, y1, y2, y3, y4, y5, y6⟩ := call_cells HC4.out; rw [HV.out] at y0; obtain ⟨m0, m1, m2⟩ := map_cells HR4.out)
    | ((with_reducible refine at_wq ?_); refine wpList_store_bk rfl 87 (.tmp 8) (.tmp 27) rfl q8 0 gvnZ (gvnC (Ans.of 6) a1 n1 c1 x i false) (gvnC (Ans.of 6) a1 n1 c1 x i false) HG4.out (Nat.le_refl 12) rfl info_gvn (gvnC_one _ _ _ _ _ _ _) rfl rfl ?_; intro W11 h11 k11))
  refine bodyPost_ret (results_bk rfl _ h11 rfl _ Tryd.underlying87 rfl info_gvn) rfl ⟨a1, n1, c1, rfl, (HL1.out.base (Nat.zero_le _)).keep k11 (fun g o s e e1 => by have := (HL1.out.blk e).1; have e3 := HQ.out; omega), HL1.out.onA HF3.out.size, fr_set HF4.out k11 HQ.out.1⟩
set_option maxHeartbeats 8000000 in
set_option maxRecDepth 100000 in
theorem rch_touch (hr : Bk w r (mapR a n cp e i)) (hl : RL w B a n cp L) (hn : n < 1000000) (x : Int) (hx : 0 ≤ x ∧ x < 18446744073709551616) (y : Itm) (hy : y.k = c.key) (hv : c.verb = 8) : Calls Tryd.prog 54 #[.pointer (some ⟨r, 0, none⟩), .agg (calC c).toArray, .int .u64 x, .agg (itC y).toArray] w (GnP w a ⟨Ans.of 7, ⟨put L { y with dies := diesf x c.exp }, x, i⟩, false⟩) := by
  have HR := Lib.hid hr
  have HL := Lib.hid hl
  have HN := Lib.hid hn
  have HX := Lib.hid hx
  have HV := Lib.hid hv
  have HYK := Lib.hid hy
  obtain ⟨D, hD⟩ : ∃ D, diesf x c.exp = D := ⟨_, rfl⟩
  rw [hD]
  have HD := Lib.hid hD
  clear hr hl hn hx hv hy hD
  go_enter Tryd.func54, Tryd.ntmps54
  go_wp2_with (first
    | ((with_reducible refine at_wq ?_); refine wpList_box_bk rfl 35 (.tmp 1) rfl (calC c) rfl ?_; intro W1 q5 h1)
    | ((with_reducible refine at_wq ?_); refine wpList_box_bk rfl 38 (.tmp 3) rfl (itC y) rfl ?_; intro W2 q7 h2)
    | ((with_reducible refine at_wq ?_); refine wpList_alloc_bk rfl 87 gvnZ alloc_gvn rfl ?_; intro W3 q8 h3; have HF3 := Lib.hid (fr_new (fr_new h1.below h2.below) h3.below); have HC := Lib.hid ((h1.bk.new h2.below).new h3.below); have HI7 := Lib.hid (h2.bk.new h3.below); have HG3 := Lib.hid h3.bk; have HQ := Lib.hid (show w.heap.size ≤ q8 ∧ q5 ≠ q8 ∧ q7 ≠ q8 ∧ q5 ≠ q7 ∧ q8 < W3.heap.size ∧ w.heap.size ≤ q7 ∧ q7 < W3.heap.size from ⟨h3.at (fr_new h1.below h2.below), by have e1 := h1.bk.lt; have e2 := h3.eq; have e3 := h2.below.size; omega, by have e1 := h2.bk.lt; have e2 := h3.eq; omega, by have e1 := h1.bk.lt; have e2 := h2.eq; omega, h3.bk.lt, h2.at h1.below, by have e1 := h2.bk.lt; have e2 := h3.below.size; omega⟩); obtain ⟨y0, y1, y2, y3, y4, y5, y6⟩ := call_cells HC.out; clear h1 h2 h3)
    | (go_at_call 38; refine (rwow (HR.out.new HF3.out) (HL.out.new HF3.out) HN.out c.key).mono ?_; rintro e1 W4 ⟨a1, n1, c1, rfl, hl1, b4⟩; have HL1 := Lib.hid hl1; have HB4 := Lib.hid b4; have HF4 := Lib.hid (fr_new HF3.out b4); clear hl1 b4 y0 y1 y2 y3 y4 y5 y6; have HC4 := Lib.hid (HC.out.new HB4.out); have HI4 := Lib.hid (HI7.out.new HB4.out); have HG4 := Lib.hid (HG3.out.new HB4.out); have HR4 := Lib.hid (HR.out.new HF4.out); obtain ⟨y0, y1, y2, y3, y4, y5, y6⟩ := call_cells HC4.out; rw [HV.out] at y0; obtain ⟨m0, m1, m2⟩ := map_cells HR4.out)
    | (go_at_call 78; refine (rdies x c.exp _ HX.out.1 HX.out.2).mono ?_; rintro e1 Y ⟨rfl, rfl⟩; rw [HD.out])
    | ((with_reducible refine at_wq ?_); refine wpList_set_bk rfl 3 (.tmp 35) (.tmp 34) rfl q7 4 (itC y) (.int .i64 D) (itC { y with dies := D }) HI4.out (by show 4 < 6; decide) rfl (by kernel_rfl) rfl rfl rfl ?_; intro W5 h5 k5))
  have HF5 := Lib.hid (fr_set HF4.out k5 HQ.out.2.2.2.2.2.1)
  have HS5 := Lib.hid (Nat.le_trans HB4.out.size k5.size)
  have HR5 := Lib.hid (HR.out.new HF5.out)
  have HG5 := Lib.hid (HG4.out.keep k5 (fun e => HQ.out.2.2.1 e.symm))
  have HL5 := Lib.hid (HL1.out.keep k5 (fun g o s e e1 => by have := (HL1.out.blk e).1; have e3 := HQ.out; omega))
  have H5 := Lib.hid h5
  clear y0 y1 y2 y3 y4 y5 y6 m0 m1 m2 h5 k5
  have KEEP : Hid (∀ X, Keeps (fun k => k = q8 ∨ W3.heap.size ≤ k) W5 X → X.cell? ⟨q7, 0, none⟩ = some (.string y.k) ∧ X.cell? ⟨q7, 1, none⟩ = some (.string y.v) ∧ X.cell? ⟨q7, 2, none⟩ = some (.int .u32 y.fl) ∧ X.cell? ⟨q7, 3, none⟩ = some (.int .u64 y.id) ∧ X.cell? ⟨q7, 4, none⟩ = some (.int .i64 D) ∧ X.cell? ⟨q7, 5, none⟩ = some (.int .i64 y.gen) ∧ X.cell? ⟨r, 2, none⟩ = some (.int .u64 i)) := Lib.hid fun X hb => by
    obtain ⟨z0, z1, z2, z3, z4, z5⟩ := it_cells (H5.out.keep hb (by have e1 := HQ.out; omega))
    obtain ⟨m0, m1, m2⟩ := map_cells (HR5.out.keep hb (by have e1 := HQ.out; have e2 := HR.out.lt; have e3 := HF3.out.size; omega))
    exact ⟨z0, z1, z2, z3, z4, z5, m2⟩
  have hB : Keeps (fun k => W3.heap.size ≤ k) W5 W5.drew := (Keeps.refl _ _).drew
  have hBw : Below W5.heap.size W5 W5.drew := (Below.refl _ _).drew
  refine wp_region_held_drew (S := fun X => X.cell? ⟨q7, 0, none⟩ = some (.string y.k) ∧ X.cell? ⟨q7, 1, none⟩ = some (.string y.v) ∧ X.cell? ⟨q7, 2, none⟩ = some (.int .u32 y.fl) ∧ X.cell? ⟨q7, 3, none⟩ = some (.int .u64 y.id) ∧ X.cell? ⟨q7, 4, none⟩ = some (.int .i64 D) ∧ X.cell? ⟨q7, 5, none⟩ = some (.int .i64 y.gen) ∧ X.cell? ⟨r, 2, none⟩ = some (.int .u64 i)) (by kernel_rfl) (KEEP.out _ (hB.mono fun _ _ s => .inr s)) (fun hHeld => ?_)
  refine wpAnyH_take (i := 0) (oi := ({ dst := some 36, op := Op.build 40 #[(0, Operand.const (Value.int IntKind.u8 7))], type := 40, pos := "ref.go:131", after := #[], guard := none })) (v := ?_) rfl (by kernel_rfl) (by kernel_rfl) (by kernel_rfl) (fun _ _ _ h => h) (Or.inl ⟨by rfl, ?_⟩) (by assumption) ?_
  rotate_left 1
  · (intro w9 hSw; (try dsimp only at hSw); go_simp; try with_reducible rfl)
  try simp only [Act.put, List.setIfInBounds_toArray, List.set_cons_zero, List.set_cons_succ]
  refine wpAnyH_take (i := 1) (oi := ({ dst := some 37, op := Op.move (Operand.tmp 9), type := 28, pos := "ref.go:131", after := #[], guard := none })) (v := ?_) rfl (by kernel_rfl) (by kernel_rfl) (by kernel_rfl) (fun _ _ _ h => h) (Or.inl ⟨by rfl, ?_⟩) (by assumption) ?_
  rotate_left 1
  · (intro w9 hSw; (try dsimp only at hSw); go_simp; try with_reducible rfl)
  try simp only [Act.put, List.setIfInBounds_toArray, List.set_cons_zero, List.set_cons_succ]
  refine wpAnyH_take (i := 2) (oi := ({ dst := some 38, op := Op.load 38 (Operand.tmp 7), type := 38, pos := "ref.go:131", after := #[], guard := none })) (v := ?_) rfl (by kernel_rfl) (by kernel_rfl) (by kernel_rfl) (fun _ _ _ h => h) (Or.inl ⟨by rfl, ?_⟩) (by assumption) ?_
  rotate_left 1
  · (intro w9 hSw; (try dsimp only at hSw); go_simp; try with_reducible rfl)
  try simp only [Act.put, List.setIfInBounds_toArray, List.set_cons_zero, List.set_cons_succ]
  refine wpAnyH_take (i := 5) (oi := ({ dst := some 41, op := Op.move (Operand.tmp 2), type := 29, pos := "ref.go:131", after := #[], guard := none })) (v := ?_) rfl (by kernel_rfl) (by kernel_rfl) (by kernel_rfl) (fun _ _ _ h => h) (Or.inl ⟨by rfl, ?_⟩) (by assumption) ?_
  rotate_left 1
  · (intro w9 hSw; (try dsimp only at hSw); go_simp; try with_reducible rfl)
  try simp only [Act.put, List.setIfInBounds_toArray, List.set_cons_zero, List.set_cons_succ]
  refine wpAnyH_take (i := 6) (oi := ({ dst := some 42, op := Op.move (Operand.tmp 0), type := 27, pos := "ref.go:131", after := #[], guard := none })) (v := ?_) rfl (by kernel_rfl) (by kernel_rfl) (by kernel_rfl) (fun _ _ _ h => h) (Or.inl ⟨by rfl, ?_⟩) (by assumption) ?_
  rotate_left 1
  · (intro w9 hSw; (try dsimp only at hSw); go_simp; try with_reducible rfl)
  try simp only [Act.put, List.setIfInBounds_toArray, List.set_cons_zero, List.set_cons_succ]
  refine wpAnyH_take (i := 7) (oi := ({ dst := some 43, op := Op.nilCheck (Operand.tmp 42), type := 0, pos := "ref.go:131", after := #[{ on := 6, ground := Ground.data }], guard := none })) (v := ?_) rfl (by kernel_rfl) (by kernel_rfl) (by kernel_rfl) (fun _ _ _ h => h) (Or.inl ⟨by rfl, ?_⟩) (by assumption) ?_
  rotate_left 1
  · (intro w9 hSw; (try dsimp only at hSw); go_simp; try with_reducible rfl)
  try simp only [Act.put, List.setIfInBounds_toArray, List.set_cons_zero, List.set_cons_succ]
  refine wpAnyH_take (i := 8) (oi := ({ dst := some 44, op := Op.fieldAddr 31 (Operand.tmp 43) 2, type := 0, pos := "ref.go:131", after := #[{ on := 7, ground := Ground.data }], guard := none })) (v := ?_) rfl (by kernel_rfl) (by kernel_rfl) (by kernel_rfl) (fun _ _ _ h => h) (Or.inl ⟨by rfl, ?_⟩) (by assumption) ?_
  rotate_left 1
  · (intro w9 hSw; (try dsimp only at hSw); go_simp; try with_reducible rfl)
  try simp only [Act.put, List.setIfInBounds_toArray, List.set_cons_zero, List.set_cons_succ]
  refine wpAnyH_take (i := 9) (oi := ({ dst := some 45, op := Op.load 29 (Operand.tmp 44), type := 29, pos := "ref.go:131", after := #[{ on := 8, ground := Ground.data }], guard := none })) (v := ?_) rfl (by kernel_rfl) (by kernel_rfl) (by kernel_rfl) (fun _ _ _ h => h) (Or.inl ⟨by rfl, ?_⟩) (by assumption) ?_
  rotate_left 1
  · (intro w9 hSw; (try dsimp only at hSw); go_simp; try with_reducible rfl)
  try simp only [Act.put, List.setIfInBounds_toArray, List.set_cons_zero, List.set_cons_succ]
  refine wpAnyH_ready (rs := [3]) (by kernel_rfl) (by simp) ?_
  refine AllReadyH.cons (o := ({ dst := some 39, op := Op.buildSlice 28 1 #[(0, Operand.tmp 38)], type := 28, pos := "ref.go:131", after := #[{ on := 2, ground := Ground.data }], guard := none })) rfl (fun K hK => ?_) AllReadyH.nil
  refine step_bs_it rfl (.tmp 38) rfl { y with dies := D } rfl ?_
  intro W9 g9 h9
  have hl1 := (HL5.out.new hBw).new h9.below
  replace hB := hB.new h9.below
  refine hK.out _ _ (KEEP.out _ (hB.mono fun _ _ s => .inr s)) (fun hHeld => ?_)
  clear hK K
  try simp only [Act.put, List.setIfInBounds_toArray, List.set_cons_zero, List.set_cons_succ]
  refine wpAnyH_ready (rs := [4]) (by kernel_rfl) (by simp) ?_
  refine AllReadyH.cons (o := ({ dst := some 40, op := Op.call { callee := Callee.builtin Builtin.append, args := #[Operand.tmp 37, Operand.tmp 39], argTypes := #[28, 28] }, type := 28, pos := "ref.go:131", after := #[{ on := 1, ground := Ground.data }, { on := 3, ground := Ground.data }], guard := none })) rfl (fun K hK => ?_) AllReadyH.nil
  refine step_append_it rfl (.tmp 37) (.tmp 39) rfl { y with dies := D } rfl hl1 g9 rfl h9.bk (Nat.le_trans HS5.out hB.size) (by have e1 := hl1.len; have e2 := wo_len_le L c.key; have e3 := HL.out.len; have e4 := HN.out; omega) ?_
  intro a2 n2 c2 W10 hl2 hg2
  replace hB := hB.grown hg2 (fun k hk => .inl (hl1.own.lt k hk).1)
  refine hK.out _ _ (KEEP.out _ (hB.mono fun _ _ s => .inr s)) (fun hHeld => ?_)
  clear hK K
  try simp only [Act.put, List.setIfInBounds_toArray, List.set_cons_zero, List.set_cons_succ]
  refine wpAnyH_take (i := 10) (oi := ({ dst := some 46, op := Op.build 31 #[(0, Operand.tmp 40), (1, Operand.tmp 41), (2, Operand.tmp 45)], type := 31, pos := "ref.go:131", after := #[{ on := 4, ground := Ground.data }, { on := 5, ground := Ground.data }, { on := 9, ground := Ground.data }], guard := none })) (v := ?_) rfl (by kernel_rfl) (by kernel_rfl) (by kernel_rfl) (fun _ _ _ h => h) (Or.inl ⟨by rfl, ?_⟩) (by assumption) ?_
  rotate_left 1
  · (intro w9 hSw; (try dsimp only at hSw); go_simp; try with_reducible rfl)
  try simp only [Act.put, List.setIfInBounds_toArray, List.set_cons_zero, List.set_cons_succ]
  refine wpAnyH_take (i := 11) (oi := ({ dst := some 47, op := Op.build 87 #[(0, Operand.tmp 36), (1, Operand.tmp 46)], type := 87, pos := "ref.go:131", after := #[{ on := 0, ground := Ground.data }, { on := 10, ground := Ground.data }], guard := none })) (v := ?_) rfl (by kernel_rfl) (by kernel_rfl) (by kernel_rfl) (fun _ _ _ h => h) (Or.inl ⟨by rfl, ?_⟩) (by assumption) ?_
  rotate_left 1
  · (intro w9 hSw; (try dsimp only at hSw); go_simp; try with_reducible rfl)
  try simp only [Act.put, List.setIfInBounds_toArray, List.set_cons_zero, List.set_cons_succ]
  refine wpAnyH_ready (rs := [12]) (by kernel_rfl) (by simp) ?_
  refine AllReadyH.cons (o := ({ dst := none, op := Op.store 87 (Operand.tmp 8) (Operand.tmp 47), type := 0, pos := "ref.go:131", after := #[{ on := 11, ground := Ground.data }, { on := 4, ground := Ground.chain }, { on := 0, ground := Ground.phase }, { on := 1, ground := Ground.phase }, { on := 2, ground := Ground.phase }, { on := 3, ground := Ground.phase }, { on := 4, ground := Ground.phase }, { on := 5, ground := Ground.phase }, { on := 6, ground := Ground.phase }, { on := 7, ground := Ground.phase }, { on := 8, ground := Ground.phase }, { on := 9, ground := Ground.phase }, { on := 10, ground := Ground.phase }, { on := 11, ground := Ground.phase }], guard := none })) rfl (fun K hK => ?_) AllReadyH.nil
  refine step_store_bk rfl 87 (.tmp 8) (.tmp 47) rfl q8 0 gvnZ (gvnC (Ans.of 7) a2 n2 c2 x i false) (gvnC (Ans.of 7) a2 n2 c2 x i false) (HG5.out.keep hB (fun s => by have e1 := HQ.out; omega)) (Nat.le_refl 12) rfl info_gvn (gvnC_one _ _ _ _ _ _ _) rfl rfl ?_
  intro W11 h11 k11
  refine hK.out _ _ (KEEP.out _ ((hB.mono fun _ _ s => .inr s).trans k11 (fun j hj s => .inl s))) (fun hHeld => ?_)
  clear hK K
  try simp only [Act.put]
  refine wpAnyH_done (by kernel_rfl) ?_ _
  go_wp2_with fail
  refine bodyPost_ret (results_bk rfl _ h11 rfl _ Tryd.underlying87 rfl info_gvn) rfl ⟨a2, n2, c2, rfl, ?_, hl2.onA HF3.out.size, fr_set (fr_keep HF5.out hB (fun j s => Nat.le_trans HF3.out.size s)) k11 HQ.out.1⟩
  have hlf := (hl2.base (Nat.zero_le _)).keep k11 (fun g o s e e1 => by have := (hl2.blk e).1; have e3 := HQ.out; omega)
  rw [← HYK.out] at hlf
  exact hlf
set_option maxHeartbeats 8000000 in
set_option maxRecDepth 100000 in
theorem rch_nan (hr : Bk w r (mapR a n cp e i)) (hl : RL w B a n cp L) (hn : n < 1000000) (x : Int) (hx : 0 ≤ x ∧ x < 18446744073709551616) (y : Itm) (hy : y.k = c.key) (hys : y.v.size ≤ maxLen) (v : Int) (hv : c.verb = v) (h9 : v = 9 ∨ v = 10) (hp : (parseF y.v.data.toList).2 = false) : Calls Tryd.prog 54 #[.pointer (some ⟨r, 0, none⟩), .agg (calC c).toArray, .int .u64 x, .agg (itC y).toArray] w (GnP w a ⟨Ans.of 9, ⟨L, x, i⟩, false⟩) := by
  have HR := Lib.hid hr
  have HL := Lib.hid hl
  have HN := Lib.hid hn
  have HX := Lib.hid hx
  have HV := Lib.hid hv
  have HYK := Lib.hid hy
  obtain ⟨pn, hpn⟩ : ∃ p, (parseF y.v.data.toList).1 = p := ⟨_, rfl⟩
  have HPN := Lib.hid hpn
  have HPB := Lib.hid hp
  have HYS := Lib.hid hys
  clear hr hl hn hx hv hy hpn hp hys
  rcases h9 with rfl | rfl
  all_goals
    go_enter Tryd.func54, Tryd.ntmps54
    go_wp2_with (first
      | ((with_reducible refine at_wq ?_); refine wpList_box_bk rfl 35 (.tmp 1) rfl (calC c) rfl ?_; intro W1 q5 h1)
      | ((with_reducible refine at_wq ?_); refine wpList_box_bk rfl 38 (.tmp 3) rfl (itC y) rfl ?_; intro W2 q7 h2)
      | ((with_reducible refine at_wq ?_); refine wpList_alloc_bk rfl 87 gvnZ alloc_gvn rfl ?_; intro W3 q8 h3; have HF3 := Lib.hid (fr_new (fr_new h1.below h2.below) h3.below); have HC := Lib.hid ((h1.bk.new h2.below).new h3.below); have HI7 := Lib.hid (h2.bk.new h3.below); have HG3 := Lib.hid h3.bk; have HQ := Lib.hid (show w.heap.size ≤ q8 ∧ q5 ≠ q8 ∧ q7 ≠ q8 ∧ q5 ≠ q7 ∧ q8 < W3.heap.size ∧ w.heap.size ≤ q7 ∧ q7 < W3.heap.size from ⟨h3.at (fr_new h1.below h2.below), by have e1 := h1.bk.lt; have e2 := h3.eq; have e3 := h2.below.size; omega, by have e1 := h2.bk.lt; have e2 := h3.eq; omega, by have e1 := h1.bk.lt; have e2 := h2.eq; omega, h3.bk.lt, h2.at h1.below, by have e1 := h2.bk.lt; have e2 := h3.below.size; omega⟩); obtain ⟨y0, y1, y2, y3, y4, y5, y6⟩ := call_cells HC.out; clear h1 h2 h3)
      | (go_at_call 38; refine (rwow (HR.out.new HF3.out) (HL.out.new HF3.out) HN.out c.key).mono ?_; rintro e1 W4 ⟨a1, n1, c1, rfl, hl1, b4⟩; have HL1 := Lib.hid hl1; have HB4 := Lib.hid b4; have HF4 := Lib.hid (fr_new HF3.out b4); clear hl1 b4 y0 y1 y2 y3 y4 y5 y6; have HC4 := Lib.hid (HC.out.new HB4.out); have HI4 := Lib.hid (HI7.out.new HB4.out); have HG4 := Lib.hid (HG3.out.new HB4.out); have HR4 := Lib.hid (HR.out.new HF4.out); obtain ⟨y0, y1, y2, y3, y4, y5, y6⟩ := call_cells HC4.out; rw [HV.out] at y0; obtain ⟨m0, m1, m2⟩ := map_cells HR4.out; have z1 := HI4.out.at_ 1 _ rfl)
      | (go_at_call 79; refine (refparse y.v _ HYS.out).mono ?_; rintro e1 WP ⟨rfl, bp⟩; rw [HPN.out, HPB.out]; have HFP := Lib.hid (fr_new HF4.out bp); have HLP := Lib.hid (HL1.out.new bp); have HCP := Lib.hid (HC4.out.new bp); have HIP := Lib.hid (HI4.out.new bp); have HGP := Lib.hid (HG4.out.new bp); have HRP := Lib.hid (HR4.out.new bp); have HSP := Lib.hid (Nat.le_trans HB4.out.size bp.size); clear bp y0 y1 y2 y3 y4 y5 y6 m0 m1 m2 z1; obtain ⟨y0, y1, y2, y3, y4, y5, y6⟩ := call_cells HCP.out; rw [HV.out] at y0; obtain ⟨m0, m1, m2⟩ := map_cells HRP.out))
    have KEEP : Hid (∀ X, Keeps (fun k => k = q8 ∨ WP.heap.size ≤ k) WP X → X.cell? ⟨r, 0, none⟩ = some (.slice a n cp) ∧ X.cell? ⟨r, 2, none⟩ = some (.int .u64 i)) := Lib.hid fun X hb => by
      obtain ⟨m0, m1, m2⟩ := map_cells (HRP.out.keep hb (by have e1 := HQ.out; have e2 := HRP.out.lt; have e3 := HR.out.lt; omega))
      exact ⟨m0, m2⟩
    have hB : Below WP.heap.size WP WP.drew := (Below.refl _ _).drew
    clear y0 y1 y2 y3 y4 y5 y6 m0 m1 m2
    refine wp_region_held_drew (S := fun X => X.cell? ⟨r, 0, none⟩ = some (.slice a n cp) ∧ X.cell? ⟨r, 2, none⟩ = some (.int .u64 i)) (by kernel_rfl) (KEEP.out _ (kq hB)) (fun hHeld => ?_)
    refine wpAnyH_take (i := 0) (oi := ({ dst := some 56, op := Op.build 40 #[(0, Operand.const (Value.int IntKind.u8 9))], type := 40, pos := "ref.go:135", after := #[], guard := none })) (v := ?_) rfl (by kernel_rfl) (by kernel_rfl) (by kernel_rfl) (fun _ _ _ h => h) (Or.inl ⟨by rfl, ?_⟩) (by assumption) ?_
    rotate_left 1
    · (intro w9 hSw; (try dsimp only at hSw); go_simp; try with_reducible rfl)
    try simp only [Act.put, List.setIfInBounds_toArray, List.set_cons_zero, List.set_cons_succ]
    refine wpAnyH_take (i := 1) (oi := ({ dst := some 57, op := Op.move (Operand.tmp 0), type := 27, pos := "ref.go:135", after := #[], guard := none })) (v := ?_) rfl (by kernel_rfl) (by kernel_rfl) (by kernel_rfl) (fun _ _ _ h => h) (Or.inl ⟨by rfl, ?_⟩) (by assumption) ?_
    rotate_left 1
    · (intro w9 hSw; (try dsimp only at hSw); go_simp; try with_reducible rfl)
    try simp only [Act.put, List.setIfInBounds_toArray, List.set_cons_zero, List.set_cons_succ]
    refine wpAnyH_take (i := 2) (oi := ({ dst := some 58, op := Op.nilCheck (Operand.tmp 57), type := 0, pos := "ref.go:135", after := #[{ on := 1, ground := Ground.data }], guard := none })) (v := ?_) rfl (by kernel_rfl) (by kernel_rfl) (by kernel_rfl) (fun _ _ _ h => h) (Or.inl ⟨by rfl, ?_⟩) (by assumption) ?_
    rotate_left 1
    · (intro w9 hSw; (try dsimp only at hSw); go_simp; try with_reducible rfl)
    try simp only [Act.put, List.setIfInBounds_toArray, List.set_cons_zero, List.set_cons_succ]
    refine wpAnyH_take (i := 3) (oi := ({ dst := some 59, op := Op.fieldAddr 31 (Operand.tmp 58) 0, type := 0, pos := "ref.go:135", after := #[{ on := 2, ground := Ground.data }], guard := none })) (v := ?_) rfl (by kernel_rfl) (by kernel_rfl) (by kernel_rfl) (fun _ _ _ h => h) (Or.inl ⟨by rfl, ?_⟩) (by assumption) ?_
    rotate_left 1
    · (intro w9 hSw; (try dsimp only at hSw); go_simp; try with_reducible rfl)
    try simp only [Act.put, List.setIfInBounds_toArray, List.set_cons_zero, List.set_cons_succ]
    refine wpAnyH_take (i := 4) (oi := ({ dst := some 60, op := Op.load 28 (Operand.tmp 59), type := 28, pos := "ref.go:135", after := #[{ on := 3, ground := Ground.data }], guard := none })) (v := ?_) rfl (by kernel_rfl) (by kernel_rfl) (by kernel_rfl) (fun _ _ _ h => h) (Or.inl ⟨by rfl, ?_⟩) (by assumption) ?_
    rotate_left 1
    · (intro w9 hSw; (try dsimp only at hSw); go_simp; try with_reducible rfl)
    try simp only [Act.put, List.setIfInBounds_toArray, List.set_cons_zero, List.set_cons_succ]
    refine wpAnyH_take (i := 5) (oi := ({ dst := some 61, op := Op.move (Operand.tmp 2), type := 29, pos := "ref.go:135", after := #[], guard := none })) (v := ?_) rfl (by kernel_rfl) (by kernel_rfl) (by kernel_rfl) (fun _ _ _ h => h) (Or.inl ⟨by rfl, ?_⟩) (by assumption) ?_
    rotate_left 1
    · (intro w9 hSw; (try dsimp only at hSw); go_simp; try with_reducible rfl)
    try simp only [Act.put, List.setIfInBounds_toArray, List.set_cons_zero, List.set_cons_succ]
    refine wpAnyH_take (i := 6) (oi := ({ dst := some 62, op := Op.move (Operand.tmp 0), type := 27, pos := "ref.go:135", after := #[], guard := none })) (v := ?_) rfl (by kernel_rfl) (by kernel_rfl) (by kernel_rfl) (fun _ _ _ h => h) (Or.inl ⟨by rfl, ?_⟩) (by assumption) ?_
    rotate_left 1
    · (intro w9 hSw; (try dsimp only at hSw); go_simp; try with_reducible rfl)
    try simp only [Act.put, List.setIfInBounds_toArray, List.set_cons_zero, List.set_cons_succ]
    refine wpAnyH_take (i := 7) (oi := ({ dst := some 63, op := Op.nilCheck (Operand.tmp 62), type := 0, pos := "ref.go:135", after := #[{ on := 6, ground := Ground.data }], guard := none })) (v := ?_) rfl (by kernel_rfl) (by kernel_rfl) (by kernel_rfl) (fun _ _ _ h => h) (Or.inl ⟨by rfl, ?_⟩) (by assumption) ?_
    rotate_left 1
    · (intro w9 hSw; (try dsimp only at hSw); go_simp; try with_reducible rfl)
    try simp only [Act.put, List.setIfInBounds_toArray, List.set_cons_zero, List.set_cons_succ]
    refine wpAnyH_take (i := 8) (oi := ({ dst := some 64, op := Op.fieldAddr 31 (Operand.tmp 63) 2, type := 0, pos := "ref.go:135", after := #[{ on := 7, ground := Ground.data }], guard := none })) (v := ?_) rfl (by kernel_rfl) (by kernel_rfl) (by kernel_rfl) (fun _ _ _ h => h) (Or.inl ⟨by rfl, ?_⟩) (by assumption) ?_
    rotate_left 1
    · (intro w9 hSw; (try dsimp only at hSw); go_simp; try with_reducible rfl)
    try simp only [Act.put, List.setIfInBounds_toArray, List.set_cons_zero, List.set_cons_succ]
    refine wpAnyH_take (i := 9) (oi := ({ dst := some 65, op := Op.load 29 (Operand.tmp 64), type := 29, pos := "ref.go:135", after := #[{ on := 8, ground := Ground.data }], guard := none })) (v := ?_) rfl (by kernel_rfl) (by kernel_rfl) (by kernel_rfl) (fun _ _ _ h => h) (Or.inl ⟨by rfl, ?_⟩) (by assumption) ?_
    rotate_left 1
    · (intro w9 hSw; (try dsimp only at hSw); go_simp; try with_reducible rfl)
    try simp only [Act.put, List.setIfInBounds_toArray, List.set_cons_zero, List.set_cons_succ]
    refine wpAnyH_take (i := 10) (oi := ({ dst := some 66, op := Op.build 31 #[(0, Operand.tmp 60), (1, Operand.tmp 61), (2, Operand.tmp 65)], type := 31, pos := "ref.go:135", after := #[{ on := 4, ground := Ground.data }, { on := 5, ground := Ground.data }, { on := 9, ground := Ground.data }], guard := none })) (v := ?_) rfl (by kernel_rfl) (by kernel_rfl) (by kernel_rfl) (fun _ _ _ h => h) (Or.inl ⟨by rfl, ?_⟩) (by assumption) ?_
    rotate_left 1
    · (intro w9 hSw; (try dsimp only at hSw); go_simp; try with_reducible rfl)
    try simp only [Act.put, List.setIfInBounds_toArray, List.set_cons_zero, List.set_cons_succ]
    refine wpAnyH_take (i := 11) (oi := ({ dst := some 67, op := Op.build 87 #[(0, Operand.tmp 56), (1, Operand.tmp 66)], type := 87, pos := "ref.go:135", after := #[{ on := 0, ground := Ground.data }, { on := 10, ground := Ground.data }], guard := none })) (v := ?_) rfl (by kernel_rfl) (by kernel_rfl) (by kernel_rfl) (fun _ _ _ h => h) (Or.inl ⟨by rfl, ?_⟩) (by assumption) ?_
    rotate_left 1
    · (intro w9 hSw; (try dsimp only at hSw); go_simp; try with_reducible rfl)
    try simp only [Act.put, List.setIfInBounds_toArray, List.set_cons_zero, List.set_cons_succ]
    refine wpAnyH_ready (rs := [12]) (by kernel_rfl) (by simp) ?_
    refine AllReadyH.cons (o := ({ dst := none, op := Op.store 87 (Operand.tmp 8) (Operand.tmp 67), type := 0, pos := "ref.go:135", after := #[{ on := 11, ground := Ground.data }, { on := 0, ground := Ground.phase }, { on := 1, ground := Ground.phase }, { on := 2, ground := Ground.phase }, { on := 3, ground := Ground.phase }, { on := 4, ground := Ground.phase }, { on := 5, ground := Ground.phase }, { on := 6, ground := Ground.phase }, { on := 7, ground := Ground.phase }, { on := 8, ground := Ground.phase }, { on := 9, ground := Ground.phase }, { on := 10, ground := Ground.phase }, { on := 11, ground := Ground.phase }], guard := none })) rfl (fun K hK => ?_) AllReadyH.nil
    refine step_store_bk rfl 87 (.tmp 8) (.tmp 67) rfl q8 0 gvnZ (gvnC (Ans.of 9) a n cp x i false) (gvnC (Ans.of 9) a n cp x i false) (HGP.out.new hB) (Nat.le_refl 12) rfl info_gvn (gvnC_one _ _ _ _ _ _ _) rfl rfl ?_
    intro W11 h11 k11
    refine hK.out _ _ (KEEP.out _ ((kq hB).trans k11 (fun j hj s => .inl s))) (fun hHeld => ?_)
    clear hK K
    try simp only [Act.put]
    refine wpAnyH_done (by kernel_rfl) ?_ _
    go_wp2_with fail
    refine bodyPost_ret (results_bk rfl _ h11 rfl _ Tryd.underlying87 rfl info_gvn) rfl ⟨a, n, cp, rfl, (((HL.out.new HFP.out).new hB).base (Nat.zero_le _)).keep k11 (fun g o s e e1 => by have e2 := (HL.out.blk e).2; have e3 := HQ.out; omega), fun g o s e1 => .inr rfl, fr_set (fr_new HFP.out hB) k11 HQ.out.1⟩
set_option maxHeartbeats 8000000 in
set_option maxRecDepth 100000 in
theorem rch_count (hr : Bk w r (mapR a n cp e i)) (hl : RL w B a n cp L) (hn : n < 1000000) (x : Int) (hx : 0 ≤ x ∧ x < 18446744073709551616) (y : Itm) (hy : y.k = c.key) (hc : CalOk c) (hys : y.v.size ≤ maxLen) (v : Int) (hv : c.verb = v) (h9 : v = 9 ∨ v = 10) (hp : (parseF y.v.data.toList).2 = true) : Calls Tryd.prog 54 #[.pointer (some ⟨r, 0, none⟩), .agg (calC c).toArray, .int .u64 x, .agg (itC y).toArray] w (GnP w a ⟨⟨8, countM c.verb (parseF y.v.data.toList).1 c.by_, Itm.none⟩, ⟨put L ⟨y.k, textB (countM c.verb (parseF y.v.data.toList).1 c.by_), y.fl, u64 (i + 1), y.dies, y.gen⟩, x, u64 (i + 1)⟩, false⟩) := by
  have HR := Lib.hid hr
  have HL := Lib.hid hl
  have HN := Lib.hid hn
  have HX := Lib.hid hx
  have HV := Lib.hid hv
  have HYK := Lib.hid hy
  obtain ⟨pn, hpn⟩ : ∃ p, (parseF y.v.data.toList).1 = p := ⟨_, rfl⟩
  have hpr := parseF_range y.v.data.toList
  rw [hpn] at hpr ⊢
  have HPR := Lib.hid hpr
  have HBY := Lib.hid hc.by_
  have HPN := Lib.hid hpn
  have HPB := Lib.hid hp
  have HYS := Lib.hid hys
  have hnr := countM_range c.verb pn c.by_ hpr.1 hpr.2 hc.by_.1 hc.by_.2
  obtain ⟨N, hN⟩ : ∃ N, countM c.verb pn c.by_ = N := ⟨_, rfl⟩
  rw [hN] at hnr ⊢
  have HNR := Lib.hid hnr
  obtain ⟨TB, hTB⟩ : ∃ T, textB N = T := ⟨_, rfl⟩
  rw [hTB]
  have HTB := Lib.hid (show (⟨(Lib.decDigits N.natAbs).toArray⟩ : ByteArray) = TB from hTB)
  have hNI : v = 9 → incrF pn c.by_ = N := fun e => by rw [← hN, hv, e]; rfl
  have hND : v = 10 → decrF pn c.by_ = N := fun e => by rw [← hN, hv, e]; rfl
  clear hr hl hn hx hv hy hpn hp hys hc hpr hnr hN hTB
  rcases h9 with rfl | rfl
  all_goals
    have HNI := Lib.hid hNI
    have HND := Lib.hid hND
    clear hNI hND
    go_enter Tryd.func54, Tryd.ntmps54
    go_wp2_with (first
      | ((with_reducible refine at_wq ?_); refine wpList_box_bk rfl 35 (.tmp 1) rfl (calC c) rfl ?_; intro W1 q5 h1)
      | ((with_reducible refine at_wq ?_); refine wpList_box_bk rfl 38 (.tmp 3) rfl (itC y) rfl ?_; intro W2 q7 h2)
      | ((with_reducible refine at_wq ?_); refine wpList_alloc_bk rfl 87 gvnZ alloc_gvn rfl ?_; intro W3 q8 h3; have HF3 := Lib.hid (fr_new (fr_new h1.below h2.below) h3.below); have HC := Lib.hid ((h1.bk.new h2.below).new h3.below); have HI7 := Lib.hid (h2.bk.new h3.below); have HG3 := Lib.hid h3.bk; have HQ := Lib.hid (show w.heap.size ≤ q8 ∧ q5 ≠ q8 ∧ q7 ≠ q8 ∧ q5 ≠ q7 ∧ q8 < W3.heap.size ∧ w.heap.size ≤ q7 ∧ q7 < W3.heap.size from ⟨h3.at (fr_new h1.below h2.below), by have e1 := h1.bk.lt; have e2 := h3.eq; have e3 := h2.below.size; omega, by have e1 := h2.bk.lt; have e2 := h3.eq; omega, by have e1 := h1.bk.lt; have e2 := h2.eq; omega, h3.bk.lt, h2.at h1.below, by have e1 := h2.bk.lt; have e2 := h3.below.size; omega⟩); obtain ⟨y0, y1, y2, y3, y4, y5, y6⟩ := call_cells HC.out; clear h1 h2 h3)
      | (go_at_call 38; refine (rwow (HR.out.new HF3.out) (HL.out.new HF3.out) HN.out c.key).mono ?_; rintro e1 W4 ⟨a1, n1, c1, rfl, hl1, b4⟩; have HL1 := Lib.hid hl1; have HB4 := Lib.hid b4; have HF4 := Lib.hid (fr_new HF3.out b4); clear hl1 b4 y0 y1 y2 y3 y4 y5 y6; have HC4 := Lib.hid (HC.out.new HB4.out); have HI4 := Lib.hid (HI7.out.new HB4.out); have HG4 := Lib.hid (HG3.out.new HB4.out); have HR4 := Lib.hid (HR.out.new HF4.out); obtain ⟨y0, y1, y2, y3, y4, y5, y6⟩ := call_cells HC4.out; rw [HV.out] at y0; obtain ⟨m0, m1, m2⟩ := map_cells HR4.out; have z1 := HI4.out.at_ 1 _ rfl)
      | (go_at_call 79; refine (refparse y.v _ HYS.out).mono ?_; rintro e1 WP ⟨rfl, bp⟩; rw [HPN.out, HPB.out]; have HFP := Lib.hid (fr_new HF4.out bp); have HLP := Lib.hid (HL1.out.new bp); have HCP := Lib.hid (HC4.out.new bp); have HIP := Lib.hid (HI4.out.new bp); have HGP := Lib.hid (HG4.out.new bp); have HRP := Lib.hid (HR4.out.new bp); have HSP := Lib.hid (Nat.le_trans HB4.out.size bp.size); clear bp y0 y1 y2 y3 y4 y5 y6 m0 m1 m2 z1; obtain ⟨y0, y1, y2, y3, y4, y5, y6⟩ := call_cells HCP.out; rw [HV.out] at y0; obtain ⟨m0, m1, m2⟩ := map_cells HRP.out)
      | (go_at_call 80; refine (rincr4 pn c.by_ _ HPR.out.1 HPR.out.2 HBY.out.1 HBY.out.2).mono ?_; rintro e1 Y ⟨rfl, rfl⟩; rw [HNI.out (by trivial)])
      | (go_at_call 81; refine (rdecr4 pn c.by_ _ HPR.out.1 HPR.out.2 HBY.out.1 HBY.out.2).mono ?_; rintro e1 Y ⟨rfl, rfl⟩; rw [HND.out (by trivial)])
      | ((with_reducible refine at_wq ?_); refine wpList_set_bk rfl 29 (.tmp 84) (.tmp 83) rfl q7 3 (itC y) (.int .u64 (u64 (i + 1))) (itC { y with id := u64 (i + 1) }) HIP.out (by show 3 < 6; decide) rfl (by kernel_rfl) rfl rfl rfl ?_; intro W4b h4b k4b; have HI4b := Lib.hid h4b; have HF4b := Lib.hid (fr_set HFP.out k4b HQ.out.2.2.2.2.2.1); have HG4b := Lib.hid (HGP.out.keep k4b (fun e => HQ.out.2.2.1 e.symm)); have HL4b := Lib.hid (HLP.out.keep k4b (fun g o s e e1 => by have := (HLP.out.blk e).1; have e3 := HQ.out; omega)); have HS4b := Lib.hid (Nat.le_trans HSP.out k4b.size); clear h4b k4b y0 y1 y2 y3 y4 y5 y6 m0 m1 m2)
      | (go_at_call 82; refine (rtextnu N HNR.out.1 HNR.out.2 _).mono ?_; rintro e1 Y ⟨rfl, rfl⟩; rw [HTB.out])
      | ((with_reducible refine at_wq ?_); refine wpList_set_bk rfl 9 (.tmp 87) (.tmp 86) rfl q7 1 (itC { y with id := u64 (i + 1) }) (.string TB) (itC ⟨y.k, TB, y.fl, u64 (i + 1), y.dies, y.gen⟩) HI4b.out (by show 1 < 6; decide) rfl (by kernel_rfl) rfl rfl rfl ?_; intro W5 h5 k5))
    have HF5 := Lib.hid (fr_set HF4b.out k5 HQ.out.2.2.2.2.2.1)
    have HS5 := Lib.hid (Nat.le_trans HS4b.out k5.size)
    have HR5 := Lib.hid (HR.out.new HF5.out)
    have HG5 := Lib.hid (HG4b.out.keep k5 (fun e => HQ.out.2.2.1 e.symm))
    have HL5 := Lib.hid (HL4b.out.keep k5 (fun g o s e e1 => by have := (HL4b.out.blk e).1; have e3 := HQ.out; omega))
    have H5 := Lib.hid h5
    clear h5 k5
    have KEEP : Hid (∀ X, Keeps (fun k => k = q8 ∨ W3.heap.size ≤ k) W5 X → X.cell? ⟨q7, 0, none⟩ = some (.string y.k) ∧ X.cell? ⟨q7, 1, none⟩ = some (.string TB) ∧ X.cell? ⟨q7, 2, none⟩ = some (.int .u32 y.fl) ∧ X.cell? ⟨q7, 3, none⟩ = some (.int .u64 (u64 (i + 1))) ∧ X.cell? ⟨q7, 4, none⟩ = some (.int .i64 y.dies) ∧ X.cell? ⟨q7, 5, none⟩ = some (.int .i64 y.gen) ∧ X.cell? ⟨r, 2, none⟩ = some (.int .u64 i)) := Lib.hid fun X hb => by
      obtain ⟨z0, z1, z2, z3, z4, z5⟩ := it_cells (H5.out.keep hb (by have e1 := HQ.out; omega))
      obtain ⟨m0, m1, m2⟩ := map_cells (HR5.out.keep hb (by have e1 := HQ.out; have e2 := HR.out.lt; have e3 := HF3.out.size; omega))
      exact ⟨z0, z1, z2, z3, z4, z5, m2⟩
    have hB : Keeps (fun k => W3.heap.size ≤ k) W5 W5.drew := (Keeps.refl _ _).drew
    have hBw : Below W5.heap.size W5 W5.drew := (Below.refl _ _).drew
    refine wp_region_held_drew (S := fun X => X.cell? ⟨q7, 0, none⟩ = some (.string y.k) ∧ X.cell? ⟨q7, 1, none⟩ = some (.string TB) ∧ X.cell? ⟨q7, 2, none⟩ = some (.int .u32 y.fl) ∧ X.cell? ⟨q7, 3, none⟩ = some (.int .u64 (u64 (i + 1))) ∧ X.cell? ⟨q7, 4, none⟩ = some (.int .i64 y.dies) ∧ X.cell? ⟨q7, 5, none⟩ = some (.int .i64 y.gen) ∧ X.cell? ⟨r, 2, none⟩ = some (.int .u64 i)) (by kernel_rfl) (KEEP.out _ (hB.mono fun _ _ s => .inr s)) (fun hHeld => ?_)
    refine wpAnyH_take (i := 0) (oi := ({ dst := some 88, op := Op.move (Operand.tmp 10), type := 29, pos := "ref.go:144", after := #[], guard := none })) (v := ?_) rfl (by kernel_rfl) (by kernel_rfl) (by kernel_rfl) (fun _ _ _ h => h) (Or.inl ⟨by rfl, ?_⟩) (by assumption) ?_
    rotate_left 1
    · (intro w9 hSw; (try dsimp only at hSw); go_simp; try with_reducible rfl)
    try simp only [Act.put, List.setIfInBounds_toArray, List.set_cons_zero, List.set_cons_succ]
    refine wpAnyH_take (i := 1) (oi := ({ dst := some 89, op := Op.build 40 #[(0, Operand.const (Value.int IntKind.u8 8)), (1, Operand.tmp 88)], type := 40, pos := "ref.go:144", after := #[{ on := 0, ground := Ground.data }], guard := none })) (v := ?_) rfl (by kernel_rfl) (by kernel_rfl) (by kernel_rfl) (fun _ _ _ h => h) (Or.inl ⟨by rfl, ?_⟩) (by assumption) ?_
    rotate_left 1
    · (intro w9 hSw; (try dsimp only at hSw); go_simp; try with_reducible rfl)
    try simp only [Act.put, List.setIfInBounds_toArray, List.set_cons_zero, List.set_cons_succ]
    refine wpAnyH_take (i := 2) (oi := ({ dst := some 90, op := Op.move (Operand.tmp 9), type := 28, pos := "ref.go:144", after := #[], guard := none })) (v := ?_) rfl (by kernel_rfl) (by kernel_rfl) (by kernel_rfl) (fun _ _ _ h => h) (Or.inl ⟨by rfl, ?_⟩) (by assumption) ?_
    rotate_left 1
    · (intro w9 hSw; (try dsimp only at hSw); go_simp; try with_reducible rfl)
    try simp only [Act.put, List.setIfInBounds_toArray, List.set_cons_zero, List.set_cons_succ]
    refine wpAnyH_take (i := 3) (oi := ({ dst := some 91, op := Op.load 38 (Operand.tmp 7), type := 38, pos := "ref.go:144", after := #[], guard := none })) (v := ?_) rfl (by kernel_rfl) (by kernel_rfl) (by kernel_rfl) (fun _ _ _ h => h) (Or.inl ⟨by rfl, ?_⟩) (by assumption) ?_
    rotate_left 1
    · (intro w9 hSw; (try dsimp only at hSw); go_simp; try with_reducible rfl)
    try simp only [Act.put, List.setIfInBounds_toArray, List.set_cons_zero, List.set_cons_succ]
    refine wpAnyH_take (i := 6) (oi := ({ dst := some 94, op := Op.move (Operand.tmp 2), type := 29, pos := "ref.go:144", after := #[], guard := none })) (v := ?_) rfl (by kernel_rfl) (by kernel_rfl) (by kernel_rfl) (fun _ _ _ h => h) (Or.inl ⟨by rfl, ?_⟩) (by assumption) ?_
    rotate_left 1
    · (intro w9 hSw; (try dsimp only at hSw); go_simp; try with_reducible rfl)
    try simp only [Act.put, List.setIfInBounds_toArray, List.set_cons_zero, List.set_cons_succ]
    refine wpAnyH_take (i := 7) (oi := ({ dst := some 95, op := Op.move (Operand.tmp 0), type := 27, pos := "ref.go:144", after := #[], guard := none })) (v := ?_) rfl (by kernel_rfl) (by kernel_rfl) (by kernel_rfl) (fun _ _ _ h => h) (Or.inl ⟨by rfl, ?_⟩) (by assumption) ?_
    rotate_left 1
    · (intro w9 hSw; (try dsimp only at hSw); go_simp; try with_reducible rfl)
    try simp only [Act.put, List.setIfInBounds_toArray, List.set_cons_zero, List.set_cons_succ]
    refine wpAnyH_take (i := 8) (oi := ({ dst := some 96, op := Op.nilCheck (Operand.tmp 95), type := 0, pos := "ref.go:144", after := #[{ on := 7, ground := Ground.data }], guard := none })) (v := ?_) rfl (by kernel_rfl) (by kernel_rfl) (by kernel_rfl) (fun _ _ _ h => h) (Or.inl ⟨by rfl, ?_⟩) (by assumption) ?_
    rotate_left 1
    · (intro w9 hSw; (try dsimp only at hSw); go_simp; try with_reducible rfl)
    try simp only [Act.put, List.setIfInBounds_toArray, List.set_cons_zero, List.set_cons_succ]
    refine wpAnyH_take (i := 9) (oi := ({ dst := some 97, op := Op.fieldAddr 31 (Operand.tmp 96) 2, type := 0, pos := "ref.go:144", after := #[{ on := 8, ground := Ground.data }], guard := none })) (v := ?_) rfl (by kernel_rfl) (by kernel_rfl) (by kernel_rfl) (fun _ _ _ h => h) (Or.inl ⟨by rfl, ?_⟩) (by assumption) ?_
    rotate_left 1
    · (intro w9 hSw; (try dsimp only at hSw); go_simp; try with_reducible rfl)
    try simp only [Act.put, List.setIfInBounds_toArray, List.set_cons_zero, List.set_cons_succ]
    refine wpAnyH_take (i := 10) (oi := ({ dst := some 98, op := Op.load 29 (Operand.tmp 97), type := 29, pos := "ref.go:144", after := #[{ on := 9, ground := Ground.data }], guard := none })) (v := ?_) rfl (by kernel_rfl) (by kernel_rfl) (by kernel_rfl) (fun _ _ _ h => h) (Or.inl ⟨by rfl, ?_⟩) (by assumption) ?_
    rotate_left 1
    · (intro w9 hSw; (try dsimp only at hSw); go_simp; try with_reducible rfl)
    try simp only [Act.put, List.setIfInBounds_toArray, List.set_cons_zero, List.set_cons_succ]
    refine wpAnyH_take (i := 11) (oi := ({ dst := some 99, op := Op.binOp BinOp.add 29 (Operand.tmp 98) (Operand.const (Value.int IntKind.u64 1)) 29, type := 29, pos := "ref.go:144", after := #[{ on := 10, ground := Ground.data }], guard := none })) (v := ?_) rfl (by kernel_rfl) (by kernel_rfl) (by kernel_rfl) (fun _ _ _ h => h) (Or.inl ⟨by rfl, ?_⟩) (by assumption) ?_
    rotate_left 1
    · (intro w9 hSw; (try dsimp only at hSw); go_simp; try with_reducible rfl)
    try simp only [Act.put, List.setIfInBounds_toArray, List.set_cons_zero, List.set_cons_succ]
    refine wpAnyH_ready (rs := [4]) (by kernel_rfl) (by simp) ?_
    refine AllReadyH.cons (o := ({ dst := some 92, op := Op.buildSlice 28 1 #[(0, Operand.tmp 91)], type := 28, pos := "ref.go:144", after := #[{ on := 3, ground := Ground.data }], guard := none })) rfl (fun K hK => ?_) AllReadyH.nil
    refine step_bs_it rfl (.tmp 91) rfl ⟨y.k, TB, y.fl, u64 (i + 1), y.dies, y.gen⟩ rfl ?_
    intro W9 g9 h9
    have hl1 := (HL5.out.new hBw).new h9.below
    replace hB := hB.new h9.below
    refine hK.out _ _ (KEEP.out _ (hB.mono fun _ _ s => .inr s)) (fun hHeld => ?_)
    clear hK K
    try simp only [Act.put, List.setIfInBounds_toArray, List.set_cons_zero, List.set_cons_succ]
    refine wpAnyH_ready (rs := [5]) (by kernel_rfl) (by simp) ?_
    refine AllReadyH.cons (o := ({ dst := some 93, op := Op.call { callee := Callee.builtin Builtin.append, args := #[Operand.tmp 90, Operand.tmp 92], argTypes := #[28, 28] }, type := 28, pos := "ref.go:144", after := #[{ on := 2, ground := Ground.data }, { on := 4, ground := Ground.data }], guard := none })) rfl (fun K hK => ?_) AllReadyH.nil
    refine step_append_it rfl (.tmp 90) (.tmp 92) rfl ⟨y.k, TB, y.fl, u64 (i + 1), y.dies, y.gen⟩ rfl hl1 g9 rfl h9.bk (Nat.le_trans HS5.out hB.size) (by have e1 := hl1.len; have e2 := wo_len_le L c.key; have e3 := HL.out.len; have e4 := HN.out; omega) ?_
    intro a2 n2 c2 W10 hl2 hg2
    replace hB := hB.grown hg2 (fun k hk => .inl (hl1.own.lt k hk).1)
    refine hK.out _ _ (KEEP.out _ (hB.mono fun _ _ s => .inr s)) (fun hHeld => ?_)
    clear hK K
    try simp only [Act.put, List.setIfInBounds_toArray, List.set_cons_zero, List.set_cons_succ]
    refine wpAnyH_take (i := 12) (oi := ({ dst := some 100, op := Op.build 31 #[(0, Operand.tmp 93), (1, Operand.tmp 94), (2, Operand.tmp 99)], type := 31, pos := "ref.go:144", after := #[{ on := 5, ground := Ground.data }, { on := 6, ground := Ground.data }, { on := 11, ground := Ground.data }], guard := none })) (v := ?_) rfl (by kernel_rfl) (by kernel_rfl) (by kernel_rfl) (fun _ _ _ h => h) (Or.inl ⟨by rfl, ?_⟩) (by assumption) ?_
    rotate_left 1
    · (intro w9 hSw; (try dsimp only at hSw); go_simp; try with_reducible rfl)
    try simp only [Act.put, List.setIfInBounds_toArray, List.set_cons_zero, List.set_cons_succ]
    refine wpAnyH_take (i := 13) (oi := ({ dst := some 101, op := Op.build 87 #[(0, Operand.tmp 89), (1, Operand.tmp 100)], type := 87, pos := "ref.go:144", after := #[{ on := 1, ground := Ground.data }, { on := 12, ground := Ground.data }], guard := none })) (v := ?_) rfl (by kernel_rfl) (by kernel_rfl) (by kernel_rfl) (fun _ _ _ h => h) (Or.inl ⟨by rfl, ?_⟩) (by assumption) ?_
    rotate_left 1
    · (intro w9 hSw; (try dsimp only at hSw); go_simp; try with_reducible rfl)
    try simp only [Act.put, List.setIfInBounds_toArray, List.set_cons_zero, List.set_cons_succ]
    refine wpAnyH_ready (rs := [14]) (by kernel_rfl) (by simp) ?_
    refine AllReadyH.cons (o := ({ dst := none, op := Op.store 87 (Operand.tmp 8) (Operand.tmp 101), type := 0, pos := "ref.go:144", after := #[{ on := 13, ground := Ground.data }, { on := 5, ground := Ground.chain }, { on := 0, ground := Ground.phase }, { on := 1, ground := Ground.phase }, { on := 2, ground := Ground.phase }, { on := 3, ground := Ground.phase }, { on := 4, ground := Ground.phase }, { on := 5, ground := Ground.phase }, { on := 6, ground := Ground.phase }, { on := 7, ground := Ground.phase }, { on := 8, ground := Ground.phase }, { on := 9, ground := Ground.phase }, { on := 10, ground := Ground.phase }, { on := 11, ground := Ground.phase }, { on := 12, ground := Ground.phase }, { on := 13, ground := Ground.phase }], guard := none })) rfl (fun K hK => ?_) AllReadyH.nil
    refine step_store_bk rfl 87 (.tmp 8) (.tmp 101) rfl q8 0 gvnZ (gvnC ⟨8, N, Itm.none⟩ a2 n2 c2 x (u64 (i + 1)) false) (gvnC ⟨8, N, Itm.none⟩ a2 n2 c2 x (u64 (i + 1)) false) (HG5.out.keep hB (fun s => by have e1 := HQ.out; omega)) (Nat.le_refl 12) rfl info_gvn (gvnC_one _ _ _ _ _ _ _) rfl rfl ?_
    intro W11 h11 k11
    refine hK.out _ _ (KEEP.out _ ((hB.mono fun _ _ s => .inr s).trans k11 (fun j hj s => .inl s))) (fun hHeld => ?_)
    clear hK K
    try simp only [Act.put]
    refine wpAnyH_done (by kernel_rfl) ?_ _
    go_wp2_with fail
    refine bodyPost_ret (results_bk rfl _ h11 rfl _ Tryd.underlying87 rfl info_gvn) rfl ⟨a2, n2, c2, rfl, ?_, hl2.onA HF3.out.size, fr_set (fr_keep HF5.out hB (fun j s => Nat.le_trans HF3.out.size s)) k11 HQ.out.1⟩
    have hlf := (hl2.base (Nat.zero_le _)).keep k11 (fun g o s e e1 => by have := (hl2.blk e).1; have e3 := HQ.out; omega)
    rw [← HYK.out] at hlf
    exact hlf
end
end Go.Proofs.YtmjklkcjinfmaaaDoor
