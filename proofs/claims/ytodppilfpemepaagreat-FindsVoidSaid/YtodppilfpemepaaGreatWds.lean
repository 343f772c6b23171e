/- Contracts of package cells: the words of whatever cells. -/
import Derived.Test.YtodppilfpemepaaGreatSrt
import Derived.Test.YtodppilfpemepaaGreatGCl
import Derived.Test.YtodppilfpemepaaGreatGRg
namespace Go.Proofs.YtodppilfpemepaaGreat
open Go.RowKit Go.Maps
open Go.Sort (HoldsK flatK size_flatK get_flatK)
set_option linter.unusedVariables false

theorem info_cw : (Tryz.prog.info? 134).map (fun i => (i.zero, i.size, i.bytes)) = some (some (.agg #[.int .u64 0, .int .u64 0]), 2, 16) := by kernel_rfl
theorem sort_nil (p : Option Addr) (cap : Nat) (fv : Value) (w : World) : Calls Tryz.prog 115 #[.slice p 0 cap, fv] w fun e w' => e = .returned (.tuple #[]) ∧ w' = w :=
  AnyF.slices_SortFunc_none { Tryz.sortW with } p cap fv w
theorem sort_none : SortNone := fun fv w => sort_nil none 0 fv w
theorem clipw (a : Option Addr) (n c : Nat) (w : World) (hn : n ≤ c) (hc : c ≤ maxLen) (h0 : a = none → n = 0 ∧ c = 0) :
    Calls Tryz.prog 118 #[.slice a n c] w fun e w' => e = .returned (.slice a n n) ∧ w = w' := by
  unfold maxLen at hc
  cases a with
  | none =>
    obtain ⟨rfl, rfl⟩ := h0 rfl
    go_enter Tryz.func118, Tryz.ntmps118
    go_wp2
    go_ret
    exact ⟨rfl, rfl⟩
  | some a =>
    clear h0
    go_enter Tryz.func118, Tryz.ntmps118
    go_wp2
    go_ret
    exact ⟨rfl, rfl⟩
theorem entry_at {c : Option Nat} {y : DataW Unit × List MemPlace} {b : Nat} (hR : cR (cV c) = some y) (h : y.1 = .lit (.int .i64 b)) : c = some b := by
  cases c with
  | none =>
    have : cR (cV none) = some (.nil, []) := cR_nil
    rw [this] at hR
    injection hR with hR
    rw [← hR] at h
    simp at h
  | some c' =>
    have : cR (cV (some c')) = some (.lit (.int .i64 c'), []) := cR_at c'
    rw [this] at hR
    injection hR with hR
    rw [← hR] at h
    simp at h
    have e : c' = b := by omega
    rw [e]
theorem ranges_keep {P : Program} {k : TypeId} {R : Value → Option (DataW Unit × List MemPlace)} {w W : World} {b r n : Nat} {D : DataW Unit} {left : Lit → Bool} {cnt : Nat} {S : Nat → Prop} (h : w.ranges P k R b r n D left cnt) (hb : Keeps S w W) (h1 : ¬ S b) (h2 : ¬ S r) : W.ranges P k R b r n D left cnt := by
  obtain ⟨es, clock, since, seen, c0, e1, F, e2, e3, e4, rest⟩ := h
  have lt : ∀ {i : Nat} {o : Obj}, w.heap[i]? = some o → i < w.heap.size := fun {i o} hi => by
    rcases Nat.lt_or_ge i w.heap.size with h' | h'
    · exact h'
    · rw [Array.getElem?_eq_none h'] at hi; simp at hi
  exact ⟨es, clock, since, seen, c0, (hb.block b (lt e1) h1).trans e1, F, e2, e3, (hb.block r (lt e4) h2).trans e4, rest⟩
theorem ranges_le {P : Program} {k : TypeId} {R : Value → Option (DataW Unit × List MemPlace)} {w : World} {b r n : Nat} {D : DataW Unit} {left : Lit → Bool} {cnt : Nat} (h : w.ranges P k R b r n D left cnt) : cnt ≤ n := by
  obtain ⟨es, clock, since, seen, c0, e1, F, e2, e3, e4, e5, e6, rest⟩ := h
  rw [← e6]
  unfold leftOf
  exact Nat.le_trans (Array.size_filter_le) e2
/-- The words that have been seen. -/
structure Vis (D : DataW Unit) (f : Int → Int) (L : List (Int × Int)) (left : Lit → Bool) : Prop where
  at_ : ∀ x ∈ L, isU x.1 ∧ isU x.2 ∧ x.2 ≠ 0 ∧ f x.1 = x.2 ∧ left (kA x.1) = false
  nd : (L.map (·.1)).Nodup
  rest : ∀ a, isU a → f a ≠ 0 → left (kA a) = false → (a, f a) ∈ L
  sub : ∀ kl, left kl = true → Maps.has D kl = true
theorem same_kA (a b : Int) : (kA a).sameKey (kA b) = decide (a = b) := by simp [Lit.sameKey, kA]
theorem Vis.step {D : DataW Unit} {f : Int → Int} {L : List (Int × Int)} {left : Lit → Bool} {z : Int} (h : Vis D f L left) (hz : isU z) (hu : isU (f z)) (h0 : f z ≠ 0) (hl : left (kA z) = true) : Vis D f (L ++ [(z, f z)]) (fun q => left q && !q.sameKey (kA z)) := by
  refine ⟨fun x hx => ?_, ?_, fun a ha hf hl' => ?_, fun kl hk => ?_⟩
  · rcases List.mem_append.mp hx with hx | hx
    · obtain ⟨h1, h2, h3, h4, h5⟩ := h.at_ x hx
      exact ⟨h1, h2, h3, h4, by rw [h5]; rfl⟩
    · simp at hx
      subst hx
      exact ⟨hz, hu, h0, rfl, by rw [same_kA]; simp⟩
  · rw [List.map_append, List.nodup_append]
    refine ⟨h.nd, by simp, fun a ha b hb => ?_⟩
    simp at hb
    subst hb
    rintro rfl
    obtain ⟨x, hx, e⟩ := List.mem_map.mp ha
    have := (h.at_ x hx).2.2.2.2
    rw [e, hl] at this
    exact absurd this (by decide)
  · by_cases e : a = z
    · subst e; simp
    · rw [same_kA] at hl'
      simp [e] at hl'
      exact List.mem_append.mpr (.inl (h.rest a ha hf hl'))
  · simp only [Bool.and_eq_true] at hk
    exact h.sub kl hk.1
theorem Vis.done {D : DataW Unit} {f : Int → Int} {L : List (Int × Int)} {left : Lit → Bool} (h : Vis D f L left) (hl : ∀ kl, left kl = false) : (L.map (·.1)).Nodup ∧ (∀ x ∈ L, isU x.1 ∧ isU x.2 ∧ x.2 ≠ 0 ∧ f x.1 = x.2) ∧ ∀ a, isU a → f a ≠ 0 → (a, f a) ∈ L :=
  ⟨h.nd, fun x hx => by obtain ⟨h1, h2, h3, h4, _⟩ := h.at_ x hx; exact ⟨h1, h2, h3, h4⟩, fun a ha h0 => h.rest a ha h0 (hl _)⟩
theorem flatK_eq (d : Array (Int × Int)) (i : Nat) (x : Int × Int) (h : d[i]? = some x) : (flatK encW 2 d)[i * 2]! = .int .u64 x.1 ∧ (flatK encW 2 d)[i * 2 + 1]! = .int .u64 x.2 := by
  have hi : i < d.size := by
    rcases Nat.lt_or_ge i d.size with h' | h'
    · exact h'
    · rw [Array.getElem?_eq_none h'] at h; simp at h
  have hx : d[i]! = x := by rw [getElem!_pos d i hi]; rw [Array.getElem?_eq_getElem hi] at h; simpa using h
  rw [get_flatK _ _ _ _ (by omega), get_flatK _ _ _ _ (by omega), show i * 2 / 2 = i by omega, show i * 2 % 2 = 0 by omega, show (i * 2 + 1) / 2 = i by omega, show (i * 2 + 1) % 2 = 1 by omega, hx]
  exact ⟨rfl, rfl⟩
theorem holdsW {w : World} {g : Nat} {d : Array (Int × Int)} (h : ∀ i x, d[i]? = some x → (w.cell? ⟨g, i * 2, none⟩ = some (.int .u64 x.1) ∧ w.frozen? ⟨g, i * 2, none⟩ = false) ∧ w.cell? ⟨g, i * 2 + 1, none⟩ = some (.int .u64 x.2) ∧ w.frozen? ⟨g, i * 2 + 1, none⟩ = false) : HoldsK encW 2 w g 0 d := by
  intro t ht
  rw [size_flatK] at ht
  have hi : t / 2 < d.size := by omega
  have hx := Array.getElem?_eq_getElem hi
  obtain ⟨⟨c0, f0⟩, c1, f1⟩ := h _ _ hx
  obtain ⟨e0, e1⟩ := flatK_eq d _ _ hx
  rcases Nat.mod_two_eq_zero_or_one t with hm | hm
  · have e : t = t / 2 * 2 := by omega
    rw [Nat.zero_add]
    have k0 : (flatK encW 2 d)[t]! = .int .u64 (d[t / 2]).1 := by
      conv => lhs; rw [e]
      exact e0
    rw [k0]
    rw [← e] at c0 f0
    exact ⟨c0, f0⟩
  · have e : t = t / 2 * 2 + 1 := by omega
    rw [Nat.zero_add]
    have k0 : (flatK encW 2 d)[t]! = .int .u64 (d[t / 2]).2 := by
      conv => lhs; rw [e]
      exact e1
    rw [k0]
    rw [← e] at c1 f1
    exact ⟨c1, f1⟩
theorem holdsW_at {w : World} {g : Nat} {d : Array (Int × Int)} (h : HoldsK encW 2 w g 0 d) {i : Nat} {x : Int × Int} (hx : d.toList[i]? = some x) : (w.cell? ⟨g, i * 2, none⟩ = some (.int .u64 x.1) ∧ w.frozen? ⟨g, i * 2, none⟩ = false) ∧ w.cell? ⟨g, i * 2 + 1, none⟩ = some (.int .u64 x.2) ∧ w.frozen? ⟨g, i * 2 + 1, none⟩ = false := by
  have hx' : d[i]? = some x := by simpa using hx
  have hi : i < d.size := by
    rcases Nat.lt_or_ge i d.size with h' | h'
    · exact h'
    · rw [Array.getElem?_eq_none h'] at hx'; simp at hx'
  obtain ⟨e0, e1⟩ := flatK_eq d i x hx'
  have a0 := h (i * 2) (by rw [size_flatK]; omega)
  have a1 := h (i * 2 + 1) (by rw [size_flatK]; omega)
  rw [Nat.zero_add, e0] at a0
  rw [Nat.zero_add, e1] at a1
  exact ⟨a0, a1⟩
/-- A slice of words that a call handed back, with no room behind: in a block from B on. -/
def WL (w : World) (B : Nat) (v : Value) (L : List (Int × Int)) : Prop :=
  (L = [] ∧ ∃ a, v = .slice a 0 0) ∨ ∃ g, v = .slice (some ⟨g, 0, none⟩) L.length L.length ∧ B ≤ g ∧ g < w.heap.size ∧ L.length ≤ maxLen ∧ ∀ i x, L[i]? = some x → (w.cell? ⟨g, i * 2, none⟩ = some (.int .u64 x.1) ∧ w.frozen? ⟨g, i * 2, none⟩ = false) ∧ w.cell? ⟨g, i * 2 + 1, none⟩ = some (.int .u64 x.2) ∧ w.frozen? ⟨g, i * 2 + 1, none⟩ = false
def IsWds (w : World) (f : Int → Int) (e : Ending) (w' : World) : Prop := ∃ v L, e = .returned v ∧ IsLs L f ∧ WL w' w.heap.size v L ∧ Below w.heap.size w w'
section
variable {w : World} {p n : Nat} {f : Int → Int} {cnt k a0 x y a v : Int} {S : Nat → Prop}
set_option maxHeartbeats 4000000 in
set_option maxRecDepth 100000 in
theorem words_any (h : Cel w p f cnt k a0 x y n S) (hn : n ≤ 1000000000) :
    Calls Tryz.prog 77 #[.pointer (some ⟨p, 0, none⟩)] w (IsWds w f) := by
  obtain ⟨i0, hi, hz0, hz1, hz2⟩ := info_parts info_cw
  have hrng := h.rng
  rcases h.map with ⟨hm, h0⟩ | ⟨m, D, hm, H⟩
  · refine (words_none sort_none hm).mono ?_
    rintro e w' ⟨rfl, hb⟩
    exact ⟨_, [], rfl, ⟨List.Pairwise.nil, fun x h => by simp at h, fun a ha hf => absurd (h0 a ha) hf⟩, .inl ⟨rfl, _, rfl⟩, hb⟩
  have hown := H.own
  have hmlt := H.lt
  have hkey : ∀ z kl, Go.keyOf Tryz.prog 78 (.int .u64 z) = some kl → Maps.has D kl = true → isU z ∧ kl = kA z ∧ f z ≠ 0 ∧ ∃ b : Nat, D.atKey (kA z) .nil = .lit (.int .i64 b) ∧ w.cell? ⟨b, 0, none⟩ = some (.int .u64 (f z)) := by
    intro z kl hk hh
    obtain ⟨z', e1, rfl, hw⟩ := Maps.keyOf_int_inv Tryz.underlying78 hk
    have hz : isU z' := wf_isU hw
    injection e1 with _ e1
    subst e1
    have := H.has z hz
    unfold kA at this
    rw [hh] at this
    have h0 : f z ≠ 0 := by simpa using this.symm
    obtain ⟨b, hb1, hb2, _⟩ := H.at_ z hz h0
    exact ⟨hz, rfl, h0, b, hb1, hb2⟩
  have hstart : Vis D f [] (Maps.has D) := ⟨fun x h => by simp at h, by simp, fun a ha h0 hl => by rw [H.has a ha] at hl; simp [h0] at hl, fun kl h => h⟩
  have HKEY := Lib.hid hkey
  have HRNG := Lib.hid hrng
  have HST := Lib.hid hstart
  clear hkey h H hrng hstart
  go_enter Tryz.func77, Tryz.ntmps77
  go_wp2_with (at_range; refine wpList_range_own _ rfl _ 181 rfl 78 191 lawA Tryz.underlying181 cR m n D rfl hown ?_; intro w0 hrg0 hg0 hs0)
  have HBEL0 := Lib.hid ((Below.refl w.heap.size w).grown hg0 (Nat.le_refl _) (fun k e => by simp at e))
  have HRG0 := Lib.hid hrg0
  have HSZ0 := Lib.hid hs0
  clear hg0 hrg0 hs0
  go_frame
  go_loopw [3] (fun lv wr => ∃ (L : List (Int × Int)) (left : Lit → Bool) (q : Nat), wr.ranges Tryz.prog 78 cR m w.heap.size n D left q ∧ wr.ownsRow (w.heap.size + 1) 134 2 lv L.length (flat2 L) ∧ Below w.heap.size w wr ∧ w.heap.size + 1 ≤ wr.heap.size ∧ L.length + q ≤ n ∧ Hid (Vis D f L left)) (fun _ wr => wr.rangeLeft m w.heap.size)
  case atStart => exact ⟨[], _, _, HRG0.out, World.ownsRow_nil _ _ _ _, HBEL0.out, by have := HSZ0.out; omega, by have := ranges_le HRG0.out; simpa using this, HST.out⟩
  case round =>
    obtain ⟨L, left, q, hrg, hownL, hnx, hsz, hln, hV⟩ := hrel
    clear HRG0 HBEL0 HST hown
    have HLEFT := Lib.hid hrg.left_eq
    go_wp2_with (at_next; refine wpList_next_ranges _ rfl _ rfl 78 lawA cR (fun z : Int => .int .u64 z) cV (fun key kl hk => by obtain ⟨z, rfl, _⟩ := Maps.keyOf_int_inv Tryz.underlying78 hk; exact ⟨z, rfl⟩) cV_inv m w.heap.size n D left q rfl hrg (fun hq0 hdone => ?_) (fun z c kl y w1 q1 hk hl hR hat hrg1 hlt hgr hsz1 hen => ?_))
    · obtain ⟨fin1, fin2, fin3⟩ := hV.out.done hdone
      clear HLEFT hrg hV hdone hq0 HKEY HRNG
      rcases Lst.of_own hownL with ⟨_, ⟨rfl, h0⟩ | ⟨g, cap, rfl, hgB, hgl, hnc, hcm, hx⟩⟩
      · obtain rfl : L = [] := List.eq_nil_of_length_eq_zero h0
        go_wp2_with (first
          | (go_at_call 115; refine (sort_nil _ _ _ _).mono ?_; rintro e w' ⟨rfl, rfl⟩)
          | (go_at_call 118; refine (clipw none 0 0 _ (Nat.le_refl _) (by simp [maxLen]) (fun _ => ⟨rfl, rfl⟩)).mono ?_; rintro e w' ⟨rfl, rfl⟩))
        go_ret
        exact ⟨_, [], rfl, ⟨List.Pairwise.nil, fun x h => by simp at h, fun a ha hf => by have := fin3 a ha hf; simp at this⟩, .inl ⟨rfl, _, rfl⟩, hnx⟩
      · have hH : HoldsK encW 2 wr g 0 L.toArray := holdsW (fun i z hz => by
          have hz' : L[i]? = some z := by simpa using hz
          exact ⟨hx _ _ (flat2_at hz').1, hx _ _ (flat2_at hz').2⟩)
        have hS := sortw g cap L.toArray wr hH hgl (by simp; omega)
        rw [List.size_toArray] at hS
        have HS := Lib.hid hS
        clear hS hH hx
        go_wp2_with (first
          | (go_at_call 115; refine HS.out.mono ?_; rintro e w' ⟨rfl, d', hp, hs, hH', hk'⟩; have HL' := Lib.hid (isL_of_sort (f := f) (cf := fun x y => cmpI x.1 y.1) cmp_lt hp hs fin1 fin2 fin3); have HH' := Lib.hid hH'; have HK' := Lib.hid hk'; have hsz' : d'.toList.length = L.length := (by have := hp.1; simpa using this); clear hp hs hH' hk')
          | (go_at_call 118; refine (clipw _ _ _ _ hnc hcm (fun h => by simp at h)).mono ?_; rintro e w' ⟨rfl, rfl⟩))
        go_ret
        refine ⟨_, d'.toList, rfl, HL'.out, .inr ⟨g, by rw [hsz']; rfl, by omega, Nat.lt_of_lt_of_le hgl HK'.out.size, by rw [hsz']; omega, fun i z hz => holdsW_at HH'.out hz⟩, hnx.trans (HK'.out.to_below (B := w.heap.size) (fun k _ e => by omega) hnx.size)⟩
    · obtain ⟨uz, rfl, hfz, b, hb1, hb2⟩ := HKEY.out z kl hk (hV.out.sub _ hl)
      have ec := entry_at hR ((hat .nil).symm.trans hb1)
      subst ec
      have hkp : Keeps (fun j => j = w.heap.size) wr w1 := (Keeps.refl _ wr).grown hgr (fun k e => by simp at e; exact .inl e.symm)
      have hnx1 : Below w.heap.size w w1 := hnx.grown hgr (by omega) (fun k e => by simp at e; omega)
      have c1 : w1.cell? ⟨b, 0, none⟩ = some (.int .u64 (f z)) := (hnx1.cell (p := ⟨b, 0, none⟩) (World.block_lt_of_cell? _ _ hb2)).trans hb2
      have hownL1 := hkp.ownsRow hownL (fun g hg => by have := hownL.lt g hg; omega)
      have HV2 := Lib.hid (hV.out.step uz (HRNG.out z uz) hfz hl)
      have HRG1 := Lib.hid hrg1
      have HLT := Lib.hid hlt
      have HSZ1 := Lib.hid hsz1
      clear hrg hownL hnx hkp hV hgr hat hR hk hl hb1 hb2 hrg1 hsz1
      go_wp2_with fail
      refine (aload b (f z) _ c1).mono ?_
      rintro e w' ⟨rfl, rfl⟩
      generalize f z = u at *
      go_wp2_with (at_builtin; go_loud (refine wpList_append_own _ rfl _ _ 148 rfl (w.heap.size + 1) 134 i0 (.agg #[.int .u64 0, .int .u64 0]) 2 16 Tryz.underlying148 hi hz0 hz1 hz2 rfl (by decide) _ _ _ rfl (hownL1.alloc _) ⟨w1.heap.size, 0, none⟩ 1 1 [.int .u64 z, .int .u64 u] rfl rfl ?c1 ?c2 ?c3 ?c4 ?c5 ?_))
      try case c1 => intro j u hj; exact new2c hj
      case c2 => first | exact one2 | exact ⟨rfl, rfl⟩
      case c3 => unfold maxLen; omega
      case c4 => omega
      case c5 => have := HSZ1.out; simp; omega
      intro v' w3 hown3 hgrow _
      have hkp3 : Keeps (fun j => w.heap.size + 1 ≤ j) w1 w3 := ((Keeps.refl _ w1).alloc _).grown hgrow (fun k hk => .inl (hownL1.lt k hk).1)
      have hrg3 := ranges_keep HRG1.out hkp3 (by omega) (by omega)
      have hln3 : L.length + 1 + q1 ≤ n := by have := HLT.out; omega
      have hsz3 := hkp3.size
      have hnx3 := hnx1.trans (hkp3.to_below (B := w.heap.size) (fun k _ h => by omega) hnx1.size)
      have hleft : w3.rangeLeft m w.heap.size = q1 := hrg3.left_eq
      clear hgrow hownL1 hkp3
      go_wp2_with fail
      go_roundw
      case rel => exact ⟨L ++ [(z, u)], _, q1, hrg3, by rw [flat2_snoc, List.length_append]; exact hown3, hnx3, by have := HSZ1.out; omega, by simp; omega, HV2⟩
      case measure => rw [hleft, HLEFT.out]; exact HLT.out
end
end Go.Proofs.YtodppilfpemepaaGreat
