/- Bounds: the calls of an event. -/
import Derived.Test.YteoeelhljimibaaGBo
import Derived.Test.YteoeelhljimibaaFy
namespace Go.Proofs.Yteoeelhljimibaa
open Go.RowKit Go.Maps
set_option linter.unusedVariables false

def callOf (e : Ev) : Cl := ⟨e.cmd.cverb, e.cmd.key, e.cmd.value, e.cmd.flags, e.cmd.exp, e.cmd.id, e.cmd.by_⟩
def withKey (c : Cl) (k : List UInt8) : Cl := { c with key := k }
def callsE (e : Ev) : List Cl :=
  if e.cmd.verb = 0 ∨ e.cmd.verb = 12 ∨ e.cmd.verb = 13 then []
  else if e.cmd.verb = 1 ∨ e.cmd.verb = 2 then e.cmd.keys.map (withKey (callOf e))
  else [{ callOf e with value := e.data }]
/-- A list of calls of the call's own. -/
def IsCls (w : World) (L : List Cl) (e : Ending) (w' : World) : Prop := ∃ v, e = .returned v ∧ ClR w' v L ∧ Below w.heap.size w w'
theorem ClR.nil (w : World) : ClR w (.slice none 0 0) [] := ⟨none, 0, rfl, by simp, by simp [maxLen], fun _ => rfl, fun h => by simp at h⟩
theorem ClR.of_row {w : World} {B n : Nat} {T : TypeId} {v : Value} {L : List Cl} (h : w.ownsRow B T 7 v n (rowsC L)) (hn : n = L.length) : ClR w v L := by
  subst hn
  rcases h.2 with ⟨rfl, h0⟩ | ⟨g, cap, cur, rfl, hB, hg, h1, h2, _⟩
  · exact ⟨none, 0, by rw [h0], by omega, by simp [maxLen], fun _ => rfl, fun h => by omega⟩
  · refine ⟨_, cap, rfl, h1, h2, fun e => by simp at e, fun h0 => ⟨g, rfl, ?_, fun j u hu => ?_⟩⟩
    · rcases Nat.lt_or_ge g w.heap.size with h' | h'
      · exact h'
      · rw [Array.getElem?_eq_none h'] at hg; simp at hg
    · have := h.cells (g := g) rfl j u hu
      rwa [Addr.add_lit, Nat.zero_add] at this
theorem ClR.one {W : World} {g : Nat} {C : Array Value} {T : TypeId} {c : Cl} (hg : g = W.heap.size) (hC : C.toList = callC c) : ClR (W.alloc (.cells C T)) (.slice (some ⟨g, 0, none⟩) 1 1) [c] := by
  subst hg
  refine ⟨_, 1, rfl, by simp, by simp [maxLen], fun e => by simp at e, fun _ => ⟨W.heap.size, rfl, by simp, fun j u hu => ?_⟩⟩
  have e : rowsC [c] = callC c := by show callC c ++ [] = _; rw [List.append_nil]
  rw [e, ← hC, Array.getElem?_toList] at hu
  simpa using hu
theorem info_call : (Try.prog.info? 33).map (fun i => (i.zero, i.size, i.bytes)) = some (some (.agg #[.int .u8 0, .string ⟨#[]⟩, .string ⟨#[]⟩, .int .u32 0, .int .i64 0, .int .u64 0, .int .u64 0]), 7, 72) := by kernel_rfl
/-- The block of the call that is told of: its key may be any. -/
theorem cl_new {W : World} {g : Nat} {C : Array Value} {T : TypeId} {c : Cl} (hg : g = W.heap.size) (hC : callC c = C.toList) : Cb (W.alloc (.cells C T)) g (callC c) := by
  subst hg
  exact cb_new hC
theorem cl_new_at {W : World} {C : Array Value} {T : TypeId} {c : Cl} (hC : C.toList = callC c) : ∀ j u, (callC c)[j]? = some u → (W.alloc (.cells C T)).cell? ⟨W.heap.size, j, none⟩ = some u := by
  intro j u hu
  rw [← hC, Array.getElem?_toList] at hu
  simpa using hu
theorem callsE_none {e : Ev} (h : e.cmd.verb = 0 ∨ e.cmd.verb = 12 ∨ e.cmd.verb = 13) : callsE e = [] := by unfold callsE; rw [if_pos h]
theorem callsE_get {e : Ev} (h : e.cmd.verb = 1 ∨ e.cmd.verb = 2) : callsE e = e.cmd.keys.map (withKey (callOf e)) := by unfold callsE; rw [if_neg (by omega), if_pos h]
theorem callsE_one {e : Ev} (h : ¬ (e.cmd.verb = 0 ∨ e.cmd.verb = 12 ∨ e.cmd.verb = 13)) (h2 : ¬ (e.cmd.verb = 1 ∨ e.cmd.verb = 2)) : callsE e = [{ callOf e with value := e.data }] := by unfold callsE; rw [if_neg h, if_neg h2]
set_option maxHeartbeats 4000000 in
set_option maxRecDepth 100000 in
theorem calls_none (e : Ev) (kv : Value) (w : World) (hv : e.cmd.verb = 0 ∨ e.cmd.verb = 12 ∨ e.cmd.verb = 13) : Calls Try.prog 27 #[.agg (evC e kv).toArray] w (IsCls w (callsE e)) := by
  rw [callsE_none hv]
  obtain ⟨⟨vb, ks, cv, ky, vl, fl, ex, id, by_, bt, qt⟩, dt, td⟩ := e
  simp only at hv
  simp only [evC, cmdC, List.cons_append, List.nil_append]
  rcases hv with rfl | rfl | rfl
  all_goals
    go_enter Try.func27, Try.ntmps27
    go_wp2_with fail
    go_ret
    exact ⟨_, rfl, ClR.nil _, ((Below.refl _ _).alloc (Nat.le_refl _) _).alloc (by simp) _⟩
set_option maxHeartbeats 4000000 in
set_option maxRecDepth 100000 in
theorem calls_one (e : Ev) (kv : Value) (w : World) (hv : ¬ (e.cmd.verb = 0 ∨ e.cmd.verb = 12 ∨ e.cmd.verb = 13)) (hv2 : ¬ (e.cmd.verb = 1 ∨ e.cmd.verb = 2)) : Calls Try.prog 27 #[.agg (evC e kv).toArray] w (IsCls w (callsE e)) := by
  rw [callsE_one hv hv2]
  obtain ⟨⟨vb, ks, cv, ky, vl, fl, ex, id, by_, bt, qt⟩, dt, td⟩ := e
  simp only at hv hv2
  simp only [evC, cmdC, List.cons_append, List.nil_append, callOf]
  have d0 : ((vb : Int) == 0) = false := beq_eq_false_iff_ne.mpr (by omega)
  have d1 : ((vb : Int) == 1) = false := beq_eq_false_iff_ne.mpr (by omega)
  have d2 : ((vb : Int) == 2) = false := beq_eq_false_iff_ne.mpr (by omega)
  have d12 : ((vb : Int) == 12) = false := beq_eq_false_iff_ne.mpr (by omega)
  have d13 : ((vb : Int) == 13) = false := beq_eq_false_iff_ne.mpr (by omega)
  clear hv hv2
  go_enter Try.func27, Try.ntmps27
  go_wp2_with fail
  go_ret
  exact ⟨_, rfl, ClR.one (by simp) rfl, (((Below.refl _ _).alloc (Nat.le_refl _) _).alloc (by simp) _).alloc (by simp; omega) _⟩
theorem map_take_snoc {α β : Type} (f : α → β) {l : List α} {k : Nat} {x : α} (h : l[k]? = some x) : (l.take (k + 1)).map f = (l.take k).map f ++ [f x] := by
  rw [List.take_add_one, h]
  simp
set_option maxHeartbeats 4000000 in
set_option maxRecDepth 100000 in
theorem calls_get (e : Ev) (kv : Value) (w : World) (hk : KyR w kv e.cmd.keys) (hn : e.cmd.keys.length ≤ 65536) (hv : e.cmd.verb = 1 ∨ e.cmd.verb = 2) : Calls Try.prog 27 #[.agg (evC e kv).toArray] w (IsCls w (callsE e)) := by
  obtain ⟨i0, hi, hz0, hz1, hz2⟩ := info_parts info_call
  rw [callsE_get hv]
  obtain ⟨A, c, rfl, hlc, hcm, hrd⟩ := hk.form
  unfold maxLen at hcm
  obtain ⟨cl, hcl⟩ : ∃ cl, cl = callOf e := ⟨_, rfl⟩
  rw [← hcl]
  have HCL := Lib.hid hcl
  obtain ⟨n, hnn⟩ : ∃ n, n = e.cmd.keys.length := ⟨_, rfl⟩
  rw [← hnn] at hn hlc ⊢
  have HN := Lib.hid hnn
  have HRD := Lib.hid hrd
  obtain ⟨L, hL⟩ : ∃ L, L = e.cmd.keys := ⟨_, rfl⟩
  rw [← hL] at HRD HN ⊢
  clear hrd hnn hk
  obtain ⟨⟨vb, ks, cv, ky, vl, fl, ex, id, by_, bt, qt⟩, dt, td⟩ := e
  simp only at hv hL
  simp only [callOf] at HCL
  clear hcl hL
  simp only [evC, cmdC, List.cons_append, List.nil_append]
  rcases hv with rfl | rfl
  · rw [show ((1 : Nat) : Int) = (1 : Int) from rfl]
    go_enter Try.func27, Try.ntmps27
    go_wp2_with fail
    have hcb : Cb (((w.alloc (.cells #[.int .u8 1, .slice A n c, .int .u8 cv, .string ⟨ky.toArray⟩, .string ⟨vl.toArray⟩, .int .u32 fl, .int .i64 ex, .int .u64 id, .int .u64 by_, .int .i64 bt, .bool qt, .string ⟨dt.toArray⟩, .int .u8 td] 64))).alloc (.cells #[.int .u8 cv, .string ⟨ky.toArray⟩, .string ⟨vl.toArray⟩, .int .u32 fl, .int .i64 ex, .int .u64 id, .int .u64 by_] 33)) (w.heap.size + 1) (callC cl) := cl_new (by simp) (by rw [HCL.out]; rfl)
    have hbl : Below w.heap.size w (((w.alloc (.cells #[.int .u8 1, .slice A n c, .int .u8 cv, .string ⟨ky.toArray⟩, .string ⟨vl.toArray⟩, .int .u32 fl, .int .i64 ex, .int .u64 id, .int .u64 by_, .int .i64 bt, .bool qt, .string ⟨dt.toArray⟩, .int .u8 td] 64))).alloc (.cells #[.int .u8 cv, .string ⟨ky.toArray⟩, .string ⟨vl.toArray⟩, .int .u32 fl, .int .i64 ex, .int .u64 id, .int .u64 by_] 33)) := ((Below.refl _ _).alloc (Nat.le_refl _) _).alloc (by simp) _
    generalize ((w.alloc (.cells #[.int .u8 1, .slice A n c, .int .u8 cv, .string ⟨ky.toArray⟩, .string ⟨vl.toArray⟩, .int .u32 fl, .int .i64 ex, .int .u64 id, .int .u64 by_, .int .i64 bt, .bool qt, .string ⟨dt.toArray⟩, .int .u8 td] 64))).alloc (.cells #[.int .u8 cv, .string ⟨ky.toArray⟩, .string ⟨vl.toArray⟩, .int .u32 fl, .int .i64 ex, .int .u64 id, .int .u64 by_] 33) = W2 at *
    have HW2 := Lib.hid (And.intro hcb hbl)
    clear hcb hbl
    obtain ⟨q, hq⟩ : ∃ q, w.heap.size + 1 = q := ⟨_, rfl⟩
    rw [hq] at HW2 ⊢
    obtain ⟨B, hB⟩ : ∃ B, W2.heap.size = B := ⟨_, rfl⟩
    have hqB : q < B := by rw [← hB]; exact HW2.out.1.lt
    have HH := Lib.hid (And.intro hq hB)
    clear hq hB
    go_loopw [4, 24] (fun v i wr => ∃ (k : Nat) (K : List UInt8), k ≤ n ∧ i = .int .i64 k ∧ Hid (wr.ownsRow B 33 7 v k (rowsC ((L.take k).map (withKey cl)))) ∧ Hid (Cb wr q (callC (withKey cl K))) ∧ Hid (Below w.heap.size w wr) ∧ B ≤ wr.heap.size) (fun _ i _ => n - (intOf i).toNat)
    case atStart => exact ⟨0, cl.key, by omega, rfl, World.ownsRow_nil _ _ _ _, HW2.out.1, HW2.out.2, by rw [HH.out.2]; exact Nat.le_refl _⟩
    case round =>
      obtain ⟨k, K, hk, rfl, hown, hcb, hnx, hsz⟩ := hrel
      by_cases hlt : k < n
      · obtain ⟨x, hx⟩ : ∃ x, L[k]? = some x := ⟨_, List.getElem?_eq_getElem (by have := HN.out; omega)⟩
        obtain ⟨g, rfl, hg, hcx⟩ := HRD.out k x hx
        have c0 := (hnx.out.cell (p := ⟨g, k, none⟩) hg).trans hcx
        have c1 := hcb.out.at_ 1 _ rfl
        have z1 := hcb.out.fz 1 (by show 1 < 7; decide)
        have ks : Keeps (fun j => j = q) wr (wr.setCell ⟨q, 1, none⟩ (.string ⟨x.toArray⟩)) := Keeps.setCell (S := fun j => j = q) (Keeps.refl _ _) (p := ⟨q, 1, none⟩) (.inl rfl) _
        have hcb3 : Cb (wr.setCell ⟨q, 1, none⟩ (.string ⟨x.toArray⟩)) q (callC (withKey cl x)) := hcb.out.set 1 (.string ⟨x.toArray⟩) (by show 1 < 7; decide) rfl
        have hown3 := Keeps.ownsRow hown.out ks (fun g e n => by have := (hown.out.lt g e).1; omega)
        have hb3 : Below w.heap.size w (wr.setCell ⟨q, 1, none⟩ (.string ⟨x.toArray⟩)) := hnx.out.setCell (by show w.heap.size ≤ q; have := HH.out.1; omega) _
        have hsz3 : B ≤ (wr.setCell ⟨q, 1, none⟩ (.string ⟨x.toArray⟩)).heap.size := by simpa [World.setCell] using hsz
        have H3 := Lib.hid (And.intro hown3 (And.intro hcb3 (And.intro hb3 (And.intro hsz3 (map_take_snoc (withKey cl) hx)))))
        clear hcx ks hcb3 hown3 hb3 hsz3 hown hcb hnx hsz hx
        go_upto_region 14 with (fail)
        clear c0 c1 z1
        generalize wr.setCell ⟨q, 1, none⟩ (.string ⟨x.toArray⟩) = W3 at *
        obtain ⟨hown3, hcb3, hb3, hsz3, hsnoc⟩ := H3.out
        have f0 := hcb3.at_ 0 _ rfl; have f1 := hcb3.at_ 1 _ rfl; have f2 := hcb3.at_ 2 _ rfl; have f3 := hcb3.at_ 3 _ rfl; have f4 := hcb3.at_ 4 _ rfl; have f5 := hcb3.at_ 5 _ rfl; have f6 := hcb3.at_ 6 _ rfl
        have hrow := hown3
        clear hown3 hcb3 hb3 hsnoc
        go_wp2_with (at_builtin; refine wpList_append_own_at _ rfl (.tmp 30) (.tmp 32) 28 rfl B 33 i0 _ 7 72 Try.underlying28 hi hz0 hz1 hz2 rfl (by decide) _ _ _ rfl (hrow.alloc _) ⟨W3.heap.size, 0, none⟩ 1 1 (callC (withKey cl x)) rfl rfl ?c1 ?c2 ?c3 ?c4 ?c5 ?_)
        case c1 => intro j u hj; rw [Addr.add_lit, Nat.zero_add]; exact cl_new_at (c := withKey cl x) rfl j u hj
        case c2 => intro u hu; exact rowsC_one [withKey cl x] u (by show u ∈ callC (withKey cl x) ++ []; rw [List.append_nil]; exact hu)
        case c3 => unfold maxLen; omega
        case c4 => omega
        case c5 => simp; omega
        intro v' W5 hown' hgrow _ _
        obtain ⟨a', n', c', rfl⟩ := own_slice hown'
        have hk5 : Keeps (fun j => u4.ownBlock = some j) W3 W5 := ((Keeps.refl _ W3).alloc _).grown hgrow (fun k e => .inl e)
        have hcb5 := H3.out.2.1.keep hk5 (fun e => by have := (H3.out.1.lt q e).1; omega)
        have hb5 : Below w.heap.size w W5 := (H3.out.2.2.1.alloc H3.out.2.2.1.size _).grown hgrow (by have := H3.out.2.2.1.size; simp; omega) (fun j e => by have := (H3.out.1.lt j e).1; have := HH.out.1; omega)
        have hr5 : W5.ownsRow B 33 7 (.slice a' n' c') (k + 1) (rowsC ((L.take (k + 1)).map (withKey cl))) := by
          rw [H3.out.2.2.2.2, rowsC_app]
          show W5.ownsRow B 33 7 (.slice a' n' c') (k + 1) (rowsC ((L.take k).map (withKey cl)) ++ (callC (withKey cl x) ++ []))
          rw [List.append_nil, List.map_take]
          exact hown'
        have H5 := Lib.hid (And.intro hr5 (And.intro hcb5 (And.intro hb5 (Nat.le_trans hsz3 hk5.size))))
        clear hr5 hcb5 hb5 hk5 hgrow hown' hrow f0 f1 f2 f3 f4 f5 f6 H3
        go_wp2_with fail
        go_roundw
        case rel => exact ⟨k + 1, x, by omega, by go_num, H5.out.1, H5.out.2.1, H5.out.2.2.1, H5.out.2.2.2⟩
        case measure => simp [intOf]; omega
      · have hkn : k = n := by omega
        subst hkn
        have HE := Lib.hid (show L.take k = L by rw [HN.out, List.take_length])
        go_wp2_with fail
        go_ret
        refine ⟨_, rfl, ?_, hnx.out⟩
        have := hown.out
        rw [HE.out] at this
        exact ClR.of_row this (by rw [List.length_map, HN.out])
  · rw [show ((2 : Nat) : Int) = (2 : Int) from rfl]
    go_enter Try.func27, Try.ntmps27
    go_wp2_with fail
    have hcb : Cb (((w.alloc (.cells #[.int .u8 2, .slice A n c, .int .u8 cv, .string ⟨ky.toArray⟩, .string ⟨vl.toArray⟩, .int .u32 fl, .int .i64 ex, .int .u64 id, .int .u64 by_, .int .i64 bt, .bool qt, .string ⟨dt.toArray⟩, .int .u8 td] 64))).alloc (.cells #[.int .u8 cv, .string ⟨ky.toArray⟩, .string ⟨vl.toArray⟩, .int .u32 fl, .int .i64 ex, .int .u64 id, .int .u64 by_] 33)) (w.heap.size + 1) (callC cl) := cl_new (by simp) (by rw [HCL.out]; rfl)
    have hbl : Below w.heap.size w (((w.alloc (.cells #[.int .u8 2, .slice A n c, .int .u8 cv, .string ⟨ky.toArray⟩, .string ⟨vl.toArray⟩, .int .u32 fl, .int .i64 ex, .int .u64 id, .int .u64 by_, .int .i64 bt, .bool qt, .string ⟨dt.toArray⟩, .int .u8 td] 64))).alloc (.cells #[.int .u8 cv, .string ⟨ky.toArray⟩, .string ⟨vl.toArray⟩, .int .u32 fl, .int .i64 ex, .int .u64 id, .int .u64 by_] 33)) := ((Below.refl _ _).alloc (Nat.le_refl _) _).alloc (by simp) _
    generalize ((w.alloc (.cells #[.int .u8 2, .slice A n c, .int .u8 cv, .string ⟨ky.toArray⟩, .string ⟨vl.toArray⟩, .int .u32 fl, .int .i64 ex, .int .u64 id, .int .u64 by_, .int .i64 bt, .bool qt, .string ⟨dt.toArray⟩, .int .u8 td] 64))).alloc (.cells #[.int .u8 cv, .string ⟨ky.toArray⟩, .string ⟨vl.toArray⟩, .int .u32 fl, .int .i64 ex, .int .u64 id, .int .u64 by_] 33) = W2 at *
    have HW2 := Lib.hid (And.intro hcb hbl)
    clear hcb hbl
    obtain ⟨q, hq⟩ : ∃ q, w.heap.size + 1 = q := ⟨_, rfl⟩
    rw [hq] at HW2 ⊢
    obtain ⟨B, hB⟩ : ∃ B, W2.heap.size = B := ⟨_, rfl⟩
    have hqB : q < B := by rw [← hB]; exact HW2.out.1.lt
    have HH := Lib.hid (And.intro hq hB)
    clear hq hB
    go_loopw [4, 24] (fun v i wr => ∃ (k : Nat) (K : List UInt8), k ≤ n ∧ i = .int .i64 k ∧ Hid (wr.ownsRow B 33 7 v k (rowsC ((L.take k).map (withKey cl)))) ∧ Hid (Cb wr q (callC (withKey cl K))) ∧ Hid (Below w.heap.size w wr) ∧ B ≤ wr.heap.size) (fun _ i _ => n - (intOf i).toNat)
    case atStart => exact ⟨0, cl.key, by omega, rfl, World.ownsRow_nil _ _ _ _, HW2.out.1, HW2.out.2, by rw [HH.out.2]; exact Nat.le_refl _⟩
    case round =>
      obtain ⟨k, K, hk, rfl, hown, hcb, hnx, hsz⟩ := hrel
      by_cases hlt : k < n
      · obtain ⟨x, hx⟩ : ∃ x, L[k]? = some x := ⟨_, List.getElem?_eq_getElem (by have := HN.out; omega)⟩
        obtain ⟨g, rfl, hg, hcx⟩ := HRD.out k x hx
        have c0 := (hnx.out.cell (p := ⟨g, k, none⟩) hg).trans hcx
        have c1 := hcb.out.at_ 1 _ rfl
        have z1 := hcb.out.fz 1 (by show 1 < 7; decide)
        have ks : Keeps (fun j => j = q) wr (wr.setCell ⟨q, 1, none⟩ (.string ⟨x.toArray⟩)) := Keeps.setCell (S := fun j => j = q) (Keeps.refl _ _) (p := ⟨q, 1, none⟩) (.inl rfl) _
        have hcb3 : Cb (wr.setCell ⟨q, 1, none⟩ (.string ⟨x.toArray⟩)) q (callC (withKey cl x)) := hcb.out.set 1 (.string ⟨x.toArray⟩) (by show 1 < 7; decide) rfl
        have hown3 := Keeps.ownsRow hown.out ks (fun g e n => by have := (hown.out.lt g e).1; omega)
        have hb3 : Below w.heap.size w (wr.setCell ⟨q, 1, none⟩ (.string ⟨x.toArray⟩)) := hnx.out.setCell (by show w.heap.size ≤ q; have := HH.out.1; omega) _
        have hsz3 : B ≤ (wr.setCell ⟨q, 1, none⟩ (.string ⟨x.toArray⟩)).heap.size := by simpa [World.setCell] using hsz
        have H3 := Lib.hid (And.intro hown3 (And.intro hcb3 (And.intro hb3 (And.intro hsz3 (map_take_snoc (withKey cl) hx)))))
        clear hcx ks hcb3 hown3 hb3 hsz3 hown hcb hnx hsz hx
        go_upto_region 14 with (fail)
        clear c0 c1 z1
        generalize wr.setCell ⟨q, 1, none⟩ (.string ⟨x.toArray⟩) = W3 at *
        obtain ⟨hown3, hcb3, hb3, hsz3, hsnoc⟩ := H3.out
        have f0 := hcb3.at_ 0 _ rfl; have f1 := hcb3.at_ 1 _ rfl; have f2 := hcb3.at_ 2 _ rfl; have f3 := hcb3.at_ 3 _ rfl; have f4 := hcb3.at_ 4 _ rfl; have f5 := hcb3.at_ 5 _ rfl; have f6 := hcb3.at_ 6 _ rfl
        have hrow := hown3
        clear hown3 hcb3 hb3 hsnoc
        go_wp2_with (at_builtin; refine wpList_append_own_at _ rfl (.tmp 30) (.tmp 32) 28 rfl B 33 i0 _ 7 72 Try.underlying28 hi hz0 hz1 hz2 rfl (by decide) _ _ _ rfl (hrow.alloc _) ⟨W3.heap.size, 0, none⟩ 1 1 (callC (withKey cl x)) rfl rfl ?c1 ?c2 ?c3 ?c4 ?c5 ?_)
        case c1 => intro j u hj; rw [Addr.add_lit, Nat.zero_add]; exact cl_new_at (c := withKey cl x) rfl j u hj
        case c2 => intro u hu; exact rowsC_one [withKey cl x] u (by show u ∈ callC (withKey cl x) ++ []; rw [List.append_nil]; exact hu)
        case c3 => unfold maxLen; omega
        case c4 => omega
        case c5 => simp; omega
        intro v' W5 hown' hgrow _ _
        obtain ⟨a', n', c', rfl⟩ := own_slice hown'
        have hk5 : Keeps (fun j => u4.ownBlock = some j) W3 W5 := ((Keeps.refl _ W3).alloc _).grown hgrow (fun k e => .inl e)
        have hcb5 := H3.out.2.1.keep hk5 (fun e => by have := (H3.out.1.lt q e).1; omega)
        have hb5 : Below w.heap.size w W5 := (H3.out.2.2.1.alloc H3.out.2.2.1.size _).grown hgrow (by have := H3.out.2.2.1.size; simp; omega) (fun j e => by have := (H3.out.1.lt j e).1; have := HH.out.1; omega)
        have hr5 : W5.ownsRow B 33 7 (.slice a' n' c') (k + 1) (rowsC ((L.take (k + 1)).map (withKey cl))) := by
          rw [H3.out.2.2.2.2, rowsC_app]
          show W5.ownsRow B 33 7 (.slice a' n' c') (k + 1) (rowsC ((L.take k).map (withKey cl)) ++ (callC (withKey cl x) ++ []))
          rw [List.append_nil, List.map_take]
          exact hown'
        have H5 := Lib.hid (And.intro hr5 (And.intro hcb5 (And.intro hb5 (Nat.le_trans hsz3 hk5.size))))
        clear hr5 hcb5 hb5 hk5 hgrow hown' hrow f0 f1 f2 f3 f4 f5 f6 H3
        go_wp2_with fail
        go_roundw
        case rel => exact ⟨k + 1, x, by omega, by go_num, H5.out.1, H5.out.2.1, H5.out.2.2.1, H5.out.2.2.2⟩
        case measure => simp [intOf]; omega
      · have hkn : k = n := by omega
        subst hkn
        have HE := Lib.hid (show L.take k = L by rw [HN.out, List.take_length])
        go_wp2_with fail
        go_ret
        refine ⟨_, rfl, ?_, hnx.out⟩
        have := hown.out
        rw [HE.out] at this
        exact ClR.of_row this (by rw [List.length_map, HN.out])
theorem callsw (e : Ev) (kv : Value) (w : World) (hk : KyR w kv e.cmd.keys) (hn : e.cmd.keys.length ≤ 65536) : Calls Try.prog 27 #[.agg (evC e kv).toArray] w (IsCls w (callsE e)) := by
  by_cases h : e.cmd.verb = 0 ∨ e.cmd.verb = 12 ∨ e.cmd.verb = 13
  · exact calls_none e kv w h
  by_cases h2 : e.cmd.verb = 1 ∨ e.cmd.verb = 2
  · exact calls_get e kv w hk hn h2
  · exact calls_one e kv w h h2
end Go.Proofs.Yteoeelhljimibaa
