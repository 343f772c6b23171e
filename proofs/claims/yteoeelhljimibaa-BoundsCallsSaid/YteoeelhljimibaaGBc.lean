/- Bounds: the calls of an event. -/
import Derived.Test.YteoeelhljimibaaGBo
import Derived.Test.YteoeelhljimibaaGFy
import Derived.Test.YteoeelhljimibaaGFm
namespace Go.Proofs.Yteoeelhljimibaa
open Go.RowKit Go.Maps
set_option linter.unusedVariables false

def callOf (e : Ev) : Cl := ⟨e.cmd.cverb, e.cmd.key, e.cmd.value, e.cmd.flags, e.cmd.exp, e.cmd.id, e.cmd.by_⟩
def withKey (c : Cl) (k : List UInt8) : Cl := { c with key := k }
def callsE (e : Ev) : List Cl :=
  if e.cmd.verb = 0 ∨ e.cmd.verb = 12 ∨ e.cmd.verb = 13 then []
  else if e.cmd.verb = 1 ∨ e.cmd.verb = 2 then e.cmd.keys.map (withKey (callOf e))
  else [{ callOf e with value := e.data }]
/-- A list of calls of the call's own. -/
def IsCls (w : World) (L : List Cl) (e : Ending) (w' : World) : Prop := ∃ v, e = .returned v ∧ ClR w' v L ∧ Below w.heap.size w w'
theorem ClR.nil (w : World) : ClR w (.slice none 0 0) [] := ⟨none, 0, rfl, by simp, by simp [maxLen], fun _ => rfl, fun h => by simp at h⟩
theorem ClR.of_row {w : World} {B n : Nat} {T : TypeId} {v : Value} {L : List Cl} (h : w.ownsRow B T 7 v n (rowsC L)) (hn : n = L.length) : ClR w v L := by
  subst hn
  rcases h.2 with ⟨rfl, h0⟩ | ⟨g, cap, cur, rfl, hB, hg, h1, h2, _⟩
  · exact ⟨none, 0, by rw [h0], by omega, by simp [maxLen], fun _ => rfl, fun h => by omega⟩
  · refine ⟨_, cap, rfl, h1, h2, fun e => by simp at e, fun h0 => ⟨g, rfl, ?_, fun j u hu => ?_⟩⟩
    · rcases Nat.lt_or_ge g w.heap.size with h' | h'
      · exact h'
      · rw [Array.getElem?_eq_none h'] at hg; simp at hg
    · have := h.cells (g := g) rfl j u hu
      rwa [Addr.add_lit, Nat.zero_add] at this
theorem ClR.one {W : World} {g : Nat} {C : Array Value} {T : TypeId} {c : Cl} (hg : g = W.heap.size) (hC : C.toList = callC c) : ClR (W.alloc (.cells C T)) (.slice (some ⟨g, 0, none⟩) 1 1) [c] := by
  subst hg
  refine ⟨_, 1, rfl, by simp, by simp [maxLen], fun e => by simp at e, fun _ => ⟨W.heap.size, rfl, by simp, fun j u hu => ?_⟩⟩
  have e : rowsC [c] = callC c := by show callC c ++ [] = _; rw [List.append_nil]
  rw [e, ← hC, Array.getElem?_toList] at hu
  simpa using hu
theorem info_call : (Try.prog.info? 33).map (fun i => (i.zero, i.size, i.bytes)) = some (some (.agg #[.int .u8 0, .string ⟨#[]⟩, .string ⟨#[]⟩, .int .u32 0, .int .i64 0, .int .u64 0, .int .u64 0]), 7, 72) := by kernel_rfl
/-- The block of the call that is told of: its key may be any. -/
theorem cl_new {W : World} {g : Nat} {C : Array Value} {T : TypeId} {c : Cl} (hg : g = W.heap.size) (hC : callC c = C.toList) : Cb (W.alloc (.cells C T)) g (callC c) := by
  subst hg
  exact cb_new hC
theorem cl_new_at {W : World} {C : Array Value} {T : TypeId} {c : Cl} (hC : C.toList = callC c) : ∀ j u, (callC c)[j]? = some u → (W.alloc (.cells C T)).cell? ⟨W.heap.size, j, none⟩ = some u := by
  intro j u hu
  rw [← hC, Array.getElem?_toList] at hu
  simpa using hu
theorem callsE_none {e : Ev} (h : e.cmd.verb = 0 ∨ e.cmd.verb = 12 ∨ e.cmd.verb = 13) : callsE e = [] := by unfold callsE; rw [if_pos h]
theorem callsE_get {e : Ev} (h : e.cmd.verb = 1 ∨ e.cmd.verb = 2) : callsE e = e.cmd.keys.map (withKey (callOf e)) := by unfold callsE; rw [if_neg (by omega), if_pos h]
theorem callsE_one {e : Ev} (h : ¬ (e.cmd.verb = 0 ∨ e.cmd.verb = 12 ∨ e.cmd.verb = 13)) (h2 : ¬ (e.cmd.verb = 1 ∨ e.cmd.verb = 2)) : callsE e = [{ callOf e with value := e.data }] := by unfold callsE; rw [if_neg h, if_neg h2]
set_option maxHeartbeats 4000000 in
set_option maxRecDepth 100000 in
theorem calls_none (e : Ev) (kv : Value) (w : World) (hv : e.cmd.verb = 0 ∨ e.cmd.verb = 12 ∨ e.cmd.verb = 13) : Calls Try.prog 27 #[.agg (evC e kv).toArray] w (IsCls w (callsE e)) := by
  rw [callsE_none hv]
  obtain ⟨⟨vb, ks, cv, ky, vl, fl, ex, id, by_, bt, qt⟩, dt, td⟩ := e
  simp only at hv
  simp only [evC, cmdC, List.cons_append, List.nil_append]
  rcases hv with rfl | rfl | rfl
  all_goals
    go_enter Try.func27, Try.ntmps27
    go_wp2_with fail
    go_ret
    exact ⟨_, rfl, ClR.nil _, ((Below.refl _ _).alloc (Nat.le_refl _) _).alloc (by simp) _⟩
set_option maxHeartbeats 4000000 in
set_option maxRecDepth 100000 in
theorem calls_one (e : Ev) (kv : Value) (w : World) (hv : ¬ (e.cmd.verb = 0 ∨ e.cmd.verb = 12 ∨ e.cmd.verb = 13)) (hv2 : ¬ (e.cmd.verb = 1 ∨ e.cmd.verb = 2)) : Calls Try.prog 27 #[.agg (evC e kv).toArray] w (IsCls w (callsE e)) := by
  rw [callsE_one hv hv2]
  obtain ⟨⟨vb, ks, cv, ky, vl, fl, ex, id, by_, bt, qt⟩, dt, td⟩ := e
  simp only at hv hv2
  simp only [evC, cmdC, List.cons_append, List.nil_append, callOf]
  have d0 : ((vb : Int) == 0) = false := beq_eq_false_iff_ne.mpr (by omega)
  have d1 : ((vb : Int) == 1) = false := beq_eq_false_iff_ne.mpr (by omega)
  have d2 : ((vb : Int) == 2) = false := beq_eq_false_iff_ne.mpr (by omega)
  have d12 : ((vb : Int) == 12) = false := beq_eq_false_iff_ne.mpr (by omega)
  have d13 : ((vb : Int) == 13) = false := beq_eq_false_iff_ne.mpr (by omega)
  clear hv hv2
  go_enter Try.func27, Try.ntmps27
  go_wp2_with fail
  go_ret
  exact ⟨_, rfl, ClR.one (by simp) rfl, (((Below.refl _ _).alloc (Nat.le_refl _) _).alloc (by simp) _).alloc (by simp; omega) _⟩
theorem map_take_snoc {α β : Type} (f : α → β) {l : List α} {k : Nat} {x : α} (h : l[k]? = some x) : (l.take (k + 1)).map f = (l.take k).map f ++ [f x] := by
  rw [List.take_add_one, h]
  simp
set_option maxHeartbeats 4000000 in
set_option maxRecDepth 100000 in
theorem calls_get (e : Ev) (kv : Value) (w : World) (hk : KyR w kv e.cmd.keys) (hn : e.cmd.keys.length ≤ 65536) (hv : e.cmd.verb = 1 ∨ e.cmd.verb = 2) : Calls Try.prog 27 #[.agg (evC e kv).toArray] w (IsCls w (callsE e)) := by
  obtain ⟨i0, hi, hz0, hz1, hz2⟩ := info_parts info_call
  rw [callsE_get hv]
  obtain ⟨A, c, rfl, hlc, hcm, hrd⟩ := hk.form
  unfold maxLen at hcm
  obtain ⟨cl, hcl⟩ : ∃ cl, cl = callOf e := ⟨_, rfl⟩
  rw [← hcl]
  have HCL := Lib.hid hcl
  obtain ⟨n, hnn⟩ : ∃ n, n = e.cmd.keys.length := ⟨_, rfl⟩
  rw [← hnn] at hn hlc ⊢
  have HN := Lib.hid hnn
  have HRD := Lib.hid hrd
  obtain ⟨L, hL⟩ : ∃ L, L = e.cmd.keys := ⟨_, rfl⟩
  rw [← hL] at HRD HN ⊢
  clear hrd hnn hk
  obtain ⟨⟨vb, ks, cv, ky, vl, fl, ex, id, by_, bt, qt⟩, dt, td⟩ := e
  simp only at hv hL
  simp only [callOf] at HCL
  clear hcl hL
  simp only [evC, cmdC, List.cons_append, List.nil_append]
  rcases hv with rfl | rfl
  · rw [show ((1 : Nat) : Int) = (1 : Int) from rfl]
    go_enter Try.func27, Try.ntmps27
    go_wp2_with fail
    have hcb : Cb (((w.alloc (.cells #[.int .u8 1, .slice A n c, .int .u8 cv, .string ⟨ky.toArray⟩, .string ⟨vl.toArray⟩, .int .u32 fl, .int .i64 ex, .int .u64 id, .int .u64 by_, .int .i64 bt, .bool qt, .string ⟨dt.toArray⟩, .int .u8 td] 64))).alloc (.cells #[.int .u8 cv, .string ⟨ky.toArray⟩, .string ⟨vl.toArray⟩, .int .u32 fl, .int .i64 ex, .int .u64 id, .int .u64 by_] 33)) (w.heap.size + 1) (callC cl) := cl_new (by simp) (by rw [HCL.out]; rfl)
    have hbl : Below w.heap.size w (((w.alloc (.cells #[.int .u8 1, .slice A n c, .int .u8 cv, .string ⟨ky.toArray⟩, .string ⟨vl.toArray⟩, .int .u32 fl, .int .i64 ex, .int .u64 id, .int .u64 by_, .int .i64 bt, .bool qt, .string ⟨dt.toArray⟩, .int .u8 td] 64))).alloc (.cells #[.int .u8 cv, .string ⟨ky.toArray⟩, .string ⟨vl.toArray⟩, .int .u32 fl, .int .i64 ex, .int .u64 id, .int .u64 by_] 33)) := ((Below.refl _ _).alloc (Nat.le_refl _) _).alloc (by simp) _
    generalize ((w.alloc (.cells #[.int .u8 1, .slice A n c, .int .u8 cv, .string ⟨ky.toArray⟩, .string ⟨vl.toArray⟩, .int .u32 fl, .int .i64 ex, .int .u64 id, .int .u64 by_, .int .i64 bt, .bool qt, .string ⟨dt.toArray⟩, .int .u8 td] 64))).alloc (.cells #[.int .u8 cv, .string ⟨ky.toArray⟩, .string ⟨vl.toArray⟩, .int .u32 fl, .int .i64 ex, .int .u64 id, .int .u64 by_] 33) = W2 at *
    have HW2 := Lib.hid (And.intro hcb hbl)
    clear hcb hbl
    obtain ⟨q, hq⟩ : ∃ q, w.heap.size + 1 = q := ⟨_, rfl⟩
    rw [hq] at HW2 ⊢
    obtain ⟨B, hB⟩ : ∃ B, W2.heap.size = B := ⟨_, rfl⟩
    have hqB : q < B := by rw [← hB]; exact HW2.out.1.lt
    have HH := Lib.hid (And.intro hq hB)
    clear hq hB
    go_loopw [4, 24] (fun v i wr => ∃ (k : Nat) (K : List UInt8), k ≤ n ∧ i = .int .i64 k ∧ Hid (wr.ownsRow B 33 7 v k (rowsC ((L.take k).map (withKey cl)))) ∧ Hid (Cb wr q (callC (withKey cl K))) ∧ Hid (Below w.heap.size w wr) ∧ B ≤ wr.heap.size) (fun _ i _ => n - (intOf i).toNat)
    case atStart => exact ⟨0, cl.key, by omega, rfl, World.ownsRow_nil _ _ _ _, HW2.out.1, HW2.out.2, by rw [HH.out.2]; exact Nat.le_refl _⟩
    case round =>
      obtain ⟨k, K, hk, rfl, hown, hcb, hnx, hsz⟩ := hrel
      by_cases hlt : k < n
      · obtain ⟨x, hx⟩ : ∃ x, L[k]? = some x := ⟨_, List.getElem?_eq_getElem (by have := HN.out; omega)⟩
        obtain ⟨g, rfl, hg, hcx⟩ := HRD.out k x hx
        have c0 := (hnx.out.cell (p := ⟨g, k, none⟩) hg).trans hcx
        have c1 := hcb.out.at_ 1 _ rfl
        have z1 := hcb.out.fz 1 (by show 1 < 7; decide)
        have ks : Keeps (fun j => j = q) wr (wr.setCell ⟨q, 1, none⟩ (.string ⟨x.toArray⟩)) := Keeps.setCell (S := fun j => j = q) (Keeps.refl _ _) (p := ⟨q, 1, none⟩) (.inl rfl) _
        have hcb3 : Cb (wr.setCell ⟨q, 1, none⟩ (.string ⟨x.toArray⟩)) q (callC (withKey cl x)) := hcb.out.set 1 (.string ⟨x.toArray⟩) (by show 1 < 7; decide) rfl
        have hown3 := Keeps.ownsRow hown.out ks (fun g e n => by have := (hown.out.lt g e).1; omega)
        have hb3 : Below w.heap.size w (wr.setCell ⟨q, 1, none⟩ (.string ⟨x.toArray⟩)) := hnx.out.setCell (by show w.heap.size ≤ q; have := HH.out.1; omega) _
        have hsz3 : B ≤ (wr.setCell ⟨q, 1, none⟩ (.string ⟨x.toArray⟩)).heap.size := by simpa [World.setCell] using hsz
        have H3 := Lib.hid (And.intro hown3 (And.intro hcb3 (And.intro hb3 (And.intro hsz3 (map_take_snoc (withKey cl) hx)))))
        clear hcx ks hcb3 hown3 hb3 hsz3 hown hcb hnx hsz hx
        go_upto_region 14 with (fail)
        clear c0 c1 z1
        generalize wr.setCell ⟨q, 1, none⟩ (.string ⟨x.toArray⟩) = W3 at *
        obtain ⟨hown3, hcb3, hb3, hsz3, hsnoc⟩ := H3.out
        have f0 := hcb3.at_ 0 _ rfl; have f1 := hcb3.at_ 1 _ rfl; have f2 := hcb3.at_ 2 _ rfl; have f3 := hcb3.at_ 3 _ rfl; have f4 := hcb3.at_ 4 _ rfl; have f5 := hcb3.at_ 5 _ rfl; have f6 := hcb3.at_ 6 _ rfl
        have hrow := hown3
        clear hown3 hcb3 hb3 hsnoc
        go_wp2_with (at_builtin; refine wpList_append_own_at _ rfl (.tmp 30) (.tmp 32) 28 rfl B 33 i0 _ 7 72 Try.underlying28 hi hz0 hz1 hz2 rfl (by decide) _ _ _ rfl (hrow.alloc _) ⟨W3.heap.size, 0, none⟩ 1 1 (callC (withKey cl x)) rfl rfl ?c1 ?c2 ?c3 ?c4 ?c5 ?_)
        case c1 => intro j u hj; rw [Addr.add_lit, Nat.zero_add]; exact cl_new_at (c := withKey cl x) rfl j u hj
        case c2 => intro u hu; exact rowsC_one [withKey cl x] u (by show u ∈ callC (withKey cl x) ++ []; rw [List.append_nil]; exact hu)
        case c3 => unfold maxLen; omega
        case c4 => omega
        case c5 => simp; omega
        intro v' W5 hown' hgrow _ _
        obtain ⟨a', n', c', rfl⟩ := own_slice hown'
        have hk5 : Keeps (fun j => u4.ownBlock = some j) W3 W5 := ((Keeps.refl _ W3).alloc _).grown hgrow (fun k e => .inl e)
        have hcb5 := H3.out.2.1.keep hk5 (fun e => by have := (H3.out.1.lt q e).1; omega)
        have hb5 : Below w.heap.size w W5 := (H3.out.2.2.1.alloc H3.out.2.2.1.size _).grown hgrow (by have := H3.out.2.2.1.size; simp; omega) (fun j e => by have := (H3.out.1.lt j e).1; have := HH.out.1; omega)
        have hr5 : W5.ownsRow B 33 7 (.slice a' n' c') (k + 1) (rowsC ((L.take (k + 1)).map (withKey cl))) := by
          rw [H3.out.2.2.2.2, rowsC_app]
          show W5.ownsRow B 33 7 (.slice a' n' c') (k + 1) (rowsC ((L.take k).map (withKey cl)) ++ (callC (withKey cl x) ++ []))
          rw [List.append_nil, List.map_take]
          exact hown'
        have H5 := Lib.hid (And.intro hr5 (And.intro hcb5 (And.intro hb5 (Nat.le_trans hsz3 hk5.size))))
        clear hr5 hcb5 hb5 hk5 hgrow hown' hrow f0 f1 f2 f3 f4 f5 f6 H3
        go_wp2_with fail
        go_roundw
        case rel => exact ⟨k + 1, x, by omega, by go_num, H5.out.1, H5.out.2.1, H5.out.2.2.1, H5.out.2.2.2⟩
        case measure => simp [intOf]; omega
      · have hkn : k = n := by omega
        subst hkn
        have HE := Lib.hid (show L.take k = L by rw [HN.out, List.take_length])
        go_wp2_with fail
        go_ret
        refine ⟨_, rfl, ?_, hnx.out⟩
        have := hown.out
        rw [HE.out] at this
        exact ClR.of_row this (by rw [List.length_map, HN.out])
  · rw [show ((2 : Nat) : Int) = (2 : Int) from rfl]
    go_enter Try.func27, Try.ntmps27
    go_wp2_with fail
    have hcb : Cb (((w.alloc (.cells #[.int .u8 2, .slice A n c, .int .u8 cv, .string ⟨ky.toArray⟩, .string ⟨vl.toArray⟩, .int .u32 fl, .int .i64 ex, .int .u64 id, .int .u64 by_, .int .i64 bt, .bool qt, .string ⟨dt.toArray⟩, .int .u8 td] 64))).alloc (.cells #[.int .u8 cv, .string ⟨ky.toArray⟩, .string ⟨vl.toArray⟩, .int .u32 fl, .int .i64 ex, .int .u64 id, .int .u64 by_] 33)) (w.heap.size + 1) (callC cl) := cl_new (by simp) (by rw [HCL.out]; rfl)
    have hbl : Below w.heap.size w (((w.alloc (.cells #[.int .u8 2, .slice A n c, .int .u8 cv, .string ⟨ky.toArray⟩, .string ⟨vl.toArray⟩, .int .u32 fl, .int .i64 ex, .int .u64 id, .int .u64 by_, .int .i64 bt, .bool qt, .string ⟨dt.toArray⟩, .int .u8 td] 64))).alloc (.cells #[.int .u8 cv, .string ⟨ky.toArray⟩, .string ⟨vl.toArray⟩, .int .u32 fl, .int .i64 ex, .int .u64 id, .int .u64 by_] 33)) := ((Below.refl _ _).alloc (Nat.le_refl _) _).alloc (by simp) _
    generalize ((w.alloc (.cells #[.int .u8 2, .slice A n c, .int .u8 cv, .string ⟨ky.toArray⟩, .string ⟨vl.toArray⟩, .int .u32 fl, .int .i64 ex, .int .u64 id, .int .u64 by_, .int .i64 bt, .bool qt, .string ⟨dt.toArray⟩, .int .u8 td] 64))).alloc (.cells #[.int .u8 cv, .string ⟨ky.toArray⟩, .string ⟨vl.toArray⟩, .int .u32 fl, .int .i64 ex, .int .u64 id, .int .u64 by_] 33) = W2 at *
    have HW2 := Lib.hid (And.intro hcb hbl)
    clear hcb hbl
    obtain ⟨q, hq⟩ : ∃ q, w.heap.size + 1 = q := ⟨_, rfl⟩
    rw [hq] at HW2 ⊢
    obtain ⟨B, hB⟩ : ∃ B, W2.heap.size = B := ⟨_, rfl⟩
    have hqB : q < B := by rw [← hB]; exact HW2.out.1.lt
    have HH := Lib.hid (And.intro hq hB)
    clear hq hB
    go_loopw [4, 24] (fun v i wr => ∃ (k : Nat) (K : List UInt8), k ≤ n ∧ i = .int .i64 k ∧ Hid (wr.ownsRow B 33 7 v k (rowsC ((L.take k).map (withKey cl)))) ∧ Hid (Cb wr q (callC (withKey cl K))) ∧ Hid (Below w.heap.size w wr) ∧ B ≤ wr.heap.size) (fun _ i _ => n - (intOf i).toNat)
    case atStart => exact ⟨0, cl.key, by omega, rfl, World.ownsRow_nil _ _ _ _, HW2.out.1, HW2.out.2, by rw [HH.out.2]; exact Nat.le_refl _⟩
    case round =>
      obtain ⟨k, K, hk, rfl, hown, hcb, hnx, hsz⟩ := hrel
      by_cases hlt : k < n
      · obtain ⟨x, hx⟩ : ∃ x, L[k]? = some x := ⟨_, List.getElem?_eq_getElem (by have := HN.out; omega)⟩
        obtain ⟨g, rfl, hg, hcx⟩ := HRD.out k x hx
        have c0 := (hnx.out.cell (p := ⟨g, k, none⟩) hg).trans hcx
        have c1 := hcb.out.at_ 1 _ rfl
        have z1 := hcb.out.fz 1 (by show 1 < 7; decide)
        have ks : Keeps (fun j => j = q) wr (wr.setCell ⟨q, 1, none⟩ (.string ⟨x.toArray⟩)) := Keeps.setCell (S := fun j => j = q) (Keeps.refl _ _) (p := ⟨q, 1, none⟩) (.inl rfl) _
        have hcb3 : Cb (wr.setCell ⟨q, 1, none⟩ (.string ⟨x.toArray⟩)) q (callC (withKey cl x)) := hcb.out.set 1 (.string ⟨x.toArray⟩) (by show 1 < 7; decide) rfl
        have hown3 := Keeps.ownsRow hown.out ks (fun g e n => by have := (hown.out.lt g e).1; omega)
        have hb3 : Below w.heap.size w (wr.setCell ⟨q, 1, none⟩ (.string ⟨x.toArray⟩)) := hnx.out.setCell (by show w.heap.size ≤ q; have := HH.out.1; omega) _
        have hsz3 : B ≤ (wr.setCell ⟨q, 1, none⟩ (.string ⟨x.toArray⟩)).heap.size := by simpa [World.setCell] using hsz
        have H3 := Lib.hid (And.intro hown3 (And.intro hcb3 (And.intro hb3 (And.intro hsz3 (map_take_snoc (withKey cl) hx)))))
        clear hcx ks hcb3 hown3 hb3 hsz3 hown hcb hnx hsz hx
        go_upto_region 14 with (fail)
        clear c0 c1 z1
        generalize wr.setCell ⟨q, 1, none⟩ (.string ⟨x.toArray⟩) = W3 at *
        obtain ⟨hown3, hcb3, hb3, hsz3, hsnoc⟩ := H3.out
        have f0 := hcb3.at_ 0 _ rfl; have f1 := hcb3.at_ 1 _ rfl; have f2 := hcb3.at_ 2 _ rfl; have f3 := hcb3.at_ 3 _ rfl; have f4 := hcb3.at_ 4 _ rfl; have f5 := hcb3.at_ 5 _ rfl; have f6 := hcb3.at_ 6 _ rfl
        have hrow := hown3
        clear hown3 hcb3 hb3 hsnoc
        go_wp2_with (at_builtin; refine wpList_append_own_at _ rfl (.tmp 30) (.tmp 32) 28 rfl B 33 i0 _ 7 72 Try.underlying28 hi hz0 hz1 hz2 rfl (by decide) _ _ _ rfl (hrow.alloc _) ⟨W3.heap.size, 0, none⟩ 1 1 (callC (withKey cl x)) rfl rfl ?c1 ?c2 ?c3 ?c4 ?c5 ?_)
        case c1 => intro j u hj; rw [Addr.add_lit, Nat.zero_add]; exact cl_new_at (c := withKey cl x) rfl j u hj
        case c2 => intro u hu; exact rowsC_one [withKey cl x] u (by show u ∈ callC (withKey cl x) ++ []; rw [List.append_nil]; exact hu)
        case c3 => unfold maxLen; omega
        case c4 => omega
        case c5 => simp; omega
        intro v' W5 hown' hgrow _ _
        obtain ⟨a', n', c', rfl⟩ := own_slice hown'
        have hk5 : Keeps (fun j => u4.ownBlock = some j) W3 W5 := ((Keeps.refl _ W3).alloc _).grown hgrow (fun k e => .inl e)
        have hcb5 := H3.out.2.1.keep hk5 (fun e => by have := (H3.out.1.lt q e).1; omega)
        have hb5 : Below w.heap.size w W5 := (H3.out.2.2.1.alloc H3.out.2.2.1.size _).grown hgrow (by have := H3.out.2.2.1.size; simp; omega) (fun j e => by have := (H3.out.1.lt j e).1; have := HH.out.1; omega)
        have hr5 : W5.ownsRow B 33 7 (.slice a' n' c') (k + 1) (rowsC ((L.take (k + 1)).map (withKey cl))) := by
          rw [H3.out.2.2.2.2, rowsC_app]
          show W5.ownsRow B 33 7 (.slice a' n' c') (k + 1) (rowsC ((L.take k).map (withKey cl)) ++ (callC (withKey cl x) ++ []))
          rw [List.append_nil, List.map_take]
          exact hown'
        have H5 := Lib.hid (And.intro hr5 (And.intro hcb5 (And.intro hb5 (Nat.le_trans hsz3 hk5.size))))
        clear hr5 hcb5 hb5 hk5 hgrow hown' hrow f0 f1 f2 f3 f4 f5 f6 H3
        go_wp2_with fail
        go_roundw
        case rel => exact ⟨k + 1, x, by omega, by go_num, H5.out.1, H5.out.2.1, H5.out.2.2.1, H5.out.2.2.2⟩
        case measure => simp [intOf]; omega
      · have hkn : k = n := by omega
        subst hkn
        have HE := Lib.hid (show L.take k = L by rw [HN.out, List.take_length])
        go_wp2_with fail
        go_ret
        refine ⟨_, rfl, ?_, hnx.out⟩
        have := hown.out
        rw [HE.out] at this
        exact ClR.of_row this (by rw [List.length_map, HN.out])
theorem callsw (e : Ev) (kv : Value) (w : World) (hk : KyR w kv e.cmd.keys) (hn : e.cmd.keys.length ≤ 65536) : Calls Try.prog 27 #[.agg (evC e kv).toArray] w (IsCls w (callsE e)) := by
  by_cases h : e.cmd.verb = 0 ∨ e.cmd.verb = 12 ∨ e.cmd.verb = 13
  · exact calls_none e kv w h
  by_cases h2 : e.cmd.verb = 1 ∨ e.cmd.verb = 2
  · exact calls_get e kv w hk hn h2
  · exact calls_one e kv w h h2
end Go.Proofs.Yteoeelhljimibaa
/- Next: Bounds: the calls of bytes. -/
namespace Go.Proofs.Yteoeelhljimibaa
open Go.RowKit Go.Maps
set_option linter.unusedVariables false

def callsO (e : Ev) : List Cl := if e.told = 0 then callsE e else []
def callsL (es : List Ev) : List Cl := es.flatMap callsO
theorem callsL_take {es : List Ev} {k : Nat} {e : Ev} (h : es[k]? = some e) : callsL (es.take (k + 1)) = callsL (es.take k) ++ callsO e := by
  rw [List.take_add_one, h]
  simp [callsL]
theorem callsL_app (a b : List Ev) : callsL (a ++ b) = callsL a ++ callsL b := by simp [callsL]
theorem endLine_keys {p : Cmd × Nat} (h : p.1.keys.length ≤ 64) : ∀ e, (endLine p).2 = some e → e.cmd.keys.length ≤ 64 := by
  intro e he
  unfold endLine at he
  repeat' split at he
  all_goals first
    | (injection he with he; subst he; first | exact h | simp [Ev.fault, Cmd.none])
    | simp at he
theorem step_keys {s : Fst} {b : UInt8} (hs : FOk s) : ∀ e, (stepF s b).2 = some e → e.cmd.keys.length ≤ 64 := by
  intro e he
  unfold stepF at he
  split at he
  · unfold takeLineF at he
    split at he
    · exact endLine_keys (parseC_ok _).keys e he
    split at he
    · injection he with he; subst he; simp [Ev.fault, Cmd.none]
    · simp at he
  split at he
  · unfold takeDataF at he
    repeat' split at he
    all_goals first
      | (injection he with he; subst he; first | exact hs.verb | simp [Ev.fault, Cmd.none])
      | simp at he
  split at he
  · split at he <;> simp at he
  split at he <;> simp at he
theorem feed_keys : ∀ (l : List UInt8) (s : Fst), FOk s → ∀ e ∈ (feedF s l).2, e.cmd.keys.length ≤ 64
  | [], s, hs, e, he => by simp [feedF] at he
  | b :: l, s, hs, e, he => by
    have e' : feedF s (b :: l) = ((feedF (stepF s b).1 l).1, (stepF s b).2.toList ++ (feedF (stepF s b).1 l).2) := rfl
    rw [e'] at he
    rcases List.mem_append.mp he with he | he
    · exact step_keys hs e (by simpa using he)
    · exact feed_keys l _ (hs.step b) e he
theorem callsO_len {e : Ev} (h : e.cmd.keys.length ≤ 64) : (callsO e).length ≤ 64 := by
  unfold callsO callsE
  repeat' split
  all_goals simp
  exact h
theorem callsL_len : ∀ (es : List Ev), (∀ e ∈ es, e.cmd.keys.length ≤ 64) → (callsL es).length ≤ 64 * es.length
  | [], h => by simp [callsL]
  | e :: es, h => by
    have h1 := callsO_len (h e (by simp))
    have h2 := callsL_len es fun x hx => h x (by simp [hx])
    have h3 : callsL (e :: es) = callsO e ++ callsL es := by simp [callsL]
    rw [h3, List.length_append, List.length_cons]
    omega
/-- Calls behind calls. -/
theorem wpList_append_cl {P : Program} (w : World) {ops : Array Oper} {rest : List Oper} {o : Oper} {a : Act} {Q : Exit → Act → World → Prop} (hgd : o.guard = none) (s x : Operand) (t : TypeId)
    (ho : o.op = .call { callee := .builtin .append, args := #[s, x], argTypes := #[t, t] })
    (base : Nat) (e : TypeId) (z : Value) (bytes : Nat) (ht : P.underlying t = some (.slice e)) (hinfo : (P.info? e).map (fun i => (i.zero, i.size, i.bytes)) = some (some z, 7, bytes)) (hzs : z.cells.size = 7)
    (v : Value) (n : Nat) (xs : List Value) (hs : a.eval s = v) (hown : w.ownsRow base e 7 v n xs)
    (L : List Cl) (xv : Value) (hx : a.eval x = xv) (hR : ClR w xv L) (hlen : n + L.length ≤ 1048576) (hby : bytes ≤ 65536) (hbase : base ≤ w.heap.size)
    (h : ∀ v' w', w'.ownsRow base e 7 v' (n + L.length) (xs ++ rowsC L) → w.grownBy w' v.ownBlock → wpList P ops Q rest (a.put o.dst v') w') : wpList P ops Q (o :: rest) a w := by
  obtain ⟨i0, hi, hz0, hz1, hz2⟩ := info_parts hinfo
  obtain ⟨A, c, rfl, hlc, hcm, hc0, hrd⟩ := hR.form
  cases A with
  | none =>
    have hL : L = [] := by
      cases L with
      | nil => rfl
      | cons y L => obtain ⟨g, e, _⟩ := hrd (by simp); simp at e
    subst hL
    have hc := hc0 rfl
    subst hc
    refine wpList_append_own_none hgd s x t ho base e i0 7 ht hi v _ _ hs hown hx ?_
    exact h v w (by simpa [rowsC] using hown) (World.grownBy.refl w _)
  | some ad =>
    have hcell : ∀ j u, (rowsC L)[j]? = some u → w.cell? (ad.add j) = some u := by
      intro j u hj
      have hm : 0 < L.length := by
        rcases Nat.eq_zero_or_pos L.length with h | h
        · have := List.eq_nil_of_length_eq_zero h
          subst this
          simp [rowsC] at hj
        · exact h
      obtain ⟨g, e, _, hc⟩ := hrd hm
      injection e with e
      subst e
      rw [Addr.add_lit, Nat.zero_add]
      exact hc j u hj
    refine wpList_append_own w hgd s x t ho base e i0 z 7 bytes ht hi hz0 hz1 hz2 hzs (by decide) v n xs hs hown ad L.length c (rowsC L) hx (rowsC_len L) hcell (rowsC_one L) (by unfold maxLen; omega) ?_ hbase fun v' w' h1 h2 _ => h v' w' h1 h2
    calc (n + L.length) * bytes ≤ 1048576 * 65536 := Nat.mul_le_mul hlen hby
      _ ≤ 140737488355328 := by decide
theorem clipc (a : Option Addr) (n c : Nat) (w : World) (hn : n ≤ c) (hc : c ≤ maxLen) (h0 : a = none → n = 0 ∧ c = 0) :
    Calls Try.prog 28 #[.slice a n c] w fun e w' => e = .returned (.slice a n n) ∧ w = w' := by
  unfold maxLen at hc
  cases a with
  | none =>
    obtain ⟨rfl, rfl⟩ := h0 rfl
    go_enter Try.func28, Try.ntmps28
    go_wp2
    go_ret
    exact ⟨rfl, rfl⟩
  | some a =>
    clear h0
    go_enter Try.func28, Try.ntmps28
    go_wp2
    go_ret
    exact ⟨rfl, rfl⟩
/-- What Calls leaves: a list of its own, with no room behind. -/
def CallsPost (w : World) (l : List Cl) (e : Ending) (w' : World) : Prop := ∃ a, e = .returned (.slice a l.length l.length) ∧ Lst w' w.heap.size 7 (.slice a l.length l.length) l.length (rowsC l) ∧ ClR w' (.slice a l.length l.length) l ∧ Below w.heap.size w w'
theorem ClR.of_lst {w : World} {B : Nat} {a : Option Addr} {l : List Cl} (h : Lst w B 7 (.slice a l.length l.length) l.length (rowsC l)) : ClR w (.slice a l.length l.length) l := by
  rcases h.2 with ⟨h1, h0⟩ | ⟨g, cap, he, hB, hg, h1, h2, hc⟩
  · injection h1 with e1 e2 e3
    exact ⟨a, l.length, rfl, Nat.le_refl _, by rw [h0]; simp [maxLen], fun _ => h0, fun h => by omega⟩
  · injection he with e1 e2 e3
    refine ⟨a, l.length, rfl, Nat.le_refl _, by omega, fun e => by rw [e1] at e; simp at e, fun h0 => ⟨g, e1, hg, fun j u hu => (hc j u hu).1⟩⟩
set_option maxHeartbeats 4000000 in
set_option maxRecDepth 100000 in
theorem callsB (A : Option Addr) (c : Nat) (L : List UInt8) (w : World) (hc : L.length ≤ c) (hcm : c ≤ maxLen) (hl : L.length ≤ 16000) (hrd : Rd w w.heap.size A L) :
    Calls Try.prog 20 #[.slice A L.length c] w (CallsPost w (callsL (feedF Fst.new L).2)) := by
  obtain ⟨m, hm⟩ : ∃ m, m = L.length := ⟨_, rfl⟩
  have HM := Lib.hid hm
  rw [← hm] at hc hl ⊢
  clear hm
  obtain ⟨es, hes⟩ : ∃ es, es = (feedF Fst.new L).2 := ⟨_, rfl⟩
  have hkeys : ∀ e ∈ es, e.cmd.keys.length ≤ 64 := by rw [hes]; exact feed_keys L _ FOk.new
  have hcnt : es.length ≤ m := by rw [hes, HM.out]; exact feedF_count _ _
  rw [← hes]
  have HES := Lib.hid hes
  have HKY := Lib.hid hkeys
  clear hes hkeys
  go_enter Try.func20, Try.ntmps20
  go_wp2_with fail
  refine (newFd w).mono ?_
  rintro e W0 ⟨rfl, f0, hb0⟩
  obtain ⟨q0, hq0⟩ : ∃ q, w.heap.size = q := ⟨_, rfl⟩
  have HB0 := Lib.hid (And.intro hq0 hb0)
  rw [hq0] at f0 ⊢
  have F0 := Lib.hid f0
  clear f0 hq0 hb0
  go_wp2_with fail
  have hin := inw q0 _ _ _ _ A c L W0 F0.out FOk.new (by have := HM.out; exact ⟨by omega, hcm⟩) (by have := HM.out; omega) ((hrd.below (HB0.out.2.mono (by have := HB0.out.1; omega)) (Nat.le_refl _)).mono HB0.out.2.size) (by
    intro g o e h0 u
    obtain ⟨g', o', e', hg, _⟩ := hrd h0
    rw [e] at e'
    injection e' with e'
    injection e' with e1 _
    have := HB0.out.1
    omega)
  rw [← HM.out] at hin
  refine hin.mono ?_
  clear hin
  rintro e W1 ⟨U1, hv1, kv1, v6, ps, rfl, f1, k1, g1, hp, ev⟩
  have hb01 : Below w.heap.size w W1 := by
    obtain ⟨hq, hb⟩ := HB0.out
    exact hb.trans ((k1.mono (T := fun k => w.heap.size ≤ k) (fun k _ u => by omega)).to_below (fun k _ u => u) hb.size)
  have hp' : ps.map Prod.fst = es := by rw [HES.out]; exact hp
  have hn : ps.length ≤ 16000 := by
    have : ps.length = es.length := by rw [← hp', List.length_map]
    omega
  have HR := Lib.hid (ev.rd (by omega))
  obtain ⟨a6, rfl⟩ := ev.form
  have HP := Lib.hid hp'
  have HB1 := Lib.hid hb01
  obtain ⟨N, hN⟩ : ∃ N, N = ps.length := ⟨_, rfl⟩
  rw [← hN] at hn HR ⊢
  have HN := Lib.hid hN
  obtain ⟨B, hB⟩ : ∃ B, B = W1.heap.size := ⟨_, rfl⟩
  have HBB := Lib.hid hB
  clear hp hp' ev f1 k1 g1 hb01 hN hrd F0 hB
  go_wp2_with fail
  go_loopw [3, 10] (fun v i wr => ∃ k : Nat, k ≤ N ∧ i = .int .i64 k ∧ Hid (wr.ownsRow B 33 7 v (callsL (es.take k)).length (rowsC (callsL (es.take k)))) ∧ Hid (Below B W1 wr)) (fun _ i _ => N - (intOf i).toNat)
  case atStart => exact ⟨0, by omega, rfl, World.ownsRow_nil _ _ _ _, Below.refl _ _⟩
  case round =>
    obtain ⟨k, hk, rfl, hown, hnx⟩ := hrel
    by_cases hlt : k < N
    · obtain ⟨⟨ev, kv⟩, hpk⟩ : ∃ p, ps[k]? = some p := ⟨_, List.getElem?_eq_getElem (by have := HN.out; omega)⟩
      have hek : es[k]? = some ev := by rw [← HP.out, List.getElem?_map, hpk]; rfl
      have hRw := HR.out.on (hnx.out.mono (by rw [HBB.out]; exact Nat.le_refl _))
      obtain ⟨g, rfl, hg, hcl⟩ := hRw.cells (by have := HN.out; omega)
      have hce := hcl k _ hpk
      have hky := hRw.keys _ (List.mem_of_getElem? hpk)
      have hk64 : ev.cmd.keys.length ≤ 64 := HKY.out ev (List.mem_of_getElem? hek)
      have HT := Lib.hid (callsL_take hek)
      have hcl1 := callsL_len (es.take k) (fun e he => HKY.out e (List.mem_of_mem_take he))
      have hcl2 := callsO_len hk64
      have htk : (es.take k).length ≤ 16000 := by rw [List.length_take]; omega
      obtain ⟨ka, kc, hkv, -⟩ := hky.form
      simp only at hkv
      subst hkv
      have HK := Lib.hid (And.intro hky hk64)
      have HL := Lib.hid (And.intro hcl1 (And.intro hcl2 htk))
      clear hcl hRw hek hpk hky hk64 hcl1 hcl2 htk
      obtain ⟨⟨vb, ks, cv, ky, vl, fl, ex, id, by_, bt, qt⟩, dt, td⟩ := ev
      have r0 := hce 0 _ rfl; have r1 := hce 1 _ rfl; have r2 := hce 2 _ rfl; have r3 := hce 3 _ rfl; have r4 := hce 4 _ rfl; have r5 := hce 5 _ rfl; have r6 := hce 6 _ rfl; have r7 := hce 7 _ rfl; have r8 := hce 8 _ rfl; have r9 := hce 9 _ rfl; have r10 := hce 10 _ rfl; have r11 := hce 11 _ rfl; have r12 := hce 12 _ rfl
      simp only [Nat.add_zero] at r0 r1 r2 r3 r4 r5 r6 r7 r8 r9 r10 r11 r12
      clear hce
      have hbn : Below wr.heap.size wr (wr.alloc (.cells #[.int .u8 vb, .slice ka ks.length kc, .int .u8 cv, .string ⟨ky.toArray⟩, .string ⟨vl.toArray⟩, .int .u32 fl, .int .i64 ex, .int .u64 id, .int .u64 by_, .int .i64 bt, .bool qt, .string ⟨dt.toArray⟩, .int .u8 td] 64)) := (Below.refl _ _).alloc (Nat.le_refl _) _
      have hBr : B ≤ wr.heap.size := Nat.le_trans (by rw [HBB.out]; exact Nat.le_refl _) hnx.out.size
      by_cases ht0 : td = 0
      · subst ht0
        have HX := Lib.hid (show callsO ⟨⟨vb, ks, cv, ky, vl, fl, ex, id, by_, bt, qt⟩, dt, 0⟩ = callsE ⟨⟨vb, ks, cv, ky, vl, fl, ex, id, by_, bt, qt⟩, dt, 0⟩ from rfl)
        go_wp2_with fail
        refine (callsw ⟨⟨vb, ks, cv, ky, vl, fl, ex, id, by_, bt, qt⟩, dt, 0⟩ (.slice ka ks.length kc) _ (HK.out.1.on hbn) (Nat.le_trans HK.out.2 (by decide))).mono ?_
        rintro e w2 ⟨v2, rfl, hR2, hb2⟩
        have hb3 : Below wr.heap.size wr w2 := hbn.trans (hb2.mono (by simp))
        have hown2 := Keeps.ownsRow hown.out (Keeps.of_new (S := fun _ => False) hb3) (fun _ _ s => s)
        have hb4 : Below B W1 w2 := hnx.out.trans (hb3.mono hBr)
        rw [← HX.out] at hR2
        have H2 := Lib.hid (And.intro hown2 (And.intro hb4 hR2))
        have hsz2 : B ≤ w2.heap.size := Nat.le_trans hBr hb3.size
        have hlen : (callsL (es.take k)).length + (callsO ⟨⟨vb, ks, cv, ky, vl, fl, ex, id, by_, bt, qt⟩, dt, 0⟩).length ≤ 1048576 := by have := HL.out; omega
        clear r0 r1 r2 r3 r4 r5 r6 r7 r8 r9 r10 r11 r12 hbn hb2 hb3 hown2 hb4 hR2 hown hnx HX
        go_wp2_with (at_builtin; refine wpList_append_cl w2 rfl (.tmp 17) (.tmp 19) 28 rfl B 33 _ 72 Try.underlying28 info_call rfl u3 _ _ rfl H2.out.1 _ v2 rfl H2.out.2.2 hlen (by decide) hsz2 ?_; intro v' w3 hown3 hg3; have H3 := Lib.hid (And.intro hown3 (H2.out.2.1.grown hg3 (by have := H2.out.2.1.size; have := HBB.out; omega) (fun j e => (H2.out.1.lt j e).1))); clear hown3 hg3)
        go_roundw
        case rel => exact ⟨k + 1, by omega, by go_num, by rw [HT.out, List.length_append, rowsC_app]; exact H3.out.1, H3.out.2⟩
        case measure => simp [intOf]; omega
      · have d0 : ((td : Int) == 0) = false := beq_eq_false_iff_ne.mpr (by omega)
        have HX := Lib.hid (show callsO ⟨⟨vb, ks, cv, ky, vl, fl, ex, id, by_, bt, qt⟩, dt, td⟩ = [] by unfold callsO; rw [if_neg ht0])
        have hown2 := Keeps.ownsRow hown.out (Keeps.of_new (S := fun _ => False) hbn) (fun _ _ s => s)
        have H2 := Lib.hid (And.intro hown2 (hnx.out.trans (hbn.mono hBr)))
        clear hown2 hown hnx hbn
        go_wp2_with fail
        go_roundw
        case rel => exact ⟨k + 1, by omega, by go_num, by rw [HT.out, HX.out, List.append_nil]; exact H2.out.1, H2.out.2⟩
        case measure => simp [intOf]; omega
    · have hkn : k = N := by omega
      have HE := Lib.hid (show es.take k = es by rw [hkn, HN.out, ← HP.out, ← List.length_map (f := Prod.fst), List.take_length])
      have hown' := hown.out
      rw [HE.out] at hown'
      obtain ⟨a, n', cc, rfl, hm', hcc, ha0, L'⟩ := lst_clip hown'
      have hd : decide (k < N) = false := decide_eq_false hlt
      have hn' : n' = (callsL es).length := by
        rcases hown'.2 with ⟨e1, e2⟩ | ⟨_, _, _, e1, _⟩
        · injection e1 with _ e3; omega
        · injection e1
      subst hn'
      have HLL := Lib.hid (L'.mono (B' := w.heap.size) (by rw [HBB.out]; exact HB1.out.size))
      have HNX := Lib.hid (HB1.out.trans (hnx.out.mono (by rw [HBB.out]; exact HB1.out.size)))
      have HA0 := Lib.hid ha0
      clear hown hown' hnx L' ha0
      go_wp2_with fail
      refine (clipc a _ cc _ hm' hcc HA0.out).mono ?_
      rintro e w2 ⟨rfl, rfl⟩
      go_wp2_with fail
      go_ret
      exact ⟨a, rfl, HLL.out, ClR.of_lst HLL.out, HNX.out⟩
end Go.Proofs.Yteoeelhljimibaa
