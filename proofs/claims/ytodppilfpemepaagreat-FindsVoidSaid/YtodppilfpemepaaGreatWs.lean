/- A world's notes: one more, all of them. -/
import Derived.Test.YtodppilfpemepaaGreatNlA
import Derived.Test.YtodppilfpemepaaGreatGPx
import Derived.Test.YtodppilfpemepaaGreatOb
import Derived.Deep.RegionHeld3
namespace Go.Proofs.YtodppilfpemepaaGreat
open Go.RowKit Go.Maps
set_option linter.unusedVariables false
def Wv.note (V : Wv) (x : Nv) : Wv := { V with M := addL V.M x }
section
variable {w w' : World} {A : Ad} {V : Wv} {S : Nat → Prop}
theorem WdAt.note {n : Nat} {SC SI SN SN' : Nat → Prop} (h : WdAt w A V n S SC SI SN) (x : Nv) (t : Turn SN SN' w w') (q : Nts w' A.pn (addL V.M x) SN') : WdPost w A (V.note x) S w' := by
  have hsz := t.keeps.size
  have hne : ∀ k, SN' k → SN k ∨ w.heap.size ≤ k := fun k s => (t.only k s).imp id (fun h => h.1)
  refine ⟨fun k => S k ∨ SN' k, ⟨t.keeps.mono (fun k _ s => (h.sn k s).1), fun k s => ?_⟩, n, SC, SI, SN', h.box.keep t.keeps (fun s => (h.sn _ s).2 rfl), IsCells.keep h.cel t.keeps (fun k s s' => (h.sc k s).2.2.2 s'), h.it.keep t.keeps (fun k s s' => (h.si k s).2.2 s'), q, h.cnt0, h.cntn, .inl h.here, fun k s => ⟨.inl (h.sc k s).1, (h.sc k s).2.1, (h.sc k s).2.2.1, fun s' => ?_⟩, fun k s => ⟨.inl (h.si k s).1, (h.si k s).2.1, fun s' => ?_⟩, fun k s => ⟨.inr s, ?_⟩, fun k s => ?_⟩
  · rcases s with s | s
    · exact .inl s
    · rcases t.only k s with s | s
      · exact .inl (h.sn k s).1
      · exact .inr s
  · rcases hne k s' with s' | s'
    · exact (h.sc k s).2.2.2 s'
    · have := h.lt k (h.sc k s).1; omega
  · rcases hne k s' with s' | s'
    · exact (h.si k s).2.2 s'
    · have := h.lt k (h.si k s).1; omega
  · rcases hne k s with s | s
    · exact (h.sn k s).2
    · have := h.box.lt
      omega
  · rcases s with s | s
    · have := h.lt k s; omega
    · rcases t.only k s with s | s
      · have := h.lt k (h.sn k s).1; omega
      · exact s.2
set_option maxHeartbeats 2000000 in
set_option maxRecDepth 100000 in
theorem wnote (h : Wd w A V S) (hM : V.M.length ≤ 1048576) (k r b c d v : Int) :
    Calls Tryz.prog 139 #[.pointer (some ⟨A.p, 0, none⟩), .int .u8 k, .int .i64 r, .agg #[.int .i64 b, .int .i64 c, .int .i64 d], .int .i64 v] w fun e w' => e = .returned (.tuple #[]) ∧ WdPost w A (V.note (V.cnt, V.h, k, r, b, c, d, v)) S w' := by
  obtain ⟨F, hF⟩ : ∃ F, F = w.heap.size := ⟨_, rfl⟩
  have HF := Lib.hid hF
  have HH := Lib.hid h
  have lS : ∀ j, S j → j < w.heap.size := h.lt
  have LS := Lib.hid lS
  clear h hF lS
  go_enter Tryz.func139, Tryz.ntmps139
  go_wp2_with fail
  generalize hW : World.alloc w _ = W
  have bW : Below w.heap.size w W := by rw [← hW]; exact (Below.refl _ _).alloc (Nat.le_refl _) _
  have e0 : W.drew.cell? ⟨F, 0, none⟩ = some (.int .i64 b) := by rw [← hW, HF.out]; exact at_new rfl rfl
  have e1 : W.drew.cell? ⟨F, 1, none⟩ = some (.int .i64 c) := by rw [← hW, HF.out]; exact at_new rfl rfl
  have e2 : W.drew.cell? ⟨F, 2, none⟩ = some (.int .i64 d) := by rw [← hW, HF.out]; exact at_new rfl rfl
  have nF : ¬ S F := fun s => by have := LS.out _ s; have := HF.out; omega
  have hw := HH.out.new bW.drew
  rw [← HF.out]
  have HBW := Lib.hid bW.drew
  have C1 := Lib.hid (wsteps hw)
  have c2 : W.drew.cell? ⟨A.p, 2, none⟩ = some (.pointer (some ⟨A.pn, 0, none⟩)) := hw.box.c2
  have c72 : W.drew.cell? ⟨A.p, 72, none⟩ = some (.int .i64 V.h) := hw.box.ch
  obtain ⟨n, SC, SI, SN, ha⟩ := hw
  have C2 : Hid (Calls Tryz.prog 152 #[.pointer (some ⟨A.pn, 0, none⟩), .agg #[.int .i64 V.cnt, .int .i64 V.h, .int .u8 k, .int .i64 r, .int .i64 b, .int .i64 c, .int .i64 d, .int .i64 v]] W.drew fun e w' => (∃ z, e = .returned z) ∧ WdPost W.drew A (V.note (V.cnt, V.h, k, r, b, c, d, v)) S w') := Lib.hid (by
    refine (addT (V.cnt, V.h, k, r, b, c, d, v) ha.nt hM).mono ?_
    rintro e w' ⟨rfl, SN', t, q⟩
    exact ⟨⟨_, rfl⟩, ha.note _ t q⟩)
  generalize hcn : V.cnt = cn at *
  generalize hvh : V.h = vh at *
  have HVH := Lib.hid hvh
  have HCN := Lib.hid hcn
  clear hW bW ha hcn hvh
  go_wp2_with fail
  go_region_held3 (fun X => X.cell? ⟨F, 0, none⟩ = some (.int .i64 b) ∧ X.cell? ⟨F, 1, none⟩ = some (.int .i64 c) ∧ X.cell? ⟨F, 2, none⟩ = some (.int .i64 d) ∧ X.cell? ⟨A.p, 2, none⟩ = some (.pointer (some ⟨A.pn, 0, none⟩)) ∧ X.cell? ⟨A.p, 72, none⟩ = some (.int .i64 vh))
    (first | exact ⟨by assumption, by assumption, by assumption, by assumption, by assumption⟩)
    (first
      | (go_at_call 72; ((with_reducible refine C1.out.mono ?_); rintro e w2 ⟨rfl, rfl⟩))
      | (go_at_call 152; ((with_reducible refine C2.out.mono ?_); rintro e w3 ⟨⟨z, rfl⟩, hp⟩; obtain ⟨S', t, hw'⟩ := id hp; replace e0 := t.keeps.cell (p := ⟨F, 0, none⟩) nF e0; replace e1 := t.keeps.cell (p := ⟨F, 1, none⟩) nF e1; replace e2 := t.keeps.cell (p := ⟨F, 2, none⟩) nF e2; replace c2 := hw'.box.c2; replace c72 : w3.cell? ⟨A.p, 72, none⟩ = some (.int .i64 vh) := (by have h72 := hw'.box.ch; rw [← HVH.out]; exact h72); have HP := Lib.hid hp; clear hp t hw')))
  all_goals
    have HQ : WdPost w A (V.note (V.cnt, V.h, k, r, b, c, d, v)) S w3 := by
      rw [HCN.out, HVH.out]
      obtain ⟨S', t, hw'⟩ := HP.out
      exact ⟨S', Turn.after HBW.out t, hw'⟩
    have HQ := Lib.hid HQ
    clear HP
    go_wp2_with fail
    go_end0
    exact ⟨rfl, HQ.out⟩
theorem wall (h : Wd w A V S) (hM : V.M.length ≤ 1048576) :
    Calls Tryz.prog 33 #[.pointer (some ⟨A.pn, 0, none⟩)] w (IsLst w 8 V.M.length (rowsN V.M)) := by
  obtain ⟨n, SC, SI, SN, ha⟩ := h
  exact allT w A.pn V.M ha.nt hM
theorem wncount (h : Wd w A V S) (hM : V.M.length ≤ 1048576) : Calls Tryz.prog 75 #[.pointer (some ⟨A.pn, 0, none⟩)] w fun e w' => e = .returned (.int .i64 V.M.length) ∧ w = w' := by
  obtain ⟨n, SC, SI, SN, ha⟩ := h
  exact countT ha.nt hM
theorem witem (h : Wd w A V S) (hI : V.I.length < 1048576) (x0 x1 : ByteArray) (x2 x3 x4 x5 : Int) :
    Calls Tryz.prog 44 #[.pointer (some ⟨A.pi, 0, none⟩), .agg #[.string x0, .string x1, .int .u32 x2, .int .u64 x3, .int .i64 x4, .int .i64 x5]] w fun e w' => (∃ v, e = .returned v) ∧ WdPost w A (V.item (x0, x1, x2, x3, x4, x5)) S w' := by
  obtain ⟨n, SC, SI, SN, ha⟩ := h
  refine (iadd_any ha.it hI x0 x1 x2 x3 x4 x5 rfl).mono ?_
  rintro e w' ⟨rfl, SI', t, q⟩
  exact ⟨⟨_, rfl⟩, ha.item _ t q⟩
theorem wat (h : Wd w A V S) (hI : V.I.length ≤ 300) (ref : Int) :
    Calls Tryz.prog 35 #[.pointer (some ⟨A.pi, 0, none⟩), .int .i64 ref] w fun e w' => (∃ v, e = .returned v) ∧ Below w.heap.size w w' := by
  obtain ⟨n, SC, SI, SN, ha⟩ := h
  by_cases hr : ref < 1 ∨ (V.I.length : Int) < ref
  · exact (iat_no ha.it ref hr).mono fun e w' ⟨he, hb⟩ => ⟨⟨_, he⟩, hb⟩
  · obtain ⟨i, hi⟩ : ∃ i : Nat, ref = (i : Int) + 1 := ⟨(ref - 1).toNat, by omega⟩
    obtain ⟨⟨xk, xv, x2, x3, x4, x5⟩, hx⟩ : ∃ x, V.I[i]? = some x := ⟨_, List.getElem?_eq_getElem (by omega)⟩
    exact (iat_any ha.it i (by omega) hx hi).mono fun e w' ⟨he, hb⟩ => ⟨⟨_, he⟩, hb⟩
theorem wlast (h : Wd w A V S) : Calls Tryz.prog 74 #[.pointer (some ⟨A.pc, 0, none⟩)] w fun e w' => e = .returned (.agg #[.int .u8 V.k, .int .u64 V.a, .int .u64 V.x, .int .u64 V.y]) ∧ Below w.heap.size w w' := by
  obtain ⟨n, SC, SI, SN, ha⟩ := h
  exact last_any ha.cel
end
end Go.Proofs.YtodppilfpemepaaGreat
