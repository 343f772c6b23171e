/- Both worlds of a pair, each by itself: notes, loads; is it full; an act of chapter 10's law. -/
import Derived.Test.YthlebfiedejhhaaGreatHf
import Derived.Test.YthlebfiedejhhaaGreatWs
import Derived.Deep.Cut
import Derived.Deep.RegionHeld3
namespace Go.Proofs.YthlebfiedejhhaaGreat
open Go.RowKit Go.Maps
set_option linter.unusedVariables false
section
variable {G : Nat → Prop} {w w' : World} {A R : Ad} {V V2 : Wv} {S T : Nat → Prop}
/-- What is done in the program's world alone. -/
theorem Hf.wpost (h : Hf G w A R V V2) : ∃ S, Wd w A V S ∧ ∀ w' V', WdPost w A V' S w' → Hf G w' A R V' V2 ∧ Kp G w w' := by
  obtain ⟨S, T, L, h1, ⟨r, hl, hn⟩, c, hd, hg, hlt⟩ := h
  have hT : ∀ j, T j → j < w.heap.size := by
    obtain ⟨TC, TI, TN, r⟩ := r
    exact r.lt
  refine ⟨S, h1, fun w' V' ⟨S', t, hw⟩ => ⟨⟨S', T, L, hw, ⟨r.keep t.keeps (fun k s s' => hd k s' s), hl, hn⟩, c, fun j s t' => ?_, fun k g s => ?_, fun k g => Nat.lt_of_lt_of_le (hlt k g) t.keeps.size⟩, t.keeps.mono (fun k _ s g => hg k g (.inl s))⟩⟩
  · rcases t.only j s with s | s
    · exact hd j s t'
    · have := hT j t'; omega
  · rcases s with s | s
    · rcases t.only k s with s | s
      · exact hg k g (.inl s)
      · have := hlt k g; omega
    · exact hg k g (.inr s)
theorem Hf.wload (h : Hf G w A R V V2) (hc : V.cnt < 1000000000) {a : Int} (ha : isU a) :
    Calls Tryz.prog 72 #[.pointer (some ⟨A.pc, 0, none⟩), .int .u64 a] w fun e w' => e = .returned (.int .u64 (V.f a)) ∧ Hf G w' A R (V.acc V.f 1 a (V.f a) (V.f a)) V2 ∧ Kp G w w' := by
  obtain ⟨S, h1, h2⟩ := h.wpost
  exact (Proofs.YthlebfiedejhhaaGreat.wload h1 ha hc).mono fun e w' ⟨he, hp⟩ => ⟨he, h2 w' _ hp⟩
theorem Hf.wnote (h : Hf G w A R V V2) (hM : V.M.length ≤ 1048576) (k r b c d v : Int) :
    Calls Tryz.prog 70 #[.pointer (some ⟨A.p, 0, none⟩), .int .u8 k, .int .i64 r, .agg #[.int .i64 b, .int .i64 c, .int .i64 d], .int .i64 v] w fun e w' => e = .returned (.tuple #[]) ∧ Hf G w' A R (V.note (V.cnt, V.h, k, r, b, c, d, v)) V2 ∧ Kp G w w' := by
  obtain ⟨S, h1, h2⟩ := h.wpost
  exact (Proofs.YthlebfiedejhhaaGreat.wnote h1 hM k r b c d v).mono fun e w' ⟨he, hp⟩ => ⟨he, h2 w' _ hp⟩
/-- A note more, in the chapter's world. -/
theorem RwAt.note {L : List (Int × Int)} {TC TI TN TN' : Nat → Prop} (h : RwAt w R V L T TC TI TN) (x : Nv) (t : Turn TN TN' w w') (q : Nrs w' R.pn (addL V.M x) TN') : ∃ T', Turn T T' w w' ∧ Rw w' R (V.note x) L T' := by
  have hsz := t.keeps.size
  have hne : ∀ k, TN' k → TN k ∨ w.heap.size ≤ k := fun k s => (t.only k s).imp id (fun h => h.1)
  refine ⟨fun k => T k ∨ TN' k, ⟨t.keeps.mono (fun k _ s => (h.tn k s).1), fun k s => ?_⟩, TC, TI, TN', h.box.keep t.keeps (fun s => (h.tn _ s).2 rfl), h.cel.keep t.keeps (fun k s s' => (h.tc k s).2.2.2 s'), h.it.keep t.keeps (fun k s s' => (h.ti k s).2.2 s'), q, .inl h.here, fun k s => ⟨.inl (h.tc k s).1, (h.tc k s).2.1, (h.tc k s).2.2.1, fun s' => ?_⟩, fun k s => ⟨.inl (h.ti k s).1, (h.ti k s).2.1, fun s' => ?_⟩, fun k s => ?_, fun k s => ?_⟩
  · rcases s with s | s
    · exact .inl s
    · rcases t.only k s with s | s
      · exact .inl (h.tn k s).1
      · exact .inr s
  · rcases hne k s' with s' | s'
    · exact (h.tc k s).2.2.2 s'
    · have := h.lt k (h.tc k s).1; omega
  · rcases hne k s' with s' | s'
    · exact (h.ti k s).2.2 s'
    · have := h.lt k (h.ti k s).1; omega
  · refine ⟨.inr s, ?_⟩
    rcases hne k s with s | s
    · exact (h.tn k s).2
    · intro e
      have := h.box.lt; omega
  · rcases s with s | s
    · have := h.lt k s; omega
    · rcases t.only k s with s | s
      · have := h.lt k (h.tn k s).1; omega
      · exact s.2
set_option maxHeartbeats 2000000 in
set_option maxRecDepth 100000 in
theorem rw_note {L : List (Int × Int)} (h : Rw w R V L T) (hM : V.M.length < 1048576) (k r b c d v : Int) :
    Calls Tryz.prog 71 #[.pointer (some ⟨R.p, 0, none⟩), .int .i64 k, .int .i64 r, .agg #[.int .i64 b, .int .i64 c, .int .i64 d], .int .i64 v] w fun e w' => e = .returned (.tuple #[]) ∧ ∃ T', Turn T T' w w' ∧ Rw w' R (V.note (V.cnt, V.h, k, r, b, c, d, v)) L T' := by
  obtain ⟨F, hF⟩ : ∃ F, F = w.heap.size := ⟨_, rfl⟩
  have HF := Lib.hid hF
  have HH := Lib.hid h
  have lS : ∀ j, T j → j < w.heap.size := by
    obtain ⟨TC, TI, TN, r⟩ := h
    exact r.lt
  have LS := Lib.hid lS
  clear h hF lS
  go_enter Tryz.func71, Tryz.ntmps71
  go_wp2_with fail
  generalize hW : World.alloc w _ = W
  have bW : Below w.heap.size w W := by rw [← hW]; exact (Below.refl _ _).alloc (Nat.le_refl _) _
  have e0 : W.drew.cell? ⟨F, 0, none⟩ = some (.int .i64 b) := by rw [← hW, HF.out]; exact at_new rfl rfl
  have e1 : W.drew.cell? ⟨F, 1, none⟩ = some (.int .i64 c) := by rw [← hW, HF.out]; exact at_new rfl rfl
  have e2 : W.drew.cell? ⟨F, 2, none⟩ = some (.int .i64 d) := by rw [← hW, HF.out]; exact at_new rfl rfl
  have nF : ¬ T F := fun s => by have := LS.out _ s; have := HF.out; omega
  have hw := HH.out.new bW.drew
  rw [← HF.out]
  have HBW := Lib.hid bW.drew
  have C1 := Lib.hid (rsteps hw)
  obtain ⟨TC, TI, TN, ha⟩ := hw
  have c2 : W.drew.cell? ⟨R.p, 2, none⟩ = some (.pointer (some ⟨R.pn, 0, none⟩)) := ha.box.c2
  have c72 : W.drew.cell? ⟨R.p, 72, none⟩ = some (.int .i64 V.h) := ha.box.ch
  have C2 : Hid (Calls Tryz.prog 142 #[.pointer (some ⟨R.pn, 0, none⟩), .agg #[.int .i64 V.cnt, .int .i64 V.h, .int .i64 k, .int .i64 r, .int .i64 b, .int .i64 c, .int .i64 d, .int .i64 v]] W.drew fun e w' => (∃ z, e = .returned z) ∧ (∃ T', Turn T T' W.drew w' ∧ Rw w' R (V.note (V.cnt, V.h, k, r, b, c, d, v)) L T') ∧ (w'.cell? ⟨R.p, 2, none⟩ = some (.pointer (some ⟨R.pn, 0, none⟩)) ∧ w'.cell? ⟨R.p, 72, none⟩ = some (.int .i64 V.h)) ∧ Keeps T W.drew w') := Lib.hid (by
    refine (raddT (V.cnt, V.h, k, r, b, c, d, v) ha.nt hM).mono ?_
    rintro e w' ⟨rfl, SN', t, q⟩
    have hb := ha.box.keep t.keeps (fun s => (ha.tn _ s).2 rfl)
    exact ⟨⟨_, rfl⟩, ha.note _ t q, ⟨hb.c2, hb.ch⟩, t.keeps.mono (fun k _ s => (ha.tn k s).1)⟩)
  generalize hcn : V.cnt = cn at *
  generalize hvh : V.h = vh at *
  have HVH := Lib.hid hvh
  have HCN := Lib.hid hcn
  clear hW bW ha hcn hvh
  go_wp2_with fail
  go_region_held3 (fun X => X.cell? ⟨F, 0, none⟩ = some (.int .i64 b) ∧ X.cell? ⟨F, 1, none⟩ = some (.int .i64 c) ∧ X.cell? ⟨F, 2, none⟩ = some (.int .i64 d) ∧ X.cell? ⟨R.p, 2, none⟩ = some (.pointer (some ⟨R.pn, 0, none⟩)) ∧ X.cell? ⟨R.p, 72, none⟩ = some (.int .i64 vh))
    (first | exact ⟨by assumption, by assumption, by assumption, by assumption, by assumption⟩)
    (first
      | (go_at_call 77; ((with_reducible refine C1.out.mono ?_); rintro e w2 ⟨rfl, rfl⟩))
      | (go_at_call 142; ((with_reducible refine C2.out.mono ?_); rintro e w3 ⟨⟨z, rfl⟩, hp, ⟨c2, c72⟩, hk3⟩; replace e0 := hk3.cell (p := ⟨F, 0, none⟩) nF e0; replace e1 := hk3.cell (p := ⟨F, 1, none⟩) nF e1; replace e2 := hk3.cell (p := ⟨F, 2, none⟩) nF e2; have HP := Lib.hid hp; clear hp hk3)))
  all_goals
    have HQ : ∃ T', Turn T T' w w3 ∧ Rw w3 R (V.note (V.cnt, V.h, k, r, b, c, d, v)) L T' := by
      rw [HCN.out, HVH.out]
      obtain ⟨T', t, hw'⟩ := HP.out
      exact ⟨T', Turn.after HBW.out t, hw'⟩
    have HQ := Lib.hid HQ
    clear HP
    go_wp2_with fail
    go_end0
    exact ⟨rfl, HQ.out⟩
theorem Hf.rnote (h : Hf G w A R V V2) (hM : V2.M.length < 1048576) (k r b c d v : Int) :
    Calls Tryz.prog 71 #[.pointer (some ⟨R.p, 0, none⟩), .int .i64 k, .int .i64 r, .agg #[.int .i64 b, .int .i64 c, .int .i64 d], .int .i64 v] w fun e w' => e = .returned (.tuple #[]) ∧ Hf G w' A R V (V2.note (V2.cnt, V2.h, k, r, b, c, d, v)) ∧ Kp G w w' := by
  obtain ⟨S, T, L, h1, ⟨r', hl, hn⟩, ⟨c0, cu⟩, hd, hg, hlt⟩ := h
  refine (rw_note r' hM k r b c d v).mono ?_
  rintro e w' ⟨rfl, T', t, r''⟩
  exact ⟨rfl, Hf.rpost h1 hd hg hlt t r'' hl hn ⟨c0, cu⟩⟩
set_option maxHeartbeats 1000000 in
set_option maxRecDepth 100000 in
/-- Is the chapter's world full? -/
theorem pw_rfull (h : Pw w A R V S T) (hb : 0 ≤ V.c.budget) (hb2 : V.c.budget ≤ 9223372036854775807) :
    Calls Tryz.prog 76 #[.pointer (some ⟨R.p, 0, none⟩)] w fun e w' => e = .returned (.bool (decide (V.c.budget ≤ V.f 6))) ∧ Below w.heap.size w w' := by
  have hd := (Below.refl w.heap.size w).drew
  have C := Lib.hid (pw_rpeek (h.new hd) (a := 6) ⟨by decide, by decide⟩)
  have KB : Hid (∀ X, Below w.heap.size w X → X.cell? ⟨R.p, 4, none⟩ = some (.int .i64 V.c.budget)) := Lib.hid (fun X hb => by
    obtain ⟨L, ⟨TC, TI, TN, r⟩, -⟩ := (h.new hb).r
    exact r.box.c4)
  clear h
  generalize V.f 6 = z at *
  generalize V.c.budget = b at *
  have hwb : IntKind.u64.wrap b = b := by rw [IntKind.wrap_u64]; omega
  have c4 := KB.out _ hd
  go_enter Tryz.func76, Tryz.ntmps76
  go_wp2_with fail
  go_region_held3 (fun w' => w'.cell? ⟨R.p, 4, none⟩ = some (.int .i64 b))
    (first | assumption)
    (first
      | (go_at_call 94; ((with_reducible refine C.out.mono ?_); rintro e w2 ⟨rfl, n, rfl⟩; have hb3 := belowNd hd n; clear c4; have c4 := KB.out _ hb3)))
  all_goals
    clear c4
    go_wp2_with fail
    go_ret
    exact ⟨by first | rfl | rw [hwb], belowNd (Below.refl _ _) _⟩
end
end Go.Proofs.YthlebfiedejhhaaGreat
