/- A pair of worlds: Other, the chapter's Peek and Grows. -/
import Derived.Test.YtodppilfpemepaaGreatPw
import Derived.Test.YtodppilfpemepaaGreatGPn
import Derived.Test.YtodppilfpemepaaGreatGPl
import Derived.Deep.RegionHeld3
import Derived.Test.YtodppilfpemepaaGreatEpRef
import Derived.Test.YtodppilfpemepaaGreatRaT
namespace Go.Proofs.YtodppilfpemepaaGreat
open Go.RowKit Go.Maps
set_option linter.unusedVariables false
theorem other10 (b u t q y : Int) (w : World) : Calls Tryz.prog 19 #[.agg #[.int .i64 b, .int .i64 u, .int .i64 t, .int .i64 q, .int .i64 y]] w fun e w' => e = .returned (.agg #[.int .i64 b, .int .i64 u, .int .i64 t, .int .i64 q, .int .i64 y]) ∧ Below w.heap.size w w' := by
  go_enter Tryz.func19, Tryz.ntmps19
  go_wp2_with fail
  refine bodyPost_ret (v := .agg #[.int .i64 b, .int .i64 u, .int .i64 t, .int .i64 q, .int .i64 y]) (by simp [results, Tryz.results19, go_sem]) rfl ⟨rfl, ?_⟩
  exact ((Below.refl w.heap.size w).alloc (Nat.le_refl _) _).alloc (by simp) _
section
variable {w : World} {A R : Ad} {V : Wv} {S T : Nat → Prop}
theorem pw_rpeek (h : Pw w A R V S T) {a : Int} (ha : isU a) : Calls Tryz.prog 62 #[.pointer (some ⟨R.p, 0, none⟩), .int .u64 a] w fun e w' => e = .returned (.int .u64 (V.f a)) ∧ ∃ n, w' = w.drewN n := by
  obtain ⟨L, ⟨TC, TI, TN, r⟩, hl, -⟩ := h.r
  have c0 := r.box.c0
  have C := Lib.hid (rgc_peek r.cel (hl.peek ha))
  clear r h hl
  go_enter Tryz.func62, Tryz.ntmps62
  go_wp2_with fail
  refine C.out.mono ?_
  rintro e w' ⟨rfl, n, rfl⟩
  go_wp2_with fail
  go_ret
  exact ⟨rfl, n, rfl⟩
end
end Go.Proofs.YtodppilfpemepaaGreat
/- Next: A pair of worlds: Store, by others. -/
namespace Go.Proofs.YtodppilfpemepaaGreat
open Go.RowKit Go.Maps
set_option linter.unusedVariables false
theorem at_new {W : World} {n i : Nat} {C : Array Value} {T : TypeId} {v : Value} (hn : n = W.heap.size) (h : C[i]? = some v) : (W.alloc (.cells C T)).cell? ⟨n, i, none⟩ = some v := by
  subst hn
  simpa using h
/-- What something done in both leaves. -/
def PwPost (w : World) (A R : Ad) (V : Wv) (S T : Nat → Prop) (w' : World) : Prop := ∃ S' T', Pw w' A R V S' T' ∧ Keeps (fun j => S j ∨ T j) w w' ∧ ∀ j, S' j ∨ T' j → (S j ∨ T j) ∨ w.heap.size ≤ j
theorem PwPost.after {w w1 w' : World} {A R : Ad} {V : Wv} {S T : Nat → Prop} (hb : Below w.heap.size w w1) (h : PwPost w1 A R V S T w') : PwPost w A R V S T w' := by
  obtain ⟨S', T', q, hk, ho⟩ := h
  have := hb.size
  exact ⟨S', T', q, (Keeps.of_new hb).trans hk (fun _ _ s => s), fun j s => (ho j s).imp id (fun h => by omega)⟩
section
variable {w : World} {A R : Ad} {V : Wv} {S T : Nat → Prop}
/-- The program's part has been done. -/
def PwMid (w : World) (A R : Ad) (V V' : Wv) (S T : Nat → Prop) (w1 : World) : Prop := ∃ S', Turn S S' w w1 ∧ Wd w1 A V' S' ∧ (∃ L, Rw w1 R V L T ∧ IsLs L V.f ∧ (L.length : Int) ≤ V.cnt + 1000000) ∧ (∀ j, S' j → ¬ T j) ∧ ∀ j, T j → j < w1.heap.size
theorem Pw.mid {V' : Wv} {w1 : World} (h : Pw w A R V S T) (hp : WdPost w A V' S w1) : PwMid w A R V V' S T w1 := by
  obtain ⟨S', t, hw⟩ := hp
  obtain ⟨L, hr, hl, hn⟩ := h.r
  have hlt : ∀ j, T j → j < w.heap.size := by
    obtain ⟨TC, TI, TN, r⟩ := hr
    exact r.lt
  refine ⟨S', t, hw, ⟨L, hr.keep t.keeps (fun j s s' => h.dis j s' s), hl, hn⟩, fun j s s' => ?_, fun j s => Nat.lt_of_lt_of_le (hlt j s) t.keeps.size⟩
  rcases t.only j s with s | s
  · exact h.dis j s s'
  · have := hlt j s'; omega
theorem PwMid.post {V' : Wv} {w1 w2 : World} {T' : Nat → Prop} {L' : List (Int × Int)} (h : PwMid w A R V V' S T w1) (t2 : Turn T T' w1 w2) (hr : Rw w2 R V' L' T') (hl : IsLs L' V'.f) (hn : (L'.length : Int) ≤ V'.cnt + 1000000) : PwPost w A R V' S T w2 := by
  obtain ⟨S', t, hw, -, hd, hlt⟩ := h
  have s1 := t.keeps.size
  have s2 := t2.keeps.size
  refine ⟨S', T', ⟨hw.keep t2.keeps hd, ⟨L', hr, hl, hn⟩, fun j s s' => ?_⟩, (t.keeps.mono (fun j _ s => .inl s)).trans (t2.keeps.mono (fun j _ s => .inr s)) (fun j _ s => s), fun j s => ?_⟩
  · rcases t2.only j s' with s' | s'
    · exact hd j s s'
    · have := hw.lt j s; omega
  · rcases s with s | s
    · rcases t.only j s with s | s
      · exact .inl (.inl s)
      · exact .inr s.1
    · rcases t2.only j s with s | s
      · exact .inl (.inr s)
      · exact .inr (by omega)
theorem rw_store {L : List (Int × Int)} (h : Rw w R V L T) (hL : (L.length : Int) ≤ V.cnt + 1000000) (hl : IsLs L V.f) (hc0 : 0 ≤ V.cnt) (hc : V.cnt < 100000000) {a v : Int} (ha : isU a) :
    Calls Tryz.prog 57 #[.pointer (some ⟨R.p, 0, none⟩), .int .u64 a, .int .u64 v] w fun e w' => e = .returned (.int .u64 (V.f a)) ∧ ∃ T', Turn T T' w w' ∧ Rw w' R (V.acc (upd V.f a v) 2 a (V.f a) v) (putL L a v) T' := by
  obtain ⟨TC, TI, TN, r⟩ := h
  have c0 := r.box.c0
  have C := Lib.hid (rg_store r.cel (by omega) hc0 (by omega) (hl.peek ha) v)
  have HR := Lib.hid r
  clear r hl
  go_enter Tryz.func57, Tryz.ntmps57
  go_wp2_with fail
  refine C.out.mono ?_
  rintro e w' ⟨rfl, hp⟩
  have HP := Lib.hid (HR.out.acc (f := upd V.f a v) hp)
  clear hp
  go_wp2_with fail
  go_ret
  exact ⟨rfl, HP.out⟩
set_option maxHeartbeats 2000000 in
set_option maxRecDepth 100000 in
theorem pw_store (h : Pw w A R V S T) (hc : V.cnt < 100000000) {a v : Int} (ha : isU a) (hv : isU v) :
    Calls Tryz.prog 22 #[.agg #[.pointer (some ⟨A.p, 0, none⟩), .pointer (some ⟨R.p, 0, none⟩)], .agg #[.int .u64 a, .int .u64 v]] w fun e w' => e = .returned (.tuple #[]) ∧ PwPost w A R (V.acc (upd V.f a v) 2 a (V.f a) v) S T w' := by
  have HH := Lib.hid h
  have hc0 : 0 ≤ V.cnt := by obtain ⟨n, SC, SI, SN, h⟩ := h.a; exact h.cnt0
  obtain ⟨B, hB⟩ : ∃ B, B = w.heap.size := ⟨_, rfl⟩
  have HB := Lib.hid hB
  clear h hB
  go_enter Tryz.func22, Tryz.ntmps22
  go_wp2_with fail
  generalize hW : World.alloc (World.alloc w _) _ = W
  have bW : Below w.heap.size w W := by rw [← hW]; exact ((Below.refl _ _).alloc (Nat.le_refl _) _).alloc (by simp) _
  have e0 : W.cell? ⟨w.heap.size, 0, none⟩ = some (.pointer (some ⟨A.p, 0, none⟩)) := by rw [← hW]; simp [World.cell?_alloc_some]
  have e1 : W.cell? ⟨w.heap.size, 1, none⟩ = some (.pointer (some ⟨R.p, 0, none⟩)) := by rw [← hW]; simp [World.cell?_alloc_some]
  have x0 : W.cell? ⟨w.heap.size + 1, 0, none⟩ = some (.int .u64 a) := by rw [← hW]; exact at_new (by simp) rfl
  have x1 : W.cell? ⟨w.heap.size + 1, 1, none⟩ = some (.int .u64 v) := by rw [← hW]; exact at_new (by simp) rfl
  clear hW
  have hST : ∀ j, S j ∨ T j → j < w.heap.size := fun j s => by
    rcases s with s | s
    · exact HH.out.a.lt j s
    · obtain ⟨L, ⟨TC, TI, TN, r⟩, -⟩ := HH.out.r
      exact r.lt j s
  have hq : Pw W.drew A R V S T := HH.out.new (Below.drew bW)
  rw [show w.heap.size = B from HB.out.symm] at e0 e1 x0 x1 hST ⊢
  have c0 : W.drew.cell? ⟨A.p, 0, none⟩ = some (.pointer (some ⟨A.pc, 0, none⟩)) := hq.a.box.c0
  replace e0 : W.drew.cell? ⟨B, 0, none⟩ = some (.pointer (some ⟨A.p, 0, none⟩)) := e0
  replace e1 : W.drew.cell? ⟨B, 1, none⟩ = some (.pointer (some ⟨R.p, 0, none⟩)) := e1
  replace x0 : W.drew.cell? ⟨B + 1, 0, none⟩ = some (.int .u64 a) := x0
  replace x1 : W.drew.cell? ⟨B + 1, 1, none⟩ = some (.int .u64 v) := x1
  have nB : ¬ S B := fun s => by have := hST B (.inl s); omega
  have nC : ¬ S (B + 1) := fun s => by have := hST (B + 1) (.inl s); omega
  have CS := Lib.hid (wstore hq.a ha hv (by omega))
  have HQ := Lib.hid hq
  have HBW := Lib.hid (Below.drew bW)
  clear hq bW hST
  go_region_held3 (fun X => X.cell? ⟨B, 0, none⟩ = some (.pointer (some ⟨A.p, 0, none⟩)) ∧ X.cell? ⟨B + 1, 0, none⟩ = some (.int .u64 a) ∧ X.cell? ⟨B + 1, 1, none⟩ = some (.int .u64 v) ∧ X.cell? ⟨A.p, 0, none⟩ = some (.pointer (some ⟨A.pc, 0, none⟩)))
    (first | exact ⟨by assumption, by assumption, by assumption, by assumption⟩)
    (first
      | (go_at_call 39; ((with_reducible refine CS.out.mono ?_); rintro e w2 ⟨rfl, hp⟩; have hm := HQ.out.mid hp; obtain ⟨S', t, hw, -⟩ := id hm; replace c0 := hw.box.c0; replace e0 := t.keeps.cell (p := ⟨B, 0, none⟩) nB e0; replace e1 := t.keeps.cell (p := ⟨B, 1, none⟩) nB e1; replace x0 := t.keeps.cell (p := ⟨B + 1, 0, none⟩) nC x0; replace x1 := t.keeps.cell (p := ⟨B + 1, 1, none⟩) nC x1; have HM := Lib.hid hm; clear hm t hw hp)))
  all_goals
    clear c0 CS
    obtain ⟨S', t, hw, ⟨L, hr, hl, hn⟩, -⟩ := HM.out
    have CR := Lib.hid (rw_store (v := v) hr hn hl hc0 hc ha)
    have HL := Lib.hid hl
    have HN := Lib.hid hn
    clear t hw hr hl hn
    go_wp2_with fail
    refine CR.out.mono ?_
    rintro e w3 ⟨rfl, T', t3, hr3⟩
    have D := HM.out.post t3 hr3 (HL.out.put ha hv) (by
      have h1 := goL_len a v L (v == 0)
      have h2 := HN.out
      have h3 : (putL L a v).length ≤ L.length + 1 := h1
      show ((putL L a v).length : Int) ≤ V.cnt + 1 + 1000000
      omega)
    have HD := Lib.hid (PwPost.after HBW.out D)
    clear D t3 hr3
    go_wp2_with fail
    go_end0
    exact ⟨rfl, HD.out⟩
end
end Go.Proofs.YtodppilfpemepaaGreat
/- Next: A pair of worlds: Item, by others. -/
namespace Go.Proofs.YtodppilfpemepaaGreat
open Go.RowKit Go.Maps
set_option linter.unusedVariables false
def Wv.item (V : Wv) (x : It) : Wv := { V with I := V.I ++ [x] }
section
variable {w w' : World} {A R : Ad} {V : Wv} {S T : Nat → Prop}
/-- A record more, in the program's world. -/
theorem WdAt.item {n : Nat} {SC SI SN SI' : Nat → Prop} (h : WdAt w A V n S SC SI SN) (x : It) (t : Turn SI SI' w w') (q : Ars w' A.pi (V.I ++ [x]) SI') : WdPost w A (V.item x) S w' := by
  have hsz := t.keeps.size
  have hne : ∀ k, SI' k → SI k ∨ w.heap.size ≤ k := fun k s => (t.only k s).imp id (fun h => h.1)
  refine ⟨fun k => S k ∨ SI' k, ⟨t.keeps.mono (fun k _ s => (h.si k s).1), fun k s => ?_⟩, n, SC, SI', SN, h.box.keep t.keeps (fun s => (h.si _ s).2.1 rfl), IsCells.keep h.cel t.keeps (fun k s s' => (h.sc k s).2.2.1 s'), q, h.nt.keep t.keeps (fun k s s' => (h.si k s').2.2 s), h.cnt0, h.cntn, .inl h.here, fun k s => ⟨.inl (h.sc k s).1, (h.sc k s).2.1, fun s' => ?_, (h.sc k s).2.2.2⟩, fun k s => ?_, fun k s => ⟨.inl (h.sn k s).1, (h.sn k s).2⟩, fun k s => ?_⟩
  · rcases s with s | s
    · exact .inl s
    · rcases t.only k s with s | s
      · exact .inl (h.si k s).1
      · exact .inr s
  · rcases hne k s' with s' | s'
    · exact (h.sc k s).2.2.1 s'
    · have := h.lt k (h.sc k s).1; omega
  · refine ⟨.inr s, ?_⟩
    rcases hne k s with s | s
    · exact (h.si k s).2
    · refine ⟨fun e => ?_, fun s' => ?_⟩
      · have := h.box.lt; omega
      · have := h.lt k (h.sn k s').1; omega
  · rcases s with s | s
    · have := h.lt k s; omega
    · rcases t.only k s with s | s
      · have := h.lt k (h.si k s).1; omega
      · exact s.2
/-- The same, in the chapter's. -/
theorem RwAt.item {L : List (Int × Int)} {TC TI TN TI' : Nat → Prop} (h : RwAt w R V L T TC TI TN) (x : It) (t : Turn TI TI' w w') (q : Ras w' R.pi (V.I ++ [x]) TI') : ∃ T', Turn T T' w w' ∧ Rw w' R (V.item x) L T' := by
  have hsz := t.keeps.size
  have hne : ∀ k, TI' k → TI k ∨ w.heap.size ≤ k := fun k s => (t.only k s).imp id (fun h => h.1)
  refine ⟨fun k => T k ∨ TI' k, ⟨t.keeps.mono (fun k _ s => (h.ti k s).1), fun k s => ?_⟩, TC, TI', TN, h.box.keep t.keeps (fun s => (h.ti _ s).2.1 rfl), h.cel.keep t.keeps (fun k s s' => (h.tc k s).2.2.1 s'), q, h.nt.keep t.keeps (fun k s s' => (h.ti k s').2.2 s), .inl h.here, fun k s => ⟨.inl (h.tc k s).1, (h.tc k s).2.1, fun s' => ?_, (h.tc k s).2.2.2⟩, fun k s => ?_, fun k s => ⟨.inl (h.tn k s).1, (h.tn k s).2⟩, fun k s => ?_⟩
  · rcases s with s | s
    · exact .inl s
    · rcases t.only k s with s | s
      · exact .inl (h.ti k s).1
      · exact .inr s
  · rcases hne k s' with s' | s'
    · exact (h.tc k s).2.2.1 s'
    · have := h.lt k (h.tc k s).1; omega
  · refine ⟨.inr s, ?_⟩
    rcases hne k s with s | s
    · exact (h.ti k s).2
    · refine ⟨fun e => ?_, fun s' => ?_⟩
      · have := h.box.lt; omega
      · have := h.lt k (h.tn k s').1; omega
  · rcases s with s | s
    · have := h.lt k s; omega
    · rcases t.only k s with s | s
      · have := h.lt k (h.ti k s).1; omega
      · exact s.2
/-- The same a draw later. -/
theorem PwMid.new {V' : Wv} {w1 w2 : World} (h : PwMid w A R V V' S T w1) (hk : Below w1.heap.size w1 w2) : PwMid w A R V V' S T w2 := by
  obtain ⟨S', t, hw, ⟨L, hr, hl, hn⟩, hd, hlt⟩ := h
  exact ⟨S', t.new hk, hw.new hk, ⟨L, hr.new hk, hl, hn⟩, hd, fun j s => Nat.lt_of_lt_of_le (hlt j s) hk.size⟩
theorem PwPost.keeps {V' : Wv} {w' : World} (h : PwPost w A R V' S T w') : Keeps (fun j => S j ∨ T j) w w' := by
  obtain ⟨S', T', -, k, -⟩ := h
  exact k
theorem PwPost.c1 {V' : Wv} {w' : World} (h : PwPost w A R V' S T w') : w'.cell? ⟨R.p, 1, none⟩ = some (.pointer (some ⟨R.pi, 0, none⟩)) := by
  obtain ⟨S', T', p, -, -⟩ := h
  obtain ⟨L, ⟨TC, TI, TN, hr⟩, -⟩ := p.r
  exact hr.box.c1
set_option maxHeartbeats 2000000 in
set_option maxRecDepth 100000 in
theorem pw_item (h : Pw w A R V S T) (hI : V.I.length < 1048576) (x0 x1 : ByteArray) (x2 x3 x4 x5 : Int) :
    Calls Tryz.prog 23 #[.agg #[.pointer (some ⟨A.p, 0, none⟩), .pointer (some ⟨R.p, 0, none⟩)], .agg #[.string x0, .string x1, .int .u32 x2, .int .u64 x3, .int .i64 x4, .int .i64 x5]] w fun e w' => e = .returned (.tuple #[]) ∧ PwPost w A R (V.item (x0, x1, x2, x3, x4, x5)) S T w' := by
  have HH := Lib.hid h
  obtain ⟨B, hB⟩ : ∃ B, B = w.heap.size := ⟨_, rfl⟩
  have HB := Lib.hid hB
  clear h hB
  go_enter Tryz.func23, Tryz.ntmps23
  go_wp2_with fail
  generalize hW : World.alloc (World.alloc w _) _ = W
  have bW : Below w.heap.size w W := by rw [← hW]; exact ((Below.refl _ _).alloc (Nat.le_refl _) _).alloc (by simp) _
  have e0 : W.cell? ⟨w.heap.size, 0, none⟩ = some (.pointer (some ⟨A.p, 0, none⟩)) := by rw [← hW]; simp [World.cell?_alloc_some]
  have e1 : W.cell? ⟨w.heap.size, 1, none⟩ = some (.pointer (some ⟨R.p, 0, none⟩)) := by rw [← hW]; simp [World.cell?_alloc_some]
  have y0 : W.cell? ⟨w.heap.size + 1, 0, none⟩ = some (.string x0) := by rw [← hW]; exact at_new (by simp) rfl
  have y1 : W.cell? ⟨w.heap.size + 1, 1, none⟩ = some (.string x1) := by rw [← hW]; exact at_new (by simp) rfl
  have y2 : W.cell? ⟨w.heap.size + 1, 2, none⟩ = some (.int .u32 x2) := by rw [← hW]; exact at_new (by simp) rfl
  have y3 : W.cell? ⟨w.heap.size + 1, 3, none⟩ = some (.int .u64 x3) := by rw [← hW]; exact at_new (by simp) rfl
  have y4 : W.cell? ⟨w.heap.size + 1, 4, none⟩ = some (.int .i64 x4) := by rw [← hW]; exact at_new (by simp) rfl
  have y5 : W.cell? ⟨w.heap.size + 1, 5, none⟩ = some (.int .i64 x5) := by rw [← hW]; exact at_new (by simp) rfl
  clear hW
  have hST : ∀ j, S j ∨ T j → j < w.heap.size := fun j s => by
    rcases s with s | s
    · exact HH.out.a.lt j s
    · obtain ⟨L, ⟨TC, TI, TN, r⟩, -⟩ := HH.out.r
      exact r.lt j s
  have hq : Pw W.drew A R V S T := HH.out.new (Below.drew bW)
  rw [show w.heap.size = B from HB.out.symm] at e0 e1 y0 y1 y2 y3 y4 y5 hST ⊢
  have nB : ¬ (S B ∨ T B) := fun s => by have := hST B s; omega
  have nC : ¬ (S (B + 1) ∨ T (B + 1)) := fun s => by have := hST (B + 1) s; omega
  have hS : ∀ X, Keeps (fun j => S j ∨ T j) W.drew X → (X.cell? ⟨B, 0, none⟩ = some (.pointer (some ⟨A.p, 0, none⟩)) ∧ X.cell? ⟨B, 1, none⟩ = some (.pointer (some ⟨R.p, 0, none⟩))) ∧ X.cell? ⟨B + 1, 0, none⟩ = some (.string x0) ∧ X.cell? ⟨B + 1, 1, none⟩ = some (.string x1) ∧ X.cell? ⟨B + 1, 2, none⟩ = some (.int .u32 x2) ∧ X.cell? ⟨B + 1, 3, none⟩ = some (.int .u64 x3) ∧ X.cell? ⟨B + 1, 4, none⟩ = some (.int .i64 x4) ∧ X.cell? ⟨B + 1, 5, none⟩ = some (.int .i64 x5) := fun X hk =>
    ⟨⟨hk.cell (p := ⟨B, 0, none⟩) nB e0, hk.cell (p := ⟨B, 1, none⟩) nB e1⟩, hk.cell (p := ⟨B + 1, 0, none⟩) nC y0, hk.cell (p := ⟨B + 1, 1, none⟩) nC y1, hk.cell (p := ⟨B + 1, 2, none⟩) nC y2, hk.cell (p := ⟨B + 1, 3, none⟩) nC y3, hk.cell (p := ⟨B + 1, 4, none⟩) nC y4, hk.cell (p := ⟨B + 1, 5, none⟩) nC y5⟩
  have HS := Lib.hid hS
  have CA : Hid (Calls Tryz.prog 44 #[.pointer (some ⟨A.pi, 0, none⟩), .agg #[.string x0, .string x1, .int .u32 x2, .int .u64 x3, .int .i64 x4, .int .i64 x5]] W.drew fun e w' => (∃ v, e = .returned v) ∧ WdPost W.drew A (V.item (x0, x1, x2, x3, x4, x5)) S w') := Lib.hid (by
    obtain ⟨n, SC, SI, SN, ha⟩ := hq.a
    refine (iadd_any ha.it hI x0 x1 x2 x3 x4 x5 rfl).mono ?_
    rintro e w' ⟨rfl, SI', t, q⟩
    exact ⟨⟨_, rfl⟩, ha.item _ t q⟩)
  have c1 : W.drew.cell? ⟨A.p, 1, none⟩ = some (.pointer (some ⟨A.pi, 0, none⟩)) := hq.a.box.c1
  obtain ⟨⟨s0, s1⟩, z0, z1, z2, z3, z4, z5⟩ := HS.out W.drew (Keeps.refl _ _)
  have HQ := Lib.hid hq
  have HBW := Lib.hid (Below.drew bW)
  clear hq bW hST hS e0 e1 y0 y1 y2 y3 y4 y5 s1
  go_region_held3 (fun X => X.cell? ⟨B, 0, none⟩ = some (.pointer (some ⟨A.p, 0, none⟩)) ∧ X.cell? ⟨A.p, 1, none⟩ = some (.pointer (some ⟨A.pi, 0, none⟩)) ∧ X.cell? ⟨B + 1, 0, none⟩ = some (.string x0) ∧ X.cell? ⟨B + 1, 1, none⟩ = some (.string x1) ∧ X.cell? ⟨B + 1, 2, none⟩ = some (.int .u32 x2) ∧ X.cell? ⟨B + 1, 3, none⟩ = some (.int .u64 x3) ∧ X.cell? ⟨B + 1, 4, none⟩ = some (.int .i64 x4) ∧ X.cell? ⟨B + 1, 5, none⟩ = some (.int .i64 x5))
    (first | exact ⟨by assumption, by assumption, by assumption, by assumption, by assumption, by assumption, by assumption, by assumption⟩)
    (first
      | (go_at_call 44; ((with_reducible refine CA.out.mono ?_); rintro e w2 ⟨⟨v, rfl⟩, hp⟩; have hm := HQ.out.mid hp; obtain ⟨S', t, hw, -⟩ := id hm; replace c1 := hw.box.c1; clear s0 z0 z1 z2 z3 z4 z5; obtain ⟨⟨s0, s1⟩, z0, z1, z2, z3, z4, z5⟩ := HS.out w2 (t.keeps.mono (fun _ _ s => .inl s)); have HM := Lib.hid hm; clear hm t hw hp)))
  all_goals
    clear c1 CA s0
    obtain ⟨S', t, hw, ⟨L, ⟨TC, TI, TN, hr⟩, hl, hn⟩, -⟩ := HM.out.new (Below.drew (Below.refl _ _))
    have c2 : w2.drew.cell? ⟨R.p, 1, none⟩ = some (.pointer (some ⟨R.pi, 0, none⟩)) := hr.box.c1
    have CR : Hid (Calls Tryz.prog 58 #[.pointer (some ⟨R.pi, 0, none⟩), .agg #[.string x0, .string x1, .int .u32 x2, .int .u64 x3, .int .i64 x4, .int .i64 x5]] w2.drew fun e w' => (∃ v, e = .returned v) ∧ PwPost W.drew A R (V.item (x0, x1, x2, x3, x4, x5)) S T w') := Lib.hid (by
      refine (radd hr.it hI x0 x1 x2 x3 x4 x5 rfl).mono ?_
      rintro e w3 ⟨rfl, TI', t3, q⟩
      obtain ⟨T', t3, hr3⟩ := hr.item _ t3 q
      exact ⟨⟨_, rfl⟩, (HM.out.new (Below.drew (Below.refl _ _))).post t3 hr3 hl hn⟩)
    clear t hw hr hl hn HM
    go_wp2_with fail
    go_region_held3 (fun X => X.cell? ⟨B, 1, none⟩ = some (.pointer (some ⟨R.p, 0, none⟩)) ∧ X.cell? ⟨R.p, 1, none⟩ = some (.pointer (some ⟨R.pi, 0, none⟩)) ∧ X.cell? ⟨B + 1, 0, none⟩ = some (.string x0) ∧ X.cell? ⟨B + 1, 1, none⟩ = some (.string x1) ∧ X.cell? ⟨B + 1, 2, none⟩ = some (.int .u32 x2) ∧ X.cell? ⟨B + 1, 3, none⟩ = some (.int .u64 x3) ∧ X.cell? ⟨B + 1, 4, none⟩ = some (.int .i64 x4) ∧ X.cell? ⟨B + 1, 5, none⟩ = some (.int .i64 x5))
      (first | exact ⟨by assumption, by assumption, by assumption, by assumption, by assumption, by assumption, by assumption, by assumption⟩)
      (first
        | (go_at_call 58; ((with_reducible refine CR.out.mono ?_); rintro e w3 ⟨⟨v3, rfl⟩, hp3⟩; clear s1 c2 z0 z1 z2 z3 z4 z5; obtain ⟨⟨-, s1⟩, z0, z1, z2, z3, z4, z5⟩ := HS.out w3 hp3.keeps; have c2 := hp3.c1; have HD := Lib.hid (PwPost.after HBW.out hp3); clear hp3)))
  all_goals
    first
      | exact ⟨rfl, HD.out⟩
      | (go_end0; exact ⟨rfl, HD.out⟩)
      | (go_wp2_with fail; go_end0; exact ⟨rfl, HD.out⟩)
end
end Go.Proofs.YtodppilfpemepaaGreat
/- Next: A pair of worlds: Tick. -/
namespace Go.Proofs.YtodppilfpemepaaGreat
open Go.RowKit Go.Maps
set_option linter.unusedVariables false

section
variable {w w' : World} {A R : Ad} {V : Wv} {S T : Nat → Prop}
theorem rw_peek {L : List (Int × Int)} (h : Rw w R V L T) (hl : IsLs L V.f) {a : Int} (ha : isU a) : Calls Tryz.prog 62 #[.pointer (some ⟨R.p, 0, none⟩), .int .u64 a] w fun e w' => e = .returned (.int .u64 (V.f a)) ∧ ∃ n, w' = w.drewN n := by
  obtain ⟨TC, TI, TN, r⟩ := h
  have c0 := r.box.c0
  have C := Lib.hid (rgc_peek r.cel (hl.peek ha))
  clear r hl
  go_enter Tryz.func62, Tryz.ntmps62
  go_wp2_with fail
  refine C.out.mono ?_
  rintro e w' ⟨rfl, n, rfl⟩
  go_wp2_with fail
  go_ret
  exact ⟨rfl, n, rfl⟩
theorem rw_cas {L : List (Int × Int)} (h : Rw w R V L T) (hL : (L.length : Int) ≤ V.cnt + 1000000) (hl : IsLs L V.f) (hc0 : 0 ≤ V.cnt) (hc : V.cnt < 100000000) {a : Int} (ha : isU a) (v : Int) :
    Calls Tryz.prog 108 #[.pointer (some ⟨R.p, 0, none⟩), .int .u64 a, .int .u64 (V.f a), .int .u64 v] w fun e w' => e = .returned (.tuple #[.int .u64 (V.f a), .bool true]) ∧ ∃ T', Turn T T' w w' ∧ Rw w' R (V.acc (upd V.f a v) 3 a (V.f a) v) (putL L a v) T' := by
  obtain ⟨TC, TI, TN, r⟩ := h
  have c0 := r.box.c0
  have C := Lib.hid (rg_cas r.cel (by omega) hc0 (by omega) (hl.peek ha) (V.f a) v (b := true) (by simp))
  have HR := Lib.hid r
  clear r hl
  generalize hz : V.f a = z at *
  go_enter Tryz.func108, Tryz.ntmps108
  go_wp2_with fail
  refine C.out.mono ?_
  rintro e w' ⟨rfl, hp⟩
  have HP := Lib.hid (HR.out.acc (f := upd V.f a v) hp)
  clear hp
  go_wp2_with fail
  go_ret2
  exact ⟨rfl, HP.out⟩
set_option maxHeartbeats 1000000 in
set_option maxRecDepth 100000 in
theorem rw_tick {L : List (Int × Int)} (h : Rw w R V L T) (hL : (L.length : Int) ≤ V.cnt + 1000000) (hl : IsLs L V.f) (hc0 : 0 ≤ V.cnt) (hc : V.cnt < 100000000) (hu : isU (V.f 8)) :
    Calls Tryz.prog 68 #[.pointer (some ⟨R.p, 0, none⟩)] w fun e w' => e = .returned (.tuple #[]) ∧ ∃ T', Turn T T' w w' ∧ Rw w' R (V.acc (upd V.f 8 (tickf (V.f 8))) 3 8 (V.f 8) (tickf (V.f 8))) (putL L 8 (tickf (V.f 8))) T' := by
  have C := Lib.hid (rw_peek h hl (a := 8) ⟨by decide, by decide⟩)
  have CT := Lib.hid (fun W => rtick (V.f 8) W hu.1 hu.2)
  have CC : Hid (∀ W, Below w.heap.size w W → Calls Tryz.prog 108 #[.pointer (some ⟨R.p, 0, none⟩), .int .u64 8, .int .u64 (V.f 8), .int .u64 (tickf (V.f 8))] W fun e w' => e = .returned (.tuple #[.int .u64 (V.f 8), .bool true]) ∧ ∃ T', Turn T T' w w' ∧ Rw w' R (V.acc (upd V.f 8 (tickf (V.f 8))) 3 8 (V.f 8) (tickf (V.f 8))) (putL L 8 (tickf (V.f 8))) T') :=
    Lib.hid (fun W hb => (rw_cas (h.new hb) hL hl hc0 hc (a := 8) ⟨by decide, by decide⟩ (tickf (V.f 8))).mono (fun e w' hp => by
      obtain ⟨rfl, T', t, hr⟩ := hp
      exact ⟨rfl, T', Turn.after hb t, hr⟩))
  have HU := Lib.hid (isU_tick (V.f 8))
  clear h hl hL hc0 hc hu
  generalize V.acc _ _ _ _ _ = V' at *
  generalize putL _ _ _ = L' at *
  generalize tickf (V.f 8) = t at *
  generalize V.f 8 = z at *
  go_enter Tryz.func68, Tryz.ntmps68
  go_wp2_with fail
  refine C.out.mono ?_
  rintro e w' ⟨rfl, n, rfl⟩
  have HB := Lib.hid (drewN_below w n)
  go_wp2_with fail
  refine (CT.out _).mono ?_
  rintro e w' ⟨rfl, rfl⟩
  go_wp2_with fail
  refine (CC.out _ HB.out).mono ?_
  rintro e w' ⟨rfl, hp⟩
  have HP := Lib.hid hp
  clear hp
  go_wp2_with fail
  go_end0
  exact ⟨rfl, HP.out⟩
set_option maxHeartbeats 2000000 in
set_option maxRecDepth 100000 in
theorem pw_tick (h : Pw w A R V S T) (hc : V.cnt < 100000000) :
    Calls Tryz.prog 25 #[.agg #[.pointer (some ⟨A.p, 0, none⟩), .pointer (some ⟨R.p, 0, none⟩)]] w fun e w' => e = .returned (.tuple #[]) ∧ PwPost w A R (V.acc (upd V.f 8 (tickf (V.f 8))) 3 8 (V.f 8) (tickf (V.f 8))) S T w' := by
  have HH := Lib.hid h
  have hc0 : 0 ≤ V.cnt := by obtain ⟨n, SC, SI, SN, h⟩ := h.a; exact h.cnt0
  have hu : isU (V.f 8) := h.a.rng (a := 8) ⟨by decide, by decide⟩
  obtain ⟨B, hB⟩ : ∃ B, B = w.heap.size := ⟨_, rfl⟩
  have HB := Lib.hid hB
  clear h hB
  go_enter Tryz.func25, Tryz.ntmps25
  go_wp2_with fail
  generalize hW : World.alloc w _ = W
  have bW : Below w.heap.size w W := by rw [← hW]; exact (Below.refl _ _).alloc (Nat.le_refl _) _
  have e0 : W.cell? ⟨w.heap.size, 0, none⟩ = some (.pointer (some ⟨A.p, 0, none⟩)) := by rw [← hW]; exact at_new rfl rfl
  have e1 : W.cell? ⟨w.heap.size, 1, none⟩ = some (.pointer (some ⟨R.p, 0, none⟩)) := by rw [← hW]; exact at_new rfl rfl
  clear hW
  have hST : ∀ j, S j ∨ T j → j < w.heap.size := fun j s => by
    rcases s with s | s
    · exact HH.out.a.lt j s
    · obtain ⟨L, ⟨TC, TI, TN, r⟩, -⟩ := HH.out.r
      exact r.lt j s
  have hq : Pw W A R V S T := HH.out.new bW
  rw [show w.heap.size = B from HB.out.symm] at e0 e1 hST
  have nB : ¬ S B := fun s => by have := hST B (.inl s); omega
  have CS := Lib.hid (wtick hq.a (by omega))
  have HQ := Lib.hid hq
  have HBW := Lib.hid bW
  clear hq bW hST
  try rw [show w.heap.size = B from HB.out.symm]
  refine CS.out.mono ?_
  rintro e w2 ⟨rfl, hp⟩
  have hm := HQ.out.mid hp
  obtain ⟨S', t, hw, ⟨L, hr, hl, hn⟩, -⟩ := id hm
  replace e1 := t.keeps.cell (p := ⟨B, 1, none⟩) nB e1
  have CR : Hid (∀ W2, Below w2.heap.size w2 W2 → Calls Tryz.prog 68 #[.pointer (some ⟨R.p, 0, none⟩)] W2 fun e w' => e = .returned (.tuple #[]) ∧ PwPost w A R (V.acc (upd V.f 8 (tickf (V.f 8))) 3 8 (V.f 8) (tickf (V.f 8))) S T w') := Lib.hid (fun W2 hb => by
    refine (rw_tick (hr.new hb) hn hl hc0 hc hu).mono ?_
    rintro e w3 ⟨rfl, T', t3, hr3⟩
    refine ⟨rfl, PwPost.after HBW.out ((hm.new hb).post t3 hr3 (hl.put ⟨by decide, by decide⟩ (isU_tick _)) ?_)⟩
    have h1 := goL_len 8 (tickf (V.f 8)) L (tickf (V.f 8) == 0)
    have h3 : (putL L 8 (tickf (V.f 8))).length ≤ L.length + 1 := h1
    show ((putL L 8 (tickf (V.f 8))).length : Int) ≤ V.cnt + 1 + 1000000
    omega)
  clear t hw hr hl hn hm hp e0 CS
  go_wp2_with fail
  refine (CR.out _ ?_).mono ?_
  · first
      | exact Below.refl _ _
      | exact Below.drew (Below.refl _ _)
      | exact drewN_below _ _
  rintro e w3 ⟨rfl, hp⟩
  have HP := Lib.hid hp
  clear hp
  go_wp2_with fail
  go_end0
  exact ⟨rfl, HP.out⟩
end
end Go.Proofs.YtodppilfpemepaaGreat
/- Next: The chapter's world: an item of a number; the pieces of a put. -/
namespace Go.Proofs.YtodppilfpemepaaGreat
open Go.RowKit Go.Maps
set_option linter.unusedVariables false

section
variable {w w' : World} {A R : Ad} {V : Wv} {S T : Nat → Prop}
set_option maxHeartbeats 1000000 in
set_option maxRecDepth 100000 in
theorem rw_item {L : List (Int × Int)} (h : Rw w R V L T) {i : Nat} (hi : (i : Int) < 2000000) {k vl : ByteArray} {fl id di ge : Int} (hx : V.I[i]? = some (k, vl, fl, id, di, ge)) {ref : Int} (hr : ref = (i : Int) + 1) :
    Calls Tryz.prog 60 #[.pointer (some ⟨R.p, 0, none⟩), .int .i64 ref] w fun e w' => e = .returned (.agg #[.string k, .string vl, .int .u32 fl, .int .u64 id, .int .i64 di, .int .i64 ge]) ∧ Below w.heap.size w w' := by
  obtain ⟨TC, TI, TN, r⟩ := h
  have c1 := r.box.c1
  have hlt := r.box.lt
  have C : Hid (∀ W, Below w.heap.size w W → Calls Tryz.prog 36 #[.pointer (some ⟨R.pi, 0, none⟩), .int .i64 ref] W fun e w' => e = .returned (.tuple #[.agg #[.string k, .string vl, .int .u32 fl, .int .u64 id, .int .i64 di, .int .i64 ge], .bool true]) ∧ Below W.heap.size W w') := Lib.hid (fun W hb => by
    refine (rat_some (r.it.keep (Keeps.of_new (S := fun _ => False) hb) (fun _ _ s => s)) i hi hx hr).mono ?_
    rintro e w' ⟨rfl, hb2⟩
    exact ⟨rfl, hb2⟩)
  clear r hx hr
  go_enter Tryz.func60, Tryz.ntmps60
  go_wp2_with fail
  generalize hW : World.alloc w _ = W
  have bW : Below w.heap.size w W := by rw [← hW]; exact (Below.refl _ _).alloc (Nat.le_refl _) _
  have hz : w.heap.size < W.heap.size := by rw [← hW]; simp
  obtain ⟨y0, y1, y2, y3, y4, y5⟩ : (W.cell? ⟨w.heap.size, 0, none⟩ = some (.string ⟨#[]⟩) ∧ W.cell? ⟨w.heap.size, 1, none⟩ = some (.string ⟨#[]⟩) ∧ W.cell? ⟨w.heap.size, 2, none⟩ = some (.int .u32 0) ∧ W.cell? ⟨w.heap.size, 3, none⟩ = some (.int .u64 0) ∧ W.cell? ⟨w.heap.size, 4, none⟩ = some (.int .i64 0) ∧ W.cell? ⟨w.heap.size, 5, none⟩ = some (.int .i64 0)) := by
    rw [← hW]; exact ⟨at_new rfl rfl, at_new rfl rfl, at_new rfl rfl, at_new rfl rfl, at_new rfl rfl, at_new rfl rfl⟩
  obtain ⟨f0, f1, f2, f3, f4, f5⟩ : (W.frozen? ⟨w.heap.size, 0, none⟩ = false ∧ W.frozen? ⟨w.heap.size, 1, none⟩ = false ∧ W.frozen? ⟨w.heap.size, 2, none⟩ = false ∧ W.frozen? ⟨w.heap.size, 3, none⟩ = false ∧ W.frozen? ⟨w.heap.size, 4, none⟩ = false ∧ W.frozen? ⟨w.heap.size, 5, none⟩ = false) := by
    rw [← hW]; exact ⟨World.frozen?_alloc_at _ _ _ _ rfl, World.frozen?_alloc_at _ _ _ _ rfl, World.frozen?_alloc_at _ _ _ _ rfl, World.frozen?_alloc_at _ _ _ _ rfl, World.frozen?_alloc_at _ _ _ _ rfl, World.frozen?_alloc_at _ _ _ _ rfl⟩
  clear hW
  refine (C.out W bW).mono ?_
  rintro e w1 ⟨rfl, hb⟩
  replace y0 := (hb.cell (p := ⟨w.heap.size, 0, none⟩) hz).trans y0
  replace y1 := (hb.cell (p := ⟨w.heap.size, 1, none⟩) hz).trans y1
  replace y2 := (hb.cell (p := ⟨w.heap.size, 2, none⟩) hz).trans y2
  replace y3 := (hb.cell (p := ⟨w.heap.size, 3, none⟩) hz).trans y3
  replace y4 := (hb.cell (p := ⟨w.heap.size, 4, none⟩) hz).trans y4
  replace y5 := (hb.cell (p := ⟨w.heap.size, 5, none⟩) hz).trans y5
  replace f0 := (World.frozen?_of_block (w := W) (a := ⟨w.heap.size, 0, none⟩) (hb.block w.heap.size hz)).trans f0
  replace f1 := (World.frozen?_of_block (w := W) (a := ⟨w.heap.size, 1, none⟩) (hb.block w.heap.size hz)).trans f1
  replace f2 := (World.frozen?_of_block (w := W) (a := ⟨w.heap.size, 2, none⟩) (hb.block w.heap.size hz)).trans f2
  replace f3 := (World.frozen?_of_block (w := W) (a := ⟨w.heap.size, 3, none⟩) (hb.block w.heap.size hz)).trans f3
  replace f4 := (World.frozen?_of_block (w := W) (a := ⟨w.heap.size, 4, none⟩) (hb.block w.heap.size hz)).trans f4
  replace f5 := (World.frozen?_of_block (w := W) (a := ⟨w.heap.size, 5, none⟩) (hb.block w.heap.size hz)).trans f5
  have HB := Lib.hid (bW.trans (hb.mono (Nat.le_of_lt hz)))
  have hz1 : w.heap.size < w1.heap.size := Nat.lt_of_lt_of_le hz hb.size
  clear hb bW C c1 hz hi hlt
  obtain ⟨B, hB⟩ : ∃ B, B = w.heap.size := ⟨_, rfl⟩
  rw [← hB] at y0 y1 y2 y3 y4 y5 f0 f1 f2 f3 f4 f5 hz1 ⊢
  have HE := Lib.hid hB
  clear hB
  obtain ⟨N, hN⟩ : ∃ N, N = w1.heap.size := ⟨_, rfl⟩
  go_upto_region 2 with (fail)
  generalize hW2 : World.alloc w1 _ = W2
  have bW2 : Below w1.heap.size w1 W2 := by rw [← hW2]; exact (Below.refl _ _).alloc (Nat.le_refl _) _
  have z0 : W2.cell? ⟨w1.heap.size, 0, none⟩ = some (.string k) := by rw [← hW2]; exact at_new rfl rfl
  have z1 : W2.cell? ⟨w1.heap.size, 1, none⟩ = some (.string vl) := by rw [← hW2]; exact at_new rfl rfl
  have z2 : W2.cell? ⟨w1.heap.size, 2, none⟩ = some (.int .u32 fl) := by rw [← hW2]; exact at_new rfl rfl
  have z3 : W2.cell? ⟨w1.heap.size, 3, none⟩ = some (.int .u64 id) := by rw [← hW2]; exact at_new rfl rfl
  have z4 : W2.cell? ⟨w1.heap.size, 4, none⟩ = some (.int .i64 di) := by rw [← hW2]; exact at_new rfl rfl
  have z5 : W2.cell? ⟨w1.heap.size, 5, none⟩ = some (.int .i64 ge) := by rw [← hW2]; exact at_new rfl rfl
  clear hW2
  replace y0 := (bW2.cell (p := ⟨B, 0, none⟩) hz1).trans y0
  replace f0 := (World.frozen?_of_block (w := w1) (a := ⟨B, 0, none⟩) (bW2.block B hz1)).trans f0
  replace y1 := (bW2.cell (p := ⟨B, 1, none⟩) hz1).trans y1
  replace f1 := (World.frozen?_of_block (w := w1) (a := ⟨B, 1, none⟩) (bW2.block B hz1)).trans f1
  replace y2 := (bW2.cell (p := ⟨B, 2, none⟩) hz1).trans y2
  replace f2 := (World.frozen?_of_block (w := w1) (a := ⟨B, 2, none⟩) (bW2.block B hz1)).trans f2
  replace y3 := (bW2.cell (p := ⟨B, 3, none⟩) hz1).trans y3
  replace f3 := (World.frozen?_of_block (w := w1) (a := ⟨B, 3, none⟩) (bW2.block B hz1)).trans f3
  replace y4 := (bW2.cell (p := ⟨B, 4, none⟩) hz1).trans y4
  replace f4 := (World.frozen?_of_block (w := w1) (a := ⟨B, 4, none⟩) (bW2.block B hz1)).trans f4
  replace y5 := (bW2.cell (p := ⟨B, 5, none⟩) hz1).trans y5
  replace f5 := (World.frozen?_of_block (w := w1) (a := ⟨B, 5, none⟩) (bW2.block B hz1)).trans f5
  have HB2 := Lib.hid (HB.out.trans (bW2.mono (by have := HB.out.size; omega)))
  rw [← hN] at z0 z1 z2 z3 z4 z5 hz1 ⊢
  clear hN bW2 HB
  go_wp2_with fail
  have HF : Below w.heap.size w ((((((W2.setCell ⟨B, 0, none⟩ (.string k)).setCell ⟨B, 1, none⟩ (.string vl)).setCell ⟨B, 2, none⟩ (.int .u32 fl)).setCell ⟨B, 3, none⟩ (.int .u64 id)).setCell ⟨B, 4, none⟩ (.int .i64 di)).setCell ⟨B, 5, none⟩ (.int .i64 ge)) := by
    have hge : w.heap.size ≤ B := by have := HE.out; omega
    exact (((((HB2.out.setCell hge _).setCell hge _).setCell hge _).setCell hge _).setCell hge _).setCell hge _
  first
    | (go_ret; exact ⟨rfl, HF⟩)
    | (refine bodyPost_ret (v := .agg #[.string k, .string vl, .int .u32 fl, .int .u64 id, .int .i64 di, .int .i64 ge]) (by simp [results, Tryz.results60, go_sem, y0, y1, y2, y3, y4, y5]) rfl ⟨rfl, HF⟩)
end
end Go.Proofs.YtodppilfpemepaaGreat
