/- A pair of worlds: the program's and the chapter's. -/
import Derived.Test.YtodppilfpemepaaGreatWd3
import Derived.Test.YtodppilfpemepaaGreatCp
import Derived.Test.YtodppilfpemepaaGreatRa
import Derived.Test.YtodppilfpemepaaGreatGNr
import Derived.Test.YtodppilfpemepaaGreatPq
namespace Go.Proofs.YtodppilfpemepaaGreat
open Go.RowKit Go.Maps
set_option linter.unusedVariables false

/-- The chapter's world, and all that it owns. -/
structure RwAt (w : World) (R : Ad) (V : Wv) (L : List (Int × Int)) (T TC TI TN : Nat → Prop) : Prop where
  box : IsBox w R V.c V.tk V.h
  cel : Rg w R.pc L V.cnt V.k V.a V.x V.y TC
  it : Ras w R.pi V.I TI
  nt : Nrs w R.pn V.M TN
  here : T R.p
  tc : ∀ k, TC k → T k ∧ k ≠ R.p ∧ ¬ TI k ∧ ¬ TN k
  ti : ∀ k, TI k → T k ∧ k ≠ R.p ∧ ¬ TN k
  tn : ∀ k, TN k → T k ∧ k ≠ R.p
  lt : ∀ k, T k → k < w.heap.size
def Rw (w : World) (R : Ad) (V : Wv) (L : List (Int × Int)) (T : Nat → Prop) : Prop := ∃ TC TI TN, RwAt w R V L T TC TI TN
theorem Rw.keep {w W : World} {R : Ad} {V : Wv} {L : List (Int × Int)} {T U : Nat → Prop} (h : Rw w R V L T) (hk : Keeps U w W) (hT : ∀ k, T k → ¬ U k) : Rw W R V L T := by
  obtain ⟨TC, TI, TN, b, c, i, m, h2, h3, h4, h5, h6⟩ := h
  exact ⟨TC, TI, TN, b.keep hk (hT _ h2), c.keep hk (fun k s => hT k (h3 k s).1), i.keep hk (fun k s => hT k (h4 k s).1), m.keep hk (fun k s => hT k (h5 k s).1), h2, h3, h4, h5, fun k s => Nat.lt_of_lt_of_le (h6 k s) hk.size⟩
theorem Rw.new {w W : World} {R : Ad} {V : Wv} {L : List (Int × Int)} {T : Nat → Prop} (h : Rw w R V L T) (hk : Below w.heap.size w W) : Rw W R V L T := h.keep (Keeps.of_new (S := fun _ => False) hk) (fun _ _ s => s)
/-- What an access leaves in the chapter's world. -/
theorem RwAt.acc {w w' : World} {R : Ad} {V : Wv} {L L' : List (Int × Int)} {T TC TI TN : Nat → Prop} (h : RwAt w R V L T TC TI TN) {f : Int → Int} {k a x y : Int} (hp : RPost w R.pc L' (V.cnt + 1) k a x y TC w') : ∃ T', Turn T T' w w' ∧ Rw w' R (V.acc f k a x y) L' T' := by
  obtain ⟨TC', t, q⟩ := hp
  have hsz := t.keeps.size
  have hne : ∀ k, TC' k → TC k ∨ w.heap.size ≤ k := fun k s => (t.only k s).imp id (fun h => h.1)
  refine ⟨fun k => T k ∨ TC' k, ⟨t.keeps.mono (fun k _ s => (h.tc k s).1), fun k s => ?_⟩, TC', TI, TN, h.box.keep t.keeps (fun s => (h.tc _ s).2.1 rfl), q, h.it.keep t.keeps (fun k s s' => (h.tc k s').2.2.1 s), h.nt.keep t.keeps (fun k s s' => (h.tc k s').2.2.2 s), .inl h.here, fun k s => ?_, fun k s => ⟨.inl (h.ti k s).1, (h.ti k s).2⟩, fun k s => ⟨.inl (h.tn k s).1, (h.tn k s).2⟩, fun k s => ?_⟩
  · rcases s with s | s
    · exact .inl s
    · rcases t.only k s with s | s
      · exact .inl (h.tc k s).1
      · exact .inr s
  · refine ⟨.inr s, ?_⟩
    rcases hne k s with s | s
    · exact (h.tc k s).2
    · refine ⟨fun e => ?_, fun s' => ?_, fun s' => ?_⟩
      · have := h.box.lt; omega
      · have := h.lt k (h.ti k s').1; omega
      · have := h.lt k (h.tn k s').1; omega
  · rcases s with s | s
    · have := h.lt k s; omega
    · rcases t.only k s with s | s
      · have := h.lt k (h.tc k s).1; omega
      · exact s.2
/-- Both of them, side by side. -/
structure Pw (w : World) (A R : Ad) (V : Wv) (S T : Nat → Prop) : Prop where
  a : Wd w A V S
  r : ∃ L, Rw w R V L T ∧ IsLs L V.f ∧ (L.length : Int) ≤ V.cnt + 1000000
  dis : ∀ j, S j → ¬ T j
theorem Pw.keep {w W : World} {A R : Ad} {V : Wv} {S T U : Nat → Prop} (h : Pw w A R V S T) (hk : Keeps U w W) (hS : ∀ j, S j → ¬ U j) (hT : ∀ j, T j → ¬ U j) : Pw W A R V S T := by
  obtain ⟨a, ⟨L, r, l⟩, d⟩ := h
  exact ⟨a.keep hk hS, ⟨L, r.keep hk hT, l⟩, d⟩
theorem Pw.new {w W : World} {A R : Ad} {V : Wv} {S T : Nat → Prop} (h : Pw w A R V S T) (hb : Below w.heap.size w W) : Pw W A R V S T := h.keep (Keeps.of_new (S := fun _ => False) hb) (fun _ _ s => s) (fun _ _ s => s)
/-- The cells of both. -/
theorem Pw.cp {w : World} {A R : Ad} {V : Wv} {S T : Nat → Prop} (h : Pw w A R V S T) : ∃ L n SC TC, CP w A.pc R.pc V.f V.cnt V.k V.a V.x V.y L n SC TC ∧ (n : Int) ≤ V.cnt + 1000000 := by
  obtain ⟨⟨n, SC, SI, SN, ha⟩, ⟨L, ⟨TC, TI, TN, hr⟩, hl, hn⟩, hd⟩ := h
  exact ⟨L, n, SC, TC, ⟨ha.cel, hr.cel, hl, fun j s t => hd j (ha.sc j s).1 (hr.tc j t).1, fun j s => ha.lt j (ha.sc j s).1, hn⟩, ha.cntn⟩
/-- What is read of the cells of both boxes. -/
theorem box_tk {w : World} {A : Ad} {c : Cfg} {tk : Nat → Int} {h : Int} (b : IsBox w A c tk h) : w.rangeAt A.p 8 (tkCells tk) := fun j v hv => by
  obtain ⟨hj, rfl⟩ := tk_at hv
  exact b.ct j hj
theorem arr64 : Tryz.prog.underlying 74 = some (.array 64 22) := by kernel_rfl
theorem arr64_size : (Tryz.prog.info? 74).map (·.size) = some 64 := by kernel_rfl
theorem arr64_one : Tryz.prog.cellsOf 22 = 1 := by kernel_rfl
theorem arr64_u : Tryz.prog.underlying 22 = some (.int .u64) := by kernel_rfl
theorem box_load {w : World} {A : Ad} {c : Cfg} {tk : Nat → Int} {h : Int} (b : IsBox w A c tk h) : (Instr.loadAt 74 (.pointer (some ⟨A.p, 8, none⟩))).run Tryz.prog w = .ok (.agg (tkCells tk).toArray) w :=
  run_loadAt_mid w A.p 8 74 (tkCells tk) _ (box_tk b) arr64 rfl (by rw [tk_len]; exact arr64_size)
theorem tk_eql (tk : Nat → Int) (w : World) : (binOp .eql 74 (.agg (tkCells tk).toArray) (.agg (tkCells tk).toArray)).run Tryz.prog w = .ok (.bool true) w :=
  eql_self arr64 arr64_u arr64_one _ (tk_some tk) w
section
variable {w : World} {A R : Ad} {V : Wv} {S T : Nat → Prop}
theorem rsteps {L : List (Int × Int)} (h : Rw w R V L T) : Calls Tryz.prog 73 #[.pointer (some ⟨R.p, 0, none⟩)] w fun e w' => e = .returned (.int .i64 V.cnt) ∧ w = w' := by
  obtain ⟨TC, TI, TN, h⟩ := h
  have c0 := h.box.c0
  have c1 := h.cel.c1
  clear h
  go_enter Tryz.func73, Tryz.ntmps73
  go_wp2
  go_ret
  exact ⟨rfl, rfl⟩
end
end Go.Proofs.YtodppilfpemepaaGreat
