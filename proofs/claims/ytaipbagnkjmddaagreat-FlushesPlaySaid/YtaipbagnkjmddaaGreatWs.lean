/- A world's notes: one more, all of them. -/
import Derived.Test.YtaipbagnkjmddaaGreatNlA
import Derived.Test.YtaipbagnkjmddaaGreatGPx
import Derived.Test.YtaipbagnkjmddaaGreatOb
import Derived.Deep.RegionHeld3
namespace Go.Proofs.YtaipbagnkjmddaaGreat
open Go.RowKit Go.Maps
set_option linter.unusedVariables false
def Wv.note (V : Wv) (x : Nv) : Wv := { V with M := addL V.M x }
section
variable {w w' : World} {A : Ad} {V : Wv} {S : Nat → Prop}
theorem WdAt.note {n : Nat} {SC SI SN SN' : Nat → Prop} (h : WdAt w A V n S SC SI SN) (x : Nv) (t : Turn SN SN' w w') (q : Nts w' A.pn (addL V.M x) SN') : WdPost w A (V.note x) S w' := by
  have hsz := t.keeps.size
  have hne : ∀ k, SN' k → SN k ∨ w.heap.size ≤ k := fun k s => (t.only k s).imp id (fun h => h.1)
  refine ⟨fun k => S k ∨ SN' k, ⟨t.keeps.mono (fun k _ s => (h.sn k s).1), fun k s => ?_⟩, n, SC, SI, SN', h.box.keep t.keeps (fun s => (h.sn _ s).2 rfl), IsCells.keep h.cel t.keeps (fun k s s' => (h.sc k s).2.2.2 s'), h.it.keep t.keeps (fun k s s' => (h.si k s).2.2 s'), q, h.cnt0, h.cntn, .inl h.here, fun k s => ⟨.inl (h.sc k s).1, (h.sc k s).2.1, (h.sc k s).2.2.1, fun s' => ?_⟩, fun k s => ⟨.inl (h.si k s).1, (h.si k s).2.1, fun s' => ?_⟩, fun k s => ⟨.inr s, ?_⟩, fun k s => ?_⟩
  · rcases s with s | s
    · exact .inl s
    · rcases t.only k s with s | s
      · exact .inl (h.sn k s).1
      · exact .inr s
  · rcases hne k s' with s' | s'
    · exact (h.sc k s).2.2.2 s'
    · have := h.lt k (h.sc k s).1; omega
  · rcases hne k s' with s' | s'
    · exact (h.si k s).2.2 s'
    · have := h.lt k (h.si k s).1; omega
  · rcases hne k s with s | s
    · exact (h.sn k s).2
    · have := h.box.lt
      omega
  · rcases s with s | s
    · have := h.lt k s; omega
    · rcases t.only k s with s | s
      · have := h.lt k (h.sn k s).1; omega
      · exact s.2
theorem wall (h : Wd w A V S) (hM : V.M.length ≤ 1048576) :
    Calls Tryz.prog 57 #[.pointer (some ⟨A.pn, 0, none⟩)] w (IsLst w 8 V.M.length (rowsN V.M)) := by
  obtain ⟨n, SC, SI, SN, ha⟩ := h
  exact allT w A.pn V.M ha.nt hM
theorem wncount (h : Wd w A V S) (hM : V.M.length ≤ 1048576) : Calls Tryz.prog 53 #[.pointer (some ⟨A.pn, 0, none⟩)] w fun e w' => e = .returned (.int .i64 V.M.length) ∧ w = w' := by
  obtain ⟨n, SC, SI, SN, ha⟩ := h
  exact countT ha.nt hM
theorem witem (h : Wd w A V S) (hI : V.I.length < 1048576) (x0 x1 : ByteArray) (x2 x3 x4 x5 : Int) :
    Calls Tryz.prog 73 #[.pointer (some ⟨A.pi, 0, none⟩), .agg #[.string x0, .string x1, .int .u32 x2, .int .u64 x3, .int .i64 x4, .int .i64 x5]] w fun e w' => (∃ v, e = .returned v) ∧ WdPost w A (V.item (x0, x1, x2, x3, x4, x5)) S w' := by
  obtain ⟨n, SC, SI, SN, ha⟩ := h
  refine (iadd_any ha.it hI x0 x1 x2 x3 x4 x5 rfl).mono ?_
  rintro e w' ⟨rfl, SI', t, q⟩
  exact ⟨⟨_, rfl⟩, ha.item _ t q⟩
theorem wat (h : Wd w A V S) (hI : V.I.length ≤ 300) (ref : Int) :
    Calls Tryz.prog 58 #[.pointer (some ⟨A.pi, 0, none⟩), .int .i64 ref] w fun e w' => (∃ v, e = .returned v) ∧ Below w.heap.size w w' := by
  obtain ⟨n, SC, SI, SN, ha⟩ := h
  by_cases hr : ref < 1 ∨ (V.I.length : Int) < ref
  · exact (iat_no ha.it ref hr).mono fun e w' ⟨he, hb⟩ => ⟨⟨_, he⟩, hb⟩
  · obtain ⟨i, hi⟩ : ∃ i : Nat, ref = (i : Int) + 1 := ⟨(ref - 1).toNat, by omega⟩
    obtain ⟨⟨xk, xv, x2, x3, x4, x5⟩, hx⟩ : ∃ x, V.I[i]? = some x := ⟨_, List.getElem?_eq_getElem (by omega)⟩
    exact (iat_any ha.it i (by omega) hx hi).mono fun e w' ⟨he, hb⟩ => ⟨⟨_, he⟩, hb⟩
theorem wlast (h : Wd w A V S) : Calls Tryz.prog 52 #[.pointer (some ⟨A.pc, 0, none⟩)] w fun e w' => e = .returned (.agg #[.int .u8 V.k, .int .u64 V.a, .int .u64 V.x, .int .u64 V.y]) ∧ Below w.heap.size w w' := by
  obtain ⟨n, SC, SI, SN, ha⟩ := h
  exact last_any ha.cel
end
end Go.Proofs.YtaipbagnkjmddaaGreat
