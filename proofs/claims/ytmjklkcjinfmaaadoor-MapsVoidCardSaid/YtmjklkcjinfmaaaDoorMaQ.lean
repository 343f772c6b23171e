/- Maps: how a map lies in memory. -/
import Derived.Test.YtmjklkcjinfmaaaDoorMa7
import Derived.Maps.OwnSet
import Derived.Maps.Ext
namespace Go.Proofs.YtmjklkcjinfmaaaDoor
open Go.RowKit Go.Maps
set_option linter.unusedVariables false
def itV (x : Itm) : Value := .agg #[.string x.k, .string x.v, .int .u32 x.fl, .int .u64 x.id, .int .i64 x.dies, .int .i64 x.gen]
def itR (v : Value) : Option (DataW Value × List MemPlace) := some (.held v, [])
def kS (k : ByteArray) : Lit := .string k.data.toList
theorem lawK : Keyed Tryd.prog 9 := string_keyed Tryd.underlying9
theorem keyK {k : ByteArray} (h : k.size ≤ maxLen) : Go.keyOf Tryd.prog 9 (.string k) = some (kS k) := WideMaps.keyOf_string_mk Tryd.underlying9 h
theorem zeroIt (w : World) : (zeroValue 38).run Tryd.prog w = .ok (itV Itm.none) w := by kernel_rfl
theorem kS_ne {a b : ByteArray} (h : a ≠ b) : kS a ≠ kS b := by
  intro e
  unfold kS at e
  injection e with e
  exact h (by cases a; cases b; simp at e; simp [e])
theorem kS_key (a : ByteArray) : WideAt.IsKeyLit (kS a) := by unfold kS; exact trivial
/-- A block that is a map with these records. -/
structure Mq (w : World) (b : Nat) (L : List Itm) : Prop where
  uniq : Uniq L
  ex : ∃ D : DataW Value, w.ownsMap Tryd.prog 9 itR b L.length D ∧ Maps.size D = L.length ∧ ∀ k : ByteArray, Maps.has D (kS k) = (mlook L k).isSome ∧ D.atKey (kS k) (.held (itV Itm.none)) = .held (itV ((mlook L k).getD Itm.none))
theorem Mq.lt {w : World} {b : Nat} {L : List Itm} (h : Mq w b L) : b < w.heap.size := by
  obtain ⟨D, h1, _⟩ := h.ex
  exact h1.lt
theorem Mq.keep {S : Nat → Prop} {w W : World} {b : Nat} {L : List Itm} (h : Mq w b L) (hk : Keeps S w W) (hb : ¬ S b) : Mq W b L := by
  obtain ⟨D, h1, h2⟩ := h.ex
  exact ⟨h.uniq, D, Keeps.ownsMap h1 hk hb, h2⟩
theorem Mq.same {w : World} {b : Nat} {L M : List Itm} (h : Mq w b L) (hM : Uniq M) (hl : M.length = L.length) (he : ∀ k, mlook M k = mlook L k) : Mq w b M := by
  obtain ⟨D, h1, h2, h3⟩ := h.ex
  exact ⟨hM, D, by rw [hl]; exact h1, by rw [hl]; exact h2, fun k => by rw [he]; exact h3 k⟩
theorem Mq.made (w : World) : Mq (w.alloc (.map #[] 0)) w.heap.size [] := ⟨List.Pairwise.nil, .map [], World.ownsMap_made w _ _ _, rfl, fun k => ⟨rfl, rfl⟩⟩
/-- A look: what is there, and whether. -/
def lkV (L : List Itm) (k : ByteArray) : Value := .tuple #[itV ((mlook L k).getD Itm.none), .bool (mlook L k).isSome]
theorem Mq.look {w : World} {b : Nat} {L : List Itm} (h : Mq w b L) {k : ByteArray} (hk : k.size ≤ maxLen) : (Instr.lookup 55 (.map (some b)) (.string k) true).run Tryd.prog w = .ok (lkV L k) w := by
  obtain ⟨D, h1, h2, h3⟩ := h.ex
  obtain ⟨v, ps, hr, hv⟩ := World.ownsMap.look_ok h1 lawK Tryd.underlying55 (zeroIt w) (R := itR) (zd := .held (itV Itm.none)) (zp := []) rfl (keyK hk)
  obtain ⟨e1, e2⟩ := h3 k
  rw [e1] at hr
  rw [e2] at hv
  simp only [itR, Option.some.injEq, Prod.mk.injEq, DataW.held.injEq] at hv
  rw [hv.1] at hr
  exact hr
theorem look_none (w : World) {k : ByteArray} (hk : k.size ≤ maxLen) : (Instr.lookup 55 (.map none) (.string k) true).run Tryd.prog w = .ok (lkV [] k) w := Maps.look_nil true lawK Tryd.underlying55 (zeroIt w) (keyK hk)
/-- A map's number of entries, sharpened. -/
theorem ownsMap_tight {w : World} {b n : Nat} {D : DataW Value} (h : w.ownsMap Tryd.prog 9 itR b n D) : w.ownsMap Tryd.prog 9 itR b (Maps.size D) D := by
  obtain ⟨es, clock, h1, F, h2, rfl⟩ := h
  exact ⟨es, clock, h1, F, by simp [Maps.size, length_sorted], rfl⟩
theorem turned_keeps {w W : World} {b : Nat} (h : w.mapTurned W b) : Keeps (fun k => k = b) w W := (Keeps.refl _ w).grown h.grown (fun k e => by injection e with e; exact .inl e.symm)
theorem Mq.put {w W : World} {b : Nat} {L : List Itm} (h : Mq w b L) (x : Itm) (hs : x.k.size ≤ maxLen) (hL : L.length < maxLen) : ∃ w', (Instr.mapUpdate 55 (.map (some b)) (.string x.k) (itV x)).run Tryd.prog w = .ok () w' ∧ Mq w' b (Proofs.YtmjklkcjinfmaaaDoor.put L x) ∧ Keeps (fun k => k = b) w w' := by
  obtain ⟨D, h1, h2, h3⟩ := h.ex
  obtain ⟨w', hr, ho, ht⟩ := World.ownsMap.store h1 lawK Tryd.underlying55 hL (R := itR) (d := .held (itV x)) (ps := []) (keyK hs) rfl
  have hsz : Maps.size (D.put (kS x.k) (.held (itV x))) = (Proofs.YtmjklkcjinfmaaaDoor.put L x).length := by
    rw [Maps.size_put (World.ownsMap.tidy h1 lawK), (h3 x.k).1, put_len h.uniq, h2]
  refine ⟨w', hr, ⟨put_uniq h.uniq x, _, ?_, hsz, fun k => ?_⟩, turned_keeps ht⟩
  · rw [← hsz]; exact ownsMap_tight ho
  · by_cases e : k = x.k
    · subst e
      rw [Maps.has_put_same h1.isMap (kS_key _), Maps.atKey_put_same h1.isMap (kS_key _), look_put]
      exact ⟨rfl, rfl⟩
    · rw [Maps.has_put_other (kS_ne e), Maps.atKey_put_other (kS_ne e), look_put_other e]
      exact h3 k
theorem Mq.drop {w : World} {b : Nat} {L : List Itm} (h : Mq w b L) {k : ByteArray} (hs : k.size ≤ maxLen) (ty : TypeId) : ∃ w', (Builtin.delete_ #[55, 9] ty #[.map (some b), .string k]).run Tryd.prog w = .ok (.tuple #[]) w' ∧ Mq w' b (wo L k) ∧ Keeps (fun j => j = b) w w' := by
  obtain ⟨D, h1, h2, h3⟩ := h.ex
  obtain ⟨w', hr, ho, ht⟩ := World.ownsMap.drop h1 lawK Tryd.underlying55 (R := itR) (keyK hs) ty
  have hsz : Maps.size (D.del (kS k)) = (wo L k).length := by
    have e1 := Maps.size_del (k := kS k) (World.ownsMap.tidy h1 lawK)
    have e2 := wo_len h.uniq k
    rw [(h3 k).1, h2] at e1
    omega
  refine ⟨w', hr, ⟨wo_uniq h.uniq k, _, ?_, hsz, fun j => ?_⟩, turned_keeps ht⟩
  · rw [← hsz]; exact ownsMap_tight ho
  · by_cases e : j = k
    · subst e
      rw [Maps.has_del_same, Maps.atKey_del_same, look_wo]
      exact ⟨rfl, rfl⟩
    · rw [Maps.has_del_other (kS_ne e), Maps.atKey_del_other (kS_ne e), look_wo_other e]
      exact h3 j
/-- A Map: its three cells, and its records, or none yet. -/
def mapC (mv : Option Nat) (S : Mst) : List Value := [.map mv, .int .u64 S.e, .int .u64 S.i]
structure Mp (w : World) (m : Nat) (mv : Option Nat) (S : Mst) : Prop where
  bk : Bk w m (mapC mv S)
  recs : (mv = none ∧ S.L = []) ∨ ∃ b, mv = some b ∧ b ≠ m ∧ Mq w b S.L
/-- The blocks that are a Map's. -/
def MpB (m : Nat) (mv : Option Nat) (k : Nat) : Prop := k = m ∨ mv = some k
theorem Mp.keep {T : Nat → Prop} {w W : World} {m : Nat} {mv : Option Nat} {S : Mst} (h : Mp w m mv S) (hk : Keeps T w W) (hT : ∀ k, MpB m mv k → ¬ T k) : Mp W m mv S := by
  refine ⟨h.bk.keep hk (hT m (.inl rfl)), ?_⟩
  rcases h.recs with h | ⟨b, h1, h2, h3⟩
  · exact .inl h
  · exact .inr ⟨b, h1, h2, h3.keep hk (hT b (.inr h1))⟩
theorem Mp.new {w W : World} {m : Nat} {mv : Option Nat} {S : Mst} (h : Mp w m mv S) (hb : Below w.heap.size w W) : Mp W m mv S := h.keep (T := fun _ => False) (Keeps.of_new hb) (fun _ _ t => t)
theorem Mp.look {w : World} {m : Nat} {mv : Option Nat} {S : Mst} (h : Mp w m mv S) {k : ByteArray} (hk : k.size ≤ maxLen) : (Instr.lookup 55 (.map mv) (.string k) true).run Tryd.prog w = .ok (lkV S.L k) w := by
  rcases h.recs with ⟨rfl, h2⟩ | ⟨b, rfl, _, h3⟩
  · rw [h2]; exact look_none w hk
  · exact h3.look hk
end Go.Proofs.YtmjklkcjinfmaaaDoor
