/- Cells: what becomes of them as a word is put, an access is done. -/
import Derived.Test.YtdlniopjkioamaaCl
namespace Go.Proofs.Ytdlniopjkioamaa
open Go.RowKit Go.Maps
set_option linter.unusedVariables false
section
variable {P : Program} {t T e : TypeId} {w W w2 : World} {p m n : Nat} {D : DataW Unit} {f : Int → Int} {cnt k a0 x y a v : Int} {S : Nat → Prop}

theorem IsCells.moved (h : IsCells P t w p f cnt k a0 x y n S) {T : Nat → Prop} {f' : Int → Int} {S' : Nat → Prop} {n' m' : Nat} {D' : DataW Unit} (hk : Keeps T w W) (hp : ¬ T p) (hf : ∀ a, isU a → isU (f' a)) (hS : ∀ k, S k → S' k) (hm : W.cell? ⟨p, 0, none⟩ = some (.map (some m'))) (H : MapOk P t W p m' n' D' f' S') :
    IsCells P t W p f' cnt k a0 x y n' S' :=
  ⟨hk.cell hp h.c1, hk.cell hp h.c2, hk.cell hp h.c3, hk.cell hp h.c4, hk.cell hp h.c5, fun o ho => hk.frozen (p := ⟨p, o, none⟩) hp h.lt (h.fz o ho), hS p h.here, hf, .inr ⟨m', D', hm, H⟩⟩
theorem upd_rng (hf : ∀ a, isU a → isU (f a)) (hv : isU v) : ∀ b, isU b → isU (upd f a v b) := by
  intro b hb; unfold upd; split; exact hv; exact hf b hb
theorem IsCells.del (h : IsCells P t w p f cnt k a0 x y n S) (hm : w.cell? ⟨p, 0, none⟩ = some (.map (some m))) (H : MapOk P t w p m n D f S) (ha : isU a) (own' : W.ownsMap P t cR m n (D.del (kA a))) (ht : w.mapTurned W m) :
    IsCells P t W p (upd f a 0) cnt k a0 x y n S ∧ Turn S S w W := by
  have hk : Keeps (fun k => k = m) w W := (Keeps.refl _ w).grown ht.grown (fun k e => by simp at e; exact .inl e.symm)
  have hp : ¬ p = m := fun e => H.off e.symm
  exact ⟨h.moved hk hp (upd_rng h.rng ⟨by omega, by omega⟩) (fun _ s => s) (hk.cell (p := ⟨p, 0, none⟩) hp hm) (H.del ha own' ht), hk.mono (fun k _ e => by rw [e]; exact H.here), fun _ s => .inl s⟩
theorem IsCells.set (h : IsCells P t w p f cnt k a0 x y n S) (hm : w.cell? ⟨p, 0, none⟩ = some (.map (some m))) (H : MapOk P t w p m n D f S) (ha : isU a) (h0 : f a ≠ 0) (hu : isU v) (hv : v ≠ 0) {b : Nat} (hb : D.atKey (kA a) .nil = .lit (.int .i64 b)) :
    IsCells P t (w.setCell ⟨b, 0, none⟩ (.int .u64 v)) p (upd f a v) cnt k a0 x y n S ∧ Turn S S w (w.setCell ⟨b, 0, none⟩ (.int .u64 v)) := by
  obtain ⟨b', e1, e2, e3, e4, e5, e6⟩ := H.at_ a ha h0
  rw [hb] at e1
  injection e1 with e1
  injection e1 with _ e1
  obtain rfl : b = b' := by omega
  have hk : Keeps (fun k => k = b) w (w.setCell ⟨b, 0, none⟩ (.int .u64 v)) := Keeps.setCell (S := fun k => k = b) (Keeps.refl _ w) (p := ⟨b, 0, none⟩) (.inl rfl) _
  have hp : ¬ p = b := fun e => e5 e.symm
  exact ⟨h.moved hk hp (upd_rng h.rng hu) (fun _ s => s) (hk.cell (p := ⟨p, 0, none⟩) hp hm) (H.set ha h0 hv hb), hk.mono (fun k _ e => by rw [e]; exact e4), fun _ s => .inl s⟩
/-- A map is made. -/
theorem IsCells.made (h : IsCells P t w p f cnt k a0 x y n S) (hm : w.cell? ⟨p, 0, none⟩ = some (.map none)) (hf : ∀ a, isU a → f a = 0) :
    let W := (w.alloc (.map #[] 0)).setCell ⟨p, 0, none⟩ (.map (some w.heap.size)); let S' := fun k => S k ∨ k = w.heap.size
    W.cell? ⟨p, 0, none⟩ = some (.map (some w.heap.size)) ∧ MapOk P t W p w.heap.size n (.map []) f S' ∧ IsCells P t W p f cnt k a0 x y n S' ∧ Turn S S' w W ∧ W.heap.size = w.heap.size + 1 := by
  intro W S'
  have hlt := h.lt
  have hm1 : (w.alloc (.map #[] 0)).cell? ⟨p, 0, none⟩ = some (.map none) := (World.cell?_alloc_lt w _ ⟨p, 0, none⟩ hlt).trans hm
  have e0 : W.cell? ⟨p, 0, none⟩ = some (.map (some w.heap.size)) := World.cell?_setCell_same _ _ _ hm1
  have hT : Turn S S' w W := ⟨((Keeps.refl S w).alloc _).setCell (.inl h.here) _, fun k s => by
    rcases s with s | s
    · exact .inl s
    · refine .inr ⟨by omega, ?_⟩
      simp [W, World.setCell]; omega⟩
  have hM : MapOk P t W p w.heap.size n (.map []) f S' :=
    MapOk.made (((World.ownsMap_made w P t cR).mono (Nat.zero_le n)).setCell (by simp; omega) _) hf (.inr rfl) (by omega)
  have c : ∀ o v, o ≠ 0 → w.cell? ⟨p, o, none⟩ = some v → W.cell? ⟨p, o, none⟩ = some v := by
    intro o v ho hc
    rw [World.cell?_setCell_other _ _ _ _ (by intro e; injection e with _ e; exact ho e.symm)]
    exact (World.cell?_alloc_lt w _ ⟨p, o, none⟩ hlt).trans hc
  refine ⟨e0, hM, ⟨c 1 _ (by decide) h.c1, c 2 _ (by decide) h.c2, c 3 _ (by decide) h.c3, c 4 _ (by decide) h.c4, c 5 _ (by decide) h.c5, fun o ho => ?_, .inl h.here, h.rng, .inr ⟨_, _, e0, hM⟩⟩, hT, by simp [W, World.setCell]⟩
  rw [World.frozen?_setCell]
  exact (((Keeps.refl (fun _ => False) w).alloc (.map #[] 0)).frozen (p := ⟨p, o, none⟩) (by simp) hlt (h.fz o ho))
/-- Behind the store of a new word's pointer into the map. -/
theorem new_facts (hm : w.cell? ⟨p, 0, none⟩ = some (.map (some m))) (H : MapOk P t w p m n D f S) (ha : isU a) (K : Keyed P t) (hT : P.underlying T = some (.map t e)) (hz : ∀ w : World, (zeroValue e).run P w = .ok (.pointer none) w) (hkey : keyOf P t (.int .u64 a) = some (kA a))
    {te : TypeId} (own2 : w2.ownsMap P t cR m (n + 1) (D.put (kA a) (.lit (.int .i64 w.heap.size)))) (hg : (w.alloc (.cells #[.int .u64 0] te)).grownBy w2 (some m)) :
    w2.cell? ⟨p, 0, none⟩ = some (.map (some m)) ∧ (Instr.lookup T (.map (some m)) (.int .u64 a) false).run P w2 = .ok (.pointer (some ⟨w.heap.size, 0, none⟩)) w2 ∧ w2.cell? ⟨w.heap.size, 0, none⟩ = some (.int .u64 0) ∧ w2.frozen? ⟨w.heap.size, 0, none⟩ = false := by
  have hlt := World.block_lt_of_cell? _ _ hm
  have hml := H.lt
  have hk : Keeps (fun k => k = m) w w2 := ((Keeps.refl _ w).alloc _).grown hg (fun k e => by simp at e; exact .inl e.symm)
  have hk' : Keeps (fun k => k = m) (w.alloc (.cells #[.int .u64 0] te)) w2 := (Keeps.refl _ _).grown hg (fun k e => by simp at e; exact .inl e.symm)
  obtain ⟨v, ps, hrun, hv⟩ := own2.lookup K hT (hz w2) cR_nil hkey
  rw [Maps.atKey_put_same H.own.isMap (kA_key a)] at hv
  obtain rfl := cR_lit hv
  refine ⟨hk.cell (p := ⟨p, 0, none⟩) (fun e => H.off e.symm) hm, hrun, hk'.cell (p := ⟨w.heap.size, 0, none⟩) (by simp; omega) (by simp), hk'.frozen (p := ⟨w.heap.size, 0, none⟩) (by simp; omega) (by simp) (by simp)⟩
theorem IsCells.new (h : IsCells P t w p f cnt k a0 x y n S) (hm : w.cell? ⟨p, 0, none⟩ = some (.map (some m))) (H : MapOk P t w p m n D f S) (ha : isU a) (h0 : f a = 0) (hu : isU v) (hv : v ≠ 0)
    {te : TypeId} (own2 : w2.ownsMap P t cR m (n + 1) (D.put (kA a) (.lit (.int .i64 w.heap.size)))) (hg : (w.alloc (.cells #[.int .u64 0] te)).grownBy w2 (some m)) (hc : w2.cell? ⟨w.heap.size, 0, none⟩ = some (.int .u64 0)) (hf : w2.frozen? ⟨w.heap.size, 0, none⟩ = false) :
    let W := w2.setCell ⟨w.heap.size, 0, none⟩ (.int .u64 v); let S' := fun k => S k ∨ k = w.heap.size
    IsCells P t W p (upd f a v) cnt k a0 x y (n + 1) S' ∧ Turn S S' w W := by
  intro W S'
  have hlt := h.lt
  have hml := H.lt
  have hk : Keeps (fun k => k = m) w w2 := ((Keeps.refl _ w).alloc _).grown hg (fun k e => by simp at e; exact .inl e.symm)
  have hkW : Keeps (fun k => k = m) w W := hk.setCell (.inr (Nat.le_refl _)) _
  have hsz : w.heap.size < w2.heap.size := World.block_lt_of_cell? _ _ hc
  have hsW : w.heap.size < W.heap.size := by simpa [W, World.setCell] using hsz
  have hp : ¬ p = m := fun e => H.off e.symm
  have hM : MapOk P t W p m (n + 1) (D.put (kA a) (.lit (.int .i64 w.heap.size))) (upd f a v) S' :=
    H.put ha h0 hv (own2.setCell (by simp; omega) _) hkW (Nat.le_refl _) hsW hlt (fun _ s => .inl s) (.inr rfl) (by simpa [W] using hf) (World.cell?_setCell_same _ _ _ hc)
  exact ⟨h.moved hkW hp (upd_rng h.rng hu) (fun _ s => .inl s) (hkW.cell (p := ⟨p, 0, none⟩) hp hm) hM, hkW.mono (fun k _ e => by rw [e]; exact H.here), fun k s => by
    rcases s with s | s
    · exact .inl s
    · exact .inr ⟨by omega, by omega⟩⟩
/-- The access is told: the struct's own cells behind it. -/
def told (W : World) (p : Nat) (cnt k a x y : Int) : World := ((((W.setCell ⟨p, 1, none⟩ (.int .i64 cnt)).setCell ⟨p, 2, none⟩ (.int .u8 k)).setCell ⟨p, 3, none⟩ (.int .u64 a)).setCell ⟨p, 4, none⟩ (.int .u64 x)).setCell ⟨p, 5, none⟩ (.int .u64 y)
theorem IsCells.told (h : IsCells P t w p f cnt k a0 x y n S) (cnt' k' a' x' y' : Int) :
    IsCells P t (told w p cnt' k' a' x' y') p f cnt' k' a' x' y' n S ∧ Turn S S w (told w p cnt' k' a' x' y') := by
  have hk : Keeps (fun k => k = p) w (Go.Proofs.Ytdlniopjkioamaa.told w p cnt' k' a' x' y') := by
    unfold Go.Proofs.Ytdlniopjkioamaa.told
    have st : ∀ (W : World) (o : Nat) (v : Value), Keeps (fun k => k = p) w W → Keeps (fun k => k = p) w (W.setCell ⟨p, o, none⟩ v) := fun W o v h => Keeps.setCell (S := fun k => k = p) h (p := ⟨p, o, none⟩) (.inl rfl) v
    exact st _ _ _ (st _ _ _ (st _ _ _ (st _ _ _ (st _ _ _ (Keeps.refl _ w)))))
  have hsz : (Go.Proofs.Ytdlniopjkioamaa.told w p cnt' k' a' x' y').heap.size = w.heap.size := by simp [Go.Proofs.Ytdlniopjkioamaa.told, World.setCell]
  have e1 := h.c1
  have e2 := h.c2
  have e3 := h.c3
  have e4 := h.c4
  have e5 := h.c5
  have off : ∀ {o o' : Nat} (ho : o ≠ o') (v : Value) (w : World), (w.setCell ⟨p, o, none⟩ v).cell? ⟨p, o', none⟩ = w.cell? ⟨p, o', none⟩ := fun ho v w => World.cell?_setCell_other _ _ _ _ (by intro e; injection e with _ e; exact ho e)
  have same : ∀ {o : Nat} {w : World} {u : Value} (v : Value), w.cell? ⟨p, o, none⟩ = some u → (w.setCell ⟨p, o, none⟩ v).cell? ⟨p, o, none⟩ = some v := fun v hc => World.cell?_setCell_same _ _ _ hc
  refine ⟨⟨?_, ?_, ?_, ?_, ?_, fun o ho => ?_, h.here, h.rng, ?_⟩, hk.mono (fun k _ e => by rw [e]; exact h.here), fun _ s => .inl s⟩
  · unfold Go.Proofs.Ytdlniopjkioamaa.told
    rw [off (by decide), off (by decide), off (by decide), off (by decide)]
    exact same _ e1
  · unfold Go.Proofs.Ytdlniopjkioamaa.told
    rw [off (by decide), off (by decide), off (by decide)]
    exact same _ (by rw [off (by decide)]; exact e2)
  · unfold Go.Proofs.Ytdlniopjkioamaa.told
    rw [off (by decide), off (by decide)]
    exact same _ (by rw [off (by decide), off (by decide)]; exact e3)
  · unfold Go.Proofs.Ytdlniopjkioamaa.told
    rw [off (by decide)]
    exact same _ (by rw [off (by decide), off (by decide), off (by decide)]; exact e4)
  · unfold Go.Proofs.Ytdlniopjkioamaa.told
    exact same _ (by rw [off (by decide), off (by decide), off (by decide), off (by decide)]; exact e5)
  · unfold Go.Proofs.Ytdlniopjkioamaa.told
    simp only [World.frozen?_setCell]
    exact h.fz o ho
  · have hz : ∀ v, w.cell? ⟨p, 0, none⟩ = some v → (Go.Proofs.Ytdlniopjkioamaa.told w p cnt' k' a' x' y').cell? ⟨p, 0, none⟩ = some v := by
      intro v hv
      unfold Go.Proofs.Ytdlniopjkioamaa.told
      rw [off (by decide), off (by decide), off (by decide), off (by decide), off (by decide)]
      exact hv
    rcases h.map with ⟨h1, h2⟩ | ⟨m, D, h1, H⟩
    · exact .inl ⟨hz _ h1, h2⟩
    · exact .inr ⟨m, D, hz _ h1, H.keep hk (fun k _ hp e => hp e)⟩
end
end Go.Proofs.Ytdlniopjkioamaa
