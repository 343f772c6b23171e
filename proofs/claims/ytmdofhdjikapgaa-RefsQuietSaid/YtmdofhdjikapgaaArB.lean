/- Contracts of package items: a record comes, into a block of its own. -/
import Derived.Test.YtmdofhdjikapgaaArA
import Derived.Deep.Cut
import Derived.Deep.CutBlock
namespace Go.Proofs.Ytmdofhdjikapgaa
open Go.RowKit
set_option linter.unusedVariables false

theorem info_pb : (Try.prog.info? 140).map (fun i => (i.zero, i.size, i.bytes)) = some (some (.pointer none), 1, 8) := by kernel_rfl
theorem one_new {W : World} {n : Nat} (hn : n = W.heap.size) (v : Value) (T : TypeId) : ∀ j u, [v][j]? = some u → (W.alloc (.cells #[v] T)).cell? ((⟨n, 0, none⟩ : Addr).add j) = some u := by
  intro j u hj
  rcases j with _ | j
  · simp at hj; subst hj; rw [Addr.add_mid]; subst hn; simp
  · simp at hj
theorem zsize : Try.zeroCells142.size = 1536 := by kernel_rfl
/-- Behind the append of a new block's pointer: the arena; the record's box. -/
theorem grow_facts {t : TypeId} {w w1 : World} {p : Nat} {its : List It} {bs : List Nat} {v : Value} {S : Nat → Prop} (h : IsAr t w p its bs v S) {X Z : Array Value} {T1 T2 T3 : TypeId} (hZ : Z.size = 1536) {g cap : Nat}
    (own1 : w1.ownsRow 0 t 1 (.slice (some ⟨g, 0, none⟩) (bs.length + 1) cap) (bs.length + 1) (ptrs bs ++ [.pointer (some ⟨w.heap.size + 1, 0, none⟩)])) (hg : (((w.alloc (.cells X T1)).alloc (.cells Z T2)).alloc (.cells #[.pointer (some ⟨w.heap.size + 1, 0, none⟩)] T3)).grownBy w1 v.ownBlock) (hl : v.ownBlock = some g ∨ g = w.heap.size + 1 + 1 + 1) (hlt : g < w1.heap.size)
    (hv : ∀ k, v.ownBlock = some k → k < w.heap.size) (hS : ∀ k, S k → k < w.heap.size) :
    w1.cell? ⟨p, 0, none⟩ = some v ∧ w1.frozen? ⟨p, 0, none⟩ = false ∧ ∃ S', Turn S S' w (w1.setCell ⟨p, 0, none⟩ (.slice (some ⟨g, 0, none⟩) (bs.length + 1) cap)) ∧ IsAr t (w1.setCell ⟨p, 0, none⟩ (.slice (some ⟨g, 0, none⟩) (bs.length + 1) cap)) p its (bs ++ [w.heap.size + 1]) (.slice (some ⟨g, 0, none⟩) (bs.length + 1) cap) S' ∧ (∀ i u, X[i]? = some u → (w1.setCell ⟨p, 0, none⟩ (.slice (some ⟨g, 0, none⟩) (bs.length + 1) cap)).cell? ⟨w.heap.size, i, none⟩ = some u) := by
  have hp := h.lt
  obtain ⟨A1, hA1⟩ : ∃ A1, A1 = w.alloc (.cells X T1) := ⟨_, rfl⟩
  obtain ⟨A2, hA2⟩ : ∃ A2, A2 = A1.alloc (.cells Z T2) := ⟨_, rfl⟩
  obtain ⟨A3, hA3⟩ : ∃ A3, A3 = A2.alloc (.cells #[.pointer (some ⟨w.heap.size + 1, 0, none⟩)] T3) := ⟨_, rfl⟩
  rw [← hA1, ← hA2, ← hA3] at hg
  have s1 : A1.heap.size = w.heap.size + 1 := by rw [hA1]; simp
  have s2 : A2.heap.size = w.heap.size + 2 := by rw [hA2]; simp [s1]
  have s3 : A3.heap.size = w.heap.size + 3 := by rw [hA3]; simp [s2]
  have kA : Keeps (fun k => v.ownBlock = some k) w A3 := by rw [hA3, hA2, hA1]; exact (((Keeps.refl _ w).alloc _).alloc _).alloc _
  have k1 : Keeps (fun k => v.ownBlock = some k) w w1 := kA.grown hg (fun k e => .inl e)
  have k1' : Keeps (fun k => v.ownBlock = some k) A3 w1 := (Keeps.refl _ A3).grown hg (fun k e => .inl e)
  have k2' : Keeps (fun k => v.ownBlock = some k) A2 w1 := by
    have : Keeps (fun k => v.ownBlock = some k) A2 A3 := by rw [hA3]; exact (Keeps.refl _ A2).alloc _
    exact this.trans k1' (fun _ _ s => s)
  have k3' : Keeps (fun k => v.ownBlock = some k) A1 w1 := by
    have : Keeps (fun k => v.ownBlock = some k) A1 A2 := by rw [hA2]; exact (Keeps.refl _ A1).alloc _
    exact this.trans k2' (fun _ _ s => s)
  have pv : ¬ v.ownBlock = some p := fun e => (h.own p e).2 rfl
  have c0 := k1.cell (p := ⟨p, 0, none⟩) pv h.c0
  have c1 := k1.cell (p := ⟨p, 1, none⟩) pv h.c1
  have f0 := k1.frozen (p := ⟨p, 0, none⟩) pv hp h.f0
  have f1 := k1.frozen (p := ⟨p, 1, none⟩) pv hp h.f1
  have hsz := hg.size
  have gp : g ≠ p := by
    rcases hl with e | e
    · exact (h.own g e).2
    · omega
  obtain ⟨V, hV⟩ : ∃ V, V = w1.setCell ⟨p, 0, none⟩ (.slice (some ⟨g, 0, none⟩) (bs.length + 1) cap) := ⟨_, rfl⟩
  have sV : V.heap.size = w1.heap.size := by rw [hV]; simp [World.setCell]
  have kV : Keeps (fun k => k = p) w1 V := by rw [hV]; exact Keeps.setCell (S := fun k => k = p) (Keeps.refl _ w1) (p := ⟨p, 0, none⟩) (.inl rfl) _
  have kwV : Keeps (fun k => k = p ∨ v.ownBlock = some k) w V := (k1.mono (fun _ _ e => .inr e)).trans kV (fun _ _ e => .inl e)
  refine ⟨c0, f0, ?_⟩
  rw [← hV]
  refine ⟨fun k => S k ∨ (w.heap.size ≤ k ∧ k < V.heap.size), ⟨kwV.mono (fun k _ e => ?_), fun k s => s⟩, ?_, fun i u hu => ?_⟩
  · rcases e with e | e
    · rw [e]; exact h.here
    · exact (h.own k e).1
  · have tz : A2.there (w.heap.size + 1) 0 1536 := by rw [hA2, ← s1]; exact there_alloc hZ
    refine IsAr.grow h (b0 := w.heap.size + 1) kwV (by omega) ?_ (fun _ s => .inl s) (.inr ⟨by omega, by omega⟩) ?_ ?_ ?_ ?_ ?_ (fun k hk => ?_)
    · exact kV.there (by omega) (k2'.there (fun e => by have := hv _ e; omega) tz)
    · rw [hV]; exact World.cell?_setCell_same _ _ _ c0
    · rw [hV, World.cell?_setCell_other _ _ _ _ (by intro e; injection e with _ e; omega)]; exact c1
    · rw [hV, World.frozen?_setCell]; exact f0
    · rw [hV, World.frozen?_setCell]; exact f1
    · exact Keeps.ownsRow own1 kV (fun k hk => by simp [Value.ownBlock] at hk; omega)
    · simp [Value.ownBlock] at hk
      subst hk
      refine ⟨?_, ?_, ?_⟩
      · rcases hl with e | e
        · exact .inl (h.own g e).1
        · exact .inr ⟨by omega, by omega⟩
      · rcases hl with e | e
        · exact .inl e
        · exact .inr (by omega)
      · rcases hl with e | e
        · have := hv g e; omega
        · omega
  · have hx : A1.cell? ⟨w.heap.size, i, none⟩ = some u := by
      have hh : (w.alloc (.cells X T1)).heap[w.heap.size]? = some (.cells X T1) := (MapKept.heap_alloc w _).1
      rw [hA1]
      unfold World.cell?
      rw [hh]
      simpa using hu
    exact kV.cell (p := ⟨w.heap.size, i, none⟩) (by show ¬ w.heap.size = p; omega) (k3'.cell (p := ⟨w.heap.size, i, none⟩) (fun e => by have := hv w.heap.size e; omega) hx)
set_option maxRecDepth 100000 in
set_option maxHeartbeats 1000000 in
theorem iadd_new {w : World} {p : Nat} {its : List It} {bs : List Nat} {v : Value} {S : Nat → Prop} (h : IsAr 140 w p its bs v S) (hS : ∀ k, S k → k < w.heap.size) (hn : its.length < 1048576) (hm : its.length = 256 * bs.length) (k vl : ByteArray) (fl id di ge : Int) :
    Calls Try.prog 29 #[.pointer (some ⟨p, 0, none⟩), .agg #[.string k, .string vl, .int .u32 fl, .int .u64 id, .int .i64 di, .int .i64 ge]] w fun e w' => e = .returned (.tuple #[.int .i64 ((its.length : Int) + 1), .int .i64 0]) ∧ AddPost w p (its ++ [(k, vl, fl, id, di, ge)]) (bs.length + 1) S w' := by
  have hZ := zsize
  obtain ⟨i0, hi, hz0, hz1, hz2⟩ := info_parts info_pb
  have hown := h.row
  have hvlt : ∀ k, v.ownBlock = some k → k < w.heap.size := fun k hk => (hown.lt k hk).2
  have hc0 := h.c0
  have hc1 := h.c1
  have hf0 := h.f0
  have hlt := h.lt
  have up : ∀ (o : Obj) (q : Addr) (u : Value), w.cell? q = some u → (w.alloc o).cell? q = some u := fun o q u hq => ((Keeps.refl (fun _ => False) w).alloc o).cell (p := q) (by simp) hq
  have up2 : ∀ (o o' : Obj) (q : Addr) (u : Value), w.cell? q = some u → ((w.alloc o).alloc o').cell? q = some u := fun o o' q u hq => (((Keeps.refl (fun _ => False) w).alloc o).alloc o').cell (p := q) (by simp) hq
  have m0 := fun o => up o _ _ hc0
  have m00 := fun o o' => up2 o o' _ _ hc0
  have m1' := fun o => up o _ _ hc1
  have HO := Lib.hid hown
  have HH0 := Lib.hid h
  have HVL := Lib.hid hvlt
  have HSS := Lib.hid hS
  have HZZ := Lib.hid hZ
  have HLT := Lib.hid hlt
  generalize hl : its.length = n at *
  generalize hnb : bs.length = nb at *
  have HL := Lib.hid hl
  have HNB := Lib.hid hnb
  have HN := Lib.hid hn
  have HM := Lib.hid hm
  have d1 : decide ((1048576 : Int) ≤ (n : Int)) = false := decide_eq_false (by omega)
  have e1 : (n : Int) % 256 = 0 := by omega
  have e1' : (n : Int).tmod 256 = 0 := by rw [Int.tmod_eq_emod_of_nonneg (by omega)]; exact e1
  have y1 : IntKind.i64.wrap ((n : Int) + 1) = (n : Int) + 1 := IntWalk.i64_in _ (by omega)
  have hn2 : (n : Int) < 2000000 := by omega
  have HNM := Lib.hid (show nb < 5000 by omega)
  clear h hS hvlt hown hc0 hc1 hf0 up up2 hl hnb hn hm hZ hlt
  go_enter Try.func29, Try.ntmps29
  go_upto_region 6 with (fail)
  go_upto_region 7 with (at_builtin; refine wpList_append_lies _ rfl _ _ 137 rfl 0 140 i0 _ 1 8 Try.underlying137 hi hz0 hz1 hz2 rfl (by decide) v nb (ptrs bs) rfl (((HO.out.alloc _).alloc _).alloc _) ⟨w.heap.size + 1 + 1, 0, none⟩ 1 1 [.pointer (some ⟨w.heap.size + 1, 0, none⟩)] rfl rfl (one_new (by simp) _ _) (by simp [Value.oneCell']) (by decide) (by have := HNM.out; unfold maxLen; omega) (by have := HNM.out; omega) (Nat.zero_le _) (w.heap.size + 1 + 1 + 1) (by simp) ?_; intro g cap w1 own1 hg hloc hltg; have GF := grow_facts HH0.out HZZ.out (by rw [HNB.out]; exact own1) hg hloc hltg HVL.out HSS.out; rw [HNB.out] at GF; obtain ⟨g1, g2, GF⟩ := GF; have GF := Lib.hid GF; clear m0 m00 m1' own1 hg hloc hltg hi hz0 hz1 hz2)
  generalize hV : World.setCell _ _ _ = V at GF ⊢
  generalize Try.zeroCells142 = ZZ
  clear hV g1 g2
  obtain ⟨S', ht, hh, hx⟩ := GF.out
  have HT := Lib.hid ht
  have HH := Lib.hid hh
  have vx0 := hx 0 _ rfl
  have vx1 := hx 1 _ rfl
  have vx2 := hx 2 _ rfl
  have vx3 := hx 3 _ rfl
  have vx4 := hx 4 _ rfl
  have vx5 := hx 5 _ rfl
  have hb : (bs ++ [w.heap.size + 1])[nb]? = some (w.heap.size + 1) := by
    rw [List.getElem?_append_right (by rw [HNB.out]; omega)]
    rw [HNB.out, Nat.sub_self]
    rfl
  obtain ⟨bt, -, bp, -⟩ := hh.blk _ _ hb
  have hcell : V.cell? ⟨g, nb, none⟩ = some (.pointer (some ⟨w.heap.size + 1, 0, none⟩)) := by
    have := hh.row.cells (g := g) rfl _ _ (ptrs_at hb)
    rwa [Addr.add_mid, Nat.zero_add] at this
  have hgp : g ≠ p := (hh.own g rfl).2
  have m1 : V.cell? ⟨p, 1, none⟩ = some (.int .i64 n) := by have := hh.c1; rwa [HL.out] at this
  have m2 := hh.f1
  have C0 := Lib.hid hh.c0
  obtain ⟨b, hbb⟩ : ∃ b, b = w.heap.size + 1 := ⟨_, rfl⟩
  rw [← hbb] at hb bt bp hcell HH
  have HB := Lib.hid hb
  have HBT := Lib.hid bt
  have BP := Lib.hid bp
  have HC := Lib.hid hcell
  have HG := Lib.hid hgp
  obtain ⟨j, hj⟩ : ∃ j, j = nb := ⟨_, rfl⟩
  rw [← hj] at HB HC
  obtain ⟨r, hr⟩ : ∃ r, r = 0 := ⟨_, rfl⟩
  have HJ := Lib.hid (show n / 256 = j by have := HM.out; omega)
  have HR := Lib.hid (show n % 256 = r by have := HM.out; omega)
  have E1 := Lib.hid (show (n : Int) % 256 = (r : Int) by have := HR.out; omega)
  have E2 := Lib.hid (show (n : Int) / 256 = (j : Int) by have := HJ.out; omega)
  have HBL := Lib.hid (show j < nb + 1 by omega)
  have hr0 : (0 : Int) ≤ (r : Int) := by omega
  have hr1 : (r : Int) < 256 := by omega
  have d2 : True := trivial
  have d3 : True := trivial
  have hm : True := trivial
  clear ht hh hx hb bt bp hcell hgp hbb hj hr GF
  go_wp2_with fail
  generalize hW2 : World.setCell _ _ _ = W2
  have hk2 : Keeps (fun k => k = p) V W2 := by rw [← hW2]; exact Keeps.setCell (S := fun k => k = p) (Keeps.refl _ V) (p := ⟨p, 1, none⟩) (.inl rfl) _
  have hz2 : W2.heap.size = V.heap.size := by rw [← hW2]; simp [World.setCell]
  have p1 : W2.cell? ⟨p, 1, none⟩ = some (.int .i64 ((n : Int) + 1)) := by rw [← hW2]; exact World.cell?_setCell_same _ _ _ m1
  have p0 : W2.cell? ⟨p, 0, none⟩ = some (.slice (some ⟨g, 0, none⟩) (nb + 1) cap) := by rw [← hW2, World.cell?_setCell_other _ _ _ _ (by intro e; injection e with _ e; omega)]; exact C0.out
  have nx : ∀ o, (⟨p, 1, none⟩ : Addr) ≠ ⟨w.heap.size, o, none⟩ := fun o e => by have := HLT.out; injection e with e; omega
  have x0 : W2.cell? ⟨w.heap.size, 0, none⟩ = some (.string k) := by rw [← hW2, World.cell?_setCell_other _ _ _ _ (nx _)]; exact vx0
  have x1 : W2.cell? ⟨w.heap.size, 1, none⟩ = some (.string vl) := by rw [← hW2, World.cell?_setCell_other _ _ _ _ (nx _)]; exact vx1
  have x2 : W2.cell? ⟨w.heap.size, 2, none⟩ = some (.int .u32 fl) := by rw [← hW2, World.cell?_setCell_other _ _ _ _ (nx _)]; exact vx2
  have x3 : W2.cell? ⟨w.heap.size, 3, none⟩ = some (.int .u64 id) := by rw [← hW2, World.cell?_setCell_other _ _ _ _ (nx _)]; exact vx3
  have x4 : W2.cell? ⟨w.heap.size, 4, none⟩ = some (.int .i64 di) := by rw [← hW2, World.cell?_setCell_other _ _ _ _ (nx _)]; exact vx4
  have x5 : W2.cell? ⟨w.heap.size, 5, none⟩ = some (.int .i64 ge) := by rw [← hW2, World.cell?_setCell_other _ _ _ _ (nx _)]; exact vx5
  have f0 : W2.frozen? ⟨p, 0, none⟩ = false := by rw [← hW2, World.frozen?_setCell]; exact HH.out.f0
  have f1 : W2.frozen? ⟨p, 1, none⟩ = false := by rw [← hW2, World.frozen?_setCell]; exact m2
  have gc := hk2.cell (p := ⟨g, j, none⟩) HG.out HC.out
  have bt := Keeps.there hk2 (b := b) (o := 0) (n := 1536) BP.out HBT.out
  have BT := Lib.hid bt
  have bu : ∀ i, i < 6 → ∃ u, W2.cell? ⟨b, r * 6 + i, none⟩ = some u := fun i hi => by
    have := (bt (r * 6 + i) (by omega)).1
    rw [Nat.zero_add] at this
    exact Option.isSome_iff_exists.1 this
  have bf : ∀ i, i < 6 → W2.frozen? ⟨b, r * 6 + i, none⟩ = false := fun i hi => by
    have := (bt (r * 6 + i) (by omega)).2
    rwa [Nat.zero_add] at this
  obtain ⟨u0, b0⟩ := bu 0 (by omega)
  obtain ⟨u1, b1⟩ := bu 1 (by omega)
  obtain ⟨u2, b2⟩ := bu 2 (by omega)
  obtain ⟨u3, b3⟩ := bu 3 (by omega)
  obtain ⟨u4, b4⟩ := bu 4 (by omega)
  obtain ⟨u5, b5⟩ := bu 5 (by omega)
  have z0 := bf 0 (by omega)
  have z1 := bf 1 (by omega)
  have z2 := bf 2 (by omega)
  have z3 := bf 3 (by omega)
  have z4 := bf 4 (by omega)
  have z5 := bf 5 (by omega)
  rw [Nat.add_zero] at b0 z0
  have HP := Lib.hid (iplace n j r b g (nb + 1) cap p W2 hn2 E2.out E1.out HBL.out p0 gc)
  have K2 := Lib.hid hk2
  have Z2 := Lib.hid hz2
  have F0 := Lib.hid f0
  have F1 := Lib.hid f1
  clear hW2 hk2 hz2 nx bt bu bf m1 m2 gc f0 f1 e1 e1' d1 d2 d3 hm
  have P0 := Lib.hid p0
  clear p0
  go_wp2_with (go_at_call 73; refine HP.out.mono ?_; rintro e w' ⟨rfl, rfl⟩)
  go_region
  all_goals
    have hs := six_is W2 b (r * 6) (.string k) (.string vl) (.int .u32 fl) (.int .u64 id) (.int .i64 di) (.int .i64 ge)
    unfold six at hs
    rw [hs]
    generalize hW3 : World.drew _ = W3
    have hW : W3 = (W2.setCells b (r * 6) (It.cells (k, vl, fl, id, di, ge))).drew := hW3.symm
    clear hs
    have Q := Lib.hid (put_facts (x := (k, vl, fl, id, di, ge)) hW BT.out (by omega))
    have p1' : W3.cell? ⟨p, 1, none⟩ = some (.int .i64 ((n : Int) + 1)) := Q.out.2.2.2.2.2 ⟨p, 1, none⟩ (fun e => BP.out e.symm) _ p1
    clear hW3 hW p1 b0 b1 b2 b3 b4 b5 z0 z1 z2 z3 z4 z5 x0 x1 x2 x3 x4 x5 vx0 vx1 vx2 vx3 vx4 vx5
    go_wp2_with fail
    go_ret2
    obtain ⟨k3, q1, q2, q3, q4, q5⟩ := Q.out
    refine ⟨rfl, bs ++ [b], .slice (some ⟨g, 0, none⟩) (nb + 1) cap, S', ?_, ?_, by rw [List.length_append, HNB.out]; rfl⟩
    · have hh := HH.out
      exact HT.out.trans ⟨((K2.out.mono (fun i _ e => by rw [e]; exact hh.here)).trans (k3.mono (fun i _ e => by rw [e]; exact (hh.blk _ _ HB.out).2.1)) (fun _ _ s => s)), fun _ s => .inl s⟩
    · have hl := HL.out
      subst hl
      have hj := HJ.out
      have hr := HR.out
      have hb := HB.out
      have hh := HH.out
      subst hj hr
      refine IsAr.put hh hb (W := W3) ?_ ?_ (by push_cast; exact p1') ?_ ?_ q1 q2 (fun o cs hrg ho => q3 o cs (Keeps.rangeAt K2.out BP.out hrg) ho)
      · exact (K2.out.mono (fun i _ e => .inl e)).trans (k3.mono (fun i _ e => .inr e)) (fun _ _ s => s)
      · exact q5 ⟨p, 0, none⟩ (fun e => BP.out e.symm) _ P0.out
      · rw [q4]; exact F0.out
      · rw [q4]; exact F1.out
end Go.Proofs.Ytmdofhdjikapgaa
