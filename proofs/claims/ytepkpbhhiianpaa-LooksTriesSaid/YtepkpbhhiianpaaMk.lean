/- Marks of places. -/
import Derived.Test.YtepkpbhhiianpaaGSt
import Derived.Test.YtepkpbhhiianpaaOb
import Derived.Test.YtepkpbhhiianpaaGTo
import Derived.Test.YtepkpbhhiianpaaBg0
import Derived.Deep.RegionHeld3
import Derived.BigRegion
namespace Go.Proofs.Ytepkpbhhiianpaa
open Go.RowKit Go.Maps
set_option linter.unusedVariables false
/-- A slice of these words, in block g. -/
def MkV (w : World) (v : Value) (D : List Int) (g : Nat) : Prop := (∃ a, v = .slice a D.length D.length) ∧ (D ≠ [] → ∃ o, v = .slice (some ⟨g, o, none⟩) D.length D.length ∧ ∀ i x, D[i]? = some x → w.cell? ⟨g, o + i, none⟩ = some (.int .u64 x))
theorem MkV.keep {w W : World} {v : Value} {D : List Int} {g : Nat} {T : Nat → Prop} (h : MkV w v D g) (hk : Keeps T w W) (hT : D ≠ [] → ¬ T g) : MkV W v D g := by
  refine ⟨h.1, fun hD => ?_⟩
  obtain ⟨o, h1, h2⟩ := h.2 hD
  exact ⟨o, h1, fun i x hx => hk.cell (p := ⟨g, o + i, none⟩) (hT hD) (h2 i x hx)⟩
/-- A Mark beside a world: what is left of it. -/
def Mw (G : Nat → Prop) (w : World) (A : Ad) (V : Wv) (q : Nat) (D : List Int) (g : Nat) : Prop := ∃ (v : Value) (G' : Nat → Prop), (∀ k, G k → G' k) ∧ MkV w v D g ∧ (D ≠ [] → G' g) ∧ Opw G' w A V q [v]
/-- What NewMark leaves. -/
def NwMk (w : World) (D : List Int) (e : Ending) (w' : World) : Prop := ∃ q g v, e = .returned (.pointer (some ⟨q, 0, none⟩)) ∧ MkV w' v D g ∧ Ob w' q [v] ∧ (w.heap.size ≤ q ∧ q < w'.heap.size) ∧ (D ≠ [] → w.heap.size ≤ g ∧ g < w'.heap.size ∧ g ≠ q) ∧ Below w.heap.size w w'
theorem newMark {w : World} {a : Option Addr} {c n : Nat} {L : List Pv} (h : LayP w a n c L) (hM : n ≤ 1000000) :
    Calls Try.prog 31 #[.slice a n c] w (NwMk w (strsF L)) := by
  have C := Lib.hid (strOf h hM)
  clear h
  generalize strsF L = D at *
  go_enter Try.func31, Try.ntmps31
  go_wp2_with fail
  refine C.out.mono ?_
  rintro e w1 ⟨a', rfl, hl, hb⟩
  have HL := Lib.hid hl
  have HB := Lib.hid hb
  clear hl hb C
  go_wp2_with fail
  go_ret
  have hb := HB.out
  have k : Below w1.heap.size w1 (w1.alloc (.cells #[.slice a' D.length D.length] 124)) := (Below.refl _ _).alloc (Nat.le_refl _) _
  obtain ⟨hxl, ⟨e, h0⟩ | ⟨g, cap, e, hB, hg, hn, hc, hx⟩⟩ := HL.out
  · refine ⟨w1.heap.size, w1.heap.size, .slice a' D.length D.length, rfl, ⟨⟨_, rfl⟩, fun hD => absurd (List.eq_nil_of_length_eq_zero h0) hD⟩, ob_new rfl, ⟨hb.size, by simp⟩, fun hD => absurd (List.eq_nil_of_length_eq_zero h0) hD, hb.trans (k.mono hb.size)⟩
  · injection e with e1 _ _
    subst e1
    refine ⟨w1.heap.size, g, _, rfl, ⟨⟨_, rfl⟩, fun hD => ⟨0, rfl, fun i x hx' => ?_⟩⟩, ob_new rfl, ⟨hb.size, by simp⟩, fun hD => ⟨hB, by simp; omega, by omega⟩, hb.trans (k.mono hb.size)⟩
    rw [Nat.zero_add]
    exact (World.cell?_alloc_lt w1 _ ⟨g, i, none⟩ hg).trans (hx _ _ (rowsU_at hx')).1
theorem mk_over_nil (w : World) : Calls Try.prog 122 #[.pointer none] w fun e w' => e = .returned (.bool true) ∧ w = w' := by
  go_enter Try.func122, Try.ntmps122
  go_wp2_with fail
  go_ret
  exact ⟨rfl, rfl⟩
theorem mk_over {w : World} {q n : Nat} {a : Option Addr} {b : Bool} (h : Ob w q [.slice a n n]) (hb : ((n : Int) == 0) = b) : Calls Try.prog 122 #[.pointer (some ⟨q, 0, none⟩)] w fun e w' => e = .returned (.bool b) ∧ w = w' := by
  have c0 := h.at_ 0 _ rfl
  have hb' : decide (n = 0) = b := by rw [← hb]; cases n <;> rfl
  have HB := Lib.hid hb
  have HB' := Lib.hid hb'
  clear h hb hb'
  go_enter Try.func122, Try.ntmps122
  go_wp2_with fail
  go_ret
  exact ⟨by first | (rw [← HB.out]; rfl) | (rw [← HB'.out]; rfl) | (rw [← HB.out]; simp), rfl⟩
theorem mk_step_nil (x : Value) (w : World) : Calls Try.prog 123 #[.pointer none, x] w fun e w' => e = .returned (.bool true) ∧ w = w' := by
  have C1 := Lib.hid (mk_over_nil w)
  go_enter Try.func123, Try.ntmps123
  go_wp2_with (go_at_call 122; ((with_reducible refine C1.out.mono ?_); rintro e w1 ⟨rfl, rfl⟩))
  go_ret
  exact ⟨rfl, rfl⟩
theorem mk_step0 {w : World} {q : Nat} {a : Option Addr} (h : Ob w q [.slice a 0 0]) (x : Value) : Calls Try.prog 123 #[.pointer (some ⟨q, 0, none⟩), x] w fun e w' => e = .returned (.bool true) ∧ w = w' := by
  have C1 := Lib.hid (mk_over (n := 0) (b := true) h rfl)
  clear h
  go_enter Try.func123, Try.ntmps123
  go_wp2_with (go_at_call 122; ((with_reducible refine C1.out.mono ?_); rintro e w1 ⟨rfl, rfl⟩))
  go_ret
  exact ⟨rfl, rfl⟩
theorem mk_step_no {w : World} {q n : Nat} {a : Option Addr} (h : Ob w q [.slice a n n]) (hn : 0 < n) : Calls Try.prog 123 #[.pointer (some ⟨q, 0, none⟩), .pointer none] w fun e w' => e = .returned (.bool false) ∧ w = w' := by
  have C1 := Lib.hid (mk_over (b := false) h (by simp; omega))
  clear h
  go_enter Try.func123, Try.ntmps123
  go_wp2_with (go_at_call 122; ((with_reducible refine C1.out.mono ?_); rintro e w1 ⟨rfl, rfl⟩))
  go_ret
  exact ⟨rfl, rfl⟩
section
variable {G : Nat → Prop} {w : World} {A : Ad} {V : Wv} {q g : Nat} {D : List Int} {x z u : Int}
set_option maxHeartbeats 2000000 in
set_option maxRecDepth 100000 in
theorem mk_step (h : Mw G w A V q (x :: D) g) (hD : D.length ≤ 1000000) (hx : isU x) (hc : V.cnt < 100000000) (hz : V.f x = z) (hu : IntKind.u64.wrap (z + 1) = u) {b : Bool} (hb : ((D.length : Int) == 0) = b) :
    Calls Try.prog 123 #[.pointer (some ⟨q, 0, none⟩), .pointer (some ⟨A.p, 0, none⟩)] w fun e w' => e = .returned (.bool b) ∧ Mw G w' A (V.acc (upd V.f x u) 4 x z u) q D g ∧ Kp G w w' := by
  obtain ⟨v, G', hGG, hv, hg, ho⟩ := h
  obtain ⟨o, rfl, hat⟩ := hv.2 (by simp)
  have hgG : G' g := hg (by simp)
  obtain ⟨n, hn⟩ : ∃ n, n = D.length := ⟨_, rfl⟩
  have hl : (x :: D).length = n + 1 := by simp [hn]
  rw [hl] at ho
  rw [← hn] at hb hD
  subst hz
  have C0 := Lib.hid (mk_over (n := n + 1) (b := false) ho.ob (by simp; omega))
  have hd0 : Below w.heap.size w w.drew := (Below.refl _ _).drew
  have CA := Lib.hid ((ho.new hd0).add (v := 1) hx (by omega) hu)
  have a0 : w.cell? ⟨g, o, none⟩ = some (.int .u64 x) := by have := hat 0 x rfl; rwa [Nat.add_zero] at this
  have a0' : w.drew.cell? ⟨g, o, none⟩ = some (.int .u64 x) := a0
  have c0 : w.drew.cell? ⟨A.p, 0, none⟩ = some (.pointer (some ⟨A.pc, 0, none⟩)) := ho.box.c0
  have q0 : w.drew.cell? ⟨q, 0, none⟩ = some (.slice (some ⟨g, o, none⟩) (n + 1) (n + 1)) := ho.ob.at_ 0 _ rfl
  have HAT := Lib.hid hat
  have HGG := Lib.hid hGG
  have HG := Lib.hid hgG
  have HN := Lib.hid hn
  have j1 : (0 : Int) < ((n + 1 : Nat) : Int) := by omega
  have j2 : 0 < n + 1 := by omega
  generalize hV1 : V.acc (upd V.f x u) 4 x (V.f x) u = V1 at *
  clear hV1 ho hat hGG hgG hn hv hg hl a0
  go_enter Try.func123, Try.ntmps123
  go_upto_region 2 with (go_at_call 122; ((with_reducible refine C0.out.mono ?_); rintro e w1 ⟨rfl, rfl⟩))
  go_region_held3 (fun X => X.cell? ⟨A.p, 0, none⟩ = some (.pointer (some ⟨A.pc, 0, none⟩)) ∧ X.cell? ⟨q, 0, none⟩ = some (.slice (some ⟨g, o, none⟩) (n + 1) (n + 1)) ∧ X.cell? ⟨g, o, none⟩ = some (.int .u64 x))
    (first | exact ⟨by assumption, by assumption, by assumption⟩)
    (first
      | (go_at_call 124; ((with_reducible refine CA.out.mono ?_); rintro e w2 ⟨rfl, h2, kp2⟩; replace c0 := h2.box.c0; replace q0 := h2.ob.at_ 0 _ rfl; replace a0' := kp2.cell (p := ⟨g, o, none⟩) (fun n => n HG.out) a0'; have H2 := Lib.hid h2; have KP2 := Lib.hid (Kp.to (Kp.of hd0) kp2); clear h2 kp2)))
  clear c0 q0 a0'
  have hd2 : Below w2.heap.size w2 w2.drew := (Below.refl _ _).drew
  have q1 : w2.drew.cell? ⟨q, 0, none⟩ = some (.slice (some ⟨g, o, none⟩) (n + 1) (n + 1)) := H2.out.ob.at_ 0 _ rfl
  have z1 : w2.drew.frozen? ⟨q, 0, none⟩ = false := H2.out.ob.fz 0 (by simp)
  have z2 : w2.frozen? ⟨q, 0, none⟩ = false := z1
  have i1 : (1 : Int) ≤ ((n + 1 : Nat) : Int) := by omega
  have i2 : 1 ≤ n + 1 := by omega
  have i3 : (1 : Int) ≤ (n : Int) + 1 := by omega
  go_wp2_with fail
  go_region
  obtain ⟨ga, hga⟩ : ∃ ga : Option Addr, ga = (if n = 0 then some ⟨g, o, none⟩ else some ⟨g, o + 1, none⟩) := ⟨_, rfl⟩
  rw [← hga]
  have HGA := Lib.hid hga
  clear hga
  obtain ⟨h3, k3⟩ := H2.out.set 0 (.slice ga n n) (by simp) (C' := [.slice ga n n]) rfl
  generalize hW3 : World.drew (World.setCell w2 _ _) = W3
  have h4 : Opw G' W3 A V1 q [.slice ga n n] := by rw [← hW3]; exact h3.new (Below.refl _ _).drew
  have k4 : Kp G' w2 W3 := by rw [← hW3]; exact Kp.to k3 (Kp.of (Below.refl _ _).drew)
  have H4 := Lib.hid h4
  have KP4 := Lib.hid (Kp.to KP2.out k4)
  have C5 := Lib.hid (mk_over h4.ob hb)
  clear h3 k3 h4 k4 hW3 q1 z1 z2 i1 i2 i3 j1 j2
  go_wp2_with (go_at_call 122; ((with_reducible refine C5.out.mono ?_); rintro e w5 ⟨rfl, rfl⟩))
  go_ret
  refine ⟨rfl, ⟨_, G', HGG.out, ⟨⟨_, by rw [← HN.out]⟩, fun hD => ⟨o + 1, ?_, fun i y hy => ?_⟩⟩, fun _ => HG.out, H4.out⟩, KP4.out.less HGG.out⟩
  · have : ¬ n = 0 := fun e => hD (List.eq_nil_of_length_eq_zero (by rw [← HN.out]; exact e))
    rw [HGA.out, if_neg this, ← HN.out]
  · have h1 := HAT.out (i + 1) y (by simpa using hy)
    have h2 := KP4.out.cell (p := ⟨g, o + (i + 1), none⟩) (fun n => n HG.out) h1
    rwa [show o + (i + 1) = o + 1 + i by omega] at h2
theorem Mw.over (h : Mw G w A V q D g) {b : Bool} (hb : ((D.length : Int) == 0) = b) : Calls Try.prog 122 #[.pointer (some ⟨q, 0, none⟩)] w fun e w' => e = .returned (.bool b) ∧ w = w' := by
  obtain ⟨v, G', hGG, ⟨⟨a, rfl⟩, -⟩, hg, ho⟩ := h
  exact mk_over ho.ob hb
theorem Mw.wd (h : Mw G w A V q D g) : WdG G w A V := by
  obtain ⟨v, G', hGG, hv, hg, ho⟩ := h
  obtain ⟨S, h1, h2, h3, h4, h5, h6⟩ := ho
  exact ⟨S, h1, fun k g => h2 k (hGG k g), fun k g => h6 k (hGG k g)⟩
end
/-- A new Mark beside a world. -/
theorem mw_new {G : Nat → Prop} {w w' : World} {A : Ad} {V : Wv} {q g : Nat} {D : List Int} {v : Value} (h : WdG G w A V) (hv : MkV w' v D g) (ho : Ob w' q [v]) (hq : w.heap.size ≤ q ∧ q < w'.heap.size) (hg : D ≠ [] → w.heap.size ≤ g ∧ g < w'.heap.size ∧ g ≠ q) (hb : Below w.heap.size w w') : Mw G w' A V q D g := by
  obtain ⟨S, h1, h2, h3⟩ := h
  refine ⟨v, fun k => G k ∨ (D ≠ [] ∧ k = g), fun k g => .inl g, hv, fun hD => .inr ⟨hD, rfl⟩, S, h1.new hb, fun k gg s => ?_, fun s => ?_, ho, fun gg => ?_, fun k gg => ?_⟩
  · rcases gg with gg | ⟨hD, rfl⟩
    · exact h2 k gg s
    · have := h1.lt _ s; have := hg hD; omega
  · have := h1.lt _ s; omega
  · rcases gg with gg | ⟨hD, e⟩
    · have := h3 _ gg; omega
    · exact (hg hD).2.2 e.symm
  · rcases gg with gg | ⟨hD, rfl⟩
    · exact Nat.lt_of_lt_of_le (h3 k gg) hb.size
    · exact (hg hD).2.1
/-- The places of the example. -/
theorem ex_places : strsF [((1 : Int), (0 : Int)), (1, 1), (1, 0)] = [95, 96] := by decide
set_option maxHeartbeats 2000000 in
set_option maxRecDepth 100000 in
theorem run12 {G : Nat → Prop} {w : World} {A : Ad} {V : Wv} {q g : Nat} (h : Mw G w A V q [95, 96] g) (hc : V.cnt < 1000000) (h1 : V.f 95 = 0) (h2 : V.f 96 = 0) :
    Calls Try.prog 20 #[.pointer (some ⟨A.p, 0, none⟩), .iface 73 (.pointer (some ⟨q, 0, none⟩)), .int .i64 9] w fun e w' => e = .returned (.int .i64 2) ∧ (∃ V', WdG G w' A V' ∧ V'.f 95 = 1 ∧ V'.f 96 = 1) ∧ Kp G w w' := by
  have C0 := Lib.hid (h.over (b := false) rfl)
  have C1 := Lib.hid (mk_step h (by decide) ⟨by decide, by decide⟩ (by omega) h1 (u := 1) (by decide) (b := false) rfl)
  have hV2 : (V.acc (upd V.f 95 1) 4 95 0 1).f 96 = 0 := by show upd V.f 95 1 96 = 0; rw [upd_other (by decide)]; exact h2
  have HV2 := Lib.hid hV2
  have HF := Lib.hid (show upd (upd V.f 95 1) 96 1 95 = 1 ∧ upd (upd V.f 95 1) 96 1 96 = 1 from ⟨by rw [upd_other (by decide), upd_same], upd_same _ _ _⟩)
  clear h hV2
  go_enter Try.func20, Try.ntmps20
  go_wp2_with fail
  refine wp_loop_rounds 3 ?_
  rw [rounds_succ]
  go_wp2_with fail
  refine C0.out.mono ?_
  rintro e w1 ⟨rfl, rfl⟩
  go_wp2_with fail
  refine C1.out.mono ?_
  rintro e w2 ⟨rfl, hm2, k2⟩
  have C2 := Lib.hid (hm2.over (b := false) rfl)
  have C3 := Lib.hid (mk_step hm2 (by decide) ⟨by decide, by decide⟩ (by show V.cnt + 1 < _; omega) HV2.out (u := 1) (by decide) (b := true) rfl)
  have K2 := Lib.hid k2
  clear hm2 k2
  go_wp2_with fail
  rw [rounds_succ]
  go_wp2_with fail
  refine C2.out.mono ?_
  rintro e w3 ⟨rfl, rfl⟩
  go_wp2_with fail
  refine C3.out.mono ?_
  rintro e w4 ⟨rfl, hm4, k4⟩
  have C4 := Lib.hid (hm4.over (b := true) rfl)
  have H4 := Lib.hid hm4
  have K4 := Lib.hid (Kp.to K2.out k4)
  clear hm4 k4
  go_wp2_with fail
  rw [rounds_succ]
  go_wp2_with fail
  refine C4.out.mono ?_
  rintro e w5 ⟨rfl, rfl⟩
  go_wp2_with fail
  go_ret
  exact ⟨rfl, ⟨_, H4.out.wd, HF.out.1, HF.out.2⟩, K4.out⟩
end Go.Proofs.Ytepkpbhhiianpaa
