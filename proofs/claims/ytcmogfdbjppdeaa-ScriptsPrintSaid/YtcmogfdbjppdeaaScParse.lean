/- Scripts: a script's commands. -/
import Derived.Test.YtcmogfdbjppdeaaScFeed
import Derived.Test.YtcmogfdbjppdeaaScList
import Derived.Deep.RegionLaw
import Derived.Deep.AppendLies
namespace Go.Proofs.Ytcmogfdbjppdeaa
open Go.RowKit
set_option linter.unusedVariables false

theorem info_cmd : (Try.prog.info? 31).map (fun i => (i.zero, i.size, i.bytes)) = some (some (.agg #[.int .u8 0, .int .i64 0, .slice none 0 0]), 3, 40) := by kernel_rfl
theorem clipc (a : Option Addr) (n c : Nat) (w : World) (hn : n ≤ c) (hc : c ≤ maxLen) (h0 : a = none → n = 0 ∧ c = 0) :
    Calls Try.prog 19 #[.slice a n c] w fun e w' => e = .returned (.slice a n n) ∧ w = w' := by
  unfold maxLen at hc
  cases a with
  | none =>
    obtain ⟨rfl, rfl⟩ := h0 rfl
    go_enter Try.func19, Try.ntmps19
    go_wp2
    go_ret
    exact ⟨rfl, rfl⟩
  | some a =>
    clear h0
    go_enter Try.func19, Try.ntmps19
    go_wp2
    go_ret
    exact ⟨rfl, rfl⟩
abbrev CmsS (w : World) (B : Nat) (v : Value) (cs : List Cm) : Prop := Cms w B 26 5 .u8 v cs
/-- What a parse hands back. -/
def Parsed (w : World) (cs : List Cm) (e : Ending) (w' : World) : Prop := ∃ v, e = .returned v ∧ Cms w' w.heap.size 31 5 .u8 v cs ∧ Below w.heap.size w w'
theorem parse_none (A : Option Addr) (c : Nat) (w : World) (hc : c ≤ maxLen) (hA : A = none → c = 0) : Calls Try.prog 10 #[.slice A 0 c] w (Parsed w (parse [])) := by
  unfold maxLen at hc
  have fin : ∀ o, Parsed w (parse []) (.returned (.slice none 0 0)) (w.alloc o) := fun o => by
    rw [parse_nil]
    exact ⟨_, rfl, ⟨[], trivial, .inl ⟨rfl, rfl⟩⟩, (Below.refl _ _).alloc (Nat.le_refl _) o⟩
  have FIN := Lib.hid fin
  clear fin
  cases A with
  | none =>
    obtain rfl := hA rfl
    go_enter Try.func10, Try.ntmps10
    go_wp2_with fail
    refine wp_loop_rounds 1 ?_
    rw [rounds_succ]
    go_wp2_with fail
    refine (clipc none 0 0 _ (by omega) (by simp [maxLen]) (fun _ => ⟨rfl, rfl⟩)).mono ?_
    rintro e w1 ⟨rfl, rfl⟩
    go_wp2_with fail
    go_ret
    exact FIN.out _
  | some a =>
    go_enter Try.func10, Try.ntmps10
    go_wp2_with fail
    refine wp_loop_rounds 1 ?_
    rw [rounds_succ]
    go_wp2_with fail
    refine (clipc none 0 0 _ (by omega) (by simp [maxLen]) (fun _ => ⟨rfl, rfl⟩)).mono ?_
    rintro e w1 ⟨rfl, rfl⟩
    go_wp2_with fail
    go_ret
    exact FIN.out _
theorem news3 {W : World} {x y z : Value} {t : TypeId} {j : Nat} {u : Value} (hj : [x, y, z][j]? = some u) : (W.alloc (.cells #[x, y, z] t)).cell? ((⟨W.heap.size, 0, none⟩ : Addr).add j) = some u :=
  World.news_of_block (B := W.heap.size) (cs := #[x, y, z]) (t := t) (fr := (0, 0)) (by show (W.heap.push _)[W.heap.size]? = _; simp) j u hj
theorem Mk.more {w w1 w2 : World} {B g : Nat} {v v' u : Value} {cs : List Cm} {vs : List Value} {x : Cm} {r : List UInt8} {o : Obj} (hB : w.heap.size + 1 = B) (hnx : Below w.heap.size w w1) (ho : OwnAll w1 B 5 cs vs) (hown : w1.ownsRow B 31 3 v cs.length (rows3 .u8 cs vs)) (hu : Own w1 B 5 u x.2.2) (hl : Left w1 w.heap.size w.heap.size g r)
    (hown' : w2.ownsRow B 31 3 v' (cs.length + 1) (rows3 .u8 cs vs ++ cells3 .u8 x u)) (hg : (w1.alloc o).grownBy w2 v.ownBlock) (hv : ¬ v' = .slice none 0 0) :
    Mk w2 B 31 5 .u8 v' (cs ++ [x]) ∧ Left w2 w.heap.size w.heap.size g r ∧ Below w.heap.size w w2 := by
  have hlt := hl.lt
  have hn : Below w1.heap.size w1 (w1.alloc o) := (Below.refl _ _).alloc (Nat.le_refl _) o
  have ho' := ho.map (w' := w1.alloc o) (B' := B) fun v l h => h.below hn
  have hown0 : (w1.alloc o).ownsRow B 31 3 v cs.length (rows3 .u8 cs vs) := hown.alloc _
  have hb : Below B (w1.alloc o) w2 := (Below.refl _ _).grown hg (by simp; omega) (fun k hk => (hown.lt k hk).1)
  refine ⟨Mk.snoc (w0 := w) (by decide) ho' (hu.below hn) hown0 hown' hg hv, ?_, hnx.trans ((hn.mono (by omega)).trans (hb.mono (by omega)))⟩
  have hl' := hl.new hn
  obtain ⟨off, h1, h2, h3⟩ := hl'
  exact ⟨off, (hb.block _ (by omega)).trans h1, h2.below hb (by omega), h3⟩
set_option maxHeartbeats 4000000 in
set_option maxRecDepth 100000 in
theorem parse_some (g off c : Nat) (L : List UInt8) (w : World) (hL : L.length ≤ 1048576) (hLc : L.length ≤ c) (hc : c ≤ maxLen) (hg : g < w.heap.size) (hr : Rd w w.heap.size (some ⟨g, off, none⟩) L) :
    Calls Try.prog 10 #[.slice (some ⟨g, off, none⟩) L.length c] w (Parsed w (parse L)) := by
  obtain ⟨i0, hi, hz0, hz1, hz2⟩ := info_parts info_cmd
  unfold maxLen at hc
  have hl0 : Left (w.alloc (.cells #[.slice (some ⟨g, off, none⟩) L.length L.length] 44)) w.heap.size w.heap.size g L :=
    ⟨off, heap_alloc_new w _, hr.below ((Below.refl _ _).alloc (Nat.le_refl _) _) (Nat.le_refl _), Nat.le_refl _⟩
  have hb0 : Below w.heap.size w (w.alloc (.cells #[.slice (some ⟨g, off, none⟩) L.length L.length] 44)) := (Below.refl _ _).alloc (Nat.le_refl _) _
  obtain ⟨B, hB⟩ : ∃ B, w.heap.size + 1 = B := ⟨_, rfl⟩
  have HBB := Lib.hid hB
  have HL0 := Lib.hid hl0
  have HB0 := Lib.hid hb0
  clear hl0 hb0 hr hB
  go_enter Try.func10, Try.ntmps10
  go_wp2_with fail
  go_loopw [3] (fun v wr => ∃ (cs : List Cm) (rest : List UInt8), Hid (parse L = cs ++ parse rest) ∧ cs.length + rest.length ≤ L.length ∧ Mk wr B 31 5 .u8 v cs ∧ Left wr w.heap.size w.heap.size g rest ∧ Below w.heap.size w wr ∧ v = v) (fun _ wr => match wr.cell? ⟨w.heap.size, 0, none⟩ with | some (.slice _ n _) => n | _ => 0)
  case atStart => exact ⟨[], L, rfl, by simp, Mk.nil _ _ _ _ _, HL0.out, HB0.out, rfl⟩
  case round =>
    obtain ⟨cs, rest, hE, hlen, hmk, hleft, hnx, _⟩ := hrel
    obtain ⟨vs, ho, hown, hnil⟩ := hmk
    cases rest with
    | nil =>
      have hvar : ∃ o', wr.cell? ⟨w.heap.size, 0, none⟩ = some (.slice (some ⟨g, o', none⟩) 0 0) := by
        obtain ⟨o', h1, _⟩ := hleft
        exact ⟨o', cell_of_one h1⟩
      obtain ⟨o', hvar⟩ := hvar
      obtain ⟨a, n, c', hv, hn, hnc, hcm, h0, hC, _⟩ := Mk.form ⟨vs, ho, hown, hnil⟩
      rw [hv]
      have HC := Lib.hid hC
      have HE : Hid (parse L = cs) := by show _ = _; rw [hE.out, parse_nil, List.append_nil]
      clear hown hnil hv hC hE hn hleft
      go_wp2_with fail
      refine (clipc a n c' _ hnc hcm h0).mono ?_
      rintro e w1 ⟨rfl, rfl⟩
      go_wp2_with fail
      go_ret
      rw [HE.out]
      exact ⟨_, rfl, HC.out.mono (by have := HBB.out; omega), hnx⟩
    | cons b r =>
      have hb := u8_lt b
      have hvar : ∃ o', wr.cell? ⟨w.heap.size, 0, none⟩ = some (.slice (some ⟨g, o', none⟩) (r.length + 1) (r.length + 1)) := by
        obtain ⟨o', h1, _⟩ := hleft
        exact ⟨o', cell_of_one h1⟩
      obtain ⟨o', hvar⟩ := hvar
      have hsz := hnx.size
      have hnil1 : ∀ W, Own W B 5 (.slice none 0 0) [] := fun W => .inl ⟨rfl, rfl⟩
      go_wp2_with fail
      refine (cutx w.heap.size g w.heap.size 1 (b :: r) [b] r _ rfl rfl hleft (by simp at hlen ⊢; omega)).mono ?_
      rintro e w1 ⟨o1, rfl, hr1, hl1, hk1, hs1⟩
      have hnx1 : Below w.heap.size w w1 := hnx.trans (hk1.to_below (fun k _ e => by omega) (by omega))
      obtain ⟨vs1, ho1, hown1, hnil2⟩ := Mk.keeps (cs := cs) ⟨vs, ho, hown, hnil⟩ hk1 (by have := HBB.out; omega)
      have hc1 : w1.cell? ⟨g, o1, none⟩ = some (.int .u8 (b.toNat : Int)) := by
        obtain ⟨_, _, he, _, hc⟩ := hr1 (by simp)
        have := hc 0 (by simp)
        simp at he
        obtain ⟨rfl, rfl⟩ := he
        simpa using this
      have hd : [b].length = 1 := rfl
      clear hr1 hk1 hs1 ho hown hnil hleft
      by_cases h1 : b.toNat < 64
      · have h1' : decide ((b.toNat : Int) < 64) = true := decide_eq_true (by omega)
        go_wp2_with fail
        refine (feedx w.heap.size g w.heap.size (b.toNat : Int) r (fedB r) (fedR r) _ rfl rfl hl1 hnx1.size (by simp at hlen; omega)).mono ?_
        rintro e w2 ⟨v2, rfl, hO2', hl2, hk2⟩
        have hnx2 : Below w.heap.size w w2 := hnx1.trans (hk2.to_below (fun k _ e => by omega) hnx1.size)
        have hO2 : Own w2 B 5 v2 (fedB r) := hO2'.mono (by have := HBB.out; have := hl1.lt; omega)
        obtain ⟨vs2, ho2, hown2, hnil3⟩ := Mk.keeps (cs := cs) ⟨vs1, ho1, hown1, hnil2⟩ hk2 (by have := HBB.out; omega)
        clear hO2' hk2 ho1 hown1 hnil2 hl1 hc1
        go_wp2_with (at_builtin; refine wpList_append_own _ rfl _ _ 26 rfl B 31 i0 (.agg #[.int .u8 0, .int .i64 0, .slice none 0 0]) 3 40 Try.underlying26 hi hz0 hz1 hz2 rfl (by decide) _ _ _ rfl (hown2.alloc _) ⟨w2.heap.size, 0, none⟩ 1 1 (cells3 .u8 ((0, (b.toNat : Int), fedB r) : Cm) v2) rfl rfl ?a1 ?a2 ?a3 ?a4 ?a5 ?_)
        case a1 => intro j u hj; exact news3 hj
        case a2 => exact cells3_one (own_one hO2)
        case a3 => simp at hlen; unfold maxLen; omega
        case a4 => simp at hlen; omega
        case a5 => have := HBB.out; have := hnx2.size; have := hl2.lt; simp; omega
        intro v' w3 hown' hgrow hv
        obtain ⟨R1, R2, R3⟩ := Mk.more (x := ((0, (b.toNat : Int), fedB r) : Cm)) HBB.out hnx2 ho2 hown2 hO2 hl2 hown' hgrow hv
        have hE' : Hid (parse L = (cs ++ [((0, (b.toNat : Int), fedB r) : Cm)]) ++ parse (fedR r)) := by show _ = _; rw [hE.out, parse_feed r h1, List.append_assoc]; rfl
        have hcell := R2
        obtain ⟨o3, hc3, _⟩ := hcell
        have hc4 := cell_of_one hc3
        clear hown' hgrow hv hc3
        go_wp2
        go_roundw
        case rel => exact ⟨_, _, hE', by simp at hlen ⊢; have := fedR_len r; omega, R1, R2, R3, trivial⟩
        case measure => simp [hvar, hc4]; have := fedR_len r; omega
      · have h1' : decide ((b.toNat : Int) < 64) = false := decide_eq_false (by omega)
        by_cases h2 : b.toNat < 192
        · have h2' : decide ((b.toNat : Int) < 192) = true := decide_eq_true (by omega)
          go_wp2_with (at_builtin; refine wpList_append_own _ rfl _ _ 26 rfl B 31 i0 (.agg #[.int .u8 0, .int .i64 0, .slice none 0 0]) 3 40 Try.underlying26 hi hz0 hz1 hz2 rfl (by decide) _ _ _ rfl (hown1.alloc _) ⟨w1.heap.size, 0, none⟩ 1 1 (cells3 .u8 ((1, ((b.toNat % 64 : Nat) : Int), []) : Cm) (.slice none 0 0)) rfl rfl ?b1 ?b2 ?b3 ?b4 ?b5 ?_)
          case b1 => intro j u hj; exact news3 hj
          case b2 => exact cells3_one (own_one (hnil1 w1))
          case b3 => simp at hlen; unfold maxLen; omega
          case b4 => simp at hlen; omega
          case b5 => have := HBB.out; have := hnx1.size; have := hl1.lt; simp; omega
          intro v' w3 hown' hgrow hv
          obtain ⟨R1, R2, R3⟩ := Mk.more (x := ((1, ((b.toNat % 64 : Nat) : Int), []) : Cm)) HBB.out hnx1 ho1 hown1 (hnil1 w1) hl1 hown' hgrow hv
          have hE' : Hid (parse L = (cs ++ [((1, ((b.toNat % 64 : Nat) : Int), []) : Cm)]) ++ parse r) := by show _ = _; rw [hE.out, parse_pick r h1 h2, List.append_assoc]; rfl
          have hcell := R2
          obtain ⟨o3, hc3, _⟩ := hcell
          have hc4 := cell_of_one hc3
          clear hown' hgrow hv hc3
          go_wp2
          go_roundw
          case rel => exact ⟨_, _, hE', by simp at hlen ⊢;  omega, R1, R2, R3, trivial⟩
          case measure => simp [hvar, hc4]
        · have h2' : decide ((b.toNat : Int) < 192) = false := decide_eq_false (by omega)
          go_wp2_with (at_builtin; refine wpList_append_own _ rfl _ _ 26 rfl B 31 i0 (.agg #[.int .u8 0, .int .i64 0, .slice none 0 0]) 3 40 Try.underlying26 hi hz0 hz1 hz2 rfl (by decide) _ _ _ rfl (hown1.alloc _) ⟨w1.heap.size, 0, none⟩ 1 1 (cells3 .u8 ((2, 0, []) : Cm) (.slice none 0 0)) rfl rfl ?d1 ?d2 ?d3 ?d4 ?d5 ?_)
          case d1 => intro j u hj; exact news3 hj
          case d2 => exact cells3_one (own_one (hnil1 w1))
          case d3 => simp at hlen; unfold maxLen; omega
          case d4 => simp at hlen; omega
          case d5 => have := HBB.out; have := hnx1.size; have := hl1.lt; simp; omega
          intro v' w3 hown' hgrow hv
          obtain ⟨R1, R2, R3⟩ := Mk.more (x := ((2, 0, []) : Cm)) HBB.out hnx1 ho1 hown1 (hnil1 w1) hl1 hown' hgrow hv
          have hE' : Hid (parse L = (cs ++ [((2, 0, []) : Cm)]) ++ parse r) := by show _ = _; rw [hE.out, parse_tick r h1 h2, List.append_assoc]; rfl
          have hcell := R2
          obtain ⟨o3, hc3, _⟩ := hcell
          have hc4 := cell_of_one hc3
          clear hown' hgrow hv hc3
          go_wp2
          go_roundw
          case rel => exact ⟨_, _, hE', by simp at hlen ⊢;  omega, R1, R2, R3, trivial⟩
          case measure => simp [hvar, hc4]
end Go.Proofs.Ytcmogfdbjppdeaa
