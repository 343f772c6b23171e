/- The law RoomsVoid. -/
import Derived.Test.YtodppilfpemepaaGreatBg0
import Derived.Test.YtodppilfpemepaaGreatGPw
import Derived.Test.YtodppilfpemepaaGreatGRm
import Derived.Test.YtodppilfpemepaaGreatOpen
import Derived.ArgAppend
import Derived.Deep.Cut
import Derived.Deep.CutBlock
import Derived.Deep.QuietTactic
import Derived.BigQuiet
namespace Go.Proofs.YtodppilfpemepaaGreat
open Go.RowKit Go.Maps
set_option linter.unusedVariables false
theorem info_pr : (Tryz.prog.info? 44).map (fun i => (i.zero, i.size, i.bytes)) = some (some (.pointer none), 1, 8) := by kernel_rfl
def pR (q : Nat) : Value := .pointer (some ⟨q, 0, none⟩)
def vr4 (q q3 q4 k : Nat) : Value := if k = 0 then pR q else if k = 1 then .pointer none else if k = 2 then pR q3 else pR q4
def vr5 (q q3 q4 q5 k : Nat) : Value := if k = 4 then pR q5 else vr4 q q3 q4 k
def vs4 (q q3 q4 : Nat) : List Value := [pR q, .pointer none, pR q3, pR q4]
theorem vr5_lt {q q3 q4 q5 k : Nat} (h : k < 4) : vr5 q q3 q4 q5 k = vr4 q q3 q4 k := by unfold vr5; rw [if_neg (by omega)]
theorem vr5_at (q q3 q4 q5 k : Nat) (h : k < 5) : (vs4 q q3 q4 ++ [pR q5])[k]? = some (vr5 q q3 q4 q5 k) := by
  rcases (by omega : k = 0 ∨ k = 1 ∨ k = 2 ∨ k = 3 ∨ k = 4) with rfl | rfl | rfl | rfl | rfl <;> rfl
theorem vs4_c {X : World} {g q q3 q4 : Nat} (h : ∀ k, k < 4 → X.cell? ⟨g, k, none⟩ = some (vr4 q q3 q4 k)) {j : Nat} {u : Value} (hj : (vs4 q q3 q4)[j]? = some u) : X.cell? ((⟨g, 0, none⟩ : Addr).add j) = some u := by
  rw [Addr.add_lit, Nat.zero_add]
  have hl : j < 4 := (List.getElem?_eq_some_iff.1 hj).1
  rw [h j hl]
  rcases (by omega : j = 0 ∨ j = 1 ∨ j = 2 ∨ j = 3) with rfl | rfl | rfl | rfl
  · exact hj
  · exact hj
  · exact hj
  · exact hj
def OvR (X : World) (v : Value) : Prop := v = .pointer none ∨ ∃ b, v = .pointer (some ⟨b, 0, none⟩) ∧ Ob X b rm0
theorem ovr_over {X : World} {v : Value} (h : OvR X v) : Calls Tryz.prog 8 #[v] X fun e w' => e = .returned (.bool true) ∧ X = w' := by
  rcases h with rfl | ⟨b, rfl, h⟩
  · exact rm_over_nil _
  · exact rm_over h
theorem ovr_step {X : World} {v : Value} (h : OvR X v) (x : Value) : Calls Tryz.prog 9 #[v, x] X fun e w' => e = .returned (.bool true) ∧ X = w' := by
  rcases h with rfl | ⟨b, rfl, h⟩
  · exact rm_st_nil _ _
  · exact rm_st_over h _
theorem ovr_got {X : World} {v : Value} (h : OvR X v) : ∃ b k s : Int, Calls Tryz.prog 7 #[v] X fun e w' => e = .returned (.tuple #[.agg #[.int .i64 b, .int .i64 k, .int .i64 s], .bool false]) ∧ Below X.heap.size X w' := by
  rcases h with rfl | ⟨b, rfl, h⟩
  · exact ⟨0, 0, 0, rm_got_nil _⟩
  · exact ⟨_, _, _, rm_got h⟩
theorem belowNr {w : World} (n : Nat) : Below w.heap.size w (w.drewN n) := by
  induction n with
  | zero => exact Below.refl _ _
  | succ n ih => exact ih.drew
theorem rv_at {W : World} {C : Array Value} {T : TypeId} {L : List Value} {n : Nat} (hn : n = W.heap.size) (hL : L = C.toList) : Ob (W.alloc (.cells C T)) n L := by
  subst hn hL
  exact ob_new rfl
theorem rv_bs {a w : World} {o : Obj} (h : Below a.heap.size a w) : Below a.heap.size a (w.alloc o) := h.alloc h.size o
theorem new1r {w : World} {v : Value} {t : TypeId} {j : Nat} {u : Value} (hj : ([v] : List Value)[j]? = some u) : (w.alloc (.cells #[v] t)).cell? ((⟨w.heap.size, 0, none⟩ : Addr).add j) = some u := by
  match j, hj with
  | 0, hj => simp at hj; subst hj; simp [Addr.add]
  | j + 1, hj => simp at hj
theorem own5 {w : World} {B e : Nat} {v : Value} {xs : List Value} (h : w.ownsRow B e 1 v 5 xs) : ∃ g c, v = .slice (some ⟨g, 0, none⟩) 5 c ∧ 5 ≤ c ∧ ∀ j u, xs[j]? = some u → w.cell? ⟨g, j, none⟩ = some u := by
  have hc := h
  obtain ⟨hl, ⟨rfl, h0⟩ | ⟨g, c, cur, rfl, hB, hblk, hn, -⟩⟩ := h
  · omega
  · exact ⟨g, c, rfl, hn, fun j u hu => by have := hc.cells rfl j u hu; rw [Addr.add_lit, Nat.zero_add] at this; exact this⟩
theorem below_grown {w w' : World} (h : w.grownBy w' none) : Below w.heap.size w w' := ⟨h.os, h.tape, h.output, h.size, fun k hk => h.block k hk (by simp)⟩
set_option maxHeartbeats 8000000 in
set_option maxRecDepth 100000 in
theorem walk_RoomsVoid (a0 : Int) (a1 : Int) (w : World) (w0 : (Lit.int .i64 a0).wf = true) (w1 : (Lit.int .u64 a1).wf = true) :
    Calls Tryz.prog 3 #[.int .i64 a0, .int .u64 a1] w fun e w' => e = .returned (.bool true) ∧ Below w.heap.size w w' := by
  have b1 := bounds_u64 w1
  have HU := Lib.hid (show isU a1 from ⟨b1.1, by omega⟩)
  obtain ⟨i0, hi, hz0, hz1, hz2⟩ := info_parts info_pr
  have CN0 := Lib.hid (fun W => newRoom_no 0 a1 (by decide) W)
  have CN13 := Lib.hid (fun W => newRoom_no 13 a1 (by decide) W)
  clear w0 w1 b1
  go_enter Tryz.func3, Tryz.ntmps3
  go_wp2_with fail
  refine (begin0 _).mono ?_
  rintro e w1 ⟨A, R, S, T, rfl, hP, hST, hb1⟩
  have HP := Lib.hid hP
  have HB1 := Lib.hid hb1
  clear hP hST hb1
  go_upto_region 4 with fail
  obtain ⟨P, hPq⟩ : ∃ P, P = w1.heap.size := ⟨_, rfl⟩
  generalize hW2 : World.alloc w1 _ = W2
  generalize hW3 : World.alloc W2 _ = W3
  have z2 : W2.heap.size = P + 1 := by rw [← hW2, hPq]; simp
  have b2 : Below w1.heap.size w1 W2 := by rw [← hW2]; exact rv_bs (Below.refl _ _)
  have b3 : Below W2.heap.size W2 W3 := by rw [← hW3]; exact rv_bs (Below.refl _ _)
  have p0 : W2.cell? ⟨P, 0, none⟩ = some (.pointer (some ⟨A.p, 0, none⟩)) := by rw [← hW2]; exact new_at hPq rfl
  have p1 : W2.cell? ⟨P, 1, none⟩ = some (.pointer (some ⟨R.p, 0, none⟩)) := by rw [← hW2]; exact new_at hPq rfl
  have o3 : Ob W3 (P + 1) rm0 := by rw [← hW3]; exact rv_at z2.symm rfl
  obtain ⟨QG, hQG⟩ : ∃ Q, Q = P + 1 := ⟨_, rfl⟩
  rw [← hQG] at o3
  first | rw [← hPq, ← hQG] | (rw [← hPq]; rw [← hQG]) | rw [← hPq]
  have HB3 := Lib.hid (below_then (below_then HB1.out b2) b3)
  have HPP := Lib.hid (And.intro p0 (And.intro p1 (And.intro o3 (And.intro b2 b3))))
  clear hPq hW2 hW3 z2 p0 p1 o3 b2 b3 hQG
  go_upto_region 5 with (first
    | (go_at_call 6; first
        | ((with_reducible refine (CN0.out _).mono ?_); rintro e w4 ⟨rfl, o4, b4⟩; have H4 := Lib.hid (And.intro o4 b4); clear o4 b4)
        | ((with_reducible refine (CN13.out _).mono ?_); rintro e w5 ⟨rfl, o5, b5⟩; have H5 := Lib.hid (And.intro o5 b5); clear o5 b5)))
  obtain ⟨q3, hq3⟩ : ∃ Q, Q = W3.heap.size := ⟨_, rfl⟩
  obtain ⟨q4, hq4⟩ : ∃ Q, Q = w4.heap.size := ⟨_, rfl⟩
  obtain ⟨GA, hGA⟩ : ∃ Q, Q = w5.heap.size := ⟨_, rfl⟩
  have o4 := H4.out.1
  have o5 := H5.out.1
  rw [← hq3] at o4 ⊢
  rw [← hq4] at o5 ⊢
  rw [← hGA]
  generalize hW6 : World.alloc w5 _ = W6
  have b6 : Below w5.heap.size w5 W6 := by rw [← hW6]; exact rv_bs (Below.refl _ _)
  have g0 : W6.cell? ⟨GA, 0, none⟩ = some (pR QG) := by rw [← hW6]; exact new_at hGA rfl
  have g1 : W6.cell? ⟨GA, 1, none⟩ = some (.pointer none) := by rw [← hW6]; exact new_at hGA rfl
  have g2 : W6.cell? ⟨GA, 2, none⟩ = some (pR q3) := by rw [← hW6]; exact new_at hGA rfl
  have g3 : W6.cell? ⟨GA, 3, none⟩ = some (pR q4) := by rw [← hW6]; exact new_at hGA rfl
  have b36 := below_then (below_then H4.out.2 H5.out.2) b6
  have HX : Hid (∀ X, Below W6.heap.size W6 X → (X.cell? ⟨P, 0, none⟩ = some (.pointer (some ⟨A.p, 0, none⟩)) ∧ X.cell? ⟨P, 1, none⟩ = some (.pointer (some ⟨R.p, 0, none⟩)) ∧ Pw X A R V10 S T) ∧ ∀ k, k < 4 → X.cell? ⟨GA, k, none⟩ = some (vr4 QG q3 q4 k) ∧ OvR X (vr4 QG q3 q4 k)) := Lib.hid (fun X hx => by
    obtain ⟨p0, p1, o3, b2, b3⟩ := HPP.out
    have b3X := below_then b36 hx
    have b2X := below_then b3 b3X
    have up2 : ∀ {b o v}, W2.cell? ⟨b, o, none⟩ = some v → X.cell? ⟨b, o, none⟩ = some v := fun {b o v} hc => (b2X.cell (p := ⟨b, o, none⟩) (World.block_lt_of_cell? _ _ hc)).trans hc
    have up6 : ∀ {b o v}, W6.cell? ⟨b, o, none⟩ = some v → X.cell? ⟨b, o, none⟩ = some v := fun {b o v} hc => (hx.cell (p := ⟨b, o, none⟩) (World.block_lt_of_cell? _ _ hc)).trans hc
    refine ⟨⟨up2 p0, up2 p1, HP.out.new (below_then b2 b2X)⟩, fun k hk => ?_⟩
    rcases (by omega : k = 0 ∨ k = 1 ∨ k = 2 ∨ k = 3) with rfl | rfl | rfl | rfl
    · exact ⟨up6 g0, .inr ⟨_, rfl, o3.new b3X⟩⟩
    · exact ⟨up6 g1, .inl rfl⟩
    · exact ⟨up6 g2, .inr ⟨_, rfl, o4.new (below_then (below_then H5.out.2 b6) hx)⟩⟩
    · exact ⟨up6 g3, .inr ⟨_, rfl, o5.new (below_then b6 hx)⟩⟩)
  have HBW := Lib.hid (below_then HB3.out b36)
  clear hW6 b6 g0 g1 g2 g3 b36 o4 o5 hq3 hq4 hGA HP HB1 HB3 HPP H4 H5 CN0 CN13
  by_cases hlo : a0 < 1
  · have d0 : decide (a0 < 1) = true := decide_eq_true hlo
    have CNB := Lib.hid (fun W => newRoom_no a0 a1 (by unfold szf; rw [if_neg (by omega)]) W)
    clear hlo
    go_upto_region 6 with fail
    go_upto_region 7 with (first
      | (go_at_call 6; ((with_reducible refine (CNB.out _).mono ?_); rintro e w7 ⟨rfl, o7, b7⟩; have H7 := Lib.hid (And.intro o7 b7); clear o7 b7))
      | (at_builtin; refine wpList_append_grows _ rfl (.tmp 30) (.tmp 34) 46 rfl 44 i0 (.pointer none) 1 8 Tryz.underlying46 hi hz0 hz1 hz2 rfl (by decide) (some ⟨GA, 0, none⟩) 4 4 (vs4 QG q3 q4) rfl (fun h => by simp at h) rfl (fun b hb j u hj => by injection hb with hb; subst hb; exact vs4_c (fun k hk => ((HX.out _ (below_then H7.out.2 (rv_bs (Below.refl _ _)))).2 k hk).1) hj) ⟨w7.heap.size, 0, none⟩ 1 1 [.pointer (some ⟨W6.heap.size, 0, none⟩)] rfl rfl (by intro j u hj; exact new1r hj) (by simp [Value.oneCell']) (by decide) (by unfold maxLen; omega) (by omega) ?_; intro v8 w8 hown8 hgr8))
    obtain ⟨GB, cb, rfl, hnb, hat8⟩ := own5 hown8
    have b8 : Below w7.heap.size w7 w8 := ((Below.refl _ _).alloc (Nat.le_refl _) _).trans ((below_grown hgr8).mono (by simp))
    have HX8 : Hid (∀ X, Below w8.heap.size w8 X → (X.cell? ⟨P, 0, none⟩ = some (.pointer (some ⟨A.p, 0, none⟩)) ∧ X.cell? ⟨P, 1, none⟩ = some (.pointer (some ⟨R.p, 0, none⟩)) ∧ Pw X A R V10 S T) ∧ ∀ k, k < 5 → X.cell? ⟨GB, k, none⟩ = some (vr5 QG q3 q4 W6.heap.size k) ∧ OvR X (vr5 QG q3 q4 W6.heap.size k)) := Lib.hid (fun X hx => by
      have b7 : Below W6.heap.size W6 X := below_then (below_then H7.out.2 b8) hx
      obtain ⟨h1, h2⟩ := HX.out X b7
      refine ⟨h1, fun k hk => ?_⟩
      have hc := hat8 k _ (vr5_at QG q3 q4 W6.heap.size k hk)
      refine ⟨(hx.cell (p := ⟨GB, k, none⟩) (World.block_lt_of_cell? _ _ hc)).trans hc, ?_⟩
      by_cases e : k < 4
      · rw [vr5_lt e]
        exact (h2 k e).2
      · obtain rfl : k = 4 := by omega
        exact .inr ⟨_, rfl, H7.out.1.new (below_then b8 hx)⟩)
    have HBW := Lib.hid (below_then (below_then HBW.out H7.out.2) b8)
    have HX := HX8
    clear hown8 hgr8 hat8 b8 H7 HX8
    clear d0
    go_wp2_with fail
    go_loopw [9] (fun i X => ∃ k : Nat, k ≤ 5 ∧ i = .int .i64 k ∧ Below w8.heap.size w8 X) (fun i _ => 5 - (intOf i).toNat)
    case atStart => exact ⟨0, by omega, rfl, Below.refl _ _⟩
    case round =>
      obtain ⟨k, hk, rfl, hb⟩ := hrel
      have HB := Lib.hid hb
      by_cases hlt : k < 5
      · have s0 := ((HX.out wr hb).2 k hlt).1
        obtain ⟨b0, k0, c0, CG⟩ := ovr_got ((HX.out wr hb).2 k hlt).2
        have CG := Lib.hid CG
        have j0 : (0 : Int) ≤ (k : Int) := by omega
        have j1 : (k : Int) < 5 := by omega
        have HLT := Lib.hid hlt
        have KX := Lib.hid (fun (W : World) (hW : Below wr.heap.size wr W) => HX.out W (below_then hb hW))
        have HV := Lib.hid (show ∃ va, va = vr5 QG q3 q4 W6.heap.size k from ⟨_, rfl⟩)
        obtain ⟨va, hva⟩ := HV.out
        have HVA := Lib.hid hva
        rw [← hva] at s0 CG
        clear hb hk HV hva
        go_upto_region 11 with (go_at_call 7; ((with_reducible refine CG.out.mono ?_); rintro e w2 ⟨rfl, b2⟩; have K2 := Lib.hid b2; clear b2))
        generalize hWG : World.alloc w2 _ = wg
        have K2 := Lib.hid (below_then K2.out (show Below w2.heap.size w2 wg by rw [← hWG]; exact (Below.refl _ _).alloc (Nat.le_refl _) _))
        obtain ⟨⟨s2, -, -⟩, hv⟩ := KX.out wg K2.out
        clear s0 hWG
        have s0 := (hv k HLT.out).1
        rw [← HVA.out] at s0
        have KO : ∀ n, OvR (wg.drewN n) va := fun n => by rw [HVA.out]; exact ((KX.out (wg.drewN n) (below_then K2.out (belowNr n))).2 k HLT.out).2
        have CO := Lib.hid (fun n => ovr_over (KO n))
        have CT := Lib.hid (fun n x => ovr_step (KO n) x)
        clear hv KO HVA
        go_wp2_with fail
        go_quiet (first
          | (go_at_call 8; exact quiet_left (CO.out _))
          | (go_at_call 9; exact quiet_left (CT.out _ _)))
        clear s0 s2
        go_wp2_with fail
        go_roundw
        case rel => exact ⟨k + 1, by have := HLT.out; omega, by go_num, below_then HB.out (below_then K2.out (belowNr _))⟩
        case measure => have := HLT.out; simp [intOf]; omega
      · obtain rfl : k = 5 := by omega
        clear hlt hk hb
        go_wp2_with fail
        refine (newRoom2 a1 HU.out _ rfl rfl).mono ?_
        rintro e w3 ⟨rfl, o3, b3⟩
        have HB3 := Lib.hid (below_then HB.out b3)
        have D1 := Lib.hid (rm_st_no o3)
        have D2 := Lib.hid (rm_overn o3)
        have D3 := Lib.hid (rm_got o3)
        clear o3 b3
        unfold gotR at D3
        go_upto_region 16 with (first
          | (go_at_call 9; ((with_reducible refine D1.out.mono ?_); rintro e w7 ⟨rfl, rfl⟩))
          | (go_at_call 8; ((with_reducible refine D2.out.mono ?_); rintro e w7 ⟨rfl, rfl⟩))
          | (go_at_call 7; ((with_reducible refine D3.out.mono ?_); rintro e w4 ⟨rfl, b4⟩; have HB4 := Lib.hid (below_then HB3.out b4); clear b4)))
        generalize hWH : World.alloc w4 _ = wh
        have HB5 := Lib.hid (below_then HB4.out (show Below w4.heap.size w4 wh by rw [← hWH]; exact (Below.refl _ _).alloc (Nat.le_refl _) _))
        clear hWH
        obtain ⟨⟨f0, f1, hpw⟩, -⟩ := HX.out wh HB5.out
        have CA := Lib.hid (pw_all hpw rfl (by decide) (by decide))
        clear hpw
        go_wp2_with (first
          | (go_at_call 10; ((with_reducible refine CA.out.mono ?_); rintro e w8 ⟨rfl, hk8⟩; have HK8 := Lib.hid (below_then HB5.out hk8); clear hk8))
          | (go_at_call 11; refine (lives18 _).mono ?_; rintro e w9 ⟨rfl, hk9⟩; have HK9 := Lib.hid (below_then HK8.out hk9); clear hk9))
        go_ret
        exact ⟨rfl, below_then HBW.out HK9.out⟩
  · have d0 : decide (a0 < 1) = false := decide_eq_false hlo
    by_cases hhi : 12 < a0
    · have d1 : decide (a0 > 12) = true := decide_eq_true hhi
      have d2 : decide (12 < a0) = true := decide_eq_true hhi
      have CNB := Lib.hid (fun W => newRoom_no a0 a1 (by unfold szf; rw [if_neg (by omega)]) W)
      clear hlo hhi
      go_upto_region 6 with fail
      go_upto_region 7 with (first
        | (go_at_call 6; ((with_reducible refine (CNB.out _).mono ?_); rintro e w7 ⟨rfl, o7, b7⟩; have H7 := Lib.hid (And.intro o7 b7); clear o7 b7))
        | (at_builtin; refine wpList_append_grows _ rfl (.tmp 30) (.tmp 34) 46 rfl 44 i0 (.pointer none) 1 8 Tryz.underlying46 hi hz0 hz1 hz2 rfl (by decide) (some ⟨GA, 0, none⟩) 4 4 (vs4 QG q3 q4) rfl (fun h => by simp at h) rfl (fun b hb j u hj => by injection hb with hb; subst hb; exact vs4_c (fun k hk => ((HX.out _ (below_then H7.out.2 (rv_bs (Below.refl _ _)))).2 k hk).1) hj) ⟨w7.heap.size, 0, none⟩ 1 1 [.pointer (some ⟨W6.heap.size, 0, none⟩)] rfl rfl (by intro j u hj; exact new1r hj) (by simp [Value.oneCell']) (by decide) (by unfold maxLen; omega) (by omega) ?_; intro v8 w8 hown8 hgr8))
      obtain ⟨GB, cb, rfl, hnb, hat8⟩ := own5 hown8
      have b8 : Below w7.heap.size w7 w8 := ((Below.refl _ _).alloc (Nat.le_refl _) _).trans ((below_grown hgr8).mono (by simp))
      have HX8 : Hid (∀ X, Below w8.heap.size w8 X → (X.cell? ⟨P, 0, none⟩ = some (.pointer (some ⟨A.p, 0, none⟩)) ∧ X.cell? ⟨P, 1, none⟩ = some (.pointer (some ⟨R.p, 0, none⟩)) ∧ Pw X A R V10 S T) ∧ ∀ k, k < 5 → X.cell? ⟨GB, k, none⟩ = some (vr5 QG q3 q4 W6.heap.size k) ∧ OvR X (vr5 QG q3 q4 W6.heap.size k)) := Lib.hid (fun X hx => by
        have b7 : Below W6.heap.size W6 X := below_then (below_then H7.out.2 b8) hx
        obtain ⟨h1, h2⟩ := HX.out X b7
        refine ⟨h1, fun k hk => ?_⟩
        have hc := hat8 k _ (vr5_at QG q3 q4 W6.heap.size k hk)
        refine ⟨(hx.cell (p := ⟨GB, k, none⟩) (World.block_lt_of_cell? _ _ hc)).trans hc, ?_⟩
        by_cases e : k < 4
        · rw [vr5_lt e]
          exact (h2 k e).2
        · obtain rfl : k = 4 := by omega
          exact .inr ⟨_, rfl, H7.out.1.new (below_then b8 hx)⟩)
      have HBW := Lib.hid (below_then (below_then HBW.out H7.out.2) b8)
      have HX := HX8
      clear hown8 hgr8 hat8 b8 H7 HX8
      clear d0 d1 d2
      go_wp2_with fail
      go_loopw [9] (fun i X => ∃ k : Nat, k ≤ 5 ∧ i = .int .i64 k ∧ Below w8.heap.size w8 X) (fun i _ => 5 - (intOf i).toNat)
      case atStart => exact ⟨0, by omega, rfl, Below.refl _ _⟩
      case round =>
        obtain ⟨k, hk, rfl, hb⟩ := hrel
        have HB := Lib.hid hb
        by_cases hlt : k < 5
        · have s0 := ((HX.out wr hb).2 k hlt).1
          obtain ⟨b0, k0, c0, CG⟩ := ovr_got ((HX.out wr hb).2 k hlt).2
          have CG := Lib.hid CG
          have j0 : (0 : Int) ≤ (k : Int) := by omega
          have j1 : (k : Int) < 5 := by omega
          have HLT := Lib.hid hlt
          have KX := Lib.hid (fun (W : World) (hW : Below wr.heap.size wr W) => HX.out W (below_then hb hW))
          have HV := Lib.hid (show ∃ va, va = vr5 QG q3 q4 W6.heap.size k from ⟨_, rfl⟩)
          obtain ⟨va, hva⟩ := HV.out
          have HVA := Lib.hid hva
          rw [← hva] at s0 CG
          clear hb hk HV hva
          go_upto_region 11 with (go_at_call 7; ((with_reducible refine CG.out.mono ?_); rintro e w2 ⟨rfl, b2⟩; have K2 := Lib.hid b2; clear b2))
          generalize hWG : World.alloc w2 _ = wg
          have K2 := Lib.hid (below_then K2.out (show Below w2.heap.size w2 wg by rw [← hWG]; exact (Below.refl _ _).alloc (Nat.le_refl _) _))
          obtain ⟨⟨s2, -, -⟩, hv⟩ := KX.out wg K2.out
          clear s0 hWG
          have s0 := (hv k HLT.out).1
          rw [← HVA.out] at s0
          have KO : ∀ n, OvR (wg.drewN n) va := fun n => by rw [HVA.out]; exact ((KX.out (wg.drewN n) (below_then K2.out (belowNr n))).2 k HLT.out).2
          have CO := Lib.hid (fun n => ovr_over (KO n))
          have CT := Lib.hid (fun n x => ovr_step (KO n) x)
          clear hv KO HVA
          go_wp2_with fail
          go_quiet (first
            | (go_at_call 8; exact quiet_left (CO.out _))
            | (go_at_call 9; exact quiet_left (CT.out _ _)))
          clear s0 s2
          go_wp2_with fail
          go_roundw
          case rel => exact ⟨k + 1, by have := HLT.out; omega, by go_num, below_then HB.out (below_then K2.out (belowNr _))⟩
          case measure => have := HLT.out; simp [intOf]; omega
        · obtain rfl : k = 5 := by omega
          clear hlt hk hb
          go_wp2_with fail
          refine (newRoom2 a1 HU.out _ rfl rfl).mono ?_
          rintro e w3 ⟨rfl, o3, b3⟩
          have HB3 := Lib.hid (below_then HB.out b3)
          have D1 := Lib.hid (rm_st_no o3)
          have D2 := Lib.hid (rm_overn o3)
          have D3 := Lib.hid (rm_got o3)
          clear o3 b3
          unfold gotR at D3
          go_upto_region 16 with (first
            | (go_at_call 9; ((with_reducible refine D1.out.mono ?_); rintro e w7 ⟨rfl, rfl⟩))
            | (go_at_call 8; ((with_reducible refine D2.out.mono ?_); rintro e w7 ⟨rfl, rfl⟩))
            | (go_at_call 7; ((with_reducible refine D3.out.mono ?_); rintro e w4 ⟨rfl, b4⟩; have HB4 := Lib.hid (below_then HB3.out b4); clear b4)))
          generalize hWH : World.alloc w4 _ = wh
          have HB5 := Lib.hid (below_then HB4.out (show Below w4.heap.size w4 wh by rw [← hWH]; exact (Below.refl _ _).alloc (Nat.le_refl _) _))
          clear hWH
          obtain ⟨⟨f0, f1, hpw⟩, -⟩ := HX.out wh HB5.out
          have CA := Lib.hid (pw_all hpw rfl (by decide) (by decide))
          clear hpw
          go_wp2_with (first
            | (go_at_call 10; ((with_reducible refine CA.out.mono ?_); rintro e w8 ⟨rfl, hk8⟩; have HK8 := Lib.hid (below_then HB5.out hk8); clear hk8))
            | (go_at_call 11; refine (lives18 _).mono ?_; rintro e w9 ⟨rfl, hk9⟩; have HK9 := Lib.hid (below_then HK8.out hk9); clear hk9))
          go_ret
          exact ⟨rfl, below_then HBW.out HK9.out⟩
    · have d1 : decide (a0 > 12) = false := decide_eq_false hhi
      have d2 : decide (12 < a0) = false := decide_eq_false hhi
      clear hlo hhi
      go_upto_region 7 with fail
      clear d0 d1 d2
      go_wp2_with fail
      go_loopw [9] (fun i X => ∃ k : Nat, k ≤ 4 ∧ i = .int .i64 k ∧ Below W6.heap.size W6 X) (fun i _ => 4 - (intOf i).toNat)
      case atStart => exact ⟨0, by omega, rfl, Below.refl _ _⟩
      case round =>
        obtain ⟨k, hk, rfl, hb⟩ := hrel
        have HB := Lib.hid hb
        by_cases hlt : k < 4
        · have s0 := ((HX.out wr hb).2 k hlt).1
          obtain ⟨b0, k0, c0, CG⟩ := ovr_got ((HX.out wr hb).2 k hlt).2
          have CG := Lib.hid CG
          have j0 : (0 : Int) ≤ (k : Int) := by omega
          have j1 : (k : Int) < 4 := by omega
          have HLT := Lib.hid hlt
          have KX := Lib.hid (fun (W : World) (hW : Below wr.heap.size wr W) => HX.out W (below_then hb hW))
          have HV := Lib.hid (show ∃ va, va = vr4 QG q3 q4 k from ⟨_, rfl⟩)
          obtain ⟨va, hva⟩ := HV.out
          have HVA := Lib.hid hva
          rw [← hva] at s0 CG
          clear hb hk HV hva
          go_upto_region 11 with (go_at_call 7; ((with_reducible refine CG.out.mono ?_); rintro e w2 ⟨rfl, b2⟩; have K2 := Lib.hid b2; clear b2))
          generalize hWG : World.alloc w2 _ = wg
          have K2 := Lib.hid (below_then K2.out (show Below w2.heap.size w2 wg by rw [← hWG]; exact (Below.refl _ _).alloc (Nat.le_refl _) _))
          obtain ⟨⟨s2, -, -⟩, hv⟩ := KX.out wg K2.out
          clear s0 hWG
          have s0 := (hv k HLT.out).1
          rw [← HVA.out] at s0
          have KO : ∀ n, OvR (wg.drewN n) va := fun n => by rw [HVA.out]; exact ((KX.out (wg.drewN n) (below_then K2.out (belowNr n))).2 k HLT.out).2
          have CO := Lib.hid (fun n => ovr_over (KO n))
          have CT := Lib.hid (fun n x => ovr_step (KO n) x)
          clear hv KO HVA
          go_wp2_with fail
          go_quiet (first
            | (go_at_call 8; exact quiet_left (CO.out _))
            | (go_at_call 9; exact quiet_left (CT.out _ _)))
          clear s0 s2
          go_wp2_with fail
          go_roundw
          case rel => exact ⟨k + 1, by have := HLT.out; omega, by go_num, below_then HB.out (below_then K2.out (belowNr _))⟩
          case measure => have := HLT.out; simp [intOf]; omega
        · obtain rfl : k = 4 := by omega
          clear hlt hk hb
          go_wp2_with fail
          refine (newRoom2 a1 HU.out _ rfl rfl).mono ?_
          rintro e w3 ⟨rfl, o3, b3⟩
          have HB3 := Lib.hid (below_then HB.out b3)
          have D1 := Lib.hid (rm_st_no o3)
          have D2 := Lib.hid (rm_overn o3)
          have D3 := Lib.hid (rm_got o3)
          clear o3 b3
          unfold gotR at D3
          go_upto_region 16 with (first
            | (go_at_call 9; ((with_reducible refine D1.out.mono ?_); rintro e w7 ⟨rfl, rfl⟩))
            | (go_at_call 8; ((with_reducible refine D2.out.mono ?_); rintro e w7 ⟨rfl, rfl⟩))
            | (go_at_call 7; ((with_reducible refine D3.out.mono ?_); rintro e w4 ⟨rfl, b4⟩; have HB4 := Lib.hid (below_then HB3.out b4); clear b4)))
          generalize hWH : World.alloc w4 _ = wh
          have HB5 := Lib.hid (below_then HB4.out (show Below w4.heap.size w4 wh by rw [← hWH]; exact (Below.refl _ _).alloc (Nat.le_refl _) _))
          clear hWH
          obtain ⟨⟨f0, f1, hpw⟩, -⟩ := HX.out wh HB5.out
          have CA := Lib.hid (pw_all hpw rfl (by decide) (by decide))
          clear hpw
          go_wp2_with (first
            | (go_at_call 10; ((with_reducible refine CA.out.mono ?_); rintro e w8 ⟨rfl, hk8⟩; have HK8 := Lib.hid (below_then HB5.out hk8); clear hk8))
            | (go_at_call 11; refine (lives18 _).mono ?_; rintro e w9 ⟨rfl, hk9⟩; have HK9 := Lib.hid (below_then HK8.out hk9); clear hk9))
          go_ret
          exact ⟨rfl, below_then HBW.out HK9.out⟩
end Go.Proofs.YtodppilfpemepaaGreat
