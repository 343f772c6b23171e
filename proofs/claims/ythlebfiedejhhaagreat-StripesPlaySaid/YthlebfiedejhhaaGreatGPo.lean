/- The chapter's Puts and Outs. -/
import Derived.Test.YthlebfiedejhhaaGreatHf
import Derived.Test.YthlebfiedejhhaaGreatGPu
import Derived.Deep.AppendLies
namespace Go.Proofs.YthlebfiedejhhaaGreat
open Go.RowKit Go.Maps
set_option linter.unusedVariables false
/-- The chapter's operation. -/
def roC (ln : Int) (g o : Bool) (b k s tg ref wd : Int) : List Value := [.int .i64 ln, .bool g, .bool o, .int .i64 b, .int .i64 k, .int .i64 s, .int .i64 tg, .int .i64 ref, .int .u64 wd]
set_option maxRecDepth 100000 in
theorem rnewPut (b k s tg ref : Int) (w : World) {z : Int} (hz : z = if itemf b k s ≠ 0 ∧ 1 ≤ tg ∧ tg ≤ 255 ∧ 1 ≤ ref then 1 else 0) :
    Calls Tryz.prog 39 #[.agg #[.int .i64 b, .int .i64 k, .int .i64 s], .int .i64 tg, .int .i64 ref] w (NwOb w (roC z false false b k s tg ref 0)) := by
  have CI := Lib.hid (fun W => ritem b k s W)
  generalize itemf b k s = a at *
  have hc : ((a != 0) = false ∧ z = 0) ∨ ((a != 0) = true ∧ decide (0 < tg) = false ∧ z = 0) ∨ ((a != 0) = true ∧ decide (0 < tg) = true ∧ decide (tg < 256) = false ∧ z = 0) ∨ ((a != 0) = true ∧ decide (0 < tg) = true ∧ decide (tg < 256) = true ∧ decide (0 < ref) = false ∧ z = 0) ∨ ((a != 0) = true ∧ decide (0 < tg) = true ∧ decide (tg < 256) = true ∧ decide (0 < ref) = true ∧ z = 1) := by
    by_cases h0 : a = 0
    · exact .inl ⟨by simp [h0], by rw [hz, if_neg (fun h => h.1 h0)]⟩
    by_cases h1 : 1 ≤ tg
    · by_cases h2 : tg ≤ 255
      · by_cases h3 : 1 ≤ ref
        · exact .inr (.inr (.inr (.inr ⟨by simp [h0], decide_eq_true (by omega), decide_eq_true (by omega), decide_eq_true (by omega), by rw [hz, if_pos ⟨h0, h1, h2, h3⟩]⟩)))
        · exact .inr (.inr (.inr (.inl ⟨by simp [h0], decide_eq_true (by omega), decide_eq_true (by omega), decide_eq_false (by omega), by rw [hz, if_neg (fun h => h3 h.2.2.2)]⟩)))
      · exact .inr (.inr (.inl ⟨by simp [h0], decide_eq_true (by omega), decide_eq_false (by omega), by rw [hz, if_neg (fun h => h2 h.2.2.1)]⟩))
    · exact .inr (.inl ⟨by simp [h0], decide_eq_false (by omega), by rw [hz, if_neg (fun h => h1 h.2.1)]⟩)
  clear hz
  rcases hc with ⟨d0, rfl⟩ | ⟨d0, d1, rfl⟩ | ⟨d0, d1, d2, rfl⟩ | ⟨d0, d1, d2, d3, rfl⟩ | ⟨d0, d1, d2, d3, rfl⟩
  all_goals
    go_enter Tryz.func39, Tryz.ntmps39
    go_wp2_with fail
    obtain ⟨q, hq⟩ : ∃ q, q = w.heap.size + 1 := ⟨_, rfl⟩
    generalize hW : World.alloc (World.alloc w _) _ = W
    have bW : Below w.heap.size w W := by rw [← hW]; exact bs_alloc (bs_alloc (Below.refl _ _))
    have hO : Ob W q (roC 0 false false b k s tg ref 0) := by rw [← hW, hq]; exact ob_at (by simp) rfl
    rw [← hq]
    have HQ := Lib.hid (show w.heap.size ≤ q by omega)
    have HBW := Lib.hid bW
    clear hW bW hq
    refine (CI.out _).mono ?_
    rintro e w1 ⟨rfl, k1⟩
    have hO1 := hO.new k1
    have HO1 := Lib.hid hO1
    have HB1 := Lib.hid (below_then HBW.out k1)
    have c6 := hO1.at_ 0 _ rfl
    have f6 := hO1.fz 0 (by simp [roC])
    clear hO hO1 k1
    go_wp2_with fail
    go_ret
    first
      | exact nwOb HO1.out HQ.out HB1.out
      | exact nwOb (HO1.out.set 0 (.int .i64 1) (by simp [roC]) rfl) HQ.out (bs_set HB1.out HQ.out)
theorem rnewOut (b k s : Int) (w : World) {z : Int} (hz : z = if itemf b k s ≠ 0 then 1 else 0) :
    Calls Tryz.prog 41 #[.agg #[.int .i64 b, .int .i64 k, .int .i64 s]] w (NwOb w (roC z false true b k s 0 0 0)) := by
  have CI := Lib.hid (fun W => ritem b k s W)
  generalize itemf b k s = a at *
  have hc : ((a != 0) = false ∧ z = 0) ∨ ((a != 0) = true ∧ z = 1) := by
    by_cases h0 : a = 0
    · exact .inl ⟨by simp [h0], by rw [hz, if_neg (fun h => h h0)]⟩
    · exact .inr ⟨by simp [h0], by rw [hz, if_pos h0]⟩
  clear hz
  rcases hc with ⟨d0, rfl⟩ | ⟨d0, rfl⟩
  all_goals
    go_enter Tryz.func41, Tryz.ntmps41
    go_wp2_with fail
    obtain ⟨q, hq⟩ : ∃ q, q = w.heap.size + 1 := ⟨_, rfl⟩
    generalize hW : World.alloc (World.alloc w _) _ = W
    have bW : Below w.heap.size w W := by rw [← hW]; exact bs_alloc (bs_alloc (Below.refl _ _))
    have hO : Ob W q (roC 0 false true b k s 0 0 0) := by rw [← hW, hq]; exact ob_at (by simp) rfl
    rw [← hq]
    have HQ := Lib.hid (show w.heap.size ≤ q by omega)
    have HBW := Lib.hid bW
    clear hW bW hq
    refine (CI.out _).mono ?_
    rintro e w1 ⟨rfl, k1⟩
    have hO1 := hO.new k1
    have HO1 := Lib.hid hO1
    have HB1 := Lib.hid (below_then HBW.out k1)
    have c4 := hO1.at_ 0 _ rfl
    have f4 := hO1.fz 0 (by simp [roC])
    clear hO hO1 k1
    go_wp2_with fail
    go_ret
    first
      | exact nwOb HO1.out HQ.out HB1.out
      | exact nwOb (HO1.out.set 0 (.int .i64 1) (by simp [roC]) rfl) HQ.out (bs_set HB1.out HQ.out)
/-- What a step of it leaves. -/
def RoP (G : Nat → Prop) (A R : Ad) (V V2 : Wv) (q : Nat) (D : List Value) (w : World) (e : Ending) (w' : World) : Prop := e = .returned (.tuple #[]) ∧ Hf G w' A R V V2 ∧ Ob w' q D ∧ Kp (fun j => G j ∧ j ≠ q) w w'
section
variable {G : Nat → Prop} {w : World} {A R : Ad} {V V2 : Wv} {q : Nat} {b k s tg ref wd a z y : Int} {g o : Bool}
set_option maxHeartbeats 1000000 in
set_option maxRecDepth 100000 in
theorem ro_step0 (h : Hf G w A R V V2) (hq : G q) (ho : Ob w q (roC 0 g o b k s tg ref wd)) (ht : tagsf b k = a) (hi : itemf b k s = z) (hc : V2.cnt < 100000000) :
    Calls Tryz.prog 109 #[.pointer (some ⟨q, 0, none⟩), .pointer (some ⟨R.p, 0, none⟩)] w (RoP G A R V (V2) q (roC 0 g o b k s tg ref wd) w) := by
  have hua : isU a := ht ▸ uTags b k
  have huz : isU z := hi ▸ uItem b k s
  have CT := Lib.hid (fun W => rtags b k W)
  rw [ht] at CT
  have CI := Lib.hid (fun W => ritem b k s W)
  rw [hi] at CI
  have KEEP := Lib.hid (show ∀ X, Kp G w X → Ob X q (roC 0 g o b k s tg ref wd) from fun X hk => ho.keep hk (fun n => n hq))
  have HG := Lib.hid hq

  have hO := KEEP.out w (Keeps.refl _ _)
  have c0 := hO.at_ 0 _ rfl; have c1 := hO.at_ 1 _ rfl; have c2 := hO.at_ 2 _ rfl; have c3 := hO.at_ 3 _ rfl; have c4 := hO.at_ 4 _ rfl; have c5 := hO.at_ 5 _ rfl; have c6 := hO.at_ 6 _ rfl; have c7 := hO.at_ 7 _ rfl; have c8 := hO.at_ 8 _ rfl
  have HH := Lib.hid h
  clear h ht hi ho hq hO
  go_enter Tryz.func109, Tryz.ntmps109
  go_wp2_with (first
    | (go_at_call 111; ((with_reducible refine (CT.out _).mono ?_); rintro e w1 ⟨rfl, hb1⟩; have hO := KEEP.out _ (Kp.of hb1); clear c0 c1 c2 c3 c4 c5 c6 c7 c8; have c0 := hO.at_ 0 _ rfl; have c1 := hO.at_ 1 _ rfl; have c2 := hO.at_ 2 _ rfl; have c3 := hO.at_ 3 _ rfl; have c4 := hO.at_ 4 _ rfl; have c5 := hO.at_ 5 _ rfl; have c6 := hO.at_ 6 _ rfl; have c7 := hO.at_ 7 _ rfl; have c8 := hO.at_ 8 _ rfl; clear hO))
    | (go_at_call 44; ((with_reducible refine (CI.out _).mono ?_); rintro e w2 ⟨rfl, hk2⟩; have hb2 := below_then hb1 hk2; have hO := KEEP.out _ (Kp.of hb2); clear hk2 c0 c1 c2 c3 c4 c5 c6 c7 c8; have c0 := hO.at_ 0 _ rfl; have c1 := hO.at_ 1 _ rfl; have c2 := hO.at_ 2 _ rfl; have c3 := hO.at_ 3 _ rfl; have c4 := hO.at_ 4 _ rfl; have c5 := hO.at_ 5 _ rfl; have c6 := hO.at_ 6 _ rfl; have c7 := hO.at_ 7 _ rfl; have c8 := hO.at_ 8 _ rfl; clear hO)))
  exact bodyPost_ret (v := .tuple #[]) (by simp [results, Tryz.results109, go_sem]) rfl ⟨rfl, HH.out.new hb2, KEEP.out _ (Kp.of hb2), (Kp.of (G := fun j => G j ∧ j ≠ q) hb2)⟩
set_option maxHeartbeats 1000000 in
set_option maxRecDepth 100000 in
theorem ro_put1 (h : Hf G w A R V V2) (hq : G q) (ho : Ob w q (roC 1 g false b k s tg ref wd)) (ht : tagsf b k = a) (hi : itemf b k s = z) (hr : 1 ≤ ref ∧ ref ≤ 9223372036854775807) (hc : V2.cnt < 100000000) :
    Calls Tryz.prog 109 #[.pointer (some ⟨q, 0, none⟩), .pointer (some ⟨R.p, 0, none⟩)] w (RoP G A R V (V2.acc (upd V2.f z ref) 2 z (V2.f z) ref) q (roC 2 g false b k s tg ref wd) w) := by
  have hua : isU a := ht ▸ uTags b k
  have huz : isU z := hi ▸ uItem b k s
  have CT := Lib.hid (fun W => rtags b k W)
  rw [ht] at CT
  have CI := Lib.hid (fun W => ritem b k s W)
  rw [hi] at CI
  have KEEP := Lib.hid (show ∀ X, Kp G w X → Ob X q (roC 1 g false b k s tg ref wd) from fun X hk => ho.keep hk (fun n => n hq))
  have HG := Lib.hid hq
  have CS := Lib.hid (fun W (hb : Below w.heap.size w W) => (h.new hb).rstore (a := z) (v := ref) hc huz ⟨by omega, by omega⟩)
  have yw : IntKind.u64.wrap ref = ref := by rw [IntKind.wrap_u64]; omega
  have hO := KEEP.out w (Keeps.refl _ _)
  have c0 := hO.at_ 0 _ rfl; have c1 := hO.at_ 1 _ rfl; have c2 := hO.at_ 2 _ rfl; have c3 := hO.at_ 3 _ rfl; have c4 := hO.at_ 4 _ rfl; have c5 := hO.at_ 5 _ rfl; have c6 := hO.at_ 6 _ rfl; have c7 := hO.at_ 7 _ rfl; have c8 := hO.at_ 8 _ rfl
  have HH := Lib.hid h
  clear h ht hi ho hq hO
  go_enter Tryz.func109, Tryz.ntmps109
  go_wp2_with (first
    | (go_at_call 111; ((with_reducible refine (CT.out _).mono ?_); rintro e w1 ⟨rfl, hb1⟩; have hO := KEEP.out _ (Kp.of hb1); clear c0 c1 c2 c3 c4 c5 c6 c7 c8; have c0 := hO.at_ 0 _ rfl; have c1 := hO.at_ 1 _ rfl; have c2 := hO.at_ 2 _ rfl; have c3 := hO.at_ 3 _ rfl; have c4 := hO.at_ 4 _ rfl; have c5 := hO.at_ 5 _ rfl; have c6 := hO.at_ 6 _ rfl; have c7 := hO.at_ 7 _ rfl; have c8 := hO.at_ 8 _ rfl; clear hO))
    | (go_at_call 44; ((with_reducible refine (CI.out _).mono ?_); rintro e w2 ⟨rfl, hk2⟩; have hb2 := below_then hb1 hk2; have hO := KEEP.out _ (Kp.of hb2); clear hk2 c0 c1 c2 c3 c4 c5 c6 c7 c8; have c0 := hO.at_ 0 _ rfl; have c1 := hO.at_ 1 _ rfl; have c2 := hO.at_ 2 _ rfl; have c3 := hO.at_ 3 _ rfl; have c4 := hO.at_ 4 _ rfl; have c5 := hO.at_ 5 _ rfl; have c6 := hO.at_ 6 _ rfl; have c7 := hO.at_ 7 _ rfl; have c8 := hO.at_ 8 _ rfl; clear hO))
    | (go_at_call 88; ((with_reducible refine (CS.out _ hb2).mono ?_); rintro e w3 ⟨rfl, h3, k3⟩; have H3 := Lib.hid h3; have K3 := Lib.hid (Kp.to (Kp.of hb2) k3); have hO := KEEP.out _ K3.out; clear h3 k3 c0 c1 c2 c3 c4 c5 c6 c7 c8; have c0 := hO.at_ 0 _ rfl; have c1 := hO.at_ 1 _ rfl; have c2 := hO.at_ 2 _ rfl; have c3 := hO.at_ 3 _ rfl; have c4 := hO.at_ 4 _ rfl; have c5 := hO.at_ 5 _ rfl; have c6 := hO.at_ 6 _ rfl; have c7 := hO.at_ 7 _ rfl; have c8 := hO.at_ 8 _ rfl; have f0 := hO.fz 0 (by simp [roC]); have f1 := hO.fz 1 (by simp [roC]); have f8 := hO.fz 8 (by simp [roC]); have HO3 := Lib.hid hO; clear hO)))
  have r0 := Hf.set (i := 0) H3.out HG.out (.int .i64 2)
  have o0 := HO3.out.set 0 (.int .i64 2) (by simp [roC]) (C' := roC 2 g false b k s tg ref wd) rfl
  go_end0
  exact ⟨rfl, r0.1, o0, (Kp.to (K3.out.less (fun j g => g.1)) r0.2)⟩
set_option maxHeartbeats 1000000 in
set_option maxRecDepth 100000 in
theorem ro_put2 (h : Hf G w A R V V2) (hq : G q) (ho : Ob w q (roC 2 g false b k s tg ref wd)) (ht : tagsf b k = a) (hi : itemf b k s = z) (hy : V2.f a = y) (hc : V2.cnt < 100000000) :
    Calls Tryz.prog 109 #[.pointer (some ⟨q, 0, none⟩), .pointer (some ⟨R.p, 0, none⟩)] w (RoP G A R V (V2.acc V2.f 1 a y y) q (roC 3 g false b k s tg ref y) w) := by
  have hua : isU a := ht ▸ uTags b k
  have huz : isU z := hi ▸ uItem b k s
  have CT := Lib.hid (fun W => rtags b k W)
  rw [ht] at CT
  have CI := Lib.hid (fun W => ritem b k s W)
  rw [hi] at CI
  have KEEP := Lib.hid (show ∀ X, Kp G w X → Ob X q (roC 2 g false b k s tg ref wd) from fun X hk => ho.keep hk (fun n => n hq))
  have HG := Lib.hid hq
  subst hy
  have CS := Lib.hid (fun W (hb : Below w.heap.size w W) => (h.new hb).rload (a := a) hc hua)
  have hO := KEEP.out w (Keeps.refl _ _)
  have c0 := hO.at_ 0 _ rfl; have c1 := hO.at_ 1 _ rfl; have c2 := hO.at_ 2 _ rfl; have c3 := hO.at_ 3 _ rfl; have c4 := hO.at_ 4 _ rfl; have c5 := hO.at_ 5 _ rfl; have c6 := hO.at_ 6 _ rfl; have c7 := hO.at_ 7 _ rfl; have c8 := hO.at_ 8 _ rfl
  have HH := Lib.hid h
  clear h ht hi ho hq hO
  go_enter Tryz.func109, Tryz.ntmps109
  go_wp2_with (first
    | (go_at_call 111; ((with_reducible refine (CT.out _).mono ?_); rintro e w1 ⟨rfl, hb1⟩; have hO := KEEP.out _ (Kp.of hb1); clear c0 c1 c2 c3 c4 c5 c6 c7 c8; have c0 := hO.at_ 0 _ rfl; have c1 := hO.at_ 1 _ rfl; have c2 := hO.at_ 2 _ rfl; have c3 := hO.at_ 3 _ rfl; have c4 := hO.at_ 4 _ rfl; have c5 := hO.at_ 5 _ rfl; have c6 := hO.at_ 6 _ rfl; have c7 := hO.at_ 7 _ rfl; have c8 := hO.at_ 8 _ rfl; clear hO))
    | (go_at_call 44; ((with_reducible refine (CI.out _).mono ?_); rintro e w2 ⟨rfl, hk2⟩; have hb2 := below_then hb1 hk2; have hO := KEEP.out _ (Kp.of hb2); clear hk2 c0 c1 c2 c3 c4 c5 c6 c7 c8; have c0 := hO.at_ 0 _ rfl; have c1 := hO.at_ 1 _ rfl; have c2 := hO.at_ 2 _ rfl; have c3 := hO.at_ 3 _ rfl; have c4 := hO.at_ 4 _ rfl; have c5 := hO.at_ 5 _ rfl; have c6 := hO.at_ 6 _ rfl; have c7 := hO.at_ 7 _ rfl; have c8 := hO.at_ 8 _ rfl; clear hO))
    | (go_at_call 73; ((with_reducible refine (CS.out _ hb2).mono ?_); rintro e w3 ⟨rfl, h3, k3⟩; have H3 := Lib.hid h3; have K3 := Lib.hid (Kp.to (Kp.of hb2) k3); have hO := KEEP.out _ K3.out; clear h3 k3 c0 c1 c2 c3 c4 c5 c6 c7 c8; have c0 := hO.at_ 0 _ rfl; have c1 := hO.at_ 1 _ rfl; have c2 := hO.at_ 2 _ rfl; have c3 := hO.at_ 3 _ rfl; have c4 := hO.at_ 4 _ rfl; have c5 := hO.at_ 5 _ rfl; have c6 := hO.at_ 6 _ rfl; have c7 := hO.at_ 7 _ rfl; have c8 := hO.at_ 8 _ rfl; have f0 := hO.fz 0 (by simp [roC]); have f1 := hO.fz 1 (by simp [roC]); have f8 := hO.fz 8 (by simp [roC]); have HO3 := Lib.hid hO; clear hO)))
  have r0 := Hf.set (i := 8) H3.out HG.out (.int .u64 (V2.f a))
  have o0 := HO3.out.set 8 (.int .u64 (V2.f a)) (by simp [roC]) (C' := roC 2 g false b k s tg ref (V2.f a)) rfl
  have r1 := Hf.set (i := 0) r0.1 HG.out (.int .i64 3)
  have o1 := o0.set 0 (.int .i64 3) (by simp [roC]) (C' := roC 3 g false b k s tg ref (V2.f a)) rfl
  go_end0
  exact ⟨rfl, r1.1, o1, (Kp.to (Kp.to (K3.out.less (fun j g => g.1)) r0.2) r1.2)⟩
set_option maxHeartbeats 1000000 in
set_option maxRecDepth 100000 in
theorem ro_put3 (h : Hf G w A R V V2) (hq : G q) (ho : Ob w q (roC 3 g false b k s tg ref wd)) (ht : tagsf b k = a) (hi : itemf b k s = z) (hw : isU wd) (hy : withf wd s tg = y) (hc : V2.cnt < 100000000) :
    Calls Tryz.prog 109 #[.pointer (some ⟨q, 0, none⟩), .pointer (some ⟨R.p, 0, none⟩)] w (RoP G A R V (V2.acc (upd V2.f a y) 2 a (V2.f a) y) q (roC 0 g false b k s tg ref wd) w) := by
  have hua : isU a := ht ▸ uTags b k
  have huz : isU z := hi ▸ uItem b k s
  have CT := Lib.hid (fun W => rtags b k W)
  rw [ht] at CT
  have CI := Lib.hid (fun W => ritem b k s W)
  rw [hi] at CI
  have KEEP := Lib.hid (show ∀ X, Kp G w X → Ob X q (roC 3 g false b k s tg ref wd) from fun X hk => ho.keep hk (fun n => n hq))
  have HG := Lib.hid hq
  have hyu : isU y := by rw [← hy]; have := withf_range wd s tg hw.1 (isU_lt hw).2; exact ⟨this.1, by omega⟩
  have CW := Lib.hid (fun W => refwithw wd s tg W (isU_lt hw).1 (isU_lt hw).2)
  rw [hy] at CW
  have CS := Lib.hid (fun W (hb : Below w.heap.size w W) => (h.new hb).rstore (a := a) (v := y) hc hua hyu)
  have hO := KEEP.out w (Keeps.refl _ _)
  have c0 := hO.at_ 0 _ rfl; have c1 := hO.at_ 1 _ rfl; have c2 := hO.at_ 2 _ rfl; have c3 := hO.at_ 3 _ rfl; have c4 := hO.at_ 4 _ rfl; have c5 := hO.at_ 5 _ rfl; have c6 := hO.at_ 6 _ rfl; have c7 := hO.at_ 7 _ rfl; have c8 := hO.at_ 8 _ rfl
  have HH := Lib.hid h
  clear h ht hi ho hq hO
  go_enter Tryz.func109, Tryz.ntmps109
  go_upto_region 2 with (first
    | (go_at_call 111; ((with_reducible refine (CT.out _).mono ?_); rintro e w1 ⟨rfl, hb1⟩; have hO := KEEP.out _ (Kp.of hb1); clear c0 c1 c2 c3 c4 c5 c6 c7 c8; have c0 := hO.at_ 0 _ rfl; have c1 := hO.at_ 1 _ rfl; have c2 := hO.at_ 2 _ rfl; have c3 := hO.at_ 3 _ rfl; have c4 := hO.at_ 4 _ rfl; have c5 := hO.at_ 5 _ rfl; have c6 := hO.at_ 6 _ rfl; have c7 := hO.at_ 7 _ rfl; have c8 := hO.at_ 8 _ rfl; clear hO))
    | (go_at_call 44; ((with_reducible refine (CI.out _).mono ?_); rintro e w2 ⟨rfl, hk2⟩; have hb2 := below_then hb1 hk2; have hO := KEEP.out _ (Kp.of hb2); clear hk2 c0 c1 c2 c3 c4 c5 c6 c7 c8; have c0 := hO.at_ 0 _ rfl; have c1 := hO.at_ 1 _ rfl; have c2 := hO.at_ 2 _ rfl; have c3 := hO.at_ 3 _ rfl; have c4 := hO.at_ 4 _ rfl; have c5 := hO.at_ 5 _ rfl; have c6 := hO.at_ 6 _ rfl; have c7 := hO.at_ 7 _ rfl; have c8 := hO.at_ 8 _ rfl; clear hO)))
  have hd2 : Below w.heap.size w w2.drew := hb2.drew
  have hOd := KEEP.out _ (Kp.of hd2)
  have s0 := hOd.at_ 5 _ rfl
  have s1 := hOd.at_ 6 _ rfl
  have s2 := hOd.at_ 8 _ rfl
  clear c0 c1 c2 c3 c4 c5 c6 c7 c8 hOd
  go_region_held3 (fun X => X.cell? ⟨q, 5, none⟩ = some (.int .i64 s) ∧ X.cell? ⟨q, 6, none⟩ = some (.int .i64 tg) ∧ X.cell? ⟨q, 8, none⟩ = some (.int .u64 wd))
    (first | exact ⟨by assumption, by assumption, by assumption⟩)
    (first
      | (go_at_call 136; ((with_reducible refine (CW.out _).mono ?_); rintro e w5 ⟨rfl, hk5⟩; have hb5 : Below w.heap.size w w5 := below_then hd2 hk5; have hOd := KEEP.out _ (Kp.of hb5); clear hk5 s0 s1 s2; have s0 := hOd.at_ 5 _ rfl; have s1 := hOd.at_ 6 _ rfl; have s2 := hOd.at_ 8 _ rfl; clear hOd))
      | (go_at_call 88; ((with_reducible refine (CS.out _ hb5).mono ?_); rintro e w3 ⟨rfl, h3, k3⟩; have H3 := Lib.hid h3; have K3 := Lib.hid (Kp.to (Kp.of hb5) k3); have hO := KEEP.out _ K3.out; clear h3 k3 s0 s1 s2; have s0 := hO.at_ 5 _ rfl; have s1 := hO.at_ 6 _ rfl; have s2 := hO.at_ 8 _ rfl; have HO3 := Lib.hid hO; clear hO)))
  have c0 := HO3.out.at_ 0 _ rfl
  have f0 := HO3.out.fz 0 (by simp [roC])
  have c1 := HO3.out.at_ 1 _ rfl
  have f1 := HO3.out.fz 1 (by simp [roC])
  clear s0 s1 s2
  go_wp2_with fail
  have r0 := Hf.set (i := 0) H3.out HG.out (.int .i64 0)
  have o0 := HO3.out.set 0 (.int .i64 0) (by simp [roC]) (C' := roC 0 g false b k s tg ref wd) rfl
  go_end0
  exact ⟨rfl, r0.1, o0, (Kp.to (K3.out.less (fun j g => g.1)) r0.2)⟩
set_option maxHeartbeats 1000000 in
set_option maxRecDepth 100000 in
theorem ro_out1 (h : Hf G w A R V V2) (hq : G q) (ho : Ob w q (roC 1 g true b k s tg ref wd)) (ht : tagsf b k = a) (hi : itemf b k s = z) (hy : V2.f a = y) (hc : V2.cnt < 100000000) :
    Calls Tryz.prog 109 #[.pointer (some ⟨q, 0, none⟩), .pointer (some ⟨R.p, 0, none⟩)] w (RoP G A R V (V2.acc V2.f 1 a y y) q (roC 2 g true b k s tg ref y) w) := by
  have hua : isU a := ht ▸ uTags b k
  have huz : isU z := hi ▸ uItem b k s
  have CT := Lib.hid (fun W => rtags b k W)
  rw [ht] at CT
  have CI := Lib.hid (fun W => ritem b k s W)
  rw [hi] at CI
  have KEEP := Lib.hid (show ∀ X, Kp G w X → Ob X q (roC 1 g true b k s tg ref wd) from fun X hk => ho.keep hk (fun n => n hq))
  have HG := Lib.hid hq
  subst hy
  have CS := Lib.hid (fun W (hb : Below w.heap.size w W) => (h.new hb).rload (a := a) hc hua)
  have hO := KEEP.out w (Keeps.refl _ _)
  have c0 := hO.at_ 0 _ rfl; have c1 := hO.at_ 1 _ rfl; have c2 := hO.at_ 2 _ rfl; have c3 := hO.at_ 3 _ rfl; have c4 := hO.at_ 4 _ rfl; have c5 := hO.at_ 5 _ rfl; have c6 := hO.at_ 6 _ rfl; have c7 := hO.at_ 7 _ rfl; have c8 := hO.at_ 8 _ rfl
  have HH := Lib.hid h
  clear h ht hi ho hq hO
  go_enter Tryz.func109, Tryz.ntmps109
  go_wp2_with (first
    | (go_at_call 111; ((with_reducible refine (CT.out _).mono ?_); rintro e w1 ⟨rfl, hb1⟩; have hO := KEEP.out _ (Kp.of hb1); clear c0 c1 c2 c3 c4 c5 c6 c7 c8; have c0 := hO.at_ 0 _ rfl; have c1 := hO.at_ 1 _ rfl; have c2 := hO.at_ 2 _ rfl; have c3 := hO.at_ 3 _ rfl; have c4 := hO.at_ 4 _ rfl; have c5 := hO.at_ 5 _ rfl; have c6 := hO.at_ 6 _ rfl; have c7 := hO.at_ 7 _ rfl; have c8 := hO.at_ 8 _ rfl; clear hO))
    | (go_at_call 44; ((with_reducible refine (CI.out _).mono ?_); rintro e w2 ⟨rfl, hk2⟩; have hb2 := below_then hb1 hk2; have hO := KEEP.out _ (Kp.of hb2); clear hk2 c0 c1 c2 c3 c4 c5 c6 c7 c8; have c0 := hO.at_ 0 _ rfl; have c1 := hO.at_ 1 _ rfl; have c2 := hO.at_ 2 _ rfl; have c3 := hO.at_ 3 _ rfl; have c4 := hO.at_ 4 _ rfl; have c5 := hO.at_ 5 _ rfl; have c6 := hO.at_ 6 _ rfl; have c7 := hO.at_ 7 _ rfl; have c8 := hO.at_ 8 _ rfl; clear hO))
    | (go_at_call 73; ((with_reducible refine (CS.out _ hb2).mono ?_); rintro e w3 ⟨rfl, h3, k3⟩; have H3 := Lib.hid h3; have K3 := Lib.hid (Kp.to (Kp.of hb2) k3); have hO := KEEP.out _ K3.out; clear h3 k3 c0 c1 c2 c3 c4 c5 c6 c7 c8; have c0 := hO.at_ 0 _ rfl; have c1 := hO.at_ 1 _ rfl; have c2 := hO.at_ 2 _ rfl; have c3 := hO.at_ 3 _ rfl; have c4 := hO.at_ 4 _ rfl; have c5 := hO.at_ 5 _ rfl; have c6 := hO.at_ 6 _ rfl; have c7 := hO.at_ 7 _ rfl; have c8 := hO.at_ 8 _ rfl; have f0 := hO.fz 0 (by simp [roC]); have f1 := hO.fz 1 (by simp [roC]); have f8 := hO.fz 8 (by simp [roC]); have HO3 := Lib.hid hO; clear hO)))
  have r0 := Hf.set (i := 8) H3.out HG.out (.int .u64 (V2.f a))
  have o0 := HO3.out.set 8 (.int .u64 (V2.f a)) (by simp [roC]) (C' := roC 1 g true b k s tg ref (V2.f a)) rfl
  have r1 := Hf.set (i := 0) r0.1 HG.out (.int .i64 2)
  have o1 := o0.set 0 (.int .i64 2) (by simp [roC]) (C' := roC 2 g true b k s tg ref (V2.f a)) rfl
  go_end0
  exact ⟨rfl, r1.1, o1, (Kp.to (Kp.to (K3.out.less (fun j g => g.1)) r0.2) r1.2)⟩
set_option maxHeartbeats 1000000 in
set_option maxRecDepth 100000 in
theorem ro_out2 (h : Hf G w A R V V2) (hq : G q) (ho : Ob w q (roC 2 g true b k s tg ref wd)) (ht : tagsf b k = a) (hi : itemf b k s = z) (hw : isU wd) (hy : withf wd s 0 = y) (hc : V2.cnt < 100000000) :
    Calls Tryz.prog 109 #[.pointer (some ⟨q, 0, none⟩), .pointer (some ⟨R.p, 0, none⟩)] w (RoP G A R V (V2.acc (upd V2.f a y) 2 a (V2.f a) y) q (roC 3 true true b k s tg ref wd) w) := by
  have hua : isU a := ht ▸ uTags b k
  have huz : isU z := hi ▸ uItem b k s
  have CT := Lib.hid (fun W => rtags b k W)
  rw [ht] at CT
  have CI := Lib.hid (fun W => ritem b k s W)
  rw [hi] at CI
  have KEEP := Lib.hid (show ∀ X, Kp G w X → Ob X q (roC 2 g true b k s tg ref wd) from fun X hk => ho.keep hk (fun n => n hq))
  have HG := Lib.hid hq
  have hyu : isU y := by rw [← hy]; have := withf_range wd s 0 hw.1 (isU_lt hw).2; exact ⟨this.1, by omega⟩
  have CW := Lib.hid (fun W => refwithw wd s 0 W (isU_lt hw).1 (isU_lt hw).2)
  rw [hy] at CW
  have CS := Lib.hid (fun W (hb : Below w.heap.size w W) => (h.new hb).rstore (a := a) (v := y) hc hua hyu)
  have hO := KEEP.out w (Keeps.refl _ _)
  have c0 := hO.at_ 0 _ rfl; have c1 := hO.at_ 1 _ rfl; have c2 := hO.at_ 2 _ rfl; have c3 := hO.at_ 3 _ rfl; have c4 := hO.at_ 4 _ rfl; have c5 := hO.at_ 5 _ rfl; have c6 := hO.at_ 6 _ rfl; have c7 := hO.at_ 7 _ rfl; have c8 := hO.at_ 8 _ rfl
  have HH := Lib.hid h
  clear h ht hi ho hq hO
  go_enter Tryz.func109, Tryz.ntmps109
  go_upto_region 10 with (first
    | (go_at_call 111; ((with_reducible refine (CT.out _).mono ?_); rintro e w1 ⟨rfl, hb1⟩; have hO := KEEP.out _ (Kp.of hb1); clear c0 c1 c2 c3 c4 c5 c6 c7 c8; have c0 := hO.at_ 0 _ rfl; have c1 := hO.at_ 1 _ rfl; have c2 := hO.at_ 2 _ rfl; have c3 := hO.at_ 3 _ rfl; have c4 := hO.at_ 4 _ rfl; have c5 := hO.at_ 5 _ rfl; have c6 := hO.at_ 6 _ rfl; have c7 := hO.at_ 7 _ rfl; have c8 := hO.at_ 8 _ rfl; clear hO))
    | (go_at_call 44; ((with_reducible refine (CI.out _).mono ?_); rintro e w2 ⟨rfl, hk2⟩; have hb2 := below_then hb1 hk2; have hO := KEEP.out _ (Kp.of hb2); clear hk2 c0 c1 c2 c3 c4 c5 c6 c7 c8; have c0 := hO.at_ 0 _ rfl; have c1 := hO.at_ 1 _ rfl; have c2 := hO.at_ 2 _ rfl; have c3 := hO.at_ 3 _ rfl; have c4 := hO.at_ 4 _ rfl; have c5 := hO.at_ 5 _ rfl; have c6 := hO.at_ 6 _ rfl; have c7 := hO.at_ 7 _ rfl; have c8 := hO.at_ 8 _ rfl; clear hO)))
  have hd2 : Below w.heap.size w w2.drew := hb2.drew
  have hOd := KEEP.out _ (Kp.of hd2)
  have s0 := hOd.at_ 5 _ rfl
  have s1 := hOd.at_ 6 _ rfl
  have s2 := hOd.at_ 8 _ rfl
  clear c0 c1 c2 c3 c4 c5 c6 c7 c8 hOd
  go_region_held3 (fun X => X.cell? ⟨q, 5, none⟩ = some (.int .i64 s) ∧ X.cell? ⟨q, 6, none⟩ = some (.int .i64 tg) ∧ X.cell? ⟨q, 8, none⟩ = some (.int .u64 wd))
    (first | exact ⟨by assumption, by assumption, by assumption⟩)
    (first
      | (go_at_call 136; ((with_reducible refine (CW.out _).mono ?_); rintro e w5 ⟨rfl, hk5⟩; have hb5 : Below w.heap.size w w5 := below_then hd2 hk5; have hOd := KEEP.out _ (Kp.of hb5); clear hk5 s0 s1 s2; have s0 := hOd.at_ 5 _ rfl; have s1 := hOd.at_ 6 _ rfl; have s2 := hOd.at_ 8 _ rfl; clear hOd))
      | (go_at_call 88; ((with_reducible refine (CS.out _ hb5).mono ?_); rintro e w3 ⟨rfl, h3, k3⟩; have H3 := Lib.hid h3; have K3 := Lib.hid (Kp.to (Kp.of hb5) k3); have hO := KEEP.out _ K3.out; clear h3 k3 s0 s1 s2; have s0 := hO.at_ 5 _ rfl; have s1 := hO.at_ 6 _ rfl; have s2 := hO.at_ 8 _ rfl; have HO3 := Lib.hid hO; clear hO)))
  have c0 := HO3.out.at_ 0 _ rfl
  have f0 := HO3.out.fz 0 (by simp [roC])
  have c1 := HO3.out.at_ 1 _ rfl
  have f1 := HO3.out.fz 1 (by simp [roC])
  clear s0 s1 s2
  go_wp2_with fail
  have r0 := Hf.set (i := 1) H3.out HG.out (.bool true)
  have o0 := HO3.out.set 1 (.bool true) (by simp [roC]) (C' := roC 2 true true b k s tg ref wd) rfl
  have r1 := Hf.set (i := 0) r0.1 HG.out (.int .i64 3)
  have o1 := o0.set 0 (.int .i64 3) (by simp [roC]) (C' := roC 3 true true b k s tg ref wd) rfl
  go_end0
  exact ⟨rfl, r1.1, o1, (Kp.to (Kp.to (K3.out.less (fun j g => g.1)) r0.2) r1.2)⟩
set_option maxHeartbeats 1000000 in
set_option maxRecDepth 100000 in
theorem ro_out3 (h : Hf G w A R V V2) (hq : G q) (ho : Ob w q (roC 3 g true b k s tg ref wd)) (ht : tagsf b k = a) (hi : itemf b k s = z) (hc : V2.cnt < 100000000) :
    Calls Tryz.prog 109 #[.pointer (some ⟨q, 0, none⟩), .pointer (some ⟨R.p, 0, none⟩)] w (RoP G A R V (V2.acc (upd V2.f z 0) 2 z (V2.f z) 0) q (roC 0 g true b k s tg ref wd) w) := by
  have hua : isU a := ht ▸ uTags b k
  have huz : isU z := hi ▸ uItem b k s
  have CT := Lib.hid (fun W => rtags b k W)
  rw [ht] at CT
  have CI := Lib.hid (fun W => ritem b k s W)
  rw [hi] at CI
  have KEEP := Lib.hid (show ∀ X, Kp G w X → Ob X q (roC 3 g true b k s tg ref wd) from fun X hk => ho.keep hk (fun n => n hq))
  have HG := Lib.hid hq
  have CS := Lib.hid (fun W (hb : Below w.heap.size w W) => (h.new hb).rstore (a := z) (v := 0) hc huz ⟨by omega, by omega⟩)
  have hO := KEEP.out w (Keeps.refl _ _)
  have c0 := hO.at_ 0 _ rfl; have c1 := hO.at_ 1 _ rfl; have c2 := hO.at_ 2 _ rfl; have c3 := hO.at_ 3 _ rfl; have c4 := hO.at_ 4 _ rfl; have c5 := hO.at_ 5 _ rfl; have c6 := hO.at_ 6 _ rfl; have c7 := hO.at_ 7 _ rfl; have c8 := hO.at_ 8 _ rfl
  have HH := Lib.hid h
  clear h ht hi ho hq hO
  go_enter Tryz.func109, Tryz.ntmps109
  go_wp2_with (first
    | (go_at_call 111; ((with_reducible refine (CT.out _).mono ?_); rintro e w1 ⟨rfl, hb1⟩; have hO := KEEP.out _ (Kp.of hb1); clear c0 c1 c2 c3 c4 c5 c6 c7 c8; have c0 := hO.at_ 0 _ rfl; have c1 := hO.at_ 1 _ rfl; have c2 := hO.at_ 2 _ rfl; have c3 := hO.at_ 3 _ rfl; have c4 := hO.at_ 4 _ rfl; have c5 := hO.at_ 5 _ rfl; have c6 := hO.at_ 6 _ rfl; have c7 := hO.at_ 7 _ rfl; have c8 := hO.at_ 8 _ rfl; clear hO))
    | (go_at_call 44; ((with_reducible refine (CI.out _).mono ?_); rintro e w2 ⟨rfl, hk2⟩; have hb2 := below_then hb1 hk2; have hO := KEEP.out _ (Kp.of hb2); clear hk2 c0 c1 c2 c3 c4 c5 c6 c7 c8; have c0 := hO.at_ 0 _ rfl; have c1 := hO.at_ 1 _ rfl; have c2 := hO.at_ 2 _ rfl; have c3 := hO.at_ 3 _ rfl; have c4 := hO.at_ 4 _ rfl; have c5 := hO.at_ 5 _ rfl; have c6 := hO.at_ 6 _ rfl; have c7 := hO.at_ 7 _ rfl; have c8 := hO.at_ 8 _ rfl; clear hO))
    | (go_at_call 88; ((with_reducible refine (CS.out _ hb2).mono ?_); rintro e w3 ⟨rfl, h3, k3⟩; have H3 := Lib.hid h3; have K3 := Lib.hid (Kp.to (Kp.of hb2) k3); have hO := KEEP.out _ K3.out; clear h3 k3 c0 c1 c2 c3 c4 c5 c6 c7 c8; have c0 := hO.at_ 0 _ rfl; have c1 := hO.at_ 1 _ rfl; have c2 := hO.at_ 2 _ rfl; have c3 := hO.at_ 3 _ rfl; have c4 := hO.at_ 4 _ rfl; have c5 := hO.at_ 5 _ rfl; have c6 := hO.at_ 6 _ rfl; have c7 := hO.at_ 7 _ rfl; have c8 := hO.at_ 8 _ rfl; have f0 := hO.fz 0 (by simp [roC]); have f1 := hO.fz 1 (by simp [roC]); have f8 := hO.fz 8 (by simp [roC]); have HO3 := Lib.hid hO; clear hO)))
  have r0 := Hf.set (i := 0) H3.out HG.out (.int .i64 0)
  have o0 := HO3.out.set 0 (.int .i64 0) (by simp [roC]) (C' := roC 0 g true b k s tg ref wd) rfl
  go_end0
  exact ⟨rfl, r0.1, o0, (Kp.to (K3.out.less (fun j g => g.1)) r0.2)⟩
end
end Go.Proofs.YthlebfiedejhhaaGreat
/- Next: A list of operations beside a pair of worlds: each has blocks of its own. -/
namespace Go.Proofs.YthlebfiedejhhaaGreat
open Go.RowKit Go.Maps
set_option linter.unusedVariables false
/-- An operation in a list: its cells there, its own blocks. -/
structure Ox where
  vals : List Value
  own : Nat → Prop
/-- What an operation is stands as long as its own blocks do. -/
def Stab (P : World → Ox → Prop) : Prop := ∀ (w W : World) (x : Ox) (U : Nat → Prop), P w x → Keeps U w W → (∀ k, x.own k → ¬ U k) → P W x
def rowsX (L : List Ox) : List Value := L.flatMap (fun x => x.vals)
theorem rowsX_len {n : Nat} : ∀ (L : List Ox), (∀ x, x ∈ L → x.vals.length = n) → (rowsX L).length = L.length * n
  | [], _ => by simp [rowsX]
  | x :: L, h => by
    have := rowsX_len L (fun y hy => h y (List.mem_cons_of_mem _ hy))
    unfold rowsX at *
    rw [List.flatMap_cons, List.length_append, this, h x (List.mem_cons_self ..), List.length_cons, Nat.succ_mul]
    omega
theorem rowsX_at {n : Nat} : ∀ (L : List Ox), (∀ x, x ∈ L → x.vals.length = n) → ∀ i x, L[i]? = some x → ∀ j, j < n → (rowsX L)[i * n + j]? = x.vals[j]?
  | [], _, i, x, h, _, _ => by simp at h
  | y :: L, h, i, x, hi, j, hj => by
    have hy := h y (List.mem_cons_self ..)
    unfold rowsX
    rw [List.flatMap_cons]
    cases i with
    | zero =>
      simp at hi
      subst hi
      rw [List.getElem?_append_left (by omega)]
      congr 1
      omega
    | succ i =>
      rw [List.getElem?_append_right (by rw [hy, Nat.succ_mul]; omega), hy]
      have := rowsX_at L (fun z hz => h z (List.mem_cons_of_mem _ hz)) i x (by simpa using hi) j hj
      unfold rowsX at this
      rw [← this]
      congr 1
      rw [Nat.succ_mul]
      omega
/-- The slice that has them. -/
structure OxL (e : TypeId) (size : Nat) (P : World → Ox → Prop) (G : Nat → Prop) (w : World) (s : Value) (L : List Ox) : Prop where
  row : w.ownsRow 0 e size s L.length (rowsX L)
  len : ∀ x, x ∈ L → x.vals.length = size
  all : ∀ x, x ∈ L → P w x ∧ ∀ k, x.own k → G k
  dis : ∀ (i j : Nat) (x y : Ox), i ≠ j → L[i]? = some x → L[j]? = some y → ∀ k, x.own k → ¬ y.own k
  gin : ∀ g, s.ownBlock = some g → G g ∧ ∀ x, x ∈ L → ¬ x.own g
section
variable {e : TypeId} {size : Nat} {P : World → Ox → Prop} {G G' : Nat → Prop} {w W : World} {s : Value} {L : List Ox} {U : Nat → Prop}
theorem OxL.nil (e : TypeId) (size : Nat) (P : World → Ox → Prop) (G : Nat → Prop) (w : World) : OxL e size P G w (.slice none 0 0) [] :=
  ⟨World.ownsRow_nil _ _ _ _, fun x h => by simp at h, fun x h => by simp at h, fun i j x y _ h => by simp at h, fun g h => by simp [Value.ownBlock] at h⟩
theorem OxL.more (h : OxL e size P G w s L) (hG : ∀ k, G k → G' k) : OxL e size P G' w s L :=
  ⟨h.row, h.len, fun x hx => ⟨(h.all x hx).1, fun k o => hG k ((h.all x hx).2 k o)⟩, h.dis, fun g hg => ⟨hG g (h.gin g hg).1, (h.gin g hg).2⟩⟩
theorem OxL.keep (h : OxL e size P G w s L) (hP : Stab P) (hk : Keeps U w W) (hU : ∀ k, G k → ¬ U k) : OxL e size P G W s L :=
  ⟨Keeps.ownsRow h.row hk (fun g hg u => hU g (h.gin g hg).1 u), h.len, fun x hx => ⟨hP _ _ _ _ (h.all x hx).1 hk (fun k o u => hU k ((h.all x hx).2 k o) u), (h.all x hx).2⟩, h.dis, h.gin⟩
/-- A step of one of them. -/
theorem OxL.step (h : OxL e size P G w s L) (hP : Stab P) {i : Nat} {x : Ox} (hi : L[i]? = some x) (hk : Keeps U w W) (hU : ∀ k, G k → U k → x.own k) (hx : P W x) : OxL e size P G W s L := by
  refine ⟨Keeps.ownsRow h.row hk (fun g hg u => (h.gin g hg).2 x (List.mem_of_getElem? hi) (hU g (h.gin g hg).1 u)), h.len, fun y hy => ⟨?_, (h.all y hy).2⟩, h.dis, h.gin⟩
  obtain ⟨j, hj⟩ := List.getElem?_of_mem hy
  by_cases e : j = i
  · subst e
    rw [hi] at hj
    injection hj with hj
    rw [← hj]
    exact hx
  · exact hP _ _ _ _ (h.all y hy).1 hk (fun k o u => h.dis j i y x e hj hi k o (hU k ((h.all y hy).2 k o) u))
/-- Where an element lies. -/
theorem OxL.at_ (h : OxL e size P G w s L) {i : Nat} {x : Ox} (hi : L[i]? = some x) : ∃ g cap, s = .slice (some ⟨g, 0, none⟩) L.length cap ∧ L.length ≤ cap ∧ cap ≤ maxLen ∧ G g ∧ (∀ j u, x.vals[j]? = some u → w.cell? ⟨g, i * size + j, none⟩ = some u) := by
  have hlt : i < L.length := by
    rcases Nat.lt_or_ge i L.length with h | h
    · exact h
    · rw [List.getElem?_eq_none h] at hi; simp at hi
  obtain ⟨_, ⟨_, h0⟩ | ⟨g, cap, rfl, -, hg, hn, hc, hx⟩⟩ := Lst.of_own h.row
  · omega
  · refine ⟨g, cap, rfl, hn, hc, (h.gin g rfl).1, fun j u hu => ?_⟩
    have hj : j < size := by
      have := h.len x (List.mem_of_getElem? hi)
      rcases Nat.lt_or_ge j x.vals.length with h | h
      · omega
      · rw [List.getElem?_eq_none h] at hu; simp at hu
    have := rowsX_at L h.len i x hi j hj
    exact (hx _ _ (this.trans hu)).1
/-- One more, behind append. -/
theorem OxL.app (h : OxL e size P G w s L) (hP : Stab P) {x : Ox} (hx : P w x) (hn : x.vals.length = size) (hG : ∀ k, x.own k → G k ∧ (∀ y, y ∈ L → ¬ y.own k) ∧ s.ownBlock ≠ some k) (hGl : ∀ k, G k → k < w.heap.size) {g cap : Nat} (hown : W.ownsRow 0 e size (.slice (some ⟨g, 0, none⟩) (L.length + 1) cap) (L.length + 1) (rowsX L ++ x.vals)) (hgr : w.grownBy W s.ownBlock) (hat : s.ownBlock = some g ∨ w.heap.size ≤ g) :
    OxL e size P (fun k => G k ∨ k = g) W (.slice (some ⟨g, 0, none⟩) (L.length + 1) cap) (L ++ [x]) ∧ Keeps (fun k => s.ownBlock = some k) w W := by
  have hk : Keeps (fun k => s.ownBlock = some k) w W := (Keeps.refl _ w).grown hgr (fun k e => .inl e)
  have hxo : ∀ y, y ∈ L ++ [x] → ∀ k, y.own k → s.ownBlock ≠ some k := fun y hy k o => by
    rcases List.mem_append.1 hy with hy | hy
    · exact fun e => (h.gin k e).2 y hy o
    · simp at hy
      subst hy
      exact (hG k o).2.2
  have hPk : ∀ y, y ∈ L ++ [x] → P w y ∧ ∀ k, y.own k → G k := fun y hy => by
    rcases List.mem_append.1 hy with hy | hy
    · exact h.all y hy
    · simp at hy
      subst hy
      exact ⟨hx, fun k o => (hG k o).1⟩
  refine ⟨⟨?_, fun y hy => ?_, fun y hy => ⟨hP _ _ _ _ (hPk y hy).1 hk (fun k o e => hxo y hy k o e), fun k o => .inl ((hPk y hy).2 k o)⟩, fun i j y z hij hy hz k o => ?_, fun g' e => ?_⟩, hk⟩
  · have e1 : (L ++ [x]).length = L.length + 1 := by simp
    have e2 : rowsX (L ++ [x]) = rowsX L ++ x.vals := by simp [rowsX]
    rw [e1, e2]
    exact hown
  · rcases List.mem_append.1 hy with hy | hy
    · exact h.len y hy
    · simp at hy
      subst hy
      exact hn
  · have cut : ∀ {i : Nat} {y : Ox}, (L ++ [x])[i]? = some y → (i < L.length ∧ L[i]? = some y) ∨ (i = L.length ∧ y = x) := fun {i y} hy => by
      rcases Nat.lt_or_ge i L.length with hi | hi
      · rw [List.getElem?_append_left hi] at hy
        exact .inl ⟨hi, hy⟩
      · rw [List.getElem?_append_right hi] at hy
        rcases Nat.eq_or_lt_of_le hi with hi | hi
        · rw [hi] at hy
          simp at hy
          exact .inr ⟨hi.symm, hy.symm⟩
        · rw [List.getElem?_eq_none (by simp; omega)] at hy
          simp at hy
    rcases cut hy with ⟨hi, hy2⟩ | ⟨hi, ey⟩
    · rcases cut hz with ⟨hj, hz2⟩ | ⟨hj, ez⟩
      · exact h.dis i j y z hij hy2 hz2 k o
      · subst ez
        exact fun o' => (hG k o').2.1 y (List.mem_of_getElem? hy2) o
    · rcases cut hz with ⟨hj, hz2⟩ | ⟨hj, ez⟩
      · subst ey
        exact (hG k o).2.1 z (List.mem_of_getElem? hz2)
      · omega
  · simp [Value.ownBlock] at e
    subst e
    refine ⟨.inr rfl, fun y hy o => ?_⟩
    rcases hat with hat | hat
    · exact hxo y hy _ o hat
    · have := hGl _ ((hPk y hy).2 _ o)
      omega
end
end Go.Proofs.YthlebfiedejhhaaGreat
/- Next: A Put or an Out beside the chapter's: what they tell, and their steps, in a pair of worlds. -/
namespace Go.Proofs.YthlebfiedejhhaaGreat
open Go.RowKit Go.Maps
set_option linter.unusedVariables false
/-- How many lines are left, by the chapter's line. -/
def lfN (n : Nat) : Int := if n = 0 then 0 else 4 - n
theorem lfN_over (n : Nat) (h : n ≤ 3) : (lfN n == 0) = ((n : Int) == 0) := by
  match n, h with
  | 0, _ => decide
  | 1, _ => decide
  | 2, _ => decide
  | 3, _ => decide
/-- A Put and the chapter's; an Out and the chapter's. -/
def PoP (w : World) (x : Ox) : Prop := ∃ (p r : Nat) (b k s tg ref tags : Int) (n : Nat), x.vals = [.pointer (some ⟨p, 0, none⟩), .pointer none, .pointer (some ⟨r, 0, none⟩)] ∧ x.own = (fun j => j = p ∨ j = r) ∧ p ≠ r ∧ n ≤ 3 ∧ Ob w p (puC b k s tg ref tags (lfN n)) ∧ Ob w r (roC n false false b k s tg ref tags) ∧ isU tags ∧ (n ≠ 0 → 1 ≤ ref ∧ ref ≤ 9223372036854775807)
def PoO (w : World) (x : Ox) : Prop := ∃ (p r : Nat) (b k s tags : Int) (n : Nat) (g : Bool), x.vals = [.pointer none, .pointer (some ⟨p, 0, none⟩), .pointer (some ⟨r, 0, none⟩)] ∧ x.own = (fun j => j = p ∨ j = r) ∧ p ≠ r ∧ n ≤ 3 ∧ Ob w p (ouC b k s tags (lfN n) g) ∧ Ob w r (roC n g true b k s 0 0 tags) ∧ isU tags
def PoS (w : World) (x : Ox) : Prop := PoP w x ∨ PoO w x
theorem stabPo : Stab PoS := by
  intro w W x U h hk hU
  rcases h with ⟨p, r, b, k, s, tg, ref, tags, n, hv, ho, hpr, hn, h1, h2, h3, h4⟩ | ⟨p, r, b, k, s, tags, n, g, hv, ho, hpr, hn, h1, h2, h3⟩
  · exact .inl ⟨p, r, b, k, s, tg, ref, tags, n, hv, ho, hpr, hn, h1.keep hk (hU p (by rw [ho]; exact .inl rfl)), h2.keep hk (hU r (by rw [ho]; exact .inr rfl)), h3, h4⟩
  · exact .inr ⟨p, r, b, k, s, tags, n, g, hv, ho, hpr, hn, h1.keep hk (hU p (by rw [ho]; exact .inl rfl)), h2.keep hk (hU r (by rw [ho]; exact .inr rfl)), h3⟩
section
variable {G : Nat → Prop} {w : World} {A R : Ad} {V V' V2 : Wv} {p r : Nat} {b k s tg ref tags wd ln lf : Int} {g o ov : Bool}
set_option maxHeartbeats 1000000 in
set_option maxRecDepth 100000 in
theorem same_put (h1 : Ob w p (puC b k s tg ref tags lf)) (h2 : Ob w r (roC ln g o b k s tg ref wd)) (e1 : (lf == 0) = ov) (e2 : (ln == 0) = ov) :
    Calls Tryz.prog 42 #[.agg #[.pointer (some ⟨p, 0, none⟩), .pointer none, .pointer (some ⟨r, 0, none⟩)]] w fun e w' => e = .returned (.bool true) ∧ Below w.heap.size w w' := by
  have CO := Lib.hid (fun W (hb : Below w.heap.size w W) => pu_over (h1.new hb) e1)
  obtain ⟨F, hF⟩ : ∃ F, F = w.heap.size := ⟨_, rfl⟩
  have hr := h2.lt
  have H2 := Lib.hid h2
  clear h1 h2 e1
  go_enter Tryz.func42, Tryz.ntmps42
  go_upto_region 1 with fail
  generalize hW : World.alloc w _ = W
  have bW : Below w.heap.size w W := by rw [← hW]; exact bs_alloc (Below.refl _ _)
  have f0 : W.cell? ⟨F, 0, none⟩ = some (.pointer (some ⟨p, 0, none⟩)) := by rw [← hW, hF]; exact new_at rfl rfl
  have f1 : W.cell? ⟨F, 1, none⟩ = some (.pointer none) := by rw [← hW, hF]; exact new_at rfl rfl
  have f2 : W.cell? ⟨F, 2, none⟩ = some (.pointer (some ⟨r, 0, none⟩)) := by rw [← hW, hF]; exact new_at rfl rfl
  have c0 := (H2.out.new bW).at_ 0 _ rfl
  rw [← hF]
  clear hW hF hr
  cases ov
  all_goals
    go_wp2_with (go_at_call 45; ((with_reducible refine (CO.out _ bW).mono ?_); rintro e w2 ⟨rfl, rfl⟩))
    go_ret
    exact ⟨rfl, bW⟩
set_option maxHeartbeats 1000000 in
set_option maxRecDepth 100000 in
theorem same_out (h1 : Ob w p (ouC b k s tags lf g)) (h2 : Ob w r (roC ln g o b k s tg ref wd)) (e1 : (lf == 0) = ov) (e2 : (ln == 0) = ov) :
    Calls Tryz.prog 42 #[.agg #[.pointer none, .pointer (some ⟨p, 0, none⟩), .pointer (some ⟨r, 0, none⟩)]] w fun e w' => e = .returned (.bool true) ∧ Below w.heap.size w w' := by
  have CO := Lib.hid (fun W (hb : Below w.heap.size w W) => ou_over (h1.new hb) e1)
  have CG := Lib.hid (fun W (hb : Below w.heap.size w W) => ou_gone (h1.new hb))
  obtain ⟨F, hF⟩ : ∃ F, F = w.heap.size := ⟨_, rfl⟩
  have H2 := Lib.hid h2
  clear h1 h2 e1
  go_enter Tryz.func42, Tryz.ntmps42
  go_upto_region 1 with fail
  generalize hW : World.alloc w _ = W
  have bW : Below w.heap.size w W := by rw [← hW]; exact bs_alloc (Below.refl _ _)
  have f0 : W.cell? ⟨F, 0, none⟩ = some (.pointer none) := by rw [← hW, hF]; exact new_at rfl rfl
  have f1 : W.cell? ⟨F, 1, none⟩ = some (.pointer (some ⟨p, 0, none⟩)) := by rw [← hW, hF]; exact new_at rfl rfl
  have f2 : W.cell? ⟨F, 2, none⟩ = some (.pointer (some ⟨r, 0, none⟩)) := by rw [← hW, hF]; exact new_at rfl rfl
  have c0 := (H2.out.new bW).at_ 0 _ rfl
  rw [← hF]
  clear hW hF
  go_upto_region 3 with fail
  have bd : Below w.heap.size w W.drew := bW.drew
  have s1 : W.drew.cell? ⟨F, 1, none⟩ = some (.pointer (some ⟨p, 0, none⟩)) := f1
  have s2 : W.drew.cell? ⟨F, 2, none⟩ = some (.pointer (some ⟨r, 0, none⟩)) := f2
  have s3 : W.drew.cell? ⟨r, 1, none⟩ = some (.bool g) := (H2.out.new bd).at_ 1 _ rfl
  clear f0 f1 f2 c0
  have e3 : (g == g) = true := by simp
  cases ov
  all_goals
    go_region_held3 (fun X => X.cell? ⟨F, 1, none⟩ = some (.pointer (some ⟨p, 0, none⟩)) ∧ X.cell? ⟨F, 2, none⟩ = some (.pointer (some ⟨r, 0, none⟩)) ∧ X.cell? ⟨r, 1, none⟩ = some (.bool g))
      (first | exact ⟨by assumption, by assumption, by assumption⟩)
      (first
        | (go_at_call 47; ((with_reducible refine (CO.out _ bd).mono ?_); rintro e w2 ⟨rfl, rfl⟩))
        | (go_at_call 49; ((with_reducible refine (CG.out _ bd).mono ?_); rintro e w2 ⟨rfl, rfl⟩)))
    go_wp2_with fail
    go_ret
    exact ⟨rfl, bd⟩
/-- A step of an operation of the program's, in a pair. -/
theorem lift_op {f : FuncId} {q : Nat} {X : World} {C C' : List Value} (HW : ∀ (G : Nat → Prop), Opw G X A V q C → Calls Tryz.prog f #[.pointer (some ⟨q, 0, none⟩), .pointer (some ⟨A.p, 0, none⟩)] X (OpP G X A V' q C' ov)) (h : Hf G X A R V V2) (hq : G q) (ho : Ob X q C) :
    Calls Tryz.prog f #[.pointer (some ⟨q, 0, none⟩), .pointer (some ⟨A.p, 0, none⟩)] X fun e w' => e = .returned (.bool ov) ∧ Hf G w' A R V' V2 ∧ Ob w' q C' ∧ Kp (fun j => G j ∧ j ≠ q) X w' := by
  obtain ⟨T, h1, h2⟩ := h.opw hq ho
  exact (HW _ h1).mono fun e w' ⟨he, hO, hk⟩ => ⟨he, h2 w' V' C' hO hk⟩
set_option maxHeartbeats 1000000 in
set_option maxRecDepth 100000 in
theorem step_put {C C' D D' : List Value} (h : Hf G w A R V V) (hp : G p) (hr : G r) (hpr : p ≠ r) (h1 : Ob w p C) (h2 : Ob w r D) (hD : D'[0]? = some (.int .i64 ln)) (e2 : (ln == 0) = ov)
    (HR : ∀ G X, Hf G X A R V V → G r → Ob X r D → Calls Tryz.prog 109 #[.pointer (some ⟨r, 0, none⟩), .pointer (some ⟨R.p, 0, none⟩)] X (RoP G A R V V' r D' X))
    (HP : ∀ G X, Hf G X A R V V' → G p → Ob X p C → Calls Tryz.prog 46 #[.pointer (some ⟨p, 0, none⟩), .pointer (some ⟨A.p, 0, none⟩)] X fun e w' => e = .returned (.bool ov) ∧ Hf G w' A R V' V' ∧ Ob w' p C' ∧ Kp (fun j => G j ∧ j ≠ p) X w')
    (HS : ∀ X, Ob X p C' → Ob X r D' → Calls Tryz.prog 42 #[.agg #[.pointer (some ⟨p, 0, none⟩), .pointer none, .pointer (some ⟨r, 0, none⟩)]] X fun e w' => e = .returned (.bool true) ∧ Below X.heap.size X w') :
    Calls Tryz.prog 43 #[.agg #[.pointer (some ⟨p, 0, none⟩), .pointer none, .pointer (some ⟨r, 0, none⟩)], .agg #[.pointer (some ⟨A.p, 0, none⟩), .pointer (some ⟨R.p, 0, none⟩)]] w fun e w' => e = .returned (.bool true) ∧ Hf G w' A R V' V' ∧ Ob w' p C' ∧ Ob w' r D' ∧ Kp (fun j => G j ∧ ¬ (j = p ∨ j = r)) w w' := by
  obtain ⟨F, hF⟩ : ∃ F, F = w.heap.size := ⟨_, rfl⟩
  have hlp := h.lts p hp
  have hlr := h.lts r hr
  have HR := Lib.hid HR
  have HP := Lib.hid HP
  have HS := Lib.hid HS
  have HH := Lib.hid h
  have HO := Lib.hid (And.intro h1 h2)
  have HG := Lib.hid (And.intro hp hr)
  clear h h1 h2 hp hr
  go_enter Tryz.func43, Tryz.ntmps43
  go_upto_region 1 with fail
  generalize hW1 : World.alloc w _ = W1
  generalize hW2 : World.alloc W1 _ = W2
  have b1 : Below w.heap.size w W1 := by rw [← hW1]; exact bs_alloc (Below.refl _ _)
  have b2 : Below W1.heap.size W1 W2 := by rw [← hW2]; exact bs_alloc (Below.refl _ _)
  have z1 : W1.heap.size = F + 1 := by rw [← hW1, hF]; simp
  have z2 : W2.heap.size = F + 2 := by rw [← hW2]; simp [z1]
  have HH1 := HH.out.add (q := F) b1 (by omega) (by omega)
  have HH2 := Lib.hid (HH1.add (q := F + 1) b2 (by omega) (by omega))
  have B2 := Lib.hid (below_then b1 b2)
  have q0 : W1.cell? ⟨F, 0, none⟩ = some (.pointer (some ⟨p, 0, none⟩)) := by rw [← hW1, hF]; exact new_at rfl rfl
  have q1 : W1.cell? ⟨F, 1, none⟩ = some (.pointer none) := by rw [← hW1, hF]; exact new_at rfl rfl
  have q2 : W1.cell? ⟨F, 2, none⟩ = some (.pointer (some ⟨r, 0, none⟩)) := by rw [← hW1, hF]; exact new_at rfl rfl
  have t0 : W2.cell? ⟨F + 1, 0, none⟩ = some (.pointer (some ⟨A.p, 0, none⟩)) := by rw [← hW2]; exact new_at z1.symm rfl
  have t1 : W2.cell? ⟨F + 1, 1, none⟩ = some (.pointer (some ⟨R.p, 0, none⟩)) := by rw [← hW2]; exact new_at z1.symm rfl
  have u0 := (b2.cell (p := ⟨F, 0, none⟩) (World.block_lt_of_cell? _ _ q0)).trans q0
  have u1 := (b2.cell (p := ⟨F, 1, none⟩) (World.block_lt_of_cell? _ _ q1)).trans q1
  have u2 := (b2.cell (p := ⟨F, 2, none⟩) (World.block_lt_of_cell? _ _ q2)).trans q2
  have FK := Lib.hid (show ∀ X, Keeps (fun j => j = p ∨ j = r ∨ ¬ ((G j ∨ j = F) ∨ j = F + 1)) W2 X → X.cell? ⟨F, 0, none⟩ = _ ∧ X.cell? ⟨F, 1, none⟩ = _ ∧ X.cell? ⟨F, 2, none⟩ = _ ∧ X.cell? ⟨F + 1, 0, none⟩ = _ ∧ X.cell? ⟨F + 1, 1, none⟩ = _ from fun X hk => by
    have nF : ¬ (F = p ∨ F = r ∨ ¬ ((G F ∨ F = F) ∨ F = F + 1)) := by
      rintro (e | e | e)
      · omega
      · omega
      · exact e (.inl (.inr rfl))
    have nF1 : ¬ (F + 1 = p ∨ F + 1 = r ∨ ¬ ((G (F + 1) ∨ F + 1 = F) ∨ F + 1 = F + 1)) := by
      rintro (e | e | e)
      · omega
      · omega
      · exact e (.inr rfl)
    exact ⟨hk.cell (p := ⟨F, 0, none⟩) nF u0, hk.cell (p := ⟨F, 1, none⟩) nF u1, hk.cell (p := ⟨F, 2, none⟩) nF u2, hk.cell (p := ⟨F + 1, 0, none⟩) nF1 t0, hk.cell (p := ⟨F + 1, 1, none⟩) nF1 t1⟩)
  have HO2 := Lib.hid (And.intro (HO.out.1.new B2.out) (HO.out.2.new B2.out))
  rw [← hF]
  clear hW1 hW2 b1 b2 z1 z2 HH1 q0 q1 q2 hF
  go_wp2_with fail
  refine (HR.out _ _ HH2.out (.inl (.inl HG.out.2)) HO2.out.2).mono ?_
  rintro e w3 ⟨rfl, h3, o3, k3⟩
  have K3 := Lib.hid (show Keeps (fun j => j = p ∨ j = r ∨ ¬ ((G j ∨ j = F) ∨ j = F + 1)) W2 w3 from k3.mono (fun j _ n => by
    by_cases e : j = r
    · exact .inr (.inl e)
    · exact .inr (.inr (fun g => n ⟨g, e⟩))))
  have H3 := Lib.hid h3
  have O3 := Lib.hid o3
  have P3 := Lib.hid (HO2.out.1.keep k3 (fun n => n ⟨.inl (.inl HG.out.1), hpr⟩))
  have l3 := o3.at_ 0 _ hD
  clear u0 u1 u2 t0 t1 h3 o3 k3
  obtain ⟨u0, u1, u2, t0, t1⟩ := FK.out _ K3.out
  have CP := Lib.hid (HP.out _ _ H3.out (.inl (.inl HG.out.1)) P3.out)
  cases ov
  all_goals
    go_wp2_with (go_at_call 46; ((with_reducible refine CP.out.mono ?_); rintro e w4 ⟨rfl, h4, o4, k4⟩; have K4 := Lib.hid (K3.out.trans (T := fun j => j = p ∨ j = r ∨ ¬ ((G j ∨ j = F) ∨ j = F + 1)) (k4.mono (fun j _ n => by
        by_cases e : j = p
        · exact .inl e
        · exact .inr (.inr (fun g => n ⟨g, e⟩)))) (fun _ _ s => s)); have H4 := Lib.hid h4; have P4 := Lib.hid o4; have O4 := Lib.hid (O3.out.keep k4 (fun n => n ⟨.inl (.inl HG.out.2), fun e => hpr e.symm⟩)); clear u0 u1 u2 t0 t1 h4 o4 k4 l3; obtain ⟨u0, u1, u2, t0, t1⟩ := FK.out _ K4.out))
    refine (HS.out _ P4.out O4.out).mono ?_
    rintro e w5 ⟨rfl, k5⟩
    have K5 := Lib.hid (show Kp (fun j => G j ∧ ¬ (j = p ∨ j = r)) w w5 from Kp.to (Kp.to (Kp.of B2.out) (K4.out.mono (fun j _ n g => by
      rcases n with n | n | n
      · exact g.2 (.inl n)
      · exact g.2 (.inr n)
      · exact n (.inl (.inl g.1))))) (Kp.of k5))
    have H5 := Lib.hid ((H4.out.new k5).less (G' := G) (fun j g => .inl (.inl g)))
    have OP5 := Lib.hid (And.intro (P4.out.new k5) (O4.out.new k5))
    clear u0 u1 u2 t0 t1 k5
    go_wp2_with fail
    go_ret
    exact ⟨rfl, H5.out, OP5.out.1, OP5.out.2, K5.out⟩
set_option maxHeartbeats 1000000 in
set_option maxRecDepth 100000 in
theorem step_out {C C' D D' : List Value} (h : Hf G w A R V V) (hp : G p) (hr : G r) (hpr : p ≠ r) (h1 : Ob w p C) (h2 : Ob w r D) (hD : D'[0]? = some (.int .i64 ln)) (e2 : (ln == 0) = ov)
    (HR : ∀ G X, Hf G X A R V V → G r → Ob X r D → Calls Tryz.prog 109 #[.pointer (some ⟨r, 0, none⟩), .pointer (some ⟨R.p, 0, none⟩)] X (RoP G A R V V' r D' X))
    (HP : ∀ G X, Hf G X A R V V' → G p → Ob X p C → Calls Tryz.prog 48 #[.pointer (some ⟨p, 0, none⟩), .pointer (some ⟨A.p, 0, none⟩)] X fun e w' => e = .returned (.bool ov) ∧ Hf G w' A R V' V' ∧ Ob w' p C' ∧ Kp (fun j => G j ∧ j ≠ p) X w')
    (HS : ∀ X, Ob X p C' → Ob X r D' → Calls Tryz.prog 42 #[.agg #[.pointer none, .pointer (some ⟨p, 0, none⟩), .pointer (some ⟨r, 0, none⟩)]] X fun e w' => e = .returned (.bool true) ∧ Below X.heap.size X w') :
    Calls Tryz.prog 43 #[.agg #[.pointer none, .pointer (some ⟨p, 0, none⟩), .pointer (some ⟨r, 0, none⟩)], .agg #[.pointer (some ⟨A.p, 0, none⟩), .pointer (some ⟨R.p, 0, none⟩)]] w fun e w' => e = .returned (.bool true) ∧ Hf G w' A R V' V' ∧ Ob w' p C' ∧ Ob w' r D' ∧ Kp (fun j => G j ∧ ¬ (j = p ∨ j = r)) w w' := by
  obtain ⟨F, hF⟩ : ∃ F, F = w.heap.size := ⟨_, rfl⟩
  have hlp := h.lts p hp
  have hlr := h.lts r hr
  have HR := Lib.hid HR
  have HP := Lib.hid HP
  have HS := Lib.hid HS
  have HH := Lib.hid h
  have HO := Lib.hid (And.intro h1 h2)
  have HG := Lib.hid (And.intro hp hr)
  clear h h1 h2 hp hr
  go_enter Tryz.func43, Tryz.ntmps43
  go_upto_region 1 with fail
  generalize hW1 : World.alloc w _ = W1
  generalize hW2 : World.alloc W1 _ = W2
  have b1 : Below w.heap.size w W1 := by rw [← hW1]; exact bs_alloc (Below.refl _ _)
  have b2 : Below W1.heap.size W1 W2 := by rw [← hW2]; exact bs_alloc (Below.refl _ _)
  have z1 : W1.heap.size = F + 1 := by rw [← hW1, hF]; simp
  have z2 : W2.heap.size = F + 2 := by rw [← hW2]; simp [z1]
  have HH1 := HH.out.add (q := F) b1 (by omega) (by omega)
  have HH2 := Lib.hid (HH1.add (q := F + 1) b2 (by omega) (by omega))
  have B2 := Lib.hid (below_then b1 b2)
  have q0 : W1.cell? ⟨F, 0, none⟩ = some (.pointer none) := by rw [← hW1, hF]; exact new_at rfl rfl
  have q1 : W1.cell? ⟨F, 1, none⟩ = some (.pointer (some ⟨p, 0, none⟩)) := by rw [← hW1, hF]; exact new_at rfl rfl
  have q2 : W1.cell? ⟨F, 2, none⟩ = some (.pointer (some ⟨r, 0, none⟩)) := by rw [← hW1, hF]; exact new_at rfl rfl
  have t0 : W2.cell? ⟨F + 1, 0, none⟩ = some (.pointer (some ⟨A.p, 0, none⟩)) := by rw [← hW2]; exact new_at z1.symm rfl
  have t1 : W2.cell? ⟨F + 1, 1, none⟩ = some (.pointer (some ⟨R.p, 0, none⟩)) := by rw [← hW2]; exact new_at z1.symm rfl
  have u0 := (b2.cell (p := ⟨F, 0, none⟩) (World.block_lt_of_cell? _ _ q0)).trans q0
  have u1 := (b2.cell (p := ⟨F, 1, none⟩) (World.block_lt_of_cell? _ _ q1)).trans q1
  have u2 := (b2.cell (p := ⟨F, 2, none⟩) (World.block_lt_of_cell? _ _ q2)).trans q2
  have FK := Lib.hid (show ∀ X, Keeps (fun j => j = p ∨ j = r ∨ ¬ ((G j ∨ j = F) ∨ j = F + 1)) W2 X → X.cell? ⟨F, 0, none⟩ = _ ∧ X.cell? ⟨F, 1, none⟩ = _ ∧ X.cell? ⟨F, 2, none⟩ = _ ∧ X.cell? ⟨F + 1, 0, none⟩ = _ ∧ X.cell? ⟨F + 1, 1, none⟩ = _ from fun X hk => by
    have nF : ¬ (F = p ∨ F = r ∨ ¬ ((G F ∨ F = F) ∨ F = F + 1)) := by
      rintro (e | e | e)
      · omega
      · omega
      · exact e (.inl (.inr rfl))
    have nF1 : ¬ (F + 1 = p ∨ F + 1 = r ∨ ¬ ((G (F + 1) ∨ F + 1 = F) ∨ F + 1 = F + 1)) := by
      rintro (e | e | e)
      · omega
      · omega
      · exact e (.inr rfl)
    exact ⟨hk.cell (p := ⟨F, 0, none⟩) nF u0, hk.cell (p := ⟨F, 1, none⟩) nF u1, hk.cell (p := ⟨F, 2, none⟩) nF u2, hk.cell (p := ⟨F + 1, 0, none⟩) nF1 t0, hk.cell (p := ⟨F + 1, 1, none⟩) nF1 t1⟩)
  have HO2 := Lib.hid (And.intro (HO.out.1.new B2.out) (HO.out.2.new B2.out))
  rw [← hF]
  clear hW1 hW2 b1 b2 z1 z2 HH1 q0 q1 q2 hF
  go_wp2_with fail
  refine (HR.out _ _ HH2.out (.inl (.inl HG.out.2)) HO2.out.2).mono ?_
  rintro e w3 ⟨rfl, h3, o3, k3⟩
  have K3 := Lib.hid (show Keeps (fun j => j = p ∨ j = r ∨ ¬ ((G j ∨ j = F) ∨ j = F + 1)) W2 w3 from k3.mono (fun j _ n => by
    by_cases e : j = r
    · exact .inr (.inl e)
    · exact .inr (.inr (fun g => n ⟨g, e⟩))))
  have H3 := Lib.hid h3
  have O3 := Lib.hid o3
  have P3 := Lib.hid (HO2.out.1.keep k3 (fun n => n ⟨.inl (.inl HG.out.1), hpr⟩))
  have l3 := o3.at_ 0 _ hD
  clear u0 u1 u2 t0 t1 h3 o3 k3
  obtain ⟨u0, u1, u2, t0, t1⟩ := FK.out _ K3.out
  have CP := Lib.hid (HP.out _ _ H3.out (.inl (.inl HG.out.1)) P3.out)
  cases ov
  all_goals
    go_wp2_with (go_at_call 48; ((with_reducible refine CP.out.mono ?_); rintro e w4 ⟨rfl, h4, o4, k4⟩; have K4 := Lib.hid (K3.out.trans (T := fun j => j = p ∨ j = r ∨ ¬ ((G j ∨ j = F) ∨ j = F + 1)) (k4.mono (fun j _ n => by
        by_cases e : j = p
        · exact .inl e
        · exact .inr (.inr (fun g => n ⟨g, e⟩)))) (fun _ _ s => s)); have H4 := Lib.hid h4; have P4 := Lib.hid o4; have O4 := Lib.hid (O3.out.keep k4 (fun n => n ⟨.inl (.inl HG.out.2), fun e => hpr e.symm⟩)); clear u0 u1 u2 t0 t1 h4 o4 k4 l3; obtain ⟨u0, u1, u2, t0, t1⟩ := FK.out _ K4.out))
    refine (HS.out _ P4.out O4.out).mono ?_
    rintro e w5 ⟨rfl, k5⟩
    have K5 := Lib.hid (show Kp (fun j => G j ∧ ¬ (j = p ∨ j = r)) w w5 from Kp.to (Kp.to (Kp.of B2.out) (K4.out.mono (fun j _ n g => by
      rcases n with n | n | n
      · exact g.2 (.inl n)
      · exact g.2 (.inr n)
      · exact n (.inl (.inl g.1))))) (Kp.of k5))
    have H5 := Lib.hid ((H4.out.new k5).less (G' := G) (fun j g => .inl (.inl g)))
    have OP5 := Lib.hid (And.intro (P4.out.new k5) (O4.out.new k5))
    clear u0 u1 u2 t0 t1 k5
    go_wp2_with fail
    go_ret
    exact ⟨rfl, H5.out, OP5.out.1, OP5.out.2, K5.out⟩
end
end Go.Proofs.YthlebfiedejhhaaGreat
/- Next: A step of an operation in a list; what comes in with the acts. -/
namespace Go.Proofs.YthlebfiedejhhaaGreat
open Go.RowKit Go.Maps
set_option linter.unusedVariables false
/-- What a step of an operation in a pair leaves. -/
def PoR (G : Nat → Prop) (w : World) (A R : Ad) (V : Wv) (x : Ox) (e : Ending) (w' : World) : Prop := e = .returned (.bool true) ∧ ∃ V', Hf G w' A R V' V' ∧ PoS w' x ∧ Kp (fun j => G j ∧ ¬ x.own j) w w' ∧ V'.M = V.M ∧ V'.I = V.I ∧ V'.cnt ≤ V.cnt + 1
section
variable {G : Nat → Prop} {w : World} {A R : Ad} {V : Wv} {x : Ox}
set_option maxHeartbeats 1000000 in
set_option maxRecDepth 100000 in
theorem po_stepP (h : Hf G w A R V V) (hx : PoP w x) (hG : ∀ k, x.own k → G k) (hc : V.cnt < 100000000) :
    Calls Tryz.prog 43 #[.agg x.vals.toArray, .agg #[.pointer (some ⟨A.p, 0, none⟩), .pointer (some ⟨R.p, 0, none⟩)]] w (PoR G w A R V x) := by
  obtain ⟨p, r, b, k, s, tg, ref, tags, n, hv, ho, hpr, hn, h1, h2, h3, h4⟩ := hx
  have gp : G p := hG p (by rw [ho]; exact .inl rfl)
  have gr : G r := hG r (by rw [ho]; exact .inr rfl)
  rw [hv]
  have fin : ∀ {e : Ending} {w' : World} {V' : Wv} {tags' : Int} {m : Nat}, (e = .returned (.bool true) ∧ Hf G w' A R V' V' ∧ Ob w' p (puC b k s tg ref tags' (lfN m)) ∧ Ob w' r (roC m false false b k s tg ref tags') ∧ Kp (fun j => G j ∧ ¬ (j = p ∨ j = r)) w w') → m ≤ 3 → isU tags' → (m ≠ 0 → 1 ≤ ref ∧ ref ≤ 9223372036854775807) → (V'.M = V.M ∧ V'.I = V.I ∧ V'.cnt ≤ V.cnt + 1) → PoR G w A R V x e w' := by
    intro e w' V' tags' m hh hm hu hr hV
    obtain ⟨h1, h2, h3, h4, h5⟩ := hh
    refine ⟨h1, V', h2, .inl ⟨p, r, b, k, s, tg, ref, tags', m, hv, ho, hpr, hm, h3, h4, hu, hr⟩, ?_, hV⟩
    rw [ho]
    exact h5
  match n, hn, h1, h2, h4 with
  | 0, _, h1, h2, h4 =>
    refine (step_put (D' := roC 0 false false b k s tg ref tags) (C' := puC b k s tg ref tags 0) (ln := 0) (ov := true) h gp gr hpr h1 h2 rfl rfl (fun G X hf hr o => ro_step0 hf hr o rfl rfl hc) (fun G X hf hp o => ?_) (fun X o1 o2 => same_put o1 o2 rfl rfl)).mono (fun e w' hh => fin (m := 0) hh (by decide) h3 (fun e => absurd rfl e) ⟨rfl, rfl, by omega⟩)
    refine (pu_step0 o _).mono ?_
    rintro e w' ⟨rfl, rfl⟩
    exact ⟨rfl, hf, o, Keeps.refl _ _⟩
  | 1, _, h1, h2, h4 =>
    have hr4 := h4 (by decide)
    refine (step_put (D' := roC 2 false false b k s tg ref tags) (C' := puC b k s tg ref tags 2) (ln := 2) (ov := false) h gp gr hpr h1 h2 rfl rfl (fun G X hf hr o => ro_put1 hf hr o rfl rfl hr4 hc) (fun G X hf hp o => lift_op (fun G' o' => pu_step3 o' rfl (uItem b k s) hr4 (by omega)) hf hp o) (fun X o1 o2 => same_put o1 o2 rfl rfl)).mono (fun e w' hh => fin (m := 2) hh (by decide) h3 (fun _ => hr4) ⟨rfl, rfl, by show V.cnt + 1 ≤ _; omega⟩)
  | 2, _, h1, h2, h4 =>
    have hr4 := h4 (by decide)
    refine (step_put (D' := roC 3 false false b k s tg ref (V.f (tagsf b k))) (C' := puC b k s tg ref (V.f (tagsf b k)) 1) (ln := 3) (ov := false) h gp gr hpr h1 h2 rfl rfl (fun G X hf hr o => ro_put2 hf hr o rfl rfl rfl hc) (fun G X hf hp o => lift_op (fun G' o' => pu_step2 o' rfl (uTags b k) rfl (by omega)) hf hp o) (fun X o1 o2 => same_put o1 o2 rfl rfl)).mono (fun e w' hh => fin (m := 3) hh (by decide) (h.rng (uTags b k)) (fun _ => hr4) ⟨rfl, rfl, by show V.cnt + 1 ≤ _; omega⟩)
  | 3, _, h1, h2, h4 =>
    have hr4 := h4 (by decide)
    refine (step_put (D' := roC 0 false false b k s tg ref tags) (C' := puC b k s tg ref tags 0) (ln := 0) (ov := true) h gp gr hpr h1 h2 rfl rfl (fun G X hf hr o => ro_put3 hf hr o rfl rfl h3 rfl hc) (fun G X hf hp o => lift_op (fun G' o' => pu_step1 o' rfl (uTags b k) h3 rfl (by omega)) hf hp o) (fun X o1 o2 => same_put o1 o2 rfl rfl)).mono (fun e w' hh => fin (m := 0) hh (by decide) h3 (fun e => absurd rfl e) ⟨rfl, rfl, by show V.cnt + 1 ≤ _; omega⟩)
set_option maxHeartbeats 1000000 in
set_option maxRecDepth 100000 in
theorem po_stepO (h : Hf G w A R V V) (hx : PoO w x) (hG : ∀ k, x.own k → G k) (hc : V.cnt < 100000000) :
    Calls Tryz.prog 43 #[.agg x.vals.toArray, .agg #[.pointer (some ⟨A.p, 0, none⟩), .pointer (some ⟨R.p, 0, none⟩)]] w (PoR G w A R V x) := by
  obtain ⟨p, r, b, k, s, tags, n, g, hv, ho, hpr, hn, h1, h2, h3⟩ := hx
  have gp : G p := hG p (by rw [ho]; exact .inl rfl)
  have gr : G r := hG r (by rw [ho]; exact .inr rfl)
  rw [hv]
  have fin : ∀ {e : Ending} {w' : World} {V' : Wv} {tags' : Int} {m : Nat} {g' : Bool}, (e = .returned (.bool true) ∧ Hf G w' A R V' V' ∧ Ob w' p (ouC b k s tags' (lfN m) g') ∧ Ob w' r (roC m g' true b k s 0 0 tags') ∧ Kp (fun j => G j ∧ ¬ (j = p ∨ j = r)) w w') → m ≤ 3 → isU tags' → (V'.M = V.M ∧ V'.I = V.I ∧ V'.cnt ≤ V.cnt + 1) → PoR G w A R V x e w' := by
    intro e w' V' tags' m g' hh hm hu hV
    obtain ⟨h1, h2, h3, h4, h5⟩ := hh
    refine ⟨h1, V', h2, .inr ⟨p, r, b, k, s, tags', m, g', hv, ho, hpr, hm, h3, h4, hu⟩, ?_, hV⟩
    rw [ho]
    exact h5
  match n, hn, h1, h2 with
  | 0, _, h1, h2 =>
    refine (step_out (D' := roC 0 g true b k s 0 0 tags) (C' := ouC b k s tags 0 g) (ln := 0) (ov := true) h gp gr hpr h1 h2 rfl rfl (fun G X hf hr o => ro_step0 hf hr o rfl rfl hc) (fun G X hf hp o => ?_) (fun X o1 o2 => same_out o1 o2 rfl rfl)).mono (fun e w' hh => fin (m := 0) hh (by decide) h3 ⟨rfl, rfl, by omega⟩)
    refine (ou_step0 o _).mono ?_
    rintro e w' ⟨rfl, rfl⟩
    exact ⟨rfl, hf, o, Keeps.refl _ _⟩
  | 1, _, h1, h2 =>
    refine (step_out (D' := roC 2 g true b k s 0 0 (V.f (tagsf b k))) (C' := ouC b k s (V.f (tagsf b k)) 2 g) (ln := 2) (ov := false) h gp gr hpr h1 h2 rfl rfl (fun G X hf hr o => ro_out1 hf hr o rfl rfl rfl hc) (fun G X hf hp o => lift_op (fun G' o' => ou_step3 o' rfl (uTags b k) rfl (by omega)) hf hp o) (fun X o1 o2 => same_out o1 o2 rfl rfl)).mono (fun e w' hh => fin (m := 2) hh (by decide) (h.rng (uTags b k)) ⟨rfl, rfl, by show V.cnt + 1 ≤ _; omega⟩)
  | 2, _, h1, h2 =>
    refine (step_out (D' := roC 3 true true b k s 0 0 tags) (C' := ouC b k s tags 1 true) (ln := 3) (ov := false) h gp gr hpr h1 h2 rfl rfl (fun G X hf hr o => ro_out2 hf hr o rfl rfl h3 rfl hc) (fun G X hf hp o => lift_op (fun G' o' => ou_step2 o' rfl (uTags b k) h3 rfl (by omega)) hf hp o) (fun X o1 o2 => same_out o1 o2 rfl rfl)).mono (fun e w' hh => fin (m := 3) hh (by decide) h3 ⟨rfl, rfl, by show V.cnt + 1 ≤ _; omega⟩)
  | 3, _, h1, h2 =>
    refine (step_out (D' := roC 0 g true b k s 0 0 tags) (C' := ouC b k s tags 0 g) (ln := 0) (ov := true) h gp gr hpr h1 h2 rfl rfl (fun G X hf hr o => ro_out3 hf hr o rfl rfl hc) (fun G X hf hp o => lift_op (fun G' o' => ou_step1 o' rfl (uItem b k s) (by omega)) hf hp o) (fun X o1 o2 => same_out o1 o2 rfl rfl)).mono (fun e w' hh => fin (m := 0) hh (by decide) h3 ⟨rfl, rfl, by show V.cnt + 1 ≤ _; omega⟩)
theorem po_step (h : Hf G w A R V V) (hx : PoS w x) (hG : ∀ k, x.own k → G k) (hc : V.cnt < 100000000) :
    Calls Tryz.prog 43 #[.agg x.vals.toArray, .agg #[.pointer (some ⟨A.p, 0, none⟩), .pointer (some ⟨R.p, 0, none⟩)]] w (PoR G w A R V x) := by
  rcases hx with hx | hx
  · exact po_stepP h hx hG hc
  · exact po_stepO h hx hG hc
theorem PoS.three (hx : PoS w x) : ∃ v0 v1 v2, x.vals = [v0, v1, v2] := by
  rcases hx with ⟨p, r, b, k, s, tg, ref, tags, n, hv, -⟩ | ⟨p, r, b, k, s, tags, n, g, hv, -⟩
  · exact ⟨_, _, _, hv⟩
  · exact ⟨_, _, _, hv⟩
end
/-- An act of this chapter's law, as it lies. -/
def Act13 (w : World) (b o : Nat) : Prop := ∃ k wh b0 k0 s0 tg rf sa sv : Int, (0 ≤ k ∧ k < 256) ∧ (0 ≤ wh ∧ wh < 256) ∧ rf ≤ 9223372036854775807 ∧ isU sa ∧ isU sv ∧ w.cell? ⟨b, o, none⟩ = some (.int .u8 k) ∧ w.cell? ⟨b, o + 1, none⟩ = some (.int .u8 wh) ∧ w.cell? ⟨b, o + 2, none⟩ = some (.int .i64 b0) ∧ w.cell? ⟨b, o + 3, none⟩ = some (.int .i64 k0) ∧ w.cell? ⟨b, o + 4, none⟩ = some (.int .i64 s0) ∧ w.cell? ⟨b, o + 5, none⟩ = some (.int .i64 tg) ∧ w.cell? ⟨b, o + 6, none⟩ = some (.int .i64 rf) ∧ w.cell? ⟨b, o + 7, none⟩ = some (.int .u64 sa) ∧ w.cell? ⟨b, o + 8, none⟩ = some (.int .u64 sv)
theorem reads_acts13 {w : World} {t e : TypeId} {a : Option Addr} {len cap : Nat} (ht : Tryz.prog.underlying t = some (.slice e)) (hk : leaves Tryz.prog 9 e = some [.inl .u8, .inl .u8, .inl .i64, .inl .i64, .inl .i64, .inl .i64, .inl .i64, .inl .u64, .inl .u64]) (hc : Tryz.prog.cellsOf e = 9) (h : Reads Tryz.prog w t (.slice a len cap)) :
    len ≤ 9223372036854775807 ∧ ∃ b off, (0 < len → len ≤ cap ∧ a = some ⟨b, off, none⟩) ∧ ∀ i, i < len → Act13 w b (off + i * 9) := by
  rcases Reads.slice ht hk h with ⟨_, rfl, _⟩ | ⟨b, off, sp, rfl, h1, h2, h3, h4⟩
  · exact ⟨by omega, 0, 0, fun h => by omega, fun i hi => by omega⟩
  · refine ⟨by unfold maxLen at h2; omega, b, off, fun h => ⟨h1, by rw [h3 (by omega) (by omega)]⟩, fun i hi => ?_⟩
    obtain ⟨l, hl, hll, hx⟩ := h4 i (by omega)
    obtain ⟨_, _, rfl, ⟨x0, rfl, y0⟩, g0⟩ := all2_cons hl
    obtain ⟨_, _, rfl, ⟨x1, rfl, y1⟩, g1⟩ := all2_cons g0
    obtain ⟨_, _, rfl, ⟨x2, rfl, y2⟩, g2⟩ := all2_cons g1
    obtain ⟨_, _, rfl, ⟨x3, rfl, y3⟩, g3⟩ := all2_cons g2
    obtain ⟨_, _, rfl, ⟨x4, rfl, y4⟩, g4⟩ := all2_cons g3
    obtain ⟨_, _, rfl, ⟨x5, rfl, y5⟩, g5⟩ := all2_cons g4
    obtain ⟨_, _, rfl, ⟨x6, rfl, y6⟩, g6⟩ := all2_cons g5
    obtain ⟨_, _, rfl, ⟨x7, rfl, y7⟩, g7⟩ := all2_cons g6
    obtain ⟨_, _, rfl, ⟨x8, rfl, y8⟩, g8⟩ := all2_cons g7
    obtain rfl := all2_nil g8
    rw [hc] at hx
    have b0 := bounds_u8 y0
    have b1 := bounds_u8 y1
    have b6 := bounds_i64 y6
    have b7 := bounds_u64 y7
    have b8 := bounds_u64 y8
    exact ⟨x0, x1, x2, x3, x4, x5, x6, x7, x8, by omega, by omega, by omega, ⟨b7.1, by omega⟩, ⟨b8.1, by omega⟩, hx 0 _ rfl, hx 1 _ rfl, hx 2 _ rfl, hx 3 _ rfl, hx 4 _ rfl, hx 5 _ rfl, hx 6 _ rfl, hx 7 _ rfl, hx 8 _ rfl⟩
theorem Act13.new {w W : World} {b o : Nat} (h : Act13 w b o) (hb : Below w.heap.size w W) : Act13 W b o := by
  obtain ⟨k, wh, b0, k0, s0, tg, rf, sa, sv, r1, r2, r3, r4, r5, c0, c1, c2, c3, c4, c5, c6, c7, c8⟩ := h
  have up : ∀ {o v}, w.cell? ⟨b, o, none⟩ = some v → W.cell? ⟨b, o, none⟩ = some v := fun {o v} hc => (hb.cell (p := ⟨b, o, none⟩) (World.block_lt_of_cell? _ _ hc)).trans hc
  exact ⟨k, wh, b0, k0, s0, tg, rf, sa, sv, r1, r2, r3, r4, r5, up c0, up c1, up c2, up c3, up c4, up c5, up c6, up c7, up c8⟩
end Go.Proofs.YthlebfiedejhhaaGreat
