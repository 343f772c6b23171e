/- BoundsMore: bounds do not fall. -/
import Derived.Test.YteoeelhljimibaaBo9
import Derived.Test.YteoeelhljimibaaByO
namespace Go.Proofs.Yteoeelhljimibaa
open Go.RowKit Go.Maps Go.Shelf
set_option linter.unusedVariables false

def cfgC (b u t q y : Int) : List Value := [.int .i64 b, .int .i64 u, .int .i64 t, .int .i64 q, .int .i64 y]
theorem cb_cfg {W : World} {p : Nat} {b u t q y : Int} (h : Cb W p (cfgC b u t q y)) : Cfg W p b u t q y := ⟨⟨h.at_ 0 _ rfl, h.at_ 1 _ rfl, h.at_ 2 _ rfl, h.at_ 3 _ rfl, h.at_ 4 _ rfl⟩, h.lt⟩
/-- Two configs in blocks. -/
structure Cfs (w W : World) (p p' : Nat) (b u t q y u' t' q' y' : Int) : Prop where
  one : Cfg W p b u t q y
  two : Cb W p' (cfgC b u' t' q' y')
  base : Below w.heap.size w W
  ne : p < p'
  lo : w.heap.size ≤ p
theorem Cfs.on {w W W' : World} {p p' : Nat} {b u t q y u' t' q' y' : Int} (h : Cfs w W p p' b u t q y u' t' q' y') (hb : Below W.heap.size W W') : Cfs w W' p p' b u t q y u' t' q' y' :=
  ⟨h.one.on hb, h.two.new hb, h.base.trans (hb.mono h.base.size), h.ne, h.lo⟩
theorem Cfs.set {w W : World} {p p' : Nat} {b u t q y u' t' q' y' u'' t'' q'' y'' : Int} (h : Cfs w W p p' b u t q y u' t' q' y') (k : Nat) (v : Value) (hk : k < 5) (he : cfgC b u'' t'' q'' y'' = (cfgC b u' t' q' y').set k v) : Cfs w (W.setCell ⟨p', k, none⟩ v) p p' b u t q y u'' t'' q'' y'' := by
  have hne := h.ne
  have hlo := h.lo
  have ks : Keeps (fun j => j = p') W (W.setCell ⟨p', k, none⟩ v) := Keeps.setCell (S := fun j => j = p') (Keeps.refl _ _) (p := ⟨p', k, none⟩) (.inl rfl) _
  obtain ⟨⟨f0, f1, f2, f3, f4⟩, hl⟩ := h.one
  refine ⟨⟨⟨?_, ?_, ?_, ?_, ?_⟩, Nat.lt_of_lt_of_le hl ks.size⟩, h.two.set k v hk he, h.base.setCell (by show w.heap.size ≤ p'; omega) _, hne, hlo⟩
  · exact ks.cell (p := ⟨p, 0, none⟩) (by show ¬ p = p'; omega) f0
  · exact ks.cell (p := ⟨p, 1, none⟩) (by show ¬ p = p'; omega) f1
  · exact ks.cell (p := ⟨p, 2, none⟩) (by show ¬ p = p'; omega) f2
  · exact ks.cell (p := ⟨p, 3, none⟩) (by show ¬ p = p'; omega) f3
  · exact ks.cell (p := ⟨p, 4, none⟩) (by show ¬ p = p'; omega) f4
theorem Cfs.ten {w W : World} {p p' : Nat} {b u t q y u' t' q' y' : Int} (h : Cfs w W p p' b u t q y u' t' q' y') : W.cell? ⟨p, 0, none⟩ = some (.int .i64 b) ∧ W.cell? ⟨p, 1, none⟩ = some (.int .i64 u) ∧ W.cell? ⟨p, 2, none⟩ = some (.int .i64 t) ∧ W.cell? ⟨p, 3, none⟩ = some (.int .i64 q) ∧ W.cell? ⟨p, 4, none⟩ = some (.int .i64 y) ∧ W.cell? ⟨p', 0, none⟩ = some (.int .i64 b) ∧ W.cell? ⟨p', 1, none⟩ = some (.int .i64 u') ∧ W.cell? ⟨p', 2, none⟩ = some (.int .i64 t') ∧ W.cell? ⟨p', 3, none⟩ = some (.int .i64 q') ∧ W.cell? ⟨p', 4, none⟩ = some (.int .i64 y') := by
  obtain ⟨⟨f0, f1, f2, f3, f4⟩, -⟩ := h.one
  obtain ⟨⟨e0, e1, e2, e3, e4⟩, -⟩ := cb_cfg h.two
  exact ⟨f0, f1, f2, f3, f4, e0, e1, e2, e3, e4⟩
theorem Cfs.drew {w W : World} {p p' : Nat} {b u t q y u' t' q' y' : Int} (h : Cfs w W p p' b u t q y u' t' q' y') : Cfs w W.drew p p' b u t q y u' t' q' y' := h.on (Below.refl _ _).drew
/-- .. beside a list of calls of the call's own. -/
structure Bms (w W : World) (p p' : Nat) (b u t q y u' t' q' y' : Int) (B : Nat) (v : Value) (L : List Cl) : Prop where
  cfs : Cfs w W p p' b u t q y u' t' q' y'
  row : W.ownsRow B 33 7 v L.length (rowsC L)
  size : B ≤ W.heap.size
  lo : w.heap.size ≤ B ∧ p < B ∧ p' < B
theorem Bms.on {w W W' : World} {p p' : Nat} {b u t q y u' t' q' y' : Int} {B : Nat} {v : Value} {L : List Cl} (h : Bms w W p p' b u t q y u' t' q' y' B v L) (hb : Below W.heap.size W W') : Bms w W' p p' b u t q y u' t' q' y' B v L :=
  ⟨h.cfs.on hb, Keeps.ownsRow h.row (Keeps.of_new (S := fun _ => False) hb) (fun _ _ s => s), Nat.le_trans h.size hb.size, h.lo⟩
theorem Bms.drew {w W : World} {p p' : Nat} {b u t q y u' t' q' y' : Int} {B : Nat} {v : Value} {L : List Cl} (h : Bms w W p p' b u t q y u' t' q' y' B v L) : Bms w W.drew p p' b u t q y u' t' q' y' B v L := h.on (Below.refl _ _).drew
theorem Bms.app {w W W' : World} {p p' : Nat} {b u t q y u' t' q' y' : Int} {B : Nat} {v v' : Value} {L : List Cl} {c : Cl} {o : Obj} (h : Bms w W p p' b u t q y u' t' q' y' B v L) (hown : W'.ownsRow B 33 7 v' (L.length + 1) (rowsC L ++ callC c)) (hg : (W.alloc o).grownBy W' v.ownBlock) : Bms w W' p p' b u t q y u' t' q' y' B v' (L ++ [c]) := by
  have hk : Keeps (fun j => v.ownBlock = some j) W W' := ((Keeps.refl _ W).alloc _).grown hg (fun k e => .inl e)
  have hB : Below B W W' := ((Below.refl B W).alloc h.size _).grown hg (by have := h.size; simp; omega) (fun j e => (h.row.lt j e).1)
  obtain ⟨l1, l2, l3⟩ := h.lo
  have hne : ∀ j, j < B → ¬ v.ownBlock = some j := fun j hj e => by have := (h.row.lt j e).1; omega
  obtain ⟨⟨f0, f1, f2, f3, f4⟩, hl⟩ := h.cfs.one
  refine ⟨⟨⟨⟨?_, ?_, ?_, ?_, ?_⟩, Nat.lt_of_lt_of_le hl hk.size⟩, h.cfs.two.keep hk (hne p' l3), h.cfs.base.trans (hB.mono l1), h.cfs.ne, h.cfs.lo⟩, ?_, Nat.le_trans h.size hk.size, h.lo⟩
  · exact hk.cell (p := ⟨p, 0, none⟩) (hne p l2) f0
  · exact hk.cell (p := ⟨p, 1, none⟩) (hne p l2) f1
  · exact hk.cell (p := ⟨p, 2, none⟩) (hne p l2) f2
  · exact hk.cell (p := ⟨p, 3, none⟩) (hne p l2) f3
  · exact hk.cell (p := ⟨p, 4, none⟩) (hne p l2) f4
  · rw [List.length_append, rowsC_app]
    show W'.ownsRow B 33 7 v' (L.length + 1) (rowsC L ++ (callC c ++ []))
    rw [List.append_nil]
    exact hown
/-- The calls that so many bytes are taken for. -/
def callsV (V : List UInt8) (k : Nat) : List Cl := (V.take k).map fun x => callV (verb11 (x.toNat : Int))
theorem callsV_succ {V : List UInt8} {k : Nat} {x : UInt8} (h : V[k]? = some x) : callsV V (k + 1) = callsV V k ++ [callV (verb11 (x.toNat : Int))] := by
  unfold callsV
  rw [List.take_add_one, h]
  simp
theorem callsV_len {V : List UInt8} {k : Nat} (h : k ≤ V.length) : (callsV V k).length = k := by simp [callsV]; omega
theorem callsV_verbs (V : List UInt8) (k : Nat) : ∀ x ∈ callsV V k, 1 ≤ (x.verb : Int) ∧ (x.verb : Int) ≤ 11 := by
  intro x hx
  obtain ⟨c, _, rfl⟩ := List.mem_map.mp hx
  have := verb11_bd (x := (c.toNat : Int)) (by omega)
  show 1 ≤ ((verb11 (c.toNat : Int) : Nat) : Int) ∧ _
  simp only [callV]
  omega
set_option maxHeartbeats 8000000 in
set_option maxRecDepth 100000 in
theorem walk_BoundsMore (a0_0 : Int) (a0_1 : Int) (a0_2 : Int) (a0_3 : Int) (a0_4 : Int) (a1_0 : Int) (a1_1 : Int) (a2 : Option Addr) (l2 c2 : Nat) (w : World) (w0_0 : (Lit.int .i64 a0_0).wf = true) (w0_1 : (Lit.int .i64 a0_1).wf = true) (w0_2 : (Lit.int .i64 a0_2).wf = true) (w0_3 : (Lit.int .i64 a0_3).wf = true) (w0_4 : (Lit.int .i64 a0_4).wf = true) (w1_0 : (Lit.int .u8 a1_0).wf = true) (w1_1 : (Lit.int .u8 a1_1).wf = true) (w2 : Reads Try.prog w 24 (.slice a2 l2 c2)) :
    Calls Try.prog 5 #[.agg #[.int .i64 a0_0, .int .i64 a0_1, .int .i64 a0_2, .int .i64 a0_3, .int .i64 a0_4], .agg #[.int .u8 a1_0, .int .u8 a1_1], .slice a2 l2 c2] w fun e w' => e = .returned (.bool true) ∧ Below w.heap.size w w' := by
  obtain ⟨V, rfl, hVc, hVm, hA2, hrV⟩ := open_by (P := Try.prog) Try.underlying24 (by kernel_rfl) (by kernel_rfl) w2
  obtain ⟨i0, hi, hz0, hz1, hz2⟩ := info_parts info_call
  obtain ⟨z0, z1⟩ := bounds_u8 w1_0
  obtain ⟨z2, z3⟩ := bounds_u8 w1_1
  have HRV := Lib.hid hrV
  unfold maxLen at hVm
  obtain ⟨m, hm⟩ : ∃ m, m = V.length := ⟨_, rfl⟩
  rw [← hm] at hVc ⊢
  have HM := Lib.hid hm
  clear w0_0 w0_1 w0_2 w0_3 w0_4 w1_0 w1_1 w2 hA2 hrV hm
  generalize a0_0 = b at *
  generalize a0_1 = u at *
  generalize a0_2 = t at *
  generalize a0_3 = q at *
  generalize a0_4 = y at *
  generalize a1_0 = x at *
  generalize a1_1 = z at *
  have CM := Lib.hid (wmay b u t q y)
  cases hmy : mayc b u t q y with
  | false =>
    rw [hmy] at CM
    go_enter Try.func5, Try.ntmps5
    go_wp2_with (go_at_call 21; ((with_reducible refine (CM.out _).mono ?_); rintro e w6 ⟨rfl, hk6⟩))
    refine (lives40 _).mono ?_
    rintro e wz ⟨rfl, hbz⟩
    go_wp2_with fail
    go_ret
    have h1 : Below w.heap.size w w6 := (((Below.refl _ _).alloc (Nat.le_refl _) _).alloc (by simp) _).trans (hk6.mono (by simp; omega))
    exact ⟨rfl, h1.trans (hbz.mono h1.size)⟩
  | true =>
    rw [hmy] at CM
    by_cases h50 : 50 < m
    · have d50 : decide (50 < (m : Int)) = true := decide_eq_true (by omega)
      go_enter Try.func5, Try.ntmps5
      go_wp2_with (go_at_call 21; ((with_reducible refine (CM.out _).mono ?_); rintro e w6 ⟨rfl, hk6⟩))
      refine (lives40 _).mono ?_
      rintro e wz ⟨rfl, hbz⟩
      go_wp2_with fail
      go_ret
      have h1 : Below w.heap.size w w6 := (((Below.refl _ _).alloc (Nat.le_refl _) _).alloc (by simp) _).trans (hk6.mono (by simp; omega))
      exact ⟨rfl, h1.trans (hbz.mono h1.size)⟩
    have d50 : decide (50 < (m : Int)) = false := decide_eq_false (by omega)
    unfold mayc at hmy
    have hmay := of_decide_eq_true hmy
    obtain ⟨b1, b2, u1, u2, t1, t2, q1, q2, y1, y2⟩ := hmay
    clear hmy
    go_enter Try.func5, Try.ntmps5
    go_upto_region 1 with (fail)
    have hc1 : Cfg ((w.alloc (.cells #[.int .i64 b, .int .i64 u, .int .i64 t, .int .i64 q, .int .i64 y] 23)).alloc (.cells #[.int .u8 x, .int .u8 z] 43)) w.heap.size b u t q y := ⟨⟨by simp [World.cell?_alloc_lt], by simp [World.cell?_alloc_lt], by simp [World.cell?_alloc_lt], by simp [World.cell?_alloc_lt], by simp [World.cell?_alloc_lt]⟩, by simp; omega⟩
    have hx0 : ((w.alloc (.cells #[.int .i64 b, .int .i64 u, .int .i64 t, .int .i64 q, .int .i64 y] 23)).alloc (.cells #[.int .u8 x, .int .u8 z] 43)).cell? ⟨w.heap.size + 1, 0, none⟩ = some (.int .u8 x) := by simp
    have hx1 : ((w.alloc (.cells #[.int .i64 b, .int .i64 u, .int .i64 t, .int .i64 q, .int .i64 y] 23)).alloc (.cells #[.int .u8 x, .int .u8 z] 43)).cell? ⟨w.heap.size + 1, 1, none⟩ = some (.int .u8 z) := by simp
    have hbl : Below w.heap.size w ((w.alloc (.cells #[.int .i64 b, .int .i64 u, .int .i64 t, .int .i64 q, .int .i64 y] 23)).alloc (.cells #[.int .u8 x, .int .u8 z] 43)) := ((Below.refl _ _).alloc (Nat.le_refl _) _).alloc (by simp) _
    have hsz : ((w.alloc (.cells #[.int .i64 b, .int .i64 u, .int .i64 t, .int .i64 q, .int .i64 y] 23)).alloc (.cells #[.int .u8 x, .int .u8 z] 43)).heap.size = w.heap.size + 1 + 1 := by simp
    generalize (w.alloc (.cells #[.int .i64 b, .int .i64 u, .int .i64 t, .int .i64 q, .int .i64 y] 23)).alloc (.cells #[.int .u8 x, .int .u8 z] 43) = W0 at *
    obtain ⟨p, hp⟩ : ∃ p, w.heap.size = p := ⟨_, rfl⟩
    rw [hp] at hc1 hx0 hx1 hsz ⊢
    have HP := Lib.hid hp
    obtain ⟨f0, f1, f2, f3, f4⟩ := hc1.cells
    have HC1 := Lib.hid hc1
    have HBL := Lib.hid hbl
    clear hc1 hbl hp
    go_upto_region 4 with (go_at_call 21; ((with_reducible refine (CM.out _).mono ?_); rintro e w6 ⟨rfl, hk6⟩; have hc6 := HC1.out.on hk6; obtain ⟨g0, g1, g2, g3, g4⟩ := hc6.cells; have hy0' := (hk6.cell (p := ⟨p + 1, 0, none⟩) (by show p + 1 < _; omega)).trans hx0; have hy1' := (hk6.cell (p := ⟨p + 1, 1, none⟩) (by show p + 1 < _; omega)).trans hx1; have HC6 := Lib.hid hc6; have HB6 := Lib.hid (HBL.out.trans (hk6.mono HBL.out.size)); clear f0 f1 f2 f3 f4 hx0 hx1 hc6 hk6))
    have HC7 := Lib.hid (show Cfs w (w6.alloc (.cells #[.int .i64 b, .int .i64 u, .int .i64 t, .int .i64 q, .int .i64 y] 23)) p w6.heap.size b u t q y u t q y from ⟨HC6.out.on ((Below.refl _ _).alloc (Nat.le_refl _) _), cb_new rfl, HB6.out.alloc HB6.out.size _, HC6.out.lt, by have := HP.out; omega⟩)
    have hy0 := (World.cell?_alloc_some w6 _ (.cells #[.int .i64 b, .int .i64 u, .int .i64 t, .int .i64 q, .int .i64 y] 23) (by simp [hy0'])).trans hy0'
    have hy1 := (World.cell?_alloc_some w6 _ (.cells #[.int .i64 b, .int .i64 u, .int .i64 t, .int .i64 q, .int .i64 y] 23) (by simp [hy1'])).trans hy1'
    have hfz : ∀ j, (w6.alloc (.cells #[.int .i64 b, .int .i64 u, .int .i64 t, .int .i64 q, .int .i64 y] 23)).frozen? ⟨w6.heap.size, j, none⟩ = false := fun j => by simp
    have hpp : p < w6.heap.size := HC6.out.lt
    clear g0 g1 g2 g3 g4 hy0' hy1' HC6 HB6 HBL HC1 hsz CM
    generalize w6.alloc (.cells #[.int .i64 b, .int .i64 u, .int .i64 t, .int .i64 q, .int .i64 y] 23) = W7 at *
    generalize w6.heap.size = p' at *
    obtain ⟨r, hr⟩ : ∃ r, x.tmod 4 = r := ⟨_, rfl⟩
    have hrb : 0 ≤ r ∧ r < 4 := by rw [← hr]; exact ⟨Int.tmod_nonneg _ z0, Int.tmod_lt_of_pos _ (by omega)⟩
    have hwz : IntKind.i64.wrap z = z := IntWalk.i64_in _ (by omega)
    have hwa : ∀ v : Int, 0 ≤ v → v ≤ 65536 → IntKind.i64.wrap (v + z) = v + z := fun v h1 h2 => IntWalk.i64_in _ (by omega)
    have hw1 := hwa y (by omega) (by omega)
    have hw2 := hwa q (by omega) (by omega)
    have hw3 := hwa u (by omega) (by omega)
    have hw4 := hwa t (by omega) (by omega)
    clear hwa
    have HB10 := Lib.hid (And.intro b1 (And.intro b2 (And.intro u1 (And.intro u2 (And.intro t1 (And.intro t2 (And.intro q1 (And.intro q2 (And.intro y1 y2)))))))))
    go_upto_block 0 with (fail)
    go_cut [] from 13 (fun wx => ∃ u' t' q' y', Hid (Cfs w wx p p' b u t q y u' t' q' y') ∧ Hid (More b u t q y u' t' q' y'))
    case first =>
      obtain ⟨⟨e0, e1, e2, e3, e4⟩, -⟩ := cb_cfg HC7.out.two
      obtain ⟨⟨f0, f1, f2, f3, f4⟩, -⟩ := HC7.out.one
      rcases (by omega : r = 0 ∨ r = 1 ∨ r = 2 ∨ r = 3) with rfl | rfl | rfl | rfl
      · go_wp2_with fail
        go_meet
        case rel => exact ⟨u, t, q, min (y + z) 256, HC7.out.set 4 (.int .i64 (min (y + z) 256)) (by omega) rfl, ⟨HB10.out, by omega⟩⟩
      · go_wp2_with fail
        go_meet
        case rel => exact ⟨u, t, min (q + z) 8, y, HC7.out.set 3 (.int .i64 (min (q + z) 8)) (by omega) rfl, ⟨HB10.out, by omega⟩⟩
      · go_wp2_with fail
        go_meet
        case rel => exact ⟨min (u + z) 65536, t, q, y, HC7.out.set 1 (.int .i64 (min (u + z) 65536)) (by omega) rfl, ⟨HB10.out, by omega⟩⟩
      · go_wp2_with fail
        go_meet
        case rel => exact ⟨u, min (t + z) 16, q, y, HC7.out.set 2 (.int .i64 (min (t + z) 16)) (by omega) rfl, ⟨HB10.out, by omega⟩⟩
    obtain ⟨u', t', q', y', hC, hM⟩ := hcut
    generalize wc = W8 at *
    clear hy0 hy1 hfz hw1 hw2 hw3 hw4 hwz hr hrb HC7
    have RC := Lib.hid (fun X => roomw40 b u t q y X)
    have TC := Lib.hid (fun X => turnw40 b u t q y X)
    have EC := Lib.hid (fun X => evictw40 b u t q y X)
    have RD := Lib.hid (fun X => roomw40 b u' t' q' y' X)
    have TD := Lib.hid (fun X => turnw40 b u' t' q' y' X)
    have ED := Lib.hid (fun X => evictw40 b u' t' q' y' X)
    have m0 := hM.out.each 0 (by omega)
    have m1 := hM.out.each 1 (by omega)
    have m2 := hM.out.each 2 (by omega)
    have m3 := hM.out.turn
    generalize ofI 0 b u t q y = r0 at *
    generalize ofI 1 b u t q y = r1 at *
    generalize ofI 2 b u t q y = r2 at *
    generalize ofI 0 b u' t' q' y' = r0' at *
    generalize ofI 1 b u' t' q' y' = r1' at *
    generalize ofI 2 b u' t' q' y' = r2' at *
    have g1 : decide (r0' < r0) = false := decide_eq_false (by omega)
    have g2 : decide (r1' < r1) = false := decide_eq_false (by omega)
    have g3 : decide (r2' < r2) = false := decide_eq_false (by omega)
    have g4 : decide (r0 < 1) = false := decide_eq_false (by omega)
    have g5 : decide (r1 < r0) = false := decide_eq_false (by omega)
    have g6 : decide (r2 < 1) = false := decide_eq_false (by omega)
    clear m0 m1 m2 m3 z0 z1 z2 z3 b1 b2 u1 u2 t1 t2 q1 q2 y1 y2 HB10
    go_upto_region 12 with (fail)
    go_cut [99] from 13 (fun s99 wx => s99 = .bool false ∧ Hid (Cfs w wx p p' b u t q y u' t' q' y'))
    case first =>
      have HC := Lib.hid hC.out
      have hs := HC.out.ten
      have hsd : W8.drew.cell? ⟨p, 0, none⟩ = some (.int .i64 b) ∧ W8.drew.cell? ⟨p, 1, none⟩ = some (.int .i64 u) ∧ W8.drew.cell? ⟨p, 2, none⟩ = some (.int .i64 t) ∧ W8.drew.cell? ⟨p, 3, none⟩ = some (.int .i64 q) ∧ W8.drew.cell? ⟨p, 4, none⟩ = some (.int .i64 y) ∧ W8.drew.cell? ⟨p', 0, none⟩ = some (.int .i64 b) ∧ W8.drew.cell? ⟨p', 1, none⟩ = some (.int .i64 u') ∧ W8.drew.cell? ⟨p', 2, none⟩ = some (.int .i64 t') ∧ W8.drew.cell? ⟨p', 3, none⟩ = some (.int .i64 q') ∧ W8.drew.cell? ⟨p', 4, none⟩ = some (.int .i64 y') := hs
      go_region_held3 (fun X => X.cell? ⟨p, 0, none⟩ = some (.int .i64 b) ∧ X.cell? ⟨p, 1, none⟩ = some (.int .i64 u) ∧ X.cell? ⟨p, 2, none⟩ = some (.int .i64 t) ∧ X.cell? ⟨p, 3, none⟩ = some (.int .i64 q) ∧ X.cell? ⟨p, 4, none⟩ = some (.int .i64 y) ∧ X.cell? ⟨p', 0, none⟩ = some (.int .i64 b) ∧ X.cell? ⟨p', 1, none⟩ = some (.int .i64 u') ∧ X.cell? ⟨p', 2, none⟩ = some (.int .i64 t') ∧ X.cell? ⟨p', 3, none⟩ = some (.int .i64 q') ∧ X.cell? ⟨p', 4, none⟩ = some (.int .i64 y'))
        (first | with_reducible exact hs | with_reducible exact hsd | assumption)
        (first
        | (go_at_call 10; ((with_reducible refine (RC.out _).mono ?_); rintro e w1 ⟨rfl, hb⟩; have HC := Lib.hid (by first | exact HC.out.on hb | exact HC.out.drew.on hb : Cfs w w1 p p' b u t q y u' t' q' y'); have hs := HC.out.ten; clear hb))
        | (go_at_call 10; ((with_reducible refine (RD.out _).mono ?_); rintro e w1 ⟨rfl, hb⟩; have HC := Lib.hid (by first | exact HC.out.on hb | exact HC.out.drew.on hb : Cfs w w1 p p' b u t q y u' t' q' y'); have hs := HC.out.ten; clear hb))
        | (go_at_call 12; ((with_reducible refine (TC.out _).mono ?_); rintro e w1 ⟨rfl, hb⟩; have HC := Lib.hid (by first | exact HC.out.on hb | exact HC.out.drew.on hb : Cfs w w1 p p' b u t q y u' t' q' y'); have hs := HC.out.ten; clear hb))
        | (go_at_call 12; ((with_reducible refine (TD.out _).mono ?_); rintro e w1 ⟨rfl, hb⟩; have HC := Lib.hid (by first | exact HC.out.on hb | exact HC.out.drew.on hb : Cfs w w1 p p' b u t q y u' t' q' y'); have hs := HC.out.ten; clear hb))
        | (go_at_call 14; ((with_reducible refine (EC.out _).mono ?_); rintro e w1 ⟨rfl, hb⟩; have HC := Lib.hid (by first | exact HC.out.on hb | exact HC.out.drew.on hb : Cfs w w1 p p' b u t q y u' t' q' y'); have hs := HC.out.ten; clear hb))
        | (go_at_call 14; ((with_reducible refine (ED.out _).mono ?_); rintro e w1 ⟨rfl, hb⟩; have HC := Lib.hid (by first | exact HC.out.on hb | exact HC.out.drew.on hb : Cfs w w1 p p' b u t q y u' t' q' y'); have hs := HC.out.ten; clear hb)))
      all_goals
        go_wp2_with fail
        go_meet
        case rel => exact ⟨rfl, by first | exact HC.out | exact HC.out.drew⟩
    obtain ⟨rfl, hC2⟩ := hcut
    generalize wc = W9 at *
    clear hC RC TC EC RD TD ED g1 g2 g3 g4 g5 g6
    go_wp2_with fail
    obtain ⟨B, hB⟩ : ∃ B, B = W9.heap.size := ⟨_, rfl⟩
    have HB0 := Lib.hid (show Bms w W9 p p' b u t q y u' t' q' y' B (.slice none 0 0) [] from ⟨hC2.out, World.ownsRow_nil _ _ _ _, by omega, by rw [hB]; exact ⟨hC2.out.base.size, hC2.out.one.lt, hC2.out.two.lt⟩⟩)
    have SC := Lib.hid (fun v X => stepsw40 b u t q y v X)
    have SD := Lib.hid (fun v X => stepsw40 b u' t' q' y' v X)
    clear hC2 hB
    go_loopw [8, 9, 10] (fun v s i wr => ∃ k : Nat, k ≤ m ∧ i = .int .i64 k ∧ s = .int .i64 (winI b u t q y (callsV V k)) ∧ Hid (Bms w wr p p' b u t q y u' t' q' y' B v (callsV V k))) (fun _ _ i _ => m - (intOf i).toNat)
    case atStart => exact ⟨0, by omega, rfl, rfl, HB0.out⟩
    case round =>
      obtain ⟨k, hk, rfl, rfl, hS⟩ := hrel
      by_cases hlt : k < m
      · obtain ⟨x, hx⟩ : ∃ x, V[k]? = some x := ⟨_, List.getElem?_eq_getElem (by have := HM.out; omega)⟩
        obtain ⟨g, off, rfl, hg, hcell⟩ := HRV.out (by have := HM.out; omega)
        have hcx := hcell k (by have := HM.out; omega)
        rw [(List.getElem?_eq_some_iff.mp hx).2] at hcx
        have c0 := (hS.out.cfs.base.cell (p := ⟨g, off + k, none⟩) hg).trans hcx
        obtain ⟨v1, v2, v3⟩ := verb11_bd (x := (x.toNat : Int)) (by omega)
        have hsu := callsV_succ hx
        obtain ⟨xv, hxv⟩ : ∃ xv, xv = verb11 (x.toNat : Int) := ⟨_, rfl⟩
        rw [← hxv] at v1 v2 v3 hsu
        obtain ⟨e1, e2⟩ := hM.out.steps (v := (xv : Int)) (by omega)
        have hwb := winI_bd b u t q y (callsV V k)
        rw [callsV_len (by have := HM.out; omega)] at hwb
        have hws := hM.out.wins (callsV V (k + 1)) (callsV_verbs V (k + 1))
        have hws1 : winI b u t q y (callsV V (k + 1)) = winI b u t q y (callsV V k) + stepsI b u t q y xv := by rw [hsu]; simp [winI, callV]
        obtain ⟨sb1, sb2⟩ := stepsI_bd b u t q y xv
        have SCv := Lib.hid (SC.out (xv : Int))
        have SDv := Lib.hid (SD.out (xv : Int))
        have HWN := Lib.hid (And.intro hsu hws1)
        have hlk : (callsV V k).length = k := callsV_len (by have := HM.out; omega)
        have hlk1 : (callsV V (k + 1)).length = k + 1 := callsV_len (by have := HM.out; omega)
        rw [hws1] at hws
        generalize hst : winI b u t q y (callsV V k) = s at *
        generalize hsc : stepsI b u t q y xv = d at *
        generalize hsd2 : stepsI b u' t' q' y' xv = d' at *
        generalize hwd : winI b u' t' q' y' (callsV V (k + 1)) = s' at *
        have HWD := Lib.hid hwd
        clear hcx hcell hx hxv hsu hws1 hst hsc hsd2 hwd
        have g1 : decide (d' < d) = false := decide_eq_false (by omega)
        have g2 : decide (d < 4) = false := decide_eq_false (by omega)
        have g3 : decide (s + d < s + 4) = false := decide_eq_false (by omega)
        have g4 : decide (s' < s + d) = false := decide_eq_false (by omega)
        have hw4 : IntKind.i64.wrap (s + 4) = s + 4 := IntWalk.i64_in _ (by omega)
        go_upto_region 20 with (fail)
        go_cut [124] from 100 to 144 (fun s124 wx => s124 = .bool false ∧ Hid (Bms w wx p p' b u t q y u' t' q' y' B u8 (callsV V k)))
        case first =>
          have HC := Lib.hid hS.out
          have hs := HC.out.cfs.ten
          have hsd : wr.drew.cell? ⟨p, 0, none⟩ = some (.int .i64 b) ∧ wr.drew.cell? ⟨p, 1, none⟩ = some (.int .i64 u) ∧ wr.drew.cell? ⟨p, 2, none⟩ = some (.int .i64 t) ∧ wr.drew.cell? ⟨p, 3, none⟩ = some (.int .i64 q) ∧ wr.drew.cell? ⟨p, 4, none⟩ = some (.int .i64 y) ∧ wr.drew.cell? ⟨p', 0, none⟩ = some (.int .i64 b) ∧ wr.drew.cell? ⟨p', 1, none⟩ = some (.int .i64 u') ∧ wr.drew.cell? ⟨p', 2, none⟩ = some (.int .i64 t') ∧ wr.drew.cell? ⟨p', 3, none⟩ = some (.int .i64 q') ∧ wr.drew.cell? ⟨p', 4, none⟩ = some (.int .i64 y') := hs
          go_region_held3 (fun X => X.cell? ⟨p, 0, none⟩ = some (.int .i64 b) ∧ X.cell? ⟨p, 1, none⟩ = some (.int .i64 u) ∧ X.cell? ⟨p, 2, none⟩ = some (.int .i64 t) ∧ X.cell? ⟨p, 3, none⟩ = some (.int .i64 q) ∧ X.cell? ⟨p, 4, none⟩ = some (.int .i64 y) ∧ X.cell? ⟨p', 0, none⟩ = some (.int .i64 b) ∧ X.cell? ⟨p', 1, none⟩ = some (.int .i64 u') ∧ X.cell? ⟨p', 2, none⟩ = some (.int .i64 t') ∧ X.cell? ⟨p', 3, none⟩ = some (.int .i64 q') ∧ X.cell? ⟨p', 4, none⟩ = some (.int .i64 y'))
            (first | with_reducible exact hs | with_reducible exact hsd | assumption)
            (first
            | (go_at_call 16; ((with_reducible refine (SCv.out _).mono ?_); rintro e w1 ⟨rfl, hb⟩; have HC := Lib.hid (by first | exact HC.out.on hb | exact HC.out.drew.on hb : Bms w w1 p p' b u t q y u' t' q' y' B u8 (callsV V k)); have hs := HC.out.cfs.ten; clear hb))
            | (go_at_call 16; ((with_reducible refine (SDv.out _).mono ?_); rintro e w1 ⟨rfl, hb⟩; have HC := Lib.hid (by first | exact HC.out.on hb | exact HC.out.drew.on hb : Bms w w1 p p' b u t q y u' t' q' y' B u8 (callsV V k)); have hs := HC.out.cfs.ten; clear hb)))
          all_goals
            go_wp2_with fail
            go_meet
            case rel => exact ⟨rfl, by first | exact HC.out | exact HC.out.drew⟩
        obtain ⟨rfl, hS2⟩ := hcut
        generalize wc = W10 at *
        clear hS SCv SDv g1 g2 c0
        have hrow := hS2.out.row
        rw [hlk] at hrow
        have hsz10 := hS2.out.size
        go_wp2_with (at_builtin; refine wpList_append_own_at _ rfl (.tmp 125) (.tmp 128) 28 rfl B 33 i0 _ 7 72 Try.underlying28 hi hz0 hz1 hz2 rfl (by decide) u8 k _ rfl (hrow.alloc _) ⟨W10.heap.size, 0, none⟩ 1 1 (callC (callV xv)) rfl rfl ?c1 ?c2 ?c3 ?c4 ?c5 ?_)
        case c1 => intro j u hj; rw [Addr.add_lit, Nat.zero_add]; exact cl_new_at (c := callV xv) rfl j u hj
        case c2 => intro u hu; exact rowsC_one [callV xv] u (by show u ∈ callC (callV xv) ++ []; rw [List.append_nil]; exact hu)
        case c3 => unfold maxLen; omega
        case c4 => omega
        case c5 => simp; omega
        intro v' W11 hown' hgrow _ _
        obtain ⟨a', n', c', rfl⟩ := own_slice hown'
        have happ := hS2.out.app (c := callV xv) (by rw [hlk]; exact hown') hgrow
        rw [← HWN.out.1] at happ
        have HS := Lib.hid happ
        obtain ⟨h10, h11, h12, h13, h14, h20, h21, h22, h23, h24⟩ := happ.cfs.ten
        have hWc := windowsw b u t q y (.slice a' n' c') (callsV V (k + 1)) W11 (ClR.of_row happ.row rfl) (by omega)
        rw [HWN.out.2] at hWc
        have HWC := Lib.hid hWc
        clear happ hrow hown' hgrow hWc hS2 hsz10
        go_wp2_with fail
        refine HWC.out.mono ?_
        rintro e W12 ⟨rfl, hb⟩
        have HS2 := Lib.hid (HS.out.on hb)
        clear hb HWC HS h10 h11 h12 h13 h14 h20 h21 h22 h23 h24
        obtain ⟨h10, h11, h12, h13, h14, h20, h21, h22, h23, h24⟩ := HS2.out.cfs.ten
        have hWd := windowsw b u' t' q' y' (.slice a' n' c') (callsV V (k + 1)) W12 (ClR.of_row HS2.out.row rfl) (by omega)
        rw [HWD.out] at hWd
        have HWC := Lib.hid hWd
        clear hWd
        go_wp2_with fail
        refine HWC.out.mono ?_
        rintro e W13 ⟨rfl, hb⟩
        have HS3 := Lib.hid (HS2.out.on hb)
        clear hb HWC HS2 h10 h11 h12 h13 h14 h20 h21 h22 h23 h24
        go_wp2_with fail
        go_roundw
        case rel => exact ⟨k + 1, by omega, by go_num, by rw [HWN.out.2], HS3.out⟩
        case measure => simp [intOf]; omega
      · have hd : decide (k < m) = false := decide_eq_false hlt
        go_wp2_with fail
        refine (lives40 _).mono ?_
        rintro e wz ⟨rfl, hbz⟩
        go_wp2_with fail
        go_ret
        exact ⟨rfl, hS.out.cfs.base.trans (hbz.mono hS.out.cfs.base.size)⟩
end Go.Proofs.Yteoeelhljimibaa
