/- Scripts: what says commands (Print). -/
import Derived.Test.YtcmogfdbjppdeaaScPrint
namespace Go.Proofs.Ytcmogfdbjppdeaa
open Go.RowKit
set_option linter.unusedVariables false

theorem sayAll_take {cs : List Cm} {k : Nat} {x : Cm} (hx : cs[k]? = some x) : sayAll (cs.take (k + 1)) = sayAll (cs.take k) ++ say x := by
  rw [List.take_add_one, hx]
  exact sayAll_snoc _ _
theorem sayAll_le (cs : List Cm) (k : Nat) : (sayAll (cs.take k)).length ≤ (sayAll cs).length := by
  have : sayAll cs = sayAll (cs.take k) ++ sayAll (cs.drop k) := by simp [sayAll, ← List.flatMap_append]
  rw [this, List.length_append]; omega
theorem rd_new1 (W : World) (e : TypeId) (a : UInt8) (z : Int) (h : z = a.toNat) : Rd (W.alloc (Obj.cells #[.int .u8 z] e)) (W.heap.size + 1) (some ⟨W.heap.size, 0, none⟩) [a] := fun h0 => ⟨W.heap.size, 0, rfl, by omega, fun j hj => by
    have : j = 0 := by simp at hj; omega
    subst this
    simp [h]⟩
theorem rd_new2 (W : World) (e : TypeId) (a b : UInt8) (z y : Int) (h : z = a.toNat) (h' : y = b.toNat) : Rd (W.alloc (Obj.cells #[.int .u8 z, .int .u8 y] e)) (W.heap.size + 1) (some ⟨W.heap.size, 0, none⟩) [a, b] := fun h0 => ⟨W.heap.size, 0, rfl, by omega, fun j hj => by
    have : j = 0 ∨ j = 1 := by simp at hj; omega
    rcases this with rfl | rfl <;> simp [h, h']⟩
/-- What a print hands back. -/
def PrintTo (w : World) (cs : List Cm) (e : Ending) (w' : World) : Prop :=
  ((cs.all mayC = true ∧ ∃ v, e = .returned (.tuple #[v, .bool true]) ∧ Own w' w.heap.size 5 v (sayAll cs)) ∨ (cs.all mayC = false ∧ e = .returned (.tuple #[.slice none 0 0, .bool false]))) ∧ Below w.heap.size w w'
theorem may_parts {k c : Int} {bs : List UInt8} (h : mayC (k, c, bs) = true) : 0 ≤ c ∧ c < 64 ∧ ((k = 0 ∧ bs.length ≤ 255) ∨ (k = 1 ∧ bs = []) ∨ (k = 2 ∧ bs = [] ∧ c = 0)) := by
  unfold mayC at h
  simp only [Bool.and_eq_true, Bool.or_eq_true, decide_eq_true_eq, beq_iff_eq, List.isEmpty_iff] at h
  exact h
/-- Behind an append to what is said so far. -/
theorem said_grown {w w1 w2 : World} {B n : Nat} {v : Value} {xs : List Value} (hnx : Below B w w1) (hB : B ≤ w1.heap.size) (hown : w1.ownsRow B 5 1 v n xs) (hg : w1.grownBy w2 v.ownBlock) : Below B w w2 :=
  hnx.grown hg hB fun k hk => (hown.lt k hk).1
theorem kept_cell {w1 w2 : World} {B n q : Nat} {v : Value} {xs : List Value} (hown : w1.ownsRow B 5 1 v n xs) (hg : w1.grownBy w2 v.ownBlock) {x y z : Value} (hb : w1.heap[q]? = some (Obj.cells #[x, y, z] 31 (0, 0))) : w2.heap[q]? = some (Obj.cells #[x, y, z] 31 (0, 0)) := by
  refine (hg.block q (blk_lt hb) fun e => ?_).trans hb
  rcases hown.2 with ⟨rfl, _⟩ | ⟨g', cap, cur', rfl, _, hh, _⟩
  · simp [Value.ownBlock] at e
  · have : q = g' := by simpa [Value.ownBlock] using e
    subst this
    rw [hh] at hb
    injection hb with hb
    injection hb with _ hb
    exact absurd hb (by decide)
theorem box3 {W : World} {q : Nat} {x y z : Value} {t : TypeId} (h : W.heap[q]? = some (Obj.cells #[x, y, z] t (0, 0))) : W.cell? ⟨q, 0, none⟩ = some x ∧ W.cell? ⟨q, 1, none⟩ = some y ∧ W.cell? ⟨q, 2, none⟩ = some z :=
  ⟨by simp [World.cell?, h], by simp [World.cell?, h], by simp [World.cell?, h]⟩
/-- Behind a call that makes memory alone: the box, what is said, and what was there. -/
theorem pr_call {w wr w0 w1 : World} {B q n : Nat} {v : Value} {xs : List Value} {x y z : Value} {t : TypeId} (hbk : w0.heap[wr.heap.size]? = some (Obj.cells #[x, y, z] t (0, 0))) (hbn : Below B w w0) (hbw : Below wr.heap.size wr w0) (hown : w0.ownsRow B 5 1 v n xs) (hsB : B ≤ wr.heap.size) (hb1 : Below w0.heap.size w0 w1) (hq : wr.heap.size = q) :
    w1.heap[q]? = some (Obj.cells #[x, y, z] t (0, 0)) ∧ Below B w w1 ∧ Below q wr w1 ∧ w1.ownsRow B 5 1 v n xs ∧ B ≤ w1.heap.size ∧ q < w1.heap.size := by
  subst hq
  have hlt := blk_lt hbk
  have h1 := hb1.size
  exact ⟨(hb1.block _ hlt).trans hbk, hbn.trans (hb1.mono (by have := hbw.size; omega)), hbw.trans (hb1.mono hbw.size), Keeps.ownsRow (S := fun _ => False) hown (Keeps.of_new hb1) (fun g hg => id), by omega, by omega⟩
theorem pr_app {w wr w1 w2 : World} {B q n : Nat} {v : Value} {xs : List Value} {x y z : Value} {o : Obj} (hown : w1.ownsRow B 5 1 v n xs) (hg : (w1.alloc o).grownBy w2 v.ownBlock) (z1 : w1.heap[q]? = some (Obj.cells #[x, y, z] 31 (0, 0))) (z2 : Below B w w1) (z3 : Below B wr w1) (z5 : B ≤ w1.heap.size) :
    w2.heap[q]? = some (Obj.cells #[x, y, z] 31 (0, 0)) ∧ Below B w w2 ∧ Below B wr w2 ∧ B ≤ w2.heap.size := by
  have ho : (w1.alloc o).ownsRow B 5 1 v n xs := hown.alloc _
  have hb := (Below.refl B w1).alloc z5 o
  have hb2 : Below B w1 w2 := said_grown hb (by simp; omega) ho hg
  exact ⟨kept_cell ho hg ((Below.heap_alloc w1 o q (blk_lt z1)).trans z1), z2.trans hb2, z3.trans hb2, Nat.le_trans z5 hb2.size⟩
theorem byte_of {c : Int} (h0 : 0 ≤ c) (h1 : c < 256) : c = ((UInt8.ofNat c.toNat).toNat : Int) := by rw [ofNat_toNat _ (by omega)]; omega
theorem nat_byte {n : Nat} (h1 : n ≤ 255) : (n : Int) = ((UInt8.ofNat n).toNat : Int) := by rw [ofNat_toNat _ (by omega)]
theorem print_none (A : Option Addr) (c : Nat) (w : World) : Calls Try.prog 13 #[.slice A 0 c] w (PrintTo w []) := by
  have fin : PrintTo w [] (.returned (.tuple #[.slice none 0 0, .bool true])) w := ⟨.inl ⟨rfl, _, rfl, .inl ⟨rfl, rfl⟩⟩, Below.refl _ _⟩
  have FIN := Lib.hid fin
  clear fin
  go_enter Try.func13, Try.ntmps13
  go_wp2_with fail
  refine wp_loop_rounds 1 ?_
  rw [rounds_succ]
  go_wp2_with fail
  refine (clipb none 0 0 _ (by omega) (by simp [maxLen]) (fun _ => ⟨rfl, rfl⟩)).mono ?_
  rintro e w1 ⟨rfl, rfl⟩
  go_wp2_with fail
  go_ret2
  exact FIN.out
set_option maxHeartbeats 4000000 in
set_option maxRecDepth 100000 in
theorem print_some (g off c : Nat) (cs : List Cm) (w : World) (hn : cs.length ≤ 1048576) (hS : (sayAll cs).length ≤ 1000000) (hkd : ∀ x ∈ cs, 0 ≤ x.1 ∧ x.1 ≤ 255) (hc : cs.length ≤ c) (hcm : c ≤ maxLen) (h : RdC w w.heap.size .u8 (some ⟨g, off, none⟩) cs) :
    Calls Try.prog 13 #[.slice (some ⟨g, off, none⟩) cs.length c] w (PrintTo w cs) := by
  unfold maxLen at hcm
  obtain ⟨n, hnn⟩ : ∃ n, n = cs.length := ⟨_, rfl⟩
  obtain ⟨B, hB⟩ : ∃ B, B = w.heap.size := ⟨_, rfl⟩
  have HA := Lib.hid (fun i x hx => h.at_ i x hx)
  have HK := Lib.hid hkd
  rw [← hnn] at hn hc ⊢
  have HN := Lib.hid hnn
  have HB := Lib.hid hB
  clear h hnn hkd hB
  go_enter Try.func13, Try.ntmps13
  go_wp2_with fail
  go_loopw [4, 9] (fun v i wr => ∃ k : Nat, k ≤ n ∧ i = .int .i64 k ∧ Hid (∀ x ∈ cs.take k, mayC x = true) ∧ wr.ownsRow B 5 1 v (sayAll (cs.take k)).length (byv (sayAll (cs.take k))) ∧ Hid (sayAll (cs.take k) = [] → v = .slice none 0 0) ∧ Below B w wr) (fun _ i _ => n - (intOf i).toNat)
  case atStart => exact ⟨0, by omega, rfl, fun x h => by simp at h, World.ownsRow_nil _ _ _ _, fun _ => rfl, Below.refl _ _⟩
  case round =>
    obtain ⟨k, hk, rfl, hall, hown, hnil, hnx⟩ := hrel
    by_cases hlt : k < n
    · obtain ⟨x, hx⟩ : ∃ x, cs[k]? = some x := ⟨_, List.getElem?_eq_getElem (by have := HN.out; omega)⟩
      obtain ⟨g1, a0, a1, ab, cb, a2, l1, l2, r1, r2⟩ := (HA.out k x hx).keep (fun q o hq => hnx.cell (p := ⟨q, o, none⟩) (by rw [HB.out]; exact hq))
      have hkx := HK.out x (List.mem_of_getElem? hx)
      have hT := Lib.hid (sayAll_take hx)
      have hTl : (sayAll (cs.take k)).length + (say x).length ≤ 1000000 := by
        have h1 := sayAll_le cs (k + 1)
        rw [hT.out, List.length_append] at h1
        omega
      have HALL : Hid (mayC x = true → ∀ y ∈ cs.take (k + 1), mayC y = true) := by
        intro h y hy
        rw [List.take_add_one, hx] at hy
        rcases List.mem_append.mp hy with h1 | h1
        · exact hall.out y h1
        · simp at h1; subst h1; exact h
      have HNO : Hid (mayC x = false → cs.all mayC = false) := by
        intro h
        rw [List.all_eq_false]
        exact ⟨x, List.mem_of_getElem? hx, by simp [h]⟩
      obtain ⟨L, hL⟩ : ∃ L, L = sayAll (cs.take k) := ⟨_, rfl⟩
      rw [← hL] at hown hTl
      have HT : Hid (sayAll (cs.take (k + 1)) = L ++ say x) := by show _ = _; rw [hT.out, hL]
      have HNIL : Hid (L = [] → u4 = .slice none 0 0) := by rw [hL]; exact hnil
      have hs := hnx.size
      have hsB : B ≤ wr.heap.size := by have := HB.out; omega
      have hgB : g < wr.heap.size := by omega
      have l2' := l2
      unfold maxLen at l2'
      have R1 := Lib.hid r1
      have R2 := Lib.hid r2
      have HTL := Lib.hid hTl
      clear hx hL hT hnil hall r1 r2 hTl
      obtain ⟨kk, cn, bs⟩ := x
      simp only at a0 a1 a2 hkx l1
      have hbk := heap_alloc_new wr (Obj.cells #[.int .u8 kk, .int .i64 cn, .slice ab bs.length cb] 31)
      have hbn : Below B w (wr.alloc (Obj.cells #[.int .u8 kk, .int .i64 cn, .slice ab bs.length cb] 31)) := hnx.alloc hsB _
      have hbw : Below wr.heap.size wr (wr.alloc (Obj.cells #[.int .u8 kk, .int .i64 cn, .slice ab bs.length cb] 31)) := (Below.refl _ _).alloc (Nat.le_refl _) _
      have hown1 : (wr.alloc (Obj.cells #[.int .u8 kk, .int .i64 cn, .slice ab bs.length cb] 31)).ownsRow B 5 1 u4 L.length (byv L) := hown.alloc _
      have HBK := Lib.hid hbk
      have HBN := Lib.hid hbn
      have HBW := Lib.hid hbw
      have HOWN1 := Lib.hid hown1
      obtain ⟨q, hq⟩ : ∃ q, q = wr.heap.size := ⟨_, rfl⟩
      clear hbk hbn hbw hown1 hown
      by_cases hm : mayC (kk, cn, bs) = true
      · obtain ⟨c0, c1, hway⟩ := may_parts hm
        go_wp2_with fail
        refine (maysaid (kk, cn, bs) ab cb _ l1 l2 hkx).mono ?_
        rintro e w1 ⟨rfl, hb1⟩
        rw [hm]
        obtain ⟨z1, z2, z3, z4, z5, z6⟩ := pr_call HBK.out HBN.out HBW.out HOWN1.out hsB hb1 hq.symm
        obtain ⟨f0, f1, f2⟩ := box3 z1
        clear hb1 HBK HBN HBW HOWN1
        rw [← hq]
        have z3' : Below B wr w1 := z3.mono (by omega)
        have hcb := byte_of c0 (by omega)
        have hTl := HTL.out
        have HM := Lib.hid hm
        clear hq z3 hm hkx
        rcases hway with ⟨rfl, hl⟩ | ⟨rfl, rfl⟩ | ⟨rfl, rfl, rfl⟩
        · have hnb := nat_byte hl
          have hsl : L.length + 2 + bs.length ≤ 1000000 := by simp [say] at hTl; omega
          have y1 : IntKind.u8.wrap cn = cn := by unfold IntKind.wrap; simp [IntKind.bits, IntKind.signed]; omega
          have HCB := Lib.hid hcb
          have HNB := Lib.hid hnb
          have HSL := Lib.hid hsl
          clear hcb hnb hTl hsl
          go_wp2_with (first
            | (at_builtin; refine wpList_append_by _ rfl (.tmp 20) (.tmp 28) 22 rfl B 5 Try.underlying22 info_u8 u4 L rfl (z4.alloc _) (w1.heap.size + 1) (some ⟨w1.heap.size, 0, none⟩) [UInt8.ofNat cn.toNat, UInt8.ofNat bs.length] 2 rfl (rd_new2 w1 _ _ _ _ _ HCB.out HNB.out) (by simp) (by have := HSL.out; simp; omega) (by simp; omega) ?_; intro v2 w2 hown2 hg2 hn2; obtain ⟨p1, p2, p3, p5⟩ := pr_app z4 hg2 z1 z2 z3' z5; obtain ⟨j0, j1, j2⟩ := box3 p1)
            | (at_builtin; refine wpList_append_by _ rfl (.tmp 30) (.tmp 32) 22 rfl B 5 Try.underlying22 info_u8 v2 _ rfl hown2 w.heap.size ab bs cb rfl (R1.out.below p3 (by rw [HB.out]; omega)) R2.out (by have := HSL.out; simp; omega) p5 ?_; intro v3 w3 hown3 hg3 hn3))
          have R3 := said_grown p2 p5 hown2 hg3
          have hF : (L ++ [UInt8.ofNat cn.toNat, UInt8.ofNat bs.length]) ++ bs = L ++ say (0, cn, bs) := by simp [say]
          rw [hF] at hown3
          clear hg2 hg3 hn2 hown2 hF p1 p2 p3 z1 z2 z3' z4 j0 j1 j2 f0 f1 f2
          go_roundw
          case rel => exact ⟨k + 1, by omega, by go_num, HALL.out HM.out, by rw [HT.out]; exact hown3, fun h => absurd h (by rw [HT.out]; simp [say]), R3⟩
          case measure => simp [intOf]; omega
        · have hsl : L.length + 1 ≤ 1000000 := by simp [say] at hTl; omega
          have hcb2 := byte_of (c := 64 + cn) (by omega) (by omega)
          have hto : (64 + cn).toNat = 64 + cn.toNat := by omega
          rw [hto] at hcb2
          have y1 : IntKind.u8.wrap (64 + cn) = 64 + cn := by unfold IntKind.wrap; simp [IntKind.bits, IntKind.signed]; omega
          have HCB := Lib.hid hcb2
          have HSL := Lib.hid hsl
          clear hcb hcb2 hTl hsl hto
          go_wp2_with (first
            | (at_builtin; refine wpList_append_by _ rfl (.tmp 36) (.tmp 41) 22 rfl B 5 Try.underlying22 info_u8 u4 L rfl (z4.alloc _) (w1.heap.size + 1) (some ⟨w1.heap.size, 0, none⟩) [UInt8.ofNat (64 + cn.toNat)] 1 rfl (rd_new1 w1 _ _ _ HCB.out) (by simp) (by have := HSL.out; simp; omega) (by simp; omega) ?_; intro v2 w2 hown2 hg2 hn2; obtain ⟨p1, p2, p3, p5⟩ := pr_app z4 hg2 z1 z2 z3' z5))
          have hF : L ++ [UInt8.ofNat (64 + cn.toNat)] = L ++ say (1, cn, []) := by simp [say]
          rw [hF] at hown2
          clear hg2 hn2 hF p1 p3 p5 z1 z2 z3' z4 f0 f1 f2
          go_roundw
          case rel => exact ⟨k + 1, by omega, by go_num, HALL.out HM.out, by rw [HT.out]; exact hown2, fun h => absurd h (by rw [HT.out]; simp [say]), p2⟩
          case measure => simp [intOf]; omega
        · have hsl : L.length + 1 ≤ 1000000 := by simp [say] at hTl; omega
          have HSL := Lib.hid hsl
          clear hcb hTl hsl
          go_wp2_with (first
            | (at_builtin; refine wpList_append_by _ rfl (.tmp 45) (.tmp 46) 22 rfl B 5 Try.underlying22 info_u8 u4 L rfl (z4.alloc _) (w1.heap.size + 1) (some ⟨w1.heap.size, 0, none⟩) [192] 1 rfl (rd_new1 w1 _ 192 192 rfl) (by simp) (by have := HSL.out; simp; omega) (by simp; omega) ?_; intro v2 w2 hown2 hg2 hn2; obtain ⟨p1, p2, p3, p5⟩ := pr_app z4 hg2 z1 z2 z3' z5))
          have hF : L ++ [192] = L ++ say (2, 0, []) := by simp [say]
          rw [hF] at hown2
          clear hg2 hn2 hF p1 p3 p5 z1 z2 z3' z4 f0 f1 f2
          go_roundw
          case rel => exact ⟨k + 1, by omega, by go_num, HALL.out HM.out, by rw [HT.out]; exact hown2, fun h => absurd h (by rw [HT.out]; simp [say]), p2⟩
          case measure => simp [intOf]; omega
      · have hm' : mayC (kk, cn, bs) = false := by simpa using hm
        go_wp2_with fail
        refine (maysaid (kk, cn, bs) ab cb _ l1 l2 hkx).mono ?_
        rintro e w1 ⟨rfl, hb1⟩
        rw [hm']
        have h0 := hb1.mono (B' := B) (by have := HBW.out.size; omega)
        have HR := Lib.hid (HBN.out.trans h0)
        have HNN := Lib.hid (HNO.out hm')
        clear hb1 h0 HBK HBN HBW HOWN1 hm hm'
        go_wp2_with fail
        go_ret2
        exact ⟨.inr ⟨HNN.out, rfl⟩, HB.out ▸ HR.out⟩
    · have hE : k = n := by omega
      have htk : cs.take k = cs := List.take_of_length_le (by have := HN.out; omega)
      rw [htk] at hown hnil hall
      have hd : decide (k < n) = false := decide_eq_false hlt
      obtain ⟨a', c', rfl, hn', hm', h0', hO, hO2⟩ := Own.of_row hown hnil.out
      have HAll : cs.all mayC = true := by rw [List.all_eq_true]; exact hall.out
      have HAL := Lib.hid HAll
      clear hown hE htk hnil hall HAll
      go_wp2_with fail
      refine (clipb a' _ c' _ hn' hm' (fun e => ⟨by have := h0' e; omega, h0' e⟩)).mono ?_
      rintro e w1 ⟨rfl, rfl⟩
      go_wp2_with fail
      go_ret2
      exact ⟨.inl ⟨HAL.out, _, rfl, HB.out ▸ hO⟩, HB.out ▸ hnx⟩
end Go.Proofs.Ytcmogfdbjppdeaa
