/- Scripts: what says commands (Print). -/
import Derived.Test.YtcmogfdbjppdeaaScPr
import Derived.Deep.Cut
import Derived.Deep.CutBlock
namespace Go.Proofs.Ytcmogfdbjppdeaa
open Go.RowKit
set_option linter.unusedVariables false

theorem kept_cellR {w1 w2 : World} {B n q : Nat} {v : Value} {xs : List Value} (hown : w1.ownsRow B 5 1 v n xs) (hg : w1.grownBy w2 v.ownBlock) {x y z : Value} (hb : w1.heap[q]? = some (Obj.cells #[x, y, z] 42 (0, 0))) : w2.heap[q]? = some (Obj.cells #[x, y, z] 42 (0, 0)) := by
  refine (hg.block q (blk_lt hb) fun e => ?_).trans hb
  rcases hown.2 with ⟨rfl, _⟩ | ⟨g', cap, cur', rfl, _, hh, _⟩
  · simp [Value.ownBlock] at e
  · have : q = g' := by simpa [Value.ownBlock] using e
    subst this
    rw [hh] at hb
    injection hb with hb
    injection hb with _ hb
    exact absurd hb (by decide)
theorem pr_appR {w wr w1 w2 : World} {B q n : Nat} {v : Value} {xs : List Value} {x y z : Value} {o : Obj} (hown : w1.ownsRow B 5 1 v n xs) (hg : (w1.alloc o).grownBy w2 v.ownBlock) (z1 : w1.heap[q]? = some (Obj.cells #[x, y, z] 42 (0, 0))) (z2 : Below B w w1) (z3 : Below B wr w1) (z5 : B ≤ w1.heap.size) :
    w2.heap[q]? = some (Obj.cells #[x, y, z] 42 (0, 0)) ∧ Below B w w2 ∧ Below B wr w2 ∧ B ≤ w2.heap.size := by
  have ho : (w1.alloc o).ownsRow B 5 1 v n xs := hown.alloc _
  have hb := (Below.refl B w1).alloc z5 o
  have hb2 : Below B w1 w2 := said_grown hb (by simp; omega) ho hg
  exact ⟨kept_cellR ho hg ((Below.heap_alloc w1 o q (blk_lt z1)).trans z1), z2.trans hb2, z3.trans hb2, Nat.le_trans z5 hb2.size⟩
theorem may_not {k c : Int} {bs : List UInt8} {n : Nat} (h : mayC (k, c, bs) = false) (hn : n = bs.length) : (k = 0 → 0 ≤ c → c < 64 → ¬ n ≤ 255) ∧ (k = 1 → 0 ≤ c → c < 64 → ¬ n = 0) ∧ (k = 2 → c = 0 → ¬ n = 0) := by
  subst hn
  unfold mayC at h
  refine ⟨fun hk h0 h1 h2 => ?_, fun hk h0 h1 h2 => ?_, fun hk h0 h2 => ?_⟩
  · simp [hk, h0, h1, h2] at h
  · have := List.eq_nil_of_length_eq_zero h2
    simp [hk, h0, h1, this] at h
  · have := List.eq_nil_of_length_eq_zero h2
    simp [hk, h0, this] at h
theorem print_noneR (A : Option Addr) (c : Nat) (w : World) : Calls Try.prog 14 #[.slice A 0 c] w (PrintTo w []) := by
  have fin : PrintTo w [] (.returned (.tuple #[.slice none 0 0, .bool true])) w := ⟨.inl ⟨rfl, _, rfl, .inl ⟨rfl, rfl⟩⟩, Below.refl _ _⟩
  have FIN := Lib.hid fin
  clear fin
  go_enter Try.func14, Try.ntmps14
  go_wp2_with fail
  refine wp_loop_rounds 1 ?_
  rw [rounds_succ]
  go_wp2_with fail
  go_ret2
  exact FIN.out
set_option maxHeartbeats 4000000 in
set_option maxRecDepth 100000 in
theorem print_someR (g off c : Nat) (cs : List Cm) (w : World) (hn : cs.length ≤ 1048576) (hS : (sayAll cs).length ≤ 1000000) (hkd : ∀ x ∈ cs, 0 ≤ x.1 ∧ x.1 ≤ 255) (hc : cs.length ≤ c) (hcm : c ≤ maxLen) (h : RdC w w.heap.size .i64 (some ⟨g, off, none⟩) cs) :
    Calls Try.prog 14 #[.slice (some ⟨g, off, none⟩) cs.length c] w (PrintTo w cs) := by
  unfold maxLen at hcm
  obtain ⟨n, hnn⟩ : ∃ n, n = cs.length := ⟨_, rfl⟩
  obtain ⟨B, hB⟩ : ∃ B, B = w.heap.size := ⟨_, rfl⟩
  have HA := Lib.hid (fun i x hx => h.at_ i x hx)
  have HK := Lib.hid hkd
  rw [← hnn] at hn hc ⊢
  have HN := Lib.hid hnn
  have HB := Lib.hid hB
  clear h hnn hkd hB
  go_enter Try.func14, Try.ntmps14
  go_wp2_with fail
  go_loopw [4, 5] (fun v i wr => ∃ k : Nat, k ≤ n ∧ i = .int .i64 k ∧ Hid (∀ x ∈ cs.take k, mayC x = true) ∧ wr.ownsRow B 5 1 v (sayAll (cs.take k)).length (byv (sayAll (cs.take k))) ∧ Hid (sayAll (cs.take k) = [] → v = .slice none 0 0) ∧ Below B w wr) (fun _ i _ => n - (intOf i).toNat)
  case atStart => exact ⟨0, by omega, rfl, fun x h => by simp at h, World.ownsRow_nil _ _ _ _, fun _ => rfl, Below.refl _ _⟩
  case round =>
    obtain ⟨k, hk, rfl, hall, hown, hnil, hnx⟩ := hrel
    by_cases hlt : k < n
    · obtain ⟨x, hx⟩ : ∃ x, cs[k]? = some x := ⟨_, List.getElem?_eq_getElem (by have := HN.out; omega)⟩
      obtain ⟨g1, a0, a1, ab, cb, a2, l1, l2, r1, r2⟩ := (HA.out k x hx).keep (fun q o hq => hnx.cell (p := ⟨q, o, none⟩) (by rw [HB.out]; exact hq))
      have hkx := HK.out x (List.mem_of_getElem? hx)
      have hT := Lib.hid (sayAll_take hx)
      have hTl : (sayAll (cs.take k)).length + (say x).length ≤ 1000000 := by
        have h1 := sayAll_le cs (k + 1)
        rw [hT.out, List.length_append] at h1
        omega
      have HALL : Hid (mayC x = true → ∀ y ∈ cs.take (k + 1), mayC y = true) := by
        intro h y hy
        rw [List.take_add_one, hx] at hy
        rcases List.mem_append.mp hy with h1 | h1
        · exact hall.out y h1
        · simp at h1; subst h1; exact h
      have HNO : Hid (mayC x = false → cs.all mayC = false) := by
        intro h
        rw [List.all_eq_false]
        exact ⟨x, List.mem_of_getElem? hx, by simp [h]⟩
      obtain ⟨L, hL⟩ : ∃ L, L = sayAll (cs.take k) := ⟨_, rfl⟩
      rw [← hL] at hown hTl
      have HT : Hid (sayAll (cs.take (k + 1)) = L ++ say x) := by show _ = _; rw [hT.out, hL]
      have HNIL : Hid (L = [] → u4 = .slice none 0 0) := by rw [hL]; exact hnil
      have hs := hnx.size
      have hsB : B ≤ wr.heap.size := by have := HB.out; omega
      have hgB : g < wr.heap.size := by omega
      have l2' := l2
      unfold maxLen at l2'
      have R1 := Lib.hid r1
      have R2 := Lib.hid r2
      have HTL := Lib.hid hTl
      clear hx hL hT hnil hall r1 r2 hTl
      obtain ⟨kk, cn, bs⟩ := x
      simp only at a0 a1 a2 hkx l1
      have hbk := heap_alloc_new wr (Obj.cells #[.int .i64 kk, .int .i64 cn, .slice ab bs.length cb] 42)
      have hbn : Below B w (wr.alloc (Obj.cells #[.int .i64 kk, .int .i64 cn, .slice ab bs.length cb] 42)) := hnx.alloc hsB _
      have hbw : Below wr.heap.size wr (wr.alloc (Obj.cells #[.int .i64 kk, .int .i64 cn, .slice ab bs.length cb] 42)) := (Below.refl _ _).alloc (Nat.le_refl _) _
      have hown1 : (wr.alloc (Obj.cells #[.int .i64 kk, .int .i64 cn, .slice ab bs.length cb] 42)).ownsRow B 5 1 u4 L.length (byv L) := hown.alloc _
      have HBK := Lib.hid hbk
      have HBN := Lib.hid hbn
      have HBW := Lib.hid hbw
      have HOWN1 := Lib.hid hown1
      obtain ⟨q, hq⟩ : ∃ q, q = wr.heap.size := ⟨_, rfl⟩
      clear hbk hbn hbw hown1 hown
      by_cases hm : mayC (kk, cn, bs) = true
      · obtain ⟨c0, c1, hway⟩ := may_parts hm
        have hm0 := hm
        clear hm
        rcases hway with ⟨rfl, hl⟩ | ⟨rfl, rfl⟩ | ⟨rfl, rfl, rfl⟩
        · have hd1 : decide (0 ≤ cn) = true := decide_eq_true c0
          have hd2 : decide (cn ≤ 63) = true := decide_eq_true (by omega)
          have hd3 : decide ((bs.length : Int) ≤ 255) = true := decide_eq_true (by omega)
          have HM := Lib.hid hm0
          clear hm0
          go_upto_region 9 with (fail)
          have hbk := HBK.out
          have hbn := HBN.out
          have hbw := HBW.out
          have hown1 := HOWN1.out
          generalize hW1 : wr.alloc (Obj.cells #[Value.int IntKind.i64 0, Value.int IntKind.i64 cn, Value.slice ab (bs).length cb] 42) = w1 at hbk hbn hbw hown1 ⊢
          obtain ⟨z1, z2, z3, z4, z5, z6⟩ := pr_call hbk hbn hbw hown1 hsB (Below.refl _ _) hq.symm
          obtain ⟨f0, f1, f2⟩ := box3 z1
          rw [← hq]
          have z3' : Below B wr w1 := z3.mono (by omega)
          clear hbk hbn hbw hown1 hW1 HBK HBN HBW HOWN1 hq z3 hkx
          have hcb := byte_of c0 (by omega)
          have hTl := HTL.out
          have hnb := nat_byte hl
          have hsl : L.length + 2 + bs.length ≤ 1000000 := by simp [say] at hTl; omega
          have y1 : IntKind.u8.wrap cn = cn := by unfold IntKind.wrap; simp [IntKind.bits, IntKind.signed]; omega
          have HCB := Lib.hid hcb
          have HNB := Lib.hid hnb
          have HSL := Lib.hid hsl
          clear hcb hnb hTl hsl
          go_wp2_with (first
            | (at_builtin; refine wpList_append_by _ rfl (.tmp 39) (.tmp 45) 22 rfl B 5 Try.underlying22 info_u8 u4 L rfl (z4.alloc _) (w1.heap.size + 1) (some ⟨w1.heap.size, 0, none⟩) [UInt8.ofNat cn.toNat, UInt8.ofNat bs.length] 2 rfl (rd_new2 w1 _ _ _ _ _ HCB.out HNB.out) (by simp) (by have := HSL.out; simp; omega) (by simp; omega) ?_; intro v2 w2 hown2 hg2 hn2; obtain ⟨p1, p2, p3, p5⟩ := pr_appR z4 hg2 z1 z2 z3' z5; obtain ⟨j0, j1, j2⟩ := box3 p1)
            | (at_builtin; refine wpList_append_by _ rfl (.tmp 47) (.tmp 49) 22 rfl B 5 Try.underlying22 info_u8 v2 _ rfl hown2 w.heap.size ab bs cb rfl (R1.out.below p3 (by rw [HB.out]; omega)) R2.out (by have := HSL.out; simp; omega) p5 ?_; intro v3 w3 hown3 hg3 hn3))
          have R3 := said_grown p2 p5 hown2 hg3
          have hF : (L ++ [UInt8.ofNat cn.toNat, UInt8.ofNat bs.length]) ++ bs = L ++ say (0, cn, bs) := by simp [say]
          rw [hF] at hown3
          clear hg2 hg3 hn2 hown2 hF p1 p2 p3 z1 z2 z3' z4 j0 j1 j2 f0 f1 f2
          go_roundw
          case rel => exact ⟨k + 1, by omega, by go_num, HALL.out HM.out, by rw [HT.out]; exact hown3, fun h => absurd h (by rw [HT.out]; simp [say]), R3⟩
          case measure => simp [intOf]; omega
        · have hd1 : decide (0 ≤ cn) = true := decide_eq_true c0
          have hd2 : decide (cn ≤ 63) = true := decide_eq_true (by omega)
          have HM := Lib.hid hm0
          clear hm0
          go_upto_region 12 with (fail)
          have hbk := HBK.out
          have hbn := HBN.out
          have hbw := HBW.out
          have hown1 := HOWN1.out
          generalize hW1 : wr.alloc (Obj.cells #[Value.int IntKind.i64 1, Value.int IntKind.i64 cn, Value.slice ab (([] : List UInt8)).length cb] 42) = w1 at hbk hbn hbw hown1 ⊢
          obtain ⟨z1, z2, z3, z4, z5, z6⟩ := pr_call hbk hbn hbw hown1 hsB (Below.refl _ _) hq.symm
          obtain ⟨f0, f1, f2⟩ := box3 z1
          rw [← hq]
          have z3' : Below B wr w1 := z3.mono (by omega)
          clear hbk hbn hbw hown1 hW1 HBK HBN HBW HOWN1 hq z3 hkx
          have hTl := HTL.out
          have hsl : L.length + 1 ≤ 1000000 := by simp [say] at hTl; omega
          have hcb2 := byte_of (c := 64 + cn) (by omega) (by omega)
          have hto : (64 + cn).toNat = 64 + cn.toNat := by omega
          rw [hto] at hcb2
          have y1 : IntKind.u8.wrap (64 + cn) = 64 + cn := by unfold IntKind.wrap; simp [IntKind.bits, IntKind.signed]; omega
          have HCB := Lib.hid hcb2
          have HSL := Lib.hid hsl
          clear hcb2 hTl hsl hto
          go_wp2_with (first
            | (at_builtin; refine wpList_append_by _ rfl (.tmp 69) (.tmp 74) 22 rfl B 5 Try.underlying22 info_u8 u4 L rfl (z4.alloc _) (w1.heap.size + 1) (some ⟨w1.heap.size, 0, none⟩) [UInt8.ofNat (64 + cn.toNat)] 1 rfl (rd_new1 w1 _ _ _ HCB.out) (by simp) (by have := HSL.out; simp; omega) (by simp; omega) ?_; intro v2 w2 hown2 hg2 hn2; obtain ⟨p1, p2, p3, p5⟩ := pr_appR z4 hg2 z1 z2 z3' z5))
          have hF : L ++ [UInt8.ofNat (64 + cn.toNat)] = L ++ say (1, cn, []) := by simp [say]
          rw [hF] at hown2
          clear hg2 hn2 hF p1 p3 p5 z1 z2 z3' z4 f0 f1 f2
          go_roundw
          case rel => exact ⟨k + 1, by omega, by go_num, HALL.out HM.out, by rw [HT.out]; exact hown2, fun h => absurd h (by rw [HT.out]; simp [say]), p2⟩
          case measure => simp [intOf]; omega
        · have HM := Lib.hid hm0
          clear hm0
          go_upto_region 14 with (fail)
          have hbk := HBK.out
          have hbn := HBN.out
          have hbw := HBW.out
          have hown1 := HOWN1.out
          generalize hW1 : wr.alloc (Obj.cells #[Value.int IntKind.i64 2, Value.int IntKind.i64 0, Value.slice ab (([] : List UInt8)).length cb] 42) = w1 at hbk hbn hbw hown1 ⊢
          obtain ⟨z1, z2, z3, z4, z5, z6⟩ := pr_call hbk hbn hbw hown1 hsB (Below.refl _ _) hq.symm
          obtain ⟨f0, f1, f2⟩ := box3 z1
          rw [← hq]
          have z3' : Below B wr w1 := z3.mono (by omega)
          clear hbk hbn hbw hown1 hW1 HBK HBN HBW HOWN1 hq z3 hkx
          have hTl := HTL.out
          have hsl : L.length + 1 ≤ 1000000 := by simp [say] at hTl; omega
          have HSL := Lib.hid hsl
          clear hTl hsl
          go_wp2_with (first
            | (at_builtin; refine wpList_append_by _ rfl (.tmp 89) (.tmp 90) 22 rfl B 5 Try.underlying22 info_u8 u4 L rfl (z4.alloc _) (w1.heap.size + 1) (some ⟨w1.heap.size, 0, none⟩) [192] 1 rfl (rd_new1 w1 _ 192 192 rfl) (by simp) (by have := HSL.out; simp; omega) (by simp; omega) ?_; intro v2 w2 hown2 hg2 hn2; obtain ⟨p1, p2, p3, p5⟩ := pr_appR z4 hg2 z1 z2 z3' z5))
          have hF : L ++ [192] = L ++ say (2, 0, []) := by simp [say]
          rw [hF] at hown2
          clear hg2 hn2 hF p1 p3 p5 z1 z2 z3' z4 f0 f1 f2
          go_roundw
          case rel => exact ⟨k + 1, by omega, by go_num, HALL.out HM.out, by rw [HT.out]; exact hown2, fun h => absurd h (by rw [HT.out]; simp [say]), p2⟩
          case measure => simp [intOf]; omega
      · have hm' : mayC (kk, cn, bs) = false := by simpa using hm
        have HNN := Lib.hid (HNO.out hm')
        have HBN2 := Lib.hid HBN.out
        have hcs : (¬ 0 ≤ cn) ∨ (0 ≤ cn ∧ ¬ cn ≤ 63) ∨ (0 ≤ cn ∧ cn ≤ 63) := by omega
        have hks : kk = 0 ∨ kk = 1 ∨ kk = 2 ∨ 2 < kk := by omega
        obtain ⟨nb, hnb⟩ : ∃ nb, nb = bs.length := ⟨_, rfl⟩
        have HHM := Lib.hid (may_not hm' hnb)
        rw [← hnb] at l1 a2
        clear hm hm' HBK HBW HOWN1 hnb
        rcases hks with rfl | rfl | rfl | hk2
        · rcases hcs with h1 | ⟨h1, h2⟩ | ⟨h1, h2⟩
          · have hd1 : decide (0 ≤ cn) = false := decide_eq_false h1
            go_wp2_with fail
            go_ret2
            exact ⟨.inr ⟨HNN.out, rfl⟩, HB.out ▸ hnx.alloc hsB _⟩
          · have hd1 : decide (0 ≤ cn) = true := decide_eq_true h1
            have hd2 : decide (cn ≤ 63) = false := decide_eq_false h2
            go_wp2_with fail
            go_ret2
            exact ⟨.inr ⟨HNN.out, rfl⟩, HB.out ▸ hnx.alloc hsB _⟩
          · have hd1 : decide (0 ≤ cn) = true := decide_eq_true h1
            have hd2 : decide (cn ≤ 63) = true := decide_eq_true h2
            have hd3 : decide ((nb : Int) ≤ 255) = false := decide_eq_false (by have := HHM.out.1 rfl h1 (by omega); omega)
            go_wp2_with fail
            go_ret2
            exact ⟨.inr ⟨HNN.out, rfl⟩, HB.out ▸ hnx.alloc hsB _⟩
        · rcases hcs with h1 | ⟨h1, h2⟩ | ⟨h1, h2⟩
          · have hd1 : decide (0 ≤ cn) = false := decide_eq_false h1
            go_wp2_with fail
            go_ret2
            exact ⟨.inr ⟨HNN.out, rfl⟩, HB.out ▸ hnx.alloc hsB _⟩
          · have hd1 : decide (0 ≤ cn) = true := decide_eq_true h1
            have hd2 : decide (cn ≤ 63) = false := decide_eq_false h2
            go_wp2_with fail
            go_ret2
            exact ⟨.inr ⟨HNN.out, rfl⟩, HB.out ▸ hnx.alloc hsB _⟩
          · have hd1 : decide (0 ≤ cn) = true := decide_eq_true h1
            have hd2 : decide (cn ≤ 63) = true := decide_eq_true h2
            have hn0 : 0 < nb := by have := HHM.out.2.1 rfl h1 (by omega); omega
            have hd3 : ((nb : Int) == 0) = false := beq_eq_false_iff_ne.mpr (by omega)
            go_wp2_with fail
            go_ret2
            exact ⟨.inr ⟨HNN.out, rfl⟩, HB.out ▸ hnx.alloc hsB _⟩
        · by_cases h1 : cn = 0
          · subst h1
            have hn0 : 0 < nb := by have := HHM.out.2.2 rfl rfl; omega
            have hd3 : ((nb : Int) == 0) = false := beq_eq_false_iff_ne.mpr (by omega)
            go_wp2_with fail
            go_ret2
            exact ⟨.inr ⟨HNN.out, rfl⟩, HB.out ▸ hnx.alloc hsB _⟩
          · have hd3 : (cn == 0) = false := beq_eq_false_iff_ne.mpr h1
            go_wp2_with fail
            go_ret2
            exact ⟨.inr ⟨HNN.out, rfl⟩, HB.out ▸ hnx.alloc hsB _⟩
        · have e0 : (kk == 0) = false := beq_eq_false_iff_ne.mpr (by omega)
          have e1 : (kk == 1) = false := beq_eq_false_iff_ne.mpr (by omega)
          have e2 : (kk == 2) = false := beq_eq_false_iff_ne.mpr (by omega)
          go_wp2_with fail
          go_ret2
          exact ⟨.inr ⟨HNN.out, rfl⟩, HB.out ▸ hnx.alloc hsB _⟩
    · have hE : k = n := by omega
      have htk : cs.take k = cs := List.take_of_length_le (by have := HN.out; omega)
      rw [htk] at hown hnil hall
      have hd : decide (k < n) = false := decide_eq_false hlt
      obtain ⟨a', c', rfl, hn', hm', h0', hO, hO2⟩ := Own.of_row hown hnil.out
      have HAll : cs.all mayC = true := by rw [List.all_eq_true]; exact hall.out
      have HAL := Lib.hid HAll
      clear hown hE htk hnil hall HAll
      go_wp2_with fail
      go_ret2
      exact ⟨.inl ⟨HAL.out, _, rfl, HB.out ▸ hO2⟩, HB.out ▸ hnx⟩
end Go.Proofs.Ytcmogfdbjppdeaa
