/- Feeds: a byte is taken, whatever a feed is at. -/
import Derived.Test.YtifbcejekdhnlaaDoorFe4
namespace Go.Proofs.YtifbcejekdhnlaaDoor
open Go.RowKit Go.Maps
set_option linter.unusedVariables false

theorem takeDataw (q : Nat) (U : Nat → Prop) (s : Fst) (b : UInt8) (hv kv : Value) (w : World) (h : FdAt w q U s hv kv) (ho : s.held.length ≤ 2048) :
    Calls Tryd.prog 111 #[.pointer (some ⟨q, 0, none⟩), .int .u8 (b.toNat : Int)] w (TkPost w q U (takeDataF s b)) := by
  by_cases hl : (s.held.length : Int) < s.cmd.bytes
  · exact takeData_more q U s b hv kv w h ho hl
  · exact takeData_end q U s b hv kv w h ho hl
set_option maxHeartbeats 4000000 in
set_option maxRecDepth 100000 in
theorem take_zero (q : Nat) (U : Nat → Prop) (s : Fst) (b : UInt8) (hv kv : Value) (w : World) (h : FdAt w q U s hv kv) (ho : s.held.length ≤ 2048) (hw : s.way = 0) :
    Calls Tryd.prog 91 #[.pointer (some ⟨q, 0, none⟩), .int .u8 (b.toNat : Int)] w (TkPost w q U (stepF s b)) := by
  have hS := tks_new h
  obtain ⟨R, hR⟩ : ∃ R, R = w.heap.size := ⟨_, rfl⟩
  rw [← hR] at hS
  obtain ⟨X, hX⟩ : ∃ X, X = w.alloc (.cells #[.int .u8 0, .slice none 0 0, .int .u8 0, .string ⟨#[]⟩, .string ⟨#[]⟩, .int .u32 0, .int .i64 0, .int .u64 0, .int .u64 0, .int .i64 0, .bool false, .string ⟨#[]⟩, .int .u8 0] 67) := ⟨_, rfl⟩
  rw [← hX] at hS
  have HS := Lib.hid hS
  have HX := Lib.hid hX
  have HR := Lib.hid hR
  obtain ⟨hqR, hUR⟩ := hS.ne
  have hbl : b.toNat < 256 := UInt8.toNat_lt b
  have c0 := HS.out.fd.cells.at_ 0 _ rfl
  rw [hw] at c0
  have HU := Lib.hid h.lt
  have HME := Lib.hid h.me
  have HE := Lib.hid (show stepF s b = takeLineF s b by unfold stepF; simp [hw])
  have c0' : X.cell? ⟨q, 0, none⟩ = some (.int .i64 0) := c0
  have HL := Lib.hid (takeLinew q U s b hv kv X HS.out.fd ho)
  clear hS hX h c0 hw
  go_enter Tryd.func91, Tryd.ntmps91
  go_upto_region 1 with (fail)
  rw [← hR]
  generalize hWW : w.alloc _ = X'
  obtain rfl : X' = X := by rw [HX.out, ← hWW]
  clear hWW hR
  go_wp2_with fail
  refine HL.out.mono ?_
  rintro e W ⟨U', hv', kv', ev, kv2, rfl, hev, ht, hfd, hky⟩
  have HRW := Lib.hid (HS.out.res.keep ht.keeps hUR)
  have h1 := hky.one
  have HT := Lib.hid (And.intro hev (And.intro ht (And.intro hfd hky)))
  clear hev ht hfd hky
  go_wp2_with (refine wpList_cb rfl 67 (.tmp 4) (.tmp 15) rfl R _ (evC ev kv2) HRW.out rfl info_ev (evC_one h1) rfl rfl ?_; intro Y9 hC9 hK9; obtain ⟨r0, r1, r2, r3, r4, r5, r6, r7, r8, r9, r10, r11, r12⟩ := ev_cells hC9)
  refine bodyPost_ret (v := .tuple #[.agg (evC ev kv2).toArray, .bool (takeLineF s b).2.isSome]) (by simp [results, Tryd.results91, go_sem, evC, cmdC, r0, r1, r2, r3, r4, r5, r6, r7, r8, r9, r10, r11, r12]) rfl ?_
  obtain ⟨hev, ht, hfd, hky⟩ := HT.out
  rw [HE.out]
  exact tk_over HS.out.keeps HS.out.R hev ht hfd hky HRW.out hUR HS.out.res.lt hK9
set_option maxHeartbeats 4000000 in
set_option maxRecDepth 100000 in
theorem take_one (q : Nat) (U : Nat → Prop) (s : Fst) (b : UInt8) (hv kv : Value) (w : World) (h : FdAt w q U s hv kv) (ho : s.held.length ≤ 2048) (hw : s.way = 1) :
    Calls Tryd.prog 91 #[.pointer (some ⟨q, 0, none⟩), .int .u8 (b.toNat : Int)] w (TkPost w q U (stepF s b)) := by
  have hS := tks_new h
  obtain ⟨R, hR⟩ : ∃ R, R = w.heap.size := ⟨_, rfl⟩
  rw [← hR] at hS
  obtain ⟨X, hX⟩ : ∃ X, X = w.alloc (.cells #[.int .u8 0, .slice none 0 0, .int .u8 0, .string ⟨#[]⟩, .string ⟨#[]⟩, .int .u32 0, .int .i64 0, .int .u64 0, .int .u64 0, .int .i64 0, .bool false, .string ⟨#[]⟩, .int .u8 0] 67) := ⟨_, rfl⟩
  rw [← hX] at hS
  have HS := Lib.hid hS
  have HX := Lib.hid hX
  have HR := Lib.hid hR
  obtain ⟨hqR, hUR⟩ := hS.ne
  have hbl : b.toNat < 256 := UInt8.toNat_lt b
  have c0 := HS.out.fd.cells.at_ 0 _ rfl
  rw [hw] at c0
  have HU := Lib.hid h.lt
  have HME := Lib.hid h.me
  have HE := Lib.hid (show stepF s b = takeDataF s b by unfold stepF; simp [hw])
  have c0' : X.cell? ⟨q, 0, none⟩ = some (.int .i64 1) := c0
  have HL := Lib.hid (takeDataw q U s b hv kv X HS.out.fd ho)
  clear hS hX h c0 hw
  go_enter Tryd.func91, Tryd.ntmps91
  go_upto_region 1 with (fail)
  rw [← hR]
  generalize hWW : w.alloc _ = X'
  obtain rfl : X' = X := by rw [HX.out, ← hWW]
  clear hWW hR
  go_wp2_with fail
  refine HL.out.mono ?_
  rintro e W ⟨U', hv', kv', ev, kv2, rfl, hev, ht, hfd, hky⟩
  have HRW := Lib.hid (HS.out.res.keep ht.keeps hUR)
  have h1 := hky.one
  have HT := Lib.hid (And.intro hev (And.intro ht (And.intro hfd hky)))
  clear hev ht hfd hky
  go_wp2_with (refine wpList_cb rfl 67 (.tmp 4) (.tmp 22) rfl R _ (evC ev kv2) HRW.out rfl info_ev (evC_one h1) rfl rfl ?_; intro Y9 hC9 hK9; obtain ⟨r0, r1, r2, r3, r4, r5, r6, r7, r8, r9, r10, r11, r12⟩ := ev_cells hC9)
  refine bodyPost_ret (v := .tuple #[.agg (evC ev kv2).toArray, .bool (takeDataF s b).2.isSome]) (by simp [results, Tryd.results91, go_sem, evC, cmdC, r0, r1, r2, r3, r4, r5, r6, r7, r8, r9, r10, r11, r12]) rfl ?_
  obtain ⟨hev, ht, hfd, hky⟩ := HT.out
  rw [HE.out]
  exact tk_over HS.out.keeps HS.out.R hev ht hfd hky HRW.out hUR HS.out.res.lt hK9
set_option maxHeartbeats 4000000 in
set_option maxRecDepth 100000 in
theorem take_two (q : Nat) (U : Nat → Prop) (s : Fst) (b : UInt8) (hv kv : Value) (w : World) (h : FdAt w q U s hv kv) (hw : s.way = 2) :
    Calls Tryd.prog 91 #[.pointer (some ⟨q, 0, none⟩), .int .u8 (b.toNat : Int)] w (TkPost w q U (stepF s b)) := by
  have hS := tks_new h
  obtain ⟨R, hR⟩ : ∃ R, R = w.heap.size := ⟨_, rfl⟩
  rw [← hR] at hS
  obtain ⟨X, hX⟩ : ∃ X, X = w.alloc (.cells #[.int .u8 0, .slice none 0 0, .int .u8 0, .string ⟨#[]⟩, .string ⟨#[]⟩, .int .u32 0, .int .i64 0, .int .u64 0, .int .u64 0, .int .i64 0, .bool false, .string ⟨#[]⟩, .int .u8 0] 67) := ⟨_, rfl⟩
  rw [← hX] at hS
  have HS := Lib.hid hS
  have HX := Lib.hid hX
  have HR := Lib.hid hR
  obtain ⟨hqR, hUR⟩ := hS.ne
  have hbl : b.toNat < 256 := UInt8.toNat_lt b
  have c0 := HS.out.fd.cells.at_ 0 _ rfl
  rw [hw] at c0
  have HU := Lib.hid h.lt
  have HME := Lib.hid h.me
  have c0' : X.cell? ⟨q, 0, none⟩ = some (.int .i64 2) := c0
  have HTW := Lib.hid (turnw q 0 s _ _ X HS.out.fd.cells)
  by_cases hb : b = 10
  · have HE := Lib.hid (show stepF s b = (Fst.at 0, none) by unfold stepF; simp [hw, hb])
    have e1 : ((b.toNat : Int) == 10) = true := by rw [hb]; rfl
    clear hS hX h c0 hw hb
    go_enter Tryd.func91, Tryd.ntmps91
    go_upto_region 1 with (fail)
    rw [← hR]
    generalize hWW : w.alloc _ = X'
    obtain rfl : X' = X := by rw [HX.out, ← hWW]
    clear hWW hR
    go_wp2_with fail
    refine HTW.out.mono ?_
    rintro e Y2 ⟨rfl, hC2, hk2⟩
    have HR2 := Lib.hid (HS.out.res.keep hk2 (by omega))
    have HC2 := Lib.hid hC2
    have HK2 := Lib.hid (HS.out.keeps.trans (T := fun k => k = q) hk2 (fun k _ e => e ▸ HME.out))
    clear hC2 hk2
    go_wp2_with (refine wpList_cb rfl 67 (.tmp 4) (.tmp 46) rfl R _ (evC Ev.none (.slice none 0 0)) HR2.out rfl info_ev (evC_one rfl) rfl rfl ?_; intro Y9 hC9 hK9; obtain ⟨r0, r1, r2, r3, r4, r5, r6, r7, r8, r9, r10, r11, r12⟩ := ev_cells hC9)
    refine bodyPost_ret (v := .tuple #[.agg (evC Ev.none (.slice none 0 0)).toArray, .bool false]) (by simp [results, Tryd.results91, go_sem, evC, cmdC, r0, r1, r2, r3, r4, r5, r6, r7, r8, r9, r10, r11, r12]) rfl ?_
    rw [HE.out]
    exact tk_none (par_keep HK2.out (by rw [← HS.out.R]; exact hK9) (by rw [← HS.out.R]; exact hUR)) (Cb.keep HC2.out hK9 hqR) HME.out HU.out
  · have HE := Lib.hid (show stepF s b = (s, none) by unfold stepF; simp [hw, hb])
    have e1 : ((b.toNat : Int) == 10) = false := beq_eq_false_iff_ne.mpr (fun e => hb (UInt8.toNat_inj.mp (by show b.toNat = 10; omega)))
    have HR2 := Lib.hid HS.out.res
    clear hS hX h c0 hw hb
    go_enter Tryd.func91, Tryd.ntmps91
    go_upto_region 1 with (fail)
    rw [← hR]
    generalize hWW : w.alloc _ = X'
    obtain rfl : X' = X := by rw [HX.out, ← hWW]
    clear hWW hR
    go_wp2_with (refine wpList_cb rfl 67 (.tmp 4) (.tmp 46) rfl R _ (evC Ev.none (.slice none 0 0)) HR2.out rfl info_ev (evC_one rfl) rfl rfl ?_; intro Y9 hC9 hK9; obtain ⟨r0, r1, r2, r3, r4, r5, r6, r7, r8, r9, r10, r11, r12⟩ := ev_cells hC9)
    refine bodyPost_ret (v := .tuple #[.agg (evC Ev.none (.slice none 0 0)).toArray, .bool false]) (by simp [results, Tryd.results91, go_sem, evC, cmdC, r0, r1, r2, r3, r4, r5, r6, r7, r8, r9, r10, r11, r12]) rfl ?_
    rw [HE.out]
    exact tk_over2 HS.out.keeps HS.out.R (fun k u => u) (fun k u => .inl u) HS.out.fd HR2.out hUR hK9
set_option maxHeartbeats 4000000 in
set_option maxRecDepth 100000 in
theorem take_three (q : Nat) (U : Nat → Prop) (s : Fst) (b : UInt8) (hv kv : Value) (w : World) (h : FdAt w q U s hv kv) (hw : s.way = 3) (hl0 : 1 ≤ s.left) (hl1 : s.left ≤ 1099511627776) :
    Calls Tryd.prog 91 #[.pointer (some ⟨q, 0, none⟩), .int .u8 (b.toNat : Int)] w (TkPost w q U (stepF s b)) := by
  have hS := tks_new h
  obtain ⟨R, hR⟩ : ∃ R, R = w.heap.size := ⟨_, rfl⟩
  rw [← hR] at hS
  obtain ⟨X, hX⟩ : ∃ X, X = w.alloc (.cells #[.int .u8 0, .slice none 0 0, .int .u8 0, .string ⟨#[]⟩, .string ⟨#[]⟩, .int .u32 0, .int .i64 0, .int .u64 0, .int .u64 0, .int .i64 0, .bool false, .string ⟨#[]⟩, .int .u8 0] 67) := ⟨_, rfl⟩
  rw [← hX] at hS
  have HS := Lib.hid hS
  have HX := Lib.hid hX
  have HR := Lib.hid hR
  obtain ⟨hqR, hUR⟩ := hS.ne
  have hbl : b.toNat < 256 := UInt8.toNat_lt b
  have c0 := HS.out.fd.cells.at_ 0 _ rfl
  rw [hw] at c0
  have HU := Lib.hid h.lt
  have HME := Lib.hid h.me
  have c0' : X.cell? ⟨q, 0, none⟩ = some (.int .i64 3) := c0
  have c14 := HS.out.fd.cells.at_ 14 _ rfl
  have z14 := HS.out.fd.cells.fz 14 (by show 14 < 15; decide)
  have hs := HS.out.fd.cells.set 14 (.int .i64 (s.left - 1)) (by show 14 < 15; decide) (C' := fdC { s with left := s.left - 1 } hv kv) rfl
  have hks : Keeps (fun k => k = q) X (X.setCell ⟨q, 14, none⟩ (.int .i64 (s.left - 1))) := Keeps.setCell (S := fun k => k = q) (Keeps.refl _ _) (p := ⟨q, 14, none⟩) (.inl rfl) _
  have HC := Lib.hid hs
  have HKS := Lib.hid hks
  have HR1 := Lib.hid (HS.out.res.keep hks (by omega))
  have HTW := Lib.hid (turnw q 0 _ _ _ _ hs)
  have HK1 := Lib.hid (HS.out.keeps.trans (T := fun k => k = q) hks (fun k _ e => e ▸ HME.out))
  by_cases hl : s.left = 1
  · have HE := Lib.hid (show stepF s b = (Fst.at 0, none) by unfold stepF; simp [hw, hl])
    have e1 : ((s.left - 1) == 0) = true := by rw [hl]; rfl
    clear hS hX h c0 hw hl hs hks
    go_enter Tryd.func91, Tryd.ntmps91
    go_upto_region 1 with (fail)
    rw [← hR]
    generalize hWW : w.alloc _ = X'
    obtain rfl : X' = X := by rw [HX.out, ← hWW]
    clear hWW hR
    go_wp2_with fail
    refine HTW.out.mono ?_
    rintro e Y2 ⟨rfl, hC2, hk2⟩
    have HR2 := Lib.hid (HR1.out.keep hk2 (by omega))
    have HC2 := Lib.hid hC2
    have HK2 := Lib.hid (HK1.out.trans (T := fun k => k = q) hk2 (fun k _ e => e ▸ HME.out))
    clear hC2 hk2
    go_wp2_with (refine wpList_cb rfl 67 (.tmp 4) (.tmp 46) rfl R _ (evC Ev.none (.slice none 0 0)) HR2.out rfl info_ev (evC_one rfl) rfl rfl ?_; intro Y9 hC9 hK9; obtain ⟨r0, r1, r2, r3, r4, r5, r6, r7, r8, r9, r10, r11, r12⟩ := ev_cells hC9)
    refine bodyPost_ret (v := .tuple #[.agg (evC Ev.none (.slice none 0 0)).toArray, .bool false]) (by simp [results, Tryd.results91, go_sem, evC, cmdC, r0, r1, r2, r3, r4, r5, r6, r7, r8, r9, r10, r11, r12]) rfl ?_
    rw [HE.out]
    exact tk_none (par_keep HK2.out (by rw [← HS.out.R]; exact hK9) (by rw [← HS.out.R]; exact hUR)) (Cb.keep HC2.out hK9 hqR) HME.out HU.out
  · have HE := Lib.hid (show stepF s b = ({ s with left := s.left - 1 }, none) by unfold stepF; simp [hw, hl])
    have e1 : ((s.left - 1) == 0) = false := beq_eq_false_iff_ne.mpr (by omega)
    have hfd : FdAt (X.setCell ⟨q, 14, none⟩ (.int .i64 (s.left - 1))) q U { s with left := s.left - 1 } hv kv := ⟨hs, Keeps.ownsRow HS.out.fd.row hks (fun g e n => (HS.out.fd.own g e).2 n), HS.out.fd.own, HS.out.fd.me, HS.out.fd.keys.stay hks (fun g hg e => hg (e ▸ HME.out)), fun k u => Nat.lt_of_lt_of_le (HS.out.fd.lt k u) hks.size⟩
    have HFD := Lib.hid hfd
    have HR2 := Lib.hid HR1.out
    clear hS hX h c0 hw hl hs hks hfd
    go_enter Tryd.func91, Tryd.ntmps91
    go_upto_region 1 with (fail)
    rw [← hR]
    generalize hWW : w.alloc _ = X'
    obtain rfl : X' = X := by rw [HX.out, ← hWW]
    clear hWW hR
    go_wp2_with (refine wpList_cb rfl 67 (.tmp 4) (.tmp 46) rfl R _ (evC Ev.none (.slice none 0 0)) HR2.out rfl info_ev (evC_one rfl) rfl rfl ?_; intro Y9 hC9 hK9; obtain ⟨r0, r1, r2, r3, r4, r5, r6, r7, r8, r9, r10, r11, r12⟩ := ev_cells hC9)
    refine bodyPost_ret (v := .tuple #[.agg (evC Ev.none (.slice none 0 0)).toArray, .bool false]) (by simp [results, Tryd.results91, go_sem, evC, cmdC, r0, r1, r2, r3, r4, r5, r6, r7, r8, r9, r10, r11, r12]) rfl ?_
    rw [HE.out]
    exact tk_over2 HK1.out HS.out.R (fun k u => u) (fun k u => .inl u) HFD.out HR2.out hUR hK9
theorem takew (q : Nat) (U : Nat → Prop) (s : Fst) (b : UInt8) (hv kv : Value) (w : World) (h : FdAt w q U s hv kv) (ho : FOk s) :
    Calls Tryd.prog 91 #[.pointer (some ⟨q, 0, none⟩), .int .u8 (b.toNat : Int)] w (TkPost w q U (stepF s b)) := by
  have h1 := ho.way
  rcases (by omega : s.way = 0 ∨ s.way = 1 ∨ s.way = 2 ∨ s.way = 3) with e | e | e | e
  · exact take_zero q U s b hv kv w h ho.held e
  · exact take_one q U s b hv kv w h ho.held e
  · exact take_two q U s b hv kv w h e
  · exact take_three q U s b hv kv w h e (ho.more e) ho.left.2
end Go.Proofs.YtifbcejekdhnlaaDoor
