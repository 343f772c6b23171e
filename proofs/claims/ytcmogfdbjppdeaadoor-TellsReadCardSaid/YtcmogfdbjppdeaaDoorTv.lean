/- Tells: a value that was found. -/
import Derived.Test.YtcmogfdbjppdeaaDoorTa
namespace Go.Proofs.YtcmogfdbjppdeaaDoor
open Go.RowKit Go.Maps
set_option linter.unusedVariables false

/-- The text of a value: its key, what is told, its bytes. -/
def valueB (K told V : ByteArray) : ByteArray := (((((⟨#[86, 65, 76, 85, 69, 32]⟩ ++ K) ++ ⟨#[32]⟩) ++ told) ++ ⟨#[13, 10]⟩) ++ V) ++ ⟨#[13, 10]⟩
def toldB (us : List Nat) : ByteArray := ⟨(Lib.join (us.map Lib.decDigits) [32]).toArray⟩
theorem told_size (us : List Nat) (hn : us.length ≤ 8) (hu : ∀ u ∈ us, u < 18446744073709551616) : (toldB us).size ≤ 168 := by
  have h := join_len [32] (us.map Lib.decDigits) (fun x hx => by
    simp at hx
    obtain ⟨u, hu', rfl⟩ := hx
    exact (dec_len (by have := hu u hu'; omega)).2)
  have h2 : (us.map Lib.decDigits).length * (20 + [(32 : UInt8)].length) ≤ 8 * 21 := Nat.mul_le_mul (by simpa using hn) (by simp)
  have : (toldB us).size = (Lib.join (us.map Lib.decDigits) [32]).length := rfl
  omega
theorem new_row2 {W : World} {x y : Value} {t : TypeId} {n : Nat} (hn : n = W.heap.size) : (W.alloc (Obj.cells #[x, y] t)).cell? ⟨n, 0, none⟩ = some x ∧ (W.alloc (Obj.cells #[x, y] t)).cell? ⟨n, 1, none⟩ = some y := by
  subst hn; simp
theorem new_row3 {W : World} {x y z : Value} {t : TypeId} {n : Nat} (hn : n = W.heap.size) : (W.alloc (Obj.cells #[x, y, z] t)).cell? ⟨n, 0, none⟩ = some x ∧ (W.alloc (Obj.cells #[x, y, z] t)).cell? ⟨n, 1, none⟩ = some y ∧ (W.alloc (Obj.cells #[x, y, z] t)).cell? ⟨n, 2, none⟩ = some z := by
  subst hn; simp
theorem row2_at {W : World} {b a c : Nat} (h : W.cell? ⟨b, 0, none⟩ = some (.int .u64 (a : Int)) ∧ W.cell? ⟨b, 1, none⟩ = some (.int .u64 (c : Int))) : ∀ (j u : Nat), ([a, c] : List Nat)[j]? = some u → W.cell? ⟨b, 0 + j, none⟩ = some (.int .u64 (u : Int)) := by
  intro j u hj
  match j, hj with
  | 0, hj => simp at hj; subst hj; exact h.1
  | 1, hj => simp at hj; subst hj; exact h.2
  | j + 2, hj => simp at hj
theorem row3_at {W : World} {b a c d : Nat} (h : W.cell? ⟨b, 0, none⟩ = some (.int .u64 (a : Int)) ∧ W.cell? ⟨b, 1, none⟩ = some (.int .u64 (c : Int)) ∧ W.cell? ⟨b, 2, none⟩ = some (.int .u64 (d : Int))) : ∀ (j u : Nat), ([a, c, d] : List Nat)[j]? = some u → W.cell? ⟨b, 0 + j, none⟩ = some (.int .u64 (u : Int)) := by
  intro j u hj
  match j, hj with
  | 0, hj => simp at hj; subst hj; exact h.1
  | 1, hj => simp at hj; subst hj; exact h.2.1
  | 2, hj => simp at hj; subst hj; exact h.2.2
  | j + 3, hj => simp at hj
theorem four_facts {w W : World} {CA BA IA NA : Array Value} {t1 t2 t3 t4 : TypeId} (hW : (((w.alloc (Obj.cells CA t1)).alloc (Obj.cells BA t2)).alloc (Obj.cells IA t3)).alloc (Obj.cells NA t4) = W) :
    (∀ i, W.cell? ⟨w.heap.size, i, none⟩ = CA[i]?) ∧ (∀ i, W.cell? ⟨w.heap.size + 1 + 1, i, none⟩ = IA[i]?) ∧ (∀ i, W.cell? ⟨w.heap.size + 1 + 1 + 1, i, none⟩ = NA[i]?) ∧ Below w.heap.size w W ∧ W.heap.size = w.heap.size + 1 + 1 + 1 + 1 := by
  subst hW
  have s1 : (w.alloc (Obj.cells CA t1)).heap.size = w.heap.size + 1 := by simp
  have s2 : ((w.alloc (Obj.cells CA t1)).alloc (Obj.cells BA t2)).heap.size = w.heap.size + 1 + 1 := by simp
  have s3 : (((w.alloc (Obj.cells CA t1)).alloc (Obj.cells BA t2)).alloc (Obj.cells IA t3)).heap.size = w.heap.size + 1 + 1 + 1 := by simp
  have b1 := heap_alloc_new w (Obj.cells CA t1)
  have b3 := heap_alloc_new ((w.alloc (Obj.cells CA t1)).alloc (Obj.cells BA t2)) (Obj.cells IA t3)
  have b4 := heap_alloc_new (((w.alloc (Obj.cells CA t1)).alloc (Obj.cells BA t2)).alloc (Obj.cells IA t3)) (Obj.cells NA t4)
  rw [s2] at b3
  rw [s3] at b4
  have k1 := (Below.heap_alloc (w.alloc (Obj.cells CA t1)) (Obj.cells BA t2) w.heap.size (by omega)).trans b1
  have k2 := (Below.heap_alloc _ (Obj.cells IA t3) w.heap.size (by omega)).trans k1
  have k3 := (Below.heap_alloc _ (Obj.cells NA t4) w.heap.size (by omega)).trans k2
  have k4 := (Below.heap_alloc _ (Obj.cells NA t4) (w.heap.size + 1 + 1) (by omega)).trans b3
  refine ⟨fun i => by simp only [World.cell?, k3]; rfl, fun i => by simp only [World.cell?, k4]; rfl, fun i => by simp only [World.cell?, b4]; rfl, ((((Below.refl _ _).alloc (Nat.le_refl _) _).alloc (by omega) _).alloc (by omega) _).alloc (by omega) _, by simp⟩
set_option maxHeartbeats 4000000 in
set_option maxRecDepth 100000 in
theorem value_no (v : Int) (ks : Value) (cv : Int) (ck cval : ByteArray) (cf ce ci cb ex : Int) (q : Bool) (k n : Int) (ik iv : ByteArray) (f id d e2 : Int) (w : World) (hk : k ≠ 11) :
    Calls Tryd.prog 18 #[.agg #[.int .u8 v, ks, .int .u8 cv, .string ck, .string cval, .int .u32 cf, .int .i64 ce, .int .u64 ci, .int .u64 cb, .int .i64 ex, .bool q], .agg #[.int .u8 k, .int .u64 n, .string ik, .string iv, .int .u32 f, .int .u64 id, .int .i64 d, .int .i64 e2]] w fun e w' => e = .returned (.string ⟨#[]⟩) ∧ Below w.heap.size w w' := by
  have h1 : (k != 11) = true := by simpa using hk
  clear hk
  go_enter Tryd.func18, Tryd.ntmps18
  go_wp2
  go_ret
  exact ⟨rfl, ((Below.refl _ _).alloc (Nat.le_refl _) _).alloc (by simp) _⟩
set_option maxHeartbeats 4000000 in
set_option maxRecDepth 100000 in
theorem value_get (v : Int) (ks : Value) (cv : Int) (ck cval : ByteArray) (cf ce ci cb ex : Int) (q : Bool) (n : Int) (ik iv : ByteArray) (f id : Nat) (d e2 : Int) (w : World) (hv : (v == 2) = false) (hK : ik.size ≤ 4000) (hV : iv.size ≤ 4000) (hf : f < 4294967296) (hid : id < 18446744073709551616) (htab : Lib.TabIs Tryd.prog w "internal/strconv.uint64pow10" .u64 Lib.pow10Tab) :
    Calls Tryd.prog 18 #[.agg #[.int .u8 v, ks, .int .u8 cv, .string ck, .string cval, .int .u32 cf, .int .i64 ce, .int .u64 ci, .int .u64 cb, .int .i64 ex, .bool q], .agg #[.int .u8 11, .int .u64 n, .string ik, .string iv, .int .u32 f, .int .u64 id, .int .i64 d, .int .i64 e2]] w fun e w' => e = .returned (.string (valueB ik (toldB [f, iv.size]) iv)) ∧ Below w.heap.size w w' := by
  have HT := Lib.hid htab
  have hts := told_size [f, iv.size] (by simp) (by intro u hu; simp at hu; omega)
  have hf' : (f : Int) < 4294967296 := by omega
  clear htab
  go_enter Tryd.func18, Tryd.ntmps18
  go_wp2_with fail
  generalize hW : (((w.alloc _).alloc _).alloc _).alloc _ = W
  obtain ⟨F1, F2, F3, hb, hs⟩ := four_facts hW
  have c0 : W.cell? ⟨w.heap.size, 0, none⟩ = some (.int .u8 v) := F1 0
  have i0 : W.cell? ⟨w.heap.size + 1 + 1, 0, none⟩ = some (.string ik) := F2 0
  have i1 : W.cell? ⟨w.heap.size + 1 + 1, 1, none⟩ = some (.string iv) := F2 1
  have n0 : W.cell? ⟨w.heap.size + 1 + 1 + 1, 0, none⟩ = some (.int .u64 (f : Int)) := F3 0
  have n1 : W.cell? ⟨w.heap.size + 1 + 1 + 1, 1, none⟩ = some (.int .u64 (iv.size : Int)) := F3 1
  have HN := Lib.hid (numbersw (w.heap.size + 1 + 1 + 1) 0 2 [f, iv.size] W (row2_at ⟨n0, n1⟩) (by intro u hu; simp at hu; omega) (by simp) (by simp) (by simp) (by simp [maxLen]) (by omega) (tabIs_below HT.out hb))
  clear hW F1 F2 F3 n0 n1
  refine HN.out.mono ?_
  rintro e w1 ⟨rfl, hb1⟩
  have hB1 : w.heap.size + 1 + 1 < W.heap.size := by omega
  have c0' := box_cell hb1 (by show w.heap.size < W.heap.size; omega) c0
  have i0' := box_cell hb1 hB1 i0
  have i1' := box_cell hb1 hB1 i1
  have hfold : (⟨(Lib.join ([f, iv.size].map Lib.decDigits) [32]).toArray⟩ : ByteArray) = toldB [f, iv.size] := rfl
  rw [hfold]
  obtain ⟨T, hTd⟩ : ∃ T, T = toldB [f, iv.size] := ⟨_, rfl⟩
  rw [← hTd] at hts ⊢
  have HTD := Lib.hid hTd
  clear hfold c0 i0 i1 HN hTd
  go_wp2_with fail
  go_ret
  exact ⟨by rw [← HTD.out]; rfl, hb.trans (hb1.mono hb.size)⟩
set_option maxHeartbeats 4000000 in
set_option maxRecDepth 100000 in
theorem value_gets (ks : Value) (cv : Int) (ck cval : ByteArray) (cf ce ci cb ex : Int) (q : Bool) (n : Int) (ik iv : ByteArray) (f id : Nat) (d e2 : Int) (w : World) (hK : ik.size ≤ 4000) (hV : iv.size ≤ 4000) (hf : f < 4294967296) (hid : id < 18446744073709551616) (htab : Lib.TabIs Tryd.prog w "internal/strconv.uint64pow10" .u64 Lib.pow10Tab) :
    Calls Tryd.prog 18 #[.agg #[.int .u8 2, ks, .int .u8 cv, .string ck, .string cval, .int .u32 cf, .int .i64 ce, .int .u64 ci, .int .u64 cb, .int .i64 ex, .bool q], .agg #[.int .u8 11, .int .u64 n, .string ik, .string iv, .int .u32 f, .int .u64 id, .int .i64 d, .int .i64 e2]] w fun e w' => e = .returned (.string (valueB ik (toldB [f, iv.size, id]) iv)) ∧ Below w.heap.size w w' := by
  have HT := Lib.hid htab
  have hts0 := told_size [f, iv.size] (by simp) (by intro u hu; simp at hu; omega)
  have hts := told_size [f, iv.size, id] (by simp) (by intro u hu; simp at hu; omega)
  have hf' : (f : Int) < 4294967296 := by omega
  clear htab
  go_enter Tryd.func18, Tryd.ntmps18
  go_wp2_with fail
  generalize hW : (((w.alloc _).alloc _).alloc _).alloc _ = W
  obtain ⟨F1, F2, F3, hb, hs⟩ := four_facts hW
  have c0 : W.cell? ⟨w.heap.size, 0, none⟩ = some (.int .u8 2) := F1 0
  have i2 : W.cell? ⟨w.heap.size + 1 + 1, 2, none⟩ = some (.int .u32 (f : Int)) := F2 2
  have i3 : W.cell? ⟨w.heap.size + 1 + 1, 3, none⟩ = some (.int .u64 (id : Int)) := F2 3
  have i0 : W.cell? ⟨w.heap.size + 1 + 1, 0, none⟩ = some (.string ik) := F2 0
  have i1 : W.cell? ⟨w.heap.size + 1 + 1, 1, none⟩ = some (.string iv) := F2 1
  have n0 : W.cell? ⟨w.heap.size + 1 + 1 + 1, 0, none⟩ = some (.int .u64 (f : Int)) := F3 0
  have n1 : W.cell? ⟨w.heap.size + 1 + 1 + 1, 1, none⟩ = some (.int .u64 (iv.size : Int)) := F3 1
  have HN := Lib.hid (numbersw (w.heap.size + 1 + 1 + 1) 0 2 [f, iv.size] W (row2_at ⟨n0, n1⟩) (by intro u hu; simp at hu; omega) (by simp) (by simp) (by simp) (by simp [maxLen]) (by omega) (tabIs_below HT.out hb))
  clear hW F1 F2 F3 n0 n1
  refine HN.out.mono ?_
  rintro e w1 ⟨rfl, hb1⟩
  have hB1 : w.heap.size + 1 + 1 < W.heap.size := by omega
  have c0' := box_cell hb1 (by show w.heap.size < W.heap.size; omega) c0
  have i0' := box_cell hb1 hB1 i0
  have i1' := box_cell hb1 hB1 i1
  have i2' := box_cell hb1 hB1 i2
  have i3' := box_cell hb1 hB1 i3
  have hfold : (⟨(Lib.join ([f, iv.size].map Lib.decDigits) [32]).toArray⟩ : ByteArray) = toldB [f, iv.size] := rfl
  rw [hfold]
  obtain ⟨T0, hT0⟩ : ∃ T, T = toldB [f, iv.size] := ⟨_, rfl⟩
  rw [← hT0] at hts0 ⊢
  have hnx1 := hb.trans (hb1.mono hb.size)
  have HB1 := Lib.hid hnx1
  have hs1 : w.heap.size + 1 + 1 < w1.heap.size := Nat.lt_of_lt_of_le hB1 hb1.size
  clear hfold c0 i0 i1 i2 i3 HN hT0 hb1 hb hnx1
  go_wp2_with fail
  generalize hX : w1.alloc _ = X
  have x0 : X.cell? ⟨w1.heap.size, 0, none⟩ = some (.int .u64 (f : Int)) := by rw [← hX]; exact (new_row3 rfl).1
  have x1 : X.cell? ⟨w1.heap.size, 1, none⟩ = some (.int .u64 (iv.size : Int)) := by rw [← hX]; exact (new_row3 rfl).2.1
  have x2 : X.cell? ⟨w1.heap.size, 2, none⟩ = some (.int .u64 (id : Int)) := by rw [← hX]; exact (new_row3 rfl).2.2
  have hbX : Below w1.heap.size w1 X := by rw [← hX]; exact (Below.refl _ _).alloc (Nat.le_refl _) _
  have hsX : w1.heap.size < X.heap.size := by rw [← hX]; simp
  have HN := Lib.hid (numbersw w1.heap.size 0 3 [f, iv.size, id] X (row3_at ⟨x0, x1, x2⟩) (by intro u hu; simp at hu; omega) (by simp) (by simp) (by simp) (by simp [maxLen]) hsX (tabIs_below HT.out (HB1.out.trans (hbX.mono HB1.out.size))))
  have j0 := box_cell hbX hs1 i0'
  have j1 := box_cell hbX hs1 i1'
  clear hX x0 x1 x2 c0' i0' i1' i2' i3'
  refine HN.out.mono ?_
  rintro e w2 ⟨rfl, hb2⟩
  have hs2 : w.heap.size + 1 + 1 < X.heap.size := Nat.lt_trans hs1 hsX
  have m0 := box_cell hb2 hs2 j0
  have m1 := box_cell hb2 hs2 j1
  have hfold : (⟨(Lib.join ([f, iv.size, id].map Lib.decDigits) [32]).toArray⟩ : ByteArray) = toldB [f, iv.size, id] := rfl
  rw [hfold]
  obtain ⟨T, hTd⟩ : ∃ T, T = toldB [f, iv.size, id] := ⟨_, rfl⟩
  rw [← hTd] at hts ⊢
  have HTD := Lib.hid hTd
  clear hfold j0 j1 HN hTd
  go_wp2_with fail
  go_ret
  exact ⟨by rw [← HTD.out]; rfl, HB1.out.trans ((hbX.mono HB1.out.size).trans (hb2.mono (Nat.le_trans HB1.out.size hbX.size)))⟩
end Go.Proofs.YtcmogfdbjppdeaaDoor
