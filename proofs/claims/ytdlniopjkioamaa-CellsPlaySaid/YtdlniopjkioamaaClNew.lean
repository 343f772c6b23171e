/- Contracts of package cells: new cells of some words; the last access. -/
import Derived.Test.YtdlniopjkioamaaClZ
namespace Go.Proofs.Ytdlniopjkioamaa
open Go.RowKit Go.Maps
set_option linter.unusedVariables false

def wordsF (L : List (Int × Int)) : Int → Int := L.foldl (fun f x => upd f x.1 x.2) (fun _ => 0)
theorem wordsF_snoc (L : List (Int × Int)) (x : Int × Int) : wordsF (L ++ [x]) = upd (wordsF L) x.1 x.2 := by simp [wordsF]
theorem wordsF_take {L : List (Int × Int)} {k : Nat} {x : Int × Int} (h : L[k]? = some x) : wordsF (L.take (k + 1)) = upd (wordsF (L.take k)) x.1 x.2 := by
  have hk : k < L.length := by
    rcases Nat.lt_or_ge k L.length with h' | h'
    · exact h'
    · rw [List.getElem?_eq_none h'] at h; simp at h
  rw [List.take_succ_eq_append_getElem hk, wordsF_snoc]
  rw [List.getElem?_eq_getElem hk] at h
  simp at h
  rw [h]
def NewRel (B : Nat) (w : World) (L : List (Int × Int)) (k : Nat) (wr : World) : Prop := ∃ S, Cel wr B (wordsF (L.take k)) 0 0 0 0 0 k S ∧ (∀ j, S j → B ≤ j ∧ j < wr.heap.size) ∧ Below B w wr
theorem PutPost.rel {B : Nat} {w W w' : World} {L : List (Int × Int)} {k : Nat} {x : Int × Int} {S : Nat → Prop} (h : PutPost W B (upd (wordsF (L.take k)) x.1 x.2) 0 0 0 0 0 (k + 1) S w') (hS : ∀ j, S j → B ≤ j ∧ j < W.heap.size) (hb : Below B w W) (hB : B ≤ W.heap.size) (hx : L[k]? = some x) : NewRel B w L (k + 1) w' := by
  obtain ⟨S', t, q⟩ := h
  rw [← wordsF_take hx] at q
  obtain ⟨b1, b2⟩ := t.to_below (fun k s => (hS k s).1) hB
  refine ⟨S', q, fun j s => ⟨b2 j s, ?_⟩, hb.trans b1⟩
  rcases t.only j s with s | s
  · have := t.keeps.size; have := (hS j s).2; omega
  · exact s.2
set_option maxRecDepth 100000 in
set_option maxHeartbeats 1000000 in
theorem new_words (L : List (Int × Int)) (hU : ∀ x ∈ L, isU x.1 ∧ isU x.2) (g off c : Nat) (w : World) (hL : L.length ≤ 1000000) (hlen : L.length ≤ c) (hc : ∀ i x, L[i]? = some x → w.cell? ⟨g, off + i * 2, none⟩ = some (.int .u64 x.1) ∧ w.cell? ⟨g, off + i * 2 + 1, none⟩ = some (.int .u64 x.2)) (hg : g < w.heap.size) :
    Calls Try.prog 5 #[.slice (some ⟨g, off, none⟩) L.length c] w fun e w' => e = .returned (.pointer (some ⟨w.heap.size, 0, none⟩)) ∧ ClsPost w.heap.size w w.heap.size (wordsF L) 0 0 0 0 0 w' := by
  obtain ⟨B, hB⟩ : ∃ B, B = w.heap.size := ⟨_, rfl⟩
  obtain ⟨n, hn⟩ : ∃ n, n = L.length := ⟨_, rfl⟩
  have HC := Lib.hid hc
  have HU := Lib.hid hU
  rw [← hn] at hL hlen ⊢
  rw [← hB] at hg ⊢
  have HN := Lib.hid hn
  have HB := Lib.hid hB
  clear hc hU hn
  have hr0 : NewRel B w L 0 (w.alloc (.cells #[.map none, .int .i64 0, .int .u8 0, .int .u64 0, .int .u64 0, .int .u64 0] 54)) := by
    refine ⟨fun k => k = B, ?_, fun j e => by rw [e, hB]; simp, by rw [hB]; exact (Below.refl _ _).alloc (Nat.le_refl _) _⟩
    rw [hB]
    exact made_cel w _
  clear hB
  go_enter Try.func5, Try.ntmps5
  go_wp2_with fail
  rw [show w.heap.size = B from HB.out.symm]
  generalize hW : w.alloc _ = W at hr0 ⊢
  clear hW
  go_loopw [10] (fun i wr => ∃ k : Nat, k ≤ n ∧ i = .int .i64 k ∧ NewRel B w L k wr) (fun i _ => n - (intOf i).toNat)
  case atStart => exact ⟨0, Nat.zero_le _, rfl, hr0⟩
  case round =>
    obtain ⟨k, hk, rfl, S, hq, hS, hbel⟩ := hrel
    clear hr0
    by_cases hlt : k < n
    · obtain ⟨x, hx⟩ : ∃ x, L[k]? = some x := ⟨_, List.getElem?_eq_getElem (by have := HN.out; omega)⟩
      obtain ⟨d1, d2⟩ := HC.out k x hx
      obtain ⟨u1, u2⟩ := HU.out x (List.mem_of_getElem? hx)
      replace d1 := hbel.cell (p := ⟨g, off + k * 2, none⟩) hg |>.trans d1
      replace d2 := hbel.cell (p := ⟨g, off + k * 2 + 1, none⟩) hg |>.trans d2
      obtain ⟨xa, xv⟩ := x
      have hBs : B ≤ wr.heap.size := by have := (hS B hq.here).2; omega
      have hglt : g < wr.heap.size := by omega
      have e1 : ∀ o, (wr.alloc o).cell? ⟨g, off + k * 2, none⟩ = some (.int .u64 xa) := fun o => ((Keeps.refl (fun _ => False) wr).alloc o).cell (p := ⟨g, off + k * 2, none⟩) (by simp) d1
      have e2 : ∀ o, (wr.alloc o).cell? ⟨g, off + k * 2 + 1, none⟩ = some (.int .u64 xv) := fun o => ((Keeps.refl (fun _ => False) wr).alloc o).cell (p := ⟨g, off + k * 2 + 1, none⟩) (by simp) d2
      have HX := Lib.hid hx
      have HQ := Lib.hid hq
      have HS := Lib.hid hS
      have HL := Lib.hid hbel
      clear hx hq hS hbel
      have HP : ∀ T, Hid (Calls Try.prog 19 #[.pointer (some ⟨B, 0, none⟩), .int .u64 xa, .int .u64 xv] (wr.alloc (.cells #[.int .u64 xa, .int .u64 xv] T)) fun e w' => e = .returned (.tuple #[]) ∧ NewRel B w L (k + 1) w') := fun T => Lib.hid (by
        have hq := HQ.out
        refine (put_any (v := xv) (IsCells.keep hq ((Keeps.refl (fun _ => False) wr).alloc (.cells #[.int .u64 xa, .int .u64 xv] T)) (fun _ _ s => s)) u1 u2 (by omega)).mono ?_
        rintro e w' ⟨rfl, hp⟩
        exact ⟨rfl, PutPost.rel (x := (xa, xv)) hp (fun j s => ⟨(HS.out j s).1, by have := (HS.out j s).2; simp; omega⟩) (HL.out.alloc hBs _) (by simp; omega) HX.out⟩)
      clear u1 u2
      go_wp2_with (go_at_call 19; ((with_reducible refine ((HP _).out).mono ?_); rintro e w2 ⟨rfl, hr⟩))
      go_roundw
      case rel => exact ⟨k + 1, by omega, by go_num, hr⟩
      case measure => simp [intOf]; omega
    · have hkn : k = n := by omega
      have HQ := Lib.hid hq
      have HS := Lib.hid hS
      have HL := Lib.hid hbel
      clear hq hS hbel
      go_wp2_with fail
      go_ret
      refine ⟨rfl, ?_⟩
      have e1 : L.take k = L := List.take_of_length_le (by have := HN.out; omega)
      have hq := HQ.out
      rw [e1] at hq
      exact ⟨HL.out, k, S, hq, HS.out, by omega⟩
theorem last_any {w : World} {p n : Nat} {f : Int → Int} {cnt k a x y : Int} {S : Nat → Prop} (h : Cel w p f cnt k a x y n S) :
    Calls Try.prog 9 #[.pointer (some ⟨p, 0, none⟩)] w fun e w' => e = .returned (.agg #[.int .u8 k, .int .u64 a, .int .u64 x, .int .u64 y]) ∧ Below w.heap.size w w' := by
  have c2 := h.c2
  have c3 := h.c3
  have c4 := h.c4
  have c5 := h.c5
  have hlt := h.lt
  have m2 : ∀ o, (w.alloc o).cell? ⟨p, 2, none⟩ = some (.int .u8 k) := fun o => (World.cell?_alloc_lt w o ⟨p, 2, none⟩ hlt).trans c2
  have m3 : ∀ o, (w.alloc o).cell? ⟨p, 3, none⟩ = some (.int .u64 a) := fun o => (World.cell?_alloc_lt w o ⟨p, 3, none⟩ hlt).trans c3
  have m4 : ∀ o, (w.alloc o).cell? ⟨p, 4, none⟩ = some (.int .u64 x) := fun o => (World.cell?_alloc_lt w o ⟨p, 4, none⟩ hlt).trans c4
  have m5 : ∀ o, (w.alloc o).cell? ⟨p, 5, none⟩ = some (.int .u64 y) := fun o => (World.cell?_alloc_lt w o ⟨p, 5, none⟩ hlt).trans c5
  clear h
  go_enter Try.func9, Try.ntmps9
  go_wp2_with fail
  refine bodyPost_ret (v := .agg #[.int .u8 k, .int .u64 a, .int .u64 x, .int .u64 y]) (by simp [results, Try.results9, go_sem]) rfl ⟨rfl, ?_⟩
  exact (Below.refl w.heap.size w).alloc (Nat.le_refl _) _
theorem zlast {w : World} {B p : Nat} {f : Int → Int} {cnt k a x y : Int} (h : Cls w B p f cnt k a x y) :
    Calls Try.prog 9 #[.pointer (some ⟨p, 0, none⟩)] w fun e w' => e = .returned (.agg #[.int .u8 k, .int .u64 a, .int .u64 x, .int .u64 y]) ∧ Below w.heap.size w w' := by
  obtain ⟨n, S, q, hS, hn⟩ := h
  exact last_any q
end Go.Proofs.Ytdlniopjkioamaa
