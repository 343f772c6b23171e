/- Scripts: the chapter's examples. -/
import Derived.Test.YtcmogfdbjppdeaaScParse
import Derived.Test.YtcmogfdbjppdeaaScRd
import Derived.Test.YtcmogfdbjppdeaaScSame
import Derived.Deep.RegionHeld3
namespace Go.Proofs.Ytcmogfdbjppdeaa
open Go.RowKit
set_option linter.unusedVariables false

theorem ex33 : parse [3, 2, 104, 105, 70, 200, 5, 9, 1] = [(0, 3, [104, 105]), (1, 6, []), (2, 0, []), (0, 5, [1])] := by
  rw [parse_cons]
  show nextC 3 [2, 104, 105, 70, 200, 5, 9, 1] :: parse [70, 200, 5, 9, 1] = _
  rw [parse_cons]
  show _ :: nextC 70 [200, 5, 9, 1] :: parse [200, 5, 9, 1] = _
  rw [parse_cons]
  show _ :: _ :: nextC 200 [5, 9, 1] :: parse [5, 9, 1] = _
  rw [parse_cons]
  show _ :: _ :: _ :: nextC 5 [9, 1] :: parse [] = _
  rw [parse_nil]
  rfl
set_option maxHeartbeats 1000000 in
theorem print_out (w : World) (g : Nat) (h0 : w.cell? ⟨g, 0, none⟩ = some (.int .u8 1)) (h1 : w.cell? ⟨g, 1, none⟩ = some (.int .i64 64)) (h2 : w.cell? ⟨g, 2, none⟩ = some (.slice none 0 0)) :
    Calls Try.prog 13 #[.slice (some ⟨g, 0, none⟩) 1 1] w fun e w' => e = .returned (.tuple #[.slice none 0 0, .bool false]) ∧ Below w.heap.size w w' := by
  have hlt := World.block_lt_of_cell? _ _ h0
  have e0 := fun o => (World.cell?_alloc_some w _ o (by simp [h0])).trans h0
  have e1 := fun o => (World.cell?_alloc_some w _ o (by simp [h1])).trans h1
  have e2 := fun o => (World.cell?_alloc_some w _ o (by simp [h2])).trans h2
  go_enter Try.func13, Try.ntmps13
  go_wp2_with fail
  refine wp_loop_rounds 1 ?_
  rw [rounds_succ]
  go_wp2_with (go_in)
  go_ret2
  exact ⟨rfl, ((Below.refl _ _).alloc (Nat.le_refl _) _).alloc (by simp) _⟩
theorem conv_new {P : Program} (src dst e : TypeId) (hs : P.underlying src = some (.slice e)) (he : P.underlying e = some (.int .u8)) (hd : P.underlying dst = some .string) (W : World) :
    (convert src dst (.slice (some ⟨W.heap.size, 0, none⟩) 1 1)).run P (W.alloc (Obj.cells #[.int .u8 1] e)).drew = .ok (.string ⟨[1].toArray⟩) (W.alloc (Obj.cells #[.int .u8 1] e)).drew :=
  conv_by (P := P) (W.alloc (Obj.cells #[.int .u8 1] e)).drew src dst e hs he hd (B := W.heap.size + 1) (l := [1]) 1 fun h => ⟨W.heap.size, 0, rfl, by omega, fun j hj => by
    have : j = 0 := by simp at hj; omega
    subst this
    simp⟩
theorem keep33 {W w : World} {P : Program} {B g o s3 : Nat} {t3 : Option Addr} {a b c d : Value} (src dst e : TypeId) (hs : P.underlying src = some (.slice e)) (he : P.underlying e = some (.int .u8)) (hd : P.underlying dst = some .string) (hg : g < B) (ob : Obj)
    (h : W.cell? ⟨g, o + 6, none⟩ = some a ∧ W.cell? ⟨g, o + 6 + 1, none⟩ = some b ∧ W.cell? ⟨g, o + 9, none⟩ = some c ∧ W.cell? ⟨g, o + 9 + 1, none⟩ = some d ∧ W.cell? ⟨g, o + 9 + 2, none⟩ = some (.slice t3 1 s3) ∧ Rd W B t3 [1] ∧ (convert src dst (.slice t3 1 s3)).run P W = .ok (.string ⟨[1].toArray⟩) W ∧ Below w.heap.size w W ∧ B < W.heap.size) :
    (W.alloc ob).cell? ⟨g, o + 6, none⟩ = some a ∧ (W.alloc ob).cell? ⟨g, o + 6 + 1, none⟩ = some b ∧ (W.alloc ob).cell? ⟨g, o + 9, none⟩ = some c ∧ (W.alloc ob).cell? ⟨g, o + 9 + 1, none⟩ = some d ∧ (W.alloc ob).cell? ⟨g, o + 9 + 2, none⟩ = some (.slice t3 1 s3) ∧ Rd (W.alloc ob) B t3 [1] ∧ (convert src dst (.slice t3 1 s3)).run P (W.alloc ob) = .ok (.string ⟨[1].toArray⟩) (W.alloc ob) ∧ Below w.heap.size w (W.alloc ob) ∧ B < (W.alloc ob).heap.size := by
  obtain ⟨h1, h2, h3, h4, h5, h6, h7, h8, h9⟩ := h
  have hb : Below W.heap.size W (W.alloc ob) := (Below.refl _ _).alloc (Nat.le_refl _) ob
  have hr := h6.below hb (by omega)
  have k : ∀ q v, W.cell? ⟨g, q, none⟩ = some v → (W.alloc ob).cell? ⟨g, q, none⟩ = some v := fun q v hq => (World.cell?_alloc_lt W ob ⟨g, q, none⟩ (by show g < W.heap.size; omega)).trans hq
  exact ⟨k _ _ h1, k _ _ h2, k _ _ h3, k _ _ h4, k _ _ h5, hr, conv_by (P := P) _ src dst e hs he hd s3 hr, h8.alloc h8.size ob, by simp; omega⟩
/-- A text of two, of one, bytes. -/
theorem text_at {w : World} {B o g : Nat} {x : Cm} {K : IntKind} (h : RdAt w B K g o x) : ∃ ab cb, w.cell? ⟨g, o + 2, none⟩ = some (.slice ab x.2.2.length cb) ∧ Rd w B ab x.2.2 := by
  obtain ⟨_, _, _, ab, cb, h4, h5, h6, h7, h8⟩ := h
  exact ⟨ab, cb, h4, h7⟩
set_option maxHeartbeats 4000000 in
set_option maxRecDepth 100000 in
theorem lives33 (w : World) : Calls Try.prog 8 #[] w fun e w' => e = .returned (.bool true) ∧ Below w.heap.size w w' := by
  have hr0 : Rd (w.alloc (Obj.cells #[.int .u8 3, .int .u8 2, .int .u8 104, .int .u8 105, .int .u8 70, .int .u8 200, .int .u8 5, .int .u8 9, .int .u8 1] 5)) (w.heap.size + 1) (some ⟨w.heap.size, 0, none⟩) [3, 2, 104, 105, 70, 200, 5, 9, 1] := fun h => ⟨_, _, rfl, by omega, fun j hj => by
    simp at hj
    rcases (by omega : j = 0 ∨ j = 1 ∨ j = 2 ∨ j = 3 ∨ j = 4 ∨ j = 5 ∨ j = 6 ∨ j = 7 ∨ j = 8) with rfl | rfl | rfl | rfl | rfl | rfl | rfl | rfl | rfl <;> simp⟩
  have HR0 := Lib.hid hr0
  have EX := Lib.hid ex33
  clear hr0
  go_enter Try.func8, Try.ntmps8
  go_wp2_with fail
  refine (parse_some w.heap.size 0 9 [3, 2, 104, 105, 70, 200, 5, 9, 1] _ (by simp) (by simp) (by simp [maxLen]) (by simp) (by simpa using HR0.out)).mono ?_
  rintro e w1 ⟨v, rfl, hC, hb1⟩
  rw [EX.out] at hC
  obtain ⟨a, c, rfl, hlc, hcm, _, hrd⟩ := hC.rd
  obtain ⟨g, off, rfl, hat⟩ := hrd (by simp)
  have hb : Below w.heap.size w w1 := ((Below.refl _ _).alloc (Nat.le_refl _) _).trans (hb1.mono (by simp))
  have A0 := hat 0 _ rfl
  have A1 := hat 1 _ rfl
  have A2 := hat 2 _ rfl
  have A3 := hat 3 _ rfl
  clear hat hrd hC hb1
  go_wp2_with fail
  refine (print_out _ w1.heap.size (by simp) (by simp) (by simp)).mono ?_
  rintro e w2 ⟨rfl, hb2⟩
  have hk : ∀ q o, q < w1.heap.size → w2.cell? ⟨q, o, none⟩ = w1.cell? ⟨q, o, none⟩ := fun q o hq => by
    have h1 := hb2.cell (p := ⟨q, o, none⟩) (by simp; omega)
    exact h1.trans (World.cell?_alloc_lt w1 _ ⟨q, o, none⟩ hq)
  have hbb : Below w.heap.size w w2 := (hb.alloc hb.size _).trans (hb2.mono (by have := hb.size; simp; omega))
  obtain ⟨p0, a0, b0, t0, s0, c0, _, _, r0, _⟩ := A0.keep hk
  obtain ⟨p1, a1, b1, t1, s1, c1, _, _, r1, _⟩ := A1.keep hk
  obtain ⟨p2, a2, b2, t2, s2, c2, _, _, r2, _⟩ := A2.keep hk
  obtain ⟨p3, a3, b3, t3, s3, c3, _, _, r3, _⟩ := A3.keep hk
  simp only [Nat.zero_mul, Nat.add_zero, Nat.one_mul] at a0 a1 a2 a3 b0 b1 b2 b3 c0 c1 c2 c3
  have v0 := conv_by (P := Try.prog) w2 22 9 5 Try.underlying22 Try.underlying5 Try.underlying9 s0 r0
  have v3 := conv_by (P := Try.prog) w2 22 9 5 Try.underlying22 Try.underlying5 Try.underlying9 s3 r3
  have hlt2 : w1.heap.size < w2.heap.size := by have := hb2.size; simp at this; omega
  have v6 := conv_new (P := Try.prog) 22 9 5 Try.underlying22 Try.underlying5 Try.underlying9 w2
  have v7 : (convert 22 9 (.slice (some ⟨w2.heap.size, 0, none⟩) 1 1)).run Try.prog (w2.drew.alloc (Obj.cells #[.int .u8 1] 5)) = .ok (.string ⟨[1].toArray⟩) (w2.drew.alloc (Obj.cells #[.int .u8 1] 5)) := v6
  simp only [List.length_cons, List.length_nil, Nat.zero_add, Nat.reduceAdd] at v0 v3 c0 c3
  clear r0 r1 r2 A0 A1 A2 A3 hk hb hb2
  simp only [Nat.reduceMul] at a2 a3 b2 b3 c3
  have HS0 := (show w2.drew.cell? ⟨g, off + 6, none⟩ = some (.int .u8 2) ∧ w2.drew.cell? ⟨g, off + 6 + 1, none⟩ = some (.int .i64 0) ∧ w2.drew.cell? ⟨g, off + 9, none⟩ = some (.int .u8 0) ∧ w2.drew.cell? ⟨g, off + 9 + 1, none⟩ = some (.int .i64 5) ∧ w2.drew.cell? ⟨g, off + 9 + 2, none⟩ = some (.slice t3 1 s3) ∧ Rd w2.drew w1.heap.size t3 [1] ∧ (convert 22 9 (.slice t3 1 s3)).run Try.prog w2.drew = .ok (.string ⟨[1].toArray⟩) w2.drew ∧ Below w.heap.size w w2.drew ∧ w1.heap.size < w2.drew.heap.size from
    ⟨a2, b2, a3, b3, c3, r3, conv_by (P := Try.prog) w2.drew 22 9 5 Try.underlying22 Try.underlying5 Try.underlying9 s3 (r3 : Rd w2.drew _ _ [1]), hbb.drew, hlt2⟩)
  have HS1 := (keep33 (W := w2.drew) 22 9 5 Try.underlying22 Try.underlying5 Try.underlying9 p3 (Obj.cells #[.int .u8 1] 5) HS0)
  obtain ⟨_, _, _, _, _, _, z0, _, _⟩ := HS0
  obtain ⟨y1, y2, y3, y4, y5, yr, z1, _, _⟩ := HS1
  have x1 : (w2.alloc (Obj.cells #[.int .u8 1] 5)).cell? ⟨g, off + 6, none⟩ = some (.int .u8 2) := y1
  have x2 : (w2.alloc (Obj.cells #[.int .u8 1] 5)).cell? ⟨g, off + 6 + 1, none⟩ = some (.int .i64 0) := y2
  have x3 : (w2.alloc (Obj.cells #[.int .u8 1] 5)).cell? ⟨g, off + 9, none⟩ = some (.int .u8 0) := y3
  have x4 : (w2.alloc (Obj.cells #[.int .u8 1] 5)).cell? ⟨g, off + 9 + 1, none⟩ = some (.int .i64 5) := y4
  have x5 : (w2.alloc (Obj.cells #[.int .u8 1] 5)).cell? ⟨g, off + 9 + 2, none⟩ = some (.slice t3 1 s3) := y5
  have z2 : (convert 22 9 (.slice t3 1 s3)).run Try.prog (w2.alloc (Obj.cells #[.int .u8 1] 5)).drew = .ok (.string ⟨[1].toArray⟩) (w2.alloc (Obj.cells #[.int .u8 1] 5)).drew := z1
  clear y1 y2 y3 y4 y5 yr z1 v3 v7
  go_wp2_with fail
  go_region_with (fail)
  all_goals
    go_wp2
    go_ret
    exact ⟨rfl, (hbb.alloc hbb.size _).drew⟩
end Go.Proofs.Ytcmogfdbjppdeaa
