/- Scripts: a feed. -/
import Derived.Test.YtcmogfdbjppdeaaScCut
import Derived.Test.YtcmogfdbjppdeaaKeep
namespace Go.Proofs.Ytcmogfdbjppdeaa
open Go.RowKit
set_option linter.unusedVariables false

theorem info_u8 : (Try.prog.info? 5).map (fun i => (i.zero, i.size, i.bytes)) = some (some (.int .u8 0), 1, 1) := by kernel_rfl
theorem clipb (a : Option Addr) (n c : Nat) (w : World) (hn : n ≤ c) (hc : c ≤ maxLen) (h0 : a = none → n = 0 ∧ c = 0) :
    Calls Try.prog 21 #[.slice a n c] w fun e w' => e = .returned (.slice a n n) ∧ w = w' := by
  unfold maxLen at hc
  cases a with
  | none =>
    obtain ⟨rfl, rfl⟩ := h0 rfl
    go_enter Try.func21, Try.ntmps21
    go_wp2
    go_ret
    exact ⟨rfl, rfl⟩
  | some a =>
    clear h0
    go_enter Try.func21, Try.ntmps21
    go_wp2
    go_ret
    exact ⟨rfl, rfl⟩
theorem Left.alloc {w : World} {B p g : Nat} {l : List UInt8} (h : Left w B p g l) (hB : B ≤ w.heap.size) (o : Obj) : Left (w.alloc o) B p g l := by
  obtain ⟨off, h1, h2, h3⟩ := h
  exact ⟨off, (Below.heap_alloc w o p (blk_lt h1)).trans h1, h2.below ((Below.refl B w).alloc hB o) (Nat.le_refl _), h3⟩
theorem Left.lt {w : World} {B p g : Nat} {l : List UInt8} (h : Left w B p g l) : p < w.heap.size := by
  obtain ⟨off, h1, h2, h3⟩ := h
  exact blk_lt h1
theorem Left.new {w w' : World} {B p g : Nat} {l : List UInt8} (h : Left w B p g l) (hk : Below w.heap.size w w') : Left w' B p g l := by
  have hlt := h.lt
  obtain ⟨off, h1, h2, h3⟩ := h
  exact ⟨off, (hk.block p hlt).trans h1, h2.below (hk.mono (B' := B) (by omega)) (Nat.le_refl _), h3⟩
theorem feed_end {w w2 w3 : World} {B p g : Nat} {R M : List UInt8} {a' : Option Addr} {x y z : Value} {t : TypeId} (hR2 : w2.heap[w.heap.size]? = some (.cells #[x, y, z] t (0, 0))) (hl2 : Left w2 B p g R) (hK2 : Keeps (fun k => k = p) w w2) (hgrow : w2.grownBy w3 none) (hO : Own w3 w2.heap.size 5 (.slice a' M.length M.length) M) (hs : w2.heap.size = w.heap.size + 1) :
    w3.cell? ⟨w.heap.size, 0, none⟩ = some x ∧ w3.cell? ⟨w.heap.size, 1, none⟩ = some y ∧ w3.cell? ⟨w.heap.size, 2, none⟩ = some z ∧ (∀ i, w3.frozen? ⟨w.heap.size, i, none⟩ = false) ∧ Left w3 B p g R ∧ Keeps (fun k => k = p) w w3 ∧ Own w3 (w.heap.size + 1) 5 (.slice a' M.length M.length) M := by
  have hb : w3.heap[w.heap.size]? = some (.cells #[x, y, z] t (0, 0)) := (hgrow.block _ (by omega) (by simp)).trans hR2
  have hbel : Below w2.heap.size w2 w3 := (Below.refl _ _).grown hgrow (Nat.le_refl _) (by simp)
  refine ⟨by simp [World.cell?, hb], by simp [World.cell?, hb], by simp [World.cell?, hb], fun i => by simp [World.frozen?, hb], hl2.new hbel, hK2.grown hgrow (by simp), hO.mono (by omega)⟩
theorem Own.far {w : World} {b : Nat} {e : TypeId} {v : Value} {l : List UInt8} (h : Own w (b + 1) e v l) (i : Nat) (u : Value) : Own (w.setCell ⟨b, i, none⟩ u) (b + 1) e v l := by
  rcases h with h | ⟨g, c, cur, hv, hn, hm, hB, hg, hx⟩
  · exact .inl h
  · exact .inr ⟨g, c, cur, hv, hn, hm, hB, (Below.heap_setCell w ⟨b, i, none⟩ u g (by show g ≠ b; omega)).trans hg, hx⟩
theorem Left.far {w : World} {B p g b : Nat} {l : List UInt8} (h : Left w B p g l) (hB : B ≤ b) (hp : p < b) (i : Nat) (u : Value) : Left (w.setCell ⟨b, i, none⟩ u) B p g l := by
  obtain ⟨off, h1, h2, h3⟩ := h
  refine ⟨off, (Below.heap_setCell w ⟨b, i, none⟩ u p (by show p ≠ b; omega)).trans h1, h2.keep fun k o hk => ?_, h3⟩
  exact World.cell?_setCell_other w ⟨b, i, none⟩ ⟨k, o, none⟩ u (by intro e; injection e with e; omega)
theorem feed_set {w w3 : World} {B p g : Nat} {R M : List UInt8} {v : Value} {e : TypeId} (hO : Own w3 (w.heap.size + 1) e v M) (hL : Left w3 B p g R) (hK : Keeps (fun k => k = p) w w3) (hB : B ≤ w.heap.size) (hp : p < w.heap.size) (x y z : Value) :
    Own (((w3.setCell ⟨w.heap.size, 0, none⟩ x).setCell ⟨w.heap.size, 1, none⟩ y).setCell ⟨w.heap.size, 2, none⟩ z) w.heap.size e v M ∧ Left (((w3.setCell ⟨w.heap.size, 0, none⟩ x).setCell ⟨w.heap.size, 1, none⟩ y).setCell ⟨w.heap.size, 2, none⟩ z) B p g R ∧
      Keeps (fun k => k = p) w (((w3.setCell ⟨w.heap.size, 0, none⟩ x).setCell ⟨w.heap.size, 1, none⟩ y).setCell ⟨w.heap.size, 2, none⟩ z) :=
  ⟨(((hO.far 0 x).far 1 y).far 2 z).mono (by omega), ((hL.far hB hp 0 x).far hB hp 1 y).far hB hp 2 z,
   ((hK.setCell (p := ⟨w.heap.size, 0, none⟩) (.inr (Nat.le_refl _)) x).setCell (p := ⟨w.heap.size, 1, none⟩) (.inr (Nat.le_refl _)) y).setCell (p := ⟨w.heap.size, 2, none⟩) (.inr (Nat.le_refl _)) z⟩
/-- What a feed gives: its command, whose bytes are of its own; what is left of the script. -/
def Fed (w : World) (B p g : Nat) (c : Int) (M R : List UInt8) (e : Ending) (w' : World) : Prop := ∃ v, e = .returned (.agg #[.int .u8 0, .int .i64 c, v]) ∧ Own w' w.heap.size 5 v M ∧ Left w' B p g R ∧ Keeps (fun k => k = p) w w'
set_option maxHeartbeats 1000000 in
theorem feedx (B g p : Nat) (c : Int) (l M R : List UInt8) (w : World) (hM : M = fedB l) (hR : R = fedR l) (h : Left w B p g l) (hB : B ≤ w.heap.size) (hL : l.length ≤ 1048576) :
    Calls Try.prog 18 #[.pointer (some ⟨p, 0, none⟩), .int .i64 c] w (Fed w B p g c M R) := by
  have hp := h.lt
  have h1 := h.alloc hB (.cells #[.int .u8 0, .int .i64 0, .slice none 0 0] 31)
  have hX := heap_alloc_new w (.cells #[.int .u8 0, .int .i64 0, .slice none 0 0] 31)
  have hK : Keeps (fun k => k = p) w (w.alloc (.cells #[.int .u8 0, .int .i64 0, .slice none 0 0] 31)) := (Keeps.refl _ _).alloc _
  have hne : ¬ w.heap.size = p := by omega
  have hMl : M.length ≤ 255 := by rw [hM]; exact fedB_len l
  have HM := Lib.hid hM
  have HR := Lib.hid hR
  clear hM hR
  cases l with
  | nil =>
    go_enter Try.func18, Try.ntmps18
    go_wp2_with fail
    refine (cutx B g p 1 _ [] [] _ rfl rfl h1 hL).mono ?_
    rintro e w1 ⟨off, rfl, hr, hl, hk, hs⟩
    have hR1 := (hk.block _ (by simp) hne).trans hX
    have hK1 := hK.trans hk (fun _ _ s => s)
    have hs1 : w1.heap.size = w.heap.size + 1 := by rw [hs]; simp
    clear hX hK h1 hk hs
    go_wp2_with fail
    refine wp_loop_rounds 1 ?_
    rw [rounds_succ]
    go_wp2_with fail
    refine (cutx B g p 0 _ M R _ (by rw [HM.out]; rfl) (by rw [HR.out]; rfl) hl (by simp)).mono ?_
    rintro e w2 ⟨off2, rfl, hr2, hl2, hk2, hs2⟩
    have hR2 := (hk2.block _ (by rw [hs1]; omega) hne).trans hR1
    have hK2 := hK1.trans hk2 (fun _ _ s => s)
    have hs3 : w2.heap.size = w.heap.size + 1 := by rw [hs2, hs1]
    have HS := Lib.hid hs3
    clear hR1 hK1 hk2 hs2 hs1 hl hs3
    go_wp2_with (at_builtin; refine wpList_append_by _ rfl (.const (.slice none 0 0)) (.tmp 21) 22 rfl w2.heap.size 5 Try.underlying22 info_u8 (.slice none 0 0) [] rfl (World.ownsRow_nil _ _ _ _) B (some ⟨g, off2, none⟩) M M.length rfl hr2 (fun h => by simp at h) (by simp; omega) (Nat.le_refl _) ?_; intro v' w3 hown hgrow hnil)
    rw [List.nil_append] at hown
    obtain ⟨a', c', rfl, hn, hm, h0, hO, _⟩ := Own.of_row hown (fun e => hnil.2 (by simp [e]))
    obtain ⟨f0, f1, f2, f3, hL3, hK3, hO3⟩ := feed_end hR2 hl2 hK2 hgrow hO HS.out
    clear hown hgrow hnil hr2 hR2 hl2 hK2 hO
    refine (clipb a' M.length c' w3 hn hm (fun e => ⟨by have := h0 e; omega, h0 e⟩)).mono ?_
    rintro e w4 ⟨rfl, rfl⟩
    go_wp2_with fail
    refine bodyPost_ret (v := .agg #[.int .u8 0, .int .i64 c, .slice a' M.length M.length]) (by simp [results, Try.results18, go_sem, f0, f1, f2]) rfl ⟨_, rfl, feed_set hO3 hL3 hK3 hB hp _ _ _⟩
  | cons b r =>
    have hb := u8_lt b
    go_enter Try.func18, Try.ntmps18
    go_wp2_with fail
    refine (cutx B g p 1 _ [b] r _ rfl rfl h1 hL).mono ?_
    rintro e w1 ⟨off, rfl, hr, hl, hk, hs⟩
    have hR1 := (hk.block _ (by simp) hne).trans hX
    have hK1 := hK.trans hk (fun _ _ s => s)
    have hs1 : w1.heap.size = w.heap.size + 1 := by rw [hs]; simp
    obtain ⟨_, _, he, _, hc⟩ := hr (by simp)
    have hc0 := hc 0 (by simp)
    simp at he
    obtain ⟨rfl, rfl⟩ := he
    simp at hc0
    clear hX hK h1 hk hs hc hr
    go_wp2_with fail
    refine wp_loop_rounds 2 ?_
    rw [rounds_succ]
    go_wp2_with fail
    rw [rounds_succ]
    go_wp2_with fail
    refine (cutx B g p b.toNat _ M R _ (by rw [HM.out]; rfl) (by rw [HR.out]; rfl) hl (by simp at hL; omega)).mono ?_
    rintro e w2 ⟨off2, rfl, hr2, hl2, hk2, hs2⟩
    have hR2 := (hk2.block _ (by rw [hs1]; omega) hne).trans hR1
    have hK2 := hK1.trans hk2 (fun _ _ s => s)
    have hs3 : w2.heap.size = w.heap.size + 1 := by rw [hs2, hs1]
    have HS := Lib.hid hs3
    clear hR1 hK1 hk2 hs2 hs1 hl hs3
    go_wp2_with (at_builtin; refine wpList_append_by _ rfl (.const (.slice none 0 0)) (.tmp 21) 22 rfl w2.heap.size 5 Try.underlying22 info_u8 (.slice none 0 0) [] rfl (World.ownsRow_nil _ _ _ _) B (some ⟨g, off2, none⟩) M M.length rfl hr2 (fun h => by simp at h) (by simp; omega) (Nat.le_refl _) ?_; intro v' w3 hown hgrow hnil)
    rw [List.nil_append] at hown
    obtain ⟨a', c', rfl, hn, hm, h0, hO, _⟩ := Own.of_row hown (fun e => hnil.2 (by simp [e]))
    obtain ⟨f0, f1, f2, f3, hL3, hK3, hO3⟩ := feed_end hR2 hl2 hK2 hgrow hO HS.out
    clear hown hgrow hnil hr2 hR2 hl2 hK2 hO
    refine (clipb a' M.length c' w3 hn hm (fun e => ⟨by have := h0 e; omega, h0 e⟩)).mono ?_
    rintro e w4 ⟨rfl, rfl⟩
    go_wp2_with fail
    refine bodyPost_ret (v := .agg #[.int .u8 0, .int .i64 c, .slice a' M.length M.length]) (by simp [results, Try.results18, go_sem, f0, f1, f2]) rfl ⟨_, rfl, feed_set hO3 hL3 hK3 hB hp _ _ _⟩
end Go.Proofs.Ytcmogfdbjppdeaa
