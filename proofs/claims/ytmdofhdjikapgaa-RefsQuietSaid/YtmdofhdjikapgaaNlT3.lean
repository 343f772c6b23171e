/- Lists of notes, framed by sets of blocks: Add of whatever note, Count. -/
import Derived.Test.YtmdofhdjikapgaaNlT2
namespace Go.Proofs.Ytmdofhdjikapgaa
open Go.RowKit
set_option linter.unusedVariables false

theorem countt (w : World) (p n : Nat) (xs : List Value) {u : Value} {T : Nat → Prop} (h : IsNt w p n xs u T) (hn : n ≤ 9223372036854775807) :
    Calls Try.prog 25 #[.pointer (some ⟨p, 0, none⟩)] w fun e w' => e = .returned (.int .i64 n) ∧ w = w' := by
  have hp := h.c0
  have hf := h.f0
  have hown := h.row
  have hnil := h.nil
  clear h
  obtain ⟨_, ⟨rfl, rfl⟩ | ⟨g, cap, rfl, _, _, hnc, hc, _⟩⟩ := Lst.of_own hown
  · clear hnil
    go_enter Try.func25, Try.ntmps25
    go_wp2
    go_ret
    exact ⟨rfl, rfl⟩
  · clear hown hnil
    go_enter Try.func25, Try.ntmps25
    go_wp2
    go_ret
    exact ⟨rfl, rfl⟩
set_option maxHeartbeats 4000000 in
set_option maxRecDepth 100000 in
theorem addt_kind (s th k r b c d v : Int) (w : World) (p n : Nat) (xs : List Value) {u : Value} {T : Nat → Prop} (h : IsNt w p n xs u T) (hk : iskf k = false) :
    Calls Try.prog 65 #[.pointer (some ⟨p, 0, none⟩), .agg #[.int .i64 s, .int .i64 th, .int .u8 k, .int .i64 r, .int .i64 b, .int .i64 c, .int .i64 d, .int .i64 v]] w fun e w' => e = .returned (.int .i64 1) ∧ Below w.heap.size w w' := by
  have hp := h.c0
  have hf := h.f0
  have hown := h.row
  have hnil := h.nil
  clear h
  have hp' := fun o => (World.cell?_alloc_some w _ o (by simp [hp])).trans hp
  obtain ⟨_, ⟨rfl, rfl⟩ | ⟨g, cap, rfl, _, _, hnc, hc, _⟩⟩ := Lst.of_own hown
  all_goals
    clear hown hnil
    go_enter Try.func65, Try.ntmps65
    go_wp2_with fail
    go_quiet ((go_at_call 93; exact quiet_left (iskw _ _)))
    go_wp2_with fail
    go_ret
    exact ⟨rfl, belowNd ((Below.refl w.heap.size w).alloc (Nat.le_refl _) _) nq⟩
set_option maxHeartbeats 4000000 in
set_option maxRecDepth 100000 in
theorem addt_low (s th k r b c d v ls : Int) (w : World) (p n g cap : Nat) (xs : List Value) (hn : 0 < n) (hnM : n ≤ 9223372036854775807) (hp : w.cell? ⟨p, 0, none⟩ = some (.slice (some ⟨g, 0, none⟩) n cap)) (hown0 : w.ownsRow 0 76 8 (.slice (some ⟨g, 0, none⟩) n cap) n xs)
    (hl : xs[(n - 1) * 8]? = some (.int .i64 ls)) (hs : s < ls) (hk : iskf k = true) :
    Calls Try.prog 65 #[.pointer (some ⟨p, 0, none⟩), .agg #[.int .i64 s, .int .i64 th, .int .u8 k, .int .i64 r, .int .i64 b, .int .i64 c, .int .i64 d, .int .i64 v]] w fun e w' => e = .returned (.int .i64 1) ∧ Below w.heap.size w w' := by
  have hp' := fun o => (World.cell?_alloc_some w _ o (by simp [hp])).trans hp
  have hc0 : w.cell? ⟨g, (n - 1) * 8, none⟩ = some (.int .i64 ls) := by
    have := hown0.cells rfl _ _ hl
    rwa [Addr.add_lit, Nat.zero_add] at this
  have hc' := fun o => (World.cell?_alloc_some w _ o (by simp [hc0])).trans hc0
  have hs' : decide (s < ls) = true := decide_eq_true hs
  have y1 : ((n : Int) - 1).toNat = n - 1 := by omega
  have y2 : IntKind.i64.wrap ((n : Int) - 1) = (n : Int) - 1 := IntWalk.i64_in _ (by omega)
  have y3 : 0 ≤ (n : Int) - 1 := by omega
  have y4 : (n : Int) - 1 < n := by omega
  have y5 : (1 : Int) ≤ n := by omega
  clear hc0 hnM hs'
  go_enter Try.func65, Try.ntmps65
  go_wp2_with fail
  go_quiet ((go_at_call 93; exact quiet_left (iskw _ _)))
  go_wp2_with fail
  go_ret
  exact ⟨rfl, belowNd ((Below.refl w.heap.size w).alloc (Nat.le_refl _) _) nq⟩
set_option maxHeartbeats 4000000 in
set_option maxRecDepth 100000 in
theorem addt_full (s th k r b c d v ls : Int) (w : World) (p n g cap : Nat) (xs : List Value) (hnM : n = 1048576) (hp : w.cell? ⟨p, 0, none⟩ = some (.slice (some ⟨g, 0, none⟩) n cap)) (hown0 : w.ownsRow 0 76 8 (.slice (some ⟨g, 0, none⟩) n cap) n xs)
    (hl : xs[(n - 1) * 8]? = some (.int .i64 ls)) (hs : ¬ s < ls) (hk : iskf k = true) :
    Calls Try.prog 65 #[.pointer (some ⟨p, 0, none⟩), .agg #[.int .i64 s, .int .i64 th, .int .u8 k, .int .i64 r, .int .i64 b, .int .i64 c, .int .i64 d, .int .i64 v]] w fun e w' => e = .returned (.int .i64 3) ∧ Below w.heap.size w w' := by
  have hp' := fun o => (World.cell?_alloc_some w _ o (by simp [hp])).trans hp
  have hc0 : w.cell? ⟨g, (n - 1) * 8, none⟩ = some (.int .i64 ls) := by
    have := hown0.cells rfl _ _ hl
    rwa [Addr.add_lit, Nat.zero_add] at this
  have hc' := fun o => (World.cell?_alloc_some w _ o (by simp [hc0])).trans hc0
  have hs' : decide (s < ls) = false := decide_eq_false hs
  have y1 : ((n : Int) - 1).toNat = n - 1 := by omega
  have y2 : IntKind.i64.wrap ((n : Int) - 1) = (n : Int) - 1 := IntWalk.i64_in _ (by omega)
  have y3 : 0 ≤ (n : Int) - 1 := by omega
  have y4 : (n : Int) - 1 < n := by omega
  have y5 : (1 : Int) ≤ n := by omega
  have y6 : decide ((1048576 : Int) ≤ (n : Int)) = true := decide_eq_true (by omega)
  have hn : 0 < n := by omega
  clear hc0 hnM
  go_enter Try.func65, Try.ntmps65
  go_wp2_with fail
  go_quiet ((go_at_call 93; exact quiet_left (iskw _ _)))
  go_wp2_with fail
  go_ret
  exact ⟨rfl, belowNd ((Below.refl w.heap.size w).alloc (Nat.le_refl _) _) nq⟩
/-- A list of these notes, that owns T. -/
def Nts (w : World) (p : Nat) (L : List Nv) (T : Nat → Prop) : Prop := ∃ v, IsNt w p L.length (rowsN L) v T
theorem Nts.keep {w W : World} {p : Nat} {L : List Nv} {T S : Nat → Prop} (h : Nts w p L T) (hk : Keeps S w W) (hT : ∀ k, T k → ¬ S k) : Nts W p L T := by
  obtain ⟨v, h⟩ := h
  exact ⟨v, h.keep hk hT⟩
theorem Nts.new {w W : World} {p : Nat} {L : List Nv} {T : Nat → Prop} (h : Nts w p L T) (hk : Below w.heap.size w W) : Nts W p L T := h.keep (Keeps.of_new (S := fun _ => False) hk) (fun _ _ s => s)
theorem nts_made (W : World) (t : TypeId) : Nts (W.alloc (.cells #[.slice none 0 0] t)) W.heap.size [] (fun k => k = W.heap.size) :=
  ⟨_, by simp, by simp, World.ownsRow_nil _ _ _ _, fun _ => rfl, fun g hg => by simp [Value.ownBlock] at hg, rfl, fun k e => by rw [e]; simp⟩
theorem countT {w : World} {p : Nat} {L : List Nv} {T : Nat → Prop} (h : Nts w p L T) (hM : L.length ≤ 1048576) :
    Calls Try.prog 25 #[.pointer (some ⟨p, 0, none⟩)] w fun e w' => e = .returned (.int .i64 L.length) ∧ w = w' := by
  obtain ⟨v, h⟩ := h
  exact countt w p _ _ h (by omega)
/-- Add, of whatever note, to whatever list. -/
theorem addT (x : Nv) {w : World} {p : Nat} {L : List Nv} {T : Nat → Prop} (h : Nts w p L T) (hM : L.length ≤ 1048576) :
    Calls Try.prog 65 #[.pointer (some ⟨p, 0, none⟩), x.agg] w fun e w' => e = .returned (.int .i64 (addF L x)) ∧ ∃ T', Turn T T' w w' ∧ Nts w' p (addL L x) T' := by
  obtain ⟨s, th, k, r, b, c, d, v⟩ := x
  have hh := h
  have done1 : ∀ z : Int, addF L (s, th, k, r, b, c, d, v) = z → z ≠ 0 → (Calls Try.prog 65 #[.pointer (some ⟨p, 0, none⟩), .agg #[.int .i64 s, .int .i64 th, .int .u8 k, .int .i64 r, .int .i64 b, .int .i64 c, .int .i64 d, .int .i64 v]] w fun e w' => e = .returned (.int .i64 z) ∧ Below w.heap.size w w') →
      Calls Try.prog 65 #[.pointer (some ⟨p, 0, none⟩), (Nv.agg (s, th, k, r, b, c, d, v))] w fun e w' => e = .returned (.int .i64 (addF L (s, th, k, r, b, c, d, v))) ∧ ∃ T', Turn T T' w w' ∧ Nts w' p (addL L (s, th, k, r, b, c, d, v)) T' := by
    intro z hz h0 hcall
    refine hcall.mono fun e w' ⟨he, hb⟩ => ⟨by rw [he, hz], T, ⟨Keeps.of_new hb, fun k s => .inl s⟩, ?_⟩
    unfold addL
    rw [if_neg (by rw [hz]; exact h0)]
    exact hh.new hb
  by_cases hk : iskf k = true
  · obtain ⟨u, h⟩ := h
    obtain ⟨hlen, ⟨rfl, h0⟩ | ⟨g, cap, rfl, _, _, hnc, hc, _⟩⟩ := Lst.of_own h.row
    · have hL : L = [] := List.eq_nil_of_length_eq_zero h0
      subst hL
      have hz : addF [] (s, th, k, r, b, c, d, v) = 0 := by
        unfold addF lowN
        rw [if_neg (by simp [Nv.k, hk]), if_neg (by simp)]
      refine (addt_first s th k r b c d v w p h hk).mono fun e w' ⟨he, T', v', ht, hn⟩ => ⟨by rw [he, hz], T', ht, v', ?_⟩
      unfold addL
      rw [if_pos hz]
      exact hn
    · by_cases hn0 : 0 < L.length
      · obtain ⟨y, hy1, hy2⟩ := last_at hn0
        by_cases hs : s < y.s
        · refine done1 1 ?_ (by decide) (addt_low s th k r b c d v y.s w p _ g cap _ hn0 (by omega) h.c0 h.row hy2 hs hk)
          unfold addF lowN
          rw [hy1, if_pos (.inr (decide_eq_true hs))]
        · have hlo : ¬ (iskf (Nv.k (s, th, k, r, b, c, d, v)) = false ∨ lowN L (s, th, k, r, b, c, d, v) = true) := by
            unfold lowN
            rw [hy1]
            intro e
            rcases e with e | e
            · exact absurd (hk.symm.trans e) (by decide)
            · exact hs (of_decide_eq_true e)
          by_cases hfull : L.length = 1048576
          · refine done1 3 ?_ (by decide) (addt_full s th k r b c d v y.s w p _ g cap _ hfull h.c0 h.row hy2 hs hk)
            unfold addF
            rw [if_neg hlo, if_pos (by omega)]
          · have hz : addF L (s, th, k, r, b, c, d, v) = 0 := by
              unfold addF
              rw [if_neg hlo, if_neg (by omega)]
            refine (addt_more s th k r b c d v y.s w p _ g cap _ hn0 (by omega) h hy2 hs hk).mono fun e w' ⟨he, T', v', ht, hn⟩ => ⟨by rw [he, hz], T', ht, v', ?_⟩
            unfold addL
            rw [if_pos hz]
            rw [rowsN_snoc, List.length_append]
            exact hn
      · have hL : L = [] := List.eq_nil_of_length_eq_zero (by omega)
        subst hL
        exact absurd (h.nil rfl) (by simp)
  · have hk' : iskf k = false := by simpa using hk
    obtain ⟨u, h⟩ := h
    refine done1 1 ?_ (by decide) (addt_kind s th k r b c d v w p _ _ h hk')
    unfold addF
    rw [if_pos (.inl hk')]
/-- A list whose blocks are none older than its own is one as the readers' contracts have it. -/
theorem Nts.isL {w : World} {p : Nat} {L : List Nv} {T : Nat → Prop} (h : Nts w p L T) (hT : ∀ k, T k → p ≤ k) : IsL w p L := by
  obtain ⟨v, h⟩ := h
  obtain ⟨hl, h' | ⟨g, cap, cur, e, hB, r⟩⟩ := h.row
  · exact ⟨v, h.c0, h.f0, ⟨hl, .inl h'⟩, h.nil⟩
  · have := h.own g (by rw [e]; rfl)
    have := hT g this.1
    exact ⟨v, h.c0, h.f0, ⟨hl, .inr ⟨g, cap, cur, e, by omega, r⟩⟩, h.nil⟩
end Go.Proofs.Ytmdofhdjikapgaa
