/- FeedsMend: large. -/
import Derived.Test.YtifbcejekdhnlaaFz
import Derived.Test.YtifbcejekdhnlaaFm
namespace Go.Proofs.Ytifbcejekdhnlaa
open Go.RowKit Go.Maps
set_option linter.unusedVariables false

def largeB (l : List Ev) : Bool := l.any (fun e => decide (e.told = 5))
theorem largeB_no {l : List Ev} (h : ∀ (k : Nat) (e : Ev), l[k]? = some e → e.told ≠ 5) : largeB l = false := by
  unfold largeB
  rw [List.any_eq_false]
  intro e he
  obtain ⟨k, hk⟩ := List.mem_iff_getElem?.mp he
  simp [h k e hk]
theorem largeB_yes {l : List Ev} {k : Nat} {e : Ev} (h : l[k]? = some e) (ht : e.told = 5) : largeB l = true := by
  unfold largeB
  rw [List.any_eq_true]
  exact ⟨e, List.mem_of_getElem? h, by simp [ht]⟩
theorem noLarge {l : List Ev} (h : largeB l = false) : NoLarge l := by
  unfold largeB at h
  rw [List.any_eq_false] at h
  intro e he
  simpa using h e he
theorem evr_at {W : World} {a : Option Addr} {n c k : Nat} {ps : List (Ev × Value)} (h : EvR W (.slice a n c) ps) (hk : k < ps.length) : ∃ p g, ps[k]? = some p ∧ a = some ⟨g, 0, none⟩ ∧ g < W.heap.size ∧ W.cell? ⟨g, k * 13 + 12, none⟩ = some (.int .u8 (p.1.told : Nat)) := by
  obtain ⟨A, c', e, h1, h2, h3⟩ := h.form
  injection e with e1 e2 e3
  subst e1
  obtain ⟨g, e, hg, hc⟩ := h3 (by omega)
  exact ⟨_, g, List.getElem?_eq_getElem hk, e, hg, hc _ _ (rowsE_at ps k 12 _ _ (List.getElem?_eq_getElem hk) rfl)⟩
set_option maxHeartbeats 2000000 in
set_option maxRecDepth 100000 in
theorem largew (A : Option Addr) (c : Nat) (L : List UInt8) (w : World) (hc : L.length ≤ c) (hcm : c ≤ maxLen) (hl : L.length ≤ 1048576) (hrd : Rd w w.heap.size A L) :
    Calls Try.prog 16 #[.slice A L.length c] w fun e w' => e = .returned (.bool (largeB (feedF Fst.new L).2)) ∧ Below w.heap.size w w' := by
  obtain ⟨m, hm⟩ : ∃ m, m = L.length := ⟨_, rfl⟩
  have HM := Lib.hid hm
  rw [← hm] at hc hl ⊢
  clear hm
  go_enter Try.func16, Try.ntmps16
  go_wp2_with fail
  refine (newFd w).mono ?_
  rintro e W0 ⟨rfl, f0, hb0⟩
  obtain ⟨q0, hq0⟩ : ∃ q, w.heap.size = q := ⟨_, rfl⟩
  have HB0 := Lib.hid (And.intro hq0 hb0)
  rw [hq0] at f0 ⊢
  have F0 := Lib.hid f0
  clear f0 hq0 hb0
  go_wp2_with fail
  have hin := inw q0 _ _ _ _ A c L W0 F0.out FOk.new (by have := HM.out; exact ⟨by omega, hcm⟩) (by have := HM.out; omega) ((hrd.below (HB0.out.2.mono (by have := HB0.out.1; omega)) (Nat.le_refl _)).mono HB0.out.2.size) (by
    intro g o e h0 u
    obtain ⟨g', o', e', hg, _⟩ := hrd h0
    rw [e] at e'
    injection e' with e'
    injection e' with e1 _
    have := HB0.out.1
    omega)
  rw [← HM.out] at hin
  refine hin.mono ?_
  clear hin
  rintro e W1 ⟨U1, hv1, kv1, v6, ps, rfl, f1, k1, g1, hp, ev⟩
  have hb01 : Below w.heap.size w W1 := by
    obtain ⟨hq, hb⟩ := HB0.out
    exact hb.trans ((k1.mono (T := fun k => w.heap.size ≤ k) (fun k _ u => by omega)).to_below (fun k _ u => u) hb.size)
  have hn : ps.length ≤ 1048576 := by
    have := feedF_count Fst.new L
    rw [← hp, List.length_map] at this
    have := HM.out
    omega
  have HR := Lib.hid (ev.rd hn)
  obtain ⟨a6, rfl⟩ := ev.form
  have HP := Lib.hid hp
  have HB1 := Lib.hid hb01
  obtain ⟨N, hN⟩ : ∃ N, N = ps.length := ⟨_, rfl⟩
  rw [← hN] at hn ⊢
  have HN := Lib.hid hN
  clear hp ev f1 k1 g1 hb01 hN hrd F0
  go_wp2_with fail
  go_loopw [5] (fun i wr => ∃ k : Nat, k ≤ N ∧ i = .int .i64 k ∧ W1 = wr ∧ Hid (∀ j e, j < k → (feedF Fst.new L).2[j]? = some e → e.told ≠ 5)) (fun i _ => N - (intOf i).toNat)
  case atStart => exact ⟨0, by omega, rfl, rfl, fun j e hj => by omega⟩
  case round =>
    obtain ⟨k, hk, rfl, rfl, hno⟩ := hrel
    by_cases hlt : k < N
    · have hN2 : N ≤ 9223372036854775807 := by omega
      obtain ⟨p, g, hpk, rfl, hg, hc12⟩ := evr_at (k := k) HR.out (by have := HN.out; omega)
      have hek : (feedF Fst.new L).2[k]? = some p.1 := by rw [← HP.out, List.getElem?_map, hpk]; rfl
      have HE := Lib.hid hek
      obtain ⟨t, ht⟩ : ∃ t, p.1.told = t := ⟨_, rfl⟩
      have HT := Lib.hid ht
      rw [ht] at hc12
      clear hek ht hpk
      by_cases h5 : t = 5
      · subst h5
        go_wp2_with fail
        go_ret
        exact ⟨by rw [largeB_yes HE.out HT.out]; rfl, HB1.out⟩
      · have d5 : decide ((t : Int) = 5) = false := decide_eq_false (by omega)
        go_wp2_with fail
        go_roundw
        case rel => exact ⟨k + 1, by omega, by go_num, trivial, fun j e hj he => by
          by_cases hjk : j = k
          · subst hjk
            rw [HE.out] at he
            injection he with he
            subst he
            rw [HT.out]
            exact h5
          · exact hno.out j e (by omega) he⟩
        case measure => simp [intOf]; omega
    · have hd : decide (k < N) = false := decide_eq_false hlt
      go_wp2_with fail
      go_ret
      exact ⟨by rw [largeB_no fun j e hj => hno.out j e (by have h1 := (List.getElem?_eq_some_iff.mp hj).1; rw [← HP.out, List.length_map] at h1; have := HN.out; omega) hj]; rfl, HB1.out⟩
end Go.Proofs.Ytifbcejekdhnlaa
