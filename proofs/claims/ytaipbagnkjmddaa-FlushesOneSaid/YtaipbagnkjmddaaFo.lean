/- A Flush among ticks. -/
import Derived.Test.YtaipbagnkjmddaaGFl
namespace Go.Proofs.Ytaipbagnkjmddaa
open Go.RowKit Go.Maps
set_option linter.unusedVariables false
/-- A Flush of thread 9, n steps done. -/
def FlN (n : Nat) (G : Nat → Prop) (w : World) (A : Ad) (V : Wv) (q : Nat) (d st at_ : Int) : Prop :=
  (n = 0 ∧ FlA G w A V q d (fun p => tkC ((9 : Nat) : Int) 0 false (mV 47 p)) ∧ V.f 0 = 0 ∧ V.f 1 = 0 ∧ V.h = -1) ∨
  (n = 1 ∧ FlA G w A V q d (fun p => tkC ((9 : Nat) : Int) 0 true (mV 70 p)) ∧ V.f 1 = 0 ∧ V.h = -1) ∨
  (n = 2 ∧ FlB G w A V q d ∧ V.f 1 = 0 ∧ V.h = 9) ∨
  (n = 3 ∧ FlG G w A V q (flK st) st at_ ∧ V.f 1 = 0 ∧ V.h = 9) ∨
  (n = 4 ∧ FlD G w A V q (flK st) st at_ ∧ V.h = -1)
section
variable {G : Nat → Prop} {w w' W X : World} {A : Ad} {V V' : Wv} {q n : Nat} {d st at_ now c0 : Int}
theorem FlA.frame {C : Nat → List Value} (h : FlA G w A V q d C) : ∃ U : Nat → Prop, (∀ k, G k → U k) ∧ WdG U w A V ∧ ∀ w' V', WdG U w' A V' → Kp U w w' → FlA G w' A V' q d C := by
  obtain ⟨p, b6, b5, b3, hop, ho, ⟨c6, c5, c3⟩, hne, hG⟩ := h
  have hn : ¬ ((((G p ∨ p = q) ∨ p = b6) ∨ p = b5) ∨ p = b3) := by obtain ⟨S, h1, h2, h3, h4, h5, h6⟩ := hop; exact h5
  refine ⟨_, fun k g => .inl (.inl (.inl (.inl (.inl g)))), hop.wdG, fun w' V' hw hk => ⟨p, b6, b5, b3, Opw.of hw (ob_kp hop.ob hk (.inr rfl)) hn, ob_kp ho hk (.inl (.inl (.inl (.inl (.inr rfl))))), ⟨hk.cell (p := ⟨b6, 0, none⟩) (fun n => n (.inl (.inl (.inl (.inr rfl))))) c6, hk.cell (p := ⟨b5, 0, none⟩) (fun n => n (.inl (.inl (.inr rfl)))) c5, hk.cell (p := ⟨b3, 0, none⟩) (fun n => n (.inl (.inr rfl))) c3⟩, hne, hG⟩⟩
theorem FlB.frame (h : FlB G w A V q d) : ∃ U : Nat → Prop, (∀ k, G k → U k) ∧ WdG U w A V ∧ ∀ w' V', WdG U w' A V' → Kp U w w' → FlB G w' A V' q d := by
  obtain ⟨b5, b3, hw, ho, ⟨c5, c3⟩, hne, hG⟩ := h
  refine ⟨_, fun k g => .inl (.inl (.inl g)), hw, fun w' V' hw hk => ⟨b5, b3, hw, ob_kp ho hk (.inl (.inl (.inr rfl))), ⟨hk.cell (p := ⟨b5, 0, none⟩) (fun n => n (.inl (.inr rfl))) c5, hk.cell (p := ⟨b3, 0, none⟩) (fun n => n (.inr rfl)) c3⟩, hne, hG⟩⟩
theorem FlG.frame {k z c : Int} (h : FlG G w A V q k z c) : ∃ U : Nat → Prop, (∀ k, G k → U k) ∧ WdG U w A V ∧ ∀ w' V', WdG U w' A V' → Kp U w w' → FlG G w' A V' q k z c := by
  obtain ⟨g, b8, b5, hop, ho, ⟨c8, c5⟩, hne, hG⟩ := h
  have hn : ¬ (((G g ∨ g = q) ∨ g = b8) ∨ g = b5) := by obtain ⟨S, h1, h2, h3, h4, h5, h6⟩ := hop; exact h5
  refine ⟨_, fun k g => .inl (.inl (.inl (.inl g))), hop.wdG, fun w' V' hw hk => ⟨g, b8, b5, Opw.of hw (ob_kp hop.ob hk (.inr rfl)) hn, ob_kp ho hk (.inl (.inl (.inl (.inr rfl)))), ⟨hk.cell (p := ⟨b8, 0, none⟩) (fun n => n (.inl (.inl (.inr rfl)))) c8, hk.cell (p := ⟨b5, 0, none⟩) (fun n => n (.inl (.inr rfl))) c5⟩, hne, hG⟩⟩
theorem FlD.frame {k z c : Int} (h : FlD G w A V q k z c) : ∃ U : Nat → Prop, (∀ k, G k → U k) ∧ WdG U w A V ∧ ∀ w' V', WdG U w' A V' → Kp U w w' → FlD G w' A V' q k z c := by
  obtain ⟨hw, ho, hG⟩ := h
  exact ⟨_, fun k g => .inl g, hw, fun w' V' hw hk => ⟨hw, ob_kp ho hk (.inr rfl), hG⟩⟩
theorem FlN.frame (h : FlN n G w A V q d st at_) : ∃ U : Nat → Prop, (∀ k, G k → U k) ∧ WdG U w A V ∧ ∀ w' V', WdG U w' A V' → Kp U w w' → (V'.f 0 = V.f 0 ∧ V'.f 1 = V.f 1 ∧ V'.h = V.h) → FlN n G w' A V' q d st at_ := by
  rcases h with ⟨h0, h, h1, h2, h3⟩ | ⟨h0, h, h2, h3⟩ | ⟨h0, h, h2, h3⟩ | ⟨h0, h, h2, h3⟩ | ⟨h0, h, h3⟩
  · obtain ⟨U, a, b, c⟩ := h.frame
    exact ⟨U, a, b, fun w' V' x y z => .inl ⟨h0, c w' V' x y, by rw [z.1]; exact h1, by rw [z.2.1]; exact h2, by rw [z.2.2]; exact h3⟩⟩
  · obtain ⟨U, a, b, c⟩ := h.frame
    exact ⟨U, a, b, fun w' V' x y z => .inr (.inl ⟨h0, c w' V' x y, by rw [z.2.1]; exact h2, by rw [z.2.2]; exact h3⟩)⟩
  · obtain ⟨U, a, b, c⟩ := h.frame
    exact ⟨U, a, b, fun w' V' x y z => .inr (.inr (.inl ⟨h0, c w' V' x y, by rw [z.2.1]; exact h2, by rw [z.2.2]; exact h3⟩))⟩
  · obtain ⟨U, a, b, c⟩ := h.frame
    exact ⟨U, a, b, fun w' V' x y z => .inr (.inr (.inr (.inl ⟨h0, c w' V' x y, by rw [z.2.1]; exact h2, by rw [z.2.2]; exact h3⟩)))⟩
  · obtain ⟨U, a, b, c⟩ := h.frame
    exact ⟨U, a, b, fun w' V' x y z => .inr (.inr (.inr (.inr ⟨h0, c w' V' x y, by rw [z.2.2]; exact h3⟩)))⟩
/-- What stands between two of the law's steps. -/
def FoV (G : Nat → Prop) (W X : World) (A : Ad) (V : Wv) (q : Nat) (d : Int) (n : Nat) (now st at_ c0 : Int) : Prop := FlN n G X A V q d st at_ ∧ V.f 8 = now ∧ V.cnt ≤ c0 ∧ Kp G W X
theorem FoV.wd (h : FoV G W X A V q d n now st at_ c0) : ∃ U, WdG U X A V := by
  obtain ⟨h, -⟩ := h
  obtain ⟨U, -, hw, -⟩ := h.frame
  exact ⟨U, hw⟩
theorem FoV.isU (h : FoV G W X A V q d n now st at_ c0) : isU now := by
  obtain ⟨U, hw⟩ := h.wd
  rw [← h.2.1]
  exact hw.rng ⟨by decide, by decide⟩
theorem FoV.box (h : FoV G W X A V q d n now st at_ c0) : IsBox X A V.c V.tk V.h := by
  obtain ⟨U, hw⟩ := h.wd
  exact hw.box
theorem FoV.new (h : FoV G W X A V q d n now st at_ c0) (hb : Below X.heap.size X w) : FoV G W w A V q d n now st at_ c0 := by
  obtain ⟨h1, h2, h3, h4⟩ := h
  obtain ⟨U, -, hw, hf⟩ := h1.frame
  exact ⟨hf _ _ (hw.new hb) (Kp.of hb) ⟨rfl, rfl, rfl⟩, h2, h3, Kp.to h4 (Kp.of hb)⟩
theorem fo_peek (h : FoV G W X A V q d n now st at_ c0) : Calls Try.prog 10 #[.pointer (some ⟨A.pc, 0, none⟩), .int .u64 8] X fun e w' => e = .returned (.int .u64 now) ∧ X = w' := by
  obtain ⟨U, hw⟩ := h.wd
  exact fl_gpeek hw ⟨by decide, by decide⟩ h.2.1
theorem fo_last (h : FoV G W X A V q d n now st at_ c0) : Calls Try.prog 17 #[.pointer (some ⟨A.pc, 0, none⟩)] X fun e w' => e = .returned (.agg #[.int .u8 V.k, .int .u64 V.a, .int .u64 V.x, .int .u64 V.y]) ∧ Below X.heap.size X w' := by
  obtain ⟨U, S, ⟨n, SC, SI, SN, ha⟩, -⟩ := h.wd
  exact last_any ha.cel
theorem fo_stepsc (h : FoV G W X A V q d n now st at_ c0) : Calls Try.prog 18 #[.pointer (some ⟨A.p, 0, none⟩)] X fun e w' => e = .returned (.int .i64 V.cnt) ∧ X = w' := by
  obtain ⟨U, S, hw, -⟩ := h.wd
  exact fl_wsteps hw
theorem fo_tick (h : FoV G W X A V q d n now st at_ c0) (hc : c0 < 1000000) : Calls Try.prog 14 #[.pointer (some ⟨A.p, 0, none⟩)] X fun e w' => e = .returned (.tuple #[]) ∧ ∃ V', FoV G W w' A V' q d n (tickf now) st at_ (c0 + 1) := by
  obtain ⟨h1, h2, h3, h4⟩ := h
  obtain ⟨U, hU, hw, hf⟩ := h1.frame
  refine (fl_gtick hw (by omega) rfl).mono ?_
  rintro e w' ⟨he, hw', hk⟩
  refine ⟨he, _, hf _ _ hw' hk ⟨rfl, rfl, rfl⟩, ?_, ?_, Kp.to h4 (hk.less hU)⟩
  · show upd V.f 8 (tickf (V.f 8)) 8 = _
    rw [upd_same, h2]
  · show V.cnt + 1 ≤ c0 + 1
    omega
theorem fo_s0 (h : FoV G W X A V q d 0 now st at_ c0) (hc : c0 < 1000000) : Calls Try.prog 16 #[.pointer (some ⟨q, 0, none⟩), .pointer (some ⟨A.p, 0, none⟩)] X fun e w' => e = .returned (.bool false) ∧ ∃ V', FoV G W w' A V' q d 1 now st at_ (c0 + 1) ∧ V'.a = 0 ∧ V'.h = -1 := by
  obtain ⟨h1, h2, h3, h4⟩ := h
  rcases h1 with ⟨h0, h, h5, h6, h7⟩ | ⟨h0, -⟩ | ⟨h0, -⟩ | ⟨h0, -⟩ | ⟨h0, -⟩
  · refine (fl_s0 (n := 9) (by decide) h (by omega) h5 (u := 1) (by decide)).mono ?_
    rintro e w' ⟨he, h', hk⟩
    exact ⟨he, _, ⟨.inr (.inl ⟨rfl, h', h6, h7⟩), h2, by show V.cnt + 1 ≤ c0 + 1; omega, Kp.to h4 hk⟩, rfl, h7⟩
  all_goals omega
theorem fo_s1 (h : FoV G W X A V q d 1 now st at_ c0) (hc : c0 < 1000000) : Calls Try.prog 16 #[.pointer (some ⟨q, 0, none⟩), .pointer (some ⟨A.p, 0, none⟩)] X fun e w' => e = .returned (.bool false) ∧ ∃ V', FoV G W w' A V' q d 2 now st at_ (c0 + 1) ∧ V'.a = 1 ∧ V'.h = 9 := by
  obtain ⟨h1, h2, h3, h4⟩ := h
  rcases h1 with ⟨h0, -⟩ | ⟨h0, h, h6, h7⟩ | ⟨h0, -⟩ | ⟨h0, -⟩ | ⟨h0, -⟩
  · omega
  · refine (fl_s1 (n := 9) (by decide) h (by omega) h6).mono ?_
    rintro e w' ⟨he, h', hk⟩
    exact ⟨he, _, ⟨.inr (.inr (.inl ⟨rfl, h', h6, rfl⟩)), h2, by show V.cnt + 1 ≤ c0 + 1; omega, Kp.to h4 hk⟩, rfl, rfl⟩
  all_goals omega
theorem fo_s2 (h : FoV G W X A V q d 2 now st at_ c0) (hc : c0 < 1000000) : Calls Try.prog 16 #[.pointer (some ⟨q, 0, none⟩), .pointer (some ⟨A.p, 0, none⟩)] X fun e w' => e = .returned (.bool false) ∧ ∃ V', FoV G W w' A V' q d 3 (flushf now d) now V'.cnt (c0 + 1) ∧ V'.h = 9 := by
  obtain ⟨h1, h2, h3, h4⟩ := h
  rcases h1 with ⟨h0, -⟩ | ⟨h0, -⟩ | ⟨h0, h, h6, h7⟩ | ⟨h0, -⟩ | ⟨h0, -⟩
  · omega
  · omega
  · have hv := flV_f (V := V) (z := now) (d := d) rfl rfl
    refine (fl_s2 h (by omega) h2 (c := (flV V now d).cnt) (by rw [hv.2.2.2.1])).mono ?_
    rintro e w' ⟨he, h', hk⟩
    exact ⟨he, flV V now d, ⟨.inr (.inr (.inr (.inl ⟨rfl, h', by rw [hv.2.1]; exact h6, by rw [hv.2.2.2.2]; exact h7⟩))), hv.2.2.1 h2, by rw [hv.2.2.2.1]; omega, Kp.to h4 hk⟩, by rw [hv.2.2.2.2]; exact h7⟩
  all_goals omega
theorem fo_s3 (h : FoV G W X A V q d 3 now st at_ c0) (hc : c0 < 1000000) : Calls Try.prog 16 #[.pointer (some ⟨q, 0, none⟩), .pointer (some ⟨A.p, 0, none⟩)] X fun e w' => e = .returned (.bool true) ∧ ∃ V', FoV G W w' A V' q d 4 now st at_ (c0 + 1) ∧ V'.h = -1 := by
  obtain ⟨h1, h2, h3, h4⟩ := h
  rcases h1 with ⟨h0, -⟩ | ⟨h0, -⟩ | ⟨h0, -⟩ | ⟨h0, h, h6, h7⟩ | ⟨h0, -⟩
  · omega
  · omega
  · omega
  · refine (fl_s3 h (by omega) h6 (u := 1) (by decide)).mono ?_
    rintro e w' ⟨he, h', hk⟩
    refine ⟨he, _, ⟨.inr (.inr (.inr (.inr ⟨rfl, h', rfl⟩))), ?_, by show V.cnt + 1 ≤ c0 + 1; omega, Kp.to h4 hk⟩, rfl⟩
    show upd V.f 1 1 8 = now
    rw [← h2]; rfl
  · omega
theorem fo_got (h : FoV G W X A V q d 4 now st at_ c0) : Calls Try.prog 20 #[.pointer (some ⟨q, 0, none⟩)] X fun e w' => e = .returned (.tuple #[anV (flK st), .int .u64 st, .int .i64 at_]) ∧ Below X.heap.size X w' := by
  obtain ⟨h1, h2, h3, h4⟩ := h
  rcases h1 with ⟨h0, -⟩ | ⟨h0, -⟩ | ⟨h0, -⟩ | ⟨h0, -⟩ | ⟨h0, h, h6⟩
  · omega
  · omega
  · omega
  · omega
  · exact fl_got h.2.1
theorem fo_h4 (h : FoV G W X A V q d 4 now st at_ c0) : V.h = -1 := by
  obtain ⟨h1, h2, h3, h4⟩ := h
  rcases h1 with ⟨h0, -⟩ | ⟨h0, -⟩ | ⟨h0, -⟩ | ⟨h0, -⟩ | ⟨h0, h, h6⟩
  · omega
  · omega
  · omega
  · omega
  · exact h6
end
end Go.Proofs.Ytaipbagnkjmddaa
