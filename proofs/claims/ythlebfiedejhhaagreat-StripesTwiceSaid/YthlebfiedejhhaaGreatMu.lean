/- Maps of words by their addresses, as functions; stripes marked, all of them once. -/
import Derived.Test.YthlebfiedejhhaaGreatMk
import Derived.Test.YthlebfiedejhhaaGreatWds
import Derived.Test.YthlebfiedejhhaaGreatHf
namespace Go.Proofs.YthlebfiedejhhaaGreat
open Go.RowKit Go.Maps
set_option linter.unusedVariables false
/-- The map's block has these words: 0 where nothing lies. -/
def Mu (w : World) (m n : Nat) (D : DataW Unit) (f : Int → Int) : Prop := w.ownsMap Tryz.prog 44 (plainElem Tryz.prog 37) m n D ∧ (∀ a, isU a → D.atKey (kA a) (.lit (.int .u64 0)) = .lit (.int .u64 (f a))) ∧ ∀ a, isU a → isU (f a)
theorem zeroU (w : World) : (zeroValue 37).run Tryz.prog w = .ok (.int .u64 0) w := by kernel_rfl
section
variable {w W : World} {m n : Nat} {D : DataW Unit} {f : Int → Int} {a v : Int}
set_option maxRecDepth 100000 in
theorem Mu.look (h : Mu w m n D f) (ha : isU a) : (Instr.lookup 88 (.map (some m)) (.int .u64 a) false).run Tryz.prog w = .ok (.int .u64 (f a)) w := by
  obtain ⟨c, hrun, hat, -⟩ := h.1.lookup_int lawA Tryz.underlying88 Tryz.underlying37 (zeroU w) (keyA ha)
  rw [h.2.1 a ha] at hat
  injection hat with hat
  injection hat with _ hat
  rw [hat]
  exact hrun
theorem Mu.put (h : Mu w m n D f) (ha : isU a) (hv : isU v) (ho : W.ownsMap Tryz.prog 44 (plainElem Tryz.prog 37) m (n + 1) (D.put (kA a) (.lit (.int .u64 v)))) : Mu W m (n + 1) (D.put (kA a) (.lit (.int .u64 v))) (upd f a v) := by
  refine ⟨ho, fun b hb => ?_, fun b hb => ?_⟩
  · by_cases e : b = a
    · subst e
      rw [Maps.atKey_put_same h.1.isMap (kA_key b), upd_same]
    · rw [Maps.atKey_put_other (kA_ne e), upd_other e]
      exact h.2.1 b hb
  · by_cases e : b = a
    · subst e
      rw [upd_same]; exact hv
    · rw [upd_other e]; exact h.2.2 b hb
theorem Mu.keep {S : Nat → Prop} (h : Mu w m n D f) (hk : Keeps S w W) (hS : ¬ S m) : Mu W m n D f := ⟨hk.ownsMap h.1 hS, h.2⟩
theorem Mu.made (w : World) : Mu (w.alloc (.map #[] 0)) w.heap.size 0 (.map []) (fun _ => 0) := ⟨World.ownsMap_made w _ _ _, fun a ha => by rfl, fun a ha => by show isU 0; exact ⟨by decide, by decide⟩⟩
theorem Mu.lt (h : Mu w m n D f) : m < w.heap.size := h.1.lt
end
/-- Each stripe's word is one more. -/
def mkF (f : Int → Int) : List Int → Int → Int
  | [] => f
  | x :: D => mkF (upd f x (IntKind.u64.wrap (f x + 1))) D
theorem mkF_at : ∀ (D : List Int) (f : Int → Int) (a : Int), D.Nodup → mkF f D a = if a ∈ D then IntKind.u64.wrap (f a + 1) else f a
  | [], f, a, _ => by simp [mkF]
  | x :: D, f, a, h => by
    obtain ⟨h1, h2⟩ := List.nodup_cons.mp h
    show mkF (upd f x _) D a = _
    rw [mkF_at D _ a h2]
    by_cases e : a = x
    · subst e
      rw [if_neg h1, upd_same, if_pos (by simp)]
    · rw [upd_other e]
      by_cases hm : a ∈ D
      · rw [if_pos hm, if_pos (by simp [hm])]
      · rw [if_neg hm, if_neg (by simp [e, hm])]
theorem addS_nd {D : List Int} (v : Int) (h : D.Nodup) : (addS D v).Nodup := by
  unfold addS
  split
  · exact h
  · next e =>
    rw [List.nodup_append]
    refine ⟨h, by simp, fun a ha b hb => ?_⟩
    simp at hb
    subst hb
    rintro rfl
    exact e (.inr ha)
theorem strsF_nd (L : List Pv) : (strsF L).Nodup := by
  unfold strsF
  have : ∀ (L : List Pv) (D : List Int), D.Nodup → (L.foldl (fun D p => addS D (versf p.1 p.2)) D).Nodup := by
    intro L
    induction L with
    | nil => intro D h; exact h
    | cons x L ih => intro D h; exact ih _ (addS_nd _ h)
  exact this L [] List.nodup_nil
section
variable {G : Nat → Prop} {w : World} {A : Ad} {V : Wv} {q g : Nat} {D : List Int}
/-- What is left of a Mark behind some steps. -/
def MkR (G : Nat → Prop) (w0 : World) (A : Ad) (F : Int → Int) (q g : Nat) (D : List Int) (c : Int) (k : Nat) (X : World) : Prop := ∃ V, Mw G X A V q (D.drop k) g ∧ mkF V.f (D.drop k) = F ∧ V.cnt ≤ c + k ∧ Kp G w0 X
theorem MkR.step {F : Int → Int} {c : Int} {k : Nat} {X : World} (h : MkR G w A F q g D c k X) (hk : k < D.length) (hD : D.length ≤ 60) (hU : ∀ x, x ∈ D → isU x) (hc : c ≤ 1000000) :
    (Calls Tryz.prog 28 #[.pointer (some ⟨q, 0, none⟩)] X fun e w' => e = .returned (.bool false) ∧ X = w') ∧ Calls Tryz.prog 30 #[.pointer (some ⟨q, 0, none⟩), .pointer (some ⟨A.p, 0, none⟩)] X fun e w' => (∃ b, e = .returned (.bool b)) ∧ MkR G w A F q g D c (k + 1) w' := by
  obtain ⟨V, hm, hF, hcnt, hkp⟩ := h
  have hl : (D.drop (k + 1)).length = D.length - (k + 1) := List.length_drop
  have hd : D.drop k = D[k] :: D.drop (k + 1) := List.drop_eq_getElem_cons hk
  rw [hd] at hm hF
  refine ⟨hm.over (by simp; omega), (mk_step hm (by rw [hl]; omega) (hU _ (List.getElem_mem hk)) (by omega) rfl rfl rfl).mono ?_⟩
  rintro e w' ⟨rfl, hm', hk'⟩
  exact ⟨⟨_, rfl⟩, _, hm', hF, by show V.cnt + 1 ≤ _; omega, Kp.to hkp hk'⟩
set_option maxHeartbeats 2000000 in
set_option maxRecDepth 100000 in
theorem runMk (h : Mw G w A V q D g) (hD : D.length ≤ 60) (hU : ∀ x, x ∈ D → isU x) (hc : V.cnt ≤ 1000000) :
    Calls Tryz.prog 33 #[.pointer (some ⟨A.p, 0, none⟩), .iface 76 (.pointer (some ⟨q, 0, none⟩)), .int .i64 99] w fun e w' => e = .returned (.int .i64 D.length) ∧ (∃ V', WdG G w' A V' ∧ V'.f = mkF V.f D ∧ V'.cnt ≤ V.cnt + D.length) ∧ Kp G w w' := by
  have H0 : Hid (MkR G w A (mkF V.f D) q g D V.cnt 0 w) := Lib.hid ⟨V, by simpa using h, by simp, by omega, Keeps.refl _ _⟩
  have HU := Lib.hid hU
  have HC := Lib.hid hc
  have HD := Lib.hid hD
  clear h hU hc
  generalize V.cnt = c at *
  generalize mkF V.f D = F at *
  go_enter Tryz.func33, Tryz.ntmps33
  go_wp2_with fail
  go_loopw [7] (fun i X => ∃ k : Nat, k ≤ D.length ∧ i = .int .i64 k ∧ MkR G w A F q g D c k X) (fun i _ => D.length - (intOf i).toNat)
  case atStart => exact ⟨0, by omega, rfl, H0.out⟩
  case round =>
    clear H0
    obtain ⟨k, hk, rfl, hR⟩ := hrel
    have d99 : decide ((k : Int) < 99) = true := decide_eq_true (by omega)
    by_cases hlt : k < D.length
    · obtain ⟨c1, c2⟩ := hR.step hlt hD HU.out HC.out
      have C1 := Lib.hid c1
      have C2 := Lib.hid c2
      have HKL := Lib.hid (And.intro hk hlt)
      have hk60 : k < 60 := by omega
      clear hR c1 c2 hk hlt
      go_wp2_with (first
        | (refine C1.out.mono ?_; rintro e w1 ⟨rfl, rfl⟩)
        | (refine C2.out.mono ?_; rintro e w2 ⟨⟨b, rfl⟩, h2⟩))
      have hk := HKL.out
      go_roundw
      case rel => exact ⟨k + 1, by omega, by go_num, h2⟩
      case measure => simp [intOf]; omega
    · obtain rfl : k = D.length := by omega
      obtain ⟨V', hm, hF, hcnt, hkp⟩ := hR
      have hd : D.drop D.length = [] := List.drop_eq_nil_of_le (Nat.le_refl _)
      rw [hd] at hm hF
      have C1 := Lib.hid (hm.over (b := true) rfl)
      have HE := Lib.hid (And.intro hm.wd (And.intro hF (And.intro hcnt hkp)))
      clear hm hF hcnt hkp
      go_wp2_with (refine C1.out.mono ?_; rintro e w1 ⟨rfl, rfl⟩)
      go_ret
      exact ⟨rfl, ⟨V', HE.out.1, HE.out.2.1, HE.out.2.2.1⟩, HE.out.2.2.2⟩
end
end Go.Proofs.YthlebfiedejhhaaGreat
