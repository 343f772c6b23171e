/- Marks beside the chapter's, in a pair of worlds. -/
import Derived.Test.YthlebfiedejhhaaGreatGPo
import Derived.Test.YthlebfiedejhhaaGreatGMv
import Derived.Deep.Cut
import Derived.Deep.RegionHeld3
import Derived.Deep.QuietTactic
import Derived.BigQuiet
import Derived.Test.YthlebfiedejhhaaGreatPwA
import Derived.Test.YthlebfiedejhhaaGreatGSt
import Derived.Laws.AppendOwnNone
import Derived.Test.YthlebfiedejhhaaGreatOpen
namespace Go.Proofs.YthlebfiedejhhaaGreat
open Go.RowKit Go.Maps
set_option linter.unusedVariables false
theorem uVers (b k : Int) : isU (versf b k) := by
  unfold versf isU
  split
  · next h =>
    have := strf_range h
    omega
  · omega
theorem strsF_uT (L : List Pv) : ∀ k, ∀ x, x ∈ strsF (L.take k) → isU x
  | 0, x, h => by simp [strsF] at h
  | k + 1, x, h => by
    rcases Nat.lt_or_ge k L.length with hk | hk
    · rw [strsF_snoc (List.getElem?_eq_getElem hk)] at h
      unfold addS at h
      split at h
      · exact strsF_uT L k x h
      · rcases List.mem_append.1 h with h | h
        · exact strsF_uT L k x h
        · simp at h
          subst h
          exact uVers _ _
    · rw [List.take_of_length_le (by omega)] at h
      have := strsF_uT L k x
      rw [List.take_of_length_le hk] at this
      exact this h
theorem strsF_u {L : List Pv} : ∀ x, x ∈ strsF L → isU x := fun x h => strsF_uT L L.length x (by rw [List.take_length]; exact h)
theorem nth_lt {α : Type} {M : List α} {i : Nat} {x : α} (h : M[i]? = some x) : i < M.length := by
  rcases Nat.lt_or_ge i M.length with hi | hi
  · exact hi
  · rw [List.getElem?_eq_none hi] at h; simp at h
/-- A slice of the call's own, of these words, in block g. -/
def RlV (w : World) (v : Value) (D : List Int) (g : Nat) : Prop := (∃ a c, v = .slice a D.length c) ∧ (D ≠ [] → ∃ c, v = .slice (some ⟨g, 0, none⟩) D.length c ∧ D.length ≤ c ∧ ∀ i x, D[i]? = some x → w.cell? ⟨g, i, none⟩ = some (.int .u64 x))
theorem RlV.keep {w W : World} {v : Value} {D : List Int} {g : Nat} {T : Nat → Prop} (h : RlV w v D g) (hk : Keeps T w W) (hT : D ≠ [] → ¬ T g) : RlV W v D g := by
  refine ⟨h.1, fun hD => ?_⟩
  obtain ⟨c, h1, h2, h3⟩ := h.2 hD
  exact ⟨c, h1, h2, fun i x hx => hk.cell (p := ⟨g, i, none⟩) (hT hD) (h3 i x hx)⟩
/-- The chapter's Mark, new. -/
def NwRm (w : World) (D : List Int) (e : Ending) (w' : World) : Prop := ∃ r g v, e = .returned (.pointer (some ⟨r, 0, none⟩)) ∧ RlV w' v D g ∧ Ob w' r [.int .i64 (if D = [] then 0 else 1), v, .int .i64 0] ∧ w.heap.size ≤ r ∧ (D ≠ [] → w.heap.size ≤ g ∧ g < w'.heap.size ∧ g ≠ r) ∧ Below w.heap.size w w'
theorem rnewMk {w : World} {a : Option Addr} {c n : Nat} {L : List Pv} (h : LayP w a n c L) (hM : n ≤ 1000000) :
    Calls Tryz.prog 96 #[.slice a n c] w (NwRm w (strsF L)) := by
  have C := Lib.hid (rstrOf h hM)
  have hl := strsF_len L L.length
  rw [List.take_length, h.1] at hl
  clear h
  generalize strsF L = D at *
  have hD' : D = [] ∨ (D ≠ [] ∧ 0 < D.length) := by cases D <;> simp
  have HL := Lib.hid hl
  clear hl
  go_enter Tryz.func96, Tryz.ntmps96
  go_wp2_with fail
  refine C.out.mono ?_
  rintro e w1 ⟨C0, v, hC0, rfl, hown, hb⟩
  have HB := Lib.hid hb
  have HC := Lib.hid hC0
  obtain ⟨_, ⟨rfl, h0⟩ | ⟨g, cap, rfl, hgB, hg, hnc, hcm, hx⟩⟩ := Lst.of_own hown
  · have hDn : D = [] := List.eq_nil_of_length_eq_zero h0
    subst hDn
    clear hb hown C hD' hC0 h0
    obtain ⟨q, hq⟩ : ∃ q, q = w1.heap.size := ⟨_, rfl⟩
    go_upto_region 2 with (fail)
    generalize hW : World.alloc w1 _ = W
    have bW : Below w1.heap.size w1 W := by rw [← hW]; exact bs_alloc (Below.refl _ _)
    have hO : Ob W q [.int .i64 0, .slice none 0 0, .int .i64 0] := by rw [← hW, hq]; exact ob_at rfl rfl
    rw [← hq]
    have HQ := Lib.hid (show w.heap.size ≤ q by rw [hq]; exact HB.out.size)
    have HO := Lib.hid hO
    have HBW := Lib.hid (below_then HB.out bW)
    have c1 := hO.at_ 1 _ rfl
    clear hW bW hq hO
    go_wp2_with fail
    go_ret
    exact ⟨q, 0, .slice none 0 0, rfl, ⟨⟨_, _, rfl⟩, fun h => absurd rfl h⟩, HO.out, HQ.out, fun h => absurd rfl h, HBW.out⟩
  · rcases hD' with rfl | ⟨hDn, h0⟩
    · clear hb hown C hC0 hnc hcm hgB hg hx
      obtain ⟨q, hq⟩ : ∃ q, q = w1.heap.size := ⟨_, rfl⟩
      go_upto_region 2 with (fail)
      generalize hW : World.alloc w1 _ = W
      have bW : Below w1.heap.size w1 W := by rw [← hW]; exact bs_alloc (Below.refl _ _)
      have hO : Ob W q [.int .i64 0, .slice (some ⟨g, 0, none⟩) 0 cap, .int .i64 0] := by rw [← hW, hq]; exact ob_at rfl rfl
      rw [← hq]
      have HQ := Lib.hid (show w.heap.size ≤ q by rw [hq]; exact HB.out.size)
      have HO := Lib.hid hO
      have HBW := Lib.hid (below_then HB.out bW)
      have c1 := hO.at_ 1 _ rfl
      clear hW bW hq hO
      go_wp2_with fail
      go_ret
      exact ⟨q, 0, .slice (some ⟨g, 0, none⟩) 0 cap, rfl, ⟨⟨_, _, rfl⟩, fun h => absurd rfl h⟩, HO.out, HQ.out, fun h => absurd rfl h, HBW.out⟩
    · have HX := Lib.hid (And.intro hx (And.intro hg (And.intro hnc hgB)))
      have HD := Lib.hid hDn
      obtain ⟨m, hm⟩ : ∃ m, m = D.length := ⟨_, rfl⟩
      have HM := Lib.hid hm
      rw [← hm]
      rw [← hm] at h0
      clear hb hown C hC0 hnc hcm hgB hg hx hDn hm
      obtain ⟨q, hq⟩ : ∃ q, q = w1.heap.size := ⟨_, rfl⟩
      go_upto_region 2 with (fail)
      generalize hW : World.alloc w1 _ = W
      have bW : Below w1.heap.size w1 W := by rw [← hW]; exact bs_alloc (Below.refl _ _)
      have hO : Ob W q [.int .i64 0, .slice (some ⟨g, 0, none⟩) m cap, .int .i64 0] := by rw [← hW, hq]; exact ob_at rfl rfl
      rw [← hq]
      have HQ := Lib.hid (show w1.heap.size = q from hq.symm)
      have HO := Lib.hid hO
      have HBW := Lib.hid bW
      have c1 := hO.at_ 1 _ rfl
      have c0 := hO.at_ 0 _ rfl
      have z0 := hO.fz 0 (by simp)
      have hd : decide ((0 : Int) < (m : Int)) = true := decide_eq_true (by omega)
      have hd2 : decide (0 < m) = true := decide_eq_true h0
      clear hW bW hq hO
      go_wp2_with fail
      go_ret
      have o1 := HO.out.set 0 (.int .i64 1) (by simp) (C' := [.int .i64 1, .slice (some ⟨g, 0, none⟩) m cap, .int .i64 0]) rfl
      have kk := Keeps.setCell (S := fun j => j = q) (Keeps.refl _ W) (p := ⟨q, 0, none⟩) (.inl rfl) (.int .i64 1)
      obtain ⟨hx, hg, hnc, hgB⟩ := HX.out
      have hs := HB.out.size
      have hgq : g ≠ q := by have := HQ.out; omega
      refine ⟨q, g, .slice (some ⟨g, 0, none⟩) m cap, rfl, ⟨⟨_, _, by rw [← HM.out]⟩, fun _ => ⟨cap, by rw [← HM.out], hnc, fun i x hi => ?_⟩⟩, by rw [if_neg HD.out]; exact o1, by have := HQ.out; omega, fun _ => ⟨by have := HC.out; omega, ?_, hgq⟩, bs_set (below_then HB.out HBW.out) (by have := HQ.out; omega)⟩
      · exact kk.cell (p := ⟨g, i, none⟩) hgq ((HBW.out.cell (p := ⟨g, i, none⟩) hg).trans (hx _ _ (rowsU_at hi)).1)
      · have := HBW.out.size
        have := kk.size
        omega
section
variable {G : Nat → Prop} {w : World} {A R : Ad} {V V2 : Wv} {r g : Nat} {D : List Int} {lv : Value} {j : Nat} {x z u : Int}
theorem rm_step0 (h : Hf G w A R V V2) (ho : Ob w r [.int .i64 0, lv, .int .i64 j]) :
    Calls Tryz.prog 29 #[.pointer (some ⟨r, 0, none⟩), .pointer (some ⟨R.p, 0, none⟩)] w (RoP G A R V V2 r [.int .i64 0, lv, .int .i64 j] w) := by
  have c0 := ho.at_ 0 _ rfl
  have HH := Lib.hid (And.intro h ho)
  clear h ho
  go_enter Tryz.func29, Tryz.ntmps29
  go_wp2_with fail
  exact bodyPost_ret (v := .tuple #[]) (by simp [results, Tryz.results29, go_sem]) rfl ⟨rfl, HH.out.1, HH.out.2, Keeps.refl _ _⟩
set_option maxHeartbeats 2000000 in
set_option maxRecDepth 100000 in
theorem rm_step (h : Hf G w A R V V2) (hr : G r) (hg : G g) (hgr : g ≠ r) (ho : Ob w r [.int .i64 1, lv, .int .i64 j]) (hl : RlV w lv D g) (hj : D[j]? = some x) (hx : isU x) (hD : D.length ≤ 1000) (hc : V2.cnt < 100000000) (hz : V2.f x = z) (hu : IntKind.u64.wrap (z + 1) = u) :
    Calls Tryz.prog 29 #[.pointer (some ⟨r, 0, none⟩), .pointer (some ⟨R.p, 0, none⟩)] w (RoP G A R V (V2.acc (upd V2.f x u) 4 x z u) r [.int .i64 (if j + 1 = D.length then 0 else 1), lv, .int .i64 ((j + 1 : Nat) : Int)] w) := by
  subst hz
  have hjl := nth_lt hj
  have hDn : D ≠ [] := fun e => by rw [e] at hjl; simp at hjl
  obtain ⟨c, rfl, hnc, hcell⟩ := hl.2 hDn
  have hd := (Below.refl w.heap.size w).drew
  have C := Lib.hid ((h.new hd).radd (a := x) (v := 1) hc hx hu)
  have HG := Lib.hid (And.intro hr (And.intro hg hgr))
  have HO := Lib.hid ho
  have c0 := ho.at_ 0 _ rfl
  obtain ⟨m, hm⟩ : ∃ m, m = D.length := ⟨_, rfl⟩
  have HM := Lib.hid hm
  rw [← hm] at ho hjl hnc hD ⊢
  have HO2 := Lib.hid ho
  have c1 : w.drew.cell? ⟨r, 1, none⟩ = some (.slice (some ⟨g, 0, none⟩) m c) := ho.at_ 1 _ rfl
  have c2 : w.drew.cell? ⟨r, 2, none⟩ = some (.int .i64 j) := ho.at_ 2 _ rfl
  have l0 : w.drew.cell? ⟨g, j, none⟩ = some (.int .u64 x) := hcell j x hj
  have j0 : (0 : Int) ≤ (j : Int) := by omega
  have j1 : (j : Int) < (m : Int) := by omega
  have hjc : j < c := by omega
  generalize hz : V2.f x = z at *
  generalize hV1 : V2.acc (upd V2.f x u) 4 x z u = V1 at *
  obtain ⟨nl, hnl⟩ : ∃ nl : Int, nl = if j + 1 = m then 0 else 1 := ⟨_, rfl⟩
  rw [← hnl]
  have HNL := Lib.hid hnl
  obtain ⟨J, hJ⟩ : ∃ J : Int, J = ((j + 1 : Nat) : Int) := ⟨_, rfl⟩
  rw [← hJ]
  have hj1 : IntKind.i64.wrap ((j : Int) + 1) = J := by rw [hJ, IntWalk.i64_in _ (by omega)]; rfl
  have HJ1 := Lib.hid hj1
  have HJ := Lib.hid hJ
  clear hV1 h hr hg ho hz hu hl hcell hj hm hgr HO hnl hJ hj1
  go_enter Tryz.func29, Tryz.ntmps29
  go_upto_region 1 with (fail)
  clear c0
  go_wp2_with fail
  go_region_held3 (fun X => X.cell? ⟨r, 1, none⟩ = some (.slice (some ⟨g, 0, none⟩) m c) ∧ X.cell? ⟨r, 2, none⟩ = some (.int .i64 j) ∧ X.cell? ⟨g, j, none⟩ = some (.int .u64 x))
    (first | exact ⟨by assumption, by assumption, by assumption⟩)
    (first | (go_at_call 97; ((with_reducible refine C.out.mono ?_); rintro e w1 ⟨rfl, h1, k1⟩; have H1 := Lib.hid h1; have O1 := Lib.hid ((HO2.out.new hd).keep k1 (fun n => n HG.out.1)); have K1 := Lib.hid (Kp.to (Kp.of hd) (k1.less (G' := fun j => G j ∧ j ≠ r) (fun j g => g.1))); replace l0 := k1.cell (p := ⟨g, j, none⟩) (fun n => n HG.out.2.1) l0; clear c1 c2; have c1 := O1.out.at_ 1 _ rfl; have c2 := O1.out.at_ 2 _ rfl)))
  clear c1 l0 j0 j1 hjc c2
  have hj1 := HJ1.out
  have c2 := O1.out.at_ 2 _ rfl
  have f2 := O1.out.fz 2 (by simp)
  go_upto_region 3 with (fail)
  obtain ⟨h2, k2⟩ := Hf.set (i := 2) H1.out HG.out.1 (.int .i64 J)
  have o2 := O1.out.set 2 (.int .i64 J) (by simp) (C' := [.int .i64 1, .slice (some ⟨g, 0, none⟩) m c, .int .i64 J]) rfl
  have H2 := Lib.hid h2
  have O2 := Lib.hid o2
  have K2 := Lib.hid (Kp.to K1.out k2)
  clear h2 o2 k2 c2 f2 hj1 H1 O1 K1
  generalize hW2 : World.setCell w1 _ _ = W2 at *
  clear hW2
  have s1 := O2.out.at_ 1 _ rfl
  have s2 := O2.out.at_ 2 _ rfl
  by_cases he : j + 1 = m
  · have e1 : (J == (m : Int)) = true := by rw [HJ.out]; simp [he]
    have e2 : decide (J = (m : Int)) = true := by simpa using e1
    have hnl := HNL.out
    rw [if_pos he] at hnl
    subst hnl
    clear he hjl
    go_wp2_with fail
    go_quiet (fail)
    have hbq : Below W2.heap.size W2 (W2.drewN nq) := belowNd (Below.refl _ _) nq
    have H3 := Lib.hid (H2.out.new hbq)
    have O3 := Lib.hid (O2.out.new hbq)
    have K3 := Lib.hid (Kp.to K2.out (Kp.of hbq))
    clear s1 s2 hbq
    generalize W2.drewN nq = W3 at *
    have c0 := O3.out.at_ 0 _ rfl
    have f0 := O3.out.fz 0 (by simp)
    obtain ⟨h4, k4⟩ := Hf.set (i := 0) H3.out HG.out.1 (.int .i64 0)
    have H4 := Lib.hid h4
    have O4 := Lib.hid (O3.out.set 0 (.int .i64 0) (by simp) (C' := [.int .i64 0, .slice (some ⟨g, 0, none⟩) m c, .int .i64 J]) rfl)
    have K4 := Lib.hid (Kp.to K3.out k4)
    clear h4 k4
    go_wp2_with fail
    go_end0
    exact ⟨rfl, H4.out, O4.out, K4.out⟩
  · have e1 : (J == (m : Int)) = false := by rw [HJ.out]; simp; omega
    have e2 : decide (J = (m : Int)) = false := by simpa using e1
    have hnl := HNL.out
    rw [if_neg he] at hnl
    subst hnl
    clear he hjl
    go_wp2_with fail
    go_quiet (fail)
    have hbq : Below W2.heap.size W2 (W2.drewN nq) := belowNd (Below.refl _ _) nq
    have H3 := Lib.hid (H2.out.new hbq)
    have O3 := Lib.hid (O2.out.new hbq)
    have K3 := Lib.hid (Kp.to K2.out (Kp.of hbq))
    clear s1 s2 hbq
    go_wp2_with fail
    go_end0
    exact ⟨rfl, H3.out, O3.out, K3.out⟩
end
end Go.Proofs.YthlebfiedejhhaaGreat
/- Next: A list of operations beside a pair of worlds, as acts go. -/
namespace Go.Proofs.YthlebfiedejhhaaGreat
open Go.RowKit Go.Maps
set_option linter.unusedVariables false
/-- What stands between two acts: the pair; the list; the blocks below B, and P. -/
def PlR (e : TypeId) (size : Nat) (PS : World → Ox → Prop) (B P : Nat) (W : World) (A R : Ad) (X : World) (s : Value) (k : Nat) (c : Int) : Prop :=
  ∃ (V : Wv) (L : List Ox) (G GL : Nat → Prop), Hf G X A R V V ∧ (∀ j, j < B ∨ j = P → G j) ∧ OxL e size PS GL X s L ∧ (∀ j, GL j → G j ∧ ¬ (j < B ∨ j = P)) ∧ Kp (fun j => j < B ∨ j = P) W X ∧ (V.M = [] ∧ V.I.length ≤ 300 ∧ V.cnt ≤ c) ∧ L.length ≤ k
/-- What a step of an operation in a pair leaves. -/
def PoG (PS : World → Ox → Prop) (G : Nat → Prop) (w : World) (A R : Ad) (V : Wv) (x : Ox) (e : Ending) (w' : World) : Prop := e = .returned (.bool true) ∧ ∃ V', Hf G w' A R V' V' ∧ PS w' x ∧ Kp (fun j => G j ∧ ¬ x.own j) w w' ∧ V'.M = V.M ∧ V'.I = V.I ∧ V'.cnt ≤ V.cnt + 1
section
variable {e : TypeId} {size : Nat} {PS : World → Ox → Prop} {B P : Nat} {W X Y X0 : World} {A R : Ad} {s : Value} {k k' : Nat} {c c' : Int}
theorem PlR.new (h : PlR e size PS B P W A R X s k c) (hP : Stab PS) (hb : Below X.heap.size X Y) : PlR e size PS B P W A R Y s k c := by
  obtain ⟨V, L, G, GL, h1, h2, h3, h4, h5, h6, h7⟩ := h
  exact ⟨V, L, G, GL, h1.new hb, h2, h3.keep hP (Keeps.of_new (S := fun _ => False) hb) (fun _ _ s => s), h4, Kp.to h5 (Kp.of hb), h6, h7⟩
theorem PlR.le (h : PlR e size PS B P W A R X s k c) (hk : k ≤ k') (hc : c ≤ c') : PlR e size PS B P W A R X s k' c' := by
  obtain ⟨V, L, G, GL, h1, h2, h3, h4, h5, ⟨a, b, d⟩, h7⟩ := h
  exact ⟨V, L, G, GL, h1, h2, h3, h4, h5, ⟨a, b, by omega⟩, by omega⟩
theorem PlR.kp (h : PlR e size PS B P W A R X s k c) : Kp (fun j => j < B ∨ j = P) W X := by
  obtain ⟨V, L, G, GL, h1, h2, h3, h4, h5, h6, h7⟩ := h
  exact h5
theorem PlR.store (h : PlR e size PS B P W A R X s k c) (hP : Stab PS) (hc : c < 1000000) {a v : Int} (ha : isU a) (hv : isU v) :
    Calls Tryz.prog 21 #[.agg #[.pointer (some ⟨A.p, 0, none⟩), .pointer (some ⟨R.p, 0, none⟩)], .agg #[.int .u64 a, .int .u64 v]] X fun e' w' => e' = .returned (.tuple #[]) ∧ PlR e size PS B P W A R w' s k (c + 1) := by
  obtain ⟨V, L, G, GL, h1, h2, h3, h4, h5, ⟨m1, m2, m3⟩, h7⟩ := h
  refine (h1.pw.store (by omega) ha hv).mono ?_
  rintro e' w' ⟨he, h', hk⟩
  exact ⟨he, _, L, G, GL, h'.hf, h2, h3.keep hP hk (fun j g n => n (h4 j g).1), h4, Kp.to h5 (hk.less h2), ⟨m1, m2, by show V.cnt + 1 ≤ _; omega⟩, h7⟩
theorem PlR.same (h : PlR e size PS B P W A R X s k c) :
    Calls Tryz.prog 15 #[.agg #[.pointer (some ⟨A.p, 0, none⟩), .pointer (some ⟨R.p, 0, none⟩)]] X fun e' w' => e' = .returned (.bool true) ∧ Below X.heap.size X w' := by
  obtain ⟨V, L, G, GL, h1, h2, h3, h4, h5, ⟨m1, m2, m3⟩, h7⟩ := h
  obtain ⟨S, T, hp, -⟩ := h1.pw
  exact pw_same hp (by rw [m1]; decide)
theorem PlR.all (h : PlR e size PS B P W A R X s k c) (hc : c ≤ 1000000) :
    Calls Tryz.prog 13 #[.agg #[.pointer (some ⟨A.p, 0, none⟩), .pointer (some ⟨R.p, 0, none⟩)]] X fun e' w' => e' = .returned (.bool true) ∧ Below X.heap.size X w' := by
  obtain ⟨V, L, G, GL, h1, h2, h3, h4, h5, ⟨m1, m2, m3⟩, h7⟩ := h
  obtain ⟨S, T, hp, -⟩ := h1.pw
  exact pw_all hp m1 m2 (by omega)
/-- The list's slice: of no element, or of some. -/
theorem PlR.form (h : PlR e size PS B P W A R X s k c) : (∃ a cap, s = .slice a 0 cap) ∨ ∃ g n cap, 0 < n ∧ n ≤ cap ∧ n ≤ k ∧ s = .slice (some ⟨g, 0, none⟩) n cap := by
  obtain ⟨V, L, G, GL, h1, h2, h3, h4, h5, h6, h7⟩ := h
  obtain ⟨_, ⟨rfl, h0⟩ | ⟨g, cap, rfl, -, hg, hn, hc, hx⟩⟩ := Lst.of_own h3.row
  · exact .inl ⟨_, _, rfl⟩
  · rcases Nat.eq_zero_or_pos L.length with e | e
    · rw [e]
      exact .inl ⟨_, _, rfl⟩
    · exact .inr ⟨g, L.length, cap, e, hn, h7, rfl⟩
/-- One of them takes a step. -/
theorem PlR.step {g n cap i : Nat} (h : PlR e size PS B P W A R X (.slice (some ⟨g, 0, none⟩) n cap) k c) (hP : Stab PS) (hi : i < n) : ∃ x, PS X x ∧ x.vals.length = size ∧ (∀ Y, Below X.heap.size X Y → ∀ j u, x.vals[j]? = some u → Y.cell? ⟨g, i * size + j, none⟩ = some u) ∧
    ∀ (f : FuncId) (args : Array Value) (Y : World), Below X.heap.size X Y → (∀ (V : Wv) (G : Nat → Prop), Hf G Y A R V V → PS Y x → (∀ j, x.own j → G j) → V.cnt ≤ c → Calls Tryz.prog f args Y (PoG PS G Y A R V x)) → Calls Tryz.prog f args Y fun e' w' => e' = .returned (.bool true) ∧ PlR e size PS B P W A R w' (.slice (some ⟨g, 0, none⟩) n cap) k (c + 1) ∧ Kp (fun j => X.heap.size ≤ j ∧ j < Y.heap.size) Y w' ∧ ∀ j u, x.vals[j]? = some u → w'.cell? ⟨g, i * size + j, none⟩ = some u := by
  obtain ⟨V, L, G, GL, h1, h2, h3, h4, h5, ⟨m1, m2, m3⟩, h7⟩ := h
  have lt0 := h1.lts
  have hln : L.length = n := by
    obtain ⟨_, ⟨h, h0⟩ | ⟨g', cap', h, -⟩⟩ := Lst.of_own h3.row
    · simp at h
    · simp at h
      exact h.2.1.symm
  obtain ⟨x, hx⟩ : ∃ x, L[i]? = some x := ⟨_, List.getElem?_eq_getElem (by omega)⟩
  have hxm := List.mem_of_getElem? hx
  have lies : ∀ Y, OxL e size PS GL Y (.slice (some ⟨g, 0, none⟩) n cap) L → ∀ j u, x.vals[j]? = some u → Y.cell? ⟨g, i * size + j, none⟩ = some u := fun Y hY j u hu => by
    obtain ⟨g', cap', hs, -, -, -, hat⟩ := hY.at_ hx
    simp at hs
    obtain ⟨rfl, -, rfl⟩ := hs
    exact hat j u hu
  refine ⟨x, (h3.all x hxm).1, h3.len x hxm, fun Y hb => lies Y (h3.keep hP (Keeps.of_new (S := fun _ => False) hb) (fun _ _ s => s)), fun f args Y hb HS => ?_⟩
  have h3' := h3.keep hP (Keeps.of_new (S := fun _ => False) hb) (fun _ _ s => s)
  have ho : ∀ j, x.own j → G j := fun j o => (h4 j ((h3.all x hxm).2 j o)).1
  refine (HS V _ (h1.addN hb) (h3'.all x hxm).1 (fun j o => .inl (ho j o)) m3).mono ?_
  rintro e' w' ⟨he, V', hf, hx', hk, r1, r2, r3⟩
  have hk' : Kp (fun j => j < B ∨ j = P) Y w' := hk.less (fun j hj => ⟨.inl (h2 j hj), fun o => (h4 j ((h3.all x hxm).2 j o)).2 hj⟩)
  have h3'' := h3'.step hP hx hk (fun j g n => Classical.byContradiction (fun no => n ⟨.inl (h4 j g).1, no⟩)) hx'
  exact ⟨he, ⟨V', L, G, GL, hf.less (fun j g => .inl g), h2, h3'', h4, Kp.to (Kp.to h5 (Kp.of hb)) hk', ⟨r1.trans m1, by rw [r2]; exact m2, by omega⟩, h7⟩, hk.less (fun j hj => ⟨.inr hj, fun o => by have := lt0 j (ho j o); omega⟩), lies w' h3''⟩
/-- One more. -/
theorem PlR.app {V : Wv} {L : List Ox} {G GL : Nat → Prop} (hP : Stab PS) (h1 : Hf G X0 A R V V) (h2 : ∀ j, j < B ∨ j = P → G j) (h3 : OxL e size PS GL X0 s L) (h4 : ∀ j, GL j → G j ∧ ¬ (j < B ∨ j = P)) (h5 : Kp (fun j => j < B ∨ j = P) W X0) (h6 : V.M = [] ∧ V.I.length ≤ 300 ∧ V.cnt ≤ c) (h7 : L.length ≤ k) (hb : Below X0.heap.size X0 X) {x : Ox} (hx : PS X x) (hn : x.vals.length = size) (hxo : ∀ j, x.own j → X0.heap.size ≤ j ∧ j < X.heap.size) {o : Obj} {g cap : Nat} (hown : Y.ownsRow 0 e size (.slice (some ⟨g, 0, none⟩) (L.length + 1) cap) (L.length + 1) (rowsX L ++ x.vals)) (hgr : (X.alloc o).grownBy Y s.ownBlock) (hat : s.ownBlock = some g ∨ g = X.heap.size + 1) (hlt : g < Y.heap.size) :
    PlR e size PS B P W A R Y (.slice (some ⟨g, 0, none⟩) (L.length + 1) cap) (k + 1) c := by
  have lt0 := h1.lts
  have hbo : Below X.heap.size X (X.alloc o) := bs_alloc (Below.refl _ _)
  have hbx : Below X0.heap.size X0 (X.alloc o) := below_then hb hbo
  have hsz := hb.size
  have hF := (h1.addN hb).new hbo
  have hL := (h3.keep hP (Keeps.of_new (S := fun _ => False) hbx) (fun _ _ s => s)).more (G' := fun j => GL j ∨ (X0.heap.size ≤ j ∧ j < X.heap.size)) (fun j g => .inl g)
  have hGL : ∀ j, GL j → j < X0.heap.size := fun j g => lt0 j (h4 j g).1
  have r := hL.app hP (x := x) (hP _ _ _ _ hx (Keeps.of_new (S := fun _ => False) hbo) (fun _ _ s => s)) hn (fun j oj => ⟨.inr (hxo j oj), fun y hy yo => by
    have := hGL j ((h3.all y hy).2 j yo); have := hxo j oj; omega, fun es => by
    have := hGL j (h3.gin j es).1; have := hxo j oj; omega⟩) (fun j gj => by
    rcases gj with gj | gj
    · have := hGL j gj; simp; omega
    · simp; omega) hown hgr (by
    rcases hat with h | h
    · exact .inl h
    · right; simp; omega)
  obtain ⟨r1, r2⟩ := r
  have hsG : ∀ j, s.ownBlock = some j → GL j := fun j es => (h3.gin j es).1
  have hg' : (G g ∨ (X0.heap.size ≤ g ∧ g < X.heap.size)) ∨ (X.alloc o).heap.size ≤ g := by
    rcases hat with h | h
    · exact .inl (.inl (h4 g (hsG g h)).1)
    · right; simp; omega
  refine ⟨V, L ++ [x], _, _, hF.addK r2 (fun j es => .inl (h4 j (hsG j es)).1) hg' hlt, fun j hj => .inl (.inl (h2 j hj)), by simpa using r1, fun j gj => ?_, Kp.to (Kp.to h5 (Kp.of hbx)) (r2.mono (fun j _ es hj => (h4 j (hsG j es)).2 hj)), h6, by simp; omega⟩
  have far : ∀ j, X0.heap.size ≤ j → ¬ (j < B ∨ j = P) := fun j hj hh => by
    have := lt0 j (h2 j hh)
    omega
  rcases gj with (gj | gj) | rfl
  · exact ⟨.inl (.inl (h4 j gj).1), (h4 j gj).2⟩
  · exact ⟨.inl (.inr gj), far j gj.1⟩
  · refine ⟨.inr rfl, ?_⟩
    rcases hat with h | h
    · exact (h4 _ (hsG _ h)).2
    · exact far _ (by omega)
/-- At first. -/
theorem PlR.first {V : Wv} {G : Nat → Prop} (h1 : Hf G X A R V V) (h2 : ∀ j, j < B ∨ j = P → G j) (hM : V.M = []) (hI : V.I.length ≤ 300) (hc : V.cnt ≤ c) : PlR e size PS B P X A R X (.slice none 0 0) 0 c :=
  ⟨V, [], G, fun _ => False, h1, h2, OxL.nil _ _ _ _ _, fun j h => h.elim, Keeps.refl _ _, ⟨hM, hI, hc⟩, Nat.le_refl _⟩
end
end Go.Proofs.YthlebfiedejhhaaGreat
/- Next: Lists of places that came in: their cells, their copy; a row of words that is set to nought. -/
namespace Go.Proofs.YthlebfiedejhhaaGreat
open Go.RowKit
set_option linter.unusedVariables false
theorem reads_places {w : World} {a : Option Addr} {len cap : Nat} (h : Reads Tryz.prog w 73 (.slice a len cap)) : (a = none → len = 0 ∧ cap = 0) ∧ len ≤ cap ∧ cap ≤ maxLen ∧ ∃ L, LayP w a len cap L := by
  rcases Reads.slice (n := 9) (e := 41) (ks := [.inl .i64, .inl .i64]) Tryz.underlying73 (by kernel_rfl) h with ⟨rfl, rfl, rfl⟩ | ⟨b, off, sp, rfl, h1, h2, h3, h4⟩
  · exact ⟨fun _ => ⟨rfl, rfl⟩, Nat.le_refl _, by unfold maxLen; omega, [], rfl, fun i b k hx => by simp at hx⟩
  · refine ⟨fun h => by simp at h, h1, h2, ?_⟩
    have hcc : Tryz.prog.cellsOf 41 = 2 := by kernel_rfl
    have hex : ∀ m, m ≤ len → ∃ L : List Pv, L.length = m ∧ ∀ i b' k, L[i]? = some (b', k) → w.cell? ⟨b, off + i * 2, none⟩ = some (.int .i64 b') ∧ w.cell? ⟨b, off + i * 2 + 1, none⟩ = some (.int .i64 k) := by
      intro m
      induction m with
      | zero => exact fun _ => ⟨[], rfl, fun i b k hx => by simp at hx⟩
      | succ m ih =>
        intro hm
        obtain ⟨L, hL, hc⟩ := ih (by omega)
        obtain ⟨l, hl, hll, hx⟩ := h4 m (by omega)
        obtain ⟨_, _, rfl, ⟨x, rfl, wx⟩, g1⟩ := all2_cons hl
        obtain ⟨_, _, rfl, ⟨y, rfl, wy⟩, g2⟩ := all2_cons g1
        obtain rfl := all2_nil g2
        rw [hcc] at hx
        refine ⟨L ++ [(x, y)], by simp [hL], fun i b' k hi => ?_⟩
        by_cases e : i < m
        · exact hc i b' k (by rw [List.getElem?_append_left (by omega)] at hi; exact hi)
        · have hi' : i = m := by
            rcases Nat.lt_or_ge i (m + 1) with h | h
            · omega
            · rw [List.getElem?_eq_none (by simp; omega)] at hi; simp at hi
          subst hi'
          rw [List.getElem?_append_right (by omega), hL, Nat.sub_self] at hi
          simp at hi
          obtain ⟨rfl, rfl⟩ := hi
          exact ⟨hx 0 _ rfl, hx 1 _ rfl⟩
    obtain ⟨L, hL, hc⟩ := hex len (Nat.le_refl _)
    refine ⟨L, hL, fun i b' k hi => ?_⟩
    have hil : i < L.length := by
      rcases Nat.lt_or_ge i L.length with h | h
      · exact h
      · rw [List.getElem?_eq_none h] at hi; simp at hi
    rw [h3 (by omega) (by omega)]
    exact ⟨b, off, rfl, h1, hc i b' k hi⟩
theorem LayP.row {w : World} {ad : Addr} {n c : Nat} {L : List Pv} (h : LayP w (some ad) n c L) : ∀ j u, (rowsP L)[j]? = some u → w.cell? (ad.add j) = some u := by
  intro j u hj
  have hjl : j < L.length * 2 := by
    rw [← rowsP_len]
    rcases Nat.lt_or_ge j (rowsP L).length with h | h
    · exact h
    · rw [List.getElem?_eq_none h] at hj; simp at hj
  obtain ⟨⟨b, k⟩, hx⟩ : ∃ x, L[j / 2]? = some x := ⟨_, List.getElem?_eq_getElem (by omega)⟩
  obtain ⟨g, o, e, hn, c0, c1⟩ := h.2 _ _ _ hx
  injection e with e
  subst e
  have hL : L[j / 2]'(by omega) = (b, k) := by rw [List.getElem?_eq_getElem (by omega)] at hx; simpa using hx
  have ha := rowsP_at L (j / 2) (j % 2) (by omega) (Nat.mod_lt _ (by omega))
  rw [show j / 2 * 2 + j % 2 = j by omega, hj, hL] at ha
  rw [Addr.add_lit]
  rcases Nat.mod_two_eq_zero_or_one j with e | e
  · rw [e] at ha
    simp [Pv.cells] at ha
    subst ha
    rw [show o + j = o + j / 2 * 2 by omega]
    exact c0
  · rw [e] at ha
    simp [Pv.cells] at ha
    subst ha
    rw [show o + j = o + j / 2 * 2 + 1 by omega]
    exact c1
theorem LayP.of {w : World} {a : Option Addr} {n c : Nat} {L : List Pv} (h : LieG w a c n (rowsP L)) (hn : n = L.length) : LayP w a n c L := by
  refine ⟨hn.symm, fun i b k hx => ?_⟩
  obtain ⟨g, rfl, hg, hi, hnc, c0, c1⟩ := h.place hn hx
  exact ⟨g, 0, rfl, hnc, by rw [Nat.zero_add]; exact c0, by rw [Nat.zero_add]; exact c1⟩
theorem pv_one {L : List Pv} {u : Value} (h : u ∈ rowsP L) : u.oneCell' = true := by
  simp only [rowsP, List.mem_flatMap] at h
  obtain ⟨x, _, hu⟩ := h
  simp [Pv.cells] at hu
  rcases hu with rfl | rfl <;> rfl
/-- 'append([]Place(nil), l...)'. -/
theorem wpList_copy_places (w : World) {ops : Array Oper} {rest : List Oper} {o : Oper} {a : Act} {Q : Exit → Act → World → Prop} (hgd : o.guard = none) (s x : Operand)
    (ho : o.op = .call { callee := .builtin .append, args := #[s, x], argTypes := #[73, 73] })
    (hs : a.eval s = .slice none 0 0) (A : Option Addr) (n c : Nat) (L : List Pv) (hx : a.eval x = .slice A n c) (hr : LayP w A n c L) (hc0 : A = none → n = 0 ∧ c = 0) (hn : n ≤ 1000000)
    (h : ∀ v' w', w'.ownsRow w.heap.size 41 2 v' n (rowsP L) → Below w.heap.size w w' → wpList Tryz.prog ops Q rest (a.put o.dst v') w') : wpList Tryz.prog ops Q (o :: rest) a w := by
  obtain ⟨i0, hi, hz0, hz1, hz2⟩ := info_parts info_place
  have hnil : w.ownsRow w.heap.size 41 2 (.slice none 0 0) 0 [] := World.ownsRow_nil _ _ _ _
  cases A with
  | none =>
    obtain ⟨rfl, rfl⟩ := hc0 rfl
    obtain rfl : L = [] := List.eq_nil_of_length_eq_zero hr.1
    refine wpList_append_own_none hgd s x _ ho w.heap.size 41 i0 2 Tryz.underlying73 hi _ _ _ hs hnil hx ?_
    exact h _ w hnil (Below.refl _ _)
  | some ad =>
    refine wpList_append_own w hgd s x _ ho w.heap.size 41 i0 (.agg #[.int .i64 0, .int .i64 0]) 2 16 Tryz.underlying73 hi hz0 hz1 hz2 rfl (by decide) _ _ _ hs hnil ad n c (rowsP L) hx (by rw [rowsP_len, hr.1]) hr.row (fun u hu => pv_one hu) (by unfold maxLen; omega) (by omega) (Nat.le_refl _) ?_
    intro v' w' h1 h2 h3
    refine h v' w' (by simpa using h1) ((Below.refl w.heap.size w).grown h2 (by simp) (fun k hk => by simp [Value.ownBlock] at hk))
/-- A row of words, from the k-th on; all else stands. -/
def SoA (w1 w3 X : World) (a2 : Option Addr) (D : List Int) (k : Nat) : Prop := Below w1.heap.size w1 X ∧ Keeps (fun j => a2 = some ⟨j, 0, none⟩) w3 X ∧ ∀ j x, k ≤ j → D[j]? = some x → ∃ g, a2 = some ⟨g, 0, none⟩ ∧ w1.heap.size ≤ g ∧ X.cell? ⟨g, j, none⟩ = some (.int .u64 x) ∧ X.frozen? ⟨g, j, none⟩ = false
theorem SoA.start {w1 w2 w3 : World} {a2 : Option Addr} {m n : Nat} {D : List Int} (hm : m = D.length) (h : Lst w2 w1.heap.size 1 (.slice a2 m n) m (rowsU D)) (h2 : Below w1.heap.size w1 w2) (h3 : Below w2.heap.size w2 w3) : SoA w1 w3 w3 a2 D 0 := by
  refine ⟨h2.trans (h3.mono h2.size), Keeps.refl _ _, fun j x _ hx => ?_⟩
  have hj : j < D.length := by
    rcases Nat.lt_or_ge j D.length with h | h
    · exact h
    · rw [List.getElem?_eq_none h] at hx; simp at hx
  obtain ⟨_, ⟨e, h0⟩ | ⟨g, cap, e, hB, hg, hn, hc, hx'⟩⟩ := h
  · omega
  · injection e with e1 e2 e3
    obtain ⟨q0, q1⟩ := hx' j _ (rowsU_at hx)
    have hk : Keeps (fun _ => False) w2 w3 := Keeps.of_new h3
    exact ⟨g, e1, hB, hk.cell (p := ⟨g, j, none⟩) (by simp) q0, hk.frozen (p := ⟨g, j, none⟩) (by simp) hg q1⟩
theorem SoA.drew {w1 w3 X : World} {a2 : Option Addr} {D : List Int} {k : Nat} (h : SoA w1 w3 X a2 D k) : SoA w1 w3 X.drew a2 D k := ⟨h.1.drew, h.2.1.drew, h.2.2⟩
theorem SoA.drewN {w1 w3 X : World} {a2 : Option Addr} {D : List Int} {k : Nat} (h : SoA w1 w3 X a2 D k) (n : Nat) : SoA w1 w3 (X.drewN n) a2 D k := by
  induction n with
  | zero => exact h
  | succ n ih => exact ih.drew
theorem SoA.set {w1 w3 X : World} {g : Nat} {D : List Int} {k : Nat} (h : SoA w1 w3 X (some ⟨g, 0, none⟩) D k) (hg : w1.heap.size ≤ g) (u : Value) : SoA w1 w3 (X.setCell ⟨g, k, none⟩ u) (some ⟨g, 0, none⟩) D (k + 1) := by
  obtain ⟨h1, h2, h3⟩ := h
  refine ⟨(Keeps.setCell (S := fun k => w1.heap.size ≤ k) (Keeps.of_below h1) (p := ⟨g, k, none⟩) (.inl hg) u).to_below (fun _ _ s => s) (Nat.le_refl _), h2.setCell (p := ⟨g, k, none⟩) (.inl rfl) u, fun j x hj hx => ?_⟩
  obtain ⟨g', e, q0, q1, q2⟩ := h3 j x (by omega) hx
  injection e with e
  injection e with e
  subst e
  exact ⟨g, rfl, q0, set_other (by omega) q1, by rw [World.frozen?_setCell]; exact q2⟩
theorem SoA.row {w1 w3 X : World} {a2 a3 : Option Addr} {D : List Int} {k c m : Nat} (h : SoA w1 w3 X a2 D k) (hb : LieG w3 a3 c m (rowsU D)) (hne : 0 < m → ∀ g, a3 = some ⟨g, 0, none⟩ → a2 ≠ some ⟨g, 0, none⟩) : LieG X a3 c m (rowsU D) := by
  intro hm
  obtain ⟨g, rfl, q1, q2, q3⟩ := hb hm
  exact ⟨g, rfl, Nat.lt_of_lt_of_le q1 h.2.1.size, q2, fun j u hu => h.2.1.cell (p := ⟨g, j, none⟩) (hne hm g rfl) (q3 j u hu)⟩
/-- In a region that draws: the one operation that may come up is a call. -/
theorem wpAnyH_one {P : Program} {ops : Array Oper} {Q : Exit → Act → World → Prop} {md : Region.Mode} {S : World → Prop} {fuel : Nat} {listed : Array Bool} {a : Act} {w : World} {i : Nat} {o : Oper} (hr : Region.ready md ops listed = [i]) (ho : ops[i]? = some o) (hw : Region.wanted o (yielded ops a.tmps) = true) (h : o.wp P a w (fun a' w' => S w' ∧ wpAnyH P md ops Q S fuel (listed.setIfInBounds i true) a' w') Q) : wpAnyH P md ops Q S (fuel + 1) listed a w :=
  wpAnyH_all hr (by simp) (fun j hj => by
    obtain rfl : j = i := by simpa using hj
    unfold wpOp
    simp only [ho]
    rw [if_pos hw]
    exact .inl h)
theorem wpAnyH_call {P : Program} {ops : Array Oper} {Q : Exit → Act → World → Prop} {md : Region.Mode} {S : World → Prop} {fuel : Nat} {listed : Array Bool} {a : Act} {w : World} {i : Nat} {o : Oper} {R : World → Prop} (hr : Region.ready md ops listed = [i]) (ho : ops[i]? = some o) (hw : Region.wanted o (yielded ops a.tmps) = true) (f : FuncId) (args : Array Value) (he : (execOp a.eval o).run P w = .ok (.enter f args) w) (v : Value) (hc : Calls P f args w fun e w' => e = .returned v ∧ R w') (h : ∀ w', R w' → S w' ∧ wpAnyH P md ops Q S fuel (listed.setIfInBounds i true) (a.put o.dst v) w') : wpAnyH P md ops Q S (fuel + 1) listed a w :=
  wpAnyH_one hr ho hw (by
    unfold Oper.wp
    rw [he, Oper.upon_enter]
    exact hc.mono (by rintro e w' ⟨rfl, hR⟩; exact h w' hR))
end Go.Proofs.YthlebfiedejhhaaGreat
/- Next: Marks beside the chapter's: what stands of one; a step of the program's; how one begins. -/
namespace Go.Proofs.YthlebfiedejhhaaGreat
open Go.RowKit Go.Maps
set_option linter.unusedVariables false
def SmS (w : World) (x : Ox) : Prop := ∃ (q r g gl : Nat) (D : List Int) (j : Nat) (v lv : Value), x.vals = [.pointer (some ⟨q, 0, none⟩), .pointer (some ⟨r, 0, none⟩)] ∧ x.own = (fun k => k = q ∨ k = r ∨ (D ≠ [] ∧ (k = g ∨ k = gl))) ∧ (q ≠ r ∧ (D ≠ [] → g ≠ q ∧ g ≠ r ∧ gl ≠ q ∧ gl ≠ r)) ∧ (j ≤ D.length ∧ D.length ≤ 1000 ∧ ∀ x, x ∈ D → isU x) ∧ Ob w q [v] ∧ MkV w v (D.drop j) g ∧ Ob w r [.int .i64 (if j < D.length then 1 else 0), lv, .int .i64 j] ∧ RlV w lv D gl
theorem drop_ne {D : List Int} {j : Nat} (h : D.drop j ≠ []) : D ≠ [] := fun e => by subst e; simp at h
theorem stabSm : Stab SmS := by
  intro w W x U ⟨q, r, g, gl, D, j, v, lv, hv, ho, hn, hd, h1, h2, h3, h4⟩ hk hU
  have uq := hU q (by rw [ho]; exact .inl rfl)
  have ur := hU r (by rw [ho]; exact .inr (.inl rfl))
  exact ⟨q, r, g, gl, D, j, v, lv, hv, ho, hn, hd, h1.keep hk uq, h2.keep hk (fun e => hU g (by rw [ho]; exact .inr (.inr ⟨drop_ne e, .inl rfl⟩))), h3.keep hk ur, h4.keep hk (fun e => hU gl (by rw [ho]; exact .inr (.inr ⟨e, .inr rfl⟩)))⟩
section
variable {G G' : Nat → Prop} {w : World} {A R : Ad} {V V2 : Wv} {q g : Nat} {C : List Value} {D : List Int} {v : Value} {x z u : Int} {b : Bool}
theorem Opw.lessG (h : Opw G' w A V q C) (hG : ∀ k, G k → G' k) : Opw G w A V q C := by
  obtain ⟨S, h1, h2, h3, h4, h5, h6⟩ := h
  exact ⟨S, h1, fun k g => h2 k (hG k g), h3, h4, fun g => h5 (hG _ g), fun k g => h6 k (hG k g)⟩
theorem mk_stepH (h : Hf G w A R V V2) (hq : G q) (hg : G g) (hgq : g ≠ q) (ho : Ob w q [v]) (hv : MkV w v (x :: D) g) (hD : D.length ≤ 1000000) (hx : isU x) (hc : V.cnt < 100000000) (hz : V.f x = z) (hu : IntKind.u64.wrap (z + 1) = u) (hb : ((D.length : Int) == 0) = b) :
    Calls Tryz.prog 30 #[.pointer (some ⟨q, 0, none⟩), .pointer (some ⟨A.p, 0, none⟩)] w fun e w' => e = .returned (.bool b) ∧ Hf G w' A R (V.acc (upd V.f x u) 4 x z u) V2 ∧ (∃ v', Ob w' q [v'] ∧ MkV w' v' D g) ∧ Kp (fun j => G j ∧ j ≠ q) w w' := by
  obtain ⟨T, h1, h2⟩ := h.opw hq ho
  have hM : Mw (fun k => (G k ∧ k ≠ q) ∨ T k) w A V q (x :: D) g := ⟨v, _, fun k h => h, hv, fun _ => .inl ⟨hg, hgq⟩, h1⟩
  refine (mk_step hM hD hx hc hz hu hb).mono ?_
  rintro e w' ⟨he, ⟨v', G', hGG, hv', -, hO⟩, hk⟩
  obtain ⟨a, b, c⟩ := h2 w' _ _ (hO.lessG hGG) hk
  exact ⟨he, a, ⟨v', b, hv'⟩, c⟩
end
/-- How one begins: of places that are copied, and spoilt behind it. -/
def NwSm (w : World) (e : Ending) (w' : World) : Prop := ∃ (x : Ox) (v0 v1 : Value), e = .returned (.agg #[v0, v1]) ∧ x.vals = [v0, v1] ∧ SmS w' x ∧ (∀ k, x.own k → w.heap.size ≤ k ∧ k < w'.heap.size) ∧ Below w.heap.size w w'
set_option maxHeartbeats 2000000 in
set_option maxRecDepth 100000 in
theorem begin12 {w : World} {a : Option Addr} {c n : Nat} {L : List Pv} (h : LayP w a n c L) (hc0 : a = none → n = 0 ∧ c = 0) (hn : n ≤ 20) :
    Calls Tryz.prog 27 #[.slice a n c] w (NwSm w) := by
  obtain ⟨F, hF⟩ : ∃ F, F = w.heap.size := ⟨_, rfl⟩
  have HL := Lib.hid h
  have HC0 := Lib.hid hc0
  clear h hc0
  go_enter Tryz.func27, Tryz.ntmps27
  go_upto_region 1 with (fail)
  generalize hW : World.alloc w _ = W
  have bW : Below w.heap.size w W := by rw [← hW]; exact bs_alloc (Below.refl _ _)
  have f0 : W.cell? ⟨F, 0, none⟩ = some (.pointer none) := by rw [← hW, hF]; exact new_at rfl rfl
  have f1 : W.cell? ⟨F, 1, none⟩ = some (.pointer none) := by rw [← hW, hF]; exact new_at rfl rfl
  have y0 : W.frozen? ⟨F, 0, none⟩ = false := by rw [← hW, hF]; simp
  have y1 : W.frozen? ⟨F, 1, none⟩ = false := by rw [← hW, hF]; simp
  have hFW : F < W.heap.size := by rw [← hW, hF]; simp
  have HF := Lib.hid (And.intro f0 (And.intro f1 (And.intro y0 (And.intro y1 hFW))))
  have HFw := Lib.hid hF
  have HBW := Lib.hid bW
  have HLW := Lib.hid (HL.out.new bW)
  rw [← hF]
  clear hW bW f0 f1 y0 y1 hFW hF
  go_upto_region 2 with (at_builtin; refine wpList_copy_places _ rfl _ _ rfl rfl a n c L rfl HLW.out HC0.out (by omega) ?_; intro v' w1 hown K1)
  have HB1 := Lib.hid K1
  obtain ⟨at', ct, rfl, hnc, hcm, h0t, hlie⟩ := LieG.of (Lst.of_own hown)
  have HCT := Lib.hid hcm
  have hlst := Lst.of_own hown
  have hLn := HLW.out.1
  have CN := Lib.hid (newMark (LayP.of hlie hLn.symm) (by omega))
  have HU := Lib.hid (strsF_u (L := L))
  have HLS := Lib.hid (show (strsF L).length ≤ 1000 by have := strsF_len L L.length; rw [List.take_length] at this; omega)
  obtain ⟨tb, hT⟩ : ∃ tb, 0 < n → at' = some ⟨tb, 0, none⟩ ∧ W.heap.size ≤ tb ∧ tb < w1.heap.size ∧ ∀ j, j < n * 2 → ∃ u, w1.cell? ⟨tb, j, none⟩ = some u ∧ w1.frozen? ⟨tb, j, none⟩ = false := by
    obtain ⟨hl, ⟨-, h0⟩ | ⟨tb, cap, e, hB, hg, -, -, hx⟩⟩ := hlst
    · exact ⟨0, fun h => by omega⟩
    · injection e with e
      exact ⟨tb, fun _ => ⟨e, hB, hg, fun j hj => ⟨_, hx j _ (List.getElem?_eq_getElem (by rw [hl]; exact hj))⟩⟩⟩
  have HT := Lib.hid hT
  clear hT hlst hown K1 hLn hlie h0t hcm
  go_upto_region 3 with (go_at_call 34; ((with_reducible refine CN.out.mono ?_); rintro e w2 ⟨q, g, v, rfl, hv, ho, hq, hg, hb2⟩))
  have HT2 : Hid (0 < n → at' = some ⟨tb, 0, none⟩ ∧ W.heap.size ≤ tb ∧ tb < w1.heap.size ∧ ∀ j, j < n * 2 → ∃ u, w2.cell? ⟨tb, j, none⟩ = some u ∧ w2.frozen? ⟨tb, j, none⟩ = false) := Lib.hid (fun h => by
    obtain ⟨a, b, c, d⟩ := HT.out h
    exact ⟨a, b, c, fun j hj => by
      obtain ⟨u, h1, h2⟩ := d j hj
      exact ⟨u, (hb2.cell (p := ⟨tb, j, none⟩) c).trans h1, (hb2.frozen (p := ⟨tb, j, none⟩) c).trans h2⟩⟩)
  have HQ := Lib.hid (And.intro hv (And.intro ho (And.intro hq hg)))
  have HB2 := Lib.hid hb2
  clear hv ho hq hg hb2 HT CN
  go_wp2_with fail
  go_loopw [5] (fun i X => ∃ k : Nat, k ≤ n ∧ i = .int .i64 k ∧ Keeps (fun j => 0 < n ∧ j = tb) w2 X ∧ ∀ j, 0 < n → j < n * 2 → ∃ u, X.cell? ⟨tb, j, none⟩ = some u ∧ X.frozen? ⟨tb, j, none⟩ = false) (fun i _ => n - (intOf i).toNat)
  case atStart => exact ⟨0, by omega, rfl, Keeps.refl _ _, fun j hn0 hj => (HT2.out hn0).2.2.2 j hj⟩
  case round =>
    obtain ⟨k, hk, rfl, hK, hc⟩ := hrel
    by_cases hlt : k < n
    · have hn0 : 0 < n := by omega
      obtain ⟨rfl, htB, htl, -⟩ := HT2.out hn0
      obtain ⟨u0, c0, z0⟩ := hc (k * 2) hn0 (by omega)
      obtain ⟨u1, c1, z1⟩ := hc (k * 2 + 1) hn0 (by omega)
      have j0 : (0 : Int) ≤ (k : Int) := by omega
      have j1 : (k : Int) < (n : Int) := by omega
      have hkc : k < ct := by
        have := HCT.out; omega
      have HKC := Lib.hid (And.intro hK hc)
      clear hK hc
      go_wp2_with fail
      have hk2 : Keeps (fun j => 0 < n ∧ j = tb) w2 ((wr.setCell ⟨tb, k * 2, none⟩ (.int .i64 3)).setCell ⟨tb, k * 2 + 1, none⟩ (.int .i64 k)) := (HKC.out.1.setCell (p := ⟨tb, k * 2, none⟩) (.inl ⟨hn0, rfl⟩) _).setCell (p := ⟨tb, k * 2 + 1, none⟩) (.inl ⟨hn0, rfl⟩) _
      have hc2 : ∀ j, 0 < n → j < n * 2 → ∃ u, ((wr.setCell ⟨tb, k * 2, none⟩ (.int .i64 3)).setCell ⟨tb, k * 2 + 1, none⟩ (.int .i64 k)).cell? ⟨tb, j, none⟩ = some u ∧ ((wr.setCell ⟨tb, k * 2, none⟩ (.int .i64 3)).setCell ⟨tb, k * 2 + 1, none⟩ (.int .i64 k)).frozen? ⟨tb, j, none⟩ = false := fun j h0 hj => by
        obtain ⟨u, h1, h2⟩ := HKC.out.2 j h0 hj
        obtain ⟨u', h1'⟩ := cell?_setCell_some (w := wr) (p := ⟨tb, k * 2, none⟩) (x := .int .i64 3) (q := ⟨tb, j, none⟩) (v := u) h1
        obtain ⟨u'', h1''⟩ := cell?_setCell_some (w := wr.setCell ⟨tb, k * 2, none⟩ (.int .i64 3)) (p := ⟨tb, k * 2 + 1, none⟩) (x := .int .i64 k) (q := ⟨tb, j, none⟩) (v := u') h1'
        exact ⟨u'', h1'', by simp only [World.frozen?_setCell]; exact h2⟩
      go_roundw
      case rel => exact ⟨k + 1, by omega, by go_num, hk2, hc2⟩
      case measure => simp [intOf]; omega
    · obtain rfl : n = k := by omega
      have hbX : Below w.heap.size w wr := by
        have h12 : Below w.heap.size w w2 := below_then (below_then HBW.out HB1.out) HB2.out
        have hs := HBW.out.size
        exact h12.trans (hK.to_below (fun j _ s => by obtain ⟨h0, rfl⟩ := s; have := (HT2.out h0).2.1; omega) h12.size)
      have CR := Lib.hid (rnewMk (HL.out.new hbX) (by omega))
      have HK := Lib.hid hK
      have HBX := Lib.hid hbX
      have f : wr.cell? ⟨F, 0, none⟩ = some (.pointer none) ∧ wr.cell? ⟨F, 1, none⟩ = some (.pointer none) ∧ wr.frozen? ⟨F, 0, none⟩ = false ∧ wr.frozen? ⟨F, 1, none⟩ = false ∧ F < wr.heap.size := by
        obtain ⟨a, b, c, d, e⟩ := HF.out
        have h12 : Below W.heap.size W w2 := below_then HB1.out HB2.out
        have hb : Below W.heap.size W wr := h12.trans (hK.to_below (fun j _ s => by obtain ⟨h0, rfl⟩ := s; exact (HT2.out h0).2.1) h12.size)
        exact ⟨(hb.cell (p := ⟨F, 0, none⟩) e).trans a, (hb.cell (p := ⟨F, 1, none⟩) e).trans b, (hb.frozen (p := ⟨F, 0, none⟩) e).trans c, (hb.frozen (p := ⟨F, 1, none⟩) e).trans d, Nat.lt_of_lt_of_le e hb.size⟩
      have HFR := Lib.hid f
      clear hK hc hbX f
      go_wp2_with (go_at_call 96; ((with_reducible refine CR.out.mono ?_); rintro e w3 ⟨r, gl, lv, rfl, hlv, hor, hr, hgl, hb3⟩; obtain ⟨f0, f1, y0, y1, fl⟩ := HFR.out; replace f0 := (hb3.cell (p := ⟨F, 0, none⟩) fl).trans f0; replace f1 := (hb3.cell (p := ⟨F, 1, none⟩) fl).trans f1; replace y0 := (hb3.frozen (p := ⟨F, 0, none⟩) fl).trans y0; replace y1 := (hb3.frozen (p := ⟨F, 1, none⟩) fl).trans y1; have HR := Lib.hid (And.intro hlv (And.intro hor (And.intro hr (And.intro hgl hb3)))); clear hlv hor hr hgl hb3 fl))
      obtain ⟨hlv, hor, hr, hgl, hb3⟩ := HR.out
      obtain ⟨hv, ho, hq, hg⟩ := HQ.out
      have fl := HFR.out.2.2.2.2
      have hFw := HFw.out
      have hbw := HBX.out.size
      have hk := HK.out
      have s3 := hb3.size
      have sW := HBW.out.size
      have s1 := HB1.out.size
      have s2 := HB2.out.size
      have sX := hk.size
      have hFl := HF.out.2.2.2.2
      have k3 : Keeps (fun j => (0 < n ∧ j = tb) ∨ j = F) w2 ((w3.setCell ⟨F, 0, none⟩ (.pointer (some ⟨q, 0, none⟩))).setCell ⟨F, 1, none⟩ (.pointer (some ⟨r, 0, none⟩))) := (((hk.new hb3).mono (fun j _ s => .inl s)).setCell (p := ⟨F, 0, none⟩) (.inl (.inr rfl)) _).setCell (p := ⟨F, 1, none⟩) (.inl (.inr rfl)) _
      have kF : Keeps (fun j => j = F) w3 ((w3.setCell ⟨F, 0, none⟩ (.pointer (some ⟨q, 0, none⟩))).setCell ⟨F, 1, none⟩ (.pointer (some ⟨r, 0, none⟩))) := ((Keeps.refl (fun j => j = F) w3).setCell (p := ⟨F, 0, none⟩) (.inl rfl) _).setCell (p := ⟨F, 1, none⟩) (.inl rfl) _
      have htb : 0 < n → tb < w1.heap.size ∧ W.heap.size ≤ tb := fun h0 => ⟨(HT2.out h0).2.2.1, (HT2.out h0).2.1⟩
      have nq : ¬ ((0 < n ∧ q = tb) ∨ q = F) := by
        rintro (⟨h0, e⟩ | e)
        · have := htb h0; omega
        · omega
      have sF := kF.size
      have hlr := hor.lt
      have hfin : NwSm w (.returned (.agg #[.pointer (some ⟨q, 0, none⟩), .pointer (some ⟨r, 0, none⟩)])) ((w3.setCell ⟨F, 0, none⟩ (.pointer (some ⟨q, 0, none⟩))).setCell ⟨F, 1, none⟩ (.pointer (some ⟨r, 0, none⟩))) := by
        refine ⟨⟨[.pointer (some ⟨q, 0, none⟩), .pointer (some ⟨r, 0, none⟩)], fun k => k = q ∨ k = r ∨ (strsF L ≠ [] ∧ (k = g ∨ k = gl))⟩, _, _, rfl, rfl, ⟨q, r, g, gl, strsF L, 0, v, lv, rfl, rfl, ⟨by omega, fun hD => ?_⟩, ⟨Nat.zero_le _, HLS.out, HU.out⟩, ho.keep k3 nq, ?_, ?_, hlv.keep kF (fun hD => by have := hgl hD; omega)⟩, fun k ok => ?_, ((HBX.out.trans (hb3.mono hbw)).setCell (p := ⟨F, 0, none⟩) (by simp; omega) _).setCell (p := ⟨F, 1, none⟩) (by simp; omega) _⟩
        · have := hg hD
          have := hgl hD
          omega
        · rw [List.drop_zero]
          refine hv.keep k3 (fun hD => ?_)
          have := hg hD
          rintro (⟨h0, e⟩ | e)
          · have := htb h0; omega
          · omega
        · have e : (if (0 : Nat) < (strsF L).length then (1 : Int) else 0) = (if strsF L = [] then 0 else 1) := by
            cases strsF L <;> simp
          rw [e]
          exact hor.keep kF (by omega)
        · rcases ok with rfl | rfl | ⟨hD, rfl | rfl⟩
          · omega
          · omega
          · have := hg hD; omega
          · have := hgl hD; omega
      have g0 : ((w3.setCell ⟨F, 0, none⟩ (.pointer (some ⟨q, 0, none⟩))).setCell ⟨F, 1, none⟩ (.pointer (some ⟨r, 0, none⟩))).cell? ⟨F, 0, none⟩ = some (.pointer (some ⟨q, 0, none⟩)) := set_other (by decide) (World.cell?_setCell_same _ _ _ f0)
      have g1 : ((w3.setCell ⟨F, 0, none⟩ (.pointer (some ⟨q, 0, none⟩))).setCell ⟨F, 1, none⟩ (.pointer (some ⟨r, 0, none⟩))).cell? ⟨F, 1, none⟩ = some (.pointer (some ⟨r, 0, none⟩)) := World.cell?_setCell_same _ _ _ (set_other (by decide) f1)
      exact bodyPost_ret (v := .agg #[.pointer (some ⟨q, 0, none⟩), .pointer (some ⟨r, 0, none⟩)]) (by simp [results, Tryz.results27, go_sem, g0, g1]) rfl hfin
end Go.Proofs.YthlebfiedejhhaaGreat
/- Next: A Mark's two steps, the chapter's and the program's; a list of Marks. -/
namespace Go.Proofs.YthlebfiedejhhaaGreat
open Go.RowKit Go.Maps
set_option linter.unusedVariables false
section
variable {e : TypeId} {size : Nat} {PS : World → Ox → Prop} {B P : Nat} {W X Y X0 : World} {A R : Ad} {s : Value} {k k' : Nat} {c c' : Int}
/-- One of them, and what a change of it by others leaves. -/
theorem PlR.at2 {g n cap i : Nat} (h : PlR e size PS B P W A R X (.slice (some ⟨g, 0, none⟩) n cap) k c) (hP : Stab PS) (hi : i < n) (hb : Below X.heap.size X Y) : ∃ (V : Wv) (x : Ox) (G : Nat → Prop), Hf G Y A R V V ∧ PS Y x ∧ (∀ j, x.own j → G j) ∧ V.cnt ≤ c ∧ x.vals.length = size ∧ (∀ j u, x.vals[j]? = some u → Y.cell? ⟨g, i * size + j, none⟩ = some u) ∧ (∀ j, (X.heap.size ≤ j ∧ j < Y.heap.size) ∨ (j < B ∨ j = P) → G j ∧ ¬ x.own j) ∧
    ∀ Z V', Hf G Z A R V' V' → PS Z x → Kp (fun j => G j ∧ ¬ x.own j) Y Z → V'.M = V.M → V'.I = V.I → V'.cnt ≤ V.cnt + 1 → PlR e size PS B P W A R Z (.slice (some ⟨g, 0, none⟩) n cap) k (c + 1) := by
  obtain ⟨V, L, G, GL, h1, h2, h3, h4, h5, ⟨m1, m2, m3⟩, h7⟩ := h
  have lt0 := h1.lts
  have hln : L.length = n := by
    obtain ⟨_, ⟨h, h0⟩ | ⟨g', cap', h, -⟩⟩ := Lst.of_own h3.row
    · simp at h
    · simp at h
      exact h.2.1.symm
  obtain ⟨x, hx⟩ : ∃ x, L[i]? = some x := ⟨_, List.getElem?_eq_getElem (by omega)⟩
  have hxm := List.mem_of_getElem? hx
  have h3' := h3.keep hP (Keeps.of_new (S := fun _ => False) hb) (fun _ _ s => s)
  have ho : ∀ j, x.own j → G j := fun j o => (h4 j ((h3.all x hxm).2 j o)).1
  refine ⟨V, x, _, h1.addN hb, (h3'.all x hxm).1, fun j o => .inl (ho j o), m3, h3.len x hxm, fun j u hu => ?_, fun j hj => ?_, fun Z V' hf hx' hk r1 r2 r3 => ?_⟩
  · obtain ⟨g', cap', hs, -, -, -, hat⟩ := h3'.at_ hx
    simp at hs
    obtain ⟨rfl, -, rfl⟩ := hs
    exact hat j u hu
  · rcases hj with hj | hj
    · exact ⟨.inr hj, fun o => by have := lt0 j (ho j o); omega⟩
    · exact ⟨.inl (h2 j hj), fun o => (h4 j ((h3.all x hxm).2 j o)).2 hj⟩
  · have hk' : Kp (fun j => j < B ∨ j = P) Y Z := hk.less (fun j hj => ⟨.inl (h2 j hj), fun o => (h4 j ((h3.all x hxm).2 j o)).2 hj⟩)
    have h3'' := h3'.step hP hx hk (fun j g n => Classical.byContradiction (fun no => n ⟨.inl (h4 j g).1, no⟩)) hx'
    exact ⟨V', L, G, GL, hf.less (fun j g => .inl g), h2, h3'', h4, Kp.to (Kp.to h5 (Kp.of hb)) hk', ⟨r1.trans m1, by rw [r2]; exact m2, by omega⟩, h7⟩
end
section
variable {G : Nat → Prop} {w Y : World} {A R : Ad} {V : Wv} {x : Ox} {v0 v1 : Value}
/-- What a Mark tells. -/
theorem sm_over (hx : SmS w x) (hv : x.vals = [v0, v1]) : ∃ q r ln ov, v0 = .pointer (some ⟨q, 0, none⟩) ∧ v1 = .pointer (some ⟨r, 0, none⟩) ∧ ((ln == 0) = ov) ∧ (∀ X, Below w.heap.size w X → X.cell? ⟨r, 0, none⟩ = some (.int .i64 ln)) ∧ ∀ X, Below w.heap.size w X → Calls Tryz.prog 28 #[.pointer (some ⟨q, 0, none⟩)] X fun e w' => e = .returned (.bool ov) ∧ X = w' := by
  obtain ⟨q, r, g, gl, D, j, v, lv, hv', ho, hn, hd, h1, h2, h3, h4⟩ := hx
  rw [hv] at hv'
  injection hv' with e0 hv'
  injection hv' with e1 hv'
  obtain ⟨a, rfl⟩ := h2.1
  have hl : (D.drop j).length = D.length - j := List.length_drop
  refine ⟨q, r, (if j < D.length then 1 else 0), (((D.drop j).length : Int) == 0), e0, e1, ?_, fun X hb => (h3.new hb).at_ 0 _ rfl, fun X hb => mk_over (h1.new hb) rfl⟩
  rw [hl]
  split
  · rw [show (((D.length - j : Nat) : Int) == 0) = false by simp; omega]
    rfl
  · rw [show D.length - j = 0 by omega]
    rfl
/-- A step of both. -/
theorem sm_two (h : Hf G Y A R V V) (hx : SmS Y x) (ho : ∀ k, x.own k → G k) (hc : V.cnt < 100000000) (hv : x.vals = [v0, v1]) : ∃ (q r : Nat) (ln : Int) (ov : Bool) (V' : Wv), (v0 = .pointer (some ⟨q, 0, none⟩) ∧ v1 = .pointer (some ⟨r, 0, none⟩) ∧ ((ln == 0) = ov) ∧ V'.M = V.M ∧ V'.I = V.I ∧ V'.cnt ≤ V.cnt + 1) ∧
    Calls Tryz.prog 29 #[.pointer (some ⟨r, 0, none⟩), .pointer (some ⟨R.p, 0, none⟩)] Y fun e Z => e = .returned (.tuple #[]) ∧ Hf G Z A R V V' ∧ Z.cell? ⟨r, 0, none⟩ = some (.int .i64 ln) ∧ Kp (fun j => G j ∧ ¬ x.own j) Y Z ∧
      ∀ Z', Below Z.heap.size Z Z' → Calls Tryz.prog 30 #[.pointer (some ⟨q, 0, none⟩), .pointer (some ⟨A.p, 0, none⟩)] Z' fun e U => e = .returned (.bool ov) ∧ Hf G U A R V' V' ∧ SmS U x ∧ Kp (fun j => G j ∧ ¬ x.own j) Z' U ∧ ∀ U', Below U.heap.size U U' → Calls Tryz.prog 28 #[.pointer (some ⟨q, 0, none⟩)] U' fun e w' => e = .returned (.bool ov) ∧ U' = w' := by
  obtain ⟨q, r, g, gl, D, j, v, lv, hv', hown, ⟨hqr, hne⟩, ⟨hjD, hD, hU⟩, h1, h2, h3, h4⟩ := hx
  have gq : G q := ho q (by rw [hown]; exact .inl rfl)
  have gr : G r := ho r (by rw [hown]; exact .inr (.inl rfl))
  have hv2 := hv'
  rw [hv] at hv'
  injection hv' with e0 hv'
  injection hv' with e1 hv'
  have nor : ∀ k, ¬ x.own k → k ≠ r := fun k n e => n (by rw [hown, e]; exact .inr (.inl rfl))
  have noq : ∀ k, ¬ x.own k → k ≠ q := fun k n e => n (by rw [hown, e]; exact .inl rfl)
  rcases Nat.lt_or_ge j D.length with hj | hj
  · have hDn : D ≠ [] := fun e => by rw [e] at hj; simp at hj
    obtain ⟨n1, n2, n3, n4⟩ := hne hDn
    have gg : G g := ho g (by rw [hown]; exact .inr (.inr ⟨hDn, .inl rfl⟩))
    have ggl : G gl := ho gl (by rw [hown]; exact .inr (.inr ⟨hDn, .inr rfl⟩))
    obtain ⟨y, hy⟩ : ∃ y, D[j]? = some y := ⟨_, List.getElem?_eq_getElem hj⟩
    have hdr : D.drop j = y :: D.drop (j + 1) := by
      rw [List.drop_eq_getElem_cons hj]
      rw [List.getElem?_eq_getElem hj] at hy
      injection hy with hy
      rw [hy]
    have hl : (D.drop (j + 1)).length = D.length - (j + 1) := List.length_drop
    rw [hdr] at h2
    rw [if_pos hj] at h3
    have uy := hU y (List.mem_of_getElem? hy)
    refine ⟨q, r, (if j + 1 = D.length then 0 else 1), (((D.drop (j + 1)).length : Int) == 0), (V.acc (upd V.f y (IntKind.u64.wrap (V.f y + 1))) 4 y (V.f y) (IntKind.u64.wrap (V.f y + 1))), ⟨e0, e1, ?_, rfl, rfl, by show V.cnt + 1 ≤ _; omega⟩, ?_⟩
    · rw [hl]
      split
      · next e => rw [e]; simp
      · next e => rw [show (((D.length - (j + 1) : Nat) : Int) == 0) = false by simp; omega]; rfl
    · refine (rm_step h gr ggl n4 h3 h4 hy uy hD hc rfl rfl).mono ?_
      rintro e Z ⟨rfl, hf, hor, hk⟩
      refine ⟨rfl, hf, hor.at_ 0 _ rfl, hk.less (fun k g => ⟨g.1, nor k g.2⟩), fun Z' hb => ?_⟩
      have hkb : Kp (fun j => G j ∧ j ≠ r) Y Z' := Kp.to hk (Kp.of hb)
      refine (mk_stepH (hf.new hb) gq gg n1 (h1.keep hkb (fun n => n ⟨gq, hqr⟩)) (h2.keep hkb (fun _ n => n ⟨gg, n2⟩)) (by rw [hl]; omega) uy (by omega) rfl rfl rfl).mono ?_
      rintro e U ⟨rfl, hfu, ⟨v', ou, mv⟩, hku⟩
      refine ⟨rfl, hfu, ⟨q, r, g, gl, D, j + 1, v', lv, hv2, hown, ⟨hqr, hne⟩, ⟨hj, hD, hU⟩, ou, mv, ?_, ?_⟩, hku.less (fun k g => ⟨g.1, noq k g.2⟩), fun U' hbu => ?_⟩
      · have e : (if j + 1 < D.length then (1 : Int) else 0) = (if j + 1 = D.length then 0 else 1) := by
          by_cases e : j + 1 = D.length
          · rw [if_pos e, if_neg (by omega)]
          · rw [if_neg e, if_pos (by omega)]
        rw [e]
        exact (hor.new hb).keep hku (fun n => n ⟨gr, fun e => hqr e.symm⟩)
      · exact (h4.keep hkb (fun _ n => n ⟨ggl, n4⟩)).keep hku (fun _ n => n ⟨ggl, n3⟩)
      · obtain ⟨a, rfl⟩ := mv.1
        exact mk_over (ou.new hbu) rfl
  · have hjD' : j = D.length := by omega
    have hdr : D.drop j = [] := List.drop_eq_nil_of_le hj
    rw [if_neg (by omega)] at h3
    obtain ⟨a, ha⟩ := h2.1
    rw [hdr] at ha
    refine ⟨q, r, 0, true, V, ⟨e0, e1, rfl, rfl, rfl, by omega⟩, ?_⟩
    refine (rm_step0 h h3).mono ?_
    rintro e Z ⟨rfl, hf, hor, hk⟩
    refine ⟨rfl, hf, hor.at_ 0 _ rfl, hk.less (fun k g => ⟨g.1, nor k g.2⟩), fun Z' hb => ?_⟩
    have hkb : Kp (fun j => G j ∧ j ≠ r) Y Z' := Kp.to hk (Kp.of hb)
    have oq := h1.keep hkb (fun n => n ⟨gq, hqr⟩)
    rw [ha] at oq
    refine (mk_step0 oq _).mono ?_
    rintro e U ⟨rfl, rfl⟩
    refine ⟨rfl, hf.new hb, ⟨q, r, g, gl, D, j, v, lv, hv2, hown, ⟨hqr, hne⟩, ⟨hjD, hD, hU⟩, h1.keep hkb (fun n => n ⟨gq, hqr⟩), h2.keep hkb (fun e => absurd hdr e), by rw [if_neg (by omega)]; exact hor.new hb, ?_⟩, Keeps.refl _ _, fun U' hbu => mk_over (oq.new hbu) rfl⟩
    refine h4.keep hkb (fun e n => ?_)
    have := hne e
    exact n ⟨ho gl (by rw [hown]; exact .inr (.inr ⟨e, .inr rfl⟩)), this.2.2.2⟩
end
/-- An act of this chapter's law, as it lies. -/
def Act12 (w : World) (b o : Nat) : Prop := ∃ (x0 x1 : Int) (pa : Option Addr) (pl pc : Nat) (x3 x4 : Int), (0 ≤ x0 ∧ x0 ≤ 255) ∧ (0 ≤ x1 ∧ x1 ≤ 255) ∧ isU x3 ∧ isU x4 ∧ ((pa = none → pl = 0 ∧ pc = 0) ∧ pl ≤ maxLen ∧ ∃ L, LayP w pa pl pc L) ∧ w.cell? ⟨b, o, none⟩ = some (.int .u8 x0) ∧ w.cell? ⟨b, o + 1, none⟩ = some (.int .u8 x1) ∧ w.cell? ⟨b, o + 2, none⟩ = some (.slice pa pl pc) ∧ w.cell? ⟨b, o + 3, none⟩ = some (.int .u64 x3) ∧ w.cell? ⟨b, o + 4, none⟩ = some (.int .u64 x4)
theorem reads_acts12 {w : World} {t e : TypeId} {a : Option Addr} {len cap : Nat} (ht : Tryz.prog.underlying t = some (.slice e)) (hk : leaves Tryz.prog 9 e = some [.inl .u8, .inl .u8, .inr (.inr 73), .inl .u64, .inl .u64]) (hc : Tryz.prog.cellsOf e = 5) (h : Reads Tryz.prog w t (.slice a len cap)) :
    len ≤ 9223372036854775807 ∧ ∃ b off, (0 < len → len ≤ cap ∧ a = some ⟨b, off, none⟩) ∧ ∀ i, i < len → Act12 w b (off + i * 5) := by
  rcases Reads.slice ht hk h with ⟨_, rfl, _⟩ | ⟨b, off, sp, rfl, h1, h2, h3, h4⟩
  · exact ⟨by omega, 0, 0, fun h => by omega, fun i hi => by omega⟩
  · refine ⟨by unfold maxLen at h2; omega, b, off, fun h => ⟨h1, by rw [h3 (by omega) (by omega)]⟩, fun i hi => ?_⟩
    obtain ⟨l, hl, hll, hx⟩ := h4 i (by omega)
    obtain ⟨_, _, rfl, ⟨x0, rfl, y0⟩, g0⟩ := all2_cons hl
    obtain ⟨_, _, rfl, ⟨x1, rfl, y1⟩, g1⟩ := all2_cons g0
    obtain ⟨_, _, rfl, ⟨pa, pl, pc, rfl, y2⟩, g2⟩ := all2_cons g1
    obtain ⟨_, _, rfl, ⟨x3, rfl, y3⟩, g3⟩ := all2_cons g2
    obtain ⟨_, _, rfl, ⟨x4, rfl, y4⟩, g4⟩ := all2_cons g3
    obtain rfl := all2_nil g4
    rw [hc] at hx
    have b0 := bounds_u8 y0
    have b1 := bounds_u8 y1
    have b3 := bounds_u64 y3
    have b4 := bounds_u64 y4
    obtain ⟨r0, r1, r2, r3⟩ := reads_places y2
    exact ⟨x0, x1, pa, pl, pc, x3, x4, by omega, by omega, ⟨b3.1, by omega⟩, ⟨b4.1, by omega⟩, ⟨r0, by omega, r3⟩, hx 0 _ rfl, hx 1 _ rfl, hx 2 _ rfl, hx 3 _ rfl, hx 4 _ rfl⟩
theorem Act12.new {w W : World} {b o : Nat} (h : Act12 w b o) (hb : Below w.heap.size w W) : Act12 W b o := by
  obtain ⟨x0, x1, pa, pl, pc, x3, x4, r1, r2, r3, r4, ⟨r5, r6, L, r7⟩, c0, c1, c2, c3, c4⟩ := h
  have up : ∀ {o v}, w.cell? ⟨b, o, none⟩ = some v → W.cell? ⟨b, o, none⟩ = some v := fun {o v} hc => (hb.cell (p := ⟨b, o, none⟩) (World.block_lt_of_cell? _ _ hc)).trans hc
  exact ⟨x0, x1, pa, pl, pc, x3, x4, r1, r2, r3, r4, ⟨r5, r6, L, r7.new hb⟩, up c0, up c1, up c2, up c3, up c4⟩
end Go.Proofs.YthlebfiedejhhaaGreat
