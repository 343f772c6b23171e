/- A reader beside Marks: a world of first bits; a Mark that is under way, or none. -/
import Derived.Test.YtepkpbhhiianpaaMk
import Derived.Test.YtepkpbhhiianpaaZr
namespace Go.Proofs.Ytepkpbhhiianpaa
open Go.RowKit Go.Maps
set_option linter.unusedVariables false
theorem LayP.ofX {w : World} {a : Option Addr} {n c : Nat} {L : List Pv} (h : LieG w a c n (rowsP L)) (hn : n = L.length) : LayP w a n c L := by
  refine ⟨hn.symm, fun i b k hx => ?_⟩
  obtain ⟨g, rfl, hg, hi, hnc, c0, c1⟩ := h.place hn hx
  exact ⟨g, 0, rfl, hnc, by rw [Nat.zero_add]; exact c0, by rw [Nat.zero_add]; exact c1⟩
def IsWn (w : World) (b : Int) (e : Ending) (w' : World) : Prop := ∃ A, e = .returned (.pointer (some ⟨A.p, 0, none⟩)) ∧ WdB w' A (V0 ⟨b, 8, 3, 1, 16⟩) w.heap.size ∧ Below w.heap.size w w'
theorem worldN (b : Int) (hb : 1 ≤ b ∧ b ≤ 12) (w : World) : Calls Try.prog 7 #[.int .i64 b] w (IsWn w b) := by
  have C := Lib.hid (newW b 8 3 1 16 w (by unfold mayc; simp; omega))
  clear hb
  go_enter Try.func7, Try.ntmps7
  go_wp2_with fail
  refine C.out.mono ?_
  rintro e w1 ⟨A, rfl, hW, K⟩
  have HW := Lib.hid hW
  have HK := Lib.hid K
  clear hW K C
  go_wp2_with fail
  go_ret
  exact ⟨A, rfl, HW.out, HK.out⟩
theorem versf_rng {b k : Int} (h : isp b k = true) : 64 ≤ versf b k ∧ versf b k ≤ 127 := by
  unfold versf
  rw [if_pos h]
  have := strf_range h
  omega
theorem strsF_rng {L : List Pv} (h : ∀ x, x ∈ L → isp x.1 x.2 = true) : ∀ k, (∀ x, x ∈ strsF (L.take k) → 64 ≤ x ∧ x ≤ 127) ∧ (0 < k → L ≠ [] → strsF (L.take k) ≠ [])
  | 0 => ⟨fun x hx => by simp [strsF] at hx, fun h => by omega⟩
  | k + 1 => by
    obtain ⟨h1, h2⟩ := strsF_rng h k
    rcases Nat.lt_or_ge k L.length with hk | hk
    · have hx := List.getElem?_eq_getElem hk
      have hv := versf_rng (h _ (List.getElem_mem hk))
      rw [strsF_snoc hx]
      unfold addS
      refine ⟨fun x hx => ?_, fun _ _ => ?_⟩
      · split at hx
        · exact h1 x hx
        · rcases List.mem_append.1 hx with hx | hx
          · exact h1 x hx
          · simp at hx
            subst hx
            exact hv
      · split
        · next e =>
          rcases e with e | e
          · omega
          · exact fun h0 => by rw [h0] at e; simp at e
        · simp
    · have e : L.take (k + 1) = L.take k := by rw [List.take_of_length_le (by omega), List.take_of_length_le hk]
      rw [e]
      refine ⟨h1, fun _ hn => h2 ?_ hn⟩
      rcases Nat.eq_zero_or_pos k with h0 | h0
      · subst h0
        exact absurd (List.eq_nil_of_length_eq_zero (by omega)) hn
      · exact h0
theorem strsF_ok {L : List Pv} (h : ∀ x, x ∈ L → isp x.1 x.2 = true) (hn : L ≠ []) : strsF L ≠ [] ∧ ∀ x, x ∈ strsF L → 64 ≤ x ∧ x ≤ 127 := by
  obtain ⟨h1, h2⟩ := strsF_rng h L.length
  rw [List.take_length] at h1 h2
  exact ⟨h2 (List.length_pos_iff.mpr hn) hn, h1⟩
section
variable {G : Nat → Prop} {w W : World} {A : Ad} {V : Wv} {q g : Nat} {D : List Int} {mk : Value}
theorem WdG.keepX {U : Nat → Prop} (h : WdG G w A V) (hk : Keeps U w W) (hU : ∀ k, U k → G k) : WdG G W A V := by
  obtain ⟨S, h1, h2, h3⟩ := h
  exact ⟨S, h1.keep hk (fun k s u => h2 k (hU k u) s), h2, fun k g => Nat.lt_of_lt_of_le (h3 k g) hk.size⟩
/-- A Mark that is under way, or none; its words' block is none of U's. -/
def Sv (U G : Nat → Prop) (w : World) (A : Ad) (V : Wv) (mk : Value) : Prop := (mk = .pointer none ∧ WdG G w A V) ∨ ∃ q D g, mk = .pointer (some ⟨q, 0, none⟩) ∧ D ≠ [] ∧ (∀ x, x ∈ D → 64 ≤ x ∧ x ≤ 127) ∧ D.length ≤ 1000 ∧ ¬ U g ∧ Mw G w A V q D g
variable {U : Nat → Prop}
theorem Sv.wd (h : Sv U G w A V mk) : WdG G w A V := by
  rcases h with ⟨-, h⟩ | ⟨q, D, g, -, -, -, -, -, h⟩
  · exact h
  · exact h.wd
theorem Sv.new (h : Sv U G w A V mk) (hb : Below w.heap.size w W) : Sv U G W A V mk := by
  rcases h with ⟨e, h⟩ | ⟨q, D, g, e, h1, h2, h3, h4, v, G', hGG, hv, hg, ho⟩
  · exact .inl ⟨e, h.new hb⟩
  · exact .inr ⟨q, D, g, e, h1, h2, h3, h4, v, G', hGG, hv.keep (T := fun _ => False) (Keeps.of_new hb) (fun _ s => s), hg, ho.new hb⟩
theorem Sv.keep (h : Sv U G w A V mk) (hk : Keeps U w W) (hU : ∀ k, U k → G k) : Sv U G W A V mk := by
  rcases h with ⟨e, h⟩ | ⟨q, D, g, e, h1, h2, h3, h4, v, G', hGG, hv, hg, S, o1, o2, o3, o4, o5, o6⟩
  · exact .inl ⟨e, h.keepX hk hU⟩
  · refine .inr ⟨q, D, g, e, h1, h2, h3, h4, v, G', hGG, hv.keep hk (fun _ => h4), hg, S, o1.keep hk (fun k s u => o2 k (hGG k (hU k u)) s), o2, o3, o4.keep hk (fun u => o5 (hGG q (hU q u))), o5, fun k g => Nat.lt_of_lt_of_le (o6 k g) hk.size⟩
theorem Sv.load (h : Sv U G w A V mk) {a : Int} (ha : isU a) (hc : V.cnt < 1000000) :
    Calls Try.prog 63 #[.pointer (some ⟨A.pc, 0, none⟩), .int .u64 a] w fun e w' => e = .returned (.int .u64 (V.f a)) ∧ Sv U G w' A (V.acc V.f 1 a (V.f a) (V.f a)) mk ∧ Kp G w w' := by
  rcases h with ⟨e, S, h1, h2, h3⟩ | ⟨q, D, g, e, h1, h2, h3, h4, v, G', hGG, hv, hg, ho⟩
  · refine (wload h1 ha (by omega)).mono ?_
    rintro e' w' ⟨he, hp⟩
    obtain ⟨a, b⟩ := WdG.post h2 h3 hp
    exact ⟨he, .inl ⟨e, a⟩, b⟩
  · refine (ho.load ha (by omega)).mono ?_
    rintro e' w' ⟨he, ho', hk⟩
    exact ⟨he, .inr ⟨q, D, g, e, h1, h2, h3, h4, v, G', hGG, hv.keep hk (fun hD n => n (hg hD)), hg, ho'⟩, hk.less hGG⟩
/-- A step of a Mark that is under way. -/
theorem Sv.step (h : Sv U G w A V (.pointer (some ⟨q, 0, none⟩))) (hc : V.cnt < 1000000) :
    ∃ x b, (64 ≤ x ∧ x ≤ 127) ∧ Calls Try.prog 123 #[.pointer (some ⟨q, 0, none⟩), .pointer (some ⟨A.p, 0, none⟩)] w fun e w' => e = .returned (.bool b) ∧ Sv U G w' A (V.acc (upd V.f x (IntKind.u64.wrap (V.f x + 1))) 4 x (V.f x) (IntKind.u64.wrap (V.f x + 1))) (if b then .pointer none else .pointer (some ⟨q, 0, none⟩)) ∧ Kp G w w' := by
  rcases h with ⟨e, -⟩ | ⟨q', D, g, e, h1, h2, h3, h4, hm⟩
  · simp at e
  · obtain rfl : q = q' := by simpa using e
    match D, h1, h2, h3, hm with
    | x :: D, _, h2, h3, hm =>
      have hx := h2 x (by simp)
      have hl : D.length ≤ 1000 := by simp at h3; omega
      refine ⟨x, ((D.length : Int) == 0), hx, (mk_step hm (by omega) ⟨by omega, by omega⟩ (by omega) rfl rfl rfl).mono ?_⟩
      rintro e' w' ⟨he, hm', hk⟩
      refine ⟨he, ?_, hk⟩
      match D, hm', h2, hl with
      | [], hm', _, _ => exact .inl ⟨by simp, hm'.wd⟩
      | y :: D, hm', h2, hl => exact .inr ⟨q, y :: D, g, by simp; omega, by simp, fun z hz => h2 z (by simp at hz ⊢; exact .inr hz), hl, h4, hm'⟩
/-- A new one. -/
theorem Sv.begin {w' : World} {D : List Int} {e : Ending} (h : WdG G w A V) (hU : ∀ k, U k → G k) (hD : D ≠ []) (hx : ∀ x, x ∈ D → 64 ≤ x ∧ x ≤ 127) (hl : D.length ≤ 1000) (hn : NwMk w D e w') : ∃ q, e = .returned (.pointer (some ⟨q, 0, none⟩)) ∧ Sv U G w' A V (.pointer (some ⟨q, 0, none⟩)) ∧ Below w.heap.size w w' := by
  obtain ⟨q, g, v, rfl, hv, ho, hq, hg, hb⟩ := hn
  obtain ⟨S, h1, h2, h3⟩ := h
  exact ⟨q, rfl, .inr ⟨q, D, g, rfl, hD, hx, hl, fun u => by have := h3 g (hU g u); have := hg hD; omega, mw_new ⟨S, h1, h2, h3⟩ hv ho hq hg hb⟩, hb⟩
end
/-- What holds ahead of each step: how often each stripe was marked, what was loaded last. -/
def SvR (U G : Nat → Prop) (W X : World) (A : Ad) (AD TH SE : Nat) (mk : Value) (i : Nat) : Prop := ∃ (V : Wv) (ad th : Nat → Int), Sv U G X A V mk ∧ V.cnt ≤ i ∧ Zr X AD 64 .u64 ad ∧ Zr X TH 64 .u64 th ∧ Zr X SE 64 .u64 th ∧ (∀ s : Nat, s < 64 → V.f (64 + s) = ad s ∧ 0 ≤ ad s ∧ ad s ≤ i) ∧ Kp (fun k => G k ∧ ¬ U k) W X
end Go.Proofs.Ytepkpbhhiianpaa
