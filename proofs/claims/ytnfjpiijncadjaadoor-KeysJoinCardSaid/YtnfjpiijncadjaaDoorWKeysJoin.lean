/- The law KeysJoin. -/
import Derived.Test.YtnfjpiijncadjaaDoorKySame
import Derived.Test.YtnfjpiijncadjaaDoorKyJn
import Derived.Test.YtnfjpiijncadjaaDoorBits
import Derived.Test.YtnfjpiijncadjaaDoorOpen
namespace Go.Proofs.YtnfjpiijncadjaaDoor
open Go.RowKit
set_option linter.unusedVariables false

/-- The cells of a list of texts that came in. -/
theorem kj_strs {P : Program} {w : World} {t e : TypeId} {a : Option Addr} {len cap : Nat} (ht : P.underlying t = some (.slice e)) (hk : leaves P 9 e = some [.inr (.inl true)]) (hc : P.cellsOf e = 1) (h : Reads P w t (.slice a len cap)) :
    len ≤ maxLen ∧ ∃ b off, (0 < len → len ≤ cap ∧ a = some ⟨b, off, none⟩) ∧ ∀ i, i < len → ∃ s : ByteArray, s.size ≤ maxLen ∧ w.cell? ⟨b, off + i, none⟩ = some (.string s) := by
  rcases Reads.slice ht hk h with ⟨_, rfl, _⟩ | ⟨b, off, sp, rfl, h1, h2, h3, h4⟩
  · exact ⟨by simp [maxLen], 0, 0, fun h => by omega, fun i hi => by omega⟩
  · refine ⟨by omega, b, off, fun h => ⟨h1, by rw [h3 (by omega) (by omega)]⟩, fun i hi => ?_⟩
    obtain ⟨l, hl, hll, hx⟩ := h4 i (by omega)
    obtain ⟨c, l', rfl, ⟨s, rfl, hw⟩, h0⟩ := all2_cons hl
    have hsp := h3 (by omega) (by omega)
    have := hx 0 (.string s) rfl
    rw [hc] at this
    exact ⟨s, hw, by simpa [hsp] using this⟩
/-- The cells of a list of bytes that came in. -/
theorem kj_bytes {P : Program} {w : World} {t e : TypeId} {a : Option Addr} {len cap : Nat} (ht : P.underlying t = some (.slice e)) (hk : leaves P 9 e = some [.inl .u8]) (hc : P.cellsOf e = 1) (h : Reads P w t (.slice a len cap)) :
    len ≤ maxLen ∧ ∃ b off, (0 < len → len ≤ cap ∧ a = some ⟨b, off, none⟩) ∧ ∀ i, i < len → ∃ n : Int, 0 ≤ n ∧ n ≤ 255 ∧ w.cell? ⟨b, off + i, none⟩ = some (.int .u8 n) := by
  rcases Reads.slice ht hk h with ⟨_, rfl, _⟩ | ⟨b, off, sp, rfl, h1, h2, h3, h4⟩
  · exact ⟨by simp [maxLen], 0, 0, fun h => by omega, fun i hi => by omega⟩
  · refine ⟨by omega, b, off, fun h => ⟨h1, by rw [h3 (by omega) (by omega)]⟩, fun i hi => ?_⟩
    obtain ⟨l, hl, hll, hx⟩ := h4 i (by omega)
    obtain ⟨c, l', rfl, ⟨n, rfl, hw⟩, h0⟩ := all2_cons hl
    have hsp := h3 (by omega) (by omega)
    have := hx 0 (.int .u8 n) rfl
    rw [hc] at this
    obtain ⟨q0, q1⟩ := bounds_u8 hw
    exact ⟨n, q0, by omega, by simpa [hsp] using this⟩
theorem kj_on {w wr : World} {a : Addr} {v : Value} (h : w.cell? a = some v) (hb : Below w.heap.size w wr) : wr.cell? a = some v := by
  rw [hb.cell (World.block_lt_of_cell? _ _ h)]; exact h
/-- A list of texts that is under way, and the text, grown. -/
def KjR (w : World) (l0 : Nat) (B : Nat) (v tv iv : Value) (wr : World) : Prop :=
  ∃ (ws : List (List UInt8)) (T : ByteArray) (k : Nat), k ≤ l0 ∧ iv = .int .i64 k ∧ tv = .string T ∧ wr.ownsRow B 9 1 v ws.length (strs ws) ∧ Below B w wr ∧ ws.length ≤ k ∧ T.size ≤ k * 45 ∧ Hid (Txt T.data.toList ws)
theorem rep32 (n : Nat) : (⟨(Lib.repeatL [32] n).toArray⟩ : ByteArray).data.toList = List.replicate n 32 := by
  have h : Lib.repeatL [32] n = List.replicate n 32 := by
    have := Lib.repeatL_replicate 32 1 n
    simpa using this
  rw [h]
theorem rep32_size (n : Nat) : (⟨(Lib.repeatL [32] n).toArray⟩ : ByteArray).size = n := by
  show (Lib.repeatL [32] n).toArray.size = n
  rw [List.size_toArray, Lib.repeatL_length]; simp
theorem kj_gap {T : ByteArray} {ws : List (List UInt8)} (h : Txt T.data.toList ws) (n : Nat) : Txt (T ++ (⟨(Lib.repeatL [32] n).toArray⟩ : ByteArray)).data.toList ws := by
  have e : (T ++ (⟨(Lib.repeatL [32] n).toArray⟩ : ByteArray)).data.toList = T.data.toList ++ List.replicate n 32 := by
    rw [← rep32 n]; simp
  rw [e]; exact h.gap n
theorem kj_word {T R : ByteArray} {ws : List (List UInt8)} (h : Txt T.data.toList ws) (n : Nat) (hn : ws ≠ [] → 0 < n) (h0 : R.data.toList ≠ []) (hx : ∀ c ∈ R.data.toList, c ≠ 32) : Txt ((T ++ (⟨(Lib.repeatL [32] n).toArray⟩ : ByteArray)) ++ R).data.toList (ws ++ [R.data.toList]) := by
  have e : ((T ++ (⟨(Lib.repeatL [32] n).toArray⟩ : ByteArray)) ++ R).data.toList = T.data.toList ++ List.replicate n 32 ++ R.data.toList := by
    rw [← rep32 n]; simp
  rw [e]; exact h.word n hn h0 hx
theorem kj_repl (s : ByteArray) : ∃ R : ByteArray, R = ⟨(Lib.replaceAll s.data.toList (⟨#[32]⟩ : ByteArray).data.toList (⟨#[]⟩ : ByteArray).data.toList).toArray⟩ ∧ (∀ c ∈ R.data.toList, c ≠ 32) ∧ R.size ≤ s.size := by
  refine ⟨_, rfl, ?_, ?_⟩
  · intro c hc
    have := (repl_no s.data.toList).1 c
    exact this (by simpa using hc)
  · have := (repl_no s.data.toList).2
    show (Lib.replaceAll s.data.toList [32] []).toArray.size ≤ s.size
    rw [List.size_toArray]
    rw [Array.length_toList] at this
    exact this
theorem kj_ws {wr : World} {B : Nat} {e : TypeId} {v : Value} {ws : List (List UInt8)} {R : ByteArray} (h : wr.ownsRow B e 1 v (ws.length + 1) (strs ws ++ [.string R])) :
    wr.ownsRow B e 1 v (ws ++ [R.data.toList]).length (strs (ws ++ [R.data.toList])) := by
  rw [strs_snoc, List.length_append]; exact h
theorem kj_len {wr : World} {B : Nat} {v : Value} {ws : List (List UInt8)} (h : wr.ownsRow B 9 1 v ws.length (strs ws)) : (Builtin.len_ #[22] 3 #[v]).run Tryd.prog wr = .ok (.int .i64 (ws.length : Int)) wr := by
  rcases lsts_form (Lst.of_own h) with ⟨rfl, rfl⟩ | ⟨g, c, rfl, _⟩ <;> rfl
theorem kj_map (us : List (List UInt8)) : (us.map (fun x => (⟨x.toArray⟩ : ByteArray))).map (·.data.toList) = us := by
  rw [List.map_map]
  have : ((fun x : ByteArray => x.data.toList) ∘ fun x : List UInt8 => (⟨x.toArray⟩ : ByteArray)) = id := by funext x; simp
  rw [this, List.map_id]
theorem kj_join {wr : World} {B : Nat} {g cap : Nat} {us : List (List UInt8)} (h : Lst wr B 1 (.slice (some ⟨g, 0, none⟩) us.length cap) us.length (strs us)) (hl : (Lib.join us [32]).length ≤ 2000) (hn : us.length ≤ 2000) (hu : us ≠ []) :
    Calls Tryd.prog 10 #[.slice (some ⟨g, 0, none⟩) us.length cap, .string ⟨#[32]⟩] wr fun e w' => e = .returned (.string ⟨(Lib.join us [32]).toArray⟩) ∧ Below wr.heap.size wr w' := by
  have hxl : (us.map (fun x => (⟨x.toArray⟩ : ByteArray))).length = us.length := List.length_map _
  have hc : us.length ≤ cap := by
    obtain ⟨hl, ⟨hv, _⟩ | ⟨g', cap', hv, _, _, _, _, hx⟩⟩ := h
    · simp at hv
    · simp at hv
      obtain ⟨rfl, rfl⟩ := hv
      omega
  have hcl : ∀ (j : Nat) x, (us.map (fun x => (⟨x.toArray⟩ : ByteArray)))[j]? = some x → wr.cell? ⟨g, 0 + j, none⟩ = some (.string x) := by
    intro j x hj
    have hj' : j < us.length := by
      rcases Nat.lt_or_ge j us.length with h' | h'
      · exact h'
      · rw [List.getElem?_eq_none (by rw [hxl]; exact h')] at hj; simp at hj
    rw [List.getElem?_map, List.getElem?_eq_getElem hj'] at hj
    simp at hj
    have := lsts_cell h j hj'
    rw [List.getD_eq_getElem?_getD, List.getElem?_eq_getElem hj'] at this
    rw [Nat.zero_add, this, ← hj]; rfl
  have hb : g < wr.heap.size := by
    obtain ⟨u, r, rfl⟩ := List.exists_cons_of_ne_nil hu
    exact World.block_lt_of_cell? _ _ (hcl 0 _ rfl)
  have q := Tryd.strings_Join g 0 cap (us.map (fun x => (⟨x.toArray⟩ : ByteArray))) ⟨#[32]⟩ wr hcl hb (by rw [hxl]; omega) (by rw [hxl]; exact hc) (by rw [kj_map]; exact Nat.le_trans hl (by decide))
  rw [kj_map, hxl] at q
  exact q
theorem kj_drew {w : World} (n : Nat) : Below w.heap.size w (w.drewN n) := by
  induction n with
  | zero => exact Below.refl _ _
  | succ n ih => exact ih.drew
theorem kj_eta {R : ByteArray} (e : R.data.toList = []) : R = ⟨#[]⟩ := by
  have h : (⟨R.data.toList.toArray⟩ : ByteArray) = R := by simp
  rw [← h, e]
theorem kj_nonempty {R : ByteArray} (h : ¬ R = ⟨#[]⟩) : R.data.toList ≠ [] ∧ (¬ R.toList = []) ∧ R.toList.isEmpty = false ∧ 0 < R.size := by
  have q : R.data.toList ≠ [] := fun e => h (kj_eta e)
  have q' : ¬ R.toList = [] := by rw [ByteArray.toList_eq]; exact q
  refine ⟨q, q', by simpa using q', ?_⟩
  have : R.data.toList.length = R.size := by rw [Array.length_toList]; rfl
  have := List.length_pos_iff.mpr q
  omega

set_option maxHeartbeats 8000000 in
set_option maxRecDepth 100000 in
theorem walk_KeysJoin (a0 : Option Addr) (l0 c0 : Nat) (a1 : Option Addr) (l1 c1 : Nat) (a2 : ByteArray) (w : World) (w0 : Reads Tryd.prog w 22 (.slice a0 l0 c0)) (w1 : Reads Tryd.prog w 23 (.slice a1 l1 c1)) (w2 : a2.size ≤ maxLen) (hm : ∃ m : Int, w.cell? ⟨0, 0, none⟩ = some (.int .i64 m)) :
    Calls Tryd.prog 3 #[.slice a0 l0 c0, .slice a1 l1 c1, .string a2] w fun e w' => e = .returned (.bool true) ∧ Below w.heap.size w w' := by
  obtain ⟨i0, hi, hz0, hz1, hz2⟩ := info_parts info_string
  obtain ⟨m0, b0, o0, p0, q0⟩ := kj_strs (e := 9) Tryd.underlying22 (by kernel_rfl) (by kernel_rfl) w0
  obtain ⟨m1, b1, o1, p1, q1⟩ := kj_bytes (e := 5) Tryd.underlying23 (by kernel_rfl) (by kernel_rfl) w1
  clear w0 w1
  have HA0 := Lib.hid p0
  have HA1 := Lib.hid p1
  have HQ0 := Lib.hid q0
  have HQ1 := Lib.hid q1
  have HM := Lib.hid hm
  unfold maxLen at m0 m1 w2
  clear p0 p1 q0 q1 hm
  by_cases hbig : 40 < l0
  · have hd : decide (40 < (l0 : Int)) = true := decide_eq_true (by omega)
    go_enter Tryd.func3, Tryd.ntmps3
    go_wp2_with (go_at_call 4; refine (lives03 _).mono ?_; rintro e w' ⟨rfl, hk⟩)
    go_ret
    exact ⟨rfl, hk⟩
  have hd : decide (40 < (l0 : Int)) = false := decide_eq_false (by omega)
  by_cases hbig1 : 40 < l1
  · have hd1 : decide (40 < (l1 : Int)) = true := decide_eq_true (by omega)
    go_enter Tryd.func3, Tryd.ntmps3
    go_wp2_with (go_at_call 4; refine (lives03 _).mono ?_; rintro e w' ⟨rfl, hk⟩)
    go_ret
    exact ⟨rfl, hk⟩
  have hd1 : decide (40 < (l1 : Int)) = false := decide_eq_false (by omega)
  by_cases hbig2 : 2000 < a2.size
  · have hd2 : decide (2000 < (a2.size : Int)) = true := decide_eq_true (by omega)
    go_enter Tryd.func3, Tryd.ntmps3
    go_wp2_with (go_at_call 4; refine (lives03 _).mono ?_; rintro e w' ⟨rfl, hk⟩)
    go_ret
    exact ⟨rfl, hk⟩
  have hd2 : decide (2000 < (a2.size : Int)) = false := decide_eq_false (by omega)
  have hs0 : l0 ≤ 40 := by omega
  have hs1 : l1 ≤ 40 := by omega
  have hs2 : a2.size ≤ 2000 := by omega
  clear hbig hbig1 hbig2 m0 m1 w2
  obtain ⟨B, hB⟩ : ∃ B, B = w.heap.size := ⟨_, rfl⟩
  have HB := Lib.hid hB
  clear hB
  go_enter Tryd.func3, Tryd.ntmps3
  go_wp2_with fail
  go_loopw [7, 8, 9] (fun v tv iv wr => KjR w l0 B v tv iv wr) (fun _ _ iv _ => l0 - (intOf iv).toNat)
  case atStart => exact ⟨[], ⟨#[]⟩, 0, by omega, rfl, rfl, World.ownsRow_nil _ _ _ _, Below.refl _ _, by simp, by simp [ByteArray.size], Txt.nil⟩
  case round =>
    obtain ⟨ws, T, k, hk, rfl, rfl, hown, hnx, hwl, hT, hX⟩ := hrel
    have hsz := hnx.size
    by_cases hlt : k < l0
    · have hlt' : decide ((k : Int) < (l0 : Int)) = true := decide_eq_true (by omega)
      obtain ⟨hlc, rfl⟩ := HA0.out (by omega)
      obtain ⟨s, hs, hcs⟩ := HQ0.out k hlt
      have hnx' : Below w.heap.size w wr := by rw [← HB.out]; exact hnx
      have cs := kj_on hcs hnx'
      clear hcs
      have hkc : k < c0 := by omega
      unfold maxLen at hs
      by_cases h40 : 40 < s.size
      · have h40' : decide (40 < (s.size : Int)) = true := decide_eq_true (by omega)
        go_wp2_with fail
        refine (lives03 _).mono ?_
        rintro e w3 ⟨rfl, hk3⟩
        have R := hnx'.trans (hk3.mono hnx'.size)
        clear hk3 hnx hnx' hsz hown hX
        go_wp2_with fail
        go_ret
        exact ⟨rfl, R⟩
      · have h40' : decide (40 < (s.size : Int)) = false := decide_eq_false (by omega)
        obtain ⟨m, hcm⟩ := HM.out
        have cm := kj_on hcm hnx'
        clear hcm
        obtain ⟨R, hR, hRx, hRs⟩ := kj_repl s
        have hrep := Tryd.strings_ReplaceAll s ⟨#[32]⟩ ⟨#[]⟩ m wr (by omega) cm (by rw [show (⟨#[32]⟩ : ByteArray).size = 1 from rfl]; omega) (by rw [show (⟨#[]⟩ : ByteArray).size = 0 from rfl]; omega)
        rw [← hR] at hrep
        have HREP := Lib.hid hrep
        have HRX := Lib.hid hRx
        have HR40 : R.size ≤ 40 := by omega
        have HNX := Lib.hid hnx'
        clear hR hrep hRx hRs cm
        go_wp2_with fail
        refine HREP.out.mono ?_
        rintro e w2 ⟨rfl, hb2⟩
        have hown2 := own_below hown hb2
        have hnx2 := hnx.trans (hb2.mono (by have := HNX.out.size; have := HB.out; omega))
        have hsz2 := hb2.size
        have hBw2 : B ≤ w2.heap.size := by have := HNX.out.size; have := HB.out; omega
        have hnx2' : Below w.heap.size w w2 := by rw [← HB.out]; exact hnx2
        clear hown hb2 HREP cs hnx hnx'
        by_cases hg : k < l1
        · have hg' : decide ((k : Int) < (l1 : Int)) = true := decide_eq_true (by omega)
          obtain ⟨hlc1, rfl⟩ := HA1.out (by omega)
          obtain ⟨z, z0, z1, hcz⟩ := HQ1.out k hg
          have cz := kj_on hcz hnx2'
          clear hcz
          have hkc1 : k < c1 := by omega
          obtain ⟨g, hgz⟩ : ∃ g : Nat, z % 5 = g := ⟨(z % 5).toNat, by omega⟩
          have hg4 : g ≤ 4 := by omega
          have hg5 : IntKind.u8.wrap (g : Int) = g := by simp [IntKind.wrap, IntKind.bits, IntKind.signed]; omega
          have hg6 : IntKind.i64.wrap (g : Int) = g := IntWalk.i64_in _ (by omega)
          have hg7 : IntKind.i64.wrap ((g : Int) + 1) = ((g + 1 : Nat) : Int) := by rw [IntWalk.i64_in _ (by omega)]; omega
          by_cases hw0 : ws.length = 0
          · have hlen := kj_len hown2
            have hws : decide (0 < (ws.length : Int)) = false := decide_eq_false (by omega)
            go_wp2_with fail
            refine (Tryd.strings_Repeat ⟨#[32]⟩ (g) _ (by omega) (by rw [show (⟨#[32]⟩ : ByteArray).size = 1 from rfl]; omega)).mono ?_
            rintro e w3 ⟨rfl, hb3⟩
            rw [show (({ data := #[32] } : ByteArray).data.toList) = [32] from rfl]
            have hown3 := own_below hown2 hb3
            have hnx3 := hnx2.trans (hb3.mono hBw2)
            have hsz3 := hb3.size
            have hgs := rep32_size (g)
            have hTs : (T ++ (⟨(Lib.repeatL [32] (g)).toArray⟩ : ByteArray)).size ≤ k * 45 + 5 := by rw [ByteArray.size_append, hgs]; omega
            by_cases hRe : R = ⟨#[]⟩
            · subst hRe
              have HX2 := Lib.hid (kj_gap hX.out (g))
              generalize hTT : T ++ (⟨(Lib.repeatL [32] (g)).toArray⟩ : ByteArray) = TT at HX2 hTs
              clear hown2 hnx2 hnx2' hb3 hX
              go_wp2_with fail
              go_roundw
              case rel => exact ⟨ws, TT, k + 1, by omega, by go_num, by rw [← hTT], hown3, hnx3, by omega, by omega, HX2⟩
              case measure => simp [intOf]; omega
            · obtain ⟨r0, r1, r2, r3⟩ := kj_nonempty hRe
              have HX2 := Lib.hid (kj_word hX.out (g) (fun h => absurd (List.eq_nil_of_length_eq_zero hw0) h) r0 HRX.out)
              generalize hTT : T ++ (⟨(Lib.repeatL [32] (g)).toArray⟩ : ByteArray) = TT at HX2 hTs
              clear hown2 hnx2 hnx2' hb3 hX
              go_wp2_with (at_builtin; refine wpList_append_own _ rfl _ _ 22 rfl B 9 i0 (.string ⟨#[]⟩) 1 16 Tryd.underlying22 hi hz0 hz1 hz2 rfl (by decide) _ _ _ rfl (hown3.alloc _) ⟨w3.heap.size, 0, none⟩ 1 1 [.string R] rfl rfl ?c1 ?c2 ?c3 ?c4 ?c5 ?_)
              case c1 =>
                intro j u hj
                match j, hj with
                | 0, hj => simp at hj; subst hj; simp [Addr.add]
              case c2 => intro u hu; simp at hu; subst hu; rfl
              case c3 => unfold maxLen; omega
              case c4 => omega
              case c5 => simp; omega
              intro v' w4 hown' hgrow _
              have Q := app_below hown3 hnx3 (by have := HNX.out.size; have := HB.out; omega) hgrow
              clear hgrow hown3
              go_wp2_with fail
              go_roundw
              case rel => exact ⟨ws ++ [R.data.toList], TT ++ R, k + 1, by omega, by go_num, by rw [← hTT], kj_ws (by first | exact hown' | (rw [hw0]; exact hown')), Q, by simp; omega, by rw [ByteArray.size_append]; omega, HX2⟩
              case measure => simp [intOf]; omega
          · have hlen := kj_len hown2
            have hws : decide (0 < (ws.length : Int)) = true := decide_eq_true (by omega)
            go_wp2_with fail
            refine (Tryd.strings_Repeat ⟨#[32]⟩ (g + 1) _ (by omega) (by rw [show (⟨#[32]⟩ : ByteArray).size = 1 from rfl]; omega)).mono ?_
            rintro e w3 ⟨rfl, hb3⟩
            rw [show (({ data := #[32] } : ByteArray).data.toList) = [32] from rfl]
            have hown3 := own_below hown2 hb3
            have hnx3 := hnx2.trans (hb3.mono hBw2)
            have hsz3 := hb3.size
            have hgs := rep32_size (g + 1)
            have hTs : (T ++ (⟨(Lib.repeatL [32] (g + 1)).toArray⟩ : ByteArray)).size ≤ k * 45 + 5 := by rw [ByteArray.size_append, hgs]; omega
            by_cases hRe : R = ⟨#[]⟩
            · subst hRe
              have HX2 := Lib.hid (kj_gap hX.out (g + 1))
              generalize hTT : T ++ (⟨(Lib.repeatL [32] (g + 1)).toArray⟩ : ByteArray) = TT at HX2 hTs
              clear hown2 hnx2 hnx2' hb3 hX
              go_wp2_with fail
              go_roundw
              case rel => exact ⟨ws, TT, k + 1, by omega, by go_num, by rw [← hTT], hown3, hnx3, by omega, by omega, HX2⟩
              case measure => simp [intOf]; omega
            · obtain ⟨r0, r1, r2, r3⟩ := kj_nonempty hRe
              have HX2 := Lib.hid (kj_word hX.out (g + 1) (fun h => by omega) r0 HRX.out)
              generalize hTT : T ++ (⟨(Lib.repeatL [32] (g + 1)).toArray⟩ : ByteArray) = TT at HX2 hTs
              clear hown2 hnx2 hnx2' hb3 hX
              go_wp2_with (at_builtin; refine wpList_append_own _ rfl _ _ 22 rfl B 9 i0 (.string ⟨#[]⟩) 1 16 Tryd.underlying22 hi hz0 hz1 hz2 rfl (by decide) _ _ _ rfl (hown3.alloc _) ⟨w3.heap.size, 0, none⟩ 1 1 [.string R] rfl rfl ?c1 ?c2 ?c3 ?c4 ?c5 ?_)
              case c1 =>
                intro j u hj
                match j, hj with
                | 0, hj => simp at hj; subst hj; simp [Addr.add]
              case c2 => intro u hu; simp at hu; subst hu; rfl
              case c3 => unfold maxLen; omega
              case c4 => omega
              case c5 => simp; omega
              intro v' w4 hown' hgrow _
              have Q := app_below hown3 hnx3 (by have := HNX.out.size; have := HB.out; omega) hgrow
              clear hgrow hown3
              go_wp2_with fail
              go_roundw
              case rel => exact ⟨ws ++ [R.data.toList], TT ++ R, k + 1, by omega, by go_num, by rw [← hTT], kj_ws (by first | exact hown' | (rw [hw0]; exact hown')), Q, by simp; omega, by rw [ByteArray.size_append]; omega, HX2⟩
              case measure => simp [intOf]; omega
        · have hg' : decide ((k : Int) < (l1 : Int)) = false := decide_eq_false (by omega)
          by_cases hw0 : ws.length = 0
          · have hlen := kj_len hown2
            have hws : decide (0 < (ws.length : Int)) = false := decide_eq_false (by omega)
            go_wp2_with fail
            refine (Tryd.strings_Repeat ⟨#[32]⟩ (0) _ (by omega) (by rw [show (⟨#[32]⟩ : ByteArray).size = 1 from rfl]; omega)).mono ?_
            rintro e w3 ⟨rfl, hb3⟩
            rw [show (({ data := #[32] } : ByteArray).data.toList) = [32] from rfl]
            have hown3 := own_below hown2 hb3
            have hnx3 := hnx2.trans (hb3.mono hBw2)
            have hsz3 := hb3.size
            have hgs := rep32_size (0)
            have hTs : (T ++ (⟨(Lib.repeatL [32] (0)).toArray⟩ : ByteArray)).size ≤ k * 45 + 5 := by rw [ByteArray.size_append, hgs]; omega
            by_cases hRe : R = ⟨#[]⟩
            · subst hRe
              have HX2 := Lib.hid (kj_gap hX.out (0))
              generalize hTT : T ++ (⟨(Lib.repeatL [32] (0)).toArray⟩ : ByteArray) = TT at HX2 hTs
              clear hown2 hnx2 hnx2' hb3 hX
              go_wp2_with fail
              go_roundw
              case rel => exact ⟨ws, TT, k + 1, by omega, by go_num, by rw [← hTT], hown3, hnx3, by omega, by omega, HX2⟩
              case measure => simp [intOf]; omega
            · obtain ⟨r0, r1, r2, r3⟩ := kj_nonempty hRe
              have HX2 := Lib.hid (kj_word hX.out (0) (fun h => absurd (List.eq_nil_of_length_eq_zero hw0) h) r0 HRX.out)
              generalize hTT : T ++ (⟨(Lib.repeatL [32] (0)).toArray⟩ : ByteArray) = TT at HX2 hTs
              clear hown2 hnx2 hnx2' hb3 hX
              go_wp2_with (at_builtin; refine wpList_append_own _ rfl _ _ 22 rfl B 9 i0 (.string ⟨#[]⟩) 1 16 Tryd.underlying22 hi hz0 hz1 hz2 rfl (by decide) _ _ _ rfl (hown3.alloc _) ⟨w3.heap.size, 0, none⟩ 1 1 [.string R] rfl rfl ?c1 ?c2 ?c3 ?c4 ?c5 ?_)
              case c1 =>
                intro j u hj
                match j, hj with
                | 0, hj => simp at hj; subst hj; simp [Addr.add]
              case c2 => intro u hu; simp at hu; subst hu; rfl
              case c3 => unfold maxLen; omega
              case c4 => omega
              case c5 => simp; omega
              intro v' w4 hown' hgrow _
              have Q := app_below hown3 hnx3 (by have := HNX.out.size; have := HB.out; omega) hgrow
              clear hgrow hown3
              go_wp2_with fail
              go_roundw
              case rel => exact ⟨ws ++ [R.data.toList], TT ++ R, k + 1, by omega, by go_num, by rw [← hTT], kj_ws (by first | exact hown' | (rw [hw0]; exact hown')), Q, by simp; omega, by rw [ByteArray.size_append]; omega, HX2⟩
              case measure => simp [intOf]; omega
          · have hlen := kj_len hown2
            have hws : decide (0 < (ws.length : Int)) = true := decide_eq_true (by omega)
            go_wp2_with fail
            refine (Tryd.strings_Repeat ⟨#[32]⟩ (1) _ (by omega) (by rw [show (⟨#[32]⟩ : ByteArray).size = 1 from rfl]; omega)).mono ?_
            rintro e w3 ⟨rfl, hb3⟩
            rw [show (({ data := #[32] } : ByteArray).data.toList) = [32] from rfl]
            have hown3 := own_below hown2 hb3
            have hnx3 := hnx2.trans (hb3.mono hBw2)
            have hsz3 := hb3.size
            have hgs := rep32_size (1)
            have hTs : (T ++ (⟨(Lib.repeatL [32] (1)).toArray⟩ : ByteArray)).size ≤ k * 45 + 5 := by rw [ByteArray.size_append, hgs]; omega
            by_cases hRe : R = ⟨#[]⟩
            · subst hRe
              have HX2 := Lib.hid (kj_gap hX.out (1))
              generalize hTT : T ++ (⟨(Lib.repeatL [32] (1)).toArray⟩ : ByteArray) = TT at HX2 hTs
              clear hown2 hnx2 hnx2' hb3 hX
              go_wp2_with fail
              go_roundw
              case rel => exact ⟨ws, TT, k + 1, by omega, by go_num, by rw [← hTT], hown3, hnx3, by omega, by omega, HX2⟩
              case measure => simp [intOf]; omega
            · obtain ⟨r0, r1, r2, r3⟩ := kj_nonempty hRe
              have HX2 := Lib.hid (kj_word hX.out (1) (fun h => by omega) r0 HRX.out)
              generalize hTT : T ++ (⟨(Lib.repeatL [32] (1)).toArray⟩ : ByteArray) = TT at HX2 hTs
              clear hown2 hnx2 hnx2' hb3 hX
              go_wp2_with (at_builtin; refine wpList_append_own _ rfl _ _ 22 rfl B 9 i0 (.string ⟨#[]⟩) 1 16 Tryd.underlying22 hi hz0 hz1 hz2 rfl (by decide) _ _ _ rfl (hown3.alloc _) ⟨w3.heap.size, 0, none⟩ 1 1 [.string R] rfl rfl ?c1 ?c2 ?c3 ?c4 ?c5 ?_)
              case c1 =>
                intro j u hj
                match j, hj with
                | 0, hj => simp at hj; subst hj; simp [Addr.add]
              case c2 => intro u hu; simp at hu; subst hu; rfl
              case c3 => unfold maxLen; omega
              case c4 => omega
              case c5 => simp; omega
              intro v' w4 hown' hgrow _
              have Q := app_below hown3 hnx3 (by have := HNX.out.size; have := HB.out; omega) hgrow
              clear hgrow hown3
              go_wp2_with fail
              go_roundw
              case rel => exact ⟨ws ++ [R.data.toList], TT ++ R, k + 1, by omega, by go_num, by rw [← hTT], kj_ws (by first | exact hown' | (rw [hw0]; exact hown')), Q, by simp; omega, by rw [ByteArray.size_append]; omega, HX2⟩
              case measure => simp [intOf]; omega
    · obtain rfl : k = l0 := by omega
      have hlt' : decide ((k : Int) < (k : Int)) = false := decide_eq_false (by omega)
      have hnx' : Below w.heap.size w wr := by rw [← HB.out]; exact hnx
      have HL := Lib.hid (Lst.of_own hown)
      have hBw : B ≤ wr.heap.size := by have := hnx'.size; have := HB.out; omega
      have HNX := Lib.hid hnx'
      have h2 : T ++ (⟨#[32, 32]⟩ : ByteArray) = T ++ (⟨#[32, 32]⟩ : ByteArray) := rfl
      have e2 : wordsF (T ++ (⟨#[32, 32]⟩ : ByteArray)).data.toList = ws := by
        have e : (T ++ (⟨#[32, 32]⟩ : ByteArray)).data.toList = T.data.toList ++ List.replicate 2 32 := by simp [List.replicate]
        rw [e]; exact hX.out.words_behind 2
      have e1 : wordsF T.data.toList = ws := hX.out.words
      have E1 := Lib.hid e1
      have E2 := Lib.hid e2
      have z1 : T.size ≤ 1048576 := by omega
      have z2 : (T ++ (⟨#[32, 32]⟩ : ByteArray)).size ≤ 1048576 := by rw [ByteArray.size_append, show (⟨#[32, 32]⟩ : ByteArray).size = 2 from rfl]; omega
      clear e1 e2 h2
      go_wp2_with fail
      refine (wordsw _ _ z1).mono ?_
      rintro e w3 ⟨v3, rfl, hL3, hb3⟩
      rw [E1.out] at hL3
      have HL3 := Lib.hid hL3
      have HB3 := Lib.hid hb3
      have HLb := Lib.hid (HL.out.below hb3 (Nat.le_refl _))
      clear hL3 hb3
      go_wp2_with fail
      refine (sames_yes ws _ _ _ _ _ HL3.out HLb.out).mono ?_
      rintro e w4 ⟨rfl, hb4⟩
      have HB4 := Lib.hid (HB3.out.trans (hb4.mono HB3.out.size))
      clear hb4
      go_wp2_with fail
      refine (wordsw _ _ z2).mono ?_
      rintro e w5 ⟨v5, rfl, hL5, hb5⟩
      rw [E2.out] at hL5
      have HL5 := Lib.hid hL5
      have HB5 := Lib.hid (HB4.out.trans (hb5.mono HB4.out.size))
      have HLc := Lib.hid (HL.out.below HB5.out (Nat.le_refl _))
      clear hb5 hL5
      go_wp2_with fail
      refine (sames_yes ws _ _ _ _ _ HL5.out HLc.out).mono ?_
      rintro e w6 ⟨rfl, hb6⟩
      have HB6 := Lib.hid (HNX.out.trans ((HB5.out.trans (hb6.mono HB5.out.size)).mono HNX.out.size))
      clear hb6 HL HLb HLc HL3 HL5 HB3 HB4 HB5 HNX E1 E2
      clear z1 z2 hX hBw hwl hT hk
      go_wp2_with fail
      refine (wordsw _ _ (by omega)).mono ?_
      rintro e w7 ⟨v7, rfl, hL7, hb7⟩
      have HB7 := Lib.hid (HB6.out.trans (hb7.mono HB6.out.size))
      clear hb7 HB6
      have hE : ∀ x ∈ wordsF a2.data.toList, x ≠ [] ∧ ∀ c ∈ x, c ≠ 32 := fun x hx => words_each hx
      have hJ : (Lib.join (wordsF a2.data.toList) [32]).length ≤ a2.size := by
        have := words_fit a2.data.toList []
        rw [Array.length_toList] at this
        unfold wordsF
        simpa using this
      have hun : (wordsF a2.data.toList).length ≤ 2000 := by
        have := wordsG_count a2.data.toList []
        rw [Array.length_toList] at this
        unfold wordsF
        have e : a2.data.size = a2.size := rfl
        simp at this
        omega
      have hWJ := words_join _ hE
      generalize wordsF a2.data.toList = us at hL7 hE hJ hWJ hun
      have HE := Lib.hid hE
      have HWJ := Lib.hid hWJ
      have HL7 := Lib.hid hL7
      have HJ := Lib.hid hJ
      clear hE hWJ hJ hL7
      by_cases hu : us = []
      · subst hu
        obtain ⟨a, c, rfl⟩ : ∃ a c, v7 = .slice a 0 c := by
          rcases lsts_form HL7.out with ⟨_, rfl⟩ | ⟨g, c, rfl, _⟩
          · exact ⟨_, _, rfl⟩
          · exact ⟨_, _, rfl⟩
        clear hun HE HWJ HJ
        go_wp2_with fail
        refine wp_loop_rounds 1 ?_
        rw [rounds_succ]
        go_wp2_with fail
        refine (Tryd.strings_Join_none _ _ _ _).mono ?_
        rintro e w8 ⟨rfl, rfl⟩
        have HB8 := HB7
        go_wp2_with fail
        refine (wordsw _ _ (by simp [ByteArray.size])).mono ?_
        rintro e w9 ⟨v9, rfl, hL9, hb9⟩
        rw [show wordsF (⟨#[]⟩ : ByteArray).data.toList = [] from rfl] at hL9
        have HB9 := Lib.hid (HB8.out.trans (hb9.mono HB8.out.size))
        have HL9 := Lib.hid (HL7.out.below hb9 (Nat.le_refl _))
        clear hb9
        go_wp2_with fail
        refine (sames_yes [] _ _ _ _ _ hL9 HL9.out).mono ?_
        rintro e w10 ⟨rfl, hb10⟩
        have HB10 := Lib.hid (HB9.out.trans (hb10.mono HB9.out.size))
        clear hb10
        go_wp2_with fail
        refine (lives03 _).mono ?_
        rintro e w11 ⟨rfl, hb11⟩
        have R := HB10.out.trans (hb11.mono HB10.out.size)
        clear hb11
        go_wp2_with fail
        go_ret
        exact ⟨rfl, R⟩
      rcases lsts_form HL7.out with ⟨e, _⟩ | ⟨g, cap, rfl, hgm⟩
      · exact absurd e hu
      · unfold maxLen at hgm
        go_wp2_with fail
        go_loopw [13] (fun i wr => ∃ (k m : Nat), k ≤ us.length ∧ i = .int .i64 k ∧ wr = w7.drewN m) (fun i _ => us.length - (intOf i).toNat)
        case atStart => exact ⟨0, 0, by omega, rfl, rfl⟩
        case round =>
          obtain ⟨k, m, hk, rfl, rfl⟩ := hrel
          by_cases hlt : k < us.length
          · have hlt' : decide ((k : Int) < (us.length : Int)) = true := decide_eq_true (by omega)
            have c1 := lsts_cell HL7.out k hlt
            obtain ⟨X, hX⟩ : ∃ X : ByteArray, X = ⟨(us.getD k []).toArray⟩ := ⟨_, rfl⟩
            rw [← hX] at c1
            have hmem : us.getD k [] ∈ us := by
              rw [List.getD_eq_getElem?_getD, List.getElem?_eq_getElem hlt]
              exact List.getElem_mem hlt
            have hXl : X.data.toList = us.getD k [] := by rw [hX]
            obtain ⟨x0, x1⟩ := HE.out _ hmem
            rw [← hXl] at x0 x1
            obtain ⟨_, r1, r2, r3⟩ := kj_nonempty (R := X) (fun e => x0 (by rw [e]))
            have hC : decide (0 ≤ Lib.indexByte X.data.toList 32) = false := by rw [idx_none x1]; decide
            have HC := Lib.hid hC
            clear x0 x1 hXl hmem hX hC
            go_wp2_with fail
            refine (Tryd.strings_Contains_one _ 32 _).mono ?_
            rintro e w8 ⟨rfl, rfl⟩
            rw [HC.out]
            go_wp2_with fail
            go_roundw
            case rel => exact ⟨k + 1, _, by omega, by go_num, rfl⟩
            case measure => simp [intOf]; omega
          · obtain rfl : k = us.length := by omega
            have hlt' : decide ((us.length : Int) < (us.length : Int)) = false := decide_eq_false (by omega)
            have HL8 := Lib.hid (HL7.out.below (kj_drew m) (Nat.le_refl _))
            have HJ2 := Lib.hid (kj_join HL8.out (Nat.le_trans HJ.out hs2) hun hu)
            have HB7' := Lib.hid (HB7.out.trans ((kj_drew m).mono HB7.out.size))
            generalize w7.drewN m = W at HL8 HJ2 HB7'
            clear hgm hun hu HB7
            have hz : (⟨(Lib.join us [32]).toArray⟩ : ByteArray).size ≤ 1048576 := by
              show (Lib.join us [32]).toArray.size ≤ _
              rw [List.size_toArray]
              have := HJ.out
              omega
            have hq : wordsF (⟨(Lib.join us [32]).toArray⟩ : ByteArray).data.toList = us := HWJ.out
            generalize (⟨(Lib.join us [32]).toArray⟩ : ByteArray) = J at HJ2 hz hq
            have HZ := Lib.hid hz
            have HQ := Lib.hid hq
            clear hz hq HWJ HJ HE HL7
            go_wp2_with fail
            refine HJ2.out.mono ?_
            rintro e w8 ⟨rfl, hb8⟩
            have HB8 := Lib.hid (HB7'.out.trans (hb8.mono HB7'.out.size))
            have HL := Lib.hid (HL8.out.below hb8 (Nat.le_refl _))
            clear hb8 HJ2 HL8 HB7'
            go_wp2_with fail
            refine (wordsw _ _ HZ.out).mono ?_
            rintro e w9 ⟨v9, rfl, hL9, hb9⟩
            rw [HQ.out] at hL9
            have HB9 := Lib.hid (HB8.out.trans (hb9.mono HB8.out.size))
            have HL9 := Lib.hid (HL.out.below hb9 (Nat.le_refl _))
            clear hb9
            go_wp2_with fail
            refine (sames_yes us _ _ _ _ _ hL9 HL9.out).mono ?_
            rintro e w10 ⟨rfl, hb10⟩
            have HB10 := Lib.hid (HB9.out.trans (hb10.mono HB9.out.size))
            clear hb10
            go_wp2_with fail
            refine (lives03 _).mono ?_
            rintro e w11 ⟨rfl, hb11⟩
            have R := HB10.out.trans (hb11.mono HB10.out.size)
            clear hb11
            go_wp2_with fail
            go_ret
            exact ⟨rfl, R⟩
end Go.Proofs.YtnfjpiijncadjaaDoor
