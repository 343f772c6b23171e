/- Tells: numbers behind one another; a line and its end. -/
import Derived.Test.YtcmogfdbjppdeaaDoorTyRef
import Derived.Test.YtcmogfdbjppdeaaDoorBits
import Derived.OwnWalk
namespace Go.Proofs.YtcmogfdbjppdeaaDoor
open Go.RowKit
set_option linter.unusedVariables false

/-- A listed table outlives what leaves the old blocks as they are. -/
theorem tabIs_below {P : Program} {w w' : World} {name : String} {k : IntKind} {zs : List Int} (h : Lib.TabIs P w name k zs) (hb : Below w.heap.size w w') : Lib.TabIs P w' name k zs := by
  unfold Lib.TabIs World.var? at *
  cases hg : P.globalNamed name with
  | none => simp [hg] at h
  | some g =>
    simp only [hg, Option.bind_some] at h ⊢
    have hlt : g < w.heap.size := by
      rcases Nat.lt_or_ge g w.heap.size with h' | h'
      · exact h'
      · rw [Array.getElem?_eq_none h'] at h; simp at h
    rw [hb.block g hlt]
    exact h
theorem info_str : (Tryd.prog.info? 9).map (fun i => (i.zero, i.size, i.bytes)) = some (some (.string ByteArray.empty), 1, 16) := by kernel_rfl
/-- A number's text. -/
def decS (u : Nat) : ByteArray := ⟨(Lib.decDigits u).toArray⟩
def strsV (l : List ByteArray) : List Value := l.map Value.string
theorem strsV_one {l : List ByteArray} {u : Value} (h : u ∈ strsV l) : u.oneCell' = true := by
  simp only [strsV, List.mem_map] at h
  obtain ⟨c, _, rfl⟩ := h
  rfl
theorem join_len (sep : List UInt8) : ∀ (xs : List (List UInt8)), (∀ x ∈ xs, x.length ≤ 20) → (Lib.join xs sep).length ≤ xs.length * (20 + sep.length)
  | [], _ => by simp [Lib.join]
  | [x], h => by have := h x (by simp); simp [Lib.join]; omega
  | x :: y :: xs, h => by
    have ih := join_len sep (y :: xs) (fun z hz => h z (by simp [hz]))
    have := h x (by simp)
    simp [Lib.join] at ih ⊢
    have e : (xs.length + 1 + 1) * (20 + sep.length) = (xs.length + 1) * (20 + sep.length) + (20 + sep.length) := Nat.succ_mul _ _
    rw [e]
    omega
theorem join_small (us : List Nat) (hn : us.length ≤ 8) (hu : ∀ u ∈ us, u < 18446744073709551616) : (Lib.join (us.map Lib.decDigits) [32]).length ≤ 140737488355328 := by
  have h := join_len [32] (us.map Lib.decDigits) (fun x hx => by
    simp at hx
    obtain ⟨u, hu', rfl⟩ := hx
    exact (dec_len (by have := hu u hu'; omega)).2)
  have h2 : (us.map Lib.decDigits).length * (20 + [(32 : UInt8)].length) ≤ 8 * 21 := Nat.mul_le_mul (by simpa using hn) (by simp)
  omega
set_option maxHeartbeats 2000000 in
set_option maxRecDepth 100000 in
theorem numbersw (b o c : Nat) (us : List Nat) (w : World) (hcell : ∀ (j u : Nat), us[j]? = some u → w.cell? ⟨b, o + j, none⟩ = some (.int .u64 (u : Int))) (hu : ∀ u ∈ us, u < 18446744073709551616) (hn : 0 < us.length) (hn8 : us.length ≤ 8) (hc : us.length ≤ c) (hcm : c ≤ maxLen) (hb : b < w.heap.size) (htab : Lib.TabIs Tryd.prog w "internal/strconv.uint64pow10" .u64 Lib.pow10Tab) :
    Calls Tryd.prog 29 #[.slice (some ⟨b, o, none⟩) us.length c] w fun e w' => e = .returned (.string ⟨(Lib.join (us.map Lib.decDigits) [32]).toArray⟩) ∧ Below w.heap.size w w' := by
  obtain ⟨i0, hi, hz0, hz1, hz2⟩ := info_parts info_str
  unfold maxLen at hcm
  obtain ⟨B, hB⟩ : ∃ B, B = w.heap.size := ⟨_, rfl⟩
  have hbB : b < B := by omega
  have HC := Lib.hid hcell
  have HU := Lib.hid hu
  have HT := Lib.hid htab
  have HB := Lib.hid hB
  clear hcell hu htab hB hb
  go_enter Tryd.func29, Tryd.ntmps29
  go_wp2_with fail
  go_loopw [3, 8] (fun v i wr => ∃ k : Nat, k ≤ us.length ∧ i = .int .i64 k ∧ wr.ownsRow B 9 1 v k (strsV ((us.map decS).take k)) ∧ Below B w wr) (fun _ i _ => us.length - (intOf i).toNat)
  case atStart => exact ⟨0, by omega, rfl, World.ownsRow_nil _ _ _ _, Below.refl _ _⟩
  case round =>
    obtain ⟨k, hk, rfl, hown, hnx⟩ := hrel
    have hsz := hnx.size
    by_cases hlt : k < us.length
    · obtain ⟨u, hu⟩ : ∃ u, us[k]? = some u := ⟨us[k], List.getElem?_eq_getElem hlt⟩
      have hcu := box_cell hnx hbB (HC.out k u hu)
      have hul := HU.out u (List.mem_of_getElem? hu)
      have HS : Hid (strsV ((us.map decS).take (k + 1)) = strsV ((us.map decS).take k) ++ [.string (decS u)]) := by
        show _ = _
        rw [List.take_add_one]; simp [strsV, hu]
      have HTX := Lib.hid (textw u hul wr (tabIs_below HT.out (HB.out ▸ hnx)))
      clear hu hul
      go_wp2_with fail
      refine HTX.out.mono ?_
      rintro e w1 ⟨rfl, hb1⟩
      have hnx1 := hnx.trans (hb1.mono (by have := HB.out; omega))
      have hown1 : w1.ownsRow B 9 1 u3 k (strsV ((us.map decS).take k)) := by
        obtain ⟨hl, h | ⟨g, cap, cur, rfl, hg, hblk, r⟩⟩ := hown
        · exact ⟨hl, .inl h⟩
        · exact ⟨hl, .inr ⟨g, cap, cur, rfl, hg, (hb1.block g (by
            rcases Nat.lt_or_ge g wr.heap.size with h | h
            · exact h
            · rw [Array.getElem?_eq_none h] at hblk; simp at hblk)).trans hblk, r⟩⟩
      have hfold : (⟨(Lib.decDigits u).toArray⟩ : ByteArray) = decS u := rfl
      rw [hfold]
      clear hb1 hown hfold HTX
      go_wp2_with (at_builtin; refine wpList_append_own _ rfl _ _ 23 rfl B 9 i0 (.string ByteArray.empty) 1 16 Tryd.underlying23 hi hz0 hz1 hz2 rfl (by decide) _ _ _ rfl (hown1.alloc _) ⟨w1.heap.size, 0, none⟩ 1 1 [.string (decS u)] rfl rfl ?c1 ?c2 ?c3 ?c4 ?c5 ?_)
      case c1 =>
        intro j x hj
        match j, hj with
        | 0, hj => simp at hj; subst hj; simp [Addr.add]
      case c2 => intro x hx; simp at hx; subst hx; rfl
      case c3 => unfold maxLen; omega
      case c4 => omega
      case c5 => have := hnx1.size; have := HB.out; simp; omega
      intro v' w2 hown' hgrow _
      have R : Below B w w2 := (hnx1.alloc (by have := hnx1.size; have := HB.out; omega) _).grown hgrow (by have := hnx1.size; have := HB.out; simp; omega) (fun k hk => (hown1.lt k hk).1)
      clear hgrow hown1
      go_wp2
      go_roundw
      case rel => exact ⟨k + 1, by omega, by go_num, by rw [HS.out]; exact hown', R⟩
      case measure => simp [intOf]; omega
    · have hE : k = us.length := by omega
      have htk : (us.map decS).take k = us.map decS := List.take_of_length_le (by simp; omega)
      rw [htk, hE] at hown
      obtain ⟨_, ⟨_, h0⟩ | ⟨g, cap, cur, hv, hgB, hblk, hncap, hcapm, _⟩⟩ := id hown
      · omega
      · rw [hv] at hown ⊢
        have hgl : g < wr.heap.size := by
          rcases Nat.lt_or_ge g wr.heap.size with h | h
          · exact h
          · rw [Array.getElem?_eq_none h] at hblk; simp at hblk
        have hlenx : (us.map decS).length = us.length := by simp
        have hcl : ∀ (j : Nat) x, (us.map decS)[j]? = some x → wr.cell? ⟨g, 0 + j, none⟩ = some (.string x) := by
          intro j x hx
          have := hown.cells rfl j (.string x) (by simp only [strsV, List.getElem?_map, hx]; rfl)
          rwa [Addr.add_lit] at this
        have hmm : (us.map decS).map (·.data.toList) = us.map Lib.decDigits := by simp [decS, Function.comp_def]
        have hjl : (Lib.join (us.map Lib.decDigits) [32]).length ≤ 140737488355328 := join_small us hn8 HU.out
        have hJ := Tryd.strings_Join g 0 cap (us.map decS) ⟨#[32]⟩ wr hcl hgl (by rw [hlenx]; omega) (by rw [hlenx]; exact hncap) (by rw [hmm]; exact hjl)
        rw [hlenx, hmm] at hJ
        have HJ := Lib.hid hJ
        clear hown hv hcl hmm hjl hJ hblk htk hE hlenx
        go_wp2_with fail
        refine HJ.out.mono ?_
        rintro e w2 ⟨rfl, hb2⟩
        go_wp2_with fail
        go_ret
        exact ⟨rfl, HB.out ▸ hnx.trans (hb2.mono (by have := HB.out; omega))⟩
end Go.Proofs.YtcmogfdbjppdeaaDoor
