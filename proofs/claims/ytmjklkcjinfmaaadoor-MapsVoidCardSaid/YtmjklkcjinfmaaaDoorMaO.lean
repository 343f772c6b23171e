/- Maps: counting, the facts of the law. -/
import Derived.Test.YtmjklkcjinfmaaaDoorMaN
namespace Go.Proofs.YtmjklkcjinfmaaaDoor
open Go.RowKit Go.Maps
set_option linter.unusedVariables false
theorem an_neq (x y : Ans) (W : World) : (binOp .neq 40 (.agg (ansC x).toArray) (.agg (ansC y).toArray)).run Tryd.prog W = .ok (.bool (decide (¬ x = y))) W := by
  obtain ⟨c, n, k, v, fl, id, di, ge⟩ := x
  obtain ⟨c', n', k', v', fl', id', di', ge'⟩ := y
  unfold ansC
  simp [go_sem, bytes_inj]
  by_cases h0 : c = c'
  · by_cases h9 : n = n'
    · by_cases h1 : k = k'
      · by_cases h2 : v = v'
        · by_cases h3 : fl = fl'
          · by_cases h4 : id = id'
            · by_cases h5 : di = di'
              · by_cases h6 : ge = ge'
                · simp [h0, h9, h1, h2, h3, h4, h5, h6]
                · simp [h0, h9, h1, h2, h3, h4, h5, h6]
              · simp [h0, h9, h1, h2, h3, h4, h5]
            · simp [h0, h9, h1, h2, h3, h4]
          · simp [h0, h9, h1, h2, h3]
        · simp [h0, h9, h1, h2]
      · simp [h0, h9, h1]
    · simp [h0, h9]
  · simp [h0]
theorem e1 (n fl : Int) : Mst.new.does ⟨3, sK, textB n, fl, 9, 0, 0⟩ 0 = (⟨1, 1, Itm.none⟩, ⟨[⟨sK, textB n, fl, 1, 9, 0⟩], 0, 1⟩) := by
  have := ct_set [] rfl 0 (textB n) fl 9
  exact this
theorem e2 (n fl b : Int) (h0 : 0 ≤ n) (h1 : n ≤ 18446744073709551615) : (⟨[⟨sK, textB n, fl, 1, 9, 0⟩], 0, 1⟩ : Mst).does ⟨9, sK, ⟨#[]⟩, 0, 0, 0, b⟩ 0 = (⟨8, incrF n b, Itm.none⟩, ⟨[⟨sK, textB (incrF n b), fl, 2, 9, 0⟩], 0, 2⟩) := by
  rw [ct_count (p := n) (.inl rfl) rfl (by rfl) (parse_textB h0 h1)]
  rfl
theorem e3 (n fl b : Int) (h0 : 0 ≤ n) (h1 : n ≤ 18446744073709551615) : (⟨[⟨sK, textB n, fl, 2, 9, 0⟩], 0, 2⟩ : Mst).does ⟨10, sK, ⟨#[]⟩, 0, 0, 0, b⟩ 0 = (⟨8, decrF n b, Itm.none⟩, ⟨[⟨sK, textB (decrF n b), fl, 3, 9, 0⟩], 0, 3⟩) := by
  rw [ct_count (p := n) (.inr rfl) rfl (by rfl) (parse_textB h0 h1)]
  rfl
theorem e4 (v t : ByteArray) (fl : Int) : (⟨[⟨sK, v, fl, 3, 9, 0⟩], 0, 3⟩ : Mst).does ⟨3, sK, t, 0, 0, 0, 0⟩ 0 = (⟨1, 4, Itm.none⟩, ⟨[⟨sK, t, 0, 4, -1, 0⟩], 0, 4⟩) := by
  have := ct_set [⟨sK, v, fl, 3, 9, 0⟩] (wo_one rfl) 3 t 0 0
  exact this
theorem e5y (t : ByteArray) (p : Int) (h : parseF t.data.toList = (p, true)) : (⟨[⟨sK, t, 0, 4, -1, 0⟩], 0, 4⟩ : Mst).does (calN 9 sK ⟨#[]⟩) 0 = (⟨8, incrF p 0, Itm.none⟩, ⟨[⟨sK, textB (incrF p 0), 0, 5, -1, 0⟩], 0, 5⟩) := by
  have := ct_count (y := ⟨sK, t, 0, 4, -1, 0⟩) (i := 4) (b := 0) (p := p) (.inl rfl) rfl (by rfl) h
  exact this
theorem e5n (t : ByteArray) (h : (parseF t.data.toList).2 = false) : (⟨[⟨sK, t, 0, 4, -1, 0⟩], 0, 4⟩ : Mst).does (calN 9 sK ⟨#[]⟩) 0 = (Ans.of 9, ⟨[⟨sK, t, 0, 4, -1, 0⟩], 0, 4⟩) :=
  ct_word rfl (by rfl) h
theorem e6 (v : ByteArray) (i : Int) : (⟨[⟨sK, v, 0, i, -1, 0⟩], 0, i⟩ : Mst).does (calN 7 sK ⟨#[]⟩) 0 = (Ans.of 6, ⟨[], 0, i⟩) := ct_del rfl (by rfl)
theorem cal_ok {v : Int} (hv : 0 ≤ v ∧ v < 256) {k vl : ByteArray} (hk : k.size ≤ maxLen) (hl : vl.size ≤ maxLen) {fl : Int} (hfl : 0 ≤ fl ∧ fl < 4294967296) {ex : Int} (hex : -9223372036854775808 ≤ ex ∧ ex ≤ 9223372036854775807) {b : Int} (hb : 0 ≤ b ∧ b ≤ 18446744073709551615) : CalOk ⟨v, k, vl, fl, ex, 0, b⟩ := ⟨hv, hk, hl, hfl, hex, by show (0 : Int) ≤ 0 ∧ (0 : Int) < 18446744073709551616; decide, hb⟩
theorem wrap_incr (n b : Int) : IntKind.u64.wrap (n + b) = incrF n b := by
  unfold incrF
  simp [IntKind.wrap, IntKind.bits, IntKind.signed]
end Go.Proofs.YtmjklkcjinfmaaaDoor
