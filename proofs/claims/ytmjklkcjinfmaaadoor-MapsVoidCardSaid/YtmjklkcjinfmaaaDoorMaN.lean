/- Maps: counting up and down, as mathematics. -/
import Derived.Test.YtmjklkcjinfmaaaDoorMaJ
namespace Go.Proofs.YtmjklkcjinfmaaaDoor
open Go.RowKit Go.Maps
set_option linter.unusedVariables false
def sK : ByteArray := ⟨#[107]⟩
theorem okK : okB sK = true := by kernel_rfl
theorem comes0 : comes 0 0 = true := by decide
theorem parse_textB {n : Int} (h0 : 0 ≤ n) (h1 : n ≤ 18446744073709551615) : parseF (textB n).data.toList = (n, true) := by
  have h := parse_noughts (u := n.natAbs) 0 (by omega)
  have hl := (dec_len (u := n.natAbs) (by omega)).2
  rw [List.replicate_zero, List.nil_append, if_pos (by omega)] at h
  show parseF (Lib.decDigits n.natAbs).toArray.toList = _
  rw [List.toList_toArray, h, Int.natAbs_of_nonneg h0]
section
variable {S : Mst} {c : Cal} {y : Itm}
theorem does_verb (h : comes S.e 0 = true) (hk : okB c.key = true) {G : Gv} (hv : S.verb c 0 = some G) : S.does c 0 = (G.a, G.S) := by
  unfold Mst.does Mst.gives
  rw [if_pos ⟨h, .inr hk⟩, hv]
theorem there_one {i : Int} (hy : y.k = sK) (ha : aliveI y 0 = true) (hc : c.key = sK) : (⟨[y], 0, i⟩ : Mst).there c 0 = some y := by
  simp [Mst.there, mlook, hy, hc, ha]
theorem look_one {e i : Int} (hy : y.k = sK) : mlook (⟨[y], e, i⟩ : Mst).L sK = some y := by simp [mlook, hy]
theorem wo_one (hy : y.k = sK) : wo [y] sK = [] := by simp [wo, hy]
theorem ct_set (L : List Itm) (hL : wo L sK = []) (i : Int) (v : ByteArray) (fl ex : Int) : (⟨L, 0, i⟩ : Mst).does ⟨3, sK, v, fl, ex, 0, 0⟩ 0 = (⟨1, u64 (i + 1), Itm.none⟩, ⟨[⟨sK, v, fl, u64 (i + 1), diesf 0 ex, 0⟩], 0, u64 (i + 1)⟩) := by
  rw [does_verb (G := Mst.stores ⟨L, 0, i⟩ ⟨3, sK, v, fl, ex, 0, 0⟩ 0) comes0 okK (by simp [Mst.verb])]
  unfold Mst.stores put recM
  simp only
  rw [hL]
  rfl
theorem ct_count {p b i v : Int} (hv : v = 9 ∨ v = 10) (hy : y.k = sK) (ha : aliveI y 0 = true) (hp : parseF y.v.data.toList = (p, true)) : (⟨[y], 0, i⟩ : Mst).does ⟨v, sK, ⟨#[]⟩, 0, 0, 0, b⟩ 0 = (⟨8, countM v p b, Itm.none⟩, ⟨[⟨sK, textB (countM v p b), y.fl, u64 (i + 1), y.dies, y.gen⟩], 0, u64 (i + 1)⟩) := by
  have ht := there_one (c := ⟨v, sK, ⟨#[]⟩, 0, 0, 0, b⟩) (i := i) hy ha rfl
  have hg : (⟨[y], 0, i⟩ : Mst).verb ⟨v, sK, ⟨#[]⟩, 0, 0, 0, b⟩ 0 = some ((⟨[y], 0, i⟩ : Mst).count ⟨v, sK, ⟨#[]⟩, 0, 0, 0, b⟩ 0 y) := by
    unfold Mst.verb
    rw [ht]
    rcases hv with rfl | rfl <;> simp
  rw [does_verb comes0 okK hg]
  unfold Mst.count put
  rw [hp]
  simp only [if_true]
  rw [hy, wo_one hy]
  rfl
theorem ct_word {b i : Int} (hy : y.k = sK) (ha : aliveI y 0 = true) (hp : (parseF y.v.data.toList).2 = false) : (⟨[y], 0, i⟩ : Mst).does ⟨9, sK, ⟨#[]⟩, 0, 0, 0, b⟩ 0 = (Ans.of 9, ⟨[y], 0, i⟩) := by
  have ht := there_one (c := ⟨9, sK, ⟨#[]⟩, 0, 0, 0, b⟩) (i := i) hy ha rfl
  have hg : (⟨[y], 0, i⟩ : Mst).verb ⟨9, sK, ⟨#[]⟩, 0, 0, 0, b⟩ 0 = some ((⟨[y], 0, i⟩ : Mst).count ⟨9, sK, ⟨#[]⟩, 0, 0, 0, b⟩ 0 y) := by
    unfold Mst.verb
    rw [ht]
    simp
  rw [does_verb comes0 okK hg]
  unfold Mst.count
  rw [if_neg (by simp [hp])]
  rfl
theorem ct_del {i : Int} (hy : y.k = sK) (ha : aliveI y 0 = true) : (⟨[y], 0, i⟩ : Mst).does (calN 7 sK ⟨#[]⟩) 0 = (Ans.of 6, ⟨[], 0, i⟩) := by
  have ht := there_one (c := calN 7 sK ⟨#[]⟩) (i := i) hy ha rfl
  have hg : (⟨[y], 0, i⟩ : Mst).verb (calN 7 sK ⟨#[]⟩) 0 = some ⟨Ans.of 6, ⟨[], 0, i⟩, false⟩ := by
    unfold Mst.verb
    rw [ht]
    simp only [calN]
    rw [wo_one hy]
    rfl
  rw [does_verb comes0 okK hg]
theorem ct_gone (i : Int) : (⟨[], 0, i⟩ : Mst).does (calN 7 sK ⟨#[]⟩) 0 = (Ans.of 4, ⟨[], 0, i⟩) := by
  have hg : (⟨[], 0, i⟩ : Mst).verb (calN 7 sK ⟨#[]⟩) 0 = some (Mst.stay ⟨[], 0, i⟩ 0 4) := by
    unfold Mst.verb
    rfl
  rw [does_verb comes0 okK hg]
  rfl
end
end Go.Proofs.YtmjklkcjinfmaaaDoor
