/- The chapter's maps: what a call gives, of any call. -/
import Derived.Test.YtmjklkcjinfmaaaDoorGMr
import Derived.Test.YtmjklkcjinfmaaaDoorGMs
import Derived.Test.YtmjklkcjinfmaaaDoorMr5c
import Derived.Test.YtmjklkcjinfmaaaDoorMaH
import Derived.Test.YtmjklkcjinfmaaaDoorMaP
namespace Go.Proofs.YtmjklkcjinfmaaaDoor
open Go.RowKit Go.Maps
set_option linter.unusedVariables false
theorem look3 (L : List Itm) (key : ByteArray) (x : Int) : mlook L key = none ∨ (∃ y, mlook L key = some y ∧ alivef y.gen y.dies x = false) ∨ (∃ y, mlook L key = some y ∧ alivef y.gen y.dies x = true) := by
  cases h : mlook L key with
  | none => exact .inl rfl
  | some y =>
    cases ha : alivef y.gen y.dies x with
    | false => exact .inr (.inl ⟨y, rfl, ha⟩)
    | true => exact .inr (.inr ⟨y, rfl, ha⟩)
theorem there_N {S : Mst} {c : Cal} {x : Int} (h : mlook S.L c.key = none) : S.there c x = none := by unfold Mst.there; rw [h]; rfl
theorem there_D {S : Mst} {c : Cal} {x : Int} {y : Itm} (h : mlook S.L c.key = some y) (ha : alivef y.gen y.dies x = false) : S.there c x = none := by unfold Mst.there aliveI; rw [h, Option.filter_some, ha]; rfl
theorem there_A {S : Mst} {c : Cal} {x : Int} {y : Itm} (h : mlook S.L c.key = some y) (ha : alivef y.gen y.dies x = true) : S.there c x = some y := by unfold Mst.there aliveI; rw [h, Option.filter_some, ha]; rfl
section
variable {w : World} {r : Nat} {a : Option Addr} {n cp : Nat} {e i : Int} {L : List Itm} {B : Nat} {c : Cal} {x : Int}
set_option maxHeartbeats 8000000 in
set_option maxRecDepth 100000 in
theorem rgivesw (hr : Bk w r (mapR a n cp e i)) (hl : RL w B a n cp L) (hn : n < 1000000) (hS : MOk ⟨L, e, i⟩) (hc : CalOk c) (hx : 0 ≤ x ∧ x < 18446744073709551616) :
    Calls Tryd.prog 37 #[.pointer (some ⟨r, 0, none⟩), .agg (calC c).toArray, .int .u64 x] w (rgvP w a (Mst.gives ⟨L, e, i⟩ c x)) := by
  have he : 0 ≤ e ∧ e < 18446744073709551616 := hS.e
  have hits := hS.its
  have hk := hc.key
  unfold Mst.gives
  cases hcm : comes e x with
  | false =>
    rw [if_neg (fun h => by cases h.1)]
    obtain ⟨v, key, vl, fl, ex, id, by_⟩ := c
    exact rg_late hr hl hn he hx hk hcm
  | true =>
    by_cases h11 : c.verb = 11
    · rw [if_pos ⟨rfl, .inl h11⟩]
      obtain ⟨v, key, vl, fl, ex, id, by_⟩ := c
      obtain rfl : v = 11 := h11
      cases hfl : flushes x with
      | true =>
        have e1 : Mst.verb ⟨L, e, i⟩ ⟨11, key, vl, fl, ex, id, by_⟩ x = some ⟨Ans.of 10, ⟨L, flushf x ex, i⟩, false⟩ := by
          have e2 : Mst.verb ⟨L, e, i⟩ ⟨11, key, vl, fl, ex, id, by_⟩ x = some (if flushes x then ⟨Ans.of 10, ⟨L, flushf x ex, i⟩, false⟩ else Mst.stay ⟨L, e, i⟩ x 5) := rfl
          rw [e2, hfl]; rfl
        rw [e1]
        rcases look3 L key x with hlk | ⟨y, hlk, hal⟩ | ⟨y, hlk, hal⟩
        · exact rg_flYN hr hl hn he hx hk rfl hfl hcm hlk
        · exact rg_flYD hr hl hn he hx hk rfl hfl hcm hlk hal
        · exact rg_flYA hr hl hn he hx hk rfl hfl hcm hlk hal
      | false =>
        have e1 : Mst.verb ⟨L, e, i⟩ ⟨11, key, vl, fl, ex, id, by_⟩ x = some (Mst.stay ⟨L, e, i⟩ x 5) := by
          have e2 : Mst.verb ⟨L, e, i⟩ ⟨11, key, vl, fl, ex, id, by_⟩ x = some (if flushes x then ⟨Ans.of 10, ⟨L, flushf x ex, i⟩, false⟩ else Mst.stay ⟨L, e, i⟩ x 5) := rfl
          rw [e2, hfl]; rfl
        rw [e1]
        rcases look3 L key x with hlk | ⟨y, hlk, hal⟩ | ⟨y, hlk, hal⟩
        · exact rg_flNN hr hl hn he hx hk rfl hfl hcm hlk
        · exact rg_flND hr hl hn he hx hk rfl hfl hcm hlk hal
        · exact rg_flNA hr hl hn he hx hk rfl hfl hcm hlk hal
    cases hok : okB c.key with
    | false =>
      rw [if_neg (fun h => by rcases h.2 with h | h; exact h11 h; cases h)]
      obtain ⟨v, key, vl, fl, ex, id, by_⟩ := c
      exact rg_key hr hl hn he hx hk hcm h11 hok
    | true =>
      rw [if_pos ⟨rfl, .inr rfl⟩]
      obtain ⟨v, key, vl, fl, ex, id, by_⟩ := c
      dsimp only at h11 hok
      by_cases hv : 1 ≤ v ∧ v ≤ 11
      · have hcs : v = 1 ∨ v = 2 ∨ v = 3 ∨ v = 4 ∨ v = 5 ∨ v = 6 ∨ v = 7 ∨ v = 8 ∨ v = 9 ∨ v = 10 := by omega
        clear hv h11
        rcases look3 L key x with hlk | ⟨y, hlk, hal⟩ | ⟨y, hlk, hal⟩
        · have ht : ∀ v, Mst.there ⟨L, e, i⟩ ⟨v, key, vl, fl, ex, id, by_⟩ x = none := fun v => there_N hlk
          rcases hcs with rfl | rfl | rfl | rfl | rfl | rfl | rfl | rfl | rfl | rfl
          · rw [show Mst.verb ⟨L, e, i⟩ ⟨1, key, vl, fl, ex, id, by_⟩ x = some (match Mst.there ⟨L, e, i⟩ ⟨1, key, vl, fl, ex, id, by_⟩ x with | some x_1 => ⟨⟨11, 0, x_1⟩, ⟨L, x, i⟩, false⟩ | none => Mst.stay ⟨L, e, i⟩ x 12) from rfl, ht]
            exact rg_getN hr hl hn he hx hk (.inl rfl) hcm hok hlk
          · rw [show Mst.verb ⟨L, e, i⟩ ⟨2, key, vl, fl, ex, id, by_⟩ x = some (match Mst.there ⟨L, e, i⟩ ⟨2, key, vl, fl, ex, id, by_⟩ x with | some x_1 => ⟨⟨11, 0, x_1⟩, ⟨L, x, i⟩, false⟩ | none => Mst.stay ⟨L, e, i⟩ x 12) from rfl, ht]
            exact rg_getN hr hl hn he hx hk (.inr rfl) hcm hok hlk
          · rw [show Mst.verb ⟨L, e, i⟩ ⟨3, key, vl, fl, ex, id, by_⟩ x = some (Mst.stores ⟨L, e, i⟩ ⟨3, key, vl, fl, ex, id, by_⟩ x) from rfl]
            exact rg_setN hr hl hn he hx hk rfl hcm hok hlk
          · rw [show Mst.verb ⟨L, e, i⟩ ⟨4, key, vl, fl, ex, id, by_⟩ x = some (if (Mst.there ⟨L, e, i⟩ ⟨4, key, vl, fl, ex, id, by_⟩ x).isSome then Mst.stay ⟨L, e, i⟩ x 2 else Mst.stores ⟨L, e, i⟩ ⟨4, key, vl, fl, ex, id, by_⟩ x) from rfl, ht]
            exact rg_addN hr hl hn he hx hk rfl hcm hok hlk
          · rw [show Mst.verb ⟨L, e, i⟩ ⟨5, key, vl, fl, ex, id, by_⟩ x = some (if (Mst.there ⟨L, e, i⟩ ⟨5, key, vl, fl, ex, id, by_⟩ x).isSome then Mst.stores ⟨L, e, i⟩ ⟨5, key, vl, fl, ex, id, by_⟩ x else Mst.stay ⟨L, e, i⟩ x 2) from rfl, ht]
            exact rg_repN hr hl hn he hx hk rfl hcm hok hlk
          · rw [show Mst.verb ⟨L, e, i⟩ ⟨6, key, vl, fl, ex, id, by_⟩ x = some (match Mst.there ⟨L, e, i⟩ ⟨6, key, vl, fl, ex, id, by_⟩ x with | some x_1 => (if x_1.id = id then Mst.stores ⟨L, e, i⟩ ⟨6, key, vl, fl, ex, id, by_⟩ x else Mst.stay ⟨L, e, i⟩ x 3) | none => Mst.stay ⟨L, e, i⟩ x 4) from rfl, ht]
            exact rg_casN hr hl hn he hx hk rfl hcm hok hlk
          · rw [show Mst.verb ⟨L, e, i⟩ ⟨7, key, vl, fl, ex, id, by_⟩ x = some (match Mst.there ⟨L, e, i⟩ ⟨7, key, vl, fl, ex, id, by_⟩ x with | some x_1 => ⟨Ans.of 6, ⟨wo L key, x, i⟩, false⟩ | none => Mst.stay ⟨L, e, i⟩ x 4) from rfl, ht]
            exact rg_chgN hr hl hn he hx hk (.inl rfl) hcm hok hlk
          · rw [show Mst.verb ⟨L, e, i⟩ ⟨8, key, vl, fl, ex, id, by_⟩ x = some (match Mst.there ⟨L, e, i⟩ ⟨8, key, vl, fl, ex, id, by_⟩ x with | some x_1 => ⟨Ans.of 7, ⟨put L { x_1 with dies := diesf x ex }, x, i⟩, false⟩ | none => Mst.stay ⟨L, e, i⟩ x 4) from rfl, ht]
            exact rg_chgN hr hl hn he hx hk (.inr (.inl rfl)) hcm hok hlk
          · rw [show Mst.verb ⟨L, e, i⟩ ⟨9, key, vl, fl, ex, id, by_⟩ x = some (match Mst.there ⟨L, e, i⟩ ⟨9, key, vl, fl, ex, id, by_⟩ x with | some x_1 => Mst.count ⟨L, e, i⟩ ⟨9, key, vl, fl, ex, id, by_⟩ x x_1 | none => Mst.stay ⟨L, e, i⟩ x 4) from rfl, ht]
            exact rg_chgN hr hl hn he hx hk (.inr (.inr (.inl rfl))) hcm hok hlk
          · rw [show Mst.verb ⟨L, e, i⟩ ⟨10, key, vl, fl, ex, id, by_⟩ x = some (match Mst.there ⟨L, e, i⟩ ⟨10, key, vl, fl, ex, id, by_⟩ x with | some x_1 => Mst.count ⟨L, e, i⟩ ⟨10, key, vl, fl, ex, id, by_⟩ x x_1 | none => Mst.stay ⟨L, e, i⟩ x 4) from rfl, ht]
            exact rg_chgN hr hl hn he hx hk (.inr (.inr (.inr rfl))) hcm hok hlk
        · have ht : ∀ v, Mst.there ⟨L, e, i⟩ ⟨v, key, vl, fl, ex, id, by_⟩ x = none := fun v => there_D hlk hal
          rcases hcs with rfl | rfl | rfl | rfl | rfl | rfl | rfl | rfl | rfl | rfl
          · rw [show Mst.verb ⟨L, e, i⟩ ⟨1, key, vl, fl, ex, id, by_⟩ x = some (match Mst.there ⟨L, e, i⟩ ⟨1, key, vl, fl, ex, id, by_⟩ x with | some x_1 => ⟨⟨11, 0, x_1⟩, ⟨L, x, i⟩, false⟩ | none => Mst.stay ⟨L, e, i⟩ x 12) from rfl, ht]
            exact rg_getD hr hl hn he hx hk (.inl rfl) hcm hok hlk hal
          · rw [show Mst.verb ⟨L, e, i⟩ ⟨2, key, vl, fl, ex, id, by_⟩ x = some (match Mst.there ⟨L, e, i⟩ ⟨2, key, vl, fl, ex, id, by_⟩ x with | some x_1 => ⟨⟨11, 0, x_1⟩, ⟨L, x, i⟩, false⟩ | none => Mst.stay ⟨L, e, i⟩ x 12) from rfl, ht]
            exact rg_getD hr hl hn he hx hk (.inr rfl) hcm hok hlk hal
          · rw [show Mst.verb ⟨L, e, i⟩ ⟨3, key, vl, fl, ex, id, by_⟩ x = some (Mst.stores ⟨L, e, i⟩ ⟨3, key, vl, fl, ex, id, by_⟩ x) from rfl]
            exact rg_setD hr hl hn he hx hk rfl hcm hok hlk hal
          · rw [show Mst.verb ⟨L, e, i⟩ ⟨4, key, vl, fl, ex, id, by_⟩ x = some (if (Mst.there ⟨L, e, i⟩ ⟨4, key, vl, fl, ex, id, by_⟩ x).isSome then Mst.stay ⟨L, e, i⟩ x 2 else Mst.stores ⟨L, e, i⟩ ⟨4, key, vl, fl, ex, id, by_⟩ x) from rfl, ht]
            exact rg_addD hr hl hn he hx hk rfl hcm hok hlk hal
          · rw [show Mst.verb ⟨L, e, i⟩ ⟨5, key, vl, fl, ex, id, by_⟩ x = some (if (Mst.there ⟨L, e, i⟩ ⟨5, key, vl, fl, ex, id, by_⟩ x).isSome then Mst.stores ⟨L, e, i⟩ ⟨5, key, vl, fl, ex, id, by_⟩ x else Mst.stay ⟨L, e, i⟩ x 2) from rfl, ht]
            exact rg_repD hr hl hn he hx hk rfl hcm hok hlk hal
          · rw [show Mst.verb ⟨L, e, i⟩ ⟨6, key, vl, fl, ex, id, by_⟩ x = some (match Mst.there ⟨L, e, i⟩ ⟨6, key, vl, fl, ex, id, by_⟩ x with | some x_1 => (if x_1.id = id then Mst.stores ⟨L, e, i⟩ ⟨6, key, vl, fl, ex, id, by_⟩ x else Mst.stay ⟨L, e, i⟩ x 3) | none => Mst.stay ⟨L, e, i⟩ x 4) from rfl, ht]
            exact rg_casD hr hl hn he hx hk rfl hcm hok hlk hal
          · rw [show Mst.verb ⟨L, e, i⟩ ⟨7, key, vl, fl, ex, id, by_⟩ x = some (match Mst.there ⟨L, e, i⟩ ⟨7, key, vl, fl, ex, id, by_⟩ x with | some x_1 => ⟨Ans.of 6, ⟨wo L key, x, i⟩, false⟩ | none => Mst.stay ⟨L, e, i⟩ x 4) from rfl, ht]
            exact rg_chgD hr hl hn he hx hk (.inl rfl) hcm hok hlk hal
          · rw [show Mst.verb ⟨L, e, i⟩ ⟨8, key, vl, fl, ex, id, by_⟩ x = some (match Mst.there ⟨L, e, i⟩ ⟨8, key, vl, fl, ex, id, by_⟩ x with | some x_1 => ⟨Ans.of 7, ⟨put L { x_1 with dies := diesf x ex }, x, i⟩, false⟩ | none => Mst.stay ⟨L, e, i⟩ x 4) from rfl, ht]
            exact rg_chgD hr hl hn he hx hk (.inr (.inl rfl)) hcm hok hlk hal
          · rw [show Mst.verb ⟨L, e, i⟩ ⟨9, key, vl, fl, ex, id, by_⟩ x = some (match Mst.there ⟨L, e, i⟩ ⟨9, key, vl, fl, ex, id, by_⟩ x with | some x_1 => Mst.count ⟨L, e, i⟩ ⟨9, key, vl, fl, ex, id, by_⟩ x x_1 | none => Mst.stay ⟨L, e, i⟩ x 4) from rfl, ht]
            exact rg_chgD hr hl hn he hx hk (.inr (.inr (.inl rfl))) hcm hok hlk hal
          · rw [show Mst.verb ⟨L, e, i⟩ ⟨10, key, vl, fl, ex, id, by_⟩ x = some (match Mst.there ⟨L, e, i⟩ ⟨10, key, vl, fl, ex, id, by_⟩ x with | some x_1 => Mst.count ⟨L, e, i⟩ ⟨10, key, vl, fl, ex, id, by_⟩ x x_1 | none => Mst.stay ⟨L, e, i⟩ x 4) from rfl, ht]
            exact rg_chgD hr hl hn he hx hk (.inr (.inr (.inr rfl))) hcm hok hlk hal
        · have ht : ∀ v, Mst.there ⟨L, e, i⟩ ⟨v, key, vl, fl, ex, id, by_⟩ x = some y := fun v => there_A hlk hal
          have hyk : y.k = key := look_key hlk
          have hyi := hits y (look_mem hlk)
          rcases hcs with rfl | rfl | rfl | rfl | rfl | rfl | rfl | rfl | rfl | rfl
          · rw [show Mst.verb ⟨L, e, i⟩ ⟨1, key, vl, fl, ex, id, by_⟩ x = some (match Mst.there ⟨L, e, i⟩ ⟨1, key, vl, fl, ex, id, by_⟩ x with | some x_1 => ⟨⟨11, 0, x_1⟩, ⟨L, x, i⟩, false⟩ | none => Mst.stay ⟨L, e, i⟩ x 12) from rfl, ht]
            exact rg_getA hr hl hn he hx hk (.inl rfl) hcm hok hlk hal
          · rw [show Mst.verb ⟨L, e, i⟩ ⟨2, key, vl, fl, ex, id, by_⟩ x = some (match Mst.there ⟨L, e, i⟩ ⟨2, key, vl, fl, ex, id, by_⟩ x with | some x_1 => ⟨⟨11, 0, x_1⟩, ⟨L, x, i⟩, false⟩ | none => Mst.stay ⟨L, e, i⟩ x 12) from rfl, ht]
            exact rg_getA hr hl hn he hx hk (.inr rfl) hcm hok hlk hal
          · rw [show Mst.verb ⟨L, e, i⟩ ⟨3, key, vl, fl, ex, id, by_⟩ x = some (Mst.stores ⟨L, e, i⟩ ⟨3, key, vl, fl, ex, id, by_⟩ x) from rfl]
            exact rg_setA hr hl hn he hx hk rfl hcm hok hlk hal
          · rw [show Mst.verb ⟨L, e, i⟩ ⟨4, key, vl, fl, ex, id, by_⟩ x = some (if (Mst.there ⟨L, e, i⟩ ⟨4, key, vl, fl, ex, id, by_⟩ x).isSome then Mst.stay ⟨L, e, i⟩ x 2 else Mst.stores ⟨L, e, i⟩ ⟨4, key, vl, fl, ex, id, by_⟩ x) from rfl, ht]
            exact rg_addA hr hl hn he hx hk rfl hcm hok hlk hal
          · rw [show Mst.verb ⟨L, e, i⟩ ⟨5, key, vl, fl, ex, id, by_⟩ x = some (if (Mst.there ⟨L, e, i⟩ ⟨5, key, vl, fl, ex, id, by_⟩ x).isSome then Mst.stores ⟨L, e, i⟩ ⟨5, key, vl, fl, ex, id, by_⟩ x else Mst.stay ⟨L, e, i⟩ x 2) from rfl, ht]
            exact rg_repA hr hl hn he hx hk rfl hcm hok hlk hal
          · rw [show Mst.verb ⟨L, e, i⟩ ⟨6, key, vl, fl, ex, id, by_⟩ x = some (match Mst.there ⟨L, e, i⟩ ⟨6, key, vl, fl, ex, id, by_⟩ x with | some x_1 => (if x_1.id = id then Mst.stores ⟨L, e, i⟩ ⟨6, key, vl, fl, ex, id, by_⟩ x else Mst.stay ⟨L, e, i⟩ x 3) | none => Mst.stay ⟨L, e, i⟩ x 4) from rfl, ht]
            dsimp only
            by_cases hid : y.id = id
            · rw [if_pos hid]; exact rg_casE hr hl hn he hx hk rfl hid hcm hok hlk hal
            · rw [if_neg hid]; exact rg_casX hr hl hn he hx hk rfl hid hcm hok hlk hal
          · rw [show Mst.verb ⟨L, e, i⟩ ⟨7, key, vl, fl, ex, id, by_⟩ x = some (match Mst.there ⟨L, e, i⟩ ⟨7, key, vl, fl, ex, id, by_⟩ x with | some x_1 => ⟨Ans.of 6, ⟨wo L key, x, i⟩, false⟩ | none => Mst.stay ⟨L, e, i⟩ x 4) from rfl, ht]
            exact rg_chgA hr hl hn he hx hk (.inl rfl) (fun W hb => rch_del (c := ⟨7, key, vl, fl, ex, id, by_⟩) (hr.new hb) (hl.new hb) hn x hx y hyk rfl) hcm hok hlk hal
          · rw [show Mst.verb ⟨L, e, i⟩ ⟨8, key, vl, fl, ex, id, by_⟩ x = some (match Mst.there ⟨L, e, i⟩ ⟨8, key, vl, fl, ex, id, by_⟩ x with | some x_1 => ⟨Ans.of 7, ⟨put L { x_1 with dies := diesf x ex }, x, i⟩, false⟩ | none => Mst.stay ⟨L, e, i⟩ x 4) from rfl, ht]
            exact rg_chgA hr hl hn he hx hk (.inr (.inl rfl)) (fun W hb => rch_touch (c := ⟨8, key, vl, fl, ex, id, by_⟩) (hr.new hb) (hl.new hb) hn x hx y hyk rfl) hcm hok hlk hal
          · rw [show Mst.verb ⟨L, e, i⟩ ⟨9, key, vl, fl, ex, id, by_⟩ x = some (match Mst.there ⟨L, e, i⟩ ⟨9, key, vl, fl, ex, id, by_⟩ x with | some x_1 => Mst.count ⟨L, e, i⟩ ⟨9, key, vl, fl, ex, id, by_⟩ x x_1 | none => Mst.stay ⟨L, e, i⟩ x 4) from rfl, ht]
            dsimp only
            unfold Mst.count
            cases hp : (parseF y.v.data.toList).2 with
            | true => rw [if_pos rfl]; exact rg_chgA hr hl hn he hx hk (.inr (.inr (.inl rfl))) (fun W hb => rch_count (c := ⟨9, key, vl, fl, ex, id, by_⟩) (hr.new hb) (hl.new hb) hn x hx y hyk hc hyi.v 9 rfl (.inl rfl) hp) hcm hok hlk hal
            | false => rw [if_neg (by simp)]; exact rg_chgA hr hl hn he hx hk (.inr (.inr (.inl rfl))) (fun W hb => rch_nan (c := ⟨9, key, vl, fl, ex, id, by_⟩) (hr.new hb) (hl.new hb) hn x hx y hyk hyi.v 9 rfl (.inl rfl) hp) hcm hok hlk hal
          · rw [show Mst.verb ⟨L, e, i⟩ ⟨10, key, vl, fl, ex, id, by_⟩ x = some (match Mst.there ⟨L, e, i⟩ ⟨10, key, vl, fl, ex, id, by_⟩ x with | some x_1 => Mst.count ⟨L, e, i⟩ ⟨10, key, vl, fl, ex, id, by_⟩ x x_1 | none => Mst.stay ⟨L, e, i⟩ x 4) from rfl, ht]
            dsimp only
            unfold Mst.count
            cases hp : (parseF y.v.data.toList).2 with
            | true => rw [if_pos rfl]; exact rg_chgA hr hl hn he hx hk (.inr (.inr (.inr rfl))) (fun W hb => rch_count (c := ⟨10, key, vl, fl, ex, id, by_⟩) (hr.new hb) (hl.new hb) hn x hx y hyk hc hyi.v 10 rfl (.inr rfl) hp) hcm hok hlk hal
            | false => rw [if_neg (by simp)]; exact rg_chgA hr hl hn he hx hk (.inr (.inr (.inr rfl))) (fun W hb => rch_nan (c := ⟨10, key, vl, fl, ex, id, by_⟩) (hr.new hb) (hl.new hb) hn x hx y hyk hyi.v 10 rfl (.inr rfl) hp) hcm hok hlk hal
      · have e1 : Mst.verb ⟨L, e, i⟩ ⟨v, key, vl, fl, ex, id, by_⟩ x = none := by
          unfold Mst.verb
          dsimp only
          rw [if_neg (by omega), if_neg (by omega), if_neg (by omega), if_neg (by omega), if_neg (by omega), if_neg (by omega), if_neg (by omega), if_neg (by omega), if_neg (by omega)]
        rw [e1]
        rcases look3 L key x with hlk | ⟨y, hlk, hal⟩ | ⟨y, hlk, hal⟩
        · exact rg_defN hr hl hn he hx hk hv hcm hok hlk
        · exact rg_defD hr hl hn he hx hk hv hcm hok hlk hal
        · exact rg_defA hr hl hn he hx hk hv hcm hok hlk hal
end
end Go.Proofs.YtmjklkcjinfmaaaDoor
/- Next: The chapter's maps: Gives, Fits, Drop. -/
namespace Go.Proofs.YtmjklkcjinfmaaaDoor
open Go.RowKit Go.Maps
set_option linter.unusedVariables false
theorem gAns_get (S : Mst) (c : Cal) (x : Int) : gAns S c x = ((S.gives c x).getD Gv.none).a := by
  unfold gAns
  cases S.gives c x <;> rfl
/-- What Fits and Drop leave. -/
def RtP (w : World) (r : Nat) (a : Option Addr) (res : Bool × Mst) (e : Ending) (w' : World) : Prop := e = .returned (.bool res.1) ∧ ∃ a1 n1 c1, Bk w' r (mapR a1 n1 c1 res.2.e res.2.i) ∧ RL w' 0 a1 n1 c1 res.2.L ∧ OnA w.heap.size a a1 ∧ Keeps (fun k => k = r) w w'
section
variable {w : World} {r : Nat} {a : Option Addr} {n cp : Nat} {e i : Int} {L : List Itm} {B : Nat} {c : Cal} {x : Int} {d : Cld}
set_option maxHeartbeats 8000000 in
set_option maxRecDepth 100000 in
theorem rGivesw (hr : Bk w r (mapR a n cp e i)) (hl : RL w B a n cp L) (hn : n < 1000000) (hS : MOk ⟨L, e, i⟩) (hc : CalOk c) (hx : 0 ≤ x ∧ x < 18446744073709551616) :
    Calls Tryd.prog 13 #[.pointer (some ⟨r, 0, none⟩), .agg (calC c).toArray, .int .u64 x] w fun en w' => en = .returned (.tuple #[.agg (ansC (gAns ⟨L, e, i⟩ c x)).toArray, .bool (Mst.gives ⟨L, e, i⟩ c x).isSome]) ∧ Below w.heap.size w w' := by
  rw [gAns_get]
  obtain ⟨G, hG⟩ : ∃ G, (Mst.gives ⟨L, e, i⟩ c x).getD Gv.none = G := ⟨_, rfl⟩
  obtain ⟨b, hb⟩ : ∃ b, (Mst.gives ⟨L, e, i⟩ c x).isSome = b := ⟨_, rfl⟩
  rw [hG, hb]
  have HG := Lib.hid hG
  have HB := Lib.hid hb
  have HR := Lib.hid hr
  have HL := Lib.hid hl
  have HN := Lib.hid hn
  have HS := Lib.hid hS
  have HC := Lib.hid hc
  have HX := Lib.hid hx
  clear hr hl hn hS hc hx hG hb
  go_enter Tryd.func13, Tryd.ntmps13
  go_wp2_with (first
    | ((with_reducible refine at_wq ?_); refine wpList_box_bk rfl 35 (.tmp 1) rfl (calC c) rfl ?_; intro W1 q4 h1)
    | ((with_reducible refine at_wq ?_); refine wpList_alloc_bk rfl 40 (ansC Ans.none) alloc_an rfl ?_; intro W2 q6 h2; have HF2 := Lib.hid (fr_new h1.below h2.below))
    | ((with_reducible refine at_wq ?_); refine wpList_load_bk rfl 35 (.tmp 4) rfl q4 0 (calC c) (calC c) (h1.bk.new h2.below) rfl _ Tryd.underlying35 rfl info_ca rfl ?_)
    | (go_at_call 37; refine (rgivesw (HR.out.new HF2.out) (HL.out.new HF2.out) HN.out HS.out HC.out HX.out).mono ?_; rintro e1 W3 ⟨a3, n3, c3, rfl, l3, o3, b3⟩; rw [HG.out, HB.out]; clear l3 o3)
    | ((with_reducible refine at_wq ?_); refine wpList_alloc_bk rfl 87 gvnZ alloc_gvn rfl ?_; intro W4 q8 h4)
    | ((with_reducible refine at_wq ?_); refine wpList_store_bk rfl 87 (.tmp 8) (.tmp 15) rfl q8 0 gvnZ (gvnC G.a a3 n3 c3 G.S.e G.S.i G.refused) (gvnC G.a a3 n3 c3 G.S.e G.S.i G.refused) h4.bk (Nat.le_refl 12) rfl info_gvn (gvnC_one _ _ _ _ _ _ _) rfl rfl ?_; intro W5 h5 k5)
    | ((with_reducible refine at_wq ?_); refine wpList_load_bk rfl 40 (.tmp 17) rfl q8 0 (gvnC G.a a3 n3 c3 G.S.e G.S.i G.refused) (ansC G.a) h5 rfl _ Tryd.underlying40 rfl info_an rfl ?_)
    | ((with_reducible refine at_wq ?_); refine wpList_store_bk rfl 40 (.tmp 6) (.tmp 18) rfl q6 0 (ansC Ans.none) (ansC G.a) (ansC G.a) ((h2.bk.new (fr_new b3 h4.below)).keep k5 (by have e1 := h2.bk.lt; have e2 := h4.eq; have e3 := b3.size; omega)) (Nat.le_refl 8) rfl info_an (ansC_one _) rfl rfl ?_; intro W6 h6 k6))
  exact bodyPost_ret (results_two rfl _ h6 rfl rfl _ Tryd.underlying40 rfl info_an) rfl ⟨rfl, fr_set (fr_set (fr_new (fr_new HF2.out b3) h4.below) k5 (h4.at (fr_new HF2.out b3))) k6 (h2.at h1.below)⟩
set_option maxHeartbeats 8000000 in
set_option maxRecDepth 100000 in
theorem rft_no (hr : Bk w r (mapR a n cp e i)) (hl : RL w B a n cp L) (hn : n < 1000000) (hS : MOk ⟨L, e, i⟩) (hc : CalOk d.c) (hx : 0 ≤ d.e ∧ d.e < 18446744073709551616) (hne : ∀ g o s, a = some ⟨g, o, s⟩ → g ≠ r) (ho : Mst.gives ⟨L, e, i⟩ d.c d.e = none) : Calls Tryd.prog 18 #[.pointer (some ⟨r, 0, none⟩), .agg (cldC d).toArray] w (RtP w r a (false, ⟨L, e, i⟩)) := by
  have HR := Lib.hid hr
  have HL := Lib.hid hl
  have HN := Lib.hid hn
  have HS := Lib.hid hS
  have HC := Lib.hid hc
  have HX := Lib.hid hx
  have HO := Lib.hid ho
  have HNE := Lib.hid hne
  clear hr hl hn hS hc hx ho hne
  go_enter Tryd.func18, Tryd.ntmps18
  go_wp2_with (first
    | ((with_reducible refine at_wq ?_); refine wpList_box_bk rfl 52 (.tmp 1) rfl (cldC d) rfl ?_; intro W1 q3 h1; obtain ⟨c2, c18⟩ := cld_cells h1.bk)
    | ((with_reducible refine at_wq ?_); refine wpList_load_bk rfl 35 (.tmp 9) rfl q3 1 (cldC d) (calC d.c) h1.bk rfl _ Tryd.underlying35 rfl info_ca rfl ?_)
    | (go_at_call 37; refine (rgivesw (HR.out.new h1.below) (HL.out.new h1.below) HN.out HS.out HC.out HX.out).mono ?_; rintro e1 W3 ⟨a3, n3, c3, rfl, l3, o3, b3⟩; rw [HO.out] at l3 ⊢; simp only [Option.getD_none, Option.isSome_none] at l3 ⊢)
    | ((with_reducible refine at_wq ?_); refine wpList_alloc_bk rfl 87 gvnZ alloc_gvn rfl ?_; intro W4 q5 h4)
    | ((with_reducible refine at_wq ?_); refine wpList_store_bk rfl 87 (.tmp 5) (.tmp 14) rfl q5 0 gvnZ (gvnC Gv.none.a a3 n3 c3 Gv.none.S.e Gv.none.S.i Gv.none.refused) (gvnC Gv.none.a a3 n3 c3 Gv.none.S.e Gv.none.S.i Gv.none.refused) h4.bk (Nat.le_refl 12) rfl info_gvn (gvnC_one _ _ _ _ _ _ _) rfl rfl ?_; intro W5 h5 k5; have e0 := fr_new h1.below b3; have HF5 := Lib.hid (fr_set (fr_new e0 h4.below) k5 (h4.at e0)); have HB5 := Lib.hid ((h1.bk.new (fr_new b3 h4.below)).keep k5 (by have e1 := h1.bk.lt; have e2 := h4.eq; have e3 := b3.size; omega)); have H5 := Lib.hid h5; have HR5 := Lib.hid (HR.out.new HF5.out); have HL5 := Lib.hid ((l3.new h4.below).keep k5 (fun g o s e e1 => by have e2 := (l3.blk e).2; have e3 := h4.eq; omega)); have HQ := Lib.hid (show w.heap.size ≤ q5 ∧ w.heap.size ≤ q3 from ⟨h4.at e0, by have e1 := h1.eq; omega⟩); clear e0 h5 k5 c2 c18; obtain ⟨c2, c18⟩ := cld_cells HB5.out; have y11 := H5.out.at_ 11 _ rfl))
  go_ret
  exact ⟨rfl, a, n, cp, HR5.out, (HL.out.new HF5.out).base (Nat.zero_le _), onA_self _ _, Keeps.of_new HF5.out⟩
set_option maxHeartbeats 8000000 in
set_option maxRecDepth 100000 in
theorem rft_yes (hr : Bk w r (mapR a n cp e i)) (hl : RL w B a n cp L) (hn : n < 1000000) (hS : MOk ⟨L, e, i⟩) (hc : CalOk d.c) (hx : 0 ≤ d.e ∧ d.e < 18446744073709551616) (hne : ∀ g o s, a = some ⟨g, o, s⟩ → g ≠ r) {G : Gv} (ho : Mst.gives ⟨L, e, i⟩ d.c d.e = some G) (ha : d.a = G.a) : Calls Tryd.prog 18 #[.pointer (some ⟨r, 0, none⟩), .agg (cldC d).toArray] w (RtP w r a (true, G.S)) := by
  have hq0 : ∀ W, (binOp .eql 40 (.agg (ansC d.a).toArray) (.agg (ansC G.a).toArray)).run Tryd.prog W = .ok (.bool true) W := fun W => by
    rw [an_eql, ha, decide_eq_true rfl]
  clear ha
  have HR := Lib.hid hr
  have HL := Lib.hid hl
  have HN := Lib.hid hn
  have HS := Lib.hid hS
  have HC := Lib.hid hc
  have HX := Lib.hid hx
  have HO := Lib.hid ho
  have HNE := Lib.hid hne
  clear hr hl hn hS hc hx ho hne
  go_enter Tryd.func18, Tryd.ntmps18
  go_wp2_with (first
    | ((with_reducible refine at_wq ?_); refine wpList_box_bk rfl 52 (.tmp 1) rfl (cldC d) rfl ?_; intro W1 q3 h1; obtain ⟨c2, c18⟩ := cld_cells h1.bk)
    | ((with_reducible refine at_wq ?_); refine wpList_load_bk rfl 35 (.tmp 9) rfl q3 1 (cldC d) (calC d.c) h1.bk rfl _ Tryd.underlying35 rfl info_ca rfl ?_)
    | (go_at_call 37; refine (rgivesw (HR.out.new h1.below) (HL.out.new h1.below) HN.out HS.out HC.out HX.out).mono ?_; rintro e1 W3 ⟨a3, n3, c3, rfl, l3, o3, b3⟩; rw [HO.out] at l3 ⊢; simp only [Option.getD_some, Option.isSome_some] at l3 ⊢)
    | ((with_reducible refine at_wq ?_); refine wpList_alloc_bk rfl 87 gvnZ alloc_gvn rfl ?_; intro W4 q5 h4)
    | ((with_reducible refine at_wq ?_); refine wpList_store_bk rfl 87 (.tmp 5) (.tmp 14) rfl q5 0 gvnZ (gvnC G.a a3 n3 c3 G.S.e G.S.i G.refused) (gvnC G.a a3 n3 c3 G.S.e G.S.i G.refused) h4.bk (Nat.le_refl 12) rfl info_gvn (gvnC_one _ _ _ _ _ _ _) rfl rfl ?_; intro W5 h5 k5; have e0 := fr_new h1.below b3; have HF5 := Lib.hid (fr_set (fr_new e0 h4.below) k5 (h4.at e0)); have HB5 := Lib.hid ((h1.bk.new (fr_new b3 h4.below)).keep k5 (by have e1 := h1.bk.lt; have e2 := h4.eq; have e3 := b3.size; omega)); have H5 := Lib.hid h5; have HR5 := Lib.hid (HR.out.new HF5.out); have HL5 := Lib.hid ((l3.new h4.below).keep k5 (fun g o s e e1 => by have e2 := (l3.blk e).2; have e3 := h4.eq; omega)); have HQ := Lib.hid (show w.heap.size ≤ q5 ∧ w.heap.size ≤ q3 from ⟨h4.at e0, by have e1 := h1.eq; omega⟩); clear e0 h5 k5 c2 c18; obtain ⟨c2, c18⟩ := cld_cells HB5.out; have y11 := H5.out.at_ 11 _ rfl)
    | ((with_reducible refine at_wq ?_); refine wpList_load_bk rfl 40 (.tmp 18) rfl q3 10 (cldC d) (ansC d.a) HB5.out rfl _ Tryd.underlying40 rfl info_an rfl ?_)
    | ((with_reducible refine at_wq ?_); refine wpList_load_bk rfl 40 (.tmp 20) rfl q5 0 (gvnC G.a a3 n3 c3 G.S.e G.S.i G.refused) (ansC G.a) H5.out rfl _ Tryd.underlying40 rfl info_an rfl ?_)
    | ((with_reducible refine at_wq ?_); refine wpList_load_bk rfl 31 (.tmp 24) rfl q5 8 (gvnC G.a a3 n3 c3 G.S.e G.S.i G.refused) [.slice a3 n3 c3, .int .u64 G.S.e, .int .u64 G.S.i] H5.out rfl _ Tryd.underlying31 rfl info_rm rfl ?_)
    | ((with_reducible refine at_wq ?_); refine wpList_store_bk rfl 31 (.tmp 26) (.tmp 25) rfl r 0 (mapR a n cp e i) (mapR a3 n3 c3 G.S.e G.S.i) (mapR a3 n3 c3 G.S.e G.S.i) HR5.out (Nat.le_refl 3) rfl info_rm (mapR_one _ _ _ _ _) rfl rfl ?_; intro W6 h6 k6))
  go_ret
  have hr1 := HR.out.lt
  refine ⟨rfl, a3, n3, c3, h6, HL5.out.keep k6 (fun g o s e1 e2 => ?_), fun g o s e1 => ?_, (Keeps.of_new HF5.out).trans k6 (fun _ _ s => s)⟩
  · rcases o3 g o s e1 with h | h
    · have e3 := h1.below.size; omega
    · exact HNE.out g o s (h ▸ e1) e2
  · rcases o3 g o s e1 with h | h
    · exact .inl (by have e3 := h1.below.size; omega)
    · exact .inr h
set_option maxHeartbeats 8000000 in
set_option maxRecDepth 100000 in
theorem rft_ref (hr : Bk w r (mapR a n cp e i)) (hl : RL w B a n cp L) (hn : n < 1000000) (hS : MOk ⟨L, e, i⟩) (hc : CalOk d.c) (hx : 0 ≤ d.e ∧ d.e < 18446744073709551616) (hne : ∀ g o s, a = some ⟨g, o, s⟩ → g ≠ r) {G : Gv} (ho : Mst.gives ⟨L, e, i⟩ d.c d.e = some G) (ha : ¬ d.a = G.a) (hrf : G.refused = true) (h5 : d.a = Ans.of 5) : Calls Tryd.prog 18 #[.pointer (some ⟨r, 0, none⟩), .agg (cldC d).toArray] w (RtP w r a (true, ⟨L, d.e, i⟩)) := by
  have hq0 : ∀ W, (binOp .eql 40 (.agg (ansC d.a).toArray) (.agg (ansC G.a).toArray)).run Tryd.prog W = .ok (.bool false) W := fun W => by
    rw [an_eql, decide_eq_false ha]
  have hq1 : ∀ W, (binOp .eql 40 (.agg #[.int .u8 d.a.kind, .int .u64 d.a.num, .string d.a.item.k, .string d.a.item.v, .int .u32 d.a.item.fl, .int .u64 d.a.item.id, .int .i64 d.a.item.dies, .int .i64 d.a.item.gen]) (.agg #[.int .u8 5, .int .u64 0, .string ⟨#[]⟩, .string ⟨#[]⟩, .int .u32 0, .int .u64 0, .int .i64 0, .int .i64 0])).run Tryd.prog W = .ok (.bool true) W := fun W => by
    have := an_eql d.a (Ans.of 5) W
    rw [decide_eq_true h5] at this
    exact this
  clear h5
  have HRF := Lib.hid hrf
  clear ha hrf
  have HR := Lib.hid hr
  have HL := Lib.hid hl
  have HN := Lib.hid hn
  have HS := Lib.hid hS
  have HC := Lib.hid hc
  have HX := Lib.hid hx
  have HO := Lib.hid ho
  have HNE := Lib.hid hne
  clear hr hl hn hS hc hx ho hne
  go_enter Tryd.func18, Tryd.ntmps18
  go_wp2_with (first
    | ((with_reducible refine at_wq ?_); refine wpList_box_bk rfl 52 (.tmp 1) rfl (cldC d) rfl ?_; intro W1 q3 h1; obtain ⟨c2, c18⟩ := cld_cells h1.bk)
    | ((with_reducible refine at_wq ?_); refine wpList_load_bk rfl 35 (.tmp 9) rfl q3 1 (cldC d) (calC d.c) h1.bk rfl _ Tryd.underlying35 rfl info_ca rfl ?_)
    | (go_at_call 37; refine (rgivesw (HR.out.new h1.below) (HL.out.new h1.below) HN.out HS.out HC.out HX.out).mono ?_; rintro e1 W3 ⟨a3, n3, c3, rfl, l3, o3, b3⟩; rw [HO.out] at l3 ⊢; simp only [Option.getD_some, Option.isSome_some] at l3 ⊢)
    | ((with_reducible refine at_wq ?_); refine wpList_alloc_bk rfl 87 gvnZ alloc_gvn rfl ?_; intro W4 q5 h4)
    | ((with_reducible refine at_wq ?_); refine wpList_store_bk rfl 87 (.tmp 5) (.tmp 14) rfl q5 0 gvnZ (gvnC G.a a3 n3 c3 G.S.e G.S.i G.refused) (gvnC G.a a3 n3 c3 G.S.e G.S.i G.refused) h4.bk (Nat.le_refl 12) rfl info_gvn (gvnC_one _ _ _ _ _ _ _) rfl rfl ?_; intro W5 h5 k5; have e0 := fr_new h1.below b3; have HF5 := Lib.hid (fr_set (fr_new e0 h4.below) k5 (h4.at e0)); have HB5 := Lib.hid ((h1.bk.new (fr_new b3 h4.below)).keep k5 (by have e1 := h1.bk.lt; have e2 := h4.eq; have e3 := b3.size; omega)); have H5 := Lib.hid h5; have HR5 := Lib.hid (HR.out.new HF5.out); have HL5 := Lib.hid ((l3.new h4.below).keep k5 (fun g o s e e1 => by have e2 := (l3.blk e).2; have e3 := h4.eq; omega)); have HQ := Lib.hid (show w.heap.size ≤ q5 ∧ w.heap.size ≤ q3 from ⟨h4.at e0, by have e1 := h1.eq; omega⟩); clear e0 h5 k5 c2 c18; obtain ⟨c2, c18⟩ := cld_cells HB5.out; have y11 := H5.out.at_ 11 _ rfl; have a10 := HB5.out.at_ 10 _ rfl; have a11 := HB5.out.at_ 11 _ rfl; have a12 := HB5.out.at_ 12 _ rfl; have a13 := HB5.out.at_ 13 _ rfl; have a14 := HB5.out.at_ 14 _ rfl; have a15 := HB5.out.at_ 15 _ rfl; have a16 := HB5.out.at_ 16 _ rfl; have a17 := HB5.out.at_ 17 _ rfl; rw [HRF.out] at y11)
    | ((with_reducible refine at_wq ?_); refine wpList_load_bk rfl 40 (.tmp 18) rfl q3 10 (cldC d) (ansC d.a) HB5.out rfl _ Tryd.underlying40 rfl info_an rfl ?_)
    | ((with_reducible refine at_wq ?_); refine wpList_load_bk rfl 40 (.tmp 20) rfl q5 0 (gvnC G.a a3 n3 c3 G.S.e G.S.i G.refused) (ansC G.a) H5.out rfl _ Tryd.underlying40 rfl info_an rfl ?_)
    | ((with_reducible refine at_wq ?_); refine wpList_set_bk rfl 29 (.tmp 39) (.tmp 37) rfl r 1 (mapR a n cp e i) (.int .u64 d.e) (mapR a n cp d.e i) HR5.out (by show 1 < 3; decide) rfl (by kernel_rfl) rfl rfl rfl ?_; intro W8 h8 k8))
  go_ret
  exact ⟨rfl, a, n, cp, h8, ((HL.out.new HF5.out).base (Nat.zero_le _)).keep k8 (fun g o s e1 e2 => HNE.out g o s e1 e2), onA_self _ _, (Keeps.of_new HF5.out).trans k8 (fun _ _ s => s)⟩
set_option maxHeartbeats 8000000 in
set_option maxRecDepth 100000 in
theorem rft_other (hr : Bk w r (mapR a n cp e i)) (hl : RL w B a n cp L) (hn : n < 1000000) (hS : MOk ⟨L, e, i⟩) (hc : CalOk d.c) (hx : 0 ≤ d.e ∧ d.e < 18446744073709551616) (hne : ∀ g o s, a = some ⟨g, o, s⟩ → g ≠ r) {G : Gv} (ho : Mst.gives ⟨L, e, i⟩ d.c d.e = some G) (ha : ¬ d.a = G.a) (hrf : G.refused = true) (h5 : ¬ d.a = Ans.of 5) : Calls Tryd.prog 18 #[.pointer (some ⟨r, 0, none⟩), .agg (cldC d).toArray] w (RtP w r a (false, ⟨L, e, i⟩)) := by
  have hq0 : ∀ W, (binOp .eql 40 (.agg (ansC d.a).toArray) (.agg (ansC G.a).toArray)).run Tryd.prog W = .ok (.bool false) W := fun W => by
    rw [an_eql, decide_eq_false ha]
  have hq1 : ∀ W, (binOp .eql 40 (.agg #[.int .u8 d.a.kind, .int .u64 d.a.num, .string d.a.item.k, .string d.a.item.v, .int .u32 d.a.item.fl, .int .u64 d.a.item.id, .int .i64 d.a.item.dies, .int .i64 d.a.item.gen]) (.agg #[.int .u8 5, .int .u64 0, .string ⟨#[]⟩, .string ⟨#[]⟩, .int .u32 0, .int .u64 0, .int .i64 0, .int .i64 0])).run Tryd.prog W = .ok (.bool false) W := fun W => by
    have := an_eql d.a (Ans.of 5) W
    rw [decide_eq_false h5] at this
    exact this
  clear h5
  have HRF := Lib.hid hrf
  clear ha hrf
  have HR := Lib.hid hr
  have HL := Lib.hid hl
  have HN := Lib.hid hn
  have HS := Lib.hid hS
  have HC := Lib.hid hc
  have HX := Lib.hid hx
  have HO := Lib.hid ho
  have HNE := Lib.hid hne
  clear hr hl hn hS hc hx ho hne
  go_enter Tryd.func18, Tryd.ntmps18
  go_wp2_with (first
    | ((with_reducible refine at_wq ?_); refine wpList_box_bk rfl 52 (.tmp 1) rfl (cldC d) rfl ?_; intro W1 q3 h1; obtain ⟨c2, c18⟩ := cld_cells h1.bk)
    | ((with_reducible refine at_wq ?_); refine wpList_load_bk rfl 35 (.tmp 9) rfl q3 1 (cldC d) (calC d.c) h1.bk rfl _ Tryd.underlying35 rfl info_ca rfl ?_)
    | (go_at_call 37; refine (rgivesw (HR.out.new h1.below) (HL.out.new h1.below) HN.out HS.out HC.out HX.out).mono ?_; rintro e1 W3 ⟨a3, n3, c3, rfl, l3, o3, b3⟩; rw [HO.out] at l3 ⊢; simp only [Option.getD_some, Option.isSome_some] at l3 ⊢)
    | ((with_reducible refine at_wq ?_); refine wpList_alloc_bk rfl 87 gvnZ alloc_gvn rfl ?_; intro W4 q5 h4)
    | ((with_reducible refine at_wq ?_); refine wpList_store_bk rfl 87 (.tmp 5) (.tmp 14) rfl q5 0 gvnZ (gvnC G.a a3 n3 c3 G.S.e G.S.i G.refused) (gvnC G.a a3 n3 c3 G.S.e G.S.i G.refused) h4.bk (Nat.le_refl 12) rfl info_gvn (gvnC_one _ _ _ _ _ _ _) rfl rfl ?_; intro W5 h5 k5; have e0 := fr_new h1.below b3; have HF5 := Lib.hid (fr_set (fr_new e0 h4.below) k5 (h4.at e0)); have HB5 := Lib.hid ((h1.bk.new (fr_new b3 h4.below)).keep k5 (by have e1 := h1.bk.lt; have e2 := h4.eq; have e3 := b3.size; omega)); have H5 := Lib.hid h5; have HR5 := Lib.hid (HR.out.new HF5.out); have HL5 := Lib.hid ((l3.new h4.below).keep k5 (fun g o s e e1 => by have e2 := (l3.blk e).2; have e3 := h4.eq; omega)); have HQ := Lib.hid (show w.heap.size ≤ q5 ∧ w.heap.size ≤ q3 from ⟨h4.at e0, by have e1 := h1.eq; omega⟩); clear e0 h5 k5 c2 c18; obtain ⟨c2, c18⟩ := cld_cells HB5.out; have y11 := H5.out.at_ 11 _ rfl; have a10 := HB5.out.at_ 10 _ rfl; have a11 := HB5.out.at_ 11 _ rfl; have a12 := HB5.out.at_ 12 _ rfl; have a13 := HB5.out.at_ 13 _ rfl; have a14 := HB5.out.at_ 14 _ rfl; have a15 := HB5.out.at_ 15 _ rfl; have a16 := HB5.out.at_ 16 _ rfl; have a17 := HB5.out.at_ 17 _ rfl; rw [HRF.out] at y11)
    | ((with_reducible refine at_wq ?_); refine wpList_load_bk rfl 40 (.tmp 18) rfl q3 10 (cldC d) (ansC d.a) HB5.out rfl _ Tryd.underlying40 rfl info_an rfl ?_)
    | ((with_reducible refine at_wq ?_); refine wpList_load_bk rfl 40 (.tmp 20) rfl q5 0 (gvnC G.a a3 n3 c3 G.S.e G.S.i G.refused) (ansC G.a) H5.out rfl _ Tryd.underlying40 rfl info_an rfl ?_))
  go_ret
  exact ⟨rfl, a, n, cp, HR5.out, (HL.out.new HF5.out).base (Nat.zero_le _), onA_self _ _, Keeps.of_new HF5.out⟩
set_option maxHeartbeats 8000000 in
set_option maxRecDepth 100000 in
theorem rft_plain (hr : Bk w r (mapR a n cp e i)) (hl : RL w B a n cp L) (hn : n < 1000000) (hS : MOk ⟨L, e, i⟩) (hc : CalOk d.c) (hx : 0 ≤ d.e ∧ d.e < 18446744073709551616) (hne : ∀ g o s, a = some ⟨g, o, s⟩ → g ≠ r) {G : Gv} (ho : Mst.gives ⟨L, e, i⟩ d.c d.e = some G) (ha : ¬ d.a = G.a) (hrf : G.refused = false) : Calls Tryd.prog 18 #[.pointer (some ⟨r, 0, none⟩), .agg (cldC d).toArray] w (RtP w r a (false, ⟨L, e, i⟩)) := by
  have hq0 : ∀ W, (binOp .eql 40 (.agg (ansC d.a).toArray) (.agg (ansC G.a).toArray)).run Tryd.prog W = .ok (.bool false) W := fun W => by
    rw [an_eql, decide_eq_false ha]
  have HRF := Lib.hid hrf
  clear ha hrf
  have HR := Lib.hid hr
  have HL := Lib.hid hl
  have HN := Lib.hid hn
  have HS := Lib.hid hS
  have HC := Lib.hid hc
  have HX := Lib.hid hx
  have HO := Lib.hid ho
  have HNE := Lib.hid hne
  clear hr hl hn hS hc hx ho hne
  go_enter Tryd.func18, Tryd.ntmps18
  go_wp2_with (first
    | ((with_reducible refine at_wq ?_); refine wpList_box_bk rfl 52 (.tmp 1) rfl (cldC d) rfl ?_; intro W1 q3 h1; obtain ⟨c2, c18⟩ := cld_cells h1.bk)
    | ((with_reducible refine at_wq ?_); refine wpList_load_bk rfl 35 (.tmp 9) rfl q3 1 (cldC d) (calC d.c) h1.bk rfl _ Tryd.underlying35 rfl info_ca rfl ?_)
    | (go_at_call 37; refine (rgivesw (HR.out.new h1.below) (HL.out.new h1.below) HN.out HS.out HC.out HX.out).mono ?_; rintro e1 W3 ⟨a3, n3, c3, rfl, l3, o3, b3⟩; rw [HO.out] at l3 ⊢; simp only [Option.getD_some, Option.isSome_some] at l3 ⊢)
    | ((with_reducible refine at_wq ?_); refine wpList_alloc_bk rfl 87 gvnZ alloc_gvn rfl ?_; intro W4 q5 h4)
    | ((with_reducible refine at_wq ?_); refine wpList_store_bk rfl 87 (.tmp 5) (.tmp 14) rfl q5 0 gvnZ (gvnC G.a a3 n3 c3 G.S.e G.S.i G.refused) (gvnC G.a a3 n3 c3 G.S.e G.S.i G.refused) h4.bk (Nat.le_refl 12) rfl info_gvn (gvnC_one _ _ _ _ _ _ _) rfl rfl ?_; intro W5 h5 k5; have e0 := fr_new h1.below b3; have HF5 := Lib.hid (fr_set (fr_new e0 h4.below) k5 (h4.at e0)); have HB5 := Lib.hid ((h1.bk.new (fr_new b3 h4.below)).keep k5 (by have e1 := h1.bk.lt; have e2 := h4.eq; have e3 := b3.size; omega)); have H5 := Lib.hid h5; have HR5 := Lib.hid (HR.out.new HF5.out); have HL5 := Lib.hid ((l3.new h4.below).keep k5 (fun g o s e e1 => by have e2 := (l3.blk e).2; have e3 := h4.eq; omega)); have HQ := Lib.hid (show w.heap.size ≤ q5 ∧ w.heap.size ≤ q3 from ⟨h4.at e0, by have e1 := h1.eq; omega⟩); clear e0 h5 k5 c2 c18; obtain ⟨c2, c18⟩ := cld_cells HB5.out; have y11 := H5.out.at_ 11 _ rfl; have a10 := HB5.out.at_ 10 _ rfl; have a11 := HB5.out.at_ 11 _ rfl; have a12 := HB5.out.at_ 12 _ rfl; have a13 := HB5.out.at_ 13 _ rfl; have a14 := HB5.out.at_ 14 _ rfl; have a15 := HB5.out.at_ 15 _ rfl; have a16 := HB5.out.at_ 16 _ rfl; have a17 := HB5.out.at_ 17 _ rfl; rw [HRF.out] at y11)
    | ((with_reducible refine at_wq ?_); refine wpList_load_bk rfl 40 (.tmp 18) rfl q3 10 (cldC d) (ansC d.a) HB5.out rfl _ Tryd.underlying40 rfl info_an rfl ?_)
    | ((with_reducible refine at_wq ?_); refine wpList_load_bk rfl 40 (.tmp 20) rfl q5 0 (gvnC G.a a3 n3 c3 G.S.e G.S.i G.refused) (ansC G.a) H5.out rfl _ Tryd.underlying40 rfl info_an rfl ?_))
  go_ret
  exact ⟨rfl, a, n, cp, HR5.out, (HL.out.new HF5.out).base (Nat.zero_le _), onA_self _ _, Keeps.of_new HF5.out⟩
theorem rFitsw (hr : Bk w r (mapR a n cp e i)) (hl : RL w B a n cp L) (hn : n < 1000000) (hS : MOk ⟨L, e, i⟩) (hc : CalOk d.c) (hx : 0 ≤ d.e ∧ d.e < 18446744073709551616) (hne : ∀ g o s, a = some ⟨g, o, s⟩ → g ≠ r) : Calls Tryd.prog 18 #[.pointer (some ⟨r, 0, none⟩), .agg (cldC d).toArray] w (RtP w r a (Mst.fits ⟨L, e, i⟩ d.c d.e d.a)) := by
  unfold Mst.fits
  cases ho : Mst.gives ⟨L, e, i⟩ d.c d.e with
  | none => exact rft_no hr hl hn hS hc hx hne ho
  | some G =>
    dsimp only
    by_cases ha : d.a = G.a
    · rw [if_pos ha]; exact rft_yes hr hl hn hS hc hx hne ho ha
    · rw [if_neg ha]
      cases hrf : G.refused with
      | false => rw [if_neg (by simp)]; exact rft_plain hr hl hn hS hc hx hne ho ha hrf
      | true =>
        by_cases h5 : d.a = Ans.of 5
        · rw [if_pos ⟨rfl, h5⟩]; exact rft_ref hr hl hn hS hc hx hne ho ha hrf h5
        · rw [if_neg (fun h => h5 h.2)]; exact rft_other hr hl hn hS hc hx hne ho ha hrf h5
set_option maxHeartbeats 8000000 in
set_option maxRecDepth 100000 in
theorem rdr_no (hr : Bk w r (mapR a n cp e i)) (hl : RL w B a n cp L) (hn : n < 1000000) (hne : ∀ g o s, a = some ⟨g, o, s⟩ → g ≠ r) {x : Itm} (hlk : mlook L x.k = none) : Calls Tryd.prog 16 #[.pointer (some ⟨r, 0, none⟩), .agg (itC x).toArray] w (RtP w r a (false, ⟨L, e, i⟩)) := by
  have HR := Lib.hid hr
  have HL := Lib.hid hl
  have HN := Lib.hid hn
  have HNE := Lib.hid hne
  have HLK := Lib.hid hlk
  clear hr hl hn hne hlk
  go_enter Tryd.func16, Tryd.ntmps16
  go_wp2_with (first
    | ((with_reducible refine at_wq ?_); refine wpList_box_bk rfl 38 (.tmp 1) rfl (itC x) rfl ?_; intro W1 q3 h1; have c0 := h1.bk.at_ 0 _ rfl)
    | (go_at_call 14; refine (rAtw (HR.out.new h1.below) (HL.out.new h1.below) x.k).mono ?_; rintro e1 W2 ⟨rfl, b2⟩; unfold atV; rw [HLK.out]; simp only [Option.getD_none, Option.isSome_none])
    | ((with_reducible refine at_wq ?_); refine wpList_alloc_bk rfl 38 (itC Itm.none) alloc_it rfl ?_; intro W3 q5 h3)
    | ((with_reducible refine at_wq ?_); refine wpList_store_bk rfl 38 (.tmp 5) (.tmp 12) rfl q5 0 (itC Itm.none) (itC Itm.none) (itC Itm.none) h3.bk (Nat.le_refl 6) rfl info_it (itC_one _) rfl rfl ?_; intro W5 h5 k5; have e0 := fr_new h1.below b2; have HF5 := Lib.hid (fr_set (fr_new e0 h3.below) k5 (h3.at e0)); have HR5 := Lib.hid (HR.out.new HF5.out); clear e0))
  go_ret
  exact ⟨rfl, a, n, cp, HR5.out, (HL.out.new HF5.out).base (Nat.zero_le _), onA_self _ _, Keeps.of_new HF5.out⟩
set_option maxHeartbeats 8000000 in
set_option maxRecDepth 100000 in
theorem rdr_other (hr : Bk w r (mapR a n cp e i)) (hl : RL w B a n cp L) (hn : n < 1000000) (hne : ∀ g o s, a = some ⟨g, o, s⟩ → g ≠ r) {x : Itm} {y : Itm} (hlk : mlook L x.k = some y) (hyx : ¬ y = x) : Calls Tryd.prog 16 #[.pointer (some ⟨r, 0, none⟩), .agg (itC x).toArray] w (RtP w r a (false, ⟨L, e, i⟩)) := by
  have hq : ∀ W, (binOp .neq 38 (.agg #[.string y.k, .string y.v, .int .u32 y.fl, .int .u64 y.id, .int .i64 y.dies, .int .i64 y.gen]) (.agg #[.string x.k, .string x.v, .int .u32 x.fl, .int .u64 x.id, .int .i64 x.dies, .int .i64 x.gen])).run Tryd.prog W = .ok (.bool true) W := fun W => by
    have := it_neq y x W
    rw [decide_eq_true hyx] at this
    exact this
  clear hyx
  have HR := Lib.hid hr
  have HL := Lib.hid hl
  have HN := Lib.hid hn
  have HNE := Lib.hid hne
  have HLK := Lib.hid hlk
  clear hr hl hn hne hlk
  go_enter Tryd.func16, Tryd.ntmps16
  go_wp2_with (first
    | ((with_reducible refine at_wq ?_); refine wpList_box_bk rfl 38 (.tmp 1) rfl (itC x) rfl ?_; intro W1 q3 h1; have c0 := h1.bk.at_ 0 _ rfl)
    | (go_at_call 14; refine (rAtw (HR.out.new h1.below) (HL.out.new h1.below) x.k).mono ?_; rintro e1 W2 ⟨rfl, b2⟩; unfold atV; rw [HLK.out]; simp only [Option.getD_some, Option.isSome_some])
    | ((with_reducible refine at_wq ?_); refine wpList_alloc_bk rfl 38 (itC Itm.none) alloc_it rfl ?_; intro W3 q5 h3)
    | ((with_reducible refine at_wq ?_); refine wpList_store_bk rfl 38 (.tmp 5) (.tmp 12) rfl q5 0 (itC Itm.none) (itC y) (itC y) h3.bk (Nat.le_refl 6) rfl info_it (itC_one _) rfl rfl ?_; intro W5 h5 k5; have e0 := fr_new h1.below b2; have HF5 := Lib.hid (fr_set (fr_new e0 h3.below) k5 (h3.at e0)); have HR5 := Lib.hid (HR.out.new HF5.out); clear e0; obtain ⟨a0, a1, a2, a3, a4, a5⟩ := it_cells h5; obtain ⟨b0, b1, b22, b3, b4, b5⟩ := it_cells ((h1.bk.new (fr_new b2 h3.below)).keep k5 (by have e1 := h1.bk.lt; have e2 := h3.eq; have e3 := b2.size; omega)); clear c0))
  go_ret
  exact ⟨rfl, a, n, cp, HR5.out, (HL.out.new HF5.out).base (Nat.zero_le _), onA_self _ _, Keeps.of_new HF5.out⟩
set_option maxHeartbeats 8000000 in
set_option maxRecDepth 100000 in
theorem rdr_it (hr : Bk w r (mapR a n cp e i)) (hl : RL w B a n cp L) (hn : n < 1000000) (hne : ∀ g o s, a = some ⟨g, o, s⟩ → g ≠ r) {x : Itm} {y : Itm} (hlk : mlook L x.k = some y) (hyx : y = x) : Calls Tryd.prog 16 #[.pointer (some ⟨r, 0, none⟩), .agg (itC x).toArray] w (RtP w r a (true, ⟨wo L x.k, e, i⟩)) := by
  have hq : ∀ W, (binOp .neq 38 (.agg #[.string y.k, .string y.v, .int .u32 y.fl, .int .u64 y.id, .int .i64 y.dies, .int .i64 y.gen]) (.agg #[.string x.k, .string x.v, .int .u32 x.fl, .int .u64 x.id, .int .i64 x.dies, .int .i64 x.gen])).run Tryd.prog W = .ok (.bool false) W := fun W => by
    have := it_neq y x W
    rw [decide_eq_false (fun h => h hyx)] at this
    exact this
  clear hyx
  have HR := Lib.hid hr
  have HL := Lib.hid hl
  have HN := Lib.hid hn
  have HNE := Lib.hid hne
  have HLK := Lib.hid hlk
  clear hr hl hn hne hlk
  go_enter Tryd.func16, Tryd.ntmps16
  go_wp2_with (first
    | ((with_reducible refine at_wq ?_); refine wpList_box_bk rfl 38 (.tmp 1) rfl (itC x) rfl ?_; intro W1 q3 h1; have c0 := h1.bk.at_ 0 _ rfl)
    | (go_at_call 14; refine (rAtw (HR.out.new h1.below) (HL.out.new h1.below) x.k).mono ?_; rintro e1 W2 ⟨rfl, b2⟩; unfold atV; rw [HLK.out]; simp only [Option.getD_some, Option.isSome_some])
    | ((with_reducible refine at_wq ?_); refine wpList_alloc_bk rfl 38 (itC Itm.none) alloc_it rfl ?_; intro W3 q5 h3)
    | ((with_reducible refine at_wq ?_); refine wpList_store_bk rfl 38 (.tmp 5) (.tmp 12) rfl q5 0 (itC Itm.none) (itC y) (itC y) h3.bk (Nat.le_refl 6) rfl info_it (itC_one _) rfl rfl ?_; intro W5 h5 k5; have e0 := fr_new h1.below b2; have HF5 := Lib.hid (fr_set (fr_new e0 h3.below) k5 (h3.at e0)); have HR5 := Lib.hid (HR.out.new HF5.out); clear e0; obtain ⟨a0, a1, a2, a3, a4, a5⟩ := it_cells h5; obtain ⟨b0, b1, b22, b3, b4, b5⟩ := it_cells ((h1.bk.new (fr_new b2 h3.below)).keep k5 (by have e1 := h1.bk.lt; have e2 := h3.eq; have e3 := b2.size; omega)); clear c0)
    | (go_at_call 38; refine (rwow HR5.out (HL.out.new HF5.out) HN.out x.k).mono ?_; rintro e1 W6 ⟨a6, n6, c6, rfl, l6, b6⟩)
    | ((with_reducible refine at_wq ?_); refine wpList_set_bk rfl 28 (.tmp 27) (.tmp 25) rfl r 0 (mapR a n cp e i) (.slice a6 n6 c6) (mapR a6 n6 c6 e i) (HR5.out.new b6) (by show 0 < 3; decide) rfl (by kernel_rfl) rfl rfl rfl ?_; intro W8 h8 k8))
  go_ret
  have hr1 := HR.out.lt
  have hs5 := HF5.out.size
  exact ⟨rfl, a6, n6, c6, h8, (l6.base (Nat.zero_le _)).keep k8 (fun g o s e1 e2 => by have e3 := (l6.blk e1).1; omega), fun g o s e1 => .inl (by have e3 := (l6.blk e1).1; omega), (Keeps.of_new (fr_new HF5.out b6)).trans k8 (fun _ _ s => s)⟩
theorem rDropw (hr : Bk w r (mapR a n cp e i)) (hl : RL w B a n cp L) (hn : n < 1000000) (hne : ∀ g o s, a = some ⟨g, o, s⟩ → g ≠ r) {x : Itm} : Calls Tryd.prog 16 #[.pointer (some ⟨r, 0, none⟩), .agg (itC x).toArray] w (RtP w r a (Mst.drop ⟨L, e, i⟩ x)) := by
  unfold Mst.drop
  cases hlk : mlook L x.k with
  | none => rw [if_neg (by simp)]; exact rdr_no hr hl hn hne hlk
  | some y =>
    by_cases hyx : y = x
    · rw [if_pos (by rw [hyx])]; exact rdr_it hr hl hn hne hlk hyx
    · rw [if_neg (fun h => hyx (Option.some.inj h))]; exact rdr_other hr hl hn hne hlk hyx
end
end Go.Proofs.YtmjklkcjinfmaaaDoor
/- Next: The maps side by side: acts; what is gone through; are both the same? -/
namespace Go.Proofs.YtmjklkcjinfmaaaDoor
open Go.RowKit Go.Maps
set_option linter.unusedVariables false
set_option linter.unusedSimpArgs false
/-- An act: its kind, a call that was done, a record. -/
structure Ac where
  kd : Int
  d : Cld
  it : Itm
def acC (x : Ac) : List Value := [.int .u8 x.kd, .int .i64 x.d.th, .int .u8 x.d.c.verb, .string x.d.c.key, .string x.d.c.val, .int .u32 x.d.c.fl, .int .i64 x.d.c.exp, .int .u64 x.d.c.id, .int .u64 x.d.c.by_, .int .i64 x.d.fr, .int .i64 x.d.to, .int .u8 x.d.a.kind, .int .u64 x.d.a.num, .string x.d.a.item.k, .string x.d.a.item.v, .int .u32 x.d.a.item.fl, .int .u64 x.d.a.item.id, .int .i64 x.d.a.item.dies, .int .i64 x.d.a.item.gen, .int .u64 x.d.e, .int .i64 x.d.pt, .string x.it.k, .string x.it.v, .int .u32 x.it.fl, .int .u64 x.it.id, .int .i64 x.it.dies, .int .i64 x.it.gen]
structure AcOk (x : Ac) : Prop where
  kd : 0 ≤ x.kd ∧ x.kd ≤ 255
  c : CalOk x.d.c
  e : 0 ≤ x.d.e ∧ x.d.e < 18446744073709551616
  k : x.it.k.size ≤ maxLen
/-- Acts that can be read. -/
def RdA (W : World) (a : Option Addr) (L : List Ac) : Prop := L = [] ∨ ∃ b off, a = some ⟨b, off, none⟩ ∧ b < W.heap.size ∧ ∀ i x, L[i]? = some x → ∀ j v, (acC x)[j]? = some v → W.cell? ⟨b, off + (i * 27 + j), none⟩ = some v
theorem RdA.below {W W' : World} {a : Option Addr} {L : List Ac} {B : Nat} (h : RdA W a L) (hb : Below B W W') (hB : W.heap.size ≤ B) : RdA W' a L := by
  rcases h with h | ⟨b, off, e, hl, hc⟩
  · exact .inl h
  · exact .inr ⟨b, off, e, Nat.lt_of_lt_of_le hl hb.size, fun i x hi j v hj => (hb.cell (p := ⟨b, off + (i * 27 + j), none⟩) (Nat.lt_of_lt_of_le hl hB)).trans (hc i x hi j v hj)⟩
theorem RdA.at {W : World} {a : Option Addr} {L : List Ac} (h : RdA W a L) {i : Nat} (hi : i < L.length) : ∃ b off x, a = some ⟨b, off, none⟩ ∧ b < W.heap.size ∧ L[i]? = some x ∧ ∀ j v, (acC x)[j]? = some v → W.cell? ⟨b, off + i * 27 + j, none⟩ = some v := by
  rcases h with h | ⟨b, off, e, hl, hc⟩
  · subst h; simp at hi
  · exact ⟨b, off, L[i], e, hl, List.getElem?_eq_getElem hi, fun j v hj => by rw [Nat.add_assoc]; exact hc i _ (List.getElem?_eq_getElem hi) j v hj⟩
set_option maxRecDepth 100000 in
theorem ac_leaves : leaves Tryd.prog 12 44 = some [.inl .u8, .inl .i64, .inl .u8, .inr (.inl true), .inr (.inl true), .inl .u32, .inl .i64, .inl .u64, .inl .u64, .inl .i64, .inl .i64, .inl .u8, .inl .u64, .inr (.inl true), .inr (.inl true), .inl .u32, .inl .u64, .inl .i64, .inl .i64, .inl .u64, .inl .i64, .inr (.inl true), .inr (.inl true), .inl .u32, .inl .u64, .inl .i64, .inl .i64] := by kernel_rfl
theorem ac_cells : Tryd.prog.cellsOf 44 = 27 := by kernel_rfl
set_option maxHeartbeats 4000000 in
theorem open_acts {w : World} {a : Option Addr} {n c : Nat} (h : Reads Tryd.prog w 22 (.slice a n c)) :
    ∃ L : List Ac, L.length = n ∧ n ≤ c ∧ c ≤ maxLen ∧ RdA w a L ∧ ∀ x ∈ L, AcOk x := by
  rcases Reads.slice Tryd.underlying22 ac_leaves h with ⟨rfl, rfl, rfl⟩ | ⟨b, off, sp, rfl, h1, h2, h3, h4⟩
  · exact ⟨[], rfl, Nat.le_refl _, by simp [maxLen], .inl rfl, fun x h => by simp at h⟩
  · obtain ⟨L, hl, hL⟩ := list_of (P := fun i (x : Ac) => AcOk x ∧ ∀ j v, (acC x)[j]? = some v → w.cell? ⟨b, off + (i * 27 + j), none⟩ = some v) n (by
      intro i hi
      obtain ⟨l, hl, hll, hx⟩ := h4 i (by omega)
      rw [ac_cells] at hx
      obtain ⟨v0, l0, rfl, ⟨m0, rfl, w0⟩, t0⟩ := all2_cons hl
      obtain ⟨v1, l1, rfl, ⟨m1, rfl, w1⟩, t1⟩ := all2_cons t0
      obtain ⟨v2, l2, rfl, ⟨m2, rfl, w2⟩, t2⟩ := all2_cons t1
      obtain ⟨v3, l3, rfl, ⟨m3, rfl, w3⟩, t3⟩ := all2_cons t2
      obtain ⟨v4, l4, rfl, ⟨m4, rfl, w4⟩, t4⟩ := all2_cons t3
      obtain ⟨v5, l5, rfl, ⟨m5, rfl, w5⟩, t5⟩ := all2_cons t4
      obtain ⟨v6, l6, rfl, ⟨m6, rfl, w6⟩, t6⟩ := all2_cons t5
      obtain ⟨v7, l7, rfl, ⟨m7, rfl, w7⟩, t7⟩ := all2_cons t6
      obtain ⟨v8, l8, rfl, ⟨m8, rfl, w8⟩, t8⟩ := all2_cons t7
      obtain ⟨v9, l9, rfl, ⟨m9, rfl, w9⟩, t9⟩ := all2_cons t8
      obtain ⟨v10, l10, rfl, ⟨m10, rfl, w10⟩, t10⟩ := all2_cons t9
      obtain ⟨v11, l11, rfl, ⟨m11, rfl, w11⟩, t11⟩ := all2_cons t10
      obtain ⟨v12, l12, rfl, ⟨m12, rfl, w12⟩, t12⟩ := all2_cons t11
      obtain ⟨v13, l13, rfl, ⟨m13, rfl, w13⟩, t13⟩ := all2_cons t12
      obtain ⟨v14, l14, rfl, ⟨m14, rfl, w14⟩, t14⟩ := all2_cons t13
      obtain ⟨v15, l15, rfl, ⟨m15, rfl, w15⟩, t15⟩ := all2_cons t14
      obtain ⟨v16, l16, rfl, ⟨m16, rfl, w16⟩, t16⟩ := all2_cons t15
      obtain ⟨v17, l17, rfl, ⟨m17, rfl, w17⟩, t17⟩ := all2_cons t16
      obtain ⟨v18, l18, rfl, ⟨m18, rfl, w18⟩, t18⟩ := all2_cons t17
      obtain ⟨v19, l19, rfl, ⟨m19, rfl, w19⟩, t19⟩ := all2_cons t18
      obtain ⟨v20, l20, rfl, ⟨m20, rfl, w20⟩, t20⟩ := all2_cons t19
      obtain ⟨v21, l21, rfl, ⟨m21, rfl, w21⟩, t21⟩ := all2_cons t20
      obtain ⟨v22, l22, rfl, ⟨m22, rfl, w22⟩, t22⟩ := all2_cons t21
      obtain ⟨v23, l23, rfl, ⟨m23, rfl, w23⟩, t23⟩ := all2_cons t22
      obtain ⟨v24, l24, rfl, ⟨m24, rfl, w24⟩, t24⟩ := all2_cons t23
      obtain ⟨v25, l25, rfl, ⟨m25, rfl, w25⟩, t25⟩ := all2_cons t24
      obtain ⟨v26, l26, rfl, ⟨m26, rfl, w26⟩, t26⟩ := all2_cons t25
      have b0 := bounds_u8 w0
      have b2 := bounds_u8 w2
      have b5 := bounds_u32 w5
      have b6 := bounds_i64 w6
      have b7 := bounds_u64 w7
      have b8 := bounds_u64 w8
      have b19 := bounds_u64 w19
      refine ⟨⟨m0, ⟨m1, ⟨m2, m3, m4, m5, m6, m7, m8⟩, m9, m10, ⟨m11, m12, ⟨m13, m14, m15, m16, m17, m18⟩⟩, m19, m20⟩, ⟨m21, m22, m23, m24, m25, m26⟩⟩, ⟨b0, ⟨by show 0 ≤ m2 ∧ m2 < 256; omega, w3, w4, by show 0 ≤ m5 ∧ m5 < 4294967296; omega, b6, by show 0 ≤ m7 ∧ m7 < 18446744073709551616; omega, b8⟩, by show 0 ≤ m19 ∧ m19 < 18446744073709551616; omega, w21⟩, fun j v hj => ?_⟩
      refine hx j v ?_
      match j, hj with
      | 0, hj => exact hj
      | 1, hj => exact hj
      | 2, hj => exact hj
      | 3, hj => exact hj
      | 4, hj => exact hj
      | 5, hj => exact hj
      | 6, hj => exact hj
      | 7, hj => exact hj
      | 8, hj => exact hj
      | 9, hj => exact hj
      | 10, hj => exact hj
      | 11, hj => exact hj
      | 12, hj => exact hj
      | 13, hj => exact hj
      | 14, hj => exact hj
      | 15, hj => exact hj
      | 16, hj => exact hj
      | 17, hj => exact hj
      | 18, hj => exact hj
      | 19, hj => exact hj
      | 20, hj => exact hj
      | 21, hj => exact hj
      | 22, hj => exact hj
      | 23, hj => exact hj
      | 24, hj => exact hj
      | 25, hj => exact hj
      | 26, hj => exact hj
      | j + 27, hj => simp [acC] at hj)
    refine ⟨L, hl, h1, h2, ?_, fun x hx => ?_⟩
    · by_cases hn : n = 0
      · left; exact List.eq_nil_of_length_eq_zero (by omega)
      · right
        have hsp : sp = none := h3 (by omega) (by rw [ac_cells]; decide)
        subst hsp
        refine ⟨b, off, rfl, ?_, fun i x hi => (hL i x hi).2⟩
        obtain ⟨x, hx⟩ : ∃ x, L[0]? = some x := ⟨L[0]'(by omega), List.getElem?_eq_getElem (by omega)⟩
        exact World.block_lt_of_cell? w _ ((hL 0 x hx).2 0 _ rfl)
    · obtain ⟨i, hi, rfl⟩ := List.getElem_of_mem hx
      exact (hL i _ (List.getElem?_eq_getElem hi)).1
/-- The call and the record of an act, as they lie. -/
theorem RdA.parts {W : World} {b o : Nat} {x : Ac} (h : ∀ j v, (acC x)[j]? = some v → W.cell? ⟨b, o + j, none⟩ = some v) : W.rangeAt b (o + 1) (cldC x.d) ∧ W.rangeAt b (o + 21) (itC x.it) := by
  refine ⟨fun i v hv => ?_, fun i v hv => ?_⟩
  · rw [Nat.add_assoc]
    refine h (1 + i) v ?_
    have hi := (List.getElem?_eq_some_iff.1 hv).1
    rw [← hv]
    match i, hi with
    | 0, _ => rfl
    | 1, _ => rfl
    | 2, _ => rfl
    | 3, _ => rfl
    | 4, _ => rfl
    | 5, _ => rfl
    | 6, _ => rfl
    | 7, _ => rfl
    | 8, _ => rfl
    | 9, _ => rfl
    | 10, _ => rfl
    | 11, _ => rfl
    | 12, _ => rfl
    | 13, _ => rfl
    | 14, _ => rfl
    | 15, _ => rfl
    | 16, _ => rfl
    | 17, _ => rfl
    | 18, _ => rfl
    | 19, _ => rfl
  · rw [Nat.add_assoc]
    refine h (21 + i) v ?_
    have hi := (List.getElem?_eq_some_iff.1 hv).1
    rw [← hv]
    match i, hi with
    | 0, _ => rfl
    | 1, _ => rfl
    | 2, _ => rfl
    | 3, _ => rfl
    | 4, _ => rfl
    | 5, _ => rfl
def cld0 : Cld := ⟨0, ⟨0, ⟨#[]⟩, ⟨#[]⟩, 0, 0, 0, 0⟩, 0, 0, Ans.none, 0, 0⟩
theorem info_hc : (Tryd.prog.info? 42).map (·.size) = some 20 := by kernel_rfl
set_option maxRecDepth 100000 in
theorem alloc_hc (w : World) : (Instr.alloc 42 true (.tuple #[])).run Tryd.prog w = .ok (.pointer (some ⟨w.heap.size, 0, none⟩)) (w.alloc (.cells (cldC cld0).toArray 42)) := by kernel_rfl
def GtP (w : World) (n : Nat) (e : Ending) (w' : World) : Prop := ∃ b, e = .returned (.bool b) ∧ (b = false → n ≤ 120) ∧ Below w.heap.size w w'
set_option maxHeartbeats 8000000 in
set_option maxRecDepth 100000 in
theorem greatw (a : Option Addr) (n c : Nat) (L : List Ac) (w : World) (hl : L.length = n) (hn : n ≤ c) (hc : c ≤ maxLen) (h : RdA w a L) :
    Calls Tryd.prog 9 #[.slice a n c] w (GtP w n) := by
  unfold maxLen at hc
  have HR := Lib.hid h
  have HL := Lib.hid hl
  clear h hl
  go_enter Tryd.func9, Tryd.ntmps9
  go_wp2_with fail
  go_loopw [3, 4] (fun s i wr => ∃ (k : Nat) (z : Int), k ≤ n ∧ k ≤ 130 ∧ s = .int .i64 z ∧ i = .int .i64 k ∧ Below w.heap.size w wr) (fun _ i _ => 130 - (intOf i).toNat)
  case atStart => exact ⟨0, 0, by omega, by omega, rfl, rfl, Below.refl _ _⟩
  case round =>
    obtain ⟨k, z, hk, hk2, rfl, rfl, hnx⟩ := hrel
    have HF := Lib.hid hnx
    clear hnx
    by_cases hlt : k < n
    · by_cases h130 : k < 130
      · obtain ⟨b, off, x, rfl, hb, hx, hcell⟩ := (HR.out.below HF.out (Nat.le_refl _)).at (i := k) (by rw [HL.out]; exact hlt)
        have HP := Lib.hid (RdA.parts hcell)
        have HC := Lib.hid hcell
        have HBL := Lib.hid hb
        clear hcell hx hb
        go_wp2_with (first
          | ((with_reducible refine at_wq ?_); refine wpList_load_mid rfl 42 (.tmp 19) rfl b (off + k * 27 + 1) rfl (cldC x.d) _ HP.out.1 Tryd.underlying42 rfl info_hc ?_)
          | ((with_reducible refine at_wq ?_); refine wpList_alloc_bk rfl 42 (cldC cld0) alloc_hc rfl ?_; intro W2 q5 h2)
          | ((with_reducible refine at_wq ?_); refine wpList_store_bk rfl 42 (.tmp 5) (.tmp 20) rfl q5 0 (cldC cld0) (cldC x.d) (cldC x.d) h2.bk (Nat.le_refl 20) rfl info_hc (cldC_one _) rfl rfl ?_; intro W3 h3 k3; have HF3 := Lib.hid (fr_set (fr_new HF.out h2.below) k3 (h2.at HF.out)); have HB3 := Lib.hid (fr_set h2.below k3 (by rw [h2.eq]; exact Nat.le_refl _))))
        have y3 := h3.at_ 2 _ rfl
        have y4 := h3.at_ 3 _ rfl
        have y13 := h3.at_ 12 _ rfl
        have y14 := h3.at_ 13 _ rfl
        have z21 := (HB3.out.cell (p := ⟨b, off + k * 27 + 21, none⟩) HBL.out).trans (HC.out 21 _ rfl)
        have z22 := (HB3.out.cell (p := ⟨b, off + k * 27 + 22, none⟩) HBL.out).trans (HC.out 22 _ rfl)
        clear h2 h3 k3
        go_quiet (fail)
        go_wp2_with fail
        go_roundw
        case rel => exact ⟨k + 1, _, by omega, by omega, rfl, by go_num, belowNm HF3.out _⟩
        case measure => simp [intOf]; omega
      · have hd : decide (k < 130) = false := decide_eq_false h130
        have hd2 : decide (120 < (n : Int)) = true := decide_eq_true (by omega)
        by_cases hz : 9000 < z
        · go_wp2_with fail
          go_ret
          exact ⟨true, rfl, by simp, HF.out⟩
        · go_wp2_with fail
          go_ret
          exact ⟨true, rfl, by simp, HF.out⟩
    · have hd : decide (k < n) = false := decide_eq_false hlt
      by_cases hz : 9000 < z
      · go_wp2_with fail
        go_ret
        exact ⟨true, rfl, by simp, HF.out⟩
      · by_cases h100 : 120 < (n : Int)
        · go_wp2_with fail
          go_ret
          exact ⟨true, rfl, by simp, HF.out⟩
        · go_wp2_with fail
          go_ret
          exact ⟨false, rfl, fun _ => by omega, HF.out⟩
theorem exec_load_bk {P : Program} {ρ : Operand → Value} {op : Oper} {w : World} (ty : TypeId) (x : Operand) (ho : op.op = .load ty x) (q : Nat) (C : List Value) (hx : ρ x = .pointer (some ⟨q, 0, none⟩)) (h : Bk w q C) (d : TypeDesc) (hu : P.underlying ty = some d) (hd : d.isRow = true) (hi : (P.info? ty).map (·.size) = some C.length) : (execOp ρ op).run P w = .ok (.value (.agg C.toArray)) w := by
  unfold execOp
  simp only [ho, hx, Instr.loadAt, Instr.sureAddr, Sem.run_bind, Sem.run_pure, Result.andThen_ok, run_loadVar_mid w q 0 ty C d (h.range 0 C (by simp)) hu hd hi]
/-- The chapter's map, beside the program's own. -/
structure Rm (W : World) (m : Nat) (mv : Option Nat) (r : Nat) (S : Mst) : Prop where
  ex : ∃ a n cp, Bk W r (mapR a n cp S.e S.i) ∧ RL W 0 a n cp S.L ∧ ∀ g o s, a = some ⟨g, o, s⟩ → g ≠ r ∧ ¬ MpB m mv g
  ne : ¬ MpB m mv r
section
variable {w W W' : World} {m r : Nat} {mv mv' : Option Nat} {S T : Mst} {k : Nat}
theorem Rm.lt (h : Rm W m mv r S) : r < W.heap.size := by
  obtain ⟨a, n, cp, h1, _⟩ := h.ex
  exact h1.lt
theorem Rm.new (h : Rm W m mv r S) (hb : Below W.heap.size W W') : Rm W' m mv r S := by
  obtain ⟨a, n, cp, h1, h2, h3⟩ := h.ex
  exact ⟨⟨a, n, cp, h1.new hb, h2.new hb, h3⟩, h.ne⟩
/-- Behind a step of the program's own map. -/
theorem Rm.step (h : Rm W m mv r S) (hk : Keeps (MpB m mv) W W') (hn : mv' = mv ∨ ∃ b, mv' = some b ∧ W.heap.size ≤ b) : Rm W' m mv' r S := by
  obtain ⟨a, n, cp, h1, h2, h3⟩ := h.ex
  have hne : ∀ g, g < W.heap.size → ¬ MpB m mv g → ¬ MpB m mv' g := by
    intro g hg h1 h2
    rcases h2 with s | s
    · exact h1 (.inl s)
    · rcases hn with e | ⟨b, e, hb⟩
      · exact h1 (.inr (e ▸ s))
      · rw [e] at s; injection s with s; omega
  exact ⟨⟨a, n, cp, h1.keep hk h.ne, h2.keep hk (fun g o s e => (h3 g o s e).2), fun g o s e => ⟨(h3 g o s e).1, hne g (h2.blk e).2 (h3 g o s e).2⟩⟩, hne r h1.lt h.ne⟩
/-- Behind a step of the chapter's. -/
theorem Rm.turn {a a1 : Option Addr} {n1 c1 : Nat} (h : Lv w W m mv S k) (hr : r < W.heap.size) (h0 : ¬ MpB m mv r) (h3 : ∀ g o s, a = some ⟨g, o, s⟩ → g ≠ r ∧ ¬ MpB m mv g) (h1 : Bk W' r (mapR a1 n1 c1 T.e T.i)) (h2 : RL W' 0 a1 n1 c1 T.L) (ho : OnA W.heap.size a a1) : Rm W' m mv r T := by
  refine ⟨⟨a1, n1, c1, h1, h2, fun g o s e => ?_⟩, h0⟩
  rcases ho g o s e with h4 | h4
  · exact ⟨by omega, fun s => by have := h.mp.lts g s; omega⟩
  · exact h3 g o s (h4 ▸ e)
/-- Both stand side by side. -/
structure Pr (w W : World) (m : Nat) (mv : Option Nat) (r : Nat) (S : Mst) (k : Nat) : Prop where
  lv : Lv w W m mv S k
  rm : Rm W m mv r S
  low : w.heap.size ≤ r
theorem Pr.new (h : Pr w W m mv r S k) (hb : Below W.heap.size W W') : Pr w W' m mv r S k := ⟨h.lv.new hb, h.rm.new hb, h.low⟩
theorem Pr.le (h : Pr w W m mv r S k) {k' : Nat} (hk : k ≤ k') : Pr w W m mv r S k' := ⟨⟨h.lv.mp, h.lv.ok, h.lv.low, h.lv.below, Nat.le_trans h.lv.len hk⟩, h.rm, h.low⟩
theorem Pr.gives (h : Pr w W m mv r S k) {c : Cal} {x : Int} (hc : CalOk c) (hx : 0 ≤ x ∧ x < 18446744073709551616) (hk : k < 1000000) :
    Calls Tryd.prog 13 #[.pointer (some ⟨r, 0, none⟩), .agg (calC c).toArray, .int .u64 x] W fun en w' => en = .returned (.tuple #[.agg (ansC (gAns S c x)).toArray, .bool (S.gives c x).isSome]) ∧ Below W.heap.size W w' := by
  obtain ⟨a, n, cp, h1, h2, h3⟩ := h.rm.ex
  obtain ⟨L, e, i⟩ := S
  have := h.lv.len
  have e2 := h2.len
  exact rGivesw h1 h2 (by dsimp only at this e2; omega) h.lv.ok hc hx
theorem Pr.at (h : Pr w W m mv r S k) (key : ByteArray) :
    Calls Tryd.prog 14 #[.pointer (some ⟨r, 0, none⟩), .string key] W fun e w' => e = .returned (atV S.L key) ∧ Below W.heap.size W w' := by
  obtain ⟨a, n, cp, h1, h2, h3⟩ := h.rm.ex
  exact rAtw h1 h2 key
/-- A call is done by the program's own map. -/
structure Hf (w W : World) (m : Nat) (mv : Option Nat) (r : Nat) (S T : Mst) (k : Nat) : Prop where
  lv : Lv w W m mv T k
  rm : Rm W m mv r S
  low : w.heap.size ≤ r
  ok : MOk S
  len : S.L.length ≤ k
theorem Hf.new (h : Hf w W m mv r S T k) (hb : Below W.heap.size W W') : Hf w W' m mv r S T k := ⟨h.lv.new hb, h.rm.new hb, h.low, h.ok, h.len⟩
theorem drop_ok {S : Mst} (h : MOk S) (x : Itm) : MOk (S.drop x).2 := MOk.drop h x
theorem drop_len (S : Mst) (x : Itm) : (S.drop x).2.L.length ≤ S.L.length := by
  unfold Mst.drop
  split
  · exact wo_len_le _ _
  · exact Nat.le_refl _
theorem Pr.fits {d : Cld} (h : Pr w W m mv r S k) (hc : CalOk d.c) (hx : 0 ≤ d.e ∧ d.e < 18446744073709551616) (htab : Lib.TabIs Tryd.prog w "internal/strconv.uint64pow10" .u64 Lib.pow10Tab) (hk : k < 1000000) :
    Calls Tryd.prog 17 #[.pointer (some ⟨m, 0, none⟩), .agg (cldC d).toArray] W fun e W' => e = .returned (.bool (S.fits d.c d.e d.a).1) ∧ (∃ mv', Hf w W' m mv' r S (S.fits d.c d.e d.a).2 (k + 1)) ∧ Keeps (MpB m mv) W W' := by
  have hl := h.lv.len
  refine (Fitsw h.lv.mp h.lv.ok hc hx (h.lv.tab htab) (by unfold maxLen; omega)).mono ?_
  rintro e W' ⟨rfl, mv', h1, h2, h3⟩
  exact ⟨rfl, ⟨mv', h.lv.turn (h.lv.ok.fits d.a hc hx) (Nat.le_trans (fits_len _ _ _ _) (by omega)) h1 h2 h3, h.rm.step h2 h3, h.low, h.lv.ok, by omega⟩, h2⟩
theorem Pr.drop {x : Itm} (h : Pr w W m mv r S k) (hx : x.k.size ≤ maxLen) :
    Calls Tryd.prog 15 #[.pointer (some ⟨m, 0, none⟩), .agg (itC x).toArray] W fun e W' => e = .returned (.bool (S.drop x).1) ∧ (∃ mv', Hf w W' m mv' r S (S.drop x).2 (k + 1)) ∧ Keeps (MpB m mv) W W' := by
  have hl := h.lv.len
  refine (Dropw h.lv.mp hx).mono ?_
  rintro e W' ⟨rfl, mv', h1, h2, h3⟩
  exact ⟨rfl, ⟨mv', h.lv.turn (h.lv.ok.drop x) (Nat.le_trans (drop_len _ _) (by omega)) h1 h2 h3, h.rm.step h2 h3, h.low, h.lv.ok, by omega⟩, h2⟩
theorem Pr.fits' {d : Cld} (h : Pr w W m mv r S k) (hc : CalOk d.c) (hx : 0 ≤ d.e ∧ d.e < 18446744073709551616) (htab : Lib.TabIs Tryd.prog w "internal/strconv.uint64pow10" .u64 Lib.pow10Tab) (hk : k < 1000000) :
    Calls Tryd.prog 17 #[.pointer (some ⟨m, 0, none⟩), .agg (cldC d).toArray] W fun e W' => e = .returned (.bool (S.fits d.c d.e d.a).1) ∧ ∃ mv', Hf w W' m mv' r S (S.fits d.c d.e d.a).2 (k + 1) ∧ (mv' = mv ∨ ∃ b, mv' = some b ∧ W.heap.size ≤ b) ∧ Keeps (MpB m mv) W W' := by
  have hl := h.lv.len
  refine (Fitsw h.lv.mp h.lv.ok hc hx (h.lv.tab htab) (by unfold maxLen; omega)).mono ?_
  rintro e W' ⟨rfl, mv', h1, h2, h3⟩
  exact ⟨rfl, mv', ⟨h.lv.turn (h.lv.ok.fits d.a hc hx) (Nat.le_trans (fits_len _ _ _ _) (by omega)) h1 h2 h3, h.rm.step h2 h3, h.low, h.lv.ok, by omega⟩, h3, h2⟩
theorem Pr.drop' {x : Itm} (h : Pr w W m mv r S k) (hx : x.k.size ≤ maxLen) :
    Calls Tryd.prog 15 #[.pointer (some ⟨m, 0, none⟩), .agg (itC x).toArray] W fun e W' => e = .returned (.bool (S.drop x).1) ∧ ∃ mv', Hf w W' m mv' r S (S.drop x).2 (k + 1) ∧ (mv' = mv ∨ ∃ b, mv' = some b ∧ W.heap.size ≤ b) ∧ Keeps (MpB m mv) W W' := by
  have hl := h.lv.len
  refine (Dropw h.lv.mp hx).mono ?_
  rintro e W' ⟨rfl, mv', h1, h2, h3⟩
  exact ⟨rfl, mv', ⟨h.lv.turn (h.lv.ok.drop x) (Nat.le_trans (drop_len _ _) (by omega)) h1 h2 h3, h.rm.step h2 h3, h.low, h.lv.ok, by omega⟩, h3, h2⟩
theorem Hf.fits {d : Cld} (h : Hf w W m mv r S (S.fits d.c d.e d.a).2 k) (hc : CalOk d.c) (hx : 0 ≤ d.e ∧ d.e < 18446744073709551616) (hk : k < 1000000) :
    Calls Tryd.prog 18 #[.pointer (some ⟨r, 0, none⟩), .agg (cldC d).toArray] W fun e W' => e = .returned (.bool (S.fits d.c d.e d.a).1) ∧ Pr w W' m mv r (S.fits d.c d.e d.a).2 k ∧ Keeps (fun j => j = r) W W' := by
  obtain ⟨a, n, cp, h1, h2, h3⟩ := h.rm.ex
  have hl := h.len
  have e2 := h2.len
  have ho := h.ok
  have hq := h.lv
  obtain ⟨L, e, i⟩ := S
  refine (rFitsw h1 h2 (by dsimp only at hl e2; omega) ho hc hx (fun g o s e => (h3 g o s e).1)).mono ?_
  rintro en W' ⟨rfl, a1, n1, c1, g1, g2, g3, g4⟩
  exact ⟨rfl, ⟨hq.st g4 h.rm.ne h.low, Rm.turn hq h1.lt h.rm.ne h3 g1 g2 g3, h.low⟩, g4⟩
theorem Hf.drop {x : Itm} (h : Hf w W m mv r S (S.drop x).2 k) (hk : k < 1000000) :
    Calls Tryd.prog 16 #[.pointer (some ⟨r, 0, none⟩), .agg (itC x).toArray] W fun e W' => e = .returned (.bool (S.drop x).1) ∧ Pr w W' m mv r (S.drop x).2 k ∧ Keeps (fun j => j = r) W W' := by
  obtain ⟨a, n, cp, h1, h2, h3⟩ := h.rm.ex
  have hl := h.len
  have e2 := h2.len
  have ho := h.ok
  have hq := h.lv
  obtain ⟨L, e, i⟩ := S
  refine (rDropw h1 h2 (by dsimp only at hl e2; omega) (fun g o s e => (h3 g o s e).1)).mono ?_
  rintro en W' ⟨rfl, a1, n1, c1, g1, g2, g3, g4⟩
  exact ⟨rfl, ⟨hq.st g4 h.rm.ne h.low, Rm.turn hq h1.lt h.rm.ne h3 g1 g2 g3, h.low⟩, g4⟩
set_option maxHeartbeats 8000000 in
set_option maxRecDepth 100000 in
theorem Pr.same (h : Pr w W m mv r S k) : Calls Tryd.prog 21 #[.pointer (some ⟨m, 0, none⟩), .pointer (some ⟨r, 0, none⟩)] W fun e W' => e = .returned (.bool true) ∧ Below W.heap.size W W' := by
  obtain ⟨a, n, cp, h1, h2, h3⟩ := h.rm.ex
  have HM := Lib.hid h.lv.mp
  have HR := Lib.hid h1
  have hl := h2.len
  clear h h2 h3
  obtain ⟨L, e, i⟩ := S
  dsimp only at hl HR HM
  subst hl
  go_enter Tryd.func21, Tryd.ntmps21
  go_wp2_with fail
  have hB : Below W.heap.size W W.drew := (Below.refl _ _).drew
  have HMD := Lib.hid (HM.out.new hB)
  have HRD := Lib.hid (map_cells (HR.out.new hB))
  clear h1
  refine wp_region_held_drew (S := fun X => X.cell? ⟨r, 0, none⟩ = some (.slice a L.length cp) ∧ X.cell? ⟨r, 1, none⟩ = some (.int .u64 e) ∧ X.cell? ⟨r, 2, none⟩ = some (.int .u64 i)) (by kernel_rfl) (HRD.out) (fun hHeld => ?_)
  refine wpAnyH_take (i := 0) (oi := ({ dst := some 5, op := Op.move (Operand.tmp 0), type := 25, pos := "law.go:31", after := #[], guard := none })) (v := ?_) rfl (by kernel_rfl) (by kernel_rfl) (by kernel_rfl) (fun _ _ _ h => h) (Or.inl ⟨by rfl, ?_⟩) (by assumption) ?_
  rotate_left 1
  · (intro w9 hSw; (try dsimp only at hSw); go_simp; try with_reducible rfl)
  try simp only [Act.put, List.setIfInBounds_toArray, List.set_cons_zero, List.set_cons_succ]
  refine wpAnyH_take (i := 2) (oi := ({ dst := some 7, op := Op.move (Operand.tmp 1), type := 27, pos := "law.go:31", after := #[], guard := none })) (v := ?_) rfl (by kernel_rfl) (by kernel_rfl) (by kernel_rfl) (fun _ _ _ h => h) (Or.inl ⟨by rfl, ?_⟩) (by assumption) ?_
  rotate_left 1
  · (intro w9 hSw; (try dsimp only at hSw); go_simp; try with_reducible rfl)
  try simp only [Act.put, List.setIfInBounds_toArray, List.set_cons_zero, List.set_cons_succ]
  refine wpAnyH_take (i := 3) (oi := ({ dst := some 8, op := Op.nilCheck (Operand.tmp 7), type := 0, pos := "law.go:31", after := #[{ on := 2, ground := Ground.data }], guard := none })) (v := ?_) rfl (by kernel_rfl) (by kernel_rfl) (by kernel_rfl) (fun _ _ _ h => h) (Or.inl ⟨by rfl, ?_⟩) (by assumption) ?_
  rotate_left 1
  · (intro w9 hSw; (try dsimp only at hSw); go_simp; try with_reducible rfl)
  try simp only [Act.put, List.setIfInBounds_toArray, List.set_cons_zero, List.set_cons_succ]
  refine wpAnyH_take (i := 4) (oi := ({ dst := some 9, op := Op.fieldAddr 31 (Operand.tmp 8) 0, type := 0, pos := "law.go:31", after := #[{ on := 3, ground := Ground.data }], guard := none })) (v := ?_) rfl (by kernel_rfl) (by kernel_rfl) (by kernel_rfl) (fun _ _ _ h => h) (Or.inl ⟨by rfl, ?_⟩) (by assumption) ?_
  rotate_left 1
  · (intro w9 hSw; (try dsimp only at hSw); go_simp; try with_reducible rfl)
  try simp only [Act.put, List.setIfInBounds_toArray, List.set_cons_zero, List.set_cons_succ]
  refine wpAnyH_take (i := 5) (oi := ({ dst := some 10, op := Op.load 28 (Operand.tmp 9), type := 28, pos := "law.go:31", after := #[{ on := 4, ground := Ground.data }], guard := none })) (v := ?_) rfl (by kernel_rfl) (by kernel_rfl) (by kernel_rfl) (fun _ _ _ h => h) (Or.inl ⟨by rfl, ?_⟩) (by assumption) ?_
  rotate_left 1
  · (intro w9 hSw; (try dsimp only at hSw); go_simp; try with_reducible rfl)
  try simp only [Act.put, List.setIfInBounds_toArray, List.set_cons_zero, List.set_cons_succ]
  refine wpAnyH_take (i := 6) (oi := ({ dst := some 11, op := Op.call { callee := Callee.builtin Builtin.len, args := #[Operand.tmp 10], argTypes := #[28] }, type := 3, pos := "law.go:31", after := #[{ on := 5, ground := Ground.data }], guard := none })) (v := ?_) rfl (by kernel_rfl) (by kernel_rfl) (by kernel_rfl) (fun _ _ _ h => h) (Or.inl ⟨by rfl, ?_⟩) (by assumption) ?_
  rotate_left 1
  · (intro w9 hSw; (try dsimp only at hSw); go_simp; try with_reducible rfl)
  try simp only [Act.put, List.setIfInBounds_toArray, List.set_cons_zero, List.set_cons_succ]
  refine wpAnyH_ready (rs := [1]) (by kernel_rfl) (by simp) ?_
  refine AllReadyH.cons (o := ({ dst := some 6, op := Op.call { callee := Callee.value (Operand.func 22), args := #[Operand.tmp 5], argTypes := #[25] }, type := 3, pos := "law.go:31", after := #[{ on := 0, ground := Ground.data }], guard := none })) rfl (fun K hK => ?_) AllReadyH.nil
  go_simp
  refine (Countw HMD.out).mono ?_
  rintro e1 Y ⟨rfl, rfl⟩
  refine hK.out _ _ (HRD.out) (fun hHeld => ?_)
  clear hK K
  try simp only [Act.put, List.setIfInBounds_toArray, List.set_cons_zero, List.set_cons_succ]
  refine wpAnyH_take (i := 7) (oi := ({ dst := some 12, op := Op.binOp BinOp.eql 3 (Operand.tmp 6) (Operand.tmp 11) 3, type := 4, pos := "law.go:31", after := #[{ on := 1, ground := Ground.data }, { on := 6, ground := Ground.data }], guard := none })) (v := ?_) rfl (by kernel_rfl) (by kernel_rfl) (by kernel_rfl) (fun _ _ _ h => h) (Or.inl ⟨by rfl, ?_⟩) (by assumption) ?_
  rotate_left 1
  · (intro w9 hSw; (try dsimp only at hSw); go_simp; try with_reducible rfl)
  try simp only [Act.put, List.setIfInBounds_toArray, List.set_cons_zero, List.set_cons_succ]
  refine wpAnyH_take (i := 8) (oi := ({ dst := some 13, op := Op.move (Operand.tmp 12), type := 4, pos := "law.go:31", after := #[{ on := 7, ground := Ground.data }, { on := 1, ground := Ground.chain }], guard := none })) (v := ?_) rfl (by kernel_rfl) (by kernel_rfl) (by kernel_rfl) (fun _ _ _ h => h) (Or.inl ⟨by rfl, ?_⟩) (by assumption) ?_
  rotate_left 1
  · (intro w9 hSw; (try dsimp only at hSw); go_simp; try with_reducible rfl)
  try simp only [Act.put, List.setIfInBounds_toArray, List.set_cons_zero, List.set_cons_succ]
  refine wpAnyH_take (i := 9) (oi := ({ dst := some 14, op := Op.move (Operand.tmp 0), type := 25, pos := "law.go:31", after := #[{ on := 8, ground := Ground.guard }], guard := some (8, true) })) (v := ?_) rfl (by kernel_rfl) (by kernel_rfl) (by kernel_rfl) (fun _ _ _ h => h) (Or.inl ⟨by rfl, ?_⟩) (by assumption) ?_
  rotate_left 1
  · (intro w9 hSw; (try dsimp only at hSw); go_simp; try with_reducible rfl)
  try simp only [Act.put, List.setIfInBounds_toArray, List.set_cons_zero, List.set_cons_succ]
  refine wpAnyH_take (i := 11) (oi := ({ dst := some 16, op := Op.move (Operand.tmp 1), type := 27, pos := "law.go:31", after := #[{ on := 8, ground := Ground.guard }], guard := some (8, true) })) (v := ?_) rfl (by kernel_rfl) (by kernel_rfl) (by kernel_rfl) (fun _ _ _ h => h) (Or.inl ⟨by rfl, ?_⟩) (by assumption) ?_
  rotate_left 1
  · (intro w9 hSw; (try dsimp only at hSw); go_simp; try with_reducible rfl)
  try simp only [Act.put, List.setIfInBounds_toArray, List.set_cons_zero, List.set_cons_succ]
  refine wpAnyH_take (i := 12) (oi := ({ dst := some 17, op := Op.nilCheck (Operand.tmp 16), type := 0, pos := "law.go:31", after := #[{ on := 11, ground := Ground.data }, { on := 8, ground := Ground.guard }], guard := some (8, true) })) (v := ?_) rfl (by kernel_rfl) (by kernel_rfl) (by kernel_rfl) (fun _ _ _ h => h) (Or.inl ⟨by rfl, ?_⟩) (by assumption) ?_
  rotate_left 1
  · (intro w9 hSw; (try dsimp only at hSw); go_simp; try with_reducible rfl)
  try simp only [Act.put, List.setIfInBounds_toArray, List.set_cons_zero, List.set_cons_succ]
  refine wpAnyH_take (i := 13) (oi := ({ dst := some 18, op := Op.fieldAddr 31 (Operand.tmp 17) 1, type := 0, pos := "law.go:31", after := #[{ on := 12, ground := Ground.data }, { on := 8, ground := Ground.guard }], guard := some (8, true) })) (v := ?_) rfl (by kernel_rfl) (by kernel_rfl) (by kernel_rfl) (fun _ _ _ h => h) (Or.inl ⟨by rfl, ?_⟩) (by assumption) ?_
  rotate_left 1
  · (intro w9 hSw; (try dsimp only at hSw); go_simp; try with_reducible rfl)
  try simp only [Act.put, List.setIfInBounds_toArray, List.set_cons_zero, List.set_cons_succ]
  refine wpAnyH_take (i := 14) (oi := ({ dst := some 19, op := Op.load 29 (Operand.tmp 18), type := 29, pos := "law.go:31", after := #[{ on := 13, ground := Ground.data }, { on := 8, ground := Ground.guard }], guard := some (8, true) })) (v := ?_) rfl (by kernel_rfl) (by kernel_rfl) (by kernel_rfl) (fun _ _ _ h => h) (Or.inl ⟨by rfl, ?_⟩) (by assumption) ?_
  rotate_left 1
  · (intro w9 hSw; (try dsimp only at hSw); go_simp; try with_reducible rfl)
  try simp only [Act.put, List.setIfInBounds_toArray, List.set_cons_zero, List.set_cons_succ]
  refine wpAnyH_ready (rs := [10]) (by kernel_rfl) (by simp) ?_
  refine AllReadyH.cons (o := ({ dst := some 15, op := Op.call { callee := Callee.value (Operand.func 23), args := #[Operand.tmp 14], argTypes := #[25] }, type := 29, pos := "law.go:31", after := #[{ on := 9, ground := Ground.data }, { on := 8, ground := Ground.chain }, { on := 8, ground := Ground.guard }], guard := some (8, true) })) rfl (fun K hK => ?_) AllReadyH.nil
  go_simp
  refine (Epochw HMD.out).mono ?_
  rintro e1 Y ⟨rfl, rfl⟩
  refine hK.out _ _ (HRD.out) (fun hHeld => ?_)
  clear hK K
  try simp only [Act.put, List.setIfInBounds_toArray, List.set_cons_zero, List.set_cons_succ]
  refine wpAnyH_take (i := 15) (oi := ({ dst := some 20, op := Op.binOp BinOp.eql 29 (Operand.tmp 15) (Operand.tmp 19) 29, type := 4, pos := "law.go:31", after := #[{ on := 10, ground := Ground.data }, { on := 14, ground := Ground.data }, { on := 8, ground := Ground.guard }], guard := some (8, true) })) (v := ?_) rfl (by kernel_rfl) (by kernel_rfl) (by kernel_rfl) (fun _ _ _ h => h) (Or.inl ⟨by rfl, ?_⟩) (by assumption) ?_
  rotate_left 1
  · (intro w9 hSw; (try dsimp only at hSw); go_simp; try with_reducible rfl)
  try simp only [Act.put, List.setIfInBounds_toArray, List.set_cons_zero, List.set_cons_succ]
  refine wpAnyH_take (i := 16) (oi := ({ dst := some 21, op := Op.pick (Operand.tmp 13) (Operand.tmp 20) (Operand.const (Value.bool false)), type := 4, pos := "law.go:31", after := #[{ on := 8, ground := Ground.data }, { on := 15, ground := Ground.data }], guard := none })) (v := ?_) rfl (by kernel_rfl) (by kernel_rfl) (by kernel_rfl) (fun _ _ _ h => h) (Or.inl ⟨by rfl, ?_⟩) (by assumption) ?_
  rotate_left 1
  · (intro w9 hSw; (try dsimp only at hSw); go_simp; try with_reducible rfl)
  try simp only [Act.put, List.setIfInBounds_toArray, List.set_cons_zero, List.set_cons_succ]
  refine wpAnyH_take (i := 17) (oi := ({ dst := some 22, op := Op.move (Operand.tmp 21), type := 4, pos := "law.go:31", after := #[{ on := 16, ground := Ground.data }, { on := 10, ground := Ground.chain }], guard := none })) (v := ?_) rfl (by kernel_rfl) (by kernel_rfl) (by kernel_rfl) (fun _ _ _ h => h) (Or.inl ⟨by rfl, ?_⟩) (by assumption) ?_
  rotate_left 1
  · (intro w9 hSw; (try dsimp only at hSw); go_simp; try with_reducible rfl)
  try simp only [Act.put, List.setIfInBounds_toArray, List.set_cons_zero, List.set_cons_succ]
  refine wpAnyH_take (i := 18) (oi := ({ dst := some 23, op := Op.move (Operand.tmp 0), type := 25, pos := "law.go:31", after := #[{ on := 17, ground := Ground.guard }], guard := some (17, true) })) (v := ?_) rfl (by kernel_rfl) (by kernel_rfl) (by kernel_rfl) (fun _ _ _ h => h) (Or.inl ⟨by rfl, ?_⟩) (by assumption) ?_
  rotate_left 1
  · (intro w9 hSw; (try dsimp only at hSw); go_simp; try with_reducible rfl)
  try simp only [Act.put, List.setIfInBounds_toArray, List.set_cons_zero, List.set_cons_succ]
  refine wpAnyH_take (i := 20) (oi := ({ dst := some 25, op := Op.move (Operand.tmp 1), type := 27, pos := "law.go:31", after := #[{ on := 17, ground := Ground.guard }], guard := some (17, true) })) (v := ?_) rfl (by kernel_rfl) (by kernel_rfl) (by kernel_rfl) (fun _ _ _ h => h) (Or.inl ⟨by rfl, ?_⟩) (by assumption) ?_
  rotate_left 1
  · (intro w9 hSw; (try dsimp only at hSw); go_simp; try with_reducible rfl)
  try simp only [Act.put, List.setIfInBounds_toArray, List.set_cons_zero, List.set_cons_succ]
  refine wpAnyH_take (i := 21) (oi := ({ dst := some 26, op := Op.nilCheck (Operand.tmp 25), type := 0, pos := "law.go:31", after := #[{ on := 20, ground := Ground.data }, { on := 17, ground := Ground.guard }], guard := some (17, true) })) (v := ?_) rfl (by kernel_rfl) (by kernel_rfl) (by kernel_rfl) (fun _ _ _ h => h) (Or.inl ⟨by rfl, ?_⟩) (by assumption) ?_
  rotate_left 1
  · (intro w9 hSw; (try dsimp only at hSw); go_simp; try with_reducible rfl)
  try simp only [Act.put, List.setIfInBounds_toArray, List.set_cons_zero, List.set_cons_succ]
  refine wpAnyH_take (i := 22) (oi := ({ dst := some 27, op := Op.fieldAddr 31 (Operand.tmp 26) 2, type := 0, pos := "law.go:31", after := #[{ on := 21, ground := Ground.data }, { on := 17, ground := Ground.guard }], guard := some (17, true) })) (v := ?_) rfl (by kernel_rfl) (by kernel_rfl) (by kernel_rfl) (fun _ _ _ h => h) (Or.inl ⟨by rfl, ?_⟩) (by assumption) ?_
  rotate_left 1
  · (intro w9 hSw; (try dsimp only at hSw); go_simp; try with_reducible rfl)
  try simp only [Act.put, List.setIfInBounds_toArray, List.set_cons_zero, List.set_cons_succ]
  refine wpAnyH_take (i := 23) (oi := ({ dst := some 28, op := Op.load 29 (Operand.tmp 27), type := 29, pos := "law.go:31", after := #[{ on := 22, ground := Ground.data }, { on := 17, ground := Ground.guard }], guard := some (17, true) })) (v := ?_) rfl (by kernel_rfl) (by kernel_rfl) (by kernel_rfl) (fun _ _ _ h => h) (Or.inl ⟨by rfl, ?_⟩) (by assumption) ?_
  rotate_left 1
  · (intro w9 hSw; (try dsimp only at hSw); go_simp; try with_reducible rfl)
  try simp only [Act.put, List.setIfInBounds_toArray, List.set_cons_zero, List.set_cons_succ]
  refine wpAnyH_ready (rs := [19]) (by kernel_rfl) (by simp) ?_
  refine AllReadyH.cons (o := ({ dst := some 24, op := Op.call { callee := Callee.value (Operand.func 24), args := #[Operand.tmp 23], argTypes := #[25] }, type := 29, pos := "law.go:31", after := #[{ on := 18, ground := Ground.data }, { on := 17, ground := Ground.chain }, { on := 17, ground := Ground.guard }], guard := some (17, true) })) rfl (fun K hK => ?_) AllReadyH.nil
  go_simp
  refine (Idsw HMD.out).mono ?_
  rintro e1 Y ⟨rfl, rfl⟩
  refine hK.out _ _ (HRD.out) (fun hHeld => ?_)
  clear hK K
  try simp only [Act.put, List.setIfInBounds_toArray, List.set_cons_zero, List.set_cons_succ]
  refine wpAnyH_take (i := 24) (oi := ({ dst := some 29, op := Op.binOp BinOp.eql 29 (Operand.tmp 24) (Operand.tmp 28) 29, type := 4, pos := "law.go:31", after := #[{ on := 19, ground := Ground.data }, { on := 23, ground := Ground.data }, { on := 17, ground := Ground.guard }], guard := some (17, true) })) (v := ?_) rfl (by kernel_rfl) (by kernel_rfl) (by kernel_rfl) (fun _ _ _ h => h) (Or.inl ⟨by rfl, ?_⟩) (by assumption) ?_
  rotate_left 1
  · (intro w9 hSw; (try dsimp only at hSw); go_simp; try with_reducible rfl)
  try simp only [Act.put, List.setIfInBounds_toArray, List.set_cons_zero, List.set_cons_succ]
  refine wpAnyH_take (i := 25) (oi := ({ dst := some 30, op := Op.pick (Operand.tmp 22) (Operand.tmp 29) (Operand.const (Value.bool false)), type := 4, pos := "law.go:31", after := #[{ on := 17, ground := Ground.data }, { on := 24, ground := Ground.data }], guard := none })) (v := ?_) rfl (by kernel_rfl) (by kernel_rfl) (by kernel_rfl) (fun _ _ _ h => h) (Or.inl ⟨by rfl, ?_⟩) (by assumption) ?_
  rotate_left 1
  · (intro w9 hSw; (try dsimp only at hSw); go_simp; try with_reducible rfl)
  try simp only [Act.put, List.setIfInBounds_toArray, List.set_cons_zero, List.set_cons_succ]
  refine wpAnyH_take (i := 26) (oi := ({ dst := some 4, op := Op.assign (Operand.tmp 30), type := 4, pos := "law.go:31", after := #[{ on := 25, ground := Ground.data }, { on := 19, ground := Ground.chain }, { on := 0, ground := Ground.phase }, { on := 1, ground := Ground.phase }, { on := 2, ground := Ground.phase }, { on := 3, ground := Ground.phase }, { on := 4, ground := Ground.phase }, { on := 5, ground := Ground.phase }, { on := 6, ground := Ground.phase }, { on := 7, ground := Ground.phase }, { on := 8, ground := Ground.phase }, { on := 9, ground := Ground.phase }, { on := 10, ground := Ground.phase }, { on := 11, ground := Ground.phase }, { on := 12, ground := Ground.phase }, { on := 13, ground := Ground.phase }, { on := 14, ground := Ground.phase }, { on := 15, ground := Ground.phase }, { on := 16, ground := Ground.phase }, { on := 17, ground := Ground.phase }, { on := 18, ground := Ground.phase }, { on := 19, ground := Ground.phase }, { on := 20, ground := Ground.phase }, { on := 21, ground := Ground.phase }, { on := 22, ground := Ground.phase }, { on := 23, ground := Ground.phase }, { on := 24, ground := Ground.phase }, { on := 25, ground := Ground.phase }], guard := none })) (v := ?_) rfl (by kernel_rfl) (by kernel_rfl) (by kernel_rfl) (fun _ _ _ h => h) (Or.inl ⟨by rfl, ?_⟩) (by assumption) ?_
  rotate_left 1
  · (intro w9 hSw; (try dsimp only at hSw); go_simp; try with_reducible rfl)
  try simp only [Act.put, List.setIfInBounds_toArray, List.set_cons_zero, List.set_cons_succ]
  refine wpAnyH_done (by kernel_rfl) ?_ _
  go_wp2_with fail
  go_ret
  exact ⟨rfl, hB⟩
end
end Go.Proofs.YtmjklkcjinfmaaaDoor
