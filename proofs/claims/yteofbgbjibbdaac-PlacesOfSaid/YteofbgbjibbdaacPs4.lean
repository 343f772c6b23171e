/- The chapter's places. -/
import Derived.Test.YteofbgbjibbdaacPs3
import Derived.Test.YteofbgbjibbdaacPl4
import Derived.Deep.QuietTactic
import Derived.BigQuiet
import Derived.Deep.RegionHeld3
namespace Go.Proofs.Yteofbgbjibbdaac
open Go.RowKit
set_option linter.unusedVariables false

/-- What 'with' leaves. -/
def WithP (C : Nat) (w : World) (D : List Pv) (e : Ending) (w' : World) : Prop := ∃ v', e = .returned v' ∧ w'.ownsRow C 39 2 v' D.length (rowsP D) ∧ Below C w w'
set_option maxHeartbeats 1000000 in
theorem rwith_no {C : Nat} {w : World} {a : Option Addr} {cap n : Nat} {L : List Pv} (b k : Int) (hown : w.ownsRow C 39 2 (.slice a n cap) n (rowsP L)) (hCw : C ≤ w.heap.size) (h : LieG w a cap n (rowsP L)) (hn : n = L.length) (hM : n ≤ 1048576) (hno : (b, k) ∉ L) :
    Calls Try.prog 86 #[.slice a n cap, .agg #[.int .i64 b, .int .i64 k]] w (WithP C w (L ++ [(b, k)])) := by
  obtain ⟨i0, hi, hz0, hz1, hz2⟩ := info_parts info_place
  have HOWN := Lib.hid hown
  clear hown
  have H := Lib.hid h
  have HN := Lib.hid hn
  have HNO := Lib.hid hno
  have hB0 : Below w.heap.size w (w.alloc (.cells #[.int .i64 b, .int .i64 k] 39)) := (Below.refl _ _).alloc (Nat.le_refl _) _
  clear h hn hno
  go_enter Try.func86, Try.ntmps86
  go_wp2_with fail
  have p0 : (w.alloc (.cells #[.int .i64 b, .int .i64 k] 39)).cell? ⟨w.heap.size, 0, none⟩ = some (.int .i64 b) := by simp
  have p1 : (w.alloc (.cells #[.int .i64 b, .int .i64 k] 39)).cell? ⟨w.heap.size, 1, none⟩ = some (.int .i64 k) := by simp
  have sW : (w.alloc (.cells #[.int .i64 b, .int .i64 k] 39)).heap.size = w.heap.size + 1 := by simp
  generalize (w.alloc (.cells #[.int .i64 b, .int .i64 k] 39)) = W at p0 p1 sW hB0 ⊢
  have P0 := Lib.hid p0
  have P1 := Lib.hid p1
  have SW := Lib.hid sW
  have HB0 := Lib.hid hB0
  clear p0 p1 sW hB0
  go_loopw [5] (fun i wr => ∃ k0 : Nat, k0 ≤ n ∧ i = .int .i64 k0 ∧ Below W.heap.size W wr) (fun i _ => n - (intOf i).toNat)
  case atStart => exact ⟨0, Nat.zero_le _, rfl, Below.refl _ _⟩
  case round =>
    obtain ⟨k0, hk0, rfl, hbel⟩ := hrel
    have hsz := hbel.size
    have sW := SW.out
    by_cases hlt : k0 < n
    · obtain ⟨⟨x1, x2⟩, hx⟩ : ∃ x, L[k0]? = some x := ⟨_, List.getElem?_eq_getElem (by have := HN.out; omega)⟩
      have hne : (x1, x2) ≠ (b, k) := fun e => HNO.out (by rw [← e]; exact List.mem_of_getElem? hx)
      obtain ⟨g, rfl, hg, -, hnc, e0, e1⟩ := ((H.out.new HB0.out).new hbel).place HN.out hx
      have q0 := (hbel.cell (p := ⟨w.heap.size, 0, none⟩) (by show w.heap.size < _; omega)).trans P0.out
      have q1 := (hbel.cell (p := ⟨w.heap.size, 1, none⟩) (by show w.heap.size < _; omega)).trans P1.out
      have hkc : k0 < cap := by omega
      have lt1 : w.heap.size < wr.heap.size := by omega
      have HS := Lib.hid hsz
      have HBE := Lib.hid hbel
      clear hx hbel hsz sW
      by_cases hb : x1 = b
      · subst hb
        have h2 : x2 ≠ k := fun e => hne (by rw [e])
        have c2 : (x2 == k) = false := by simpa using h2
        have c2' : decide (x2 = k) = false := decide_eq_false h2
        clear hne h2
        go_wp2_with fail
        go_quiet (fail)
        go_wp2_with fail
        go_roundw
        case rel => exact ⟨k0 + 1, by omega, by go_num, belowPd HBE.out nq⟩
        case measure => simp [intOf]; omega
      · have c1 : (x1 == b) = false := by simpa using hb
        have c1' : decide (x1 = b) = false := decide_eq_false hb
        clear hne hb
        go_wp2_with fail
        go_quiet (fail)
        go_wp2_with fail
        go_roundw
        case rel => exact ⟨k0 + 1, by omega, by go_num, belowPd HBE.out nq⟩
        case measure => simp [intOf]; omega
    · obtain rfl : n = k0 := by omega
      have q0 := (hbel.cell (p := ⟨w.heap.size, 0, none⟩) (by show w.heap.size < _; omega)).trans P0.out
      have q1 := (hbel.cell (p := ⟨w.heap.size, 1, none⟩) (by show w.heap.size < _; omega)).trans P1.out
      have lt1 : w.heap.size < wr.heap.size := by omega
      have hfin := HB0.out.trans (hbel.mono (by omega))
      have hown2 := own_belowP HOWN.out hfin
      have HFIN := Lib.hid hfin
      have HO2 := Lib.hid hown2
      clear hbel hsz sW hfin hown2
      go_wp2_with (at_builtin; refine wpList_append_lies _ rfl (.tmp 19) (.tmp 21) 54 rfl C 39 i0 (.agg #[.int .i64 0, .int .i64 0]) 2 16 Try.underlying54 hi hz0 hz1 hz2 rfl (by decide) (.slice a n cap) n (rowsP L) rfl (HO2.out.alloc _) ⟨wr.heap.size, 0, none⟩ 1 1 (Pv.cells (b, k)) rfl rfl (by intro j u hj; exact newsP hj) (by simp [Pv.cells, Value.oneCell']) (by decide) (by unfold maxLen; omega) (by omega) (by simp; omega) (wr.heap.size + 1) (by simp) ?_; intro g' cap' w3 hown3 hgrow hat hltg)
      have hb3 : Below C w w3 := app_below HO2.out (HFIN.out.mono hCw) (by omega) hgrow
      have HB3 := Lib.hid hb3
      have HO3 := Lib.hid hown3
      clear hb3 hown3 hgrow hat hltg q0 q1
      go_wp2_with fail
      go_ret
      exact ⟨_, rfl, by rw [List.length_append, rowsP_snoc, ← HN.out]; exact HO3.out, HB3.out⟩
set_option maxHeartbeats 1000000 in
theorem rwith_yes {w : World} {a : Option Addr} {cap n : Nat} {L : List Pv} (b k : Int) (h : LieG w a cap n (rowsP L)) (hn : n = L.length) (hM : n ≤ 1048576) (hno : (b, k) ∈ L) :
    Calls Try.prog 86 #[.slice a n cap, .agg #[.int .i64 b, .int .i64 k]] w fun e w' => e = .returned (.slice a n cap) ∧ Below w.heap.size w w' := by
  have H := Lib.hid h
  have HN := Lib.hid hn
  have HNO := Lib.hid hno
  have hB0 : Below w.heap.size w (w.alloc (.cells #[.int .i64 b, .int .i64 k] 39)) := (Below.refl _ _).alloc (Nat.le_refl _) _
  clear h hn hno
  go_enter Try.func86, Try.ntmps86
  go_wp2_with fail
  have p0 : (w.alloc (.cells #[.int .i64 b, .int .i64 k] 39)).cell? ⟨w.heap.size, 0, none⟩ = some (.int .i64 b) := by simp
  have p1 : (w.alloc (.cells #[.int .i64 b, .int .i64 k] 39)).cell? ⟨w.heap.size, 1, none⟩ = some (.int .i64 k) := by simp
  have sW : (w.alloc (.cells #[.int .i64 b, .int .i64 k] 39)).heap.size = w.heap.size + 1 := by simp
  generalize (w.alloc (.cells #[.int .i64 b, .int .i64 k] 39)) = W at p0 p1 sW hB0 ⊢
  have P0 := Lib.hid p0
  have P1 := Lib.hid p1
  have SW := Lib.hid sW
  have HB0 := Lib.hid hB0
  clear p0 p1 sW hB0
  go_loopw [5] (fun i wr => ∃ k0 : Nat, k0 ≤ n ∧ i = .int .i64 k0 ∧ Below W.heap.size W wr ∧ Hid (∀ j, j < k0 → L[j]? ≠ some (b, k))) (fun i _ => n - (intOf i).toNat)
  case atStart => exact ⟨0, Nat.zero_le _, rfl, Below.refl _ _, Lib.hid (fun j h => by omega)⟩
  case round =>
    obtain ⟨k0, hk0, rfl, hbel, hall⟩ := hrel
    have hsz := hbel.size
    have sW := SW.out
    by_cases hlt : k0 < n
    · obtain ⟨⟨x1, x2⟩, hx⟩ : ∃ x, L[k0]? = some x := ⟨_, List.getElem?_eq_getElem (by have := HN.out; omega)⟩
      obtain ⟨g, rfl, hg, -, hnc, e0, e1⟩ := ((H.out.new HB0.out).new hbel).place HN.out hx
      have q0 := (hbel.cell (p := ⟨w.heap.size, 0, none⟩) (by show w.heap.size < _; omega)).trans P0.out
      have q1 := (hbel.cell (p := ⟨w.heap.size, 1, none⟩) (by show w.heap.size < _; omega)).trans P1.out
      have hkc : k0 < cap := by omega
      have lt1 : w.heap.size < wr.heap.size := by omega
      have HS := Lib.hid hsz
      have HBE := Lib.hid hbel
      have HX := Lib.hid hx
      have HALL := hall
      clear hx hbel hsz sW hall
      by_cases hb : x1 = b
      · subst hb
        by_cases h2 : x2 = k
        · subst h2
          go_wp2_with fail
          go_quiet (fail)
          have hfin := HB0.out.trans ((belowPd HBE.out nq).mono (by have := SW.out; omega))
          go_wp2_with fail
          go_ret
          exact ⟨rfl, hfin⟩
        have c2 : (x2 == k) = false := by simpa using h2
        have c2' : decide (x2 = k) = false := decide_eq_false h2
        have H2 := Lib.hid h2
        clear h2
        go_wp2_with fail
        go_quiet (fail)
        go_wp2_with fail
        go_roundw
        case rel => exact ⟨k0 + 1, by omega, by go_num, belowPd HBE.out nq, Lib.hid (fun j hj => by
          by_cases e : j = k0
          · subst e; rw [HX.out]; simp; exact H2.out
          · exact HALL.out j (by omega))⟩
        case measure => simp [intOf]; omega
      · have c1 : (x1 == b) = false := by simpa using hb
        have c1' : decide (x1 = b) = false := decide_eq_false hb
        have H2 := Lib.hid hb
        clear hb
        go_wp2_with fail
        go_quiet (fail)
        go_wp2_with fail
        go_roundw
        case rel => exact ⟨k0 + 1, by omega, by go_num, belowPd HBE.out nq, Lib.hid (fun j hj => by
          by_cases e : j = k0
          · subst e; rw [HX.out]; simp; exact fun h => absurd h H2.out
          · exact HALL.out j (by omega))⟩
        case measure => simp [intOf]; omega
    · exfalso
      obtain ⟨j, hj⟩ := List.getElem?_of_mem HNO.out
      have : j < L.length := by
        rcases Nat.lt_or_ge j L.length with h' | h'
        · exact h'
        · rw [List.getElem?_eq_none h'] at hj; simp at hj
      exact hall.out j (by have := HN.out; omega) hj
theorem rwithw {C : Nat} {w : World} {v : Value} {L : List Pv} (b k : Int) (hown : w.ownsRow C 39 2 v L.length (rowsP L)) (hCw : C ≤ w.heap.size) (hM : L.length ≤ 1000000) :
    Calls Try.prog 86 #[v, .agg #[.int .i64 b, .int .i64 k]] w (WithP C w (addP L (b, k))) := by
  obtain ⟨a, cap, rfl, -, -, -, hl⟩ := LieG.of (Lst.of_own hown)
  by_cases h : (b, k) ∈ L
  · refine (rwith_yes b k hl rfl (by omega) h).mono fun e w' ⟨he, hb⟩ => ⟨_, he, ?_, hb.mono hCw⟩
    unfold addP
    rw [if_pos h]
    exact own_belowP hown hb
  · refine (rwith_no b k hown hCw hl rfl (by omega) h).mono fun e w' hp => ?_
    unfold addP
    rw [if_neg h]
    exact hp
end Go.Proofs.Yteofbgbjibbdaac
