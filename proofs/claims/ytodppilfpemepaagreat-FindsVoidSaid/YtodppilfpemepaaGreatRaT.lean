/- Asked of the arena and of the chapter's: the contracts, and the lists that came in. -/
import Derived.Test.YtodppilfpemepaaGreatGAr
import Derived.Test.YtodppilfpemepaaGreatRa
import Derived.Deep.QuietTactic
import Derived.BigQuiet
namespace Go.Proofs.YtodppilfpemepaaGreat
open Go.RowKit
set_option linter.unusedVariables false

theorem rat_none {w : World} {r : Nat} {L : List It} {T : Nat → Prop} (h : Ras w r L T) (ref : Int) (hr : ref < 1 ∨ (L.length : Int) < ref) : Calls Tryz.prog 36 #[.pointer (some ⟨r, 0, none⟩), .int .i64 ref] w fun e w' => e = .returned (.tuple #[.agg #[.string ⟨#[]⟩, .string ⟨#[]⟩, .int .u32 0, .int .u64 0, .int .i64 0, .int .i64 0], .bool false]) ∧ Below w.heap.size w w' := by
  obtain ⟨a, cap, h⟩ := h.slice
  have hc : ∀ o, (w.alloc o).cell? ⟨r, 0, none⟩ = some (.slice a L.length cap) := fun o => (World.cell?_alloc_lt w o ⟨r, 0, none⟩ (h.lt r h.here)).trans h.c0
  clear h
  by_cases h : ref < 1
  · have h1 : decide (ref < 1) = true := decide_eq_true h
    clear hr
    go_enter Tryz.func36, Tryz.ntmps36
    go_wp2_with fail
    refine bodyPost_ret (v := .tuple #[.agg #[.string ⟨#[]⟩, .string ⟨#[]⟩, .int .u32 0, .int .u64 0, .int .i64 0, .int .i64 0], .bool false]) (by simp [results, Tryz.results36, go_sem]) rfl ⟨rfl, ?_⟩
    exact (Below.refl w.heap.size w).alloc (Nat.le_refl _) _
  · have h1 : decide (ref < 1) = false := decide_eq_false h
    have h2 : decide ((L.length : Int) < ref) = true := decide_eq_true (by omega)
    clear hr
    generalize L.length = n at *
    go_enter Tryz.func36, Tryz.ntmps36
    go_wp2_with fail
    refine bodyPost_ret (v := .tuple #[.agg #[.string ⟨#[]⟩, .string ⟨#[]⟩, .int .u32 0, .int .u64 0, .int .i64 0, .int .i64 0], .bool false]) (by simp [results, Tryz.results36, go_sem]) rfl ⟨rfl, ?_⟩
    exact (Below.refl w.heap.size w).alloc (Nat.le_refl _) _
theorem rat_some {w : World} {r : Nat} {L : List It} {T : Nat → Prop} (h : Ras w r L T) (i : Nat) (hi : (i : Int) < 2000000) {k vl : ByteArray} {fl id di ge : Int} (hx : L[i]? = some (k, vl, fl, id, di, ge)) {ref : Int} (hr : ref = (i : Int) + 1) :
    Calls Tryz.prog 36 #[.pointer (some ⟨r, 0, none⟩), .int .i64 ref] w fun e w' => e = .returned (.tuple #[.agg #[.string k, .string vl, .int .u32 fl, .int .u64 id, .int .i64 di, .int .i64 ge], .bool true]) ∧ Below w.heap.size w w' := by
  subst hr
  have hil : i < L.length := by
    rcases Nat.lt_or_ge i L.length with h | h
    · exact h
    · rw [List.getElem?_eq_none h] at hx; simp at hx
  obtain ⟨v, h⟩ := h
  obtain ⟨g, cap, hv⟩ : ∃ g cap, v = .slice (some ⟨g, 0, none⟩) L.length cap := by
    rcases h.row.2 with ⟨_, e⟩ | ⟨g, cap, cur, e, _⟩
    · omega
    · exact ⟨g, cap, e⟩
  have hr : ∀ j u, j < 6 → (It.cells (k, vl, fl, id, di, ge))[j]? = some u → w.cell? ⟨g, i * 6 + j, none⟩ = some u := fun j u hj hu => by
    have := h.row.cells (g := g) (by rw [hv]; rfl) _ _ ((flatI_at hx j hj).trans hu)
    rwa [Addr.add_mid, Nat.zero_add] at this
  have hc0 := h.c0
  rw [hv] at hc0
  have up : ∀ (o : Obj) (q : Addr) (u : Value), w.cell? q = some u → (w.alloc o).cell? q = some u := fun o q u hq => ((Keeps.refl (fun _ => False) w).alloc o).cell (p := q) (by simp) hq
  have q0 : ∀ o, (w.alloc o).cell? ⟨g, i * 6, none⟩ = some (.string k) := fun o => up o _ _ (hr 0 _ (by omega) rfl)
  have q1 : ∀ o, (w.alloc o).cell? ⟨g, i * 6 + 1, none⟩ = some (.string vl) := fun o => up o _ _ (hr 1 _ (by omega) rfl)
  have q2 : ∀ o, (w.alloc o).cell? ⟨g, i * 6 + 2, none⟩ = some (.int .u32 fl) := fun o => up o _ _ (hr 2 _ (by omega) rfl)
  have q3 : ∀ o, (w.alloc o).cell? ⟨g, i * 6 + 3, none⟩ = some (.int .u64 id) := fun o => up o _ _ (hr 3 _ (by omega) rfl)
  have q4 : ∀ o, (w.alloc o).cell? ⟨g, i * 6 + 4, none⟩ = some (.int .i64 di) := fun o => up o _ _ (hr 4 _ (by omega) rfl)
  have q5 : ∀ o, (w.alloc o).cell? ⟨g, i * 6 + 5, none⟩ = some (.int .i64 ge) := fun o => up o _ _ (hr 5 _ (by omega) rfl)
  have hc := fun o => up o _ _ hc0
  have d1 : decide ((i : Int) + 1 < 1) = false := decide_eq_false (by omega)
  have d2 : decide ((L.length : Int) < (i : Int) + 1) = false := decide_eq_false (by omega)
  have y0 : IntKind.i64.wrap ((i : Int) + 1 - 1) = (i : Int) := by rw [show (i : Int) + 1 - 1 = i by omega]; exact IntWalk.i64_in _ (by omega)
  have j0 : (0 : Int) ≤ (i : Int) := by omega
  have j1 : (i : Int) < (L.length : Int) := by omega
  clear h hr hc0 up hv hx hil
  generalize hn : L.length = n at *
  clear hn
  go_enter Tryz.func36, Tryz.ntmps36
  go_wp2_with fail
  refine bodyPost_ret (v := .tuple #[.agg #[.string k, .string vl, .int .u32 fl, .int .u64 id, .int .i64 di, .int .i64 ge], .bool true]) (by simp [results, Tryz.results36, go_sem]) rfl ⟨rfl, ?_⟩
  exact (Below.refl w.heap.size w).alloc (Nat.le_refl _) _
/-- Both answer alike. -/
theorem at_both (L : List It) (hl : L.length ≤ 300) (ref : Int) : ∃ (k vl : ByteArray) (fl id di ge : Int) (b : Bool),
    (∀ {w : World} {p : Nat} {S : Nat → Prop}, Ars w p L S → Calls Tryz.prog 35 #[.pointer (some ⟨p, 0, none⟩), .int .i64 ref] w fun e w' => e = .returned (.tuple #[.agg #[.string k, .string vl, .int .u32 fl, .int .u64 id, .int .i64 di, .int .i64 ge], .bool b]) ∧ Below w.heap.size w w') ∧
    (∀ {w : World} {p : Nat} {S : Nat → Prop}, Ras w p L S → Calls Tryz.prog 36 #[.pointer (some ⟨p, 0, none⟩), .int .i64 ref] w fun e w' => e = .returned (.tuple #[.agg #[.string k, .string vl, .int .u32 fl, .int .u64 id, .int .i64 di, .int .i64 ge], .bool b]) ∧ Below w.heap.size w w') := by
  by_cases hr : ref < 1 ∨ (L.length : Int) < ref
  · exact ⟨_, _, _, _, _, _, _, fun h => iat_no h ref hr, fun h => rat_none h ref hr⟩
  · obtain ⟨i, hi⟩ : ∃ i : Nat, ref = (i : Int) + 1 := ⟨(ref - 1).toNat, by omega⟩
    obtain ⟨x, hx⟩ : ∃ x, L[i]? = some x := ⟨_, List.getElem?_eq_getElem (by omega)⟩
    obtain ⟨xk, xv, x2, x3, x4, x5⟩ := x
    exact ⟨_, _, _, _, _, _, _, fun h => iat_any h i (by omega) hx hi, fun h => rat_some h i (by omega) hx hi⟩
/-- Records lie in a row. -/
def Lay (w : World) (b off : Nat) (L : List It) : Prop := ∀ (i : Nat) x, L[i]? = some x → w.cell? ⟨b, off + i * 6, none⟩ = some (.string x.1) ∧ w.cell? ⟨b, off + i * 6 + 1, none⟩ = some (.string x.2.1) ∧ w.cell? ⟨b, off + i * 6 + 2, none⟩ = some (.int .u32 x.2.2.1) ∧ w.cell? ⟨b, off + i * 6 + 3, none⟩ = some (.int .u64 x.2.2.2.1) ∧ w.cell? ⟨b, off + i * 6 + 4, none⟩ = some (.int .i64 x.2.2.2.2.1) ∧ w.cell? ⟨b, off + i * 6 + 5, none⟩ = some (.int .i64 x.2.2.2.2.2)
theorem Lay.now {w wr : World} {b off N k : Nat} {L : List It} {xk xv : ByteArray} {x2 x3 x4 x5 : Int} (h : Lay w b off L) (hN : N = w.heap.size) (hb : Below N w wr) (hx : L[k]? = some (xk, xv, x2, x3, x4, x5)) :
    wr.cell? ⟨b, off + k * 6, none⟩ = some (.string xk) ∧ wr.cell? ⟨b, off + k * 6 + 1, none⟩ = some (.string xv) ∧ wr.cell? ⟨b, off + k * 6 + 2, none⟩ = some (.int .u32 x2) ∧ wr.cell? ⟨b, off + k * 6 + 3, none⟩ = some (.int .u64 x3) ∧ wr.cell? ⟨b, off + k * 6 + 4, none⟩ = some (.int .i64 x4) ∧ wr.cell? ⟨b, off + k * 6 + 5, none⟩ = some (.int .i64 x5) ∧ b < N := by
  obtain ⟨d0, d1, d2, d3, d4, d5⟩ := h k _ hx
  have hbN : b < N := by have := World.block_lt_of_cell? _ _ d0; rw [hN]; exact this
  exact ⟨(hb.cell (p := ⟨b, off + k * 6, none⟩) hbN).trans d0, (hb.cell (p := ⟨b, off + k * 6 + 1, none⟩) hbN).trans d1, (hb.cell (p := ⟨b, off + k * 6 + 2, none⟩) hbN).trans d2, (hb.cell (p := ⟨b, off + k * 6 + 3, none⟩) hbN).trans d3, (hb.cell (p := ⟨b, off + k * 6 + 4, none⟩) hbN).trans d4, (hb.cell (p := ⟨b, off + k * 6 + 5, none⟩) hbN).trans d5, hbN⟩
theorem reads_lay {w : World} {a : Option Addr} {len cap : Nat} (h : Reads Tryz.prog w 30 (.slice a len cap)) : len ≤ 9223372036854775807 ∧ ∃ b off L, (0 < len → len ≤ cap ∧ a = some ⟨b, off, none⟩) ∧ L.length = len ∧ Lay w b off L := by
  have hrd := reads_items (e := 84) Tryz.underlying30 (by kernel_rfl) (by kernel_rfl) h
  rcases hrd with ⟨_, rfl, _⟩ | ⟨b, off, h1, h2, h3, L, h4, h5⟩
  · exact ⟨by omega, 0, 0, [], fun h => by omega, rfl, fun i x h => by simp at h⟩
  · exact ⟨by unfold maxLen at h2; omega, b, off, L, fun h => ⟨h1, h3 (by omega)⟩, h4, h5⟩
theorem take_one {L : List It} {k : Nat} {x : It} (h : L[k]? = some x) : L.take (k + 1) = L.take k ++ [x] := by
  have hk : k < L.length := by
    rcases Nat.lt_or_ge k L.length with h' | h'
    · exact h'
    · rw [List.getElem?_eq_none h'] at h; simp at h
  rw [List.take_succ_eq_append_getElem hk]
  rw [List.getElem?_eq_getElem hk] at h
  simp at h
  rw [h]
theorem reads_ints {w : World} {t e : TypeId} {a : Option Addr} {len cap : Nat} (ht : Tryz.prog.underlying t = some (.slice e)) (hk : leaves Tryz.prog 9 e = some [.inl .i64]) (hc : Tryz.prog.cellsOf e = 1) (h : Reads Tryz.prog w t (.slice a len cap)) :
    ∃ b off, (0 < len → len ≤ cap ∧ a = some ⟨b, off, none⟩) ∧ ∀ i, i < len → ∃ x : Int, w.cell? ⟨b, off + i, none⟩ = some (.int .i64 x) := by
  rcases Reads.slice ht hk h with ⟨_, rfl, _⟩ | ⟨b, off, sp, rfl, h1, h2, h3, h4⟩
  · exact ⟨0, 0, fun h => by omega, fun i hi => by omega⟩
  · refine ⟨b, off, fun h => ⟨h1, by rw [h3 (by omega) (by omega)]⟩, fun i hi => ?_⟩
    obtain ⟨l, hl, hll, hx⟩ := h4 i (by omega)
    obtain ⟨_, _, rfl, ⟨x, rfl, -⟩, g1⟩ := all2_cons hl
    obtain rfl := all2_nil g1
    rw [hc, Nat.mul_one] at hx
    exact ⟨x, hx 0 _ rfl⟩
end Go.Proofs.YtodppilfpemepaaGreat
