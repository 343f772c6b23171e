/- Contracts of package items: a record's place; a record of a number. -/
import Derived.Test.YtmdofhdjikapgaaArZ
import Derived.BigQuiet
import Derived.IntWalk
namespace Go.Proofs.Ytmdofhdjikapgaa
open Go.RowKit
set_option linter.unusedVariables false

theorem iplace (i j r b g nb cap p : Nat) (w : World) (hi : (i : Int) < 2000000) (hj : (i : Int) / 256 = j) (hr : (i : Int) % 256 = r) (hjn : j < nb) (hc : w.cell? ⟨p, 0, none⟩ = some (.slice (some ⟨g, 0, none⟩) nb cap)) (hb : w.cell? ⟨g, j, none⟩ = some (.pointer (some ⟨b, 0, none⟩))) :
    Calls Try.prog 73 #[.pointer (some ⟨p, 0, none⟩), .int .i64 ((i : Int) + 1)] w fun e w' => e = .returned (.tuple #[.pointer (some ⟨b, 0, none⟩), .int .i64 r]) ∧ w = w' := by
  have hj0 : (0 : Int) ≤ (j : Int) := by omega
  have hjn' : (j : Int) < (nb : Int) := by omega
  go_enter Try.func73, Try.ntmps73
  go_wp2_with fail
  go_ret2
  exact ⟨by simp; omega, rfl⟩
theorem iat_nil (ref : Int) (w : World) : Calls Try.prog 30 #[.pointer none, .int .i64 ref] w fun e w' => e = .returned (.tuple #[.agg #[.string ⟨#[]⟩, .string ⟨#[]⟩, .int .u32 0, .int .u64 0, .int .i64 0, .int .i64 0], .bool false]) ∧ Below w.heap.size w w' := by
  by_cases h : ref < 1
  · have h1 : decide (ref < 1) = true := decide_eq_true h
    go_enter Try.func30, Try.ntmps30
    go_wp2_with (go_at_call 74; refine (icount_nil _).mono ?_; rintro e w' ⟨rfl, rfl⟩)
    refine bodyPost_ret (v := .tuple #[.agg #[.string ⟨#[]⟩, .string ⟨#[]⟩, .int .u32 0, .int .u64 0, .int .i64 0, .int .i64 0], .bool false]) (by simp [results, Try.results30, go_sem]) rfl ⟨rfl, ?_⟩
    exact (Below.refl w.heap.size w).alloc (Nat.le_refl _) _
  · have h1 : decide (ref < 1) = false := decide_eq_false h
    have h2 : decide (0 < ref) = true := decide_eq_true (by omega)
    go_enter Try.func30, Try.ntmps30
    go_wp2_with (go_at_call 74; refine (icount_nil _).mono ?_; rintro e w' ⟨rfl, rfl⟩)
    refine bodyPost_ret (v := .tuple #[.agg #[.string ⟨#[]⟩, .string ⟨#[]⟩, .int .u32 0, .int .u64 0, .int .i64 0, .int .i64 0], .bool false]) (by simp [results, Try.results30, go_sem]) rfl ⟨rfl, ?_⟩
    exact (Below.refl w.heap.size w).alloc (Nat.le_refl _) _
theorem iat_none (ref n : Int) (p : Nat) (w : World) (hc : w.cell? ⟨p, 1, none⟩ = some (.int .i64 n)) (hr : ref < 1 ∨ n < ref) : Calls Try.prog 30 #[.pointer (some ⟨p, 0, none⟩), .int .i64 ref] w fun e w' => e = .returned (.tuple #[.agg #[.string ⟨#[]⟩, .string ⟨#[]⟩, .int .u32 0, .int .u64 0, .int .i64 0, .int .i64 0], .bool false]) ∧ Below w.heap.size w w' := by
  have hc' : ∀ o, (w.alloc o).cell? ⟨p, 1, none⟩ = some (.int .i64 n) := fun o => ((Keeps.refl (fun _ => False) w).alloc o).cell (p := ⟨p, 1, none⟩) (by simp) hc
  have hk := fun o => Lib.hid (icount n p (w.alloc o) (hc' o))
  by_cases h : ref < 1
  · have h1 : decide (ref < 1) = true := decide_eq_true h
    clear hr
    go_enter Try.func30, Try.ntmps30
    go_wp2_with (go_at_call 74; refine (hk _).out.mono ?_; rintro e w' ⟨rfl, rfl⟩)
    refine bodyPost_ret (v := .tuple #[.agg #[.string ⟨#[]⟩, .string ⟨#[]⟩, .int .u32 0, .int .u64 0, .int .i64 0, .int .i64 0], .bool false]) (by simp [results, Try.results30, go_sem]) rfl ⟨rfl, ?_⟩
    exact (Below.refl w.heap.size w).alloc (Nat.le_refl _) _
  · have h1 : decide (ref < 1) = false := decide_eq_false h
    have h2 : decide (n < ref) = true := decide_eq_true (by omega)
    clear hr
    go_enter Try.func30, Try.ntmps30
    go_wp2_with (go_at_call 74; refine (hk _).out.mono ?_; rintro e w' ⟨rfl, rfl⟩)
    refine bodyPost_ret (v := .tuple #[.agg #[.string ⟨#[]⟩, .string ⟨#[]⟩, .int .u32 0, .int .u64 0, .int .i64 0, .int .i64 0], .bool false]) (by simp [results, Try.results30, go_sem]) rfl ⟨rfl, ?_⟩
    exact (Below.refl w.heap.size w).alloc (Nat.le_refl _) _
theorem iat_some {w : World} {p : Nat} {its : List It} {bs : List Nat} {v : Value} {S : Nat → Prop} (h : IsAr 140 w p its bs v S) (i : Nat) (hi : (i : Int) < 2000000) {k vl : ByteArray} {fl id di ge : Int} (hx : its[i]? = some (k, vl, fl, id, di, ge)) :
    Calls Try.prog 30 #[.pointer (some ⟨p, 0, none⟩), .int .i64 ((i : Int) + 1)] w fun e w' => e = .returned (.tuple #[.agg #[.string k, .string vl, .int .u32 fl, .int .u64 id, .int .i64 di, .int .i64 ge], .bool true]) ∧ Below w.heap.size w w' := by
  obtain ⟨b, hb, hr⟩ := h.at_ i _ hx
  have hil : i < its.length := by
    rcases Nat.lt_or_ge i its.length with h | h
    · exact h
    · rw [List.getElem?_eq_none h] at hx; simp at hx
  have hbl : i / 256 < bs.length := by
    rcases Nat.lt_or_ge (i / 256) bs.length with h | h
    · exact h
    · rw [List.getElem?_eq_none h] at hb; simp at hb
  obtain ⟨g, cap, hv⟩ : ∃ g cap, v = .slice (some ⟨g, 0, none⟩) bs.length cap := by
    rcases h.row.2 with ⟨_, e⟩ | ⟨g, cap, cur, e, _⟩
    · omega
    · exact ⟨g, cap, e⟩
  have hcell : w.cell? ⟨g, i / 256, none⟩ = some (.pointer (some ⟨b, 0, none⟩)) := by
    have := h.row.cells (g := g) (by rw [hv]; rfl) _ _ (ptrs_at hb)
    rwa [Addr.add_mid, Nat.zero_add] at this
  have hc0 := h.c0
  rw [hv] at hc0
  have hc1 := h.c1
  have r0 : w.cell? ⟨b, i % 256 * 6, none⟩ = some (.string k) := hr 0 _ rfl
  have r1 : w.cell? ⟨b, i % 256 * 6 + 1, none⟩ = some (.string vl) := hr 1 _ rfl
  have r2 : w.cell? ⟨b, i % 256 * 6 + 2, none⟩ = some (.int .u32 fl) := hr 2 _ rfl
  have r3 : w.cell? ⟨b, i % 256 * 6 + 3, none⟩ = some (.int .u64 id) := hr 3 _ rfl
  have r4 : w.cell? ⟨b, i % 256 * 6 + 4, none⟩ = some (.int .i64 di) := hr 4 _ rfl
  have r5 : w.cell? ⟨b, i % 256 * 6 + 5, none⟩ = some (.int .i64 ge) := hr 5 _ rfl
  generalize hj : i / 256 = j at *
  generalize hrr : i % 256 = r at *
  have hr256 : r < 256 := by omega
  have hr0 : (0 : Int) ≤ (r : Int) := by omega
  have hr1 : (r : Int) < 256 := by omega
  have up : ∀ (o : Obj) (q : Addr) (u : Value), w.cell? q = some u → (w.alloc o).cell? q = some u := fun o q u hq => ((Keeps.refl (fun _ => False) w).alloc o).cell (p := q) (by simp) hq
  have HK := fun o => Lib.hid (icount its.length p (w.alloc o) (up o _ _ hc1))
  have HP := fun o => Lib.hid (iplace i j r b g bs.length cap p (w.alloc o) hi (by omega) (by omega) hbl (up o _ _ hc0) (up o _ _ hcell))
  have q0 := fun o => up o _ _ r0
  have q1 := fun o => up o _ _ r1
  have q2 := fun o => up o _ _ r2
  have q3 := fun o => up o _ _ r3
  have q4 := fun o => up o _ _ r4
  have q5 := fun o => up o _ _ r5
  have d1 : decide ((i : Int) + 1 < 1) = false := decide_eq_false (by omega)
  have d2 : decide ((its.length : Int) < (i : Int) + 1) = false := decide_eq_false (by omega)
  have hblt : b < w.heap.size := World.block_lt_of_cell? _ _ r0
  have HB := Lib.hid hblt
  clear h hr hb hcell hc0 hc1 r0 r1 r2 r3 r4 r5 up hv hx hj hrr hbl hil hblt
  generalize hn : its.length = n at *
  generalize bs.length = nb at *
  clear hn
  go_enter Try.func30, Try.ntmps30
  go_wp2_with (first
    | (go_at_call 74; refine (HK _).out.mono ?_; rintro e w' ⟨rfl, rfl⟩)
    | (go_at_call 73; refine (HP _).out.mono ?_; rintro e w' ⟨rfl, rfl⟩))
  refine bodyPost_ret (v := .tuple #[.agg #[.string k, .string vl, .int .u32 fl, .int .u64 id, .int .i64 di, .int .i64 ge], .bool true]) (by simp [results, Try.results30, go_sem]) rfl ⟨rfl, ?_⟩
  exact (Below.refl w.heap.size w).alloc (Nat.le_refl _) _
end Go.Proofs.Ytmdofhdjikapgaa
