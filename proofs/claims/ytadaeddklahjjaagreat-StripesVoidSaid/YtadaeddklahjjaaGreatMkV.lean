/- Marks that are over, or are not there; the chapter's New. -/
import Derived.Test.YtadaeddklahjjaaGreatMk
import Derived.Test.YtadaeddklahjjaaGreatPwA
namespace Go.Proofs.YtadaeddklahjjaaGreat
open Go.RowKit Go.Maps
set_option linter.unusedVariables false
theorem bs_out {w W : World} {o : Obj} (h : Below w.heap.size w W) : Below w.heap.size w (W.alloc o) := h.alloc h.size o
theorem bs_out2 {w W : World} {o : Obj} {v : Value} {n i : Nat} (h : Below w.heap.size w W) (hn : w.heap.size ≤ n) : Below w.heap.size w ((W.alloc o).setCell ⟨n, i, none⟩ v) := (h.alloc h.size o).setCell hn v
theorem rnew12 {w : World} {a : Option Addr} {c n : Nat} {L : List Pv} (h : LayP w a n c L) (hM : n ≤ 1000000) {z : Int} (hz : z = if strsF L = [] then 0 else 1) :
    Calls Tryz.prog 33 #[.slice a n c] w fun e w' => (∃ r, e = .returned (.pointer (some ⟨r, 0, none⟩)) ∧ w'.cell? ⟨r, 0, none⟩ = some (.int .i64 z)) ∧ Below w.heap.size w w' := by
  have C := Lib.hid (rstrOf h hM)
  have hl := strsF_len L L.length
  rw [List.take_length, h.1] at hl
  clear h
  generalize strsF L = D at *
  have hD : D = [] ∨ 0 < D.length := by cases D <;> simp
  have hD' : (D.length = 0 ∧ z = 0) ∨ (0 < D.length ∧ z = 1) := by
    rcases hD with hD | hD
    · subst hD; exact .inl ⟨rfl, by rw [hz]; rfl⟩
    · exact .inr ⟨hD, by rw [hz, if_neg (fun e => by rw [e] at hD; simp at hD)]⟩
  clear hz hD
  go_enter Tryz.func33, Tryz.ntmps33
  go_wp2_with fail
  refine C.out.mono ?_
  rintro e w1 ⟨C0, v, hC0, rfl, hown, hb⟩
  obtain ⟨ac, cc, rfl, -, -, -, -⟩ := LieG.of (Lst.of_own hown)
  have HB := Lib.hid hb
  clear hb hown C
  rcases hD' with ⟨h0, rfl⟩ | ⟨h0, rfl⟩
  · generalize D.length = m at *
    subst h0
    go_wp2_with fail
    go_ret
    exact ⟨⟨_, rfl, by simp⟩, bs_out HB.out⟩
  · have hd : decide (0 < (D.length : Int)) = true := decide_eq_true (by omega)
    have hd2 : decide (0 < D.length) = true := decide_eq_true h0
    generalize D.length = m at *
    go_wp2_with fail
    go_ret
    exact ⟨⟨_, rfl, by simp⟩, bs_out HB.out⟩
/-- A Mark that is over, or is not there. -/
def OvM (w : World) (v : Value) : Prop := v = .pointer none ∨ ∃ q a, v = .pointer (some ⟨q, 0, none⟩) ∧ Ob w q [.slice a 0 0]
theorem OvM.keep {w W : World} {v : Value} {T : Nat → Prop} (h : OvM w v) (hk : Keeps T w W) (hT : ∀ q, v = .pointer (some ⟨q, 0, none⟩) → ¬ T q) : OvM W v := by
  rcases h with h | ⟨q, a, rfl, h⟩
  · exact .inl h
  · exact .inr ⟨q, a, rfl, h.keep hk (hT q rfl)⟩
theorem OvM.new {w W : World} {v : Value} (h : OvM w v) (hb : Below w.heap.size w W) : OvM W v := h.keep (T := fun _ => False) (Keeps.of_new hb) (fun _ _ s => s)
theorem OvM.lt {w : World} {v : Value} (h : OvM w v) : ∀ q, v = .pointer (some ⟨q, 0, none⟩) → q < w.heap.size := fun q e => by
  rcases h with h | ⟨q', a, h, ht⟩
  · rw [h] at e; simp at e
  · rw [h] at e
    injection e with e
    injection e with e
    injection e with e
    rw [← e]
    exact ht.lt
theorem ovm_over {w : World} {v : Value} (h : OvM w v) : Calls Tryz.prog 29 #[v] w fun e w' => e = .returned (.bool true) ∧ w = w' := by
  rcases h with rfl | ⟨q, a, rfl, h⟩
  · exact mk_over_nil w
  · exact mk_over (n := 0) h rfl
theorem ovm_step {w : World} {v : Value} (h : OvM w v) (x : Value) : Calls Tryz.prog 31 #[v, x] w fun e w' => e = .returned (.bool true) ∧ w = w' := by
  rcases h with rfl | ⟨q, a, rfl, h⟩
  · exact mk_step_nil x w
  · exact mk_step0 h x
/-- What NewMark leaves of no place. -/
def NwOv (w : World) (e : Ending) (w' : World) : Prop := ∃ q, e = .returned (.pointer (some ⟨q, 0, none⟩)) ∧ OvM w' (.pointer (some ⟨q, 0, none⟩)) ∧ w.heap.size ≤ q ∧ Below w.heap.size w w'
theorem newMark_ov {w : World} {a : Option Addr} {c n : Nat} {L : List Pv} (h : LayP w a n c L) (hM : n ≤ 1000000) (hL : strsF L = []) : Calls Tryz.prog 32 #[.slice a n c] w (NwOv w) := by
  refine (newMark h hM).mono ?_
  rw [hL]
  rintro e w' ⟨q, g, v, rfl, ⟨⟨a', rfl⟩, -⟩, ho, hq, -, hb⟩
  exact ⟨q, rfl, .inr ⟨q, a', rfl, ho⟩, hq.1, hb⟩
theorem lay_nil (w : World) : LayP w none 0 0 [] := ⟨rfl, fun i b k h => by simp at h⟩
theorem newMark_nil (w : World) : Calls Tryz.prog 32 #[.slice none 0 0] w (NwOv w) := newMark_ov (lay_nil w) (by decide) rfl
theorem lay_one (w : World) (b k : Int) (T : TypeId) : LayP (w.alloc (.cells #[.int .i64 b, .int .i64 k] T)) (some ⟨w.heap.size, 0, none⟩) 1 1 [(b, k)] := by
  refine ⟨rfl, fun i x y hx => ⟨w.heap.size, 0, rfl, Nat.le_refl _, ?_⟩⟩
  match i, hx with
  | 0, hx => simp at hx; obtain ⟨rfl, rfl⟩ := hx; exact ⟨new_at rfl rfl, new_at rfl rfl⟩
  | i + 1, hx => simp at hx
theorem lay_two (w : World) (b k b' k' : Int) (T : TypeId) : LayP (w.alloc (.cells #[.int .i64 b, .int .i64 k, .int .i64 b', .int .i64 k'] T)) (some ⟨w.heap.size, 0, none⟩) 2 2 [(b, k), (b', k')] := by
  refine ⟨rfl, fun i x y hx => ⟨w.heap.size, 0, rfl, Nat.le_refl _, ?_⟩⟩
  match i, hx with
  | 0, hx => simp at hx; obtain ⟨rfl, rfl⟩ := hx; exact ⟨new_at rfl rfl, new_at rfl rfl⟩
  | 1, hx => simp at hx; obtain ⟨rfl, rfl⟩ := hx; exact ⟨new_at rfl rfl, new_at rfl rfl⟩
  | i + 2, hx => simp at hx
theorem no_str (b : Int) : strsF [((0 : Int), (0 : Int)), (b, -1)] = [] := by
  have h1 : versf 0 0 = 0 := by decide
  have h2 : versf b (-1) = 0 := by
    unfold versf
    rw [if_neg]
    intro h
    have := isp_range h
    omega
  simp [strsF, addS, h1, h2]
/-- A list of Marks that are over. -/
def LsM (w : World) (g : Nat) (vs : List Value) : Prop := ∀ i v, vs[i]? = some v → w.cell? ⟨g, i, none⟩ = some v ∧ OvM w v
theorem LsM.new {w W : World} {g : Nat} {vs : List Value} (h : LsM w g vs) (hb : Below w.heap.size w W) : LsM W g vs := fun i v hi => by
  obtain ⟨h1, h2⟩ := h i v hi
  exact ⟨(hb.cell (p := ⟨g, i, none⟩) (World.block_lt_of_cell? _ _ h1)).trans h1, h2.new hb⟩
theorem info_mp : (Tryz.prog.info? 76).map (fun i => (i.zero, i.size, i.bytes)) = some (some (.pointer none), 1, 8) := by kernel_rfl
end Go.Proofs.YtadaeddklahjjaaGreat
