/- Lines: how few, and how many, words a form may have. -/
import Derived.Test.YtifbcejekdhnlaaDoorLn1
import Derived.Deep.RegionHeld3
import Derived.IntWalk
namespace Go.Proofs.YtifbcejekdhnlaaDoor
open Go.RowKit Go.Maps
set_option linter.unusedVariables false

/-- A form's cells, where they lie. -/
abbrev FormAt (w : World) (b : Nat) (f : Form) : Prop :=
  w.cell? ⟨b, 0, none⟩ = some (.int .u8 f.verb) ∧ w.cell? ⟨b, 1, none⟩ = some (.int .i64 f.least) ∧ w.cell? ⟨b, 2, none⟩ = some (.int .i64 f.most) ∧ w.cell? ⟨b, 3, none⟩ = some (.int .u8 (f.fld 0 : Nat)) ∧ w.cell? ⟨b, 4, none⟩ = some (.int .u8 (f.fld 1 : Nat)) ∧ w.cell? ⟨b, 5, none⟩ = some (.int .u8 (f.fld 2 : Nat)) ∧ w.cell? ⟨b, 6, none⟩ = some (.int .u8 (f.fld 3 : Nat)) ∧ w.cell? ⟨b, 7, none⟩ = some (.int .i64 f.spare) ∧ w.cell? ⟨b, 8, none⟩ = some (.bool f.quiet)
theorem FormAt.below {w w' : World} {b B : Nat} {f : Form} (h : FormAt w b f) (hb : Below B w w') (hB : b < B) : FormAt w' b f := by
  obtain ⟨h0, h1, h2, h3, h4, h5, h6, h7, h8⟩ := h
  exact ⟨box_cell hb hB h0, box_cell hb hB h1, box_cell hb hB h2, box_cell hb hB h3, box_cell hb hB h4, box_cell hb hB h5, box_cell hb hB h6, box_cell hb hB h7, box_cell hb hB h8⟩
theorem FormAt.new (w : World) (f : Form) (t : TypeId) : FormAt (w.alloc (.cells #[.int .u8 f.verb, .int .i64 f.least, .int .i64 f.most, .int .u8 (f.fld 0 : Nat), .int .u8 (f.fld 1 : Nat), .int .u8 (f.fld 2 : Nat), .int .u8 (f.fld 3 : Nat), .int .i64 f.spare, .bool f.quiet] t)) w.heap.size f := by
  refine ⟨?_, ?_, ?_, ?_, ?_, ?_, ?_, ?_, ?_⟩ <;> simp
theorem form_at {w : World} {b : Nat} {f : Form} (h : FormAt w b f) : ∀ j u, (formC f)[j]? = some u → w.cell? ⟨b, j, none⟩ = some u := by
  obtain ⟨h0, h1, h2, h3, h4, h5, h6, h7, h8⟩ := h
  intro j u hj
  match j, hj with
  | 0, hj => simp [formC] at hj; subst hj; exact h0
  | 1, hj => simp [formC] at hj; subst hj; exact h1
  | 2, hj => simp [formC] at hj; subst hj; exact h2
  | 3, hj => simp [formC] at hj; subst hj; simpa using h3
  | 4, hj => simp [formC] at hj; subst hj; simpa using h4
  | 5, hj => simp [formC] at hj; subst hj; simpa using h5
  | 6, hj => simp [formC] at hj; subst hj; simpa using h6
  | 7, hj => simp [formC] at hj; subst hj; exact h7
  | 8, hj => simp [formC] at hj; subst hj; exact h8
set_option maxHeartbeats 2000000 in
set_option maxRecDepth 100000 in
theorem fewestw (f : Form) (w : World) (hf : FormOk f) :
    Calls Tryd.prog 31 #[formV f] w fun e w' => e = .returned (.int .i64 (f.fewest : Nat)) ∧ Below w.heap.size w w' := by
  have HC := fun W => Lib.hid (show Calls Tryd.prog 64 #[(.agg #[.int .u8 f.verb, .int .i64 f.least, .int .i64 f.most, .int .u8 (f.fld 0 : Nat), .int .u8 (f.fld 1 : Nat), .int .u8 (f.fld 2 : Nat), .int .u8 (f.fld 3 : Nat), .int .i64 f.spare, .bool f.quiet])] W fun e w' => e = .returned (.int .i64 (f.fields.length : Nat)) ∧ Below W.heap.size W w' from countw f W hf)
  have q1 := hf.len
  have q2 := hf.few
  have q3 := hf.spare
  have q4 := hf.most
  have hE : (f.fewest : Int) = (f.least : Int) + (f.fields.length : Int) - (f.spare : Int) := by unfold Form.fewest; omega
  have HE := Lib.hid hE
  have hbw : Below w.heap.size w (w.alloc (.cells #[.int .u8 f.verb, .int .i64 f.least, .int .i64 f.most, .int .u8 (f.fld 0 : Nat), .int .u8 (f.fld 1 : Nat), .int .u8 (f.fld 2 : Nat), .int .u8 (f.fld 3 : Nat), .int .i64 f.spare, .bool f.quiet] 74)) := (Below.refl _ _).alloc (Nat.le_refl _) _
  have HK := Lib.hid (fun X (hb : Below (w.alloc (.cells #[.int .u8 f.verb, .int .i64 f.least, .int .i64 f.most, .int .u8 (f.fld 0 : Nat), .int .u8 (f.fld 1 : Nat), .int .u8 (f.fld 2 : Nat), .int .u8 (f.fld 3 : Nat), .int .i64 f.spare, .bool f.quiet] 74)).drew.heap.size (w.alloc (.cells #[.int .u8 f.verb, .int .i64 f.least, .int .i64 f.most, .int .u8 (f.fld 0 : Nat), .int .u8 (f.fld 1 : Nat), .int .u8 (f.fld 2 : Nat), .int .u8 (f.fld 3 : Nat), .int .i64 f.spare, .bool f.quiet] 74)).drew X) => And.intro ((FormAt.new w f 74).below ((Below.refl _ _).drew.trans hb) (by simp)) (hbw.drew.trans (hb.mono (by simp))))
  unfold formV formC
  clear hE hf hbw
  obtain ⟨h0, h1, h2, h3, h4, h5, h6, h7, h8⟩ := FormAt.new w f 74
  go_enter Tryd.func31, Tryd.ntmps31
  go_wp2_with fail
  go_region_held3 (fun X => X.cell? ⟨w.heap.size, 0, none⟩ = some (.int .u8 f.verb) ∧ X.cell? ⟨w.heap.size, 1, none⟩ = some (.int .i64 f.least) ∧ X.cell? ⟨w.heap.size, 2, none⟩ = some (.int .i64 f.most) ∧ X.cell? ⟨w.heap.size, 3, none⟩ = some (.int .u8 (f.fld 0 : Nat)) ∧ X.cell? ⟨w.heap.size, 4, none⟩ = some (.int .u8 (f.fld 1 : Nat)) ∧ X.cell? ⟨w.heap.size, 5, none⟩ = some (.int .u8 (f.fld 2 : Nat)) ∧ X.cell? ⟨w.heap.size, 6, none⟩ = some (.int .u8 (f.fld 3 : Nat)) ∧ X.cell? ⟨w.heap.size, 7, none⟩ = some (.int .i64 f.spare) ∧ X.cell? ⟨w.heap.size, 8, none⟩ = some (.bool f.quiet))
    (first | exact ⟨by assumption, by assumption, by assumption, by assumption, by assumption, by assumption, by assumption, by assumption, by assumption⟩)
    ((go_at_call 64; ((with_reducible refine (HC _).out.mono ?_); rintro e w1 ⟨rfl, hb1⟩; obtain ⟨⟨g0, g1, g2, g3, g4, g5, g6, g7, g8⟩, k1⟩ := HK.out _ hb1; have K1 := Lib.hid k1; clear k1 hb1 h0 h1 h2 h3 h4 h5 h6 h7 h8)))
  all_goals
    go_wp2_with fail
    go_ret
    rw [HE.out]
    exact ⟨ret_int (a := IntKind.i64.wrap (IntKind.i64.wrap ((f.least : Int) + (f.fields.length : Int)) - (f.spare : Int))) (by rw [IntWalk.i64_in ((f.least : Int) + (f.fields.length : Int)) (by omega), IntWalk.i64_in _ (by omega)]), K1.out⟩
set_option maxHeartbeats 2000000 in
set_option maxRecDepth 100000 in
theorem greatestw (f : Form) (w : World) (hf : FormOk f) :
    Calls Tryd.prog 32 #[formV f] w fun e w' => e = .returned (.int .i64 (f.greatest : Nat)) ∧ Below w.heap.size w w' := by
  have HC := fun W => Lib.hid (show Calls Tryd.prog 64 #[(.agg #[.int .u8 f.verb, .int .i64 f.least, .int .i64 f.most, .int .u8 (f.fld 0 : Nat), .int .u8 (f.fld 1 : Nat), .int .u8 (f.fld 2 : Nat), .int .u8 (f.fld 3 : Nat), .int .i64 f.spare, .bool f.quiet])] W fun e w' => e = .returned (.int .i64 (f.fields.length : Nat)) ∧ Below W.heap.size W w' from countw f W hf)
  have q1 := hf.len
  have q2 := hf.few
  have q3 := hf.spare
  have q4 := hf.most
  have hE : (f.greatest : Int) = (f.most : Int) + (f.fields.length : Int) := by unfold Form.greatest; omega
  have HE := Lib.hid hE
  have hbw : Below w.heap.size w (w.alloc (.cells #[.int .u8 f.verb, .int .i64 f.least, .int .i64 f.most, .int .u8 (f.fld 0 : Nat), .int .u8 (f.fld 1 : Nat), .int .u8 (f.fld 2 : Nat), .int .u8 (f.fld 3 : Nat), .int .i64 f.spare, .bool f.quiet] 74)) := (Below.refl _ _).alloc (Nat.le_refl _) _
  have HK := Lib.hid (fun X (hb : Below (w.alloc (.cells #[.int .u8 f.verb, .int .i64 f.least, .int .i64 f.most, .int .u8 (f.fld 0 : Nat), .int .u8 (f.fld 1 : Nat), .int .u8 (f.fld 2 : Nat), .int .u8 (f.fld 3 : Nat), .int .i64 f.spare, .bool f.quiet] 74)).drew.heap.size (w.alloc (.cells #[.int .u8 f.verb, .int .i64 f.least, .int .i64 f.most, .int .u8 (f.fld 0 : Nat), .int .u8 (f.fld 1 : Nat), .int .u8 (f.fld 2 : Nat), .int .u8 (f.fld 3 : Nat), .int .i64 f.spare, .bool f.quiet] 74)).drew X) => And.intro ((FormAt.new w f 74).below ((Below.refl _ _).drew.trans hb) (by simp)) (hbw.drew.trans (hb.mono (by simp))))
  unfold formV formC
  clear hE hf hbw
  obtain ⟨h0, h1, h2, h3, h4, h5, h6, h7, h8⟩ := FormAt.new w f 74
  go_enter Tryd.func32, Tryd.ntmps32
  go_wp2_with fail
  go_region_held3 (fun X => X.cell? ⟨w.heap.size, 0, none⟩ = some (.int .u8 f.verb) ∧ X.cell? ⟨w.heap.size, 1, none⟩ = some (.int .i64 f.least) ∧ X.cell? ⟨w.heap.size, 2, none⟩ = some (.int .i64 f.most) ∧ X.cell? ⟨w.heap.size, 3, none⟩ = some (.int .u8 (f.fld 0 : Nat)) ∧ X.cell? ⟨w.heap.size, 4, none⟩ = some (.int .u8 (f.fld 1 : Nat)) ∧ X.cell? ⟨w.heap.size, 5, none⟩ = some (.int .u8 (f.fld 2 : Nat)) ∧ X.cell? ⟨w.heap.size, 6, none⟩ = some (.int .u8 (f.fld 3 : Nat)) ∧ X.cell? ⟨w.heap.size, 7, none⟩ = some (.int .i64 f.spare) ∧ X.cell? ⟨w.heap.size, 8, none⟩ = some (.bool f.quiet))
    (first | exact ⟨by assumption, by assumption, by assumption, by assumption, by assumption, by assumption, by assumption, by assumption, by assumption⟩)
    ((go_at_call 64; ((with_reducible refine (HC _).out.mono ?_); rintro e w1 ⟨rfl, hb1⟩; obtain ⟨⟨g0, g1, g2, g3, g4, g5, g6, g7, g8⟩, k1⟩ := HK.out _ hb1; have K1 := Lib.hid k1; clear k1 hb1 h0 h1 h2 h3 h4 h5 h6 h7 h8)))
  all_goals
    go_wp2_with fail
    go_ret
    rw [HE.out]
    exact ⟨ret_int (a := IntKind.i64.wrap ((f.most : Int) + (f.fields.length : Int))) (IntWalk.i64_in _ (by omega)), K1.out⟩
end Go.Proofs.YtifbcejekdhnlaaDoor
