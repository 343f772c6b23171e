/- Lines: the line of one command, 'flush_all noreply': the walk. -/
import Derived.Test.YtifbcejekdhnlaaDoorLi3
namespace Go.Proofs.YtifbcejekdhnlaaDoor
open Go.RowKit Go.Maps
set_option linter.unusedVariables false

/-- What is left of the map of forms ahead of a round. -/
def LeftF (left : Lit → Bool) : Prop := (∀ kl, left kl = true → Maps.has formsD kl = true) ∧ left (.string flushN) = true
theorem LeftF.step {left : Lit → Bool} {kl : List UInt8} (h : LeftF left) (hk : flushN ≠ kl) : LeftF (fun z => left z && !z.sameKey (.string kl)) := by
  refine ⟨fun z hz => h.1 z (by simp at hz; exact hz.1), ?_⟩
  simp only [h.2, skey_ne hk]
  rfl
theorem two_cells {w : World} {g : Nat} {a b : ByteArray} (h0 : w.cell? ⟨g, 0, none⟩ = some (.string a)) (h1 : w.cell? ⟨g, 1, none⟩ = some (.string b)) : ∀ (j : Nat) x, [a, b][j]? = some x → w.cell? ⟨g, 0 + j, none⟩ = some (.string x) := by
  intro j x hj
  match j, hj with
  | 0, hj => simp at hj; subst hj; exact h0
  | 1, hj => simp at hj; subst hj; exact h1
  | j + 2, hj => simp at hj
set_option maxHeartbeats 4000000 in
set_option maxRecDepth 100000 in
theorem line_flush (kv : Value) (w : World) (hk : KyR w kv []) :
    Calls Tryd.prog 13 #[.agg (cmdC flushC kv).toArray] w fun e w' => e = .returned (.tuple #[.string ⟨flushL.toArray⟩, .bool true]) ∧ Below w.heap.size w w' := by
  obtain ⟨A1, c1, rfl, hc1, hm1, -⟩ := hk.form
  simp only [List.length_nil] at hc1 hk ⊢
  show Calls Tryd.prog 13 #[.agg #[.int .u8 11, .slice A1 0 c1, .int .u8 11, .string ⟨#[]⟩, .string ⟨#[]⟩, .int .u32 0, .int .i64 0, .int .u64 0, .int .u64 0, .int .i64 (-1), .bool true]] w _
  obtain ⟨W1, hW1⟩ : ∃ W1, W1 = w.alloc (.cells #[.int .u8 11, .slice A1 0 c1, .int .u8 11, .string ⟨#[]⟩, .string ⟨#[]⟩, .int .u32 0, .int .i64 0, .int .u64 0, .int .u64 0, .int .i64 (-1), .bool true] 30) := ⟨_, rfl⟩
  have hC1 : Cb W1 w.heap.size (cmdC flushC (.slice A1 0 c1)) := by rw [hW1]; exact cb_new rfl
  have hB1 : Below w.heap.size w W1 := by rw [hW1]; exact (Below.refl _ _).alloc (Nat.le_refl _) _
  have hz1 : W1.heap.size = w.heap.size + 1 := by rw [hW1]; simp
  have HF := Lib.hid (formsw W1)
  have HC1 := Lib.hid hC1
  have HB1 := Lib.hid hB1
  have HZ1 := Lib.hid hz1
  clear hC1 hB1 hz1
  go_enter Tryd.func13, Tryd.ntmps13
  go_upto_region 1 with fail
  rw [← hW1]
  clear hW1
  go_wp2_with (first
    | (go_at_call 30; refine HF.out.mono ?_; rintro e W2 ⟨rfl, hown2, hb2⟩)
    | (at_range; refine wpList_range_own _ rfl _ 76 rfl 9 74 lawS Tryd.underlying76 fR W1.heap.size 13 formsD rfl hown2 ?_; intro W3 hrg3 hg3 hs3))
  have hb13 : Below W1.heap.size W1 W3 := hb2.grown hg3 hb2.size (fun k e => by simp at e)
  have hC3 := Lib.hid (HC1.out.new hb13)
  have hB3 := Lib.hid (HB1.out.trans (hb13.mono HB1.out.size))
  have hR3 := Lib.hid hrg3
  have hlt2 := Lib.hid hb2.size
  have hs3' := Lib.hid hs3
  have hL0 : LeftF (Maps.has formsD) := ⟨fun kl h => h, (formsD_some .nil form_flush).1⟩
  have HL0 := Lib.hid hL0
  clear hown2 hb2 hrg3 hg3 hs3 hb13 HF hL0
  go_frame
  go_loopw [4] (fun _ wr => ∃ (left : Lit → Bool) (q : Nat), Hid (wr.ranges Tryd.prog 9 fR W1.heap.size W2.heap.size 13 formsD left q) ∧ Hid (LeftF left) ∧ Hid (Below W2.heap.size W3 wr)) (fun _ wr => wr.rangeLeft W1.heap.size W2.heap.size)
  case atStart => exact ⟨_, _, hR3, HL0, Lib.hid (Below.refl _ _)⟩
  case round =>
    obtain ⟨left, q, hrg, hV, hnx⟩ := hrel
    clear hR3 HL0
    have hrg' := hrg.out
    go_upto_region 4 with (at_next; go_loud (refine wpList_next_ranges _ rfl _ rfl 9 lawS fR (fun z : ByteArray => .string z) (fun z : Value => z) (fun key kl hk => by obtain ⟨z, rfl, _⟩ := key_string_inv hk; exact ⟨z, rfl⟩) fR_inv W1.heap.size W2.heap.size 13 formsD left q rfl hrg' (fun hq0 hdone => absurd ((hdone _).symm.trans hV.out.2) Bool.false_ne_true) (fun z c kl y w1 q1 hk hl hR hat hrg1 hlt hgr hsz1 hen => ?_); obtain ⟨f, rfl, hf, ec⟩ := entry_form hk (hV.out.1 _ hl) hR hat; have hx1 := Lib.hid (hnx.out.grown hgr (by have := hnx.out.size; have := hs3'.out; omega) (fun k e => by simp at e; have := hs3'.out; omega)); change c = .agg #[.int .u8 f.verb, .int .i64 f.least, .int .i64 f.most, .int .u8 (f.fld 0 : Nat), .int .u8 (f.fld 1 : Nat), .int .u8 (f.fld 2 : Nat), .int .u8 (f.fld 3 : Nat), .int .i64 f.spare, .bool f.quiet] at ec; subst ec; have HRG1 := Lib.hid hrg1; have HQ := Lib.hid (And.intro hlt (And.intro hsz1 hrg'.left_eq)); clear hR hat hk hrg1 hgr hlt hsz1 hrg'))
    have hwr : W2.heap.size < w1.heap.size := by have := hnx.out.size; have := hs3'.out; have := HQ.out.2.1; omega
    have hba : Below w1.heap.size w1 (w1.alloc (.cells #[.int .u8 f.verb, .int .i64 f.least, .int .i64 f.most, .int .u8 (f.fld 0 : Nat), .int .u8 (f.fld 1 : Nat), .int .u8 (f.fld 2 : Nat), .int .u8 (f.fld 3 : Nat), .int .i64 f.spare, .bool f.quiet] 74)) := (Below.refl _ _).alloc (Nat.le_refl _) _
    have hFX := Lib.hid (show Cb (w1.alloc (.cells #[.int .u8 f.verb, .int .i64 f.least, .int .i64 f.most, .int .u8 (f.fld 0 : Nat), .int .u8 (f.fld 1 : Nat), .int .u8 (f.fld 2 : Nat), .int .u8 (f.fld 3 : Nat), .int .i64 f.spare, .bool f.quiet] 74)) w1.heap.size (formC f) from cb_new rfl)
    have hRX := Lib.hid (ranges_upF HRG1.out hba)
    have hXb := Lib.hid (hx1.out.trans (hba.mono (by omega)))
    generalize w1.alloc _ = X at *
    have hW2 : w.heap.size < W2.heap.size := by have := HZ1.out; have := hlt2.out; omega
    have hCX := Lib.hid (Cb.keep (T := fun k => W2.heap.size ≤ k) hC3.out ((Keeps.refl _ _).below hXb.out (fun _ _ e => e)) (by omega))
    obtain ⟨⟨j0, j1, j2, j3, j4, j5, j6, j7, j8⟩, -⟩ := ff_cells hFX.out
    obtain ⟨x0, x1, x2, x3, x4, x5, x6, x7, x8, x9, x10⟩ := cb_cells hCX.out
    simp only [flushC] at x0 x1 x2 x3 x4 x5 x6 x7 x8 x9 x10
    clear hk hl hen hba
    by_cases hv : f.verb = 11
    · obtain ⟨hz, rfl⟩ := verb11 hf hv
      obtain rfl : z = ⟨flushN.toArray⟩ := by
        have : (⟨z.data.toList.toArray⟩ : ByteArray) = z := by simp
        rw [← this, hz]
      have HWD := Lib.hid (words_flush (.slice A1 0 c1))
      have hky : ∀ W, KyR W (.slice A1 0 c1) [] := fun W => ⟨⟨A1, c1, rfl, by simp, hm1, fun k x h => by simp at h⟩⟩
      have HKY := Lib.hid hky
      simp only [flushF] at j0 j1 j2 j3 j4 j5 j6 j7 j8
      clear hf hz hv hky
      go_upto_region 7 with (first
        | (go_at_call 44; refine (HWD.out X (HKY.out X)).mono ?_; rintro e X4 ⟨g, cap, rfl, hn, hm, hg, g0, g1, hb4⟩)
        | (go_at_call 22; refine (Tryd.strings_Join g 0 cap [⟨flushN.toArray⟩, ⟨norep.toArray⟩] ⟨#[32]⟩ X4 (two_cells g0 g1) hg (by decide) hn (by rw [flush_join]; decide)).mono ?_; rw [flush_join]; rintro e X5 ⟨rfl, hb5⟩)
        | (go_at_call 10; refine (parsel _ _ (by decide)).mono ?_; rw [show (⟨flushL.toArray⟩ : ByteArray).data.toList = flushL from rfl, flush_parse]; rintro e X6 ⟨kv6, he6, hk6, hb6⟩; obtain ⟨A6, c6, rfl, hc6, hm6, -⟩ := (KyS.of_lst (U := fun _ => False) hk6 (fun _ _ _ e => e)).rd.form; have he7 : e = .returned (.tuple #[.agg #[.int .u8 11, .slice A6 0 c6, .int .u8 11, .string ⟨#[]⟩, .string ⟨#[]⟩, .int .u32 0, .int .i64 0, .int .u64 0, .int .u64 0, .int .i64 (-1), .bool true], .int .u8 0]) := he6; subst he7; clear he6 hk6))
      have hCX6 : Cb X6 w.heap.size (cmdC flushC (.slice A1 0 c1)) := ((hCX.out.new hb4).new hb5).new hb6
      have hba : Below X6.heap.size X6 (X6.alloc (.cells #[.int .u8 11, .slice A6 0 c6, .int .u8 11, .string ⟨#[]⟩, .string ⟨#[]⟩, .int .u32 0, .int .i64 0, .int .u64 0, .int .u64 0, .int .i64 (-1), .bool true] 30)) := (Below.refl _ _).alloc (Nat.le_refl _) _
      have hD7 : Cb (X6.alloc (.cells #[.int .u8 11, .slice A6 0 c6, .int .u8 11, .string ⟨#[]⟩, .string ⟨#[]⟩, .int .u32 0, .int .i64 0, .int .u64 0, .int .u64 0, .int .i64 (-1), .bool true] 30)) X6.heap.size (cmdC flushC (.slice A6 0 c6)) := cb_new rfl
      have hC7 := hCX6.new hba
      generalize X6.alloc _ = X7 at *
      obtain ⟨y0, y1, y2, y3, y4, y5, y6, y7, y8, y9, y10⟩ := cb_cells hC7
      obtain ⟨z0, z1, z2, z3, z4, z5, z6, z7, z8, z9, z10⟩ := cb_cells hD7
      simp only [flushC] at y0 y1 y2 y3 y4 y5 y6 y7 y8 y9 y10 z0 z1 z2 z3 z4 z5 z6 z7 z8 z9 z10
      have HB7 := Lib.hid (hb4.trans ((hb5.mono hb4.size).trans ((hb6.mono (by have := hb4.size; have := hb5.size; omega)).trans (hba.mono (by have := hb4.size; have := hb5.size; have := hb6.size; omega)))))
      clear x0 x1 x2 x3 x4 x5 x6 x7 x8 x9 x10 j0 j1 j2 j3 j4 j5 j6 j7 j8 hb4 hb5 hb6 hba hCX6 hD7 hC7 g0 g1
      go_wp2_with (go_at_call 45; refine (samel flushC (.slice A1 0 c1) (.slice A6 0 c6) _ ⟨⟨A1, c1, rfl, Nat.zero_le _, hm1, fun k x h => by simp [flushC] at h⟩⟩ ⟨⟨A6, c6, rfl, Nat.zero_le _, hm6, fun k x h => by simp [flushC] at h⟩⟩).mono ?_; rintro e X8 ⟨rfl, hb8⟩)
      refine bodyPost_ret (v := .tuple #[.string ⟨flushL.toArray⟩, .bool true]) (by simp [results, Tryd.results13, go_sem]) rfl ?_
      exact ⟨rfl, (hB3.out.trans (hXb.out.mono (by omega))).trans ((HB7.out.trans (hb8.mono HB7.out.size)).mono (by have := hXb.out.size; have := hs3'.out; omega))⟩
    · have hne : ((f.verb : Int) == 11) = false := beq_eq_false_iff_ne.mpr (by omega)
      go_wp2_with fail
      go_roundw
      case rel => exact ⟨_, q1, hRX, Lib.hid (hV.out.step (by intro e; rw [← e] at hf; rw [form_flush] at hf; injection hf with hf; rw [← hf] at hv; exact hv rfl)), hXb⟩
      case measure => rw [hRX.out.left_eq, HQ.out.2.2]; exact HQ.out.1
end Go.Proofs.YtifbcejekdhnlaaDoor
