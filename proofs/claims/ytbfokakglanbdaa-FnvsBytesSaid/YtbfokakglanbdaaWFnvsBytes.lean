/- The law FnvsBytes. -/
import Derived.Test.YtbfokakglanbdaaHashInj
import Derived.Test.YtbfokakglanbdaaConv
import Derived.Laws.IdiomStrings
import Derived.Lib.SmallJoins
namespace Go.Proofs.Ytbfokakglanbdaa
open Go.RowKit
set_option linter.unusedVariables false
theorem walk_FnvsBytes (a0 : ByteArray) (a1 : Int) (a2 : Int) (w : World) (w0 : a0.size ≤ maxLen) (w1 : (Lit.int .u8 a1).wf = true) (w2 : (Lit.int .u16 a2).wf = true) :
    Calls Try.prog 7 #[.string a0, .int .u8 a1, .int .u16 a2] w fun e w' => e = .returned (.bool true) ∧ Below w.heap.size w w' := by
  obtain ⟨l1, u1⟩ := bounds_u8 w1
  obtain ⟨l2, u2⟩ := bounds_u16 w2
  obtain ⟨c, rfl⟩ : ∃ c : UInt8, a1 = (c.toNat : Int) := ⟨UInt8.ofNat a1.toNat, by simp; omega⟩
  clear w1 w2
  by_cases hl : 2000 < a0.size
  · go_enter Try.func7, Try.ntmps7
    go_wp2_with fail
    refine (lives01 _).mono ?_
    rintro e w1 ⟨rfl, hb⟩
    go_wp2_with fail
    go_ret
    exact ⟨rfl, hb⟩
  · go_enter Try.func7, Try.ntmps7
    go_wp2_with fail
    refine (hash _ _ w0).mono ?_
    rintro e w1 ⟨rfl, hb1⟩
    have hcv := run_convert_bytes_back (P := Try.prog) (w1.alloc (.cells #[.int .u8 (c.toNat : Int)] 5)) 37 9 5 ⟨w1.heap.size, 0, none⟩ 1 [c] Try.underlying37 Try.underlying5 Try.underlying9 (fun j hj => by
      have : j = 0 := by simpa using hj
      subst this
      simp [Addr.add])
    simp only [List.length_singleton] at hcv
    have hsz : (a0 ++ ⟨#[c]⟩ : ByteArray).size ≤ maxLen := by
      have : (a0 ++ ⟨#[c]⟩ : ByteArray).size = a0.size + 1 := by simp [ByteArray.size_append]; rfl
      unfold maxLen; omega
    have hsn : hsl (a0.data.toList ++ [c]) = hs1 (hsl a0.data.toList) c := hsl_snoc _ _
    obtain ⟨x, hx⟩ : ∃ x, hsl a0.data.toList = x := ⟨_, rfl⟩
    have hr := hsl_range a0.data.toList
    rw [hx] at hr hsn
    obtain ⟨x1, x2⟩ := hr
    obtain ⟨y, hy⟩ : ∃ y, hs1 x c = y := ⟨_, rfl⟩
    rw [hy] at hsn
    have hyd : y = IntKind.u64.wrap (bits BinOp.xor IntKind.u64 x (c.toNat : Int) * 1099511628211) := by
      rw [← hy]; unfold hs1; rw [show IntKind.u64.wrap (c.toNat : Int) = (c.toNat : Int) by rw [IntKind.wrap_u64]; omega]
    have hyb : (y != IntKind.u64.wrap (bits BinOp.xor IntKind.u64 x (c.toNat : Int) * 1099511628211)) = false := by rw [← hyd]; simp
    have HSZ := Lib.hid hsz
    have HY := Lib.hid hyd
    clear hsz hyd hy
    go_wp2_with fail
    refine (hash _ _ HSZ.out).mono ?_
    rintro e w2 ⟨rfl, hb2⟩
    have hbB : Below w.heap.size w (w1.alloc (.cells #[.int .u8 (c.toNat : Int)] 5)) := hb1.alloc hb1.size _
    have fin : ∀ (W : World), Below w.heap.size w W → Calls Try.prog 14 #[] W fun e w' => e = .returned (.bool true) ∧ Below w.heap.size w w' := fun W hW => (lives01 W).mono fun e w' h => ⟨h.1, box_then hW (Nat.le_refl _) h.2⟩
    have FIN := Lib.hid fin
    clear fin
    have hb12 : Below w.heap.size w w2 := box_then hbB (Nat.le_refl _) hb2
    clear hb1 hb2 hbB hcv
    by_cases e0 : a0.size = 0
    · have e0b : ((a0.size : Int) == 0) = true := by rw [beq_iff_eq]; omega
      clear e0
      go_wp2_with fail
      refine (FIN.out _ hb12).mono ?_
      rintro e w3 ⟨rfl, hb3⟩
      go_wp2_with fail
      go_ret
      exact ⟨rfl, hb3⟩
    · have e0b : ((a0.size : Int) == 0) = false := by rw [beq_eq_false_iff_ne]; omega
      by_cases ec : c = 0
      · have ecb : ((c.toNat : Int) == 0) = true := by rw [ec]; rfl
        clear ec e0
        go_wp2_with fail
        refine (FIN.out _ hb12).mono ?_
        rintro e w3 ⟨rfl, hb3⟩
        go_wp2_with fail
        go_ret
        exact ⟨rfl, hb3⟩
      · have ecb : ((c.toNat : Int) == 0) = false := by
          rw [beq_eq_false_iff_ne]
          intro h
          exact ec (UInt8.toNat_inj.1 (by simpa using h))
        obtain ⟨k, hk⟩ : ∃ k : Nat, a2 % (a0.size : Int) = k := ⟨(a2 % (a0.size : Int)).toNat, by rw [Int.toNat_of_nonneg (Int.emod_nonneg _ (by omega))]⟩
        have hks : k < a0.size := by
          have := Int.emod_lt_of_pos a2 (show (0 : Int) < a0.size by omega)
          omega
        obtain ⟨W, cap, hcv, hbW, hsW, hcap, hcell⟩ := to_bytes (P := Try.prog) w2 9 37 5 a0 Try.underlying9 Try.underlying37 Try.underlying5
        obtain ⟨ck, fk⟩ := hcell k hks
        have hkl : k < a0.data.toList.length := by simpa using hks
        have hgk : a0.data.toList[k] = a0[k] := rfl
        obtain ⟨d, hd⟩ : ∃ d : UInt8, a0[k] ^^^ c = d := ⟨_, rfl⟩
        have e8 : bits BinOp.xor IntKind.u8 (a0[k].toNat : Int) (c.toNat : Int) = (d.toNat : Int) := by
          rw [u8_xor_nat _ _ a0[k].toNat_lt c.toNat_lt, ← hd, UInt8.toNat_xor]
        have hdk : d ≠ a0.data.toList[k] := by
          intro h
          rw [hgk, ← hd] at h
          have h2 := congrArg (a0[k] ^^^ ·) h
          simp only [← UInt8.xor_assoc, UInt8.xor_self, UInt8.zero_xor] at h2
          exact ec h2
        have hne := hsl_set a0.data.toList k hkl d hdk
        rw [hx] at hne
        obtain ⟨l, hls⟩ : ∃ l, a0.data.toList.set k d = l := ⟨_, rfl⟩
        rw [hls] at hne
        have hlen : l.length = a0.size := by rw [← hls]; simp
        have hback := from_bytes (P := Try.prog) (W.setCell ⟨w2.heap.size, k, none⟩ (.int .u8 (d.toNat : Int))) 37 9 5 w2.heap.size cap a0.size l hlen Try.underlying37 Try.underlying5 Try.underlying9 (fun j hj => by
          have hja : j < a0.size := by omega
          by_cases hjk : k = j
          · subst hjk
            rw [World.cell?_setCell_same _ _ _ ck]
            subst hls; simp
          · rw [World.cell?_setCell_other _ _ _ _ (by simp), (hcell j hja).1]
            have : l[j] = a0[j] := by
              simp only [← hls]
              exact List.getElem_set_ne hjk _
            rw [this])
        have hneb : (hsl l != x) = true := by rw [bne_iff_ne]; exact hne
        have hlm : (⟨l.toArray⟩ : ByteArray).size ≤ maxLen := by
          have : (⟨l.toArray⟩ : ByteArray).size = l.length := by simp [ByteArray.size]
          unfold maxLen at *
          omega
        have HLM := Lib.hid hlm
        have hbW2 : Below w.heap.size w (W.setCell ⟨w2.heap.size, k, none⟩ (.int .u8 (d.toNat : Int))) := (box_then hb12 (Nat.le_refl _) hbW).setCell (by have := hb12.size; exact this) _
        clear e0 ec hls hne hdk hgk hcell hlm hd hlen
        go_wp2_with fail
        refine (hash _ _ HLM.out).mono ?_
        rintro e w3 ⟨rfl, hb3⟩
        have hb4 := box_then hbW2 (Nat.le_refl _) hb3
        go_wp2_with fail
        refine (FIN.out _ hb4).mono ?_
        rintro e w5 ⟨rfl, hb5⟩
        go_wp2_with fail
        go_ret
        exact ⟨rfl, hb5⟩
end Go.Proofs.Ytbfokakglanbdaa
