/- Finds: the program's; what one tells, and how one begins. -/
import Derived.Test.YtodppilfpemepaaGreatOb
import Derived.Laws.EntriesVeiled
import Derived.ArgAppend
import Derived.Deep.Cut
import Derived.Deep.CutBlock
import Derived.Deep.RegionHeld3
import Derived.Test.YtodppilfpemepaaGreatGPs
import Derived.Test.YtodppilfpemepaaGreatTagHas
import Derived.LoopTactic
import Derived.Deep.QuietTactic
import Derived.BigQuiet
import Derived.Test.YtodppilfpemepaaGreatGPu
import Derived.Test.YtodppilfpemepaaGreatGRm
import Derived.Test.YtodppilfpemepaaGreatWs
namespace Go.Proofs.YtodppilfpemepaaGreat
open Go.RowKit Go.Maps
set_option linter.unusedVariables false
/-- A Find, as it lies. -/
def fdC (key : ByteArray) (t : Int) (pl ld : Value) (b k s ref : Int) : List Value := [.string key, .int .u64 t, pl, ld, .int .i64 b, .int .i64 k, .int .i64 s, .int .i64 ref]
def fd0 : List Value := fdC ⟨#[]⟩ 0 (.slice none 0 0) (.slice none 0 0) 0 0 0 0
def c1V (bx bk : Nat) : Value := .func (.func 49) #[] #[.pointer (some ⟨bx, 0, none⟩), .pointer (some ⟨bk, 0, none⟩)]
def c2V (bp bx : Nat) : Value := .func (.func 85) #[] #[.pointer (some ⟨bp, 0, none⟩), .pointer (some ⟨bx, 0, none⟩)]
def c3V (bx bs : Nat) : Value := .func (.func 87) #[] #[.pointer (some ⟨bx, 0, none⟩), .pointer (some ⟨bs, 0, none⟩)]
theorem info_fn : (Tryz.prog.info? 92).map (fun i => (i.zero, i.size, i.bytes)) = some (some .nilFunc, 1, 8) := by kernel_rfl
theorem fnew1 {w : World} {v : Value} {t : TypeId} {j : Nat} {u : Value} (hj : ([v] : List Value)[j]? = some u) : (w.alloc (.cells #[v] t)).cell? ((⟨w.heap.size, 0, none⟩ : Addr).add j) = some u := by
  match j, hj with
  | 0, hj => simp at hj; subst hj; simp [Addr.add]
  | j + 1, hj => simp at hj
theorem fown1 {w : World} {B e : Nat} {v : Value} {xs : List Value} (h : w.ownsRow B e 1 v 1 xs) : ∃ g c, v = .slice (some ⟨g, 0, none⟩) 1 c ∧ 1 ≤ c ∧ c ≤ maxLen ∧ B ≤ g ∧ g < w.heap.size ∧ ∀ j u, xs[j]? = some u → w.cell? ⟨g, j, none⟩ = some u := by
  have hc := h
  obtain ⟨hl, ⟨rfl, h0⟩ | ⟨g, c, cur, rfl, hB, hblk, hn, hm, -⟩⟩ := h
  · omega
  · have hlt : g < w.heap.size := by
      rcases Nat.lt_or_ge g w.heap.size with h | h
      · exact h
      · rw [Array.getElem?_eq_none h] at hblk; simp at hblk
    exact ⟨g, c, rfl, hn, hm, hB, hlt, fun j u hu => by have := hc.cells rfl j u hu; rw [Addr.add_lit, Nat.zero_add] at this; exact this⟩
theorem fgrown {w w' : World} (h : w.grownBy w' none) : Below w.heap.size w w' := ⟨h.os, h.tape, h.output, h.size, fun k hk => h.block k hk (by simp)⟩
section
variable {G : Nat → Prop} {w : World} {A : Ad} {V : Wv} {q n c : Nat} {a : Option Addr} {key : ByteArray} {t b k s ref : Int} {r : Bool} {pl ld : Value}
theorem fd_over_nil (w : World) : Calls Tryz.prog 13 #[.pointer none] w fun e w' => e = .returned (.bool true) ∧ w = w' := by
  go_enter Tryz.func13, Tryz.ntmps13
  go_wp2_with fail
  go_ret
  exact ⟨rfl, rfl⟩
theorem fd_over (h : Ob w q (fdC key t pl (.slice a n c) b k s ref)) (hb : ((n : Int) == 0) = r) : Calls Tryz.prog 13 #[.pointer (some ⟨q, 0, none⟩)] w fun e w' => e = .returned (.bool r) ∧ w = w' := by
  have c0 := h.at_ 3 _ rfl
  have hb' : decide (n = 0) = r := by rw [← hb]; cases n <;> rfl
  have HB := Lib.hid hb
  have HB' := Lib.hid hb'
  clear h hb hb'
  go_enter Tryz.func13, Tryz.ntmps13
  go_wp2_with fail
  go_ret
  exact ⟨by first | (rw [← HB.out]; rfl) | (rw [← HB'.out]; rfl) | (rw [← HB.out]; simp), rfl⟩
theorem fd_word_nil (w : World) : Calls Tryz.prog 15 #[.pointer none] w fun e w' => e = .returned (.int .u64 0) ∧ w = w' := by
  go_enter Tryz.func15, Tryz.ntmps15
  go_wp2_with fail
  go_ret
  exact ⟨rfl, rfl⟩
theorem fd_word (h : Ob w q (fdC key t pl (.slice a 0 c) b k s ref)) : Calls Tryz.prog 15 #[.pointer (some ⟨q, 0, none⟩)] w fun e w' => e = .returned (.int .u64 t) ∧ w = w' := by
  have c1 := h.at_ 1 _ rfl
  have C := Lib.hid (fd_over (r := true) h rfl)
  clear h
  go_enter Tryz.func15, Tryz.ntmps15
  go_wp2_with (go_at_call 13; ((with_reducible refine C.out.mono ?_); rintro e w1 ⟨rfl, rfl⟩))
  go_ret
  exact ⟨rfl, rfl⟩
theorem fd_word_n (h : Ob w q (fdC key t pl (.slice a n c) b k s ref)) (hn : ((n : Int) == 0) = false) : Calls Tryz.prog 15 #[.pointer (some ⟨q, 0, none⟩)] w fun e w' => e = .returned (.int .u64 0) ∧ w = w' := by
  have C := Lib.hid (fd_over (r := false) h hn)
  clear h hn
  go_enter Tryz.func15, Tryz.ntmps15
  go_wp2_with (go_at_call 13; ((with_reducible refine C.out.mono ?_); rintro e w1 ⟨rfl, rfl⟩))
  go_ret
  exact ⟨rfl, rfl⟩
/-- What was got. -/
def gotF (b k s r : Int) : Value := .tuple #[.agg #[.int .i64 b, .int .i64 k, .int .i64 s], .int .i64 r]
set_option maxRecDepth 100000 in
theorem fd_got_nil (w : World) : Calls Tryz.prog 12 #[.pointer none] w fun e w' => e = .returned (gotF 0 0 0 0) ∧ Below w.heap.size w w' := by
  go_enter Tryz.func12, Tryz.ntmps12
  go_wp2_with fail
  exact bodyPost_ret (v := gotF 0 0 0 0) (by simp [results, Tryz.results12, go_sem, gotF]) rfl ⟨rfl, (Below.refl _ _).alloc (Nat.le_refl _) _⟩
set_option maxHeartbeats 1000000 in
set_option maxRecDepth 100000 in
theorem fd_got (h : Ob w q (fdC key t pl (.slice a 0 c) b k s ref)) : Calls Tryz.prog 12 #[.pointer (some ⟨q, 0, none⟩)] w fun e w' => e = .returned (gotF b k s ref) ∧ Below w.heap.size w w' := by
  have hba : Below w.heap.size w (w.alloc (.cells #[.int .i64 0, .int .i64 0, .int .i64 0] 41)) := (Below.refl _ _).alloc (Nat.le_refl _) _
  have UP : ∀ {p : Addr} {v : Value}, w.cell? p = some v → (w.alloc (.cells #[.int .i64 0, .int .i64 0, .int .i64 0] 41)).cell? p = some v := fun {p v} hc => (hba.cell (World.block_lt_of_cell? _ _ hc)).trans hc
  have hbb : Below w.heap.size w (w.alloc (.cells #[.int .i64 b, .int .i64 k, .int .i64 s] 41)) := (Below.refl _ _).alloc (Nat.le_refl _) _
  have x4 := UP (h.at_ 4 _ rfl)
  have x5 := UP (h.at_ 5 _ rfl)
  have x6 := UP (h.at_ 6 _ rfl)
  have x7 := UP (h.at_ 7 _ rfl)
  have y7 : (w.alloc (.cells #[.int .i64 b, .int .i64 k, .int .i64 s] 41)).cell? ⟨q, 7, none⟩ = some (.int .i64 ref) := (hbb.cell (World.block_lt_of_cell? _ _ (h.at_ 7 _ rfl))).trans (h.at_ 7 _ rfl)
  have C := Lib.hid (fd_over (r := true) (h.new hba) rfl)
  clear h hba UP hbb
  go_enter Tryz.func12, Tryz.ntmps12
  go_upto_region 3 with (go_at_call 13; ((with_reducible refine C.out.mono ?_); rintro e w1 ⟨rfl, hw1⟩; subst hw1))
  go_region
  go_wp2_with fail
  exact bodyPost_ret (v := gotF b k s ref) (by simp [results, Tryz.results12, go_sem, gotF]) rfl ⟨rfl, ((Below.refl _ _).alloc (Nat.le_refl _) _).drew⟩
set_option maxHeartbeats 1000000 in
set_option maxRecDepth 100000 in
theorem fd_got_n (h : Ob w q (fdC key t pl (.slice a n c) b k s ref)) (hn : ((n : Int) == 0) = false) : Calls Tryz.prog 12 #[.pointer (some ⟨q, 0, none⟩)] w fun e w' => e = .returned (gotF 0 0 0 0) ∧ Below w.heap.size w w' := by
  have C := Lib.hid (fun W (hb : Below w.heap.size w W) => fd_over (r := false) (h.new hb) hn)
  clear h hn
  go_enter Tryz.func12, Tryz.ntmps12
  go_wp2_with (go_at_call 13; (refine (C.out _ ((Below.refl _ _).alloc (Nat.le_refl _) _)).mono ?_); rintro e w1 ⟨rfl, hw1⟩; subst hw1)
  exact bodyPost_ret (v := gotF 0 0 0 0) (by simp [results, Tryz.results12, go_sem, gotF]) rfl ⟨rfl, (Below.refl _ _).alloc (Nat.le_refl _) _⟩
theorem fd_st_nil (w : World) (x : Value) : Calls Tryz.prog 14 #[.pointer none, x] w fun e w' => e = .returned (.bool true) ∧ w = w' := by
  go_enter Tryz.func14, Tryz.ntmps14
  go_wp2_with (go_at_call 13; ((with_reducible refine (fd_over_nil _).mono ?_); rintro e w1 ⟨rfl, rfl⟩))
  go_ret
  exact ⟨rfl, rfl⟩
theorem fd_st_over (h : Ob w q (fdC key t pl (.slice a 0 c) b k s ref)) (x : Value) : Calls Tryz.prog 14 #[.pointer (some ⟨q, 0, none⟩), x] w fun e w' => e = .returned (.bool true) ∧ w = w' := by
  have C1 := Lib.hid (fd_over (r := true) h rfl)
  clear h
  go_enter Tryz.func14, Tryz.ntmps14
  go_wp2_with (go_at_call 13; ((with_reducible refine C1.out.mono ?_); rintro e w1 ⟨rfl, rfl⟩))
  go_ret
  exact ⟨rfl, rfl⟩
theorem fd_st_no (h : Ob w q (fdC key t pl (.slice a n c) b k s ref)) (hn : ((n : Int) == 0) = false) : Calls Tryz.prog 14 #[.pointer (some ⟨q, 0, none⟩), .pointer none] w fun e w' => e = .returned (.bool false) ∧ w = w' := by
  have C1 := Lib.hid (fd_over (r := false) h hn)
  clear h hn
  go_enter Tryz.func14, Tryz.ntmps14
  go_wp2_with (go_at_call 13; ((with_reducible refine C1.out.mono ?_); rintro e w1 ⟨rfl, rfl⟩))
  go_ret
  exact ⟨rfl, rfl⟩
/-- One more load: where there is none, with no room. -/
theorem fd_await (h : Ob w q (fdC key t pl (.slice a 0 0) b k s ref)) (f : FuncId) (C : Array Value) :
    Calls Tryz.prog 48 #[.pointer (some ⟨q, 0, none⟩), .func (.func f) #[] C] w fun e w' => e = .returned (.tuple #[]) ∧ ∃ g c, Ob w' q (fdC key t pl (.slice (some ⟨g, 0, none⟩) 1 c) b k s ref) ∧ w'.cell? ⟨g, 0, none⟩ = some (.func (.func f) #[] C) ∧ (w.heap.size ≤ g ∧ g < w'.heap.size) ∧ 1 ≤ c ∧ Keeps (fun j => j = q) w w' := by
  obtain ⟨i0, hi, hz0, hz1, hz2⟩ := info_parts info_fn
  have x3 := h.at_ 3 _ rfl
  have H := Lib.hid h
  clear h
  go_enter Tryz.func48, Tryz.ntmps48
  go_wp2_with (at_builtin; refine wpList_append_grows _ rfl (.tmp 8) (.tmp 10) 53 rfl 92 i0 .nilFunc 1 8 Tryz.underlying53 hi hz0 hz1 hz2 rfl (by decide) a 0 0 [] rfl (fun _ => ⟨rfl, rfl⟩) rfl (by intro b _ j u hj; simp at hj) ⟨w.heap.size, 0, none⟩ 1 1 [.func (.func f) #[] C] rfl rfl (by intro j u hj; exact fnew1 hj) (by simp [Value.oneCell']) (by decide) (by unfold maxLen; omega) (by omega) ?_; intro v1 w1 hown hgr; obtain ⟨g, c, hv, hc, hcm, hB, hl, hat⟩ := fown1 hown; subst hv; have b1 : Below w.heap.size w w1 := (((Below.refl _ _).alloc (Nat.le_refl _) _).trans ((fgrown hgr).mono (by simp))); have o1 := H.out.new b1; clear x3; have x3 := o1.at_ 3 _ rfl; have z3 := o1.fz 3 (by show 3 < 8; decide); have O1 := Lib.hid (And.intro o1 (And.intro b1 (And.intro hc (And.intro hl (And.intro (hat 0 _ rfl) hB))))); clear hown hgr hat hc hcm hB hl b1 o1)
  obtain ⟨o1, b1, hc, hl, hg, hB⟩ := O1.out
  have o2 := o1.set 3 (.slice (some ⟨g, 0, none⟩) 1 c) (by show 3 < 8; decide) (C' := fdC key t pl (.slice (some ⟨g, 0, none⟩) 1 c) b k s ref) rfl
  have ks : Keeps (fun j => j = q) w (w1.setCell ⟨q, 3, none⟩ (.slice (some ⟨g, 0, none⟩) 1 c)) := Keeps.setCell (S := fun j => j = q) (Keeps.of_new b1) (p := ⟨q, 3, none⟩) (.inl rfl) _
  have hB' : w.heap.size ≤ g := by simp at hB; omega
  have hgq : g ≠ q := by have := H.out.lt; omega
  have FIN := Lib.hid (And.intro o2 (And.intro ((World.cell?_setCell_other _ ⟨q, 3, none⟩ ⟨g, 0, none⟩ (.slice (some ⟨g, 0, none⟩) 1 c) (by intro e; injection e with e _; exact hgq e.symm)).trans hg) (And.intro hB' (And.intro (show g < (w1.setCell ⟨q, 3, none⟩ (.slice (some ⟨g, 0, none⟩) 1 c)).heap.size by simpa [World.setCell] using hl) (And.intro hc ks)))))
  clear o1 b1 hc hl hg hB o2 ks hB' hgq O1
  go_end0
  exact ⟨rfl, g, c, FIN.out.1, FIN.out.2.1, ⟨FIN.out.2.2.1, FIN.out.2.2.2.1⟩, FIN.out.2.2.2.2.1, FIN.out.2.2.2.2.2⟩
end
end Go.Proofs.YtodppilfpemepaaGreat
/- Next: Finds: the program's; how one begins; a step, by what comes next. -/
namespace Go.Proofs.YtodppilfpemepaaGreat
open Go.RowKit Go.Maps
set_option linter.unusedVariables false
theorem fd_newat {W : World} {n i : Nat} {C : Array Value} {T : TypeId} {v : Value} (hn : n = W.heap.size) (h : C[i]? = some v) : (W.alloc (.cells C T)).cell? ⟨n, i, none⟩ = some v := by
  subst hn
  simpa using h
theorem fd_ob {W : World} {C : Array Value} {T : TypeId} {L : List Value} {n : Nat} (hn : n = W.heap.size) (hL : L = C.toList) : Ob (W.alloc (.cells C T)) n L := by
  subst hn hL
  exact ob_new rfl
theorem fd_bs {a w : World} {o : Obj} (h : Below a.heap.size a w) : Below a.heap.size a (w.alloc o) := h.alloc h.size o
/-- What a new one leaves. -/
def NwFd (key : ByteArray) (w : World) (e : Ending) (w' : World) : Prop := ∃ q bx bk g c, e = .returned (.pointer (some ⟨q, 0, none⟩)) ∧ Ob w' q (fdC key 0 (.slice none 0 0) (.slice (some ⟨g, 0, none⟩) 1 c) 0 0 0 0) ∧ (w'.cell? ⟨g, 0, none⟩ = some (c1V bx bk) ∧ w'.cell? ⟨bx, 0, none⟩ = some (.pointer (some ⟨q, 0, none⟩)) ∧ w'.cell? ⟨bk, 0, none⟩ = some (.string key)) ∧ (w.heap.size ≤ q ∧ w.heap.size ≤ bx ∧ w.heap.size ≤ bk ∧ w.heap.size ≤ g) ∧ (g ≠ q ∧ bx ≠ q ∧ bk ≠ q) ∧ 1 ≤ c ∧ Below w.heap.size w w'
set_option maxHeartbeats 1000000 in
set_option maxRecDepth 100000 in
theorem newFind (key : ByteArray) (w : World) : Calls Tryz.prog 17 #[.string key] w (NwFd key w) := by
  go_enter Tryz.func17, Tryz.ntmps17
  go_upto_region 2 with (fail)
  generalize hW1 : World.alloc w _ = W1
  generalize hW2 : World.alloc W1 _ = W2
  generalize hW3 : World.alloc W2 _ = W3
  obtain ⟨H, hH⟩ : ∃ H, H = w.heap.size := ⟨_, rfl⟩
  have z1 : W1.heap.size = H + 1 := by rw [← hW1, hH]; simp
  have z2 : W2.heap.size = H + 1 + 1 := by rw [← hW2]; simp [z1]
  have b1 : Below w.heap.size w W1 := by rw [← hW1]; exact fd_bs (Below.refl _ _)
  have b2 : Below W1.heap.size W1 W2 := by rw [← hW2]; exact fd_bs (Below.refl _ _)
  have b3 : Below W2.heap.size W2 W3 := by rw [← hW3]; exact fd_bs (Below.refl _ _)
  have o2 : Ob W2 (H + 1) (fdC key 0 (.slice none 0 0) (.slice none 0 0) 0 0 0 0) := by rw [← hW2]; exact fd_ob z1.symm rfl
  have ek : W1.cell? ⟨H, 0, none⟩ = some (.string key) := by rw [← hW1, hH]; exact fd_newat rfl rfl
  have ex : W3.cell? ⟨H + 1 + 1, 0, none⟩ = some (.pointer (some ⟨H + 1, 0, none⟩)) := by rw [← hW3, hH]; exact fd_newat (by rw [z2, hH]) rfl
  have o3 := o2.new b3
  have ek3 := ((below_then b2 b3).cell (p := ⟨H, 0, none⟩) (World.block_lt_of_cell? _ _ ek)).trans ek
  have HB := Lib.hid (below_then (below_then b1 b2) b3)
  have CA := Lib.hid (fd_await o3 49 #[.pointer (some ⟨H + 1 + 1, 0, none⟩), .pointer (some ⟨H, 0, none⟩)])
  have HE := Lib.hid (And.intro ek3 (And.intro ex (And.intro hH (show W3.heap.size = H + 1 + 1 + 1 by rw [← hW3]; simp [z2]))))
  subst hH
  clear hW1 hW2 hW3 z1 z2 b1 b2 b3 o2 o3 ek ek3
  go_upto_region 3 with (go_at_call 48; (refine CA.out.mono ?_); rintro e w4 ⟨rfl, g, c, o4, cg, ⟨g1, g2⟩, hc, k4⟩; clear ex; have ex := k4.cell (p := ⟨w.heap.size + 1 + 1, 0, none⟩) (by show ¬ (w.heap.size + 1 + 1 = w.heap.size + 1); omega) HE.out.2.1; have ek := k4.cell (p := ⟨w.heap.size, 0, none⟩) (by show ¬ (w.heap.size = w.heap.size + 1); omega) HE.out.1; have H4 := Lib.hid (And.intro o4 (And.intro cg (And.intro ek (And.intro (And.intro g1 g2) (And.intro hc k4))))); clear o4 cg ek g1 g2 hc k4)
  go_wp2_with fail
  go_ret
  obtain ⟨o4, cg, ek, ⟨g1, g2⟩, hc, k4⟩ := H4.out
  have hs := HE.out.2.2.2
  exact ⟨_, _, _, g, c, rfl, o4, ⟨cg, ex, ek⟩, ⟨by omega, by omega, Nat.le_refl _, by omega⟩, ⟨by omega, by omega, by omega⟩, hc, HB.out.trans (k4.to_below (B := w.heap.size) (fun k hk e => by omega) (by omega))⟩
section
variable {G : Nat → Prop} {w : World} {A : Ad} {V : Wv} {q g c pn : Nat} {key : ByteArray} {t b k s ref : Int} {r : Bool} {pl ld : Value} {P Q : World → Prop} {b1 b2 : Nat}
set_option maxHeartbeats 2000000 in
set_option maxRecDepth 100000 in
theorem fd_st_c1F (h : Opw G w A V q (fdC key t pl (.slice (some ⟨g, 0, none⟩) 1 c) b k s ref)) (hg : w.cell? ⟨g, 0, none⟩ = some (c1V b1 b2)) (hc : 1 ≤ c)
    (hs : ∀ W ga, Opw G W A V q (fdC key t pl (.slice ga 0 0) b k s ref) → Kp G w W → Calls Tryz.prog 49 #[.pointer (some ⟨A.p, 0, none⟩), .pointer (some ⟨b1, 0, none⟩), .pointer (some ⟨b2, 0, none⟩)] W fun e w' => e = .returned (.tuple #[]) ∧ Q w')
    (hq : ∀ w', Q w' → ∃ pa pc la lc t' b' k' s' r', Ob w' q (fdC key t' (.slice pa pn pc) (.slice la 0 lc) b' k' s' r')) (hpn : 0 < pn)
    (hf : ∀ w', Q w' → Calls Tryz.prog 42 #[.pointer (some ⟨q, 0, none⟩)] w' fun e w'' => e = .returned (.tuple #[]) ∧ P w'')
    (hP : ∀ w', P w' → Calls Tryz.prog 13 #[.pointer (some ⟨q, 0, none⟩)] w' fun e w'' => e = .returned (.bool r) ∧ w' = w'') :
    Calls Tryz.prog 14 #[.pointer (some ⟨q, 0, none⟩), .pointer (some ⟨A.p, 0, none⟩)] w fun e w' => e = .returned (.bool r) ∧ P w' := by
  have CO := Lib.hid (fd_over (r := false) h.ob rfl)
  have x3 := h.ob.at_ 3 _ rfl
  have z3 := h.ob.fz 3 (by show 3 < 8; decide)
  have xg := hg
  unfold c1V at xg
  obtain ⟨h1, k1⟩ := h.set 3 (.slice (some ⟨g, 0, none⟩) 0 0) (by show 3 < 8; decide) (C' := fdC key t pl (.slice (some ⟨g, 0, none⟩) 0 0) b k s ref) rfl
  have hd : Below (w.setCell ⟨q, 3, none⟩ (.slice (some ⟨g, 0, none⟩) 0 0)).heap.size (w.setCell ⟨q, 3, none⟩ (.slice (some ⟨g, 0, none⟩) 0 0)) (w.setCell ⟨q, 3, none⟩ (.slice (some ⟨g, 0, none⟩) 0 0)).drew := (Below.refl _ _).drew
  have CS := Lib.hid (hs _ _ (h1.new hd) (Kp.to k1 (Kp.of hd)))
  have HQ := Lib.hid hq
  have HF := Lib.hid hf
  have HP := Lib.hid hP
  clear hs hq hf hP h hg h1 k1 hd
  go_enter Tryz.func14, Tryz.ntmps14
  go_upto_region 4 with (go_at_call 13; ((with_reducible refine CO.out.mono ?_); rintro e w1 ⟨rfl, rfl⟩))
  go_region
  generalize hW1 : World.drew (World.setCell w _ _) = W1 at *
  clear hW1 x3 z3 xg CO
  go_upto_region 6 with (go_at_call 49; ((with_reducible refine CS.out.mono ?_); rintro e w2 ⟨rfl, h2⟩; have H2 := Lib.hid h2; clear h2))
  obtain ⟨pa, pc, la, lc, t', b', k', s', r', o2⟩ := HQ.out _ H2.out
  have y3 := o2.at_ 3 _ rfl
  have y2 := o2.at_ 2 _ rfl
  have d1 : decide ((0 : Int) < (pn : Int)) = true := decide_eq_true (by omega)
  have d2 : decide (0 < pn) = true := decide_eq_true hpn
  have d3 : decide ((pn : Int) > 0) = true := decide_eq_true (by omega)
  clear o2 CS HQ
  have CF := Lib.hid (HF.out _ H2.out)
  clear HF
  go_wp2_with (first
    | (go_at_call 42; ((with_reducible refine CF.out.mono ?_); rintro e w3 ⟨rfl, h3⟩; have C3 := Lib.hid (HP.out _ h3); have H3 := Lib.hid h3; clear h3 y2 y3))
    | (go_at_call 13; ((with_reducible refine C3.out.mono ?_); rintro e w4 ⟨rfl, rfl⟩)))
  go_ret
  exact ⟨rfl, H3.out⟩
set_option maxHeartbeats 2000000 in
set_option maxRecDepth 100000 in
theorem fd_st_c2F (h : Opw G w A V q (fdC key t pl (.slice (some ⟨g, 0, none⟩) 1 c) b k s ref)) (hg : w.cell? ⟨g, 0, none⟩ = some (c2V b1 b2)) (hc : 1 ≤ c)
    (hs : ∀ W ga, Opw G W A V q (fdC key t pl (.slice ga 0 0) b k s ref) → Kp G w W → Calls Tryz.prog 85 #[.pointer (some ⟨A.p, 0, none⟩), .pointer (some ⟨b1, 0, none⟩), .pointer (some ⟨b2, 0, none⟩)] W fun e w' => e = .returned (.tuple #[]) ∧ Q w')
    (hq : ∀ w', Q w' → ∃ pa pc la lc t' b' k' s' r', Ob w' q (fdC key t' (.slice pa pn pc) (.slice la 0 lc) b' k' s' r')) (hpn : 0 < pn)
    (hf : ∀ w', Q w' → Calls Tryz.prog 42 #[.pointer (some ⟨q, 0, none⟩)] w' fun e w'' => e = .returned (.tuple #[]) ∧ P w'')
    (hP : ∀ w', P w' → Calls Tryz.prog 13 #[.pointer (some ⟨q, 0, none⟩)] w' fun e w'' => e = .returned (.bool r) ∧ w' = w'') :
    Calls Tryz.prog 14 #[.pointer (some ⟨q, 0, none⟩), .pointer (some ⟨A.p, 0, none⟩)] w fun e w' => e = .returned (.bool r) ∧ P w' := by
  have CO := Lib.hid (fd_over (r := false) h.ob rfl)
  have x3 := h.ob.at_ 3 _ rfl
  have z3 := h.ob.fz 3 (by show 3 < 8; decide)
  have xg := hg
  unfold c2V at xg
  obtain ⟨h1, k1⟩ := h.set 3 (.slice (some ⟨g, 0, none⟩) 0 0) (by show 3 < 8; decide) (C' := fdC key t pl (.slice (some ⟨g, 0, none⟩) 0 0) b k s ref) rfl
  have hd : Below (w.setCell ⟨q, 3, none⟩ (.slice (some ⟨g, 0, none⟩) 0 0)).heap.size (w.setCell ⟨q, 3, none⟩ (.slice (some ⟨g, 0, none⟩) 0 0)) (w.setCell ⟨q, 3, none⟩ (.slice (some ⟨g, 0, none⟩) 0 0)).drew := (Below.refl _ _).drew
  have CS := Lib.hid (hs _ _ (h1.new hd) (Kp.to k1 (Kp.of hd)))
  have HQ := Lib.hid hq
  have HF := Lib.hid hf
  have HP := Lib.hid hP
  clear hs hq hf hP h hg h1 k1 hd
  go_enter Tryz.func14, Tryz.ntmps14
  go_upto_region 4 with (go_at_call 13; ((with_reducible refine CO.out.mono ?_); rintro e w1 ⟨rfl, rfl⟩))
  go_region
  generalize hW1 : World.drew (World.setCell w _ _) = W1 at *
  clear hW1 x3 z3 xg CO
  go_upto_region 6 with (go_at_call 85; ((with_reducible refine CS.out.mono ?_); rintro e w2 ⟨rfl, h2⟩; have H2 := Lib.hid h2; clear h2))
  obtain ⟨pa, pc, la, lc, t', b', k', s', r', o2⟩ := HQ.out _ H2.out
  have y3 := o2.at_ 3 _ rfl
  have y2 := o2.at_ 2 _ rfl
  have d1 : decide ((0 : Int) < (pn : Int)) = true := decide_eq_true (by omega)
  have d2 : decide (0 < pn) = true := decide_eq_true hpn
  have d3 : decide ((pn : Int) > 0) = true := decide_eq_true (by omega)
  clear o2 CS HQ
  have CF := Lib.hid (HF.out _ H2.out)
  clear HF
  go_wp2_with (first
    | (go_at_call 42; ((with_reducible refine CF.out.mono ?_); rintro e w3 ⟨rfl, h3⟩; have C3 := Lib.hid (HP.out _ h3); have H3 := Lib.hid h3; clear h3 y2 y3))
    | (go_at_call 13; ((with_reducible refine C3.out.mono ?_); rintro e w4 ⟨rfl, rfl⟩)))
  go_ret
  exact ⟨rfl, H3.out⟩
set_option maxHeartbeats 2000000 in
set_option maxRecDepth 100000 in
theorem fd_st_c2N0 (h : Opw G w A V q (fdC key t pl (.slice (some ⟨g, 0, none⟩) 1 c) b k s ref)) (hg : w.cell? ⟨g, 0, none⟩ = some (c2V b1 b2)) (hc : 1 ≤ c)
    (hs : ∀ W ga, Opw G W A V q (fdC key t pl (.slice ga 0 0) b k s ref) → Kp G w W → Calls Tryz.prog 85 #[.pointer (some ⟨A.p, 0, none⟩), .pointer (some ⟨b1, 0, none⟩), .pointer (some ⟨b2, 0, none⟩)] W fun e w' => e = .returned (.tuple #[]) ∧ Q w')
    (hq : ∀ w', Q w' → ∃ pa pc la lc t' b' k' s' r', Ob w' q (fdC key t' (.slice pa 0 pc) (.slice la 0 lc) b' k' s' r'))
    (hP : ∀ w', Q w' → Calls Tryz.prog 13 #[.pointer (some ⟨q, 0, none⟩)] w' fun e w'' => e = .returned (.bool r) ∧ w' = w'') :
    Calls Tryz.prog 14 #[.pointer (some ⟨q, 0, none⟩), .pointer (some ⟨A.p, 0, none⟩)] w fun e w' => e = .returned (.bool r) ∧ Q w' := by
  have CO := Lib.hid (fd_over (r := false) h.ob rfl)
  have x3 := h.ob.at_ 3 _ rfl
  have z3 := h.ob.fz 3 (by show 3 < 8; decide)
  have xg := hg
  unfold c2V at xg
  obtain ⟨h1, k1⟩ := h.set 3 (.slice (some ⟨g, 0, none⟩) 0 0) (by show 3 < 8; decide) (C' := fdC key t pl (.slice (some ⟨g, 0, none⟩) 0 0) b k s ref) rfl
  have hd : Below (w.setCell ⟨q, 3, none⟩ (.slice (some ⟨g, 0, none⟩) 0 0)).heap.size (w.setCell ⟨q, 3, none⟩ (.slice (some ⟨g, 0, none⟩) 0 0)) (w.setCell ⟨q, 3, none⟩ (.slice (some ⟨g, 0, none⟩) 0 0)).drew := (Below.refl _ _).drew
  have CS := Lib.hid (hs _ _ (h1.new hd) (Kp.to k1 (Kp.of hd)))
  have HQ := Lib.hid hq
  have HP := Lib.hid hP
  clear hs hq hP h hg h1 k1 hd
  go_enter Tryz.func14, Tryz.ntmps14
  go_upto_region 4 with (go_at_call 13; ((with_reducible refine CO.out.mono ?_); rintro e w1 ⟨rfl, rfl⟩))
  go_region
  generalize hW1 : World.drew (World.setCell w _ _) = W1 at *
  clear hW1 x3 z3 xg CO
  go_upto_region 6 with (go_at_call 85; ((with_reducible refine CS.out.mono ?_); rintro e w2 ⟨rfl, h2⟩; have H2 := Lib.hid h2; clear h2))
  obtain ⟨pa, pc, la, lc, t', b', k', s', r', o2⟩ := HQ.out _ H2.out
  have y3 := o2.at_ 3 _ rfl
  have y2 := o2.at_ 2 _ rfl
  clear o2 CS HQ
  have C3 := Lib.hid (HP.out _ H2.out)
  go_wp2_with (go_at_call 13; ((with_reducible refine C3.out.mono ?_); rintro e w4 ⟨rfl, rfl⟩))
  go_ret
  exact ⟨rfl, H2.out⟩
set_option maxHeartbeats 2000000 in
set_option maxRecDepth 100000 in
theorem fd_st_c2N1 (h : Opw G w A V q (fdC key t pl (.slice (some ⟨g, 0, none⟩) 1 c) b k s ref)) (hg : w.cell? ⟨g, 0, none⟩ = some (c2V b1 b2)) (hc : 1 ≤ c)
    (hs : ∀ W ga, Opw G W A V q (fdC key t pl (.slice ga 0 0) b k s ref) → Kp G w W → Calls Tryz.prog 85 #[.pointer (some ⟨A.p, 0, none⟩), .pointer (some ⟨b1, 0, none⟩), .pointer (some ⟨b2, 0, none⟩)] W fun e w' => e = .returned (.tuple #[]) ∧ Q w')
    (hq : ∀ w', Q w' → ∃ pa pc la lc t' b' k' s' r', Ob w' q (fdC key t' (.slice pa pn pc) (.slice la 1 lc) b' k' s' r'))
    (hP : ∀ w', Q w' → Calls Tryz.prog 13 #[.pointer (some ⟨q, 0, none⟩)] w' fun e w'' => e = .returned (.bool r) ∧ w' = w'') :
    Calls Tryz.prog 14 #[.pointer (some ⟨q, 0, none⟩), .pointer (some ⟨A.p, 0, none⟩)] w fun e w' => e = .returned (.bool r) ∧ Q w' := by
  have CO := Lib.hid (fd_over (r := false) h.ob rfl)
  have x3 := h.ob.at_ 3 _ rfl
  have z3 := h.ob.fz 3 (by show 3 < 8; decide)
  have xg := hg
  unfold c2V at xg
  obtain ⟨h1, k1⟩ := h.set 3 (.slice (some ⟨g, 0, none⟩) 0 0) (by show 3 < 8; decide) (C' := fdC key t pl (.slice (some ⟨g, 0, none⟩) 0 0) b k s ref) rfl
  have hd : Below (w.setCell ⟨q, 3, none⟩ (.slice (some ⟨g, 0, none⟩) 0 0)).heap.size (w.setCell ⟨q, 3, none⟩ (.slice (some ⟨g, 0, none⟩) 0 0)) (w.setCell ⟨q, 3, none⟩ (.slice (some ⟨g, 0, none⟩) 0 0)).drew := (Below.refl _ _).drew
  have CS := Lib.hid (hs _ _ (h1.new hd) (Kp.to k1 (Kp.of hd)))
  have HQ := Lib.hid hq
  have HP := Lib.hid hP
  clear hs hq hP h hg h1 k1 hd
  go_enter Tryz.func14, Tryz.ntmps14
  go_upto_region 4 with (go_at_call 13; ((with_reducible refine CO.out.mono ?_); rintro e w1 ⟨rfl, rfl⟩))
  go_region
  generalize hW1 : World.drew (World.setCell w _ _) = W1 at *
  clear hW1 x3 z3 xg CO
  go_upto_region 6 with (go_at_call 85; ((with_reducible refine CS.out.mono ?_); rintro e w2 ⟨rfl, h2⟩; have H2 := Lib.hid h2; clear h2))
  obtain ⟨pa, pc, la, lc, t', b', k', s', r', o2⟩ := HQ.out _ H2.out
  have y3 := o2.at_ 3 _ rfl
  have y2 := o2.at_ 2 _ rfl
  clear o2 CS HQ
  have C3 := Lib.hid (HP.out _ H2.out)
  go_wp2_with (go_at_call 13; ((with_reducible refine C3.out.mono ?_); rintro e w4 ⟨rfl, rfl⟩))
  go_ret
  exact ⟨rfl, H2.out⟩
set_option maxHeartbeats 2000000 in
set_option maxRecDepth 100000 in
theorem fd_st_c3N0 (h : Opw G w A V q (fdC key t pl (.slice (some ⟨g, 0, none⟩) 1 c) b k s ref)) (hg : w.cell? ⟨g, 0, none⟩ = some (c3V b1 b2)) (hc : 1 ≤ c)
    (hs : ∀ W ga, Opw G W A V q (fdC key t pl (.slice ga 0 0) b k s ref) → Kp G w W → Calls Tryz.prog 87 #[.pointer (some ⟨A.p, 0, none⟩), .pointer (some ⟨b1, 0, none⟩), .pointer (some ⟨b2, 0, none⟩)] W fun e w' => e = .returned (.tuple #[]) ∧ Q w')
    (hq : ∀ w', Q w' → ∃ pa pc la lc t' b' k' s' r', Ob w' q (fdC key t' (.slice pa 0 pc) (.slice la 0 lc) b' k' s' r'))
    (hP : ∀ w', Q w' → Calls Tryz.prog 13 #[.pointer (some ⟨q, 0, none⟩)] w' fun e w'' => e = .returned (.bool r) ∧ w' = w'') :
    Calls Tryz.prog 14 #[.pointer (some ⟨q, 0, none⟩), .pointer (some ⟨A.p, 0, none⟩)] w fun e w' => e = .returned (.bool r) ∧ Q w' := by
  have CO := Lib.hid (fd_over (r := false) h.ob rfl)
  have x3 := h.ob.at_ 3 _ rfl
  have z3 := h.ob.fz 3 (by show 3 < 8; decide)
  have xg := hg
  unfold c3V at xg
  obtain ⟨h1, k1⟩ := h.set 3 (.slice (some ⟨g, 0, none⟩) 0 0) (by show 3 < 8; decide) (C' := fdC key t pl (.slice (some ⟨g, 0, none⟩) 0 0) b k s ref) rfl
  have hd : Below (w.setCell ⟨q, 3, none⟩ (.slice (some ⟨g, 0, none⟩) 0 0)).heap.size (w.setCell ⟨q, 3, none⟩ (.slice (some ⟨g, 0, none⟩) 0 0)) (w.setCell ⟨q, 3, none⟩ (.slice (some ⟨g, 0, none⟩) 0 0)).drew := (Below.refl _ _).drew
  have CS := Lib.hid (hs _ _ (h1.new hd) (Kp.to k1 (Kp.of hd)))
  have HQ := Lib.hid hq
  have HP := Lib.hid hP
  clear hs hq hP h hg h1 k1 hd
  go_enter Tryz.func14, Tryz.ntmps14
  go_upto_region 4 with (go_at_call 13; ((with_reducible refine CO.out.mono ?_); rintro e w1 ⟨rfl, rfl⟩))
  go_region
  generalize hW1 : World.drew (World.setCell w _ _) = W1 at *
  clear hW1 x3 z3 xg CO
  go_upto_region 6 with (go_at_call 87; ((with_reducible refine CS.out.mono ?_); rintro e w2 ⟨rfl, h2⟩; have H2 := Lib.hid h2; clear h2))
  obtain ⟨pa, pc, la, lc, t', b', k', s', r', o2⟩ := HQ.out _ H2.out
  have y3 := o2.at_ 3 _ rfl
  have y2 := o2.at_ 2 _ rfl
  clear o2 CS HQ
  have C3 := Lib.hid (HP.out _ H2.out)
  go_wp2_with (go_at_call 13; ((with_reducible refine C3.out.mono ?_); rintro e w4 ⟨rfl, rfl⟩))
  go_ret
  exact ⟨rfl, H2.out⟩
end
end Go.Proofs.YtodppilfpemepaaGreat
/- Next: An operation beside a world, with new blocks; lists that are only read. -/
namespace Go.Proofs.YtodppilfpemepaaGreat
open Go.RowKit Go.Maps
set_option linter.unusedVariables false
/-- A list that is only read, in a block of U. -/
def Q0 (w : World) (U : Nat → Prop) (v : Value) (n size : Nat) (xs : List Value) : Prop := xs.length = n * size ∧ ((v = .slice none 0 0 ∧ n = 0) ∨ ∃ g o c, v = .slice (some ⟨g, o, none⟩) n c ∧ n ≤ c ∧ c ≤ maxLen ∧ U g ∧ ∀ j u, xs[j]? = some u → w.cell? ⟨g, o + j, none⟩ = some u)
theorem Q0.nil (w : World) (U : Nat → Prop) (size : Nat) : Q0 w U (.slice none 0 0) 0 size [] := ⟨by simp, .inl ⟨rfl, rfl⟩⟩
theorem Q0.keep {w W : World} {U T : Nat → Prop} {v : Value} {n size : Nat} {xs : List Value} (h : Q0 w U v n size xs) (hk : Keeps T w W) (hT : ∀ g, U g → ¬ T g) : Q0 W U v n size xs := by
  obtain ⟨hl, h | ⟨g, o, c, rfl, hn, hc, hu, hx⟩⟩ := h
  · exact ⟨hl, .inl h⟩
  · exact ⟨hl, .inr ⟨g, o, c, rfl, hn, hc, hu, fun j u hj => hk.cell (p := ⟨g, o + j, none⟩) (hT g hu) (hx j u hj)⟩⟩
theorem Q0.mono {w : World} {U U' : Nat → Prop} {v : Value} {n size : Nat} {xs : List Value} (h : Q0 w U v n size xs) (hU : ∀ g, U g → U' g) : Q0 w U' v n size xs := by
  obtain ⟨hl, h | ⟨g, o, c, rfl, hn, hc, hu, hx⟩⟩ := h
  · exact ⟨hl, .inl h⟩
  · exact ⟨hl, .inr ⟨g, o, c, rfl, hn, hc, hU g hu, hx⟩⟩
theorem Q0.of_lst {w : World} {U : Nat → Prop} {B n size : Nat} {v : Value} {xs : List Value} (h : Lst w B size v n xs) (hU : ∀ g, B ≤ g → g < w.heap.size → U g) : Q0 w U v n size xs := by
  obtain ⟨hl, h | ⟨g, c, rfl, hB, hg, hn, hc, hx⟩⟩ := h
  · exact ⟨hl, .inl h⟩
  · exact ⟨hl, .inr ⟨g, 0, c, rfl, hn, hc, hU g hB hg, fun j u hj => by rw [Nat.zero_add]; exact (hx j u hj).1⟩⟩
theorem rowsP_twoF {L : List Pv} {i : Nat} {b k : Int} (h : L[i]? = some (b, k)) : (rowsP L)[i * 2]? = some (.int .i64 b) ∧ (rowsP L)[i * 2 + 1]? = some (.int .i64 k) := by
  obtain ⟨hi, e⟩ := List.getElem?_eq_some_iff.1 h
  have r0 := rowsP_at L i 0 hi (by decide)
  have r1 := rowsP_at L i 1 hi (by decide)
  rw [e] at r0 r1
  exact ⟨r0, r1⟩
theorem Q0.at_ {w : World} {U : Nat → Prop} {v : Value} {n size i : Nat} {xs : List Value} (h : Q0 w U v n size xs) (hi : i < n) : ∃ g o c, v = .slice (some ⟨g, o, none⟩) n c ∧ n ≤ c ∧ c ≤ maxLen ∧ U g ∧ ∀ j u, xs[j]? = some u → w.cell? ⟨g, o + j, none⟩ = some u := by
  obtain ⟨hl, ⟨rfl, h0⟩ | h⟩ := h
  · omega
  · exact h
section
variable {G T : Nat → Prop} {w W : World} {A : Ad} {V : Wv} {q : Nat} {C : List Value}
theorem qw_keep (h : Opw G w A V q C) (hk : Keeps T w W) (hT : ∀ k, T k → G k) : Opw G W A V q C := by
  obtain ⟨S, h1, h2, h3, h4, h5, h6⟩ := h
  exact ⟨S, h1.keep hk (fun k s t => h2 k (hT k t) s), h2, h3, h4.keep hk (fun t => h5 (hT q t)), h5, fun k g => Nat.lt_of_lt_of_le (h6 k g) hk.size⟩
theorem qw_addN (h : Opw G w A V q C) (hb : Below w.heap.size w W) : Opw (fun k => G k ∨ (w.heap.size ≤ k ∧ k < W.heap.size)) W A V q C := by
  obtain ⟨S, h1, h2, h3, h4, h5, h6⟩ := h
  refine ⟨S, h1.new hb, fun k g s => ?_, h3, h4.new hb, fun g => ?_, fun k g => ?_⟩
  · rcases g with g | g
    · exact h2 k g s
    · have := h1.lt _ s; omega
  · rcases g with g | g
    · exact h5 g
    · have := h4.lt; omega
  · rcases g with g | g
    · exact Nat.lt_of_lt_of_le (h6 k g) hb.size
    · exact g.2
theorem qw_less {G' : Nat → Prop} (h : Opw G w A V q C) (hG : ∀ k, G' k → G k) : Opw G' w A V q C := by
  obtain ⟨S, h1, h2, h3, h4, h5, h6⟩ := h
  exact ⟨S, h1, fun k g => h2 k (hG k g), h3, h4, fun g => h5 (hG q g), fun k g => h6 k (hG k g)⟩
/-- The same, with all blocks from B on. -/
def Qw (G : Nat → Prop) (B : Nat) (w : World) (A : Ad) (V : Wv) (q : Nat) (C : List Value) : Prop := (B ≤ w.heap.size ∧ q < B) ∧ Opw (fun k => G k ∨ (B ≤ k ∧ k < w.heap.size)) w A V q C
theorem Qw.of (h : Opw G w A V q C) : Qw G w.heap.size w A V q C := ⟨⟨Nat.le_refl _, h.ob.lt⟩, qw_addN h (Below.refl _ _)⟩
theorem Qw.ext {B : Nat} (h : Qw G B w A V q C) (hb : Below w.heap.size w W) : Qw G B W A V q C := by
  obtain ⟨⟨h1, hq⟩, h2⟩ := h
  refine ⟨⟨Nat.le_trans h1 hb.size, hq⟩, qw_less (qw_addN h2 hb) (fun k g => ?_)⟩
  rcases g with g | g
  · exact .inl (.inl g)
  · rcases Nat.lt_or_ge k w.heap.size with l | l
    · exact .inl (.inr ⟨g.1, l⟩)
    · exact .inr ⟨l, g.2⟩
theorem Qw.set {B : Nat} {C' : List Value} (h : Qw G B w A V q C) (i : Nat) (u : Value) (hi : i < C.length) (hC : C' = C.set i u) : Qw G B (w.setCell ⟨q, i, none⟩ u) A V q C' ∧ Kp G w (w.setCell ⟨q, i, none⟩ u) := by
  obtain ⟨⟨h1, hq⟩, h2⟩ := h
  have hs : (w.setCell ⟨q, i, none⟩ u).heap.size = w.heap.size := by simp [World.setCell]
  obtain ⟨h3, k3⟩ := h2.set i u hi hC
  exact ⟨⟨⟨by rw [hs]; exact h1, hq⟩, by rw [hs]; exact h3⟩, k3.less (fun k g => .inl g)⟩
theorem Qw.op {B : Nat} (h : Qw G B w A V q C) : Opw G w A V q C := qw_less h.2 (fun k g => .inl g)
/-- A list that is only read, in a block from B on. -/
def Qb (w : World) (B : Nat) (v : Value) (n size : Nat) (xs : List Value) : Prop := Q0 w (fun k => B ≤ k ∧ k < w.heap.size) v n size xs
theorem Qb.ext {B n size : Nat} {v : Value} {xs : List Value} (h : Qb w B v n size xs) (hb : Below w.heap.size w W) : Qb W B v n size xs :=
  (Q0.keep h (Keeps.of_new (S := fun _ => False) hb) (fun _ _ s => s)).mono (fun g u => ⟨u.1, Nat.lt_of_lt_of_le u.2 hb.size⟩)
theorem Qb.set {B n size i : Nat} {v : Value} {xs : List Value} (h : Qb w B v n size xs) (hq : q < B) (u : Value) : Qb (w.setCell ⟨q, i, none⟩ u) B v n size xs := by
  have hs : (w.setCell ⟨q, i, none⟩ u).heap.size = w.heap.size := by simp [World.setCell]
  unfold Qb
  rw [hs]
  exact Q0.keep h (Keeps.setCell (S := fun k => k = q) (Keeps.refl _ w) (p := ⟨q, i, none⟩) (.inl rfl) u) (fun g u e => by omega)
theorem Qb.of_lst {B B' n size : Nat} {v : Value} {xs : List Value} (h : Lst w B' size v n xs) (hB : B ≤ B') : Qb w B v n size xs := Q0.of_lst h (fun g l1 l2 => ⟨Nat.le_trans hB l1, l2⟩)
theorem qw_lt (h : Opw G w A V q C) : ∀ k, G k → k < w.heap.size := by obtain ⟨S, h1, h2, h3, h4, h5, h6⟩ := h; exact h6
theorem qw_nq (h : Opw G w A V q C) : ¬ G q := by obtain ⟨S, h1, h2, h3, h4, h5, h6⟩ := h; exact h5
end
end Go.Proofs.YtodppilfpemepaaGreat
/- Next: Finds: the program's; the next place's load; the first load. -/
namespace Go.Proofs.YtodppilfpemepaaGreat
open Go.RowKit Go.Maps
set_option linter.unusedVariables false
section
variable {G : Nat → Prop} {w : World} {A : Ad} {V : Wv} {q gp bx bk : Nat} {key : ByteArray} {t t0 z b k s ref pb pk : Int} {pl ld : Value} {la : Option Addr}
/-- What is behind a fill: a load of the place's tags. -/
def FdF (w : World) (q : Nat) (key : ByteArray) (t : Int) (pl : Value) (b k s ref pb pk : Int) (e : Ending) (w' : World) : Prop := e = .returned (.tuple #[]) ∧ ∃ bp bx g c, Ob w' q (fdC key t pl (.slice (some ⟨g, 0, none⟩) 1 c) b k s ref) ∧ (w'.cell? ⟨g, 0, none⟩ = some (c2V bp bx) ∧ (w'.cell? ⟨bp, 0, none⟩ = some (.int .i64 pb) ∧ w'.cell? ⟨bp, 1, none⟩ = some (.int .i64 pk)) ∧ w'.cell? ⟨bx, 0, none⟩ = some (.pointer (some ⟨q, 0, none⟩))) ∧ ((w.heap.size ≤ bp ∧ bp < w'.heap.size) ∧ (w.heap.size ≤ bx ∧ bx < w'.heap.size) ∧ w.heap.size ≤ g ∧ g < w'.heap.size) ∧ 1 ≤ c ∧ Keeps (fun j => j = q) w w'
set_option maxHeartbeats 2000000 in
set_option maxRecDepth 100000 in
theorem fd_fill2 (h : Ob w q (fdC key t (.slice (some ⟨gp, 0, none⟩) 2 2) (.slice la 0 0) b k s ref)) (y1 : w.cell? ⟨gp, 0, none⟩ = some (.int .i64 pb)) (y2 : w.cell? ⟨gp, 1, none⟩ = some (.int .i64 pk)) :
    Calls Tryz.prog 42 #[.pointer (some ⟨q, 0, none⟩)] w (FdF w q key t (.slice (some ⟨gp, 2, none⟩) 1 1) b k s ref pb pk) := by
  have H0 := Lib.hid h
  have hql := h.lt
  clear h
  go_enter Tryz.func42, Tryz.ntmps42
  go_upto_region 1 with (fail)
  generalize hW1 : World.alloc w _ = W1
  obtain ⟨H, hH⟩ : ∃ H, H = w.heap.size := ⟨_, rfl⟩
  have z1 : W1.heap.size = H + 1 := by rw [← hW1, hH]; simp
  have b1 : Below w.heap.size w W1 := by rw [← hW1]; exact fd_bs (Below.refl _ _)
  have xb : W1.cell? ⟨H, 0, none⟩ = some (.pointer (some ⟨q, 0, none⟩)) := by rw [← hW1]; exact fd_newat hH rfl
  have o1 := H0.out.new b1
  have x2 := o1.at_ 2 _ rfl
  have x4 := (b1.cell (p := ⟨gp, 0, none⟩) (World.block_lt_of_cell? _ _ y1)).trans y1
  have x5 := (b1.cell (p := ⟨gp, 1, none⟩) (World.block_lt_of_cell? _ _ y2)).trans y2
  rw [← hH] at hql ⊢
  have HB1 := Lib.hid (And.intro b1 (And.intro o1 (And.intro z1 (And.intro hH hql))))
  clear hW1 b1 o1 y1 y2 z1 hH hql H0
  go_upto_region 2 with (fail)
  have z1 := HB1.out.2.2.1
  generalize hW2 : World.alloc W1 _ = W2
  have b2 : Below W1.heap.size W1 W2 := by rw [← hW2]; exact fd_bs (Below.refl _ _)
  have p0 : W2.cell? ⟨H + 1, 0, none⟩ = some (.int .i64 pb) := by rw [← hW2]; exact fd_newat z1.symm rfl
  have p1 : W2.cell? ⟨H + 1, 1, none⟩ = some (.int .i64 pk) := by rw [← hW2]; exact fd_newat z1.symm rfl
  have z2 : W2.heap.size = H + 1 + 1 := by rw [← hW2]; simp [z1]
  have o2 := HB1.out.2.1.new b2
  have xb2 := (b2.cell (p := ⟨H, 0, none⟩) (World.block_lt_of_cell? _ _ xb)).trans xb
  clear x2 xb x4 x5
  have x2 := o2.at_ 2 _ rfl
  have zz2 := o2.fz 2 (by show 2 < 8; decide)
  have o3 := o2.set 2 (.slice (some ⟨gp, 2, none⟩) 1 1) (by show 2 < 8; decide) (C' := fdC key t (.slice (some ⟨gp, 2, none⟩) 1 1) (.slice la 0 0) b k s ref) rfl
  have HB2 := Lib.hid (And.intro b2 (And.intro z2 (And.intro p0 (And.intro p1 xb2))))
  have H3 := Lib.hid (o3.new (Below.refl _ _).drew)
  have hS := HB1.out.2.2.2.2
  have ks : Keeps (fun j => j = q) W2 (W2.setCell ⟨q, 2, none⟩ (.slice (some ⟨gp, 2, none⟩) 1 1)).drew := (Keeps.setCell (S := fun j => j = q) (Keeps.refl _ W2) (p := ⟨q, 2, none⟩) (.inl rfl) _).drew
  have KS := Lib.hid ks
  rw [z1]
  clear b2 o2 z2 p0 p1 o3 z1 hW2 ks
  go_region
  generalize hW3 : World.drew (World.setCell W2 _ _) = W3 at *
  have e0 := KS.out.cell (p := ⟨H, 0, none⟩) (by show ¬ H = q; omega) HB2.out.2.2.2.2
  have e1 := KS.out.cell (p := ⟨H + 1, 0, none⟩) (by show ¬ H + 1 = q; omega) HB2.out.2.2.1
  have e2 := KS.out.cell (p := ⟨H + 1, 1, none⟩) (by show ¬ H + 1 = q; omega) HB2.out.2.2.2.1
  have CA := Lib.hid (fd_await H3.out 85 #[.pointer (some ⟨H + 1, 0, none⟩), .pointer (some ⟨H, 0, none⟩)])
  have HE := Lib.hid (And.intro e0 (And.intro e1 e2))
  clear hW3 x2 zz2 xb2 e1 e2 hS
  go_wp2_with (go_at_call 48; (refine CA.out.mono ?_); rintro e w4 ⟨rfl, g, c, o4, cg, ⟨g1, g2⟩, hc, k4⟩; have H4 := Lib.hid (And.intro o4 (And.intro cg (And.intro (And.intro g1 g2) (And.intro hc k4)))); clear o4 cg g1 g2 hc k4)
  go_end0
  obtain ⟨o4, cg, ⟨g1, g2⟩, hc, k4⟩ := H4.out
  obtain ⟨b1, -, z1, hH, hql⟩ := HB1.out
  obtain ⟨b2, z2, -⟩ := HB2.out
  have s3 := KS.out.size
  have s4 := k4.size
  refine ⟨rfl, H + 1, H, g, c, o4, ⟨cg, ⟨k4.cell (p := ⟨H + 1, 0, none⟩) (by show ¬ H + 1 = q; omega) HE.out.2.1, k4.cell (p := ⟨H + 1, 1, none⟩) (by show ¬ H + 1 = q; omega) HE.out.2.2⟩, k4.cell (p := ⟨H, 0, none⟩) (by show ¬ H = q; omega) HE.out.1⟩, ⟨⟨by omega, by omega⟩, ⟨by omega, by omega⟩, by omega, by omega⟩, hc, ?_⟩
  exact ((Keeps.of_new (S := fun j => j = q) (below_then b1 b2)).trans KS.out (fun i _ s => s)).trans k4 (fun i _ s => s)
set_option maxHeartbeats 2000000 in
set_option maxRecDepth 100000 in
theorem fd_fill1 (h : Ob w q (fdC key t (.slice (some ⟨gp, 2, none⟩) 1 1) (.slice la 0 0) b k s ref)) (y1 : w.cell? ⟨gp, 2, none⟩ = some (.int .i64 pb)) (y2 : w.cell? ⟨gp, 3, none⟩ = some (.int .i64 pk)) :
    Calls Tryz.prog 42 #[.pointer (some ⟨q, 0, none⟩)] w (FdF w q key t (.slice (some ⟨gp, 2, none⟩) 0 0) b k s ref pb pk) := by
  have H0 := Lib.hid h
  have hql := h.lt
  clear h
  go_enter Tryz.func42, Tryz.ntmps42
  go_upto_region 1 with (fail)
  generalize hW1 : World.alloc w _ = W1
  obtain ⟨H, hH⟩ : ∃ H, H = w.heap.size := ⟨_, rfl⟩
  have z1 : W1.heap.size = H + 1 := by rw [← hW1, hH]; simp
  have b1 : Below w.heap.size w W1 := by rw [← hW1]; exact fd_bs (Below.refl _ _)
  have xb : W1.cell? ⟨H, 0, none⟩ = some (.pointer (some ⟨q, 0, none⟩)) := by rw [← hW1]; exact fd_newat hH rfl
  have o1 := H0.out.new b1
  have x2 := o1.at_ 2 _ rfl
  have x4 := (b1.cell (p := ⟨gp, 2, none⟩) (World.block_lt_of_cell? _ _ y1)).trans y1
  have x5 := (b1.cell (p := ⟨gp, 3, none⟩) (World.block_lt_of_cell? _ _ y2)).trans y2
  rw [← hH] at hql ⊢
  have HB1 := Lib.hid (And.intro b1 (And.intro o1 (And.intro z1 (And.intro hH hql))))
  clear hW1 b1 o1 y1 y2 z1 hH hql H0
  go_upto_region 2 with (fail)
  have z1 := HB1.out.2.2.1
  generalize hW2 : World.alloc W1 _ = W2
  have b2 : Below W1.heap.size W1 W2 := by rw [← hW2]; exact fd_bs (Below.refl _ _)
  have p0 : W2.cell? ⟨H + 1, 0, none⟩ = some (.int .i64 pb) := by rw [← hW2]; exact fd_newat z1.symm rfl
  have p1 : W2.cell? ⟨H + 1, 1, none⟩ = some (.int .i64 pk) := by rw [← hW2]; exact fd_newat z1.symm rfl
  have z2 : W2.heap.size = H + 1 + 1 := by rw [← hW2]; simp [z1]
  have o2 := HB1.out.2.1.new b2
  have xb2 := (b2.cell (p := ⟨H, 0, none⟩) (World.block_lt_of_cell? _ _ xb)).trans xb
  clear x2 xb x4 x5
  have x2 := o2.at_ 2 _ rfl
  have zz2 := o2.fz 2 (by show 2 < 8; decide)
  have o3 := o2.set 2 (.slice (some ⟨gp, 2, none⟩) 0 0) (by show 2 < 8; decide) (C' := fdC key t (.slice (some ⟨gp, 2, none⟩) 0 0) (.slice la 0 0) b k s ref) rfl
  have HB2 := Lib.hid (And.intro b2 (And.intro z2 (And.intro p0 (And.intro p1 xb2))))
  have H3 := Lib.hid (o3.new (Below.refl _ _).drew)
  have hS := HB1.out.2.2.2.2
  have ks : Keeps (fun j => j = q) W2 (W2.setCell ⟨q, 2, none⟩ (.slice (some ⟨gp, 2, none⟩) 0 0)).drew := (Keeps.setCell (S := fun j => j = q) (Keeps.refl _ W2) (p := ⟨q, 2, none⟩) (.inl rfl) _).drew
  have KS := Lib.hid ks
  rw [z1]
  clear b2 o2 z2 p0 p1 o3 z1 hW2 ks
  go_region
  generalize hW3 : World.drew (World.setCell W2 _ _) = W3 at *
  have e0 := KS.out.cell (p := ⟨H, 0, none⟩) (by show ¬ H = q; omega) HB2.out.2.2.2.2
  have e1 := KS.out.cell (p := ⟨H + 1, 0, none⟩) (by show ¬ H + 1 = q; omega) HB2.out.2.2.1
  have e2 := KS.out.cell (p := ⟨H + 1, 1, none⟩) (by show ¬ H + 1 = q; omega) HB2.out.2.2.2.1
  have CA := Lib.hid (fd_await H3.out 85 #[.pointer (some ⟨H + 1, 0, none⟩), .pointer (some ⟨H, 0, none⟩)])
  have HE := Lib.hid (And.intro e0 (And.intro e1 e2))
  clear hW3 x2 zz2 xb2 e1 e2 hS
  go_wp2_with (go_at_call 48; (refine CA.out.mono ?_); rintro e w4 ⟨rfl, g, c, o4, cg, ⟨g1, g2⟩, hc, k4⟩; have H4 := Lib.hid (And.intro o4 (And.intro cg (And.intro (And.intro g1 g2) (And.intro hc k4)))); clear o4 cg g1 g2 hc k4)
  go_end0
  obtain ⟨o4, cg, ⟨g1, g2⟩, hc, k4⟩ := H4.out
  obtain ⟨b1, -, z1, hH, hql⟩ := HB1.out
  obtain ⟨b2, z2, -⟩ := HB2.out
  have s3 := KS.out.size
  have s4 := k4.size
  refine ⟨rfl, H + 1, H, g, c, o4, ⟨cg, ⟨k4.cell (p := ⟨H + 1, 0, none⟩) (by show ¬ H + 1 = q; omega) HE.out.2.1, k4.cell (p := ⟨H + 1, 1, none⟩) (by show ¬ H + 1 = q; omega) HE.out.2.2⟩, k4.cell (p := ⟨H, 0, none⟩) (by show ¬ H = q; omega) HE.out.1⟩, ⟨⟨by omega, by omega⟩, ⟨by omega, by omega⟩, by omega, by omega⟩, hc, ?_⟩
  exact ((Keeps.of_new (S := fun j => j = q) (below_then b1 b2)).trans KS.out (fun i _ s => s)).trans k4 (fun i _ s => s)
set_option maxHeartbeats 2000000 in
set_option maxRecDepth 100000 in
theorem fd_zero {w : World} {B size n c : Nat} {a : Option Addr} {xs : List Value} (h : Lst w B size (.slice a n c) n xs) (hn : n ≠ 0) : ∃ gp, a = some ⟨gp, 0, none⟩ := by
  obtain ⟨-, ⟨-, h0⟩ | ⟨g, cap, hv, -⟩⟩ := h
  · exact absurd h0 hn
  · injection hv with ha _ _
    exact ⟨g, ha⟩
/-- The first load: of the tables' word. -/
theorem fd_c1 (h : Opw G w A V q (fdC key t0 pl ld b k s ref)) (hx : w.cell? ⟨bx, 0, none⟩ = some (.pointer (some ⟨q, 0, none⟩))) (hk : w.cell? ⟨bk, 0, none⟩ = some (.string key)) (gx : G bx) (gk : G bk) (hc : V.cnt < 1000000000) (hm : key.size ≤ maxLen) (ht : V.f 2 = t) (hz : hsl key.data.toList = z) (hzu : isU z) {n : Nat} (hn : (placesF z t).length = n) :
    Calls Tryz.prog 49 #[.pointer (some ⟨A.p, 0, none⟩), .pointer (some ⟨bx, 0, none⟩), .pointer (some ⟨bk, 0, none⟩)] w fun e w' => e = .returned (.tuple #[]) ∧ ∃ B pa, w.heap.size ≤ B ∧ Qw G B w' A (V.acc V.f 1 2 t t) q (fdC key t (.slice pa n n) ld b k s ref) ∧ Qb w' B (.slice pa n n) n 2 (rowsP (placesF z t)) ∧ (n ≠ 0 → ∃ gp, pa = some ⟨gp, 0, none⟩) ∧ Kp G w w' := by
  have htu : isU t := ht ▸ h.rng ⟨by decide, by decide⟩
  have hd0 : Below w.heap.size w w.drew := (Below.refl _ _).drew
  have h0 := h.new hd0
  have CL := h0.load (a := 2) ⟨by decide, by decide⟩ hc
  rw [ht] at CL
  have CL := Lib.hid CL
  have CH := fun W => hash key W hm
  rw [hz] at CH
  have CH := Lib.hid CH
  have CPL := fun W => placesw z t W hzu.1 (by have := hzu.2; omega) htu.1 (by have := htu.2; omega)
  rw [hn] at CPL
  have CPL := Lib.hid CPL
  have HGX := Lib.hid (And.intro gx gk)
  have c0 : w.drew.cell? ⟨A.p, 0, none⟩ = some (.pointer (some ⟨A.pc, 0, none⟩)) := h0.box.c0
  have d0 : w.drew.cell? ⟨bx, 0, none⟩ = some (.pointer (some ⟨q, 0, none⟩)) := hx
  have HK := Lib.hid hk
  have HX := Lib.hid hx
  have KD := Lib.hid (show Kp G w w.drew from Kp.of hd0)
  generalize V.acc V.f 1 2 t t = V1 at *
  generalize placesF z t = PL at *
  clear h h0 ht hz hzu htu hx hk gx gk hn hd0
  go_enter Tryz.func49, Tryz.ntmps49
  go_wp2_with fail
  go_region_held3 (fun X => X.cell? ⟨A.p, 0, none⟩ = some (.pointer (some ⟨A.pc, 0, none⟩)) ∧ X.cell? ⟨bx, 0, none⟩ = some (.pointer (some ⟨q, 0, none⟩)))
    (first | exact ⟨by assumption, by assumption⟩)
    (first
      | (go_at_call 50; ((with_reducible refine CL.out.mono ?_); rintro e w1 ⟨rfl, h1, k1⟩; have m1 := k1.cell (p := ⟨bx, 0, none⟩) (fun n => n HGX.out.1) d0; clear c0 d0; have c0 := h1.box.c0; have x1 := h1.ob.at_ 1 _ rfl; have z1 := h1.ob.fz 1 (by show 1 < 8; decide); obtain ⟨h2, k2⟩ := h1.set 1 (.int .u64 t) (by show 1 < 8; decide) (C' := fdC key t pl ld b k s ref) rfl; have c2 := h2.box.c0; have m2 := k2.cell (p := ⟨bx, 0, none⟩) (fun n => n HGX.out.1) m1; have H2 := Lib.hid h2; have K2 := Lib.hid (Kp.to (Kp.to KD.out k1) k2); clear h1 k1 h2 k2)))
  go_upto_region 1 with (fail)
  generalize hW2 : World.setCell w1 _ _ = W2 at *
  clear hW2 x1 z1 c0 m1 c2 m2
  have b2 : Below W2.heap.size W2 W2.drew := (Below.refl _ _).drew
  have hxk : ∀ W, Kp G w W → W.cell? ⟨bx, 0, none⟩ = some (.pointer (some ⟨q, 0, none⟩)) ∧ W.cell? ⟨bk, 0, none⟩ = some (.string key) := fun W k => ⟨k.cell (p := ⟨bx, 0, none⟩) (fun n => n HGX.out.1) HX.out, k.cell (p := ⟨bk, 0, none⟩) (fun n => n HGX.out.2) HK.out⟩
  have CX := Lib.hid (fun W (hb : Below W2.heap.size W2 W) => And.intro (hxk W (Kp.to K2.out (Kp.of hb))) (H2.out.new hb))
  have HB := Lib.hid b2
  obtain ⟨⟨d0, d1⟩, h3⟩ := CX.out _ b2
  have x1 : W2.drew.cell? ⟨q, 1, none⟩ = some (.int .u64 t) := h3.ob.at_ 1 _ rfl
  have x2 : W2.drew.cell? ⟨q, 2, none⟩ = some pl := h3.ob.at_ 2 _ rfl
  have z2 : W2.drew.frozen? ⟨q, 2, none⟩ = false := h3.ob.fz 2 (by show 2 < 8; decide)
  clear b2 hxk h3
  go_region_held3 (fun X => X.cell? ⟨bx, 0, none⟩ = some (.pointer (some ⟨q, 0, none⟩)) ∧ X.cell? ⟨bk, 0, none⟩ = some (.string key) ∧ X.cell? ⟨q, 1, none⟩ = some (.int .u64 t))
    (first | exact ⟨by assumption, by assumption, by assumption⟩)
    (first
      | (go_at_call 45; ((with_reducible refine (CH.out _).mono ?_); rintro e w3 ⟨rfl, b3⟩; have b3' := below_then HB.out b3; clear d0 d1 x1 x2 z2 HB; obtain ⟨⟨d0, d1⟩, h3⟩ := CX.out _ b3'; have x1 := h3.ob.at_ 1 _ rfl; have x2 := h3.ob.at_ 2 _ rfl; have z2 := h3.ob.fz 2 (by show 2 < 8; decide); have HB := Lib.hid b3'; clear b3 b3' h3))
      | (go_at_call 46; ((with_reducible refine (CPL.out _).mono ?_); rintro e w4 ⟨a4, rfl, l4, b4⟩; have b4' := below_then HB.out b4; have HL := Lib.hid (Qb.of_lst (B := W2.heap.size) l4 HB.out.size); have HP := Lib.hid (fd_zero l4); clear d0 d1 x1 x2 z2 HB; obtain ⟨⟨d0, d1⟩, h4⟩ := CX.out _ b4'; have x1 := h4.ob.at_ 1 _ rfl; have x2 := h4.ob.at_ 2 _ rfl; have z2 := h4.ob.fz 2 (by show 2 < 8; decide); obtain ⟨h5, k5⟩ := h4.set 2 (.slice a4 n n) (by show 2 < 8; decide) (C' := fdC key t (.slice a4 n n) ld b k s ref) rfl; have e0 := k5.cell (p := ⟨bx, 0, none⟩) (fun n => n HGX.out.1) d0; have e1 := k5.cell (p := ⟨bk, 0, none⟩) (fun n => n HGX.out.2) d1; have e2 := h5.ob.at_ 1 _ rfl; have HB := Lib.hid b4'; clear b4 b4' h4 h5 k5 l4)))
  have hb4 := HB.out
  obtain ⟨o6, k6⟩ := ((Qw.of H2.out).ext hb4).set 2 (.slice a4 n n) (by show 2 < 8; decide) (C' := fdC key t (.slice a4 n n) ld b k s ref) rfl
  have FIN := Lib.hid (And.intro (show w.heap.size ≤ W2.heap.size from K2.out.size) (And.intro o6 (And.intro (Qb.set (i := 2) HL.out (H2.out.ob.lt) (.slice a4 n n)) (Kp.to (Kp.to K2.out (Kp.of hb4)) k6))))
  clear o6 k6 hb4
  go_end0
  exact ⟨rfl, _, a4, FIN.out.1, FIN.out.2.1, FIN.out.2.2.1, HP.out, FIN.out.2.2.2⟩
end
end Go.Proofs.YtodppilfpemepaaGreat
/- Next: Finds: the program's; the tags' load, the item's. -/
namespace Go.Proofs.YtodppilfpemepaaGreat
open Go.RowKit Go.Maps
set_option linter.unusedVariables false
theorem flst_slice {w : World} {B size n : Nat} {v : Value} {xs : List Value} (h : Lst w B size v n xs) : ∃ a c, v = .slice a n c := by
  obtain ⟨hl, ⟨rfl, rfl⟩ | ⟨g, c, rfl, -⟩⟩ := h
  · exact ⟨_, _, rfl⟩
  · exact ⟨_, _, rfl⟩
/-- A call that turns the operation's own block alone, and makes new ones. -/
theorem opw_q {G : Nat → Prop} {B : Nat} {w W : World} {A : Ad} {V : Wv} {q : Nat} {C C' : List Value} (h : Opw (fun k => G k ∨ (B ≤ k ∧ k < w.heap.size)) w A V q C) (hqB : q < B) (ho : Ob W q C') (hk : Keeps (fun j => j = q) w W) : Opw (fun k => G k ∨ (B ≤ k ∧ k < W.heap.size)) W A V q C' := by
  obtain ⟨S, h1, h2, h3, h4, h5, h6⟩ := h
  refine ⟨S, h1.keep hk (fun k s e => h3 (e ▸ s)), fun k g s => ?_, h3, ho, fun g => ?_, fun k g => ?_⟩
  · rcases g with g | g
    · exact h2 k (.inl g) s
    · exact h2 k (.inr ⟨g.1, h1.lt _ s⟩) s
  · rcases g with g | g
    · exact h5 (.inl g)
    · omega
  · rcases g with g | g
    · exact Nat.lt_of_lt_of_le (h6 k (.inl g)) hk.size
    · exact g.2
section
variable {G : Nat → Prop} {w : World} {A : Ad} {V : Wv} {q bp bx bs : Nat} {key : ByteArray} {t a v z b k s ref pb pk sg sl r : Int} {pl ld : Value} {la : Option Addr}
set_option maxHeartbeats 2000000 in
set_option maxRecDepth 100000 in
/-- No slot has the tag. -/
theorem fd_c2_no (h : Opw G w A V q (fdC key t pl ld b k s ref)) (hp : w.cell? ⟨bp, 0, none⟩ = some (.int .i64 pb) ∧ w.cell? ⟨bp, 1, none⟩ = some (.int .i64 pk)) (hx : w.cell? ⟨bx, 0, none⟩ = some (.pointer (some ⟨q, 0, none⟩))) (gp : G bp) (gx : G bx) (hta : tagsf pb pk = a) (hau : isU a) (hc : V.cnt < 1000000000) (hv : V.f a = v) (hm : key.size ≤ maxLen) (hz : hsl key.data.toList = z) (hzu : isU z) (hs : max 1 (z / 72057594037927936) = sg) (hh : hasl v sg 4 = []) :
    Calls Tryz.prog 85 #[.pointer (some ⟨A.p, 0, none⟩), .pointer (some ⟨bp, 0, none⟩), .pointer (some ⟨bx, 0, none⟩)] w fun e w' => e = .returned (.tuple #[]) ∧ Opw G w' A (V.acc V.f 1 a v v) q (fdC key t pl ld b k s ref) ∧ Kp G w w' := by
  have hvu : isU v := hv ▸ h.rng hau
  have CT := fun W => tagsw pb pk W
  rw [hta] at CT
  have CT := Lib.hid CT
  have CL := fun W (hW : Opw G W A V q (fdC key t pl ld b k s ref)) => hW.load hau hc
  rw [hv] at CL
  have CL := Lib.hid CL
  have CH := fun W => hash key W hm
  rw [hz] at CH
  have CH := Lib.hid CH
  have CG := fun W => tag z W hzu.1 (by have := hzu.2; omega)
  rw [hs] at CG
  have CG := Lib.hid CG
  have CS := fun W => hasw v sg W (by rw [← hs]; omega) hvu.1 (by have := hvu.2; omega)
  rw [hh] at CS
  have CS := Lib.hid CS
  have HG := Lib.hid (And.intro gp gx)
  have hd0 : Below w.heap.size w w.drew := (Below.refl _ _).drew
  have h0 := h.new hd0
  have c0 : w.drew.cell? ⟨A.p, 0, none⟩ = some (.pointer (some ⟨A.pc, 0, none⟩)) := h0.box.c0
  have d0 : w.drew.cell? ⟨bp, 0, none⟩ = some (.int .i64 pb) := hp.1
  have d1 : w.drew.cell? ⟨bp, 1, none⟩ = some (.int .i64 pk) := hp.2
  have HX := Lib.hid hx
  have H0 := Lib.hid h0
  have KD := Lib.hid (show Kp G w w.drew from Kp.of hd0)
  generalize V.acc V.f 1 a v v = V1 at *
  clear h h0 hd0 hp hx gp gx hta hau hv hz hzu hs hh hvu
  go_enter Tryz.func85, Tryz.ntmps85
  go_wp2_with fail
  go_region_held3 (fun X => X.cell? ⟨A.p, 0, none⟩ = some (.pointer (some ⟨A.pc, 0, none⟩)) ∧ X.cell? ⟨bp, 0, none⟩ = some (.int .i64 pb) ∧ X.cell? ⟨bp, 1, none⟩ = some (.int .i64 pk))
    (first | exact ⟨by assumption, by assumption, by assumption⟩)
    (first
      | (go_at_call 40; ((with_reducible refine (CT.out _).mono ?_); rintro e w2 ⟨rfl, b2⟩; have h2 := H0.out.new b2; replace c0 := h2.box.c0; replace d0 := (Kp.of (G := G) b2).cell (p := ⟨bp, 0, none⟩) (fun n => n HG.out.1) d0; replace d1 := (Kp.of (G := G) b2).cell (p := ⟨bp, 1, none⟩) (fun n => n HG.out.1) d1; have C2 := Lib.hid (CL.out _ h2); have K2 := Lib.hid (Kp.to KD.out (Kp.of b2)); clear h2 b2))
      | (go_at_call 50; ((with_reducible refine C2.out.mono ?_); rintro e w3 ⟨rfl, h3, k3⟩; replace c0 := h3.box.c0; replace d0 := k3.cell (p := ⟨bp, 0, none⟩) (fun n => n HG.out.1) d0; replace d1 := k3.cell (p := ⟨bp, 1, none⟩) (fun n => n HG.out.1) d1; have H3 := Lib.hid h3; have K3 := Lib.hid (Kp.to K2.out k3); clear h3 k3)))
  clear c0 d0 d1
  have x0 := H3.out.ob.at_ 0 _ rfl
  have y0 := K3.out.cell (p := ⟨bx, 0, none⟩) (fun n => n HG.out.2) HX.out
  go_wp2_with (first
    | (go_at_call 45; ((with_reducible refine (CH.out _).mono ?_); rintro e w4 ⟨rfl, b4⟩; have H4 := Lib.hid (H3.out.new b4); have K4 := Lib.hid (Kp.to K3.out (Kp.of b4)); clear b4 x0 y0))
    | (go_at_call 29; ((with_reducible refine (CG.out _).mono ?_); rintro e w5 ⟨rfl, rfl⟩))
    | (go_at_call 86; ((with_reducible refine (CS.out _).mono ?_); rintro e w6 ⟨sl', rfl, l6, b6⟩; obtain ⟨sa, sc, hsl⟩ := flst_slice l6; subst hsl; have H6 := Lib.hid (H4.out.new b6); have K6 := Lib.hid (Kp.to K4.out (Kp.of b6)); clear l6 b6)))
  refine wp_loop_rounds 1 ?_
  rw [rounds_succ]
  go_wp2_with fail
  go_end0
  exact ⟨rfl, H6.out, K6.out⟩
/-- What is behind a load of tags, where one slot has the tag. -/
def FdS (G : Nat → Prop) (w : World) (A : Ad) (V : Wv) (q : Nat) (key : ByteArray) (t : Int) (pl : Value) (b k s ref pb pk sl : Int) (bx : Nat) (e : Ending) (w' : World) : Prop := e = .returned (.tuple #[]) ∧ ∃ B bs g c, w.heap.size ≤ B ∧ Qw G B w' A V q (fdC key t pl (.slice (some ⟨g, 0, none⟩) 1 c) b k s ref) ∧ (w'.cell? ⟨g, 0, none⟩ = some (c3V bx bs) ∧ w'.cell? ⟨bs, 0, none⟩ = some (.int .i64 pb) ∧ w'.cell? ⟨bs, 1, none⟩ = some (.int .i64 pk) ∧ w'.cell? ⟨bs, 2, none⟩ = some (.int .i64 sl)) ∧ ((B ≤ bs ∧ bs < w'.heap.size) ∧ B ≤ g ∧ g < w'.heap.size) ∧ 1 ≤ c ∧ Kp G w w'
set_option maxHeartbeats 2000000 in
set_option maxRecDepth 100000 in
/-- One slot has the tag. -/
theorem fd_c2_one (h : Opw G w A V q (fdC key t pl (.slice la 0 0) b k s ref)) (hp : w.cell? ⟨bp, 0, none⟩ = some (.int .i64 pb) ∧ w.cell? ⟨bp, 1, none⟩ = some (.int .i64 pk)) (hx : w.cell? ⟨bx, 0, none⟩ = some (.pointer (some ⟨q, 0, none⟩))) (gp : G bp) (gx : G bx) (hta : tagsf pb pk = a) (hau : isU a) (hc : V.cnt < 1000000000) (hv : V.f a = v) (hm : key.size ≤ maxLen) (hz : hsl key.data.toList = z) (hzu : isU z) (hs : max 1 (z / 72057594037927936) = sg) (hh : hasl v sg 4 = [sl]) :
    Calls Tryz.prog 85 #[.pointer (some ⟨A.p, 0, none⟩), .pointer (some ⟨bp, 0, none⟩), .pointer (some ⟨bx, 0, none⟩)] w (FdS G w A (V.acc V.f 1 a v v) q key t pl b k s ref pb pk sl bx) := by
  have hvu : isU v := hv ▸ h.rng hau
  have CT := fun W => tagsw pb pk W
  rw [hta] at CT
  have CT := Lib.hid CT
  have CL := fun W (hW : Opw G W A V q (fdC key t pl (.slice la 0 0) b k s ref)) => hW.load hau hc
  rw [hv] at CL
  have CL := Lib.hid CL
  have CH := fun W => hash key W hm
  rw [hz] at CH
  have CH := Lib.hid CH
  have CG := fun W => tag z W hzu.1 (by have := hzu.2; omega)
  rw [hs] at CG
  have CG := Lib.hid CG
  have CS := fun W => hasw v sg W (by rw [← hs]; omega) hvu.1 (by have := hvu.2; omega)
  rw [hh] at CS
  have CS := Lib.hid CS
  have HG := Lib.hid (And.intro gp gx)
  have hd0 : Below w.heap.size w w.drew := (Below.refl _ _).drew
  have h0 := h.new hd0
  have c0 : w.drew.cell? ⟨A.p, 0, none⟩ = some (.pointer (some ⟨A.pc, 0, none⟩)) := h0.box.c0
  have d0 : w.drew.cell? ⟨bp, 0, none⟩ = some (.int .i64 pb) := hp.1
  have d1 : w.drew.cell? ⟨bp, 1, none⟩ = some (.int .i64 pk) := hp.2
  have HX := Lib.hid hx
  have H0 := Lib.hid h0
  have KD := Lib.hid (show Kp G w w.drew from Kp.of hd0)
  generalize V.acc V.f 1 a v v = V1 at *
  clear h h0 hd0 hp hx gp gx hta hau hv hz hzu hs hh hvu
  go_enter Tryz.func85, Tryz.ntmps85
  go_wp2_with fail
  go_region_held3 (fun X => X.cell? ⟨A.p, 0, none⟩ = some (.pointer (some ⟨A.pc, 0, none⟩)) ∧ X.cell? ⟨bp, 0, none⟩ = some (.int .i64 pb) ∧ X.cell? ⟨bp, 1, none⟩ = some (.int .i64 pk))
    (first | exact ⟨by assumption, by assumption, by assumption⟩)
    (first
      | (go_at_call 40; ((with_reducible refine (CT.out _).mono ?_); rintro e w2 ⟨rfl, b2⟩; have h2 := H0.out.new b2; replace c0 := h2.box.c0; replace d0 := (Kp.of (G := G) b2).cell (p := ⟨bp, 0, none⟩) (fun n => n HG.out.1) d0; replace d1 := (Kp.of (G := G) b2).cell (p := ⟨bp, 1, none⟩) (fun n => n HG.out.1) d1; have C2 := Lib.hid (CL.out _ h2); have K2 := Lib.hid (Kp.to KD.out (Kp.of b2)); clear h2 b2))
      | (go_at_call 50; ((with_reducible refine C2.out.mono ?_); rintro e w3 ⟨rfl, h3, k3⟩; replace c0 := h3.box.c0; replace d0 := k3.cell (p := ⟨bp, 0, none⟩) (fun n => n HG.out.1) d0; replace d1 := k3.cell (p := ⟨bp, 1, none⟩) (fun n => n HG.out.1) d1; have H3 := Lib.hid h3; have K3 := Lib.hid (Kp.to K2.out k3); clear h3 k3)))
  clear c0
  have HD := Lib.hid (And.intro d0 d1)
  have hB := Lib.hid (show w.heap.size ≤ w3.heap.size from K3.out.size)
  have x0 := H3.out.ob.at_ 0 _ rfl
  have y0 := K3.out.cell (p := ⟨bx, 0, none⟩) (fun n => n HG.out.2) HX.out
  have HY := Lib.hid y0
  clear d0 d1
  go_wp2_with (first
    | (go_at_call 45; ((with_reducible refine (CH.out _).mono ?_); rintro e w4 ⟨rfl, b4⟩; have B4 := Lib.hid b4; clear b4 x0 y0))
    | (go_at_call 29; ((with_reducible refine (CG.out _).mono ?_); rintro e w5 ⟨rfl, rfl⟩))
    | (go_at_call 86; ((with_reducible refine (CS.out _).mono ?_); rintro e w6 ⟨sl', rfl, l6, b6⟩; obtain ⟨-, ⟨-, h0⟩ | ⟨g6, c6, hsl, -, hg6, -, -, hat6⟩⟩ := l6; (exact absurd h0 (by simp)); subst hsl; have e6 := (hat6 0 _ rfl).1; have B6 := Lib.hid (below_then B4.out b6); clear hat6 b6)))
  have d0 := (B6.out.cell (p := ⟨bp, 0, none⟩) (World.block_lt_of_cell? _ _ HD.out.1)).trans HD.out.1
  have d1 := (B6.out.cell (p := ⟨bp, 1, none⟩) (World.block_lt_of_cell? _ _ HD.out.2)).trans HD.out.2
  have y0 := (B6.out.cell (p := ⟨bx, 0, none⟩) (World.block_lt_of_cell? _ _ HY.out)).trans HY.out
  refine wp_loop_rounds 2 ?_
  rw [rounds_succ]
  go_upto_region 5 with (fail)
  obtain ⟨bs, hbs⟩ : ∃ bs, bs = w6.heap.size := ⟨_, rfl⟩
  rw [← hbs]
  generalize hW7 : World.alloc w6 _ = W7
  have b7 : Below w6.heap.size w6 W7 := by rw [← hW7]; exact fd_bs (Below.refl _ _)
  have s0 : W7.cell? ⟨bs, 0, none⟩ = some (.int .i64 pb) := by rw [← hW7]; exact fd_newat hbs rfl
  have s1 : W7.cell? ⟨bs, 1, none⟩ = some (.int .i64 pk) := by rw [← hW7]; exact fd_newat hbs rfl
  have s2 : W7.cell? ⟨bs, 2, none⟩ = some (.int .i64 sl) := by rw [← hW7]; exact fd_newat hbs rfl
  have l7 : bs < W7.heap.size := by rw [← hW7, hbs]; simp
  have h7 := (Qw.of H3.out).ext (below_then B6.out b7)
  have hlt := H3.out.ob.lt
  have s36 := B6.out.size
  have y7 := (b7.cell (p := ⟨bx, 0, none⟩) (World.block_lt_of_cell? _ _ y0)).trans y0
  have CA := Lib.hid (fd_await h7.op.ob 87 #[.pointer (some ⟨bx, 0, none⟩), .pointer (some ⟨bs, 0, none⟩)])
  have HS := Lib.hid (And.intro s0 (And.intro s1 s2))
  have HN := Lib.hid (And.intro (show w3.heap.size ≤ bs by omega) (And.intro l7 (show q < w3.heap.size from hlt)))
  have H7 := Lib.hid h7
  have K7 := Lib.hid (Kp.to K3.out (Kp.of (below_then B6.out b7)))
  clear hbs hW7 b7 s0 s1 s2 l7 h7 hlt s36 y0 d0 d1 e6
  go_wp2_with (go_at_call 48; (refine CA.out.mono ?_); rintro e w8 ⟨rfl, g, c, o8, cg, ⟨g1, g2⟩, hc8, k8⟩; have H8 := Lib.hid (And.intro o8 (And.intro cg (And.intro (And.intro g1 g2) (And.intro hc8 k8)))); clear o8 cg g1 g2 hc8 k8 y7)
  rw [rounds_succ]
  go_wp2_with fail
  go_end0
  obtain ⟨o8, cg, ⟨g1, g2⟩, hc8, k8⟩ := H8.out
  obtain ⟨⟨hB7, hq7⟩, h7⟩ := H7.out
  have sz := k8.size
  have hnq : ¬ (G q ∨ (w3.heap.size ≤ q ∧ q < W7.heap.size)) := qw_nq h7
  refine ⟨rfl, w3.heap.size, bs, g, c, hB.out, ⟨⟨Nat.le_trans hB7 sz, hq7⟩, ?_⟩, ⟨cg, k8.cell (p := ⟨bs, 0, none⟩) (by have := HN.out; show ¬ bs = q; omega) HS.out.1, k8.cell (p := ⟨bs, 1, none⟩) (by have := HN.out; show ¬ bs = q; omega) HS.out.2.1, k8.cell (p := ⟨bs, 2, none⟩) (by have := HN.out; show ¬ bs = q; omega) HS.out.2.2⟩, ⟨⟨HN.out.1, Nat.lt_of_lt_of_le HN.out.2.1 sz⟩, by omega, g2⟩, hc8, Kp.to K7.out (k8.mono (fun j _ e g => hnq (.inl (e ▸ g))))⟩
  exact opw_q h7 hq7 o8 k8
end
end Go.Proofs.YtodppilfpemepaaGreat
/- Next: Finds: the program's; the item's load. -/
namespace Go.Proofs.YtodppilfpemepaaGreat
open Go.RowKit Go.Maps
set_option linter.unusedVariables false
theorem belowFq {w : World} (n : Nat) : Below w.heap.size w (w.drewN n) := by
  induction n with
  | zero => exact Below.refl _ _
  | succ n ih => exact ih.drew
section
variable {G : Nat → Prop} {w : World} {A : Ad} {V : Wv} {q bx bs i : Nat} {C : List Value} {key vl : ByteArray} {t a v z b k s ref pb pk sl r fl id di ge : Int} {pl ld : Value}
theorem ow_item (h : Opw G w A V q C) (hi : (i : Int) < 2000000) (hx : V.I[i]? = some (key, vl, fl, id, di, ge)) (hr : r = (i : Int) + 1) :
    Calls Tryz.prog 35 #[.pointer (some ⟨A.pi, 0, none⟩), .int .i64 r] w fun e w' => e = .returned (.tuple #[.agg #[.string key, .string vl, .int .u32 fl, .int .u64 id, .int .i64 di, .int .i64 ge], .bool true]) ∧ Below w.heap.size w w' := by
  obtain ⟨S, ⟨n, SC, SI, SN, ha⟩, -⟩ := h
  exact iat_any ha.it i hi hx hr
set_option maxHeartbeats 4000000 in
set_option maxRecDepth 100000 in
theorem fd_look (h : Opw G w A V q (fdC key t pl ld b k s ref)) (hia : itemf pb pk sl = a) (hau : isU a) (hc : V.cnt < 1000000000) (hv : V.f a = v) (hw : IntKind.i64.wrap v = r) (hi : (i : Int) < 2000000) (hx : V.I[i]? = some (key, vl, fl, id, di, ge)) (hr : r = (i : Int) + 1) :
    Calls Tryz.prog 88 #[.pointer (some ⟨q, 0, none⟩), .pointer (some ⟨A.p, 0, none⟩), .agg #[.int .i64 pb, .int .i64 pk, .int .i64 sl]] w fun e w' => e = .returned (.tuple #[]) ∧ Opw G w' A (V.acc V.f 1 a v v) q (fdC key t (.slice none 0 0) (.slice none 0 0) pb pk sl r) ∧ Kp G w w' := by
  have CI := fun W => itemw pb pk sl W
  rw [hia] at CI
  have CI := Lib.hid CI
  have CL := fun (G' : Nat → Prop) W (hW : Opw G' W A V q (fdC key t pl ld b k s ref)) => hW.load hau hc
  rw [hv] at CL
  have CL := Lib.hid CL
  have CAT := Lib.hid (fun (G' : Nat → Prop) W (hW : Opw G' W A (V.acc V.f 1 a v v) q (fdC key t pl ld b k s ref)) => ow_item (i := i) hW hi hx hr)
  have H0 := Lib.hid h
  have hke : decide (key = key) = true := by simp
  generalize V.acc V.f 1 a v v = V1 at *
  clear h hia hau hv hi hx hr
  go_enter Tryz.func88, Tryz.ntmps88
  go_upto_region 1 with (fail)
  generalize hW1 : World.alloc w _ = W1
  have b1 : Below w.heap.size w W1 := by rw [← hW1]; exact fd_bs (Below.refl _ _)
  obtain ⟨nb, hnb⟩ : ∃ nb, nb = w.heap.size := ⟨_, rfl⟩
  have e0 : W1.cell? ⟨nb, 0, none⟩ = some (.int .i64 pb) := by rw [← hW1]; exact fd_newat hnb rfl
  have e1 : W1.cell? ⟨nb, 1, none⟩ = some (.int .i64 pk) := by rw [← hW1]; exact fd_newat hnb rfl
  have e2 : W1.cell? ⟨nb, 2, none⟩ = some (.int .i64 sl) := by rw [← hW1]; exact fd_newat hnb rfl
  have hl1 : nb < W1.heap.size := by rw [hnb, ← hW1]; simp
  rw [← hnb]
  have HG := Lib.hid (show (fun k => G k ∨ (w.heap.size ≤ k ∧ k < W1.heap.size)) nb from .inr ⟨by omega, hl1⟩)
  have h1 := (qw_addN H0.out b1).new (Below.refl _ _).drew
  have K1 := Lib.hid (show Kp G w W1.drew from Kp.to (Kp.of b1) (Kp.of (Below.refl _ _).drew))
  have hnq : nb ≠ q := by have := H0.out.ob.lt; omega
  have HNQ := Lib.hid hnq
  clear hW1 hl1 b1 hnb hnq
  generalize hG1 : (fun k => G k ∨ (w.heap.size ≤ k ∧ k < W1.heap.size)) = G1 at *
  have HGG := Lib.hid (show ∀ k, G k → G1 k by rw [← hG1]; exact fun k g => .inl g)
  have H1 := Lib.hid h1
  have c0 : W1.drew.cell? ⟨A.p, 0, none⟩ = some (.pointer (some ⟨A.pc, 0, none⟩)) := h1.box.c0
  have d0 : W1.drew.cell? ⟨nb, 0, none⟩ = some (.int .i64 pb) := e0
  have d1 : W1.drew.cell? ⟨nb, 1, none⟩ = some (.int .i64 pk) := e1
  have d2 : W1.drew.cell? ⟨nb, 2, none⟩ = some (.int .i64 sl) := e2
  clear h1 e0 e1 e2 hG1 H0
  go_region_held3 (fun X => X.cell? ⟨A.p, 0, none⟩ = some (.pointer (some ⟨A.pc, 0, none⟩)) ∧ X.cell? ⟨nb, 0, none⟩ = some (.int .i64 pb) ∧ X.cell? ⟨nb, 1, none⟩ = some (.int .i64 pk) ∧ X.cell? ⟨nb, 2, none⟩ = some (.int .i64 sl))
    (first | exact ⟨by assumption, by assumption, by assumption, by assumption⟩)
    (first
      | (go_at_call 93; ((with_reducible refine (CI.out _).mono ?_); rintro e w2 ⟨rfl, b2⟩; have h2 := H1.out.new b2; replace c0 := h2.box.c0; replace d0 := (Kp.of (G := G1) b2).cell (p := ⟨nb, 0, none⟩) (fun n => n HG.out) d0; replace d1 := (Kp.of (G := G1) b2).cell (p := ⟨nb, 1, none⟩) (fun n => n HG.out) d1; replace d2 := (Kp.of (G := G1) b2).cell (p := ⟨nb, 2, none⟩) (fun n => n HG.out) d2; have C2 := Lib.hid (CL.out _ _ h2); have K2 := Lib.hid (Kp.to K1.out (Kp.of b2)); clear h2 b2))
      | (go_at_call 50; ((with_reducible refine C2.out.mono ?_); rintro e w3 ⟨rfl, h3, k3⟩; replace c0 := h3.box.c0; replace d0 := k3.cell (p := ⟨nb, 0, none⟩) (fun n => n HG.out) d0; replace d1 := k3.cell (p := ⟨nb, 1, none⟩) (fun n => n HG.out) d1; replace d2 := k3.cell (p := ⟨nb, 2, none⟩) (fun n => n HG.out) d2; have H3 := Lib.hid h3; have K3 := Lib.hid (Kp.to K2.out (k3.less HGG.out)); clear h3 k3)))
  clear c0
  have HD := Lib.hid (And.intro d0 (And.intro d1 d2))
  have c1 := H3.out.box.c1
  have C3 := Lib.hid (CAT.out _ _ H3.out)
  clear d0 d1 d2 C2 CAT CL CI
  go_upto_region 3 with (go_at_call 35; ((with_reducible refine C3.out.mono ?_); rintro e w4 ⟨rfl, b4⟩; have B4 := Lib.hid b4; clear b4 c1))
  obtain ⟨ni, hni⟩ : ∃ ni, ni = w4.heap.size := ⟨_, rfl⟩
  rw [← hni]
  generalize hW5 : World.alloc w4 _ = W5
  have b5 : Below w4.heap.size w4 W5 := by rw [← hW5]; exact fd_bs (Below.refl _ _)
  have i0 : W5.cell? ⟨ni, 0, none⟩ = some (.string key) := by rw [← hW5]; exact fd_newat hni rfl
  have B5 := Lib.hid (below_then B4.out b5)
  have h5 := H3.out.new B5.out
  have x0 := h5.ob.at_ 0 _ rfl
  clear hW5 b5 hni h5
  go_quiet (fail)
  have B6 := Lib.hid (below_then B5.out (show Below W5.heap.size W5 (W5.drewN nq) from belowFq nq))
  generalize hW6 : W5.drewN nq = W6 at *
  have d0 := (B6.out.cell (p := ⟨nb, 0, none⟩) (World.block_lt_of_cell? _ _ HD.out.1)).trans HD.out.1
  have d1 := (B6.out.cell (p := ⟨nb, 1, none⟩) (World.block_lt_of_cell? _ _ HD.out.2.1)).trans HD.out.2.1
  have d2 := (B6.out.cell (p := ⟨nb, 2, none⟩) (World.block_lt_of_cell? _ _ HD.out.2.2)).trans HD.out.2.2
  clear hW6 i0 x0
  have h6 := H3.out.new B6.out
  have x4 := h6.ob.at_ 4 _ rfl
  have x5 := h6.ob.at_ 5 _ rfl
  have x6 := h6.ob.at_ 6 _ rfl
  have x7 := h6.ob.at_ 7 _ rfl
  have x3 := h6.ob.at_ 3 _ rfl
  have x2 := h6.ob.at_ 2 _ rfl
  have z4 := h6.ob.fz 4 (by show 4 < 8; decide)
  have z5 := h6.ob.fz 5 (by show 5 < 8; decide)
  have z6 := h6.ob.fz 6 (by show 6 < 8; decide)
  have z7 := h6.ob.fz 7 (by show 7 < 8; decide)
  have z3 := h6.ob.fz 3 (by show 3 < 8; decide)
  have z2 := h6.ob.fz 2 (by show 2 < 8; decide)
  obtain ⟨m1, k1⟩ := (qw_less h6 HGG.out).set 4 (.int .i64 pb) (by show 4 < 8; decide) (C' := fdC key t pl ld pb k s ref) rfl
  obtain ⟨m2, k2⟩ := m1.set 5 (.int .i64 pk) (by show 5 < 8; decide) (C' := fdC key t pl ld pb pk s ref) rfl
  obtain ⟨m3, k3⟩ := m2.set 6 (.int .i64 sl) (by show 6 < 8; decide) (C' := fdC key t pl ld pb pk sl ref) rfl
  obtain ⟨m4, k4⟩ := m3.set 7 (.int .i64 r) (by show 7 < 8; decide) (C' := fdC key t pl ld pb pk sl r) rfl
  obtain ⟨m5, k5⟩ := m4.set 3 (.slice none 0 0) (by show 3 < 8; decide) (C' := fdC key t pl (.slice none 0 0) pb pk sl r) rfl
  obtain ⟨m6, k6⟩ := m5.set 2 (.slice none 0 0) (by show 2 < 8; decide) (C' := fdC key t (.slice none 0 0) (.slice none 0 0) pb pk sl r) rfl
  have FIN := Lib.hid (And.intro m6 (Kp.to (Kp.to (Kp.to (Kp.to (Kp.to (Kp.to (Kp.to K3.out (Kp.of B6.out)) k1) k2) k3) k4) k5) k6))
  clear m1 k1 m2 k2 m3 k3 m4 k4 m5 k5 m6 k6 h6
  go_wp2_with fail
  go_end0
  exact ⟨rfl, FIN.out.1, FIN.out.2⟩
set_option maxHeartbeats 2000000 in
set_option maxRecDepth 100000 in
theorem fd_c3 (h : Opw G w A V q (fdC key t pl ld b k s ref)) (hbx : w.cell? ⟨bx, 0, none⟩ = some (.pointer (some ⟨q, 0, none⟩))) (hbs : w.cell? ⟨bs, 0, none⟩ = some (.int .i64 pb) ∧ w.cell? ⟨bs, 1, none⟩ = some (.int .i64 pk) ∧ w.cell? ⟨bs, 2, none⟩ = some (.int .i64 sl)) (hia : itemf pb pk sl = a) (hau : isU a) (hc : V.cnt < 1000000000) (hv : V.f a = v) (hw : IntKind.i64.wrap v = r) (hi : (i : Int) < 2000000) (hx : V.I[i]? = some (key, vl, fl, id, di, ge)) (hr : r = (i : Int) + 1) :
    Calls Tryz.prog 87 #[.pointer (some ⟨A.p, 0, none⟩), .pointer (some ⟨bx, 0, none⟩), .pointer (some ⟨bs, 0, none⟩)] w fun e w' => e = .returned (.tuple #[]) ∧ Opw G w' A (V.acc V.f 1 a v v) q (fdC key t (.slice none 0 0) (.slice none 0 0) pb pk sl r) ∧ Kp G w w' := by
  have C := Lib.hid (fd_look h hia hau hc hv hw hi hx hr)
  obtain ⟨s0, s1, s2⟩ := hbs
  clear h hia hau hv hw hi hx hr
  go_enter Tryz.func87, Tryz.ntmps87
  go_wp2_with (go_at_call 88; ((with_reducible refine C.out.mono ?_); rintro e w1 ⟨rfl, h1, k1⟩; have H1 := Lib.hid (And.intro h1 k1); clear h1 k1))
  go_end0
  exact ⟨rfl, H1.out.1, H1.out.2⟩
end
end Go.Proofs.YtodppilfpemepaaGreat
/- Next: A Find by itself: Run, step by step. -/
namespace Go.Proofs.YtodppilfpemepaaGreat
open Go.RowKit Go.Maps
set_option linter.unusedVariables false
set_option maxHeartbeats 1000000 in
set_option maxRecDepth 100000 in
theorem fd_run {St : Nat → World → Prop} {p q m : Nat} {M : Int} {w : World} (hm : (m : Int) < M) (hM : M ≤ 1000)
    (hov : ∀ k W, k < m → St k W → Calls Tryz.prog 13 #[.pointer (some ⟨q, 0, none⟩)] W fun e w' => e = .returned (.bool false) ∧ W = w')
    (hend : ∀ W, St m W → Calls Tryz.prog 13 #[.pointer (some ⟨q, 0, none⟩)] W fun e w' => e = .returned (.bool true) ∧ W = w')
    (hst : ∀ k W, k < m → St k W → Calls Tryz.prog 14 #[.pointer (some ⟨q, 0, none⟩), .pointer (some ⟨p, 0, none⟩)] W fun e w' => ∃ b, e = .returned (.bool b) ∧ St (k + 1) w')
    (h0 : St 0 w) :
    Calls Tryz.prog 38 #[.pointer (some ⟨p, 0, none⟩), .iface 56 (.pointer (some ⟨q, 0, none⟩)), .int .i64 M] w fun e w' => e = .returned (.int .i64 m) ∧ St m w' := by
  have HO := Lib.hid hov
  have HE := Lib.hid hend
  have HS := Lib.hid hst
  have H0 := Lib.hid h0
  clear hov hend hst h0
  go_enter Tryz.func38, Tryz.ntmps38
  go_wp2_with fail
  go_loopw [7] (fun i X => ∃ k : Nat, k ≤ m ∧ i = .int .i64 k ∧ St k X) (fun i _ => m - (intOf i).toNat)
  case atStart => exact ⟨0, Nat.zero_le _, rfl, H0.out⟩
  case round =>
    obtain ⟨k, hk, rfl, hs⟩ := hrel
    have hkM : (k : Int) < M := by omega
    by_cases hlt : k < m
    · have C := Lib.hid (HO.out k _ hlt hs)
      have C2 := Lib.hid (HS.out k _ hlt hs)
      clear hs
      go_wp2_with fail
      refine C.out.mono ?_
      rintro e w1 ⟨rfl, rfl⟩
      go_wp2_with fail
      refine C2.out.mono ?_
      rintro e w2 ⟨b, rfl, h2⟩
      have H2 := Lib.hid h2
      clear h2
      go_wp2_with fail
      go_roundw
      case rel => exact ⟨k + 1, by omega, by go_num, H2.out⟩
      case measure => simp [intOf]; omega
    · obtain rfl : k = m := by omega
      have C := Lib.hid (HE.out _ hs)
      have H2 := Lib.hid hs
      clear hs
      go_wp2_with fail
      refine C.out.mono ?_
      rintro e w1 ⟨rfl, rfl⟩
      go_wp2_with fail
      go_ret
      exact ⟨rfl, H2.out⟩
end Go.Proofs.YtodppilfpemepaaGreat
/- Next: Finds: the chapter's example, step by step. -/
namespace Go.Proofs.YtodppilfpemepaaGreat
open Go.RowKit Go.Maps
set_option linter.unusedVariables false
def keyF : ByteArray := ⟨#[97]⟩
def zF : Int := 12638187200555641996
theorem keyF_z : hsl keyF.data.toList = zF := by decide
theorem zF_U : isU zF := ⟨by decide, by decide⟩
theorem keyF_pl : placesF zF 2 = [((2 : Int), (0 : Int)), (2, 3)] := by decide
theorem zF_tag : max 1 (zF / 72057594037927936) = (175 : Int) := by decide
theorem hasA0 : hasl 0 175 4 = [] := by decide
theorem hasA3 : hasl 2936012800 175 4 = [3] := by decide
theorem tagsA0 : tagsf 2 0 = 4128 := by decide
theorem tagsA3 : tagsf 2 3 = 4152 := by decide
/-- One begins: its load is that of the tables' word. -/
def FdB (G : Nat → Prop) (w0 : World) (A : Ad) (V0 : Wv) (n0 : Int) (q : Nat) (w : World) : Prop := ∃ V bx bk g c, (V.f = V0.f ∧ V.cnt = n0 ∧ V.I = V0.I) ∧ Opw G w A V q (fdC keyF 0 (.slice none 0 0) (.slice (some ⟨g, 0, none⟩) 1 c) 0 0 0 0) ∧ (w.cell? ⟨g, 0, none⟩ = some (c1V bx bk) ∧ w.cell? ⟨bx, 0, none⟩ = some (.pointer (some ⟨q, 0, none⟩)) ∧ w.cell? ⟨bk, 0, none⟩ = some (.string keyF)) ∧ (G bx ∧ G bk) ∧ 1 ≤ c ∧ Kp G w0 w
/-- A place's tags are next. -/
def FdP (m : Nat) (pk : Int) (G : Nat → Prop) (w0 : World) (A : Ad) (V0 : Wv) (n0 : Int) (q : Nat) (w : World) : Prop := ∃ V G1 bp bx g c gp, (V.f = V0.f ∧ V.cnt = n0 ∧ V.I = V0.I) ∧ (∀ k, G k → G1 k) ∧ Opw G1 w A V q (fdC keyF 2 (.slice (some ⟨gp, 2, none⟩) m m) (.slice (some ⟨g, 0, none⟩) 1 c) 0 0 0 0) ∧ (w.cell? ⟨g, 0, none⟩ = some (c2V bp bx) ∧ (w.cell? ⟨bp, 0, none⟩ = some (.int .i64 2) ∧ w.cell? ⟨bp, 1, none⟩ = some (.int .i64 pk)) ∧ w.cell? ⟨bx, 0, none⟩ = some (.pointer (some ⟨q, 0, none⟩))) ∧ (w.cell? ⟨gp, 2, none⟩ = some (.int .i64 2) ∧ w.cell? ⟨gp, 3, none⟩ = some (.int .i64 3)) ∧ (G1 g ∧ G1 bp ∧ G1 bx ∧ G1 gp) ∧ 1 ≤ c ∧ Kp G w0 w
/-- It is over: without one. -/
def FdE (G : Nat → Prop) (w0 : World) (A : Ad) (V0 : Wv) (n0 : Int) (q : Nat) (w : World) : Prop := ∃ V pa pc la lc, (V.f = V0.f ∧ V.cnt = n0 ∧ V.I = V0.I) ∧ Opw G w A V q (fdC keyF 2 (.slice pa 0 pc) (.slice la 0 lc) 0 0 0 0) ∧ Kp G w0 w
/-- An item is next. -/
def FdI (G : Nat → Prop) (w0 : World) (A : Ad) (V0 : Wv) (n0 : Int) (q : Nat) (w : World) : Prop := ∃ V G1 bx bs g c pl, (V.f = V0.f ∧ V.cnt = n0 ∧ V.I = V0.I) ∧ (∀ k, G k → G1 k) ∧ Opw G1 w A V q (fdC keyF 2 pl (.slice (some ⟨g, 0, none⟩) 1 c) 0 0 0 0) ∧ (w.cell? ⟨g, 0, none⟩ = some (c3V bx bs) ∧ w.cell? ⟨bx, 0, none⟩ = some (.pointer (some ⟨q, 0, none⟩)) ∧ w.cell? ⟨bs, 0, none⟩ = some (.int .i64 2) ∧ w.cell? ⟨bs, 1, none⟩ = some (.int .i64 3) ∧ w.cell? ⟨bs, 2, none⟩ = some (.int .i64 3)) ∧ (G1 g ∧ G1 bx ∧ G1 bs) ∧ 1 ≤ c ∧ Kp G w0 w
/-- It is over: with one. -/
def FdG (G : Nat → Prop) (w0 : World) (A : Ad) (V0 : Wv) (n0 : Int) (q : Nat) (w : World) : Prop := ∃ V, (V.f = V0.f ∧ V.cnt = n0 ∧ V.I = V0.I) ∧ Opw G w A V q (fdC keyF 2 (.slice none 0 0) (.slice none 0 0) 2 3 3 5) ∧ Kp G w0 w
section
variable {G : Nat → Prop} {w0 w : World} {A : Ad} {V0 : Wv} {n0 : Int} {q : Nat}
theorem fdB_step (h : FdB G w0 A V0 n0 q w) (hf : V0.f 2 = 2) (hn : n0 < 1000000) :
    Calls Tryz.prog 14 #[.pointer (some ⟨q, 0, none⟩), .pointer (some ⟨A.p, 0, none⟩)] w fun e w' => ∃ b, e = .returned (.bool b) ∧ FdP 1 0 G w0 A V0 (n0 + 1) q w' := by
  obtain ⟨V, bx, bk, g, c, ⟨v1, v2, v3⟩, ho, ⟨cg, cx, ck⟩, ⟨gx, gk⟩, hc, hk⟩ := h
  have f2 : V.f 2 = 2 := by rw [v1]; exact hf
  have hpl : (placesF zF 2).length = 2 := by rw [keyF_pl]; rfl
  refine (fd_st_c1F (r := false) (pn := 2)
    (Q := fun W => ∃ B gp ga, Qw G B W A (V.acc V.f 1 2 2 2) q (fdC keyF 2 (.slice (some ⟨gp, 0, none⟩) 2 2) (.slice ga 0 0) 0 0 0 0) ∧ Qb W B (.slice (some ⟨gp, 0, none⟩) 2 2) 2 2 (rowsP (placesF zF 2)) ∧ Kp G w W)
    (P := fun W => FdP 1 0 G w0 A V0 (n0 + 1) q W) ho cg hc ?_ ?_ (by decide) ?_ ?_).mono ?_
  · intro W ga hW kW
    refine (fd_c1 hW (kW.cell (p := ⟨bx, 0, none⟩) (fun n => n gx) cx) (kW.cell (p := ⟨bk, 0, none⟩) (fun n => n gk) ck) gx gk (by omega) (by decide) f2 keyF_z zF_U hpl).mono ?_
    rintro e w' ⟨he, B, pa, hB, h1, h2, h3, h4⟩
    obtain ⟨gp, rfl⟩ := h3 (by decide)
    exact ⟨he, B, gp, ga, h1, h2, Kp.to kW h4⟩
  · rintro w' ⟨B, gp, ga, h1, h2, h3⟩
    exact ⟨_, _, _, _, _, _, _, _, _, h1.op.ob⟩
  · rintro w' ⟨B, gp, ga, h1, h2, h3⟩
    obtain ⟨⟨hBw, hqB⟩, h1'⟩ := h1
    obtain ⟨gl, ⟨e0, -⟩ | ⟨g2, o2, c2, e2, -, -, ⟨u1, u2⟩, hx⟩⟩ := h2
    · cases e0
    · injection e2 with e2 _ _
      injection e2 with e2
      injection e2 with e2 e3 _
      subst e2; subst e3
      rw [keyF_pl] at hx
      have y0 := hx 0 (.int .i64 2) rfl
      have y1 := hx 1 (.int .i64 0) rfl
      have y2 := hx 2 (.int .i64 2) rfl
      have y3 := hx 3 (.int .i64 3) rfl
      refine (fd_fill2 h1'.ob (by simpa using y0) (by simpa using y1)).mono ?_
      rintro e w2 ⟨he, bp, bx', g', c', o', ⟨m1, m2, m3⟩, ⟨l1, l2, l3, l4⟩, hc', k'⟩
      have sz := k'.size
      have n2 : gp ≠ q := by omega
      refine ⟨he, V.acc V.f 1 2 2 2, _, bp, bx', g', c', gp, ⟨v1, by show V.cnt + 1 = _; rw [v2], v3⟩, fun k hg => .inl hg, opw_q h1' hqB o' k', ⟨m1, m2, m3⟩, ⟨?_, ?_⟩, ⟨.inr ⟨by omega, l4⟩, .inr ⟨by omega, l1.2⟩, .inr ⟨by omega, l2.2⟩, .inr ⟨by omega, by omega⟩⟩, hc', ?_⟩
      · exact k'.cell (p := ⟨gp, 2, none⟩) n2 (by simpa using y2)
      · exact k'.cell (p := ⟨gp, 3, none⟩) n2 (by simpa using y3)
      · exact Kp.to (Kp.to hk h3) (k'.mono (fun j _ e hg => qw_nq h1' (.inl (e ▸ hg))))
  · rintro w' ⟨V', G1, bp, bx', g', c', gp, -, -, ho', -⟩
    exact fd_over (r := false) ho'.ob rfl
  · rintro e w' ⟨he, h'⟩
    exact ⟨_, he, h'⟩
theorem fdP_step (h : FdP 1 0 G w0 A V0 n0 q w) (hf : V0.f 4128 = 0) (hn : n0 < 1000000) :
    Calls Tryz.prog 14 #[.pointer (some ⟨q, 0, none⟩), .pointer (some ⟨A.p, 0, none⟩)] w fun e w' => ∃ b, e = .returned (.bool b) ∧ FdP 0 3 G w0 A V0 (n0 + 1) q w' := by
  obtain ⟨V, G1, bp, bx, g, c, gp, ⟨v1, v2, v3⟩, hG, ho, ⟨cg, cp, cx⟩, ⟨y2, y3⟩, ⟨gg, gb, gx, gq⟩, hc, hk⟩ := h
  have f2 : V.f 4128 = 0 := by rw [v1]; exact hf
  refine (fd_st_c2F (r := false) (pn := 1)
    (Q := fun W => ∃ ga, Opw G1 W A (V.acc V.f 1 4128 0 0) q (fdC keyF 2 (.slice (some ⟨gp, 2, none⟩) 1 1) (.slice ga 0 0) 0 0 0 0) ∧ Kp G1 w W)
    (P := fun W => FdP 0 3 G w0 A V0 (n0 + 1) q W) ho cg hc ?_ ?_ (by decide) ?_ ?_).mono ?_
  · intro W ga hW kW
    refine (fd_c2_no hW ⟨kW.cell (p := ⟨bp, 0, none⟩) (fun n => n gb) cp.1, kW.cell (p := ⟨bp, 1, none⟩) (fun n => n gb) cp.2⟩ (kW.cell (p := ⟨bx, 0, none⟩) (fun n => n gx) cx) gb gx tagsA0 ⟨by decide, by decide⟩ (by omega) f2 (by decide) keyF_z zF_U zF_tag hasA0).mono ?_
    rintro e w' ⟨he, h1, h2⟩
    exact ⟨he, ga, h1, Kp.to kW h2⟩
  · rintro w' ⟨ga, h1, h2⟩
    exact ⟨_, _, _, _, _, _, _, _, _, h1.ob⟩
  · rintro w' ⟨ga, h1, h2⟩
    have z2 := h2.cell (p := ⟨gp, 2, none⟩) (fun n => n gq) y2
    have z3 := h2.cell (p := ⟨gp, 3, none⟩) (fun n => n gq) y3
    refine (fd_fill1 h1.ob z2 z3).mono ?_
    rintro e w2 ⟨he, bp', bx', g', c', o', ⟨m1, m2, m3⟩, ⟨l1, l2, l3, l4⟩, hc', k'⟩
    have sz := k'.size
    have hq1 := qw_nq h1
    have n2 : gp ≠ q := fun e => hq1 (e ▸ gq)
    have hgl := qw_lt h1 gp gq
    refine ⟨he, V.acc V.f 1 4128 0 0, _, bp', bx', g', c', gp, ⟨v1, by show V.cnt + 1 = _; rw [v2], v3⟩, fun k hg => .inl (hG k hg), opw_q (qw_addN h1 (Below.refl _ _)) h1.ob.lt o' k', ⟨m1, m2, m3⟩, ⟨?_, ?_⟩, ⟨.inr ⟨l3, l4⟩, .inr l1, .inr l2, .inl gq⟩, hc', ?_⟩
    · exact k'.cell (p := ⟨gp, 2, none⟩) n2 z2
    · exact k'.cell (p := ⟨gp, 3, none⟩) n2 z3
    · exact Kp.to (Kp.to hk (h2.less hG)) (k'.mono (fun j _ e hg => hq1 (hG q (e ▸ hg))))
  · rintro w' ⟨V', G1, bp, bx', g', c', gp, -, -, ho', -⟩
    exact fd_over (r := false) ho'.ob rfl
  · rintro e w' ⟨he, h'⟩
    exact ⟨_, he, h'⟩
theorem fdE_step (h : FdP 0 3 G w0 A V0 n0 q w) (hf : V0.f 4152 = 0) (hn : n0 < 1000000) :
    Calls Tryz.prog 14 #[.pointer (some ⟨q, 0, none⟩), .pointer (some ⟨A.p, 0, none⟩)] w fun e w' => ∃ b, e = .returned (.bool b) ∧ FdE G w0 A V0 (n0 + 1) q w' := by
  obtain ⟨V, G1, bp, bx, g, c, gp, ⟨v1, v2, v3⟩, hG, ho, ⟨cg, cp, cx⟩, ⟨y2, y3⟩, ⟨gg, gb, gx, gq⟩, hc, hk⟩ := h
  have f2 : V.f 4152 = 0 := by rw [v1]; exact hf
  refine (fd_st_c2N0 (r := true) (Q := fun W => FdE G w0 A V0 (n0 + 1) q W) ho cg hc ?_ ?_ ?_).mono ?_
  · intro W ga hW kW
    refine (fd_c2_no hW ⟨kW.cell (p := ⟨bp, 0, none⟩) (fun n => n gb) cp.1, kW.cell (p := ⟨bp, 1, none⟩) (fun n => n gb) cp.2⟩ (kW.cell (p := ⟨bx, 0, none⟩) (fun n => n gx) cx) gb gx tagsA3 ⟨by decide, by decide⟩ (by omega) f2 (by decide) keyF_z zF_U zF_tag hasA0).mono ?_
    rintro e w' ⟨he, h1, h2⟩
    exact ⟨he, V.acc V.f 1 4152 0 0, _, _, _, _, ⟨v1, by show V.cnt + 1 = _; rw [v2], v3⟩, qw_less h1 hG, Kp.to hk ((Kp.to kW h2).less hG)⟩
  · rintro w' ⟨V', pa, pc, la, lc, -, h1, -⟩
    exact ⟨_, _, _, _, _, _, _, _, _, h1.ob⟩
  · rintro w' ⟨V', pa, pc, la, lc, -, h1, -⟩
    exact fd_over (r := true) h1.ob rfl
  · rintro e w' ⟨he, h'⟩
    exact ⟨_, he, h'⟩
theorem fdI_step (h : FdP 0 3 G w0 A V0 n0 q w) (hf : V0.f 4152 = 2936012800) (hn : n0 < 1000000) :
    Calls Tryz.prog 14 #[.pointer (some ⟨q, 0, none⟩), .pointer (some ⟨A.p, 0, none⟩)] w fun e w' => ∃ b, e = .returned (.bool b) ∧ FdI G w0 A V0 (n0 + 1) q w' := by
  obtain ⟨V, G1, bp, bx, g, c, gp, ⟨v1, v2, v3⟩, hG, ho, ⟨cg, cp, cx⟩, ⟨y2, y3⟩, ⟨gg, gb, gx, gq⟩, hc, hk⟩ := h
  have f2 : V.f 4152 = 2936012800 := by rw [v1]; exact hf
  refine (fd_st_c2N1 (r := false) (pn := 0)
    (Q := fun W => ∃ G2 bs g' c', (∀ k, G k → G2 k) ∧ Opw G2 W A (V.acc V.f 1 4152 2936012800 2936012800) q (fdC keyF 2 (.slice (some ⟨gp, 2, none⟩) 0 0) (.slice (some ⟨g', 0, none⟩) 1 c') 0 0 0 0) ∧ (W.cell? ⟨g', 0, none⟩ = some (c3V bx bs) ∧ W.cell? ⟨bx, 0, none⟩ = some (.pointer (some ⟨q, 0, none⟩)) ∧ W.cell? ⟨bs, 0, none⟩ = some (.int .i64 2) ∧ W.cell? ⟨bs, 1, none⟩ = some (.int .i64 3) ∧ W.cell? ⟨bs, 2, none⟩ = some (.int .i64 3)) ∧ (G2 g' ∧ G2 bx ∧ G2 bs) ∧ 1 ≤ c' ∧ Kp G w0 W) ho cg hc ?_ ?_ ?_).mono ?_
  · intro W ga hW kW
    have bxW := kW.cell (p := ⟨bx, 0, none⟩) (fun n => n gx) cx
    refine (fd_c2_one hW ⟨kW.cell (p := ⟨bp, 0, none⟩) (fun n => n gb) cp.1, kW.cell (p := ⟨bp, 1, none⟩) (fun n => n gb) cp.2⟩ bxW gb gx tagsA3 ⟨by decide, by decide⟩ (by omega) f2 (by decide) keyF_z zF_U zF_tag hasA3).mono ?_
    rintro e w' ⟨he, B, bs, g', c', hB, ⟨hB2, h1⟩, ⟨m1, m2, m3, m4⟩, ⟨l1, l2⟩, hc', k'⟩
    exact ⟨he, _, bs, g', c', fun k hg => .inl (hG k hg), h1, ⟨m1, k'.cell (p := ⟨bx, 0, none⟩) (fun n => n gx) bxW, m2, m3, m4⟩, ⟨.inr l2, .inl gx, .inr l1⟩, hc', Kp.to hk ((Kp.to kW k').less hG)⟩
  · rintro w' ⟨G2, bs, g', c', -, h1, -⟩
    exact ⟨_, _, _, _, _, _, _, _, _, h1.ob⟩
  · rintro w' ⟨G2, bs, g', c', -, h1, -⟩
    exact fd_over (r := false) h1.ob rfl
  · rintro e w' ⟨he, G2, bs, g', c', h1, h2, h3, h4, h5, h6⟩
    exact ⟨_, he, V.acc V.f 1 4152 2936012800 2936012800, G2, bx, bs, g', c', _, ⟨v1, by show V.cnt + 1 = _; rw [v2], v3⟩, h1, h2, h3, h4, h5, h6⟩
theorem fdG_step {a : Int} {vl : ByteArray} {fl id di ge : Int} (h : FdI G w0 A V0 n0 q w) (ha : itemf 2 3 3 = a) (hau : isU a) (hf : V0.f a = 5) (hI : V0.I[4]? = some (keyF, vl, fl, id, di, ge)) (hn : n0 < 1000000) :
    Calls Tryz.prog 14 #[.pointer (some ⟨q, 0, none⟩), .pointer (some ⟨A.p, 0, none⟩)] w fun e w' => ∃ b, e = .returned (.bool b) ∧ FdG G w0 A V0 (n0 + 1) q w' := by
  obtain ⟨V, G1, bx, bs, g, c, pl, ⟨v1, v2, v3⟩, hG, ho, ⟨cg, cx, s0, s1, s2⟩, ⟨gg, gx, gs⟩, hc, hk⟩ := h
  have f2 : V.f a = 5 := by rw [v1]; exact hf
  have i4 : V.I[4]? = some (keyF, vl, fl, id, di, ge) := by rw [v3]; exact hI
  refine (fd_st_c3N0 (r := true) (Q := fun W => FdG G w0 A V0 (n0 + 1) q W) ho cg hc ?_ ?_ ?_).mono ?_
  · intro W ga hW kW
    have up : ∀ {o v}, w.cell? ⟨bs, o, none⟩ = some v → W.cell? ⟨bs, o, none⟩ = some v := fun {o v} h => kW.cell (p := ⟨bs, o, none⟩) (fun n => n gs) h
    refine (fd_c3 (i := 4) hW (kW.cell (p := ⟨bx, 0, none⟩) (fun n => n gx) cx) ⟨up s0, up s1, up s2⟩ ha hau (by omega) f2 (r := 5) (by decide) (by decide) i4 (by decide)).mono ?_
    rintro e w' ⟨he, h1, h2⟩
    exact ⟨he, V.acc V.f 1 a 5 5, ⟨v1, by show V.cnt + 1 = _; rw [v2], v3⟩, qw_less h1 hG, Kp.to hk ((Kp.to kW h2).less hG)⟩
  · rintro w' ⟨V', -, h1, -⟩
    exact ⟨_, _, _, _, _, _, _, _, _, h1.ob⟩
  · rintro w' ⟨V', -, h1, -⟩
    exact fd_over (r := true) h1.ob rfl
  · rintro e w' ⟨he, h'⟩
    exact ⟨_, he, h'⟩
/-- Run: none is found. -/
def RunE (G : Nat → Prop) (w0 : World) (A : Ad) (V0 : Wv) (q k : Nat) (w : World) : Prop := match k with
  | 0 => FdB G w0 A V0 V0.cnt q w
  | 1 => FdP 1 0 G w0 A V0 (V0.cnt + 1) q w
  | 2 => FdP 0 3 G w0 A V0 (V0.cnt + 1 + 1) q w
  | _ => FdE G w0 A V0 (V0.cnt + 1 + 1 + 1) q w
def RunG (G : Nat → Prop) (w0 : World) (A : Ad) (V0 : Wv) (q k : Nat) (w : World) : Prop := match k with
  | 0 => FdB G w0 A V0 V0.cnt q w
  | 1 => FdP 1 0 G w0 A V0 (V0.cnt + 1) q w
  | 2 => FdP 0 3 G w0 A V0 (V0.cnt + 1 + 1) q w
  | 3 => FdI G w0 A V0 (V0.cnt + 1 + 1 + 1) q w
  | _ => FdG G w0 A V0 (V0.cnt + 1 + 1 + 1 + 1) q w
theorem fdB_over (h : FdB G w0 A V0 n0 q w) : Calls Tryz.prog 13 #[.pointer (some ⟨q, 0, none⟩)] w fun e w' => e = .returned (.bool false) ∧ w = w' := by
  obtain ⟨V, bx, bk, g, c, -, ho, -⟩ := h
  exact fd_over (r := false) ho.ob rfl
theorem fdP_over {m : Nat} {pk : Int} (h : FdP m pk G w0 A V0 n0 q w) : Calls Tryz.prog 13 #[.pointer (some ⟨q, 0, none⟩)] w fun e w' => e = .returned (.bool false) ∧ w = w' := by
  obtain ⟨V, G1, bp, bx, g, c, gp, -, -, ho, -⟩ := h
  exact fd_over (r := false) ho.ob rfl
theorem fdI_over (h : FdI G w0 A V0 n0 q w) : Calls Tryz.prog 13 #[.pointer (some ⟨q, 0, none⟩)] w fun e w' => e = .returned (.bool false) ∧ w = w' := by
  obtain ⟨V, G1, bx, bs, g, c, pl, -, -, ho, -⟩ := h
  exact fd_over (r := false) ho.ob rfl
theorem run_none (h : FdB G w0 A V0 V0.cnt q w) (f1 : V0.f 2 = 2) (f2 : V0.f 4128 = 0) (f3 : V0.f 4152 = 0) (hn : V0.cnt < 1000) :
    Calls Tryz.prog 38 #[.pointer (some ⟨A.p, 0, none⟩), .iface 56 (.pointer (some ⟨q, 0, none⟩)), .int .i64 40] w fun e w' => e = .returned (.int .i64 3) ∧ FdE G w0 A V0 (V0.cnt + 1 + 1 + 1) q w' :=
  fd_run (St := RunE G w0 A V0 q) (m := 3) (by decide) (by decide)
    (fun k W hk h => match k, hk with
      | 0, _ => fdB_over h
      | 1, _ => fdP_over h
      | 2, _ => fdP_over h
      | k + 3, hk => absurd hk (by omega))
    (fun W h => by obtain ⟨V, pa, pc, la, lc, -, h1, -⟩ := h; exact fd_over (r := true) h1.ob rfl)
    (fun k W hk h => match k, hk with
      | 0, _ => fdB_step h f1 (by omega)
      | 1, _ => fdP_step h f2 (by omega)
      | 2, _ => fdE_step h f3 (by omega)
      | k + 3, hk => absurd hk (by omega)) h
theorem run_one {a : Int} {vl : ByteArray} {fl id di ge : Int} (h : FdB G w0 A V0 V0.cnt q w) (f1 : V0.f 2 = 2) (f2 : V0.f 4128 = 0) (f3 : V0.f 4152 = 2936012800) (ha : itemf 2 3 3 = a) (hau : isU a) (hf : V0.f a = 5) (hI : V0.I[4]? = some (keyF, vl, fl, id, di, ge)) (hn : V0.cnt < 1000) :
    Calls Tryz.prog 38 #[.pointer (some ⟨A.p, 0, none⟩), .iface 56 (.pointer (some ⟨q, 0, none⟩)), .int .i64 40] w fun e w' => e = .returned (.int .i64 4) ∧ FdG G w0 A V0 (V0.cnt + 1 + 1 + 1 + 1) q w' :=
  fd_run (St := RunG G w0 A V0 q) (m := 4) (by decide) (by decide)
    (fun k W hk h => match k, hk with
      | 0, _ => fdB_over h
      | 1, _ => fdP_over h
      | 2, _ => fdP_over h
      | 3, _ => fdI_over h
      | k + 4, hk => absurd hk (by omega))
    (fun W h => by obtain ⟨V, -, h1, -⟩ := h; exact fd_over (r := true) h1.ob rfl)
    (fun k W hk h => match k, hk with
      | 0, _ => fdB_step h f1 (by omega)
      | 1, _ => fdP_step h f2 (by omega)
      | 2, _ => fdI_step h f3 (by omega)
      | 3, _ => fdG_step h ha hau hf hI (by omega)
      | k + 4, hk => absurd hk (by omega)) h
end
end Go.Proofs.YtodppilfpemepaaGreat
/- Next: Finds: the chapter's example lives. -/
namespace Go.Proofs.YtodppilfpemepaaGreat
open Go.RowKit Go.Maps
set_option linter.unusedVariables false
theorem fd_addN {G : Nat → Prop} {w W : World} {A : Ad} {V : Wv} (h : WdG G w A V) (hb : Below w.heap.size w W) : WdG (fun k => G k ∨ (w.heap.size ≤ k ∧ k < W.heap.size)) W A V := by
  obtain ⟨S, h1, h2, h3⟩ := h
  refine ⟨S, h1.new hb, fun k g s => ?_, fun k g => ?_⟩
  · rcases g with g | g
    · exact h2 k g s
    · have := h1.lt _ s; omega
  · rcases g with g | g
    · exact Nat.lt_of_lt_of_le (h3 k g) hb.size
    · exact g.2
theorem fd_newE {G : Nat → Prop} {w W : World} {A : Ad} {V : Wv} {q : Nat} {C : List Value} (h : WdG G w A V) (ho : Ob W q C) (hq : w.heap.size ≤ q) (hb : Below w.heap.size w W) : Opw (fun k => G k ∨ (w.heap.size ≤ k ∧ k < W.heap.size ∧ k ≠ q)) W A V q C := by
  obtain ⟨S, h1, h2, h3⟩ := h
  refine ⟨S, h1.new hb, fun k g s => ?_, fun s => by have := h1.lt _ s; omega, ho, fun g => ?_, fun k g => ?_⟩
  · rcases g with g | g
    · exact h2 k g s
    · have := h1.lt _ s; omega
  · rcases g with g | g
    · have := h3 _ g; omega
    · exact g.2.2 rfl
  · rcases g with g | g
    · exact Nat.lt_of_lt_of_le (h3 k g) hb.size
    · exact g.2.1
theorem fd_keepQ {G : Nat → Prop} {w : World} {A : Ad} {V : Wv} {q : Nat} {C : List Value} (h : Opw G w A V q C) : WdG (fun k => G k ∨ k = q) w A V := by
  obtain ⟨S, h1, h2, h3, h4, h5, h6⟩ := h
  refine ⟨S, h1, fun k g s => ?_, fun k g => ?_⟩
  · rcases g with g | rfl
    · exact h2 k g s
    · exact h3 s
  · rcases g with g | rfl
    · exact h6 k g
    · exact h4.lt
theorem fd_wd {G : Nat → Prop} {w : World} {A : Ad} {V : Wv} {q : Nat} {C : List Value} (h : Opw G w A V q C) : WdG G w A V := by
  obtain ⟨S, h1, h2, h3, h4, h5, h6⟩ := h
  exact ⟨S, h1, h2, h6⟩
theorem fd_box {G : Nat → Prop} {w : World} {A : Ad} {V : Wv} (h : WdG G w A V) : w.cell? ⟨A.p, 1, none⟩ = some (.pointer (some ⟨A.pi, 0, none⟩)) := by
  obtain ⟨S, h1, -⟩ := h
  exact h1.box.c1
theorem fd_item {G : Nat → Prop} {w : World} {A : Ad} {V : Wv} (h : WdG G w A V) (hI : V.I.length < 1048576) (x0 x1 : ByteArray) (x2 x3 x4 x5 : Int) :
    Calls Tryz.prog 44 #[.pointer (some ⟨A.pi, 0, none⟩), .agg #[.string x0, .string x1, .int .u32 x2, .int .u64 x3, .int .i64 x4, .int .i64 x5]] w fun e w' => (∃ v, e = .returned v) ∧ WdG G w' A (V.item (x0, x1, x2, x3, x4, x5)) ∧ Kp G w w' := by
  obtain ⟨S, h1, h2, h3⟩ := h
  exact (witem h1 hI x0 x1 x2 x3 x4 x5).mono fun e w' ⟨he, hp⟩ => ⟨he, WdG.post h2 h3 hp⟩
/-- The places of the example's key. -/
def IsPF (W : World) (e : Ending) (w' : World) : Prop := ∃ g, e = .returned (.slice (some ⟨g, 0, none⟩) 2 2) ∧ (w'.cell? ⟨g, 2, none⟩ = some (.int .i64 2) ∧ w'.cell? ⟨g, 3, none⟩ = some (.int .i64 3)) ∧ Below W.heap.size W w'
theorem keyF_of (W : World) : Calls Tryz.prog 46 #[.int .u64 zF, .int .u64 2] W (IsPF W) := by
  refine (placesw zF 2 W zF_U.1 (by decide) (by decide) (by decide)).mono ?_
  rintro e w ⟨a, rfl, h, hb⟩
  rw [keyF_pl] at h ⊢
  obtain ⟨-, ⟨-, h0⟩ | ⟨g, cap, hv, -, -, -, -, hat⟩⟩ := h
  · exact absurd h0 (by decide)
  · injection hv with e1 e2 e3
    subst e1
    exact ⟨g, rfl, ⟨(hat 2 _ rfl).1, (hat 3 _ rfl).1⟩, hb⟩
theorem itemF3 : itemf 2 3 3 = 4156 := by decide
theorem withF3 : withf 0 3 175 = 2936012800 := by decide
set_option maxHeartbeats 1000000 in
set_option maxRecDepth 100000 in
theorem two2 (w : World) : Calls Tryz.prog 43 #[.int .i64 2] w fun e w' => e = .returned (.string keyF) ∧ Below w.heap.size w w' := by
  have CH : ∀ W, Calls Tryz.prog 45 #[.string ⟨[97].toArray⟩] W _ := fun W => hash keyF W (by decide)
  rw [keyF_z] at CH
  have CH := Lib.hid CH
  have CP := Lib.hid keyF_of
  have hcv := run_convert_bytes_back (P := Tryz.prog) (w.alloc (.cells #[.int .u8 97] 5)) 162 9 5 ⟨w.heap.size, 0, none⟩ 1 [97] Tryz.underlying162 Tryz.underlying5 Tryz.underlying9 (fun j hj => by
    have : j = 0 := by simp at hj; omega
    subst this
    simp [Addr.add])
  rw [show ([97] : List UInt8).length = 1 from rfl] at hcv
  go_enter Tryz.func43, Tryz.ntmps43
  go_wp2_with fail
  refine wp_loop_rounds 1 ?_
  rw [rounds_succ]
  go_wp2_with (first
    | (go_at_call 45; ((with_reducible refine (CH.out _).mono ?_); rintro e w2 ⟨rfl, b2⟩; have B2 := Lib.hid b2; clear b2))
    | (go_at_call 46; ((with_reducible refine (CP.out _).mono ?_); rintro e w3 ⟨g3, rfl, -, b3⟩; have B3 := Lib.hid (below_then B2.out b3); clear b3)))
  go_ret
  exact ⟨rfl, below_then (fd_bs (Below.refl _ _)) B3.out⟩
set_option maxHeartbeats 1000000 in
set_option maxRecDepth 100000 in
theorem run_puF {G : Nat → Prop} {w : World} {A : Ad} {V : Wv} {q : Nat} {b k s a t z y : Int} {tg ref tags0 : Int} (h : Opw G w A V q (puC b k s tg ref tags0 3)) (ha : itemf b k s = a) (ht : tagsf b k = t) (hne : t ≠ a) (hr : 1 ≤ ref ∧ ref ≤ 9223372036854775807) (hz : V.f t = z) (hy : withf z s tg = y) (hc : V.cnt < 100000000) :
    Calls Tryz.prog 38 #[.pointer (some ⟨A.p, 0, none⟩), .iface 122 (.pointer (some ⟨q, 0, none⟩)), .int .i64 9] w fun e w' => e = .returned (.int .i64 3) ∧ (∃ V', Opw G w' A V' q (puC b k s tg ref z 0) ∧ V'.f = upd (upd V.f a ref) t y ∧ V'.cnt = V.cnt + 3 ∧ V'.I = V.I) ∧ Kp G w w' := by
  have hu : isU a := ha ▸ uItem b k s
  have hv : isU t := ht ▸ uTags b k
  have hzu : isU z := hz ▸ h.rng hv
  have C1 := Lib.hid (pu_step3 h ha hu hr (by omega))
  have CO := Lib.hid (pu_over (o := false) h.ob (by decide))
  clear h
  go_enter Tryz.func38, Tryz.ntmps38
  go_wp2_with fail
  refine wp_loop_rounds 4 ?_
  rw [rounds_succ]
  go_wp2_with fail
  refine CO.out.mono ?_
  rintro e w100 ⟨rfl, rfl⟩
  go_wp2_with fail
  refine C1.out.mono ?_
  rintro e w1 ⟨rfl, hT, K⟩
  clear CO C1
  have HB1 := Lib.hid K
  have CO := Lib.hid (pu_over (o := false) hT.ob (by decide))
  have C1 := Lib.hid (pu_step2 hT ht hv (show upd V.f a ref t = z by rw [upd_other hne]; exact hz) (by show V.cnt + 1 < _; omega))
  clear hT K
  go_wp2_with fail
  rw [rounds_succ]
  go_wp2_with fail
  refine CO.out.mono ?_
  rintro e w101 ⟨rfl, rfl⟩
  go_wp2_with fail
  refine C1.out.mono ?_
  rintro e w2 ⟨rfl, hT, K⟩
  clear CO C1
  have HB2 := Lib.hid (Kp.to HB1.out K)
  have CO := Lib.hid (pu_over (o := false) hT.ob (by decide))
  have C1 := Lib.hid (pu_step1 hT ht hv hzu hy (by show V.cnt + 1 + 1 < _; omega))
  clear hT K
  go_wp2_with fail
  rw [rounds_succ]
  go_wp2_with fail
  refine CO.out.mono ?_
  rintro e w102 ⟨rfl, rfl⟩
  go_wp2_with fail
  refine C1.out.mono ?_
  rintro e w3 ⟨rfl, hT, K⟩
  clear CO C1
  have HB3 := Lib.hid (Kp.to HB2.out K)
  have CO := Lib.hid (pu_over (o := true) hT.ob (by decide))
  have HT := Lib.hid hT
  clear hT K
  go_wp2_with fail
  rw [rounds_succ]
  go_wp2_with fail
  refine CO.out.mono ?_
  rintro e w200 ⟨rfl, rfl⟩
  go_wp2_with fail
  go_ret
  exact ⟨rfl, ⟨_, HT.out, rfl, by show V.cnt + 1 + 1 + 1 = V.cnt + 3; omega, rfl⟩, HB3.out⟩
end Go.Proofs.YtodppilfpemepaaGreat
/- Next: Finds: the chapter's example lives. -/
namespace Go.Proofs.YtodppilfpemepaaGreat
open Go.RowKit Go.Maps
set_option linter.unusedVariables false
theorem fd_c0 {G : Nat → Prop} {w : World} {A : Ad} {V : Wv} (h : WdG G w A V) : w.cell? ⟨A.p, 0, none⟩ = some (.pointer (some ⟨A.pc, 0, none⟩)) := by
  obtain ⟨S, h1, -⟩ := h
  exact h1.box.c0
theorem fd_v10 {z : Int} (h : z ≠ 2) : V10.f z = 0 := by show upd (fun _ => 0) 2 2 z = 0; exact upd_other h
/-- How many items are there by now. -/
def FdN (G : Nat → Prop) (w0 : World) (A : Ad) (f0 : Int → Int) (n0 : Int) (k : Nat) (w : World) : Prop := ∃ V, (V.f = f0 ∧ V.cnt = n0 ∧ V.I = List.replicate k (keyF, ⟨#[]⟩, 0, 0, 0, 0)) ∧ WdG G w A V ∧ Kp G w0 w
set_option maxHeartbeats 4000000 in
set_option maxRecDepth 100000 in
theorem lives15 (w : World) : Calls Tryz.prog 16 #[] w fun e w' => e = .returned (.bool true) ∧ Below w.heap.size w w' := by
  obtain ⟨G, hG⟩ : ∃ G : Nat → Prop, G = fun k => k < w.heap.size := ⟨_, rfl⟩
  have HGG := Lib.hid hG
  clear hG
  have CH : ∀ W, Calls Tryz.prog 45 #[.string keyF] W _ := fun W => hash keyF W (by decide)
  rw [keyF_z] at CH
  have CH := Lib.hid CH
  have CP := Lib.hid keyF_of
  have CG := fun W => tag zF W zF_U.1 (by decide)
  rw [zF_tag] at CG
  have CG := Lib.hid CG
  have hk3 : keyF.toList.isEmpty = false := by kernel_rfl
  go_enter Tryz.func16, Tryz.ntmps16
  go_wp2_with fail
  refine (world2R _).mono ?_
  rintro e w1 ⟨A, rfl, hW, k1⟩
  have HW := Lib.hid (show WdG G w1 A V10 by rw [HGG.out]; exact hW.g k1.size)
  have K1 := Lib.hid k1
  clear hW k1
  go_wp2_with fail
  refine (two2 _).mono ?_
  rintro e w2 ⟨rfl, b2⟩
  have B2 := Lib.hid b2
  clear b2
  generalize hKF : keyF = KF at *
  have HKF := Lib.hid hKF
  clear hKF
  go_wp2_with fail
  clear hk3
  rw [← HKF.out]
  refine (newFind keyF w2).mono ?_
  rintro e w3 ⟨q1, bx1, bk1, g1, c1, rfl, o3, ⟨m1, m2, m3⟩, ⟨l1, l2, l3, l4⟩, ⟨-, n2, n3⟩, hc3, b3⟩
  rw [HKF.out]
  obtain ⟨G1, hG1⟩ : ∃ G1 : Nat → Prop, G1 = fun k => G k ∨ (w2.heap.size ≤ k ∧ k < w3.heap.size ∧ k ≠ q1) := ⟨_, rfl⟩
  have s3 : FdB G1 w3 A V10 V10.cnt q1 w3 := by
    rw [hG1]
    exact ⟨V10, bx1, bk1, g1, c1, ⟨rfl, rfl, rfl⟩, fd_newE ((show WdG G w2 A V10 from by obtain ⟨S, h1, h2, h3⟩ := HW.out; exact ⟨S, h1.new B2.out, h2, fun k g => Nat.lt_of_lt_of_le (h3 k g) B2.out.size⟩)) o3 l1 b3, ⟨m1, m2, m3⟩, ⟨.inr ⟨l2, World.block_lt_of_cell? _ _ m2, n2⟩, .inr ⟨l3, World.block_lt_of_cell? _ _ m3, n3⟩⟩, hc3, Keeps.refl _ _⟩
  have HG1 := Lib.hid (show ∀ k, G k → G1 k by rw [hG1]; exact fun k g => .inl g)
  have CR := Lib.hid (run_none s3 rfl (fd_v10 (by decide)) (fd_v10 (by decide)) (by decide))
  have B3 := Lib.hid (below_then B2.out b3)
  clear hG1 s3 o3 m1 m2 m3 l1 l2 l3 l4 n2 n3 hc3 b3 B2 HW
  go_wp2_with fail
  refine CR.out.mono ?_
  rintro e w4 ⟨rfl, V4, pa, pc, la, lc, ⟨v1, v2, v3⟩, h4, k4⟩
  have CGT := Lib.hid (fd_got h4.ob)
  obtain ⟨G2, hG2⟩ : ∃ G2 : Nat → Prop, G2 = fun k => G1 k ∨ k = q1 := ⟨_, rfl⟩
  have H4 := Lib.hid (And.intro (show WdG G2 w4 A V4 by rw [hG2]; exact fd_keepQ h4) h4.ob)
  have HG2 := Lib.hid (show (∀ k, G1 k → G2 k) ∧ G2 q1 by rw [hG2]; exact ⟨fun k g => .inl g, .inr rfl⟩)
  have HV4 := Lib.hid (And.intro v1 (And.intro v2 v3))
  have K4 := Lib.hid (Kp.to (Kp.of B3.out) (k4.less HG1.out))
  clear hG2 h4 v1 v2 v3 k4 CR
  go_wp2_with fail
  refine CGT.out.mono ?_
  rintro e w5 ⟨rfl, b5⟩
  unfold gotF
  go_upto_region 8 with (fail)
  generalize hW6 : World.alloc w5 _ = W6
  have B6 := Lib.hid (below_then b5 (show Below w5.heap.size w5 W6 by rw [← hW6]; exact fd_bs (Below.refl _ _)))
  have s6 : FdN G2 W6 A V4.f V4.cnt 0 W6 := ⟨V4, ⟨rfl, rfl, HV4.out.2.2⟩, (show WdG G2 W6 A V4 from by obtain ⟨S, h1, h2, h3⟩ := H4.out.1; exact ⟨S, h1.new B6.out, h2, fun k g => Nat.lt_of_lt_of_le (h3 k g) B6.out.size⟩), Keeps.refl _ _⟩
  have S6 := Lib.hid s6
  clear hW6 b5 s6 CGT
  go_wp2_with fail
  go_loopw [7] (fun i X => ∃ k : Nat, k ≤ 5 ∧ i = .int .i64 k ∧ FdN G2 W6 A V4.f V4.cnt k X) (fun i _ => 5 - (intOf i).toNat)
  case atStart => exact ⟨0, by omega, rfl, S6.out⟩
  case round =>
    obtain ⟨k, hk, rfl, V, ⟨v1, v2, v3⟩, hw, hkk⟩ := hrel
    by_cases hlt : k < 5
    · have x1 := fd_box hw
      have CI := Lib.hid (fd_item hw (by rw [v3, List.length_replicate]; omega) KF ⟨#[]⟩ 0 0 0 0)
      have HV := Lib.hid (And.intro v1 (And.intro v2 v3))
      have HK := Lib.hid hkk
      have HLT := Lib.hid hlt
      have j1 : (k : Int) < 5 := by omega
      clear hw v1 v2 v3 hkk hk hlt
      go_wp2_with (go_at_call 44; ((with_reducible refine CI.out.mono ?_); rintro e w7 ⟨⟨v, rfl⟩, h7, k7⟩; have H7 := Lib.hid (And.intro h7 k7); clear h7 k7))
      go_roundw
      case rel => exact ⟨k + 1, by have := HLT.out; omega, by go_num, V.item (KF, ⟨#[]⟩, 0, 0, 0, 0), ⟨HV.out.1, HV.out.2.1, by show V.I ++ [_] = _; rw [HV.out.2.2, HKF.out, List.replicate_succ']⟩, H7.out.1, Kp.to HK.out H7.out.2⟩
      case measure => have := HLT.out; simp [intOf]; omega
    · obtain rfl : k = 5 := by omega
      have HV := Lib.hid (And.intro v1 (And.intro v2 v3))
      have HWD := Lib.hid hw
      have K7 := Lib.hid hkk
      clear hw v1 v2 v3 hkk hk hlt
      go_wp2_with fail
      refine (CH.out _).mono ?_
      rintro e w8 ⟨rfl, b8⟩
      have B8 := Lib.hid b8
      clear b8 S6
      go_upto_region 14 with (go_at_call 46; ((with_reducible refine (CP.out _).mono ?_); rintro e w9 ⟨g9, rfl, ⟨p2, p3⟩, b9⟩; have B9 := Lib.hid (below_then B8.out b9); clear b9))
      obtain ⟨P9, hP9⟩ : ∃ P, P = w9.heap.size := ⟨_, rfl⟩
      rw [← hP9]
      generalize hW10 : World.alloc w9 _ = W10
      have s0 : W10.cell? ⟨P9, 0, none⟩ = some (.int .i64 2) := by rw [← hW10]; exact fd_newat hP9 rfl
      have s1 : W10.cell? ⟨P9, 1, none⟩ = some (.int .i64 3) := by rw [← hW10]; exact fd_newat hP9 rfl
      have s2 : W10.cell? ⟨P9, 2, none⟩ = some (.int .i64 3) := by rw [← hW10]; exact fd_newat hP9 rfl
      have l9 : P9 < W10.heap.size := by rw [← hW10, hP9]; simp
      have b10 : Below wr.heap.size wr W10 := below_then B9.out (by rw [← hW10]; exact fd_bs (Below.refl _ _))
      obtain ⟨G3, hG3⟩ : ∃ G3 : Nat → Prop, G3 = fun k => G2 k ∨ (wr.heap.size ≤ k ∧ k < W10.heap.size) := ⟨_, rfl⟩
      have H10 := Lib.hid (show WdG G3 W10 A V by rw [hG3]; exact fd_addN HWD.out b10)
      have HG3 := Lib.hid (show (∀ k, G2 k → G3 k) ∧ G3 P9 by rw [hG3]; exact ⟨fun k g => .inl g, .inr ⟨by rw [hP9]; exact B9.out.size, l9⟩⟩)
      have CX := Lib.hid (fun W (hk : Kp G3 W10 W) => (show W.cell? ⟨P9, 0, none⟩ = some (.int .i64 2) ∧ W.cell? ⟨P9, 1, none⟩ = some (.int .i64 3) ∧ W.cell? ⟨P9, 2, none⟩ = some (.int .i64 3) from ⟨hk.cell (p := ⟨P9, 0, none⟩) (fun n => n HG3.out.2) s0, hk.cell (p := ⟨P9, 1, none⟩) (fun n => n HG3.out.2) s1, hk.cell (p := ⟨P9, 2, none⟩) (fun n => n HG3.out.2) s2⟩))
      have B10 := Lib.hid b10
      have hd : Below W10.heap.size W10 W10.drew := (Below.refl _ _).drew
      have HD := Lib.hid (And.intro (show Kp G3 W10 W10.drew from Kp.of hd) (show WdG G3 W10.drew A V from by obtain ⟨S, h1, h2, h3⟩ := H10.out; exact ⟨S, h1.new hd, h2, fun k g => Nat.lt_of_lt_of_le (h3 k g) hd.size⟩))
      have CN := Lib.hid (fun W => newPut 2 3 3 175 5 W (z := 3) (by decide))
      have hcn : V.cnt < 100 := by have e1 := HV.out.2.1; have e2 := HV4.out.2.1; have e3 : V10.cnt = 0 := rfl; omega
      have hvt : V.f 4152 = 0 := by rw [HV.out.1, HV4.out.1]; exact fd_v10 (by decide)
      have HCN := Lib.hid (And.intro hcn hvt)
      clear hW10 hP9 s0 s1 s2 l9 b10 hG3 p2 p3 hd hcn hvt HWD
      have CR0 := Lib.hid (fun (W : World) (q2 : Nat) (o12 : Ob W q2 (puC 2 3 3 175 5 0 3)) (l12 : W10.drew.heap.size ≤ q2) (b12 : Below W10.drew.heap.size W10.drew W) => run_puF (op_newQ HD.out.2 o12 l12 b12) itemF3 tagsA3 (by decide) ⟨by decide, by decide⟩ HCN.out.2 withF3 (by have := HCN.out.1; omega))
      obtain ⟨s0, s1, s2⟩ := CX.out _ HD.out.1
      go_region_held3 (fun X => X.cell? ⟨P9, 0, none⟩ = some (.int .i64 2) ∧ X.cell? ⟨P9, 1, none⟩ = some (.int .i64 3) ∧ X.cell? ⟨P9, 2, none⟩ = some (.int .i64 3))
        (first | exact ⟨by assumption, by assumption, by assumption⟩)
        (first
          | (go_at_call 29; ((with_reducible refine (CG.out _).mono ?_); rintro e w11 ⟨rfl, rfl⟩))
          | (go_at_call 47; ((with_reducible refine (CN.out _).mono ?_); rintro e w12 ⟨q2, rfl, o12, l12, b12⟩; have CR := Lib.hid (CR0.out _ _ o12 l12 b12); have K12 := Lib.hid (Kp.to HD.out.1 (Kp.of b12)); clear s0 s1 s2 o12 l12 b12; obtain ⟨s0, s1, s2⟩ := CX.out _ K12.out))
          | (go_at_call 38; ((with_reducible refine CR.out.mono ?_); rintro e w13 ⟨rfl, ⟨V13, h13, f13, c13, i13⟩, k13⟩; have H13 := Lib.hid (And.intro (fd_wd h13) (And.intro f13 (And.intro c13 i13))); have K13 := Lib.hid (Kp.to K12.out k13); clear s0 s1 s2 h13 f13 c13 i13 k13; obtain ⟨s0, s1, s2⟩ := CX.out _ K13.out)))
      clear s0 s1 s2 CN CR CG CP CH K12 HD H10
      go_wp2_with fail
      rw [← HKF.out]
      refine (newFind keyF w13).mono ?_
      rintro e w14 ⟨q3, bx3, bk3, g3, c3, rfl, o3, ⟨m1, m2, m3⟩, ⟨l1, l2, l3, l4⟩, ⟨-, n2, n3⟩, hc3, b3⟩
      rw [HKF.out]
      obtain ⟨hw13, f13, c13, i13⟩ := H13.out
      obtain ⟨G4, hG4⟩ : ∃ G4 : Nat → Prop, G4 = fun k => G3 k ∨ (w13.heap.size ≤ k ∧ k < w14.heap.size ∧ k ≠ q3) := ⟨_, rfl⟩
      have s3 : FdB G4 w14 A V13 V13.cnt q3 w14 := by
        rw [hG4]
        exact ⟨V13, bx3, bk3, g3, c3, ⟨rfl, rfl, rfl⟩, fd_newE hw13 o3 l1 b3, ⟨m1, m2, m3⟩, ⟨.inr ⟨l2, World.block_lt_of_cell? _ _ m2, n2⟩, .inr ⟨l3, World.block_lt_of_cell? _ _ m3, n3⟩⟩, hc3, Keeps.refl _ _⟩
      have HG4 := Lib.hid (show ∀ k, G3 k → G4 k by rw [hG4]; exact fun k g => .inl g)
      have ff : V13.f = upd (upd V10.f 4156 5) 4152 2936012800 := by rw [f13, HV.out.1, HV4.out.1]
      have CR := Lib.hid (run_one s3 (by rw [ff, upd_other (by decide), upd_other (by decide)]; rfl) (by rw [ff, upd_other (by decide), upd_other (by decide)]; exact fd_v10 (by decide)) (by rw [ff]; exact upd_same _ _ _) itemF3 ⟨by decide, by decide⟩ (by rw [ff, upd_other (by decide)]; exact upd_same _ _ _) (by rw [i13, HV.out.2.2]; rfl) (by have := HCN.out.1; omega))
      have B14 := Lib.hid b3
      clear hG4 s3 o3 m1 m2 m3 l1 l2 l3 l4 n2 n3 hc3 b3 hw13 f13 c13 i13 ff
      go_wp2_with fail
      refine CR.out.mono ?_
      rintro e w15 ⟨rfl, V15, -, h15, k15⟩
      have CGT := Lib.hid (fd_got h15.ob)
      have K15 := Lib.hid k15
      clear h15 k15 CR
      go_wp2_with fail
      refine CGT.out.mono ?_
      rintro e w16 ⟨rfl, b16⟩
      unfold gotF
      go_upto_region 18 with (fail)
      obtain ⟨P17, hP17⟩ : ∃ P, P = w16.heap.size := ⟨_, rfl⟩
      rw [← hP17]
      generalize hW17 : World.alloc w16 _ = W17
      have t0 : W17.cell? ⟨P17, 0, none⟩ = some (.int .i64 2) := by rw [← hW17]; exact fd_newat hP17 rfl
      have t1 : W17.cell? ⟨P17, 1, none⟩ = some (.int .i64 3) := by rw [← hW17]; exact fd_newat hP17 rfl
      have t2 : W17.cell? ⟨P17, 2, none⟩ = some (.int .i64 3) := by rw [← hW17]; exact fd_newat hP17 rfl
      have kA : Kp G3 W10 W17 := Kp.to (Kp.to (Kp.to K13.out (Kp.of B14.out)) (K15.out.less HG4.out)) (Kp.of (below_then b16 (by rw [← hW17]; exact fd_bs (Below.refl _ _))))
      have kB : Kp G2 w4 W17 := Kp.to (Kp.to (Kp.to (Kp.of B6.out) K7.out) (Kp.of B10.out)) (kA.less HG3.out.1)
      obtain ⟨s0, s1, s2⟩ := CX.out _ kA
      have CW := Lib.hid (fd_word (H4.out.2.keep kB (fun n => n HG2.out.2)))
      have KK := Lib.hid (Kp.to K4.out (kB.less (fun k g => HG2.out.1 k (HG1.out k g))))
      have q1 : ∀ W, (binOp .eql 41 (.agg #[.int .i64 2, .int .i64 3, .int .i64 3]) (.agg #[.int .i64 2, .int .i64 3, .int .i64 3])).run Tryz.prog W = .ok (.bool true) W := fun W => by kernel_rfl
      clear hW17 hP17 b16 kA kB CGT CX
      go_wp2_with (go_at_call 15; ((with_reducible refine CW.out.mono ?_); rintro e w18 ⟨rfl, rfl⟩))
      go_ret
      refine ⟨rfl, ?_⟩
      have kk : Kp G w W17 := Kp.to (Kp.of K1.out) KK.out
      rw [HGG.out] at kk
      exact kk.below (Nat.le_refl _)
end Go.Proofs.YtodppilfpemepaaGreat
