/- A world of two first bits; a spot of a table. -/
import Derived.Test.YtodppilfpemepaaGreatWd4
import Derived.Test.YtodppilfpemepaaGreatFnvs
import Derived.Test.YtodppilfpemepaaGreatOb
import Derived.Laws.EntriesVeiled
import Derived.Deep.Cut
import Derived.Deep.CutBlock
import Derived.Deep.RegionHeld3
import Derived.Test.YtodppilfpemepaaGreatGPl
import Derived.Test.YtodppilfpemepaaGreatTagCount
namespace Go.Proofs.YtodppilfpemepaaGreat
open Go.RowKit Go.Maps
set_option linter.unusedVariables false
def IsW2R (w : World) (e : Ending) (w' : World) : Prop := ∃ A, e = .returned (.pointer (some ⟨A.p, 0, none⟩)) ∧ WdB w' A V10 w.heap.size ∧ Below w.heap.size w w'
theorem world2R (w : World) : Calls Tryz.prog 37 #[.int .i64 2] w (IsW2R w) := by
  have C := Lib.hid (newW 2 8 3 1 16 w (by decide))
  go_enter Tryz.func37, Tryz.ntmps37
  go_wp2_with fail
  refine C.out.mono ?_
  rintro e w1 ⟨A, rfl, hW, K⟩
  have HW := Lib.hid hW
  have HK := Lib.hid K
  clear hW K C
  go_wp2_with fail
  go_ret
  exact ⟨A, rfl, HW.out, HK.out⟩
theorem spotwR {b m kk s k' s' : Int} (hb : (b = 1 ∧ m = 2) ∨ (b = 2 ∧ m = 4) ∨ (b = 3 ∧ m = 8) ∨ (b = 4 ∧ m = 16)) (hk : kk.tmod m = k') (hs : s.tmod 4 = s') (k1 : 0 ≤ k' ∧ k' < 1000) (s1 : 0 ≤ s' ∧ s' < 1000) (w : World) :
    Calls Tryz.prog 41 #[.int .i64 b, .int .i64 kk, .int .i64 s] w fun e w' => e = .returned (.agg #[.int .i64 b, .int .i64 k', .int .i64 s']) ∧ Below w.heap.size w w' := by
  have yk : IntKind.i64.wrap k' = k' := IntWalk.i64_in _ (by omega)
  have ys : IntKind.i64.wrap s' = s' := IntWalk.i64_in _ (by omega)
  have CS := Lib.hid (fun W => size_any b W)
  have hz : szf b = m := by
    rcases hb with ⟨rfl, rfl⟩ | ⟨rfl, rfl⟩ | ⟨rfl, rfl⟩ | ⟨rfl, rfl⟩ <;> decide
  rw [hz] at CS
  clear hz
  rcases hb with ⟨rfl, rfl⟩ | ⟨rfl, rfl⟩ | ⟨rfl, rfl⟩ | ⟨rfl, rfl⟩
  all_goals
    go_enter Tryz.func41, Tryz.ntmps41
    go_wp2_with fail
    refine (CS.out _).mono ?_
    rintro e w1 ⟨rfl, rfl⟩
    go_wp2_with fail
    exact bodyPost_ret (v := .agg #[.int .i64 _, .int .i64 k', .int .i64 s']) (by simp [results, Tryz.results41, go_sem]) rfl ⟨rfl, (Below.refl _ _).alloc (Nat.le_refl _) _⟩
end Go.Proofs.YtodppilfpemepaaGreat
/- Next: Rooms: the program's; what one tells, and its steps' frame. -/
namespace Go.Proofs.YtodppilfpemepaaGreat
open Go.RowKit Go.Maps
set_option linter.unusedVariables false
/-- A Room, as it lies. -/
def rmC (fb fk sb sk : Int) (nx wy hp : Value) (tb tk ts : Int) (is : Bool) : List Value := [.int .i64 fb, .int .i64 fk, .int .i64 sb, .int .i64 sk, nx, wy, hp, .int .i64 tb, .int .i64 tk, .int .i64 ts, .bool is]
def nxR (f : FuncId) : Value := .func (.func f) #[] #[]
def rm0 : List Value := rmC 0 0 0 0 .nilFunc (.pointer none) (.pointer none) 0 0 0 false
section
variable {G : Nat → Prop} {w : World} {A : Ad} {V : Wv} {q : Nat} {fb fk sb sk tb tk ts : Int} {is r : Bool} {nx wy hp : Value} {f : FuncId}
theorem rm_over_nil (w : World) : Calls Tryz.prog 8 #[.pointer none] w fun e w' => e = .returned (.bool true) ∧ w = w' := by
  go_enter Tryz.func8, Tryz.ntmps8
  go_wp2_with fail
  go_ret
  exact ⟨rfl, rfl⟩
theorem rm_over (h : Ob w q (rmC fb fk sb sk .nilFunc wy hp tb tk ts is)) : Calls Tryz.prog 8 #[.pointer (some ⟨q, 0, none⟩)] w fun e w' => e = .returned (.bool true) ∧ w = w' := by
  have c3 := h.at_ 4 _ rfl
  have hq : ∀ W, (binOp .eql 37 .nilFunc .nilFunc).run Tryz.prog W = .ok (.bool true) W := fun W => by kernel_rfl
  clear h
  go_enter Tryz.func8, Tryz.ntmps8
  go_wp2_with fail
  go_ret
  exact ⟨rfl, rfl⟩
theorem rm_overn (h : Ob w q (rmC fb fk sb sk (nxR f) wy hp tb tk ts is)) : Calls Tryz.prog 8 #[.pointer (some ⟨q, 0, none⟩)] w fun e w' => e = .returned (.bool false) ∧ w = w' := by
  have c3 := h.at_ 4 _ rfl
  unfold nxR at c3
  have hq : ∀ W, (binOp .eql 37 (.func (.func f) #[] #[]) .nilFunc).run Tryz.prog W = .ok (.bool false) W := fun W => by kernel_rfl
  clear h
  go_enter Tryz.func8, Tryz.ntmps8
  go_wp2_with fail
  go_ret
  exact ⟨rfl, rfl⟩
theorem rm_st_nil (w : World) (x : Value) : Calls Tryz.prog 9 #[.pointer none, x] w fun e w' => e = .returned (.bool true) ∧ w = w' := by
  go_enter Tryz.func9, Tryz.ntmps9
  go_wp2_with (go_at_call 8; ((with_reducible refine (rm_over_nil _).mono ?_); rintro e w1 ⟨rfl, rfl⟩))
  go_ret
  exact ⟨rfl, rfl⟩
theorem rm_st_over (h : Ob w q (rmC fb fk sb sk .nilFunc wy hp tb tk ts is)) (x : Value) : Calls Tryz.prog 9 #[.pointer (some ⟨q, 0, none⟩), x] w fun e w' => e = .returned (.bool true) ∧ w = w' := by
  have C1 := Lib.hid (rm_over h)
  clear h
  go_enter Tryz.func9, Tryz.ntmps9
  go_wp2_with (go_at_call 8; ((with_reducible refine C1.out.mono ?_); rintro e w1 ⟨rfl, rfl⟩))
  go_ret
  exact ⟨rfl, rfl⟩
theorem rm_st_no (h : Ob w q (rmC fb fk sb sk (nxR f) wy hp tb tk ts is)) : Calls Tryz.prog 9 #[.pointer (some ⟨q, 0, none⟩), .pointer none] w fun e w' => e = .returned (.bool false) ∧ w = w' := by
  have C1 := Lib.hid (rm_overn h)
  clear h
  go_enter Tryz.func9, Tryz.ntmps9
  go_wp2_with (go_at_call 8; ((with_reducible refine C1.out.mono ?_); rintro e w1 ⟨rfl, rfl⟩))
  go_ret
  exact ⟨rfl, rfl⟩
theorem rm_st_lookFirst {a : Nat} {P : World → Prop} (h : Ob w q (rmC fb fk sb sk (nxR 30) wy hp tb tk ts is)) (hs : Calls Tryz.prog 30 #[.pointer (some ⟨q, 0, none⟩), .pointer (some ⟨a, 0, none⟩)] w fun e w' => e = .returned (.tuple #[]) ∧ P w') (hP : ∀ w', P w' → Calls Tryz.prog 8 #[.pointer (some ⟨q, 0, none⟩)] w' fun e w'' => e = .returned (.bool r) ∧ w' = w'') :
    Calls Tryz.prog 9 #[.pointer (some ⟨q, 0, none⟩), .pointer (some ⟨a, 0, none⟩)] w fun e w' => e = .returned (.bool r) ∧ P w' := by
  have c2 := h.at_ 4 _ rfl
  have C1 := Lib.hid (rm_overn h)
  unfold nxR at c2
  have HS := Lib.hid hs
  have HP := Lib.hid hP
  clear h hs hP
  go_enter Tryz.func9, Tryz.ntmps9
  go_wp2_with (first
    | (go_at_call 8; first | ((with_reducible refine C1.out.mono ?_); rintro e w1 ⟨rfl, rfl⟩) | ((with_reducible refine CO.out.mono ?_); rintro e w1 ⟨rfl, rfl⟩))
    | (go_at_call 30; ((with_reducible refine HS.out.mono ?_); rintro e w2 ⟨rfl, h2⟩; have CO := Lib.hid (HP.out _ h2); have H2 := Lib.hid h2; clear h2 c2 C1)))
  go_ret
  exact ⟨rfl, H2.out⟩
theorem rm_st_lookSecond {a : Nat} {P : World → Prop} (h : Ob w q (rmC fb fk sb sk (nxR 70) wy hp tb tk ts is)) (hs : Calls Tryz.prog 70 #[.pointer (some ⟨q, 0, none⟩), .pointer (some ⟨a, 0, none⟩)] w fun e w' => e = .returned (.tuple #[]) ∧ P w') (hP : ∀ w', P w' → Calls Tryz.prog 8 #[.pointer (some ⟨q, 0, none⟩)] w' fun e w'' => e = .returned (.bool r) ∧ w' = w'') :
    Calls Tryz.prog 9 #[.pointer (some ⟨q, 0, none⟩), .pointer (some ⟨a, 0, none⟩)] w fun e w' => e = .returned (.bool r) ∧ P w' := by
  have c2 := h.at_ 4 _ rfl
  have C1 := Lib.hid (rm_overn h)
  unfold nxR at c2
  have HS := Lib.hid hs
  have HP := Lib.hid hP
  clear h hs hP
  go_enter Tryz.func9, Tryz.ntmps9
  go_wp2_with (first
    | (go_at_call 8; first | ((with_reducible refine C1.out.mono ?_); rintro e w1 ⟨rfl, rfl⟩) | ((with_reducible refine CO.out.mono ?_); rintro e w1 ⟨rfl, rfl⟩))
    | (go_at_call 70; ((with_reducible refine HS.out.mono ?_); rintro e w2 ⟨rfl, h2⟩; have CO := Lib.hid (HP.out _ h2); have H2 := Lib.hid h2; clear h2 c2 C1)))
  go_ret
  exact ⟨rfl, H2.out⟩
end
end Go.Proofs.YtodppilfpemepaaGreat
/- Next: Rooms: the program's; how one begins, and its looks. -/
namespace Go.Proofs.YtodppilfpemepaaGreat
open Go.RowKit Go.Maps
set_option linter.unusedVariables false
section
variable {G : Nat → Prop} {w : World} {A : Ad} {V : Wv} {q : Nat} {fb fk sb sk tb tk ts a v s pb pk : Int} {is r : Bool} {nx wy hp : Value} {f : FuncId} {P : World → Prop}
set_option maxRecDepth 100000 in
theorem newRoom_no (b h : Int) (hb : szf b = 0) (w : World) : Calls Tryz.prog 6 #[.int .i64 b, .int .u64 h] w fun e w' => e = .returned (.pointer (some ⟨w.heap.size, 0, none⟩)) ∧ Ob w' w.heap.size rm0 ∧ Below w.heap.size w w' := by
  have CS := fun W => size_any b W
  rw [hb] at CS
  have CS := Lib.hid CS
  clear hb
  go_enter Tryz.func6, Tryz.ntmps6
  go_wp2_with fail
  refine (CS.out _).mono ?_
  rintro e w1 ⟨rfl, rfl⟩
  go_wp2_with fail
  go_ret
  exact ⟨rfl, ob_new rfl, (Below.refl _ _).alloc (Nat.le_refl _) _⟩
set_option maxHeartbeats 1000000 in
set_option maxRecDepth 100000 in
theorem newRoom2 (h : Int) (hu : isU h) (w : World) {k1 k2 : Int} (hk1 : bkt h 2 = k1) (hk2 : othf k1 (max 1 (h / 72057594037927936)) 2 = k2) : Calls Tryz.prog 6 #[.int .i64 2, .int .u64 h] w fun e w' => e = .returned (.pointer (some ⟨w.heap.size, 0, none⟩)) ∧ Ob w' w.heap.size (rmC 2 k1 2 k2 (nxR 30) (.pointer none) (.pointer none) 0 0 0 false) ∧ Below w.heap.size w w' := by
  have CS := Lib.hid (fun W => size_any 2 W)
  have CB := fun W => bucket_any h 2 W hu.1 (by have := hu.2; omega)
  rw [hk1] at CB
  have CB := Lib.hid CB
  have CT := Lib.hid (fun W => tag h W hu.1 (by have := hu.2; omega))
  have CO := fun W => other_any k1 (max 1 (h / 72057594037927936)) 2 W
  rw [hk2] at CO
  have CO := Lib.hid CO
  have hs : (szf 2 == 0) = false := by decide
  generalize max 1 (h / 72057594037927936) = tg at *
  clear hu hk1 hk2
  go_enter Tryz.func6, Tryz.ntmps6
  go_wp2_with (first
    | (go_at_call 26; ((with_reducible refine (CS.out _).mono ?_); rintro e w1 ⟨rfl, rfl⟩))
    | (go_at_call 27; ((with_reducible refine (CB.out _).mono ?_); rintro e w1 ⟨rfl, rfl⟩))
    | (go_at_call 29; ((with_reducible refine (CT.out _).mono ?_); rintro e w1 ⟨rfl, rfl⟩))
    | (go_at_call 28; ((with_reducible refine (CO.out _).mono ?_); rintro e w1 ⟨rfl, rfl⟩)))
  go_ret
  exact ⟨rfl, ob_new rfl, (Below.refl _ _).alloc (Nat.le_refl _) _⟩
set_option maxHeartbeats 1000000 in
set_option maxRecDepth 100000 in
theorem rm_found (h : Opw G w A V q (rmC fb fk sb sk nx wy hp tb tk ts is)) (b k s : Int) :
    Calls Tryz.prog 111 #[.pointer (some ⟨q, 0, none⟩), .agg #[.int .i64 b, .int .i64 k, .int .i64 s]] w fun e w' => e = .returned (.tuple #[]) ∧ Opw G w' A V q (rmC fb fk sb sk .nilFunc wy hp b k s true) ∧ Kp G w w' := by
  have H0 := Lib.hid h
  clear h
  go_enter Tryz.func111, Tryz.ntmps111
  go_upto_region 1 with (fail)
  generalize hW1 : World.alloc w _ = W1
  have b1 : Below w.heap.size w W1 := by rw [← hW1]; exact (Below.refl _ _).alloc (Nat.le_refl _) _
  have e0 : W1.cell? ⟨w.heap.size, 0, none⟩ = some (.int .i64 b) := by rw [← hW1]; simp
  have e1 : W1.cell? ⟨w.heap.size, 1, none⟩ = some (.int .i64 k) := by rw [← hW1]; simp
  have e2 : W1.cell? ⟨w.heap.size, 2, none⟩ = some (.int .i64 s) := by rw [← hW1]; simp
  have h1 := H0.out.new b1
  have x7 := h1.ob.at_ 7 _ rfl
  have x8 := h1.ob.at_ 8 _ rfl
  have x9 := h1.ob.at_ 9 _ rfl
  have x10 := h1.ob.at_ 10 _ rfl
  have x4 := h1.ob.at_ 4 _ rfl
  have z7 := h1.ob.fz 7 (by show 7 < 11; decide)
  have z8 := h1.ob.fz 8 (by show 8 < 11; decide)
  have z9 := h1.ob.fz 9 (by show 9 < 11; decide)
  have z10 := h1.ob.fz 10 (by show 10 < 11; decide)
  have z4 := h1.ob.fz 4 (by show 4 < 11; decide)
  obtain ⟨h2, k2⟩ := h1.set 7 (.int .i64 b) (by show 7 < 11; decide) (C' := rmC fb fk sb sk nx wy hp b tk ts is) rfl
  obtain ⟨h3, k3⟩ := h2.set 8 (.int .i64 k) (by show 8 < 11; decide) (C' := rmC fb fk sb sk nx wy hp b k ts is) rfl
  obtain ⟨h4, k4⟩ := h3.set 9 (.int .i64 s) (by show 9 < 11; decide) (C' := rmC fb fk sb sk nx wy hp b k s is) rfl
  obtain ⟨h5, k5⟩ := h4.set 10 (.bool true) (by show 10 < 11; decide) (C' := rmC fb fk sb sk nx wy hp b k s true) rfl
  obtain ⟨h6, k6⟩ := h5.set 4 .nilFunc (by show 4 < 11; decide) (C' := rmC fb fk sb sk .nilFunc wy hp b k s true) rfl
  have FIN := Lib.hid (And.intro h6 (Kp.to (Kp.to (Kp.to (Kp.to (Kp.to (Kp.of b1) k2) k3) k4) k5) k6))
  clear h1 h2 h3 h4 h5 h6 k2 k3 k4 k5 k6 b1 hW1 H0
  go_wp2_with fail
  go_end0
  exact ⟨rfl, FIN.out.1, FIN.out.2⟩
theorem rm_addN {W : World} {C : List Value} (h : Opw G w A V q C) (hb : Below w.heap.size w W) : Opw (fun k => G k ∨ (w.heap.size ≤ k ∧ k < W.heap.size)) W A V q C := by
  obtain ⟨S, h1, h2, h3, h4, h5, h6⟩ := h
  refine ⟨S, h1.new hb, fun k g s => ?_, h3, h4.new hb, fun g => ?_, fun k g => ?_⟩
  · rcases g with g | g
    · exact h2 k g s
    · have := h1.lt _ s; omega
  · rcases g with g | g
    · exact h5 g
    · have := h4.lt; omega
  · rcases g with g | g
    · exact Nat.lt_of_lt_of_le (h6 k g) hb.size
    · exact g.2
theorem rm_less {G' : Nat → Prop} {C : List Value} (h : Opw G w A V q C) (hG : ∀ k, G' k → G k) : Opw G' w A V q C := by
  obtain ⟨S, h1, h2, h3, h4, h5, h6⟩ := h
  exact ⟨S, h1, fun k g => h2 k (hG k g), h3, h4, fun g => h5 (hG q g), fun k g => h6 k (hG k g)⟩
set_option maxHeartbeats 2000000 in
set_option maxRecDepth 100000 in
/-- A bucket is looked at: its slot, or none. -/
theorem rm_look (h : Opw G w A V q (rmC fb fk sb sk nx wy hp tb tk ts is)) (hta : tagsf pb pk = a) (hau : isU a) (hc : V.cnt < 1000000000) (hv : V.f a = v) (hs : fr4 v = s) {b : Bool} (hb : decide (s < 0) = b) {L' : List Value} (hL : L' = if b = true then rmC fb fk sb sk nx wy hp tb tk ts is else rmC fb fk sb sk .nilFunc wy hp pb pk s true) :
    Calls Tryz.prog 69 #[.pointer (some ⟨q, 0, none⟩), .pointer (some ⟨A.p, 0, none⟩), .agg #[.int .i64 pb, .int .i64 pk]] w fun e w' => e = .returned (.bool (!b)) ∧ Opw G w' A (V.acc V.f 1 a v v) q L' ∧ Kp G w w' := by
  have hvu : isU v := hv ▸ h.rng hau
  have CT := fun W => tagsw pb pk W
  rw [hta] at CT
  have CT := Lib.hid CT
  have CF := fun W => freew v W hvu.1 (by have := hvu.2; omega)
  rw [hs] at CF
  have CF := Lib.hid CF
  have CL := fun (G' : Nat → Prop) W (hW : Opw G' W A V q (rmC fb fk sb sk nx wy hp tb tk ts is)) => hW.load hau hc
  rw [hv] at CL
  have CL := Lib.hid CL
  have H0 := Lib.hid h
  have HL := Lib.hid hL
  generalize V.acc V.f 1 a v v = V1 at *
  clear h hta hau hv hs hvu hL
  go_enter Tryz.func69, Tryz.ntmps69
  go_upto_region 1 with (fail)
  generalize hW1 : World.alloc w _ = W1
  have b1 : Below w.heap.size w W1 := by rw [← hW1]; exact (Below.refl _ _).alloc (Nat.le_refl _) _
  obtain ⟨nb, hnb⟩ : ∃ nb, nb = w.heap.size := ⟨_, rfl⟩
  have e0 : W1.cell? ⟨nb, 0, none⟩ = some (.int .i64 pb) := by rw [← hW1, hnb]; simp
  have e1 : W1.cell? ⟨nb, 1, none⟩ = some (.int .i64 pk) := by rw [← hW1, hnb]; simp
  have hl1 : nb < W1.heap.size := by rw [hnb, ← hW1]; simp
  rw [← hnb]
  have HG := Lib.hid (show (fun k => G k ∨ (w.heap.size ≤ k ∧ k < W1.heap.size)) nb from .inr ⟨by omega, hl1⟩)
  have h1 := (rm_addN H0.out b1).new (Below.refl _ _).drew
  have K1 := Lib.hid (show Kp G w W1.drew from Kp.to (Kp.of b1) (Kp.of (Below.refl _ _).drew))
  clear hW1 hl1 b1 hnb
  generalize hG1 : (fun k => G k ∨ (w.heap.size ≤ k ∧ k < W1.heap.size)) = G1 at *
  have HGG := Lib.hid (show ∀ k, G k → G1 k by rw [← hG1]; exact fun k g => .inl g)
  have H1 := Lib.hid h1
  have c0 : W1.drew.cell? ⟨A.p, 0, none⟩ = some (.pointer (some ⟨A.pc, 0, none⟩)) := h1.box.c0
  have d0 : W1.drew.cell? ⟨nb, 0, none⟩ = some (.int .i64 pb) := e0
  have d1 : W1.drew.cell? ⟨nb, 1, none⟩ = some (.int .i64 pk) := e1
  clear h1 e0 e1 hG1 H0
  go_region_held3 (fun X => X.cell? ⟨A.p, 0, none⟩ = some (.pointer (some ⟨A.pc, 0, none⟩)) ∧ X.cell? ⟨nb, 0, none⟩ = some (.int .i64 pb) ∧ X.cell? ⟨nb, 1, none⟩ = some (.int .i64 pk))
    (first | exact ⟨by assumption, by assumption, by assumption⟩)
    (first
      | (go_at_call 40; ((with_reducible refine (CT.out _).mono ?_); rintro e w2 ⟨rfl, b2⟩; have h2 := H1.out.new b2; replace c0 := h2.box.c0; replace d0 := (Kp.of (G := G1) b2).cell (p := ⟨nb, 0, none⟩) (fun n => n HG.out) d0; replace d1 := (Kp.of (G := G1) b2).cell (p := ⟨nb, 1, none⟩) (fun n => n HG.out) d1; have C2 := Lib.hid (CL.out _ _ h2); have K2 := Lib.hid (Kp.to K1.out (Kp.of b2)); clear h2 b2))
      | (go_at_call 50; ((with_reducible refine C2.out.mono ?_); rintro e w3 ⟨rfl, h3, k3⟩; replace c0 := h3.box.c0; replace d0 := k3.cell (p := ⟨nb, 0, none⟩) (fun n => n HG.out) d0; replace d1 := k3.cell (p := ⟨nb, 1, none⟩) (fun n => n HG.out) d1; have H3 := Lib.hid h3; have K3 := Lib.hid (Kp.to K2.out (k3.less HGG.out)); clear h3 k3))
      | (go_at_call 110; ((with_reducible refine (CF.out _).mono ?_); rintro e w4 ⟨rfl, b4⟩; have h4 := H3.out.new b4; replace c0 := h4.box.c0; replace d0 := (Kp.of (G := G1) b4).cell (p := ⟨nb, 0, none⟩) (fun n => n HG.out) d0; replace d1 := (Kp.of (G := G1) b4).cell (p := ⟨nb, 1, none⟩) (fun n => n HG.out) d1; have H4 := Lib.hid (rm_less h4 HGG.out); have K4 := Lib.hid (Kp.to K3.out (Kp.of b4)); clear h4 b4)))
  clear c0
  cases b with
  | true =>
    rw [if_pos rfl] at HL
    go_wp2_with fail
    go_ret
    rw [HL.out]
    exact ⟨rfl, H4.out, K4.out⟩
  | false =>
    rw [if_neg (by decide)] at HL
    have CFO := Lib.hid (rm_found H4.out pb pk s)
    go_wp2_with (go_at_call 111; ((with_reducible refine CFO.out.mono ?_); rintro e w5 ⟨rfl, h5, k5⟩; have H5 := Lib.hid h5; have K5 := Lib.hid (Kp.to K4.out k5); clear h5 k5))
    go_ret
    rw [HL.out]
    exact ⟨rfl, H5.out, K5.out⟩
set_option maxHeartbeats 2000000 in
set_option maxRecDepth 100000 in
/-- The first bucket has a free slot. -/
theorem rm_first (h : Opw G w A V q (rmC fb fk sb sk nx wy hp tb tk ts is)) (hta : tagsf fb fk = a) (hau : isU a) (hc : V.cnt < 1000000000) (hv : V.f a = v) (hs : fr4 v = s) (h0 : decide (s < 0) = false) :
    Calls Tryz.prog 30 #[.pointer (some ⟨q, 0, none⟩), .pointer (some ⟨A.p, 0, none⟩)] w fun e w' => e = .returned (.tuple #[]) ∧ Opw G w' A (V.acc V.f 1 a v v) q (rmC fb fk sb sk .nilFunc wy hp fb fk s true) ∧ Kp G w w' := by
  have x0 := h.ob.at_ 0 _ rfl
  have x1 := h.ob.at_ 1 _ rfl
  have CK := Lib.hid (rm_look h hta hau hc hv hs h0 rfl)
  clear h hta hv hs h0
  go_enter Tryz.func30, Tryz.ntmps30
  go_wp2_with (go_at_call 69; ((with_reducible refine CK.out.mono ?_); rintro e w5 ⟨rfl, h5, k5⟩; have H5 := Lib.hid h5; have K5 := Lib.hid k5; clear h5 k5))
  exact bodyPost_ret (v := .tuple #[]) (by simp [results, Tryz.results30, go_sem]) rfl ⟨rfl, H5.out, K5.out⟩
set_option maxHeartbeats 2000000 in
set_option maxRecDepth 100000 in
/-- It has none; the second one is another. -/
theorem rm_first_no (h : Opw G w A V q (rmC 2 1 2 2 nx wy hp tb tk ts is)) (hta : tagsf 2 1 = a) (hau : isU a) (hc : V.cnt < 1000000000) (hv : V.f a = v) (hs : fr4 v = s) (h0 : decide (s < 0) = true) :
    Calls Tryz.prog 30 #[.pointer (some ⟨q, 0, none⟩), .pointer (some ⟨A.p, 0, none⟩)] w fun e w' => e = .returned (.tuple #[]) ∧ Opw G w' A (V.acc V.f 1 a v v) q (rmC 2 1 2 2 (nxR 70) wy hp tb tk ts is) ∧ Kp G w w' := by
  have x0 := h.ob.at_ 0 _ rfl
  have x1 := h.ob.at_ 1 _ rfl
  have CK := Lib.hid (rm_look h hta hau hc hv hs h0 rfl)
  have hne : ∀ W, (binOp .neq 36 (.agg #[.int .i64 2, .int .i64 2]) (.agg #[.int .i64 2, .int .i64 1])).run Tryz.prog W = .ok (.bool true) W := fun W => by kernel_rfl
  clear h hta hv hs h0
  go_enter Tryz.func30, Tryz.ntmps30
  go_upto_region 1 with (go_at_call 69; ((with_reducible refine CK.out.mono ?_); rintro e w5 ⟨rfl, h5, k5⟩; have H5 := Lib.hid h5; have K5 := Lib.hid k5; clear h5 k5))
  clear x0 x1
  have hd : Below w5.heap.size w5 w5.drew := (Below.refl _ _).drew
  have h6 := H5.out.new hd
  have x0 : w5.drew.cell? ⟨q, 0, none⟩ = some (.int .i64 2) := h6.ob.at_ 0 _ rfl
  have x1 : w5.drew.cell? ⟨q, 1, none⟩ = some (.int .i64 1) := h6.ob.at_ 1 _ rfl
  have x2 : w5.drew.cell? ⟨q, 2, none⟩ = some (.int .i64 2) := h6.ob.at_ 2 _ rfl
  have x3 : w5.drew.cell? ⟨q, 3, none⟩ = some (.int .i64 2) := h6.ob.at_ 3 _ rfl
  have x4 : w5.drew.cell? ⟨q, 4, none⟩ = some nx := h6.ob.at_ 4 _ rfl
  have z4 : w5.drew.frozen? ⟨q, 4, none⟩ = false := h6.ob.fz 4 (by show 4 < 11; decide)
  obtain ⟨h7, k7⟩ := h6.set 4 (nxR 70) (by show 4 < 11; decide) (C' := rmC 2 1 2 2 (nxR 70) wy hp tb tk ts is) rfl
  have FIN := Lib.hid (And.intro h7 (Kp.to (Kp.to K5.out (Kp.of hd)) k7))
  clear h6 h7 k7 hd
  go_region
  go_wp2_with fail
  exact bodyPost_ret (v := .tuple #[]) (by simp [results, Tryz.results30, go_sem]) rfl ⟨rfl, FIN.out.1, FIN.out.2⟩
set_option maxHeartbeats 2000000 in
set_option maxRecDepth 100000 in
/-- The second bucket has a free slot. -/
theorem rm_second (h : Opw G w A V q (rmC fb fk sb sk nx wy hp tb tk ts is)) (hta : tagsf sb sk = a) (hau : isU a) (hc : V.cnt < 1000000000) (hv : V.f a = v) (hs : fr4 v = s) (h0 : decide (s < 0) = false) :
    Calls Tryz.prog 70 #[.pointer (some ⟨q, 0, none⟩), .pointer (some ⟨A.p, 0, none⟩)] w fun e w' => e = .returned (.tuple #[]) ∧ Opw G w' A (V.acc V.f 1 a v v) q (rmC fb fk sb sk .nilFunc wy hp sb sk s true) ∧ Kp G w w' := by
  have x0 := h.ob.at_ 2 _ rfl
  have x1 := h.ob.at_ 3 _ rfl
  have CK := Lib.hid (rm_look h hta hau hc hv hs h0 rfl)
  clear h hta hv hs h0
  go_enter Tryz.func70, Tryz.ntmps70
  go_wp2_with (go_at_call 69; ((with_reducible refine CK.out.mono ?_); rintro e w5 ⟨rfl, h5, k5⟩; have H5 := Lib.hid h5; have K5 := Lib.hid k5; clear h5 k5))
  go_end0
  exact ⟨rfl, H5.out, K5.out⟩
/-- What was got. -/
def gotR (b k s : Int) (is : Bool) : Value := .tuple #[.agg #[.int .i64 b, .int .i64 k, .int .i64 s], .bool is]
set_option maxRecDepth 100000 in
theorem rm_got_nil (w : World) : Calls Tryz.prog 7 #[.pointer none] w fun e w' => e = .returned (gotR 0 0 0 false) ∧ Below w.heap.size w w' := by
  go_enter Tryz.func7, Tryz.ntmps7
  go_wp2_with fail
  exact bodyPost_ret (v := gotR 0 0 0 false) (by simp [results, Tryz.results7, go_sem, gotR]) rfl ⟨rfl, (Below.refl _ _).alloc (Nat.le_refl _) _⟩
set_option maxHeartbeats 1000000 in
set_option maxRecDepth 100000 in
theorem rm_got (h : Ob w q (rmC fb fk sb sk nx wy hp tb tk ts is)) : Calls Tryz.prog 7 #[.pointer (some ⟨q, 0, none⟩)] w fun e w' => e = .returned (gotR tb tk ts is) ∧ Below w.heap.size w w' := by
  have hba : Below w.heap.size w (w.alloc (.cells #[.int .i64 0, .int .i64 0, .int .i64 0] 41)) := (Below.refl _ _).alloc (Nat.le_refl _) _
  have UP : ∀ {p : Addr} {v : Value}, w.cell? p = some v → (w.alloc (.cells #[.int .i64 0, .int .i64 0, .int .i64 0] 41)).cell? p = some v := fun {p v} hc => (hba.cell (World.block_lt_of_cell? _ _ hc)).trans hc
  have x7 := UP (h.at_ 7 _ rfl)
  have x8 := UP (h.at_ 8 _ rfl)
  have x9 := UP (h.at_ 9 _ rfl)
  have x10 := UP (h.at_ 10 _ rfl)
  have hbb : Below w.heap.size w (w.alloc (.cells #[.int .i64 tb, .int .i64 tk, .int .i64 ts] 41)) := (Below.refl _ _).alloc (Nat.le_refl _) _
  have y10 : (w.alloc (.cells #[.int .i64 tb, .int .i64 tk, .int .i64 ts] 41)).cell? ⟨q, 10, none⟩ = some (.bool is) := (hbb.cell (World.block_lt_of_cell? _ _ (h.at_ 10 _ rfl))).trans (h.at_ 10 _ rfl)
  clear h hba UP hbb
  go_enter Tryz.func7, Tryz.ntmps7
  go_upto_region 3 with (fail)
  go_region
  go_wp2_with fail
  exact bodyPost_ret (v := gotR tb tk ts is) (by simp [results, Tryz.results7, go_sem, gotR]) rfl ⟨rfl, ((Below.refl _ _).alloc (Nat.le_refl _) _).drew⟩
end
end Go.Proofs.YtodppilfpemepaaGreat
/- Next: A Room by itself: Run, step by step. -/
namespace Go.Proofs.YtodppilfpemepaaGreat
open Go.RowKit Go.Maps
set_option linter.unusedVariables false
set_option maxHeartbeats 1000000 in
set_option maxRecDepth 100000 in
theorem rm_run {St : Nat → World → Prop} {p q m : Nat} {M : Int} {w : World} (hm : (m : Int) < M) (hM : M ≤ 1000)
    (hov : ∀ k W, k < m → St k W → Calls Tryz.prog 8 #[.pointer (some ⟨q, 0, none⟩)] W fun e w' => e = .returned (.bool false) ∧ W = w')
    (hend : ∀ W, St m W → Calls Tryz.prog 8 #[.pointer (some ⟨q, 0, none⟩)] W fun e w' => e = .returned (.bool true) ∧ W = w')
    (hst : ∀ k W, k < m → St k W → Calls Tryz.prog 9 #[.pointer (some ⟨q, 0, none⟩), .pointer (some ⟨p, 0, none⟩)] W fun e w' => ∃ b, e = .returned (.bool b) ∧ St (k + 1) w')
    (h0 : St 0 w) :
    Calls Tryz.prog 38 #[.pointer (some ⟨p, 0, none⟩), .iface 44 (.pointer (some ⟨q, 0, none⟩)), .int .i64 M] w fun e w' => e = .returned (.int .i64 m) ∧ St m w' := by
  have HO := Lib.hid hov
  have HE := Lib.hid hend
  have HS := Lib.hid hst
  have H0 := Lib.hid h0
  clear hov hend hst h0
  go_enter Tryz.func38, Tryz.ntmps38
  go_wp2_with fail
  go_loopw [7] (fun i X => ∃ k : Nat, k ≤ m ∧ i = .int .i64 k ∧ St k X) (fun i _ => m - (intOf i).toNat)
  case atStart => exact ⟨0, Nat.zero_le _, rfl, H0.out⟩
  case round =>
    obtain ⟨k, hk, rfl, hs⟩ := hrel
    have hkM : (k : Int) < M := by omega
    by_cases hlt : k < m
    · have C := Lib.hid (HO.out k _ hlt hs)
      have C2 := Lib.hid (HS.out k _ hlt hs)
      clear hs
      go_wp2_with fail
      refine C.out.mono ?_
      rintro e w1 ⟨rfl, rfl⟩
      go_wp2_with fail
      refine C2.out.mono ?_
      rintro e w2 ⟨b, rfl, h2⟩
      have H2 := Lib.hid h2
      clear h2
      go_wp2_with fail
      go_roundw
      case rel => exact ⟨k + 1, by omega, by go_num, H2.out⟩
      case measure => simp [intOf]; omega
    · obtain rfl : k = m := by omega
      have C := Lib.hid (HE.out _ hs)
      have H2 := Lib.hid hs
      clear hs
      go_wp2_with fail
      refine C.out.mono ?_
      rintro e w1 ⟨rfl, rfl⟩
      go_wp2_with fail
      go_ret
      exact ⟨rfl, H2.out⟩
end Go.Proofs.YtodppilfpemepaaGreat
/- Next: Rooms: the chapter's example lives. -/
namespace Go.Proofs.YtodppilfpemepaaGreat
open Go.RowKit Go.Maps
set_option linter.unusedVariables false
theorem wd_addNR {G : Nat → Prop} {w W : World} {A : Ad} {V : Wv} (h : WdG G w A V) (hb : Below w.heap.size w W) : WdG (fun k => G k ∨ (w.heap.size ≤ k ∧ k < W.heap.size)) W A V := by
  obtain ⟨S, h1, h2, h3⟩ := h
  refine ⟨S, h1.new hb, fun k g s => ?_, fun k g => ?_⟩
  · rcases g with g | g
    · exact h2 k g s
    · have := h1.lt _ s; omega
  · rcases g with g | g
    · exact Nat.lt_of_lt_of_le (h3 k g) hb.size
    · exact g.2
theorem wd_storeR {G : Nat → Prop} {w : World} {A : Ad} {V : Wv} (h : WdG G w A V) {a v : Int} (ha : isU a) (hv : isU v) (hc : V.cnt < 1000000000) :
    Calls Tryz.prog 39 #[.pointer (some ⟨A.pc, 0, none⟩), .int .u64 a, .int .u64 v] w fun e w' => e = .returned (.int .u64 (V.f a)) ∧ WdG G w' A (V.acc (upd V.f a v) 2 a (V.f a) v) ∧ Kp G w w' := by
  obtain ⟨S, h1, h2, h3⟩ := h
  exact (wstore h1 ha hv hc).mono fun e w' ⟨he, hp⟩ => ⟨he, WdG.post h2 h3 hp⟩
theorem opw_newR {G : Nat → Prop} {w W : World} {A : Ad} {V : Wv} {q : Nat} {C : List Value} (h : WdG G w A V) (ho : Ob W q C) (hq : w.heap.size ≤ q) (hb : Below w.heap.size w W) : Opw G W A V q C := by
  obtain ⟨S, h1, h2, h3⟩ := h
  have hl := ho.lt
  exact ⟨S, h1.new hb, h2, fun s => by have := h1.lt _ s; omega, ho, fun g => by have := h3 _ g; omega, fun k g => Nat.lt_of_lt_of_le (h3 k g) hb.size⟩
theorem opw_wdR {G : Nat → Prop} {w : World} {A : Ad} {V : Wv} {q : Nat} {C : List Value} (h : Opw G w A V q C) : WdG G w A V := by
  obtain ⟨S, h1, h2, h3, h4, h5, h6⟩ := h
  exact ⟨S, h1, h2, h6⟩
theorem new_atR {W : World} {n i : Nat} {C : Array Value} {T : TypeId} {v : Value} (hn : n = W.heap.size) (h : C[i]? = some v) : (W.alloc (.cells C T)).cell? ⟨n, i, none⟩ = some v := by
  subst hn
  simpa using h
theorem v10_R {z : Int} (h : z ≠ 2) : V10.f z = 0 := by show upd (fun _ => 0) 2 2 z = 0; exact upd_other h
def rmS (k : Nat) : List Value := match k with
  | 0 => rmC 2 1 2 2 (nxR 30) (.pointer none) (.pointer none) 0 0 0 false
  | 1 => rmC 2 1 2 2 .nilFunc (.pointer none) (.pointer none) 2 1 0 true
  | 2 => rmC 2 1 2 2 (nxR 70) (.pointer none) (.pointer none) 0 0 0 false
  | _ => rmC 2 1 2 2 .nilFunc (.pointer none) (.pointer none) 2 2 0 true
/-- The first Room: found at once. -/
def StX (G : Nat → Prop) (w0 : World) (A : Ad) (q k : Nat) (w : World) : Prop := ∃ V, V.f = V10.f ∧ V.cnt = (k : Int) ∧ Opw G w A V q (rmS k) ∧ Kp G w0 w
theorem tags41 : tagsf 2 1 = 4136 ∧ tagsf 2 2 = 4144 := by decide
theorem stX_step {G : Nat → Prop} {w0 : World} {A : Ad} {q : Nat} : ∀ k W, k < 1 → StX G w0 A q k W → Calls Tryz.prog 9 #[.pointer (some ⟨q, 0, none⟩), .pointer (some ⟨A.p, 0, none⟩)] W fun e w' => ∃ b, e = .returned (.bool b) ∧ StX G w0 A q (k + 1) w' := by
  rintro k W hk ⟨V, hf, hc, h, hk0⟩
  obtain rfl : k = 0 := by omega
  have f1 : V.f 4136 = 0 := by rw [hf]; exact v10_R (by decide)
  refine (rm_st_lookFirst (r := true) h.ob (rm_first h tags41.1 ⟨by decide, by decide⟩ (by rw [hc]; decide) f1 (s := 0) (by decide) (by decide)) ?_).mono ?_
  · rintro w' ⟨h', -⟩
    exact rm_over h'.ob
  · rintro e w' ⟨he, h', k'⟩
    refine ⟨_, he, _, ?_, ?_, h', Kp.to hk0 k'⟩
    · exact hf
    · show V.cnt + 1 = _; rw [hc]; rfl
/-- The second one: behind a look that finds none. -/
def StY (G : Nat → Prop) (w0 : World) (A : Ad) (q k : Nat) (w : World) : Prop := ∃ V, V.f = upd V10.f 4136 151587081 ∧ V.cnt = 2 + (k : Int) ∧ Opw G w A V q (if k = 0 then rmS 0 else if k = 1 then rmS 2 else rmS 3) ∧ Kp G w0 w
theorem stY_step {G : Nat → Prop} {w0 : World} {A : Ad} {q : Nat} : ∀ k W, k < 2 → StY G w0 A q k W → Calls Tryz.prog 9 #[.pointer (some ⟨q, 0, none⟩), .pointer (some ⟨A.p, 0, none⟩)] W fun e w' => ∃ b, e = .returned (.bool b) ∧ StY G w0 A q (k + 1) w' := by
  rintro k W hk ⟨V, hf, hc, h, hk0⟩
  have f1 : V.f 4136 = 151587081 := by rw [hf]; exact upd_same _ _ _
  have f2 : V.f 4144 = 0 := by rw [hf, upd_other (by decide)]; exact v10_R (by decide)
  rcases (by omega : k = 0 ∨ k = 1) with rfl | rfl
  · refine (rm_st_lookFirst (r := false) h.ob (rm_first_no h tags41.1 ⟨by decide, by decide⟩ (by rw [hc]; decide) f1 (s := -1) (by decide) (by decide)) ?_).mono ?_
    · rintro w' ⟨h', -⟩
      exact rm_overn h'.ob
    · rintro e w' ⟨he, h', k'⟩
      refine ⟨_, he, _, ?_, ?_, h', Kp.to hk0 k'⟩
      · exact hf
      · show V.cnt + 1 = _; rw [hc]; rfl
  · refine (rm_st_lookSecond (r := true) h.ob (rm_second h tags41.2 ⟨by decide, by decide⟩ (by rw [hc]; decide) f2 (s := 0) (by decide) (by decide)) ?_).mono ?_
    · rintro w' ⟨h', -⟩
      exact rm_over h'.ob
    · rintro e w' ⟨he, h', k'⟩
      refine ⟨_, he, _, ?_, ?_, h', Kp.to hk0 k'⟩
      · exact hf
      · show V.cnt + 1 = _; rw [hc]; rfl
theorem stX_over {G : Nat → Prop} {w0 : World} {A : Ad} {q : Nat} : ∀ k W, k < 1 → StX G w0 A q k W → Calls Tryz.prog 8 #[.pointer (some ⟨q, 0, none⟩)] W fun e w' => e = .returned (.bool false) ∧ W = w' := by
  rintro k W hk ⟨V, -, -, h, -⟩
  obtain rfl : k = 0 := by omega
  exact rm_overn h.ob
theorem stY_over {G : Nat → Prop} {w0 : World} {A : Ad} {q : Nat} : ∀ k W, k < 2 → StY G w0 A q k W → Calls Tryz.prog 8 #[.pointer (some ⟨q, 0, none⟩)] W fun e w' => e = .returned (.bool false) ∧ W = w' := by
  rintro k W hk ⟨V, -, -, h, -⟩
  rcases (by omega : k = 0 ∨ k = 1) with rfl | rfl
  · exact rm_overn h.ob
  · exact rm_overn h.ob
set_option maxHeartbeats 2000000 in
set_option maxRecDepth 100000 in
theorem lives18 (w : World) : Calls Tryz.prog 11 #[] w fun e w' => e = .returned (.bool true) ∧ Below w.heap.size w w' := by
  obtain ⟨G, hG⟩ : ∃ G : Nat → Prop, G = fun k => k < w.heap.size := ⟨_, rfl⟩
  have HGG := Lib.hid hG
  clear hG
  have CN := Lib.hid (fun W => newRoom2 216172782113783809 ⟨by decide, by decide⟩ W (k1 := 1) (k2 := 2) (by decide) (by decide))
  have CT := fun W => tagsw 2 1 W
  rw [tags41.1] at CT
  have CT := Lib.hid CT
  go_enter Tryz.func11, Tryz.ntmps11
  go_wp2_with fail
  refine (world2R _).mono ?_
  rintro e w1 ⟨A, rfl, hW, k1⟩
  have HW := Lib.hid (show WdG G w1 A V10 by rw [HGG.out]; exact hW.g k1.size)
  have K1 := Lib.hid k1
  clear hW k1
  go_wp2_with fail
  refine (CN.out _).mono ?_
  rintro e w2 ⟨rfl, o2, b2⟩
  have s0 : StX G w2 A w1.heap.size 0 w2 := ⟨V10, rfl, rfl, opw_newR HW.out o2 (Nat.le_refl _) b2, Keeps.refl _ _⟩
  have CR := Lib.hid (rm_run (St := StX G w2 A w1.heap.size) (p := A.p) (q := w1.heap.size) (m := 1) (M := 9) (by decide) (by decide) stX_over (fun W h => by obtain ⟨V, -, -, h, -⟩ := h; exact rm_over h.ob) stX_step s0)
  have B2 := Lib.hid b2
  clear o2 b2 s0
  go_wp2_with fail
  refine CR.out.mono ?_
  rintro e w3 ⟨rfl, V3, hf3, hc3, h3, k3⟩
  have CG := Lib.hid (rm_got h3.ob)
  have H3 := Lib.hid (opw_wdR h3)
  have K3 := Lib.hid k3
  have HV3 := Lib.hid (And.intro hf3 hc3)
  clear h3 k3 CR hf3 hc3
  go_wp2_with fail
  refine CG.out.mono ?_
  rintro e w4 ⟨rfl, b4⟩
  unfold gotR
  go_upto_region 7 with (fail)
  obtain ⟨P4, hP4⟩ : ∃ P, P = w4.heap.size := ⟨_, rfl⟩
  rw [← hP4]
  generalize hW5 : World.alloc w4 _ = W5
  have b5 : Below w4.heap.size w4 W5 := by rw [← hW5]; exact (Below.refl _ _).alloc (Nat.le_refl _) _
  have s0 : W5.cell? ⟨P4, 0, none⟩ = some (.int .i64 2) := by rw [← hW5]; exact new_atR hP4 rfl
  have s1 : W5.cell? ⟨P4, 1, none⟩ = some (.int .i64 1) := by rw [← hW5]; exact new_atR hP4 rfl
  have s2 : W5.cell? ⟨P4, 2, none⟩ = some (.int .i64 0) := by rw [← hW5]; exact new_atR hP4 rfl
  have l5 : P4 < W5.heap.size := by rw [← hW5, hP4]; simp
  have h5 := wd_addNR H3.out (below_then b4 b5)
  have G5 : w3.heap.size ≤ P4 := by rw [hP4]; exact b4.size
  have HS := Lib.hid (And.intro s0 (And.intro s1 s2))
  have HP4 := Lib.hid (show (fun k => G k ∨ (w3.heap.size ≤ k ∧ k < W5.heap.size)) P4 from .inr ⟨G5, l5⟩)
  have B5 := Lib.hid (below_then b4 b5)
  have H5 := Lib.hid h5
  clear hW5 b4 b5 s0 s1 s2 l5 h5 G5 hP4 CG
  generalize hG5 : (fun k => G k ∨ (w3.heap.size ≤ k ∧ k < W5.heap.size)) = G5 at *
  have HG5 := Lib.hid (show ∀ k, G k → G5 k by rw [← hG5]; exact fun k g => .inl g)
  clear hG5
  have hd5 : Below W5.heap.size W5 W5.drew := (Below.refl _ _).drew
  have CB := Lib.hid (fun W (hb : Below W5.heap.size W5 W) => (show W.cell? ⟨A.p, 0, none⟩ = some (.pointer (some ⟨A.pc, 0, none⟩)) by obtain ⟨S, hS, -⟩ := H5.out.new hb; exact hS.box.c0))
  have c0 := CB.out _ hd5
  have HD := Lib.hid hd5
  have hf1 : V3.f 4136 = 0 := by rw [HV3.out.1]; exact v10_R (by decide)
  have CS := fun W (hb : Below W5.heap.size W5 W) => wd_storeR (H5.out.new hb) (a := 4136) (v := 151587081) ⟨by decide, by decide⟩ ⟨by decide, by decide⟩ (by rw [HV3.out.2]; decide)
  rw [hf1] at CS
  have CS := Lib.hid CS
  clear hd5 hf1
  go_region_held3 (fun X => X.cell? ⟨A.p, 0, none⟩ = some (.pointer (some ⟨A.pc, 0, none⟩)))
    (first | assumption)
    (first
      | (go_at_call 40; ((with_reducible refine (CT.out _).mono ?_); rintro e w6 ⟨rfl, b6⟩; have b6' := below_then HD.out b6; clear c0 HD; have c0 := CB.out _ b6'; have HD := Lib.hid b6'; clear b6 b6'))
      | (go_at_call 39; ((with_reducible refine (CS.out _ HD.out).mono ?_); rintro e w7 ⟨rfl, h7, k7⟩; clear c0; have c0 : w7.cell? ⟨A.p, 0, none⟩ = some (.pointer (some ⟨A.pc, 0, none⟩)) := (by obtain ⟨S, hS, -⟩ := h7; exact hS.box.c0); have H7 := Lib.hid h7; have K7 := Lib.hid (Kp.to (Kp.of HD.out) k7); clear h7 k7)))
  clear c0 CB CS HD H5
  go_wp2_with fail
  refine (CN.out _).mono ?_
  rintro e w8 ⟨rfl, o8, b8⟩
  have s0 : StY G5 w8 A w7.heap.size 0 w8 := ⟨_, by show upd V3.f 4136 151587081 = _; rw [HV3.out.1], by show V3.cnt + 1 = _; rw [HV3.out.2]; rfl, opw_newR H7.out o8 (Nat.le_refl _) b8, Keeps.refl _ _⟩
  have CR := Lib.hid (rm_run (St := StY G5 w8 A w7.heap.size) (p := A.p) (q := w7.heap.size) (m := 2) (M := 9) (by decide) (by decide) stY_over (fun W h => by obtain ⟨V, -, -, h, -⟩ := h; exact rm_over h.ob) stY_step s0)
  have B8 := Lib.hid b8
  clear o8 b8 s0
  go_wp2_with fail
  refine CR.out.mono ?_
  rintro e w9 ⟨rfl, V9, hf9, hc9, h9, k9⟩
  have CG := Lib.hid (rm_got h9.ob)
  have K9 := Lib.hid k9
  clear h9 k9 CR hf9 hc9
  go_wp2_with fail
  refine CG.out.mono ?_
  rintro e w10 ⟨rfl, b10⟩
  unfold gotR
  go_upto_region 11 with (fail)
  obtain ⟨P8, hP8⟩ : ∃ P, P = w10.heap.size := ⟨_, rfl⟩
  rw [← hP8]
  generalize hW11 : World.alloc w10 _ = W11
  have b11 : Below w10.heap.size w10 W11 := by rw [← hW11]; exact (Below.refl _ _).alloc (Nat.le_refl _) _
  have t0 : W11.cell? ⟨P8, 0, none⟩ = some (.int .i64 2) := by rw [← hW11]; exact new_atR hP8 rfl
  have t1 : W11.cell? ⟨P8, 1, none⟩ = some (.int .i64 2) := by rw [← hW11]; exact new_atR hP8 rfl
  have t2 : W11.cell? ⟨P8, 2, none⟩ = some (.int .i64 0) := by rw [← hW11]; exact new_atR hP8 rfl
  have kk : Kp G5 W5 W11 := Kp.to (Kp.to (Kp.to K7.out (Kp.of B8.out)) K9.out) (Kp.of (below_then b10 b11))
  have s0 := kk.cell (p := ⟨P4, 0, none⟩) (fun n => n HP4.out) HS.out.1
  have s1 := kk.cell (p := ⟨P4, 1, none⟩) (fun n => n HP4.out) HS.out.2.1
  have s2 := kk.cell (p := ⟨P4, 2, none⟩) (fun n => n HP4.out) HS.out.2.2
  have KK := Lib.hid kk
  have CX := Lib.hid (fun W (hb : Below W11.heap.size W11 W) => (show (W.cell? ⟨P4, 0, none⟩ = some (.int .i64 2) ∧ W.cell? ⟨P4, 1, none⟩ = some (.int .i64 1) ∧ W.cell? ⟨P4, 2, none⟩ = some (.int .i64 0)) ∧ W.cell? ⟨P8, 0, none⟩ = some (.int .i64 2) ∧ W.cell? ⟨P8, 1, none⟩ = some (.int .i64 2) ∧ W.cell? ⟨P8, 2, none⟩ = some (.int .i64 0) from by
    have up : ∀ {b o v}, W11.cell? ⟨b, o, none⟩ = some v → W.cell? ⟨b, o, none⟩ = some v := fun {b o v} hc => (hb.cell (p := ⟨b, o, none⟩) (World.block_lt_of_cell? _ _ hc)).trans hc
    exact ⟨⟨up s0, up s1, up s2⟩, up t0, up t1, up t2⟩))
  have CP1 := Lib.hid (fun W => spotwR (b := 2) (m := 4) (kk := 1) (s := 0) (k' := 1) (s' := 0) (by decide) (by decide) (by decide) (by decide) (by decide) W)
  have CP2 := Lib.hid (fun W => spotwR (b := 2) (m := 4) (kk := 2) (s := 0) (k' := 2) (s' := 0) (by decide) (by decide) (by decide) (by decide) (by decide) W)
  have q1 : ∀ W, (binOp .eql 41 (.agg #[.int .i64 2, .int .i64 1, .int .i64 0]) (.agg #[.int .i64 2, .int .i64 1, .int .i64 0])).run Tryz.prog W = .ok (.bool true) W := fun W => by kernel_rfl
  have q2 : ∀ W, (binOp .eql 41 (.agg #[.int .i64 2, .int .i64 2, .int .i64 0]) (.agg #[.int .i64 2, .int .i64 2, .int .i64 0])).run Tryz.prog W = .ok (.bool true) W := fun W => by kernel_rfl
  clear hW11 hP8 b10 b11 s0 s1 s2 t0 t1 t2 kk CG
  have hd11 : Below W11.heap.size W11 W11.drew := (Below.refl _ _).drew
  obtain ⟨⟨s0, s1, s2⟩, t0, t1, t2⟩ := CX.out _ hd11
  have HD := Lib.hid hd11
  clear hd11
  go_region_held3 (fun X => (X.cell? ⟨P4, 0, none⟩ = some (.int .i64 2) ∧ X.cell? ⟨P4, 1, none⟩ = some (.int .i64 1) ∧ X.cell? ⟨P4, 2, none⟩ = some (.int .i64 0)) ∧ X.cell? ⟨P8, 0, none⟩ = some (.int .i64 2) ∧ X.cell? ⟨P8, 1, none⟩ = some (.int .i64 2) ∧ X.cell? ⟨P8, 2, none⟩ = some (.int .i64 0))
    (first | exact ⟨⟨by assumption, by assumption, by assumption⟩, by assumption, by assumption, by assumption⟩)
    (first
      | (go_at_call 41; (first | (with_reducible refine (CP1.out _).mono ?_) | (with_reducible refine (CP2.out _).mono ?_)); rintro e w12 ⟨rfl, b12⟩; have b12' := below_then HD.out b12; clear s0 s1 s2 t0 t1 t2 HD; obtain ⟨⟨s0, s1, s2⟩, t0, t1, t2⟩ := CX.out _ b12'; have HD := Lib.hid b12'; clear b12 b12'))
  go_wp2_with fail
  go_ret
  refine ⟨rfl, ?_⟩
  have kk : Kp G w w12 := Kp.to (Kp.to (Kp.to (Kp.to (Kp.of (below_then K1.out B2.out)) K3.out) (Kp.of B5.out)) (KK.out.less HG5.out)) (Kp.of HD.out)
  rw [HGG.out] at kk
  exact kk.below (Nat.le_refl _)
end Go.Proofs.YtodppilfpemepaaGreat
