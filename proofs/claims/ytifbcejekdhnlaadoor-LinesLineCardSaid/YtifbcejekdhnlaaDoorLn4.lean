/- Lines: the words behind the keys, read into a command. -/
import Derived.Test.YtifbcejekdhnlaaDoorLn3
namespace Go.Proofs.YtifbcejekdhnlaaDoor
open Go.RowKit Go.Maps
set_option linter.unusedVariables false

/-- What the reading of all fields leaves. -/
def FsPost (w : World) (q : Nat) (c : Cmd) (kv : Value) (fs : List Nat) (ws : List (List UInt8)) (e : Ending) (w' : World) : Prop :=
  e = .returned (.int .u8 ((readFs fs ws c).2 : Nat)) ∧ Keeps (fun k => k = q) w w' ∧ ((readFs fs ws c).2 = 0 ∨ (readFs fs ws c).2 = 5 → Cb w' q (cmdC (readFs fs ws c).1 kv))
theorem readFs_end (fs : List Nat) (c : Cmd) : readFs fs [] c = if 1024 < c.bytes then (c, 5) else (c, 0) := by cases fs <;> rfl
theorem readFs_some {f : Nat} {fs : List Nat} {x : List UInt8} {xs : List (List UInt8)} {c d : Cmd} (h : readF f x c = some d) : readFs (f :: fs) (x :: xs) c = readFs fs xs d := by simp [readFs, h]
theorem readFs_none {f : Nat} {fs : List Nat} {x : List UInt8} {xs : List (List UInt8)} {c : Cmd} (h : readF f x c = none) : readFs (f :: fs) (x :: xs) c = (Cmd.none, faultF f) := by simp [readFs, h]
theorem fld_drop {f : Form} {k : Nat} (hk : k < f.fields.length) : f.fields.drop k = f.fld k :: f.fields.drop (k + 1) := by
  rw [List.drop_eq_getElem_cons hk]
  unfold Form.fld
  rw [List.getD_eq_getElem?_getD, List.getElem?_eq_getElem hk]
  rfl
theorem faultF_ne (f : Nat) : ¬ (faultF f = 0 ∨ faultF f = 5) := by unfold faultF; split <;> omega
theorem fs_fault {w w' : World} {q : Nat} {c : Cmd} {kv : Value} {fs : List Nat} {ws : List (List UInt8)} {t : Nat} (h : readFs fs ws c = (Cmd.none, t)) (ht : ¬ (t = 0 ∨ t = 5)) (hk : Keeps (fun k => k = q) w w') : FsPost w q c kv fs ws (.returned (.int .u8 (t : Nat))) w' :=
  ⟨by rw [h], hk, fun n => absurd (by rw [h] at n; exact n) ht⟩
theorem fs_done {w w' : World} {q : Nat} {c d : Cmd} {kv : Value} {fs : List Nat} {ws : List (List UInt8)} {t : Nat} (h : readFs fs ws c = (d, t)) (hk : Keeps (fun k => k = q) w w') (hc : Cb w' q (cmdC d kv)) : FsPost w q c kv fs ws (.returned (.int .u8 (t : Nat))) w' :=
  ⟨by rw [h], hk, fun _ => by rw [h]; exact hc⟩
theorem drop_txt {ws : List (List UInt8)} {k : Nat} (hk : k < ws.length) : ws.drop k = ws[k] :: ws.drop (k + 1) := List.drop_eq_getElem_cons hk
theorem txt_size {x : List UInt8} (h : x.length ≤ 1048576) : (⟨x.toArray⟩ : ByteArray).size ≤ maxLen := by
  show x.toArray.size ≤ maxLen
  unfold maxLen
  simp
  omega
theorem read1w (q : Nat) (w : World) : Calls Tryd.prog 65 #[.pointer (some ⟨q, 0, none⟩), .int .u8 1] w fun e w' => e = .returned (.func (.func 93) #[.pointer (some ⟨q, 0, none⟩)] #[]) ∧ w = w' := by
  go_enter Tryd.func65, Tryd.ntmps65
  go_wp2_with fail
  go_ret
  exact ⟨rfl, rfl⟩
theorem read2w (q : Nat) (w : World) : Calls Tryd.prog 65 #[.pointer (some ⟨q, 0, none⟩), .int .u8 2] w fun e w' => e = .returned (.func (.func 94) #[.pointer (some ⟨q, 0, none⟩)] #[]) ∧ w = w' := by
  go_enter Tryd.func65, Tryd.ntmps65
  go_wp2_with fail
  go_ret
  exact ⟨rfl, rfl⟩
theorem read3w (q : Nat) (w : World) : Calls Tryd.prog 65 #[.pointer (some ⟨q, 0, none⟩), .int .u8 3] w fun e w' => e = .returned (.func (.func 95) #[.pointer (some ⟨q, 0, none⟩)] #[]) ∧ w = w' := by
  go_enter Tryd.func65, Tryd.ntmps65
  go_wp2_with fail
  go_ret
  exact ⟨rfl, rfl⟩
theorem read4w (q : Nat) (w : World) : Calls Tryd.prog 65 #[.pointer (some ⟨q, 0, none⟩), .int .u8 4] w fun e w' => e = .returned (.func (.func 96) #[.pointer (some ⟨q, 0, none⟩)] #[]) ∧ w = w' := by
  go_enter Tryd.func65, Tryd.ntmps65
  go_wp2_with fail
  go_ret
  exact ⟨rfl, rfl⟩
theorem read5w (q : Nat) (w : World) : Calls Tryd.prog 65 #[.pointer (some ⟨q, 0, none⟩), .int .u8 5] w fun e w' => e = .returned (.func (.func 97) #[.pointer (some ⟨q, 0, none⟩)] #[]) ∧ w = w' := by
  go_enter Tryd.func65, Tryd.ntmps65
  go_wp2_with fail
  go_ret
  exact ⟨rfl, rfl⟩
set_option maxHeartbeats 4000000 in
set_option maxRecDepth 100000 in
theorem rfields_none (f : Form) (a : Option Addr) (cap q : Nat) (c : Cmd) (kv : Value) (w : World) (h : Cb w q (cmdC c kv)) :
    Calls Tryd.prog 34 #[.pointer (some ⟨q, 0, none⟩), formV f, .slice a 0 cap] w (FsPost w q c kv f.fields []) := by
  have e0 := readFs_end f.fields c
  have H := Lib.hid h
  have hh := fun (W : World) (hb : Below w.heap.size w W) => h.new hb
  have HH := Lib.hid hh
  unfold formV formC
  by_cases hl : 1024 < c.bytes
  · have b0 : decide (1024 < c.bytes) = true := decide_eq_true hl
    rw [if_pos hl] at e0
    have E0 := Lib.hid e0
    clear e0 h hh
    go_enter Tryd.func34, Tryd.ntmps34
    go_wp2_with fail
    refine wp_loop_rounds 1 ?_
    rw [rounds_succ]
    have c9 := (HH.out (w.alloc (.cells #[.int .u8 f.verb, .int .i64 f.least, .int .i64 f.most, .int .u8 (f.fld 0 : Nat), .int .u8 (f.fld 1 : Nat), .int .u8 (f.fld 2 : Nat), .int .u8 (f.fld 3 : Nat), .int .i64 f.spare, .bool f.quiet] 74)) ((Below.refl _ _).alloc (Nat.le_refl _) _)).at_ 9 _ rfl
    go_wp2_with fail
    go_ret
    exact fs_done E0.out ((Keeps.refl _ _).alloc _) (HH.out _ ((Below.refl _ _).alloc (Nat.le_refl _) _))
  · have b0 : decide (1024 < c.bytes) = false := decide_eq_false hl
    rw [if_neg hl] at e0
    have E0 := Lib.hid e0
    clear e0 h hh
    go_enter Tryd.func34, Tryd.ntmps34
    go_wp2_with fail
    refine wp_loop_rounds 1 ?_
    rw [rounds_succ]
    have c9 := (HH.out (w.alloc (.cells #[.int .u8 f.verb, .int .i64 f.least, .int .i64 f.most, .int .u8 (f.fld 0 : Nat), .int .u8 (f.fld 1 : Nat), .int .u8 (f.fld 2 : Nat), .int .u8 (f.fld 3 : Nat), .int .i64 f.spare, .bool f.quiet] 74)) ((Below.refl _ _).alloc (Nat.le_refl _) _)).at_ 9 _ rfl
    go_wp2_with fail
    go_ret
    exact fs_done E0.out ((Keeps.refl _ _).alloc _) (HH.out _ ((Below.refl _ _).alloc (Nat.le_refl _) _))
set_option maxHeartbeats 4000000 in
set_option maxRecDepth 100000 in
theorem rfields_some (f : Form) (ws : List (List UInt8)) (g o cap q : Nat) (c : Cmd) (kv : Value) (w : World) (hf : FormOk f) (hn : ws.length ≤ f.fields.length) (hn0 : 0 < ws.length) (hc : ws.length ≤ cap) (hcm : cap ≤ maxLen) (hsz : ∀ x ∈ ws, x.length ≤ 1048576) (hg : g ≠ q) (hw : ∀ j x, ws[j]? = some x → w.cell? ⟨g, o + j, none⟩ = some (.string ⟨x.toArray⟩)) (h : Cb w q (cmdC c kv)) :
    Calls Tryd.prog 34 #[.pointer (some ⟨q, 0, none⟩), formV f, .slice (some ⟨g, o, none⟩) ws.length cap] w (FsPost w q c kv f.fields ws) := by
  have hl4 := hf.len
  obtain ⟨n, hN⟩ : ∃ n, ws.length = n := ⟨_, rfl⟩
  have hn4 : n ≤ 4 := by omega
  have hnp : 0 < n := by omega
  have hb0 : Below w.heap.size w (w.alloc (.cells (formC f).toArray 74)) := (Below.refl _ _).alloc (Nat.le_refl _) _
  have hF := FormAt.new w f 74
  obtain ⟨W, hW⟩ : ∃ W, W = w.alloc (.cells (formC f).toArray 74) := ⟨_, rfl⟩
  have hF' : FormAt W w.heap.size f := by rw [hW]; exact hF
  rw [← hW] at hb0
  have h0 := h.new hb0
  have hW0 : ∀ j x, ws[j]? = some x → W.cell? ⟨g, o + j, none⟩ = some (.string ⟨x.toArray⟩) := fun j x hj => by
    have := hw j x hj
    exact (hb0.cell (p := ⟨g, o + j, none⟩) (World.block_lt_of_cell? _ _ this)).trans this
  have hqb : w.heap.size ≠ q := by have := h.lt; omega
  have hK0 : Keeps (fun k => k = q) w W := Keeps.of_new hb0
  rw [hN]
  unfold maxLen at hcm
  unfold formV
  unfold formC at hW ⊢
  obtain ⟨fb, hfb⟩ : ∃ fb, fb = w.heap.size := ⟨_, rfl⟩
  rw [← hfb] at hF' hqb
  have HW := Lib.hid hW
  have HF := Lib.hid hF'
  have HK0 := Lib.hid hK0
  have HWs := Lib.hid hW0
  have H0 := Lib.hid h0
  have HN := Lib.hid hN
  have HO := Lib.hid hf
  have HSZ := Lib.hid hsz
  have HL := Lib.hid hn
  have HFB := Lib.hid hfb
  clear hW hF hF' hK0 hW0 h0 hN hf hsz hn hb0 h hw hfb hn0 hl4 hc
  go_enter Tryd.func34, Tryd.ntmps34
  go_wp2_with fail
  rw [← HFB.out]
  generalize hWW : w.alloc _ = W' 
  obtain rfl : W' = W := by rw [HW.out, ← hWW]
  clear hWW
  go_loopw [12] (fun i wr => ∃ (k : Nat) (d : Cmd), k ≤ n ∧ i = .int .i64 k ∧ Cb wr q (cmdC d kv) ∧ Keeps (fun k => k = q) W' wr ∧ Hid (readFs (f.fields.drop k) (ws.drop k) d = readFs f.fields ws c)) (fun i _ => n - (intOf i).toNat)
  case atStart => exact ⟨0, c, by omega, rfl, H0.out, Keeps.refl _ _, rfl⟩
  case round =>
    obtain ⟨k, d, hk, rfl, hcb, hke, hD⟩ := hrel
    by_cases hlt : k < n
    · have hkw : k < ws.length := by rw [HN.out]; exact hlt
      have hkf : k < f.fields.length := Nat.lt_of_lt_of_le hkw HL.out
      have hcx := hke.cell (p := ⟨g, o + k, none⟩) hg (HWs.out k ws[k] (List.getElem?_eq_getElem hkw))
      have hxs : (⟨ws[k].toArray⟩ : ByteArray).size ≤ maxLen := txt_size (HSZ.out _ (List.getElem_mem hkw))
      obtain ⟨y, hy⟩ : ∃ y, y = ws[k] := ⟨_, rfl⟩
      rw [← hy] at hcx hxs
      have hfc : wr.cell? ⟨fb, 3 + k, none⟩ = some (.int .u8 (f.fld k : Nat)) := by
        obtain ⟨_, _, _, f3, f4, f5, f6, _, _⟩ := HF.out
        match k, hlt with
        | 0, _ => exact hke.cell (p := ⟨fb, 3, none⟩) hqb f3
        | 1, _ => exact hke.cell (p := ⟨fb, 4, none⟩) hqb f4
        | 2, _ => exact hke.cell (p := ⟨fb, 5, none⟩) hqb f5
        | 3, _ => exact hke.cell (p := ⟨fb, 6, none⟩) hqb f6
        | k + 4, hlt => omega
      have hp := getD_pos HO.out hkf
      have k0 : (0 : Int) ≤ (k : Int) := by omega
      have k1 : (k : Int) < 4 := by omega
      have hDs : ∀ d', readF (f.fld k) y d = some d' → readFs (f.fields.drop (k + 1)) (ws.drop (k + 1)) d' = readFs f.fields ws c := fun d' hd' => by
        rw [← hD.out, fld_drop hkf, drop_txt hkw, ← hy, readFs_some hd']
      have hDn : readF (f.fld k) y d = none → readFs f.fields ws c = (Cmd.none, faultF (f.fld k)) := fun hd' => by
        rw [← hD.out, fld_drop hkf, drop_txt hkw, ← hy, readFs_none hd']
      have hRP := fun (W2 : World) => (fun (e : Ending) (h : RdPost wr q d kv (f.fld k) y e W2) => h)
      obtain ⟨fx, hfx⟩ : ∃ fx, fx = f.fld k := ⟨_, rfl⟩
      rw [← hfx] at hfc hp hDs hDn hRP
      have HDs := Lib.hid hDs
      have HDn := Lib.hid hDn
      have HCB := Lib.hid hcb
      have HKE := Lib.hid hke
      clear hD hDs hDn hcb hke hfx hy hkw hkf hRP
      have h5 : fx = 1 ∨ fx = 2 ∨ fx = 3 ∨ fx = 4 ∨ fx = 5 := by omega
      clear hp
      rcases h5 with rfl | rfl | rfl | rfl | rfl
      · have HR := Lib.hid (rflagsw ⟨y.toArray⟩ q d kv wr hxs HCB.out)
        have hfc' : wr.cell? ⟨fb, 3 + k, none⟩ = some (.int .u8 1) := hfc
        clear hfc hxs
        go_wp2_with (go_at_call 65; ((with_reducible refine (read1w _ _).mono ?_); rintro e w1 ⟨rfl, rfl⟩))
        refine HR.out.mono ?_
        rintro e w2 ⟨rfl, hk2, hc2⟩
        have hk2' := HKE.out.trans hk2 (fun _ _ s => s)
        have hfc2 := hk2.cell (p := ⟨fb, 3 + k, none⟩) hqb hfc'
        obtain ⟨r, hr⟩ : ∃ r, r = readF 1 y d := ⟨_, rfl⟩
        have hr' : r = readF 1 (⟨y.toArray⟩ : ByteArray).data.toList d := hr
        rw [← hr']
        rw [← hr'] at hc2
        have HR2 := Lib.hid hr
        have HC2 := Lib.hid hc2
        have HK2 := Lib.hid hk2'
        clear hr hr' hc2 hk2 hk2' HR
        cases r with
        | none =>
          rw [show (Option.isSome (none : Option Cmd)) = false from rfl]
          go_wp2_with fail
          go_ret
          exact fs_fault (t := faultF 1) (HDn.out HR2.out.symm) (faultF_ne _) (HK0.out.trans HK2.out (fun _ _ s => s))
        | some d' =>
          rw [show (Option.isSome (some d' : Option Cmd)) = true from rfl]
          go_wp2_with fail
          go_roundw
          case rel => exact ⟨k + 1, d', by omega, by go_num, HC2.out _ rfl, HK2.out, HDs.out _ HR2.out.symm⟩
          case measure => simp [intOf]; omega
      · have HR := Lib.hid (rexpw ⟨y.toArray⟩ q d kv wr hxs HCB.out)
        have hfc' : wr.cell? ⟨fb, 3 + k, none⟩ = some (.int .u8 2) := hfc
        clear hfc hxs
        go_wp2_with (go_at_call 65; ((with_reducible refine (read2w _ _).mono ?_); rintro e w1 ⟨rfl, rfl⟩))
        refine HR.out.mono ?_
        rintro e w2 ⟨rfl, hk2, hc2⟩
        have hk2' := HKE.out.trans hk2 (fun _ _ s => s)
        have hfc2 := hk2.cell (p := ⟨fb, 3 + k, none⟩) hqb hfc'
        obtain ⟨r, hr⟩ : ∃ r, r = readF 2 y d := ⟨_, rfl⟩
        have hr' : r = readF 2 (⟨y.toArray⟩ : ByteArray).data.toList d := hr
        rw [← hr']
        rw [← hr'] at hc2
        have HR2 := Lib.hid hr
        have HC2 := Lib.hid hc2
        have HK2 := Lib.hid hk2'
        clear hr hr' hc2 hk2 hk2' HR
        cases r with
        | none =>
          rw [show (Option.isSome (none : Option Cmd)) = false from rfl]
          go_wp2_with fail
          go_ret
          exact fs_fault (t := faultF 2) (HDn.out HR2.out.symm) (faultF_ne _) (HK0.out.trans HK2.out (fun _ _ s => s))
        | some d' =>
          rw [show (Option.isSome (some d' : Option Cmd)) = true from rfl]
          go_wp2_with fail
          go_roundw
          case rel => exact ⟨k + 1, d', by omega, by go_num, HC2.out _ rfl, HK2.out, HDs.out _ HR2.out.symm⟩
          case measure => simp [intOf]; omega
      · have HR := Lib.hid (rbytesw ⟨y.toArray⟩ q d kv wr hxs HCB.out)
        have hfc' : wr.cell? ⟨fb, 3 + k, none⟩ = some (.int .u8 3) := hfc
        clear hfc hxs
        go_wp2_with (go_at_call 65; ((with_reducible refine (read3w _ _).mono ?_); rintro e w1 ⟨rfl, rfl⟩))
        refine HR.out.mono ?_
        rintro e w2 ⟨rfl, hk2, hc2⟩
        have hk2' := HKE.out.trans hk2 (fun _ _ s => s)
        have hfc2 := hk2.cell (p := ⟨fb, 3 + k, none⟩) hqb hfc'
        obtain ⟨r, hr⟩ : ∃ r, r = readF 3 y d := ⟨_, rfl⟩
        have hr' : r = readF 3 (⟨y.toArray⟩ : ByteArray).data.toList d := hr
        rw [← hr']
        rw [← hr'] at hc2
        have HR2 := Lib.hid hr
        have HC2 := Lib.hid hc2
        have HK2 := Lib.hid hk2'
        clear hr hr' hc2 hk2 hk2' HR
        cases r with
        | none =>
          rw [show (Option.isSome (none : Option Cmd)) = false from rfl]
          go_wp2_with fail
          go_ret
          exact fs_fault (t := faultF 3) (HDn.out HR2.out.symm) (faultF_ne _) (HK0.out.trans HK2.out (fun _ _ s => s))
        | some d' =>
          rw [show (Option.isSome (some d' : Option Cmd)) = true from rfl]
          go_wp2_with fail
          go_roundw
          case rel => exact ⟨k + 1, d', by omega, by go_num, HC2.out _ rfl, HK2.out, HDs.out _ HR2.out.symm⟩
          case measure => simp [intOf]; omega
      · have HR := Lib.hid (ridw ⟨y.toArray⟩ q d kv wr hxs HCB.out)
        have hfc' : wr.cell? ⟨fb, 3 + k, none⟩ = some (.int .u8 4) := hfc
        clear hfc hxs
        go_wp2_with (go_at_call 65; ((with_reducible refine (read4w _ _).mono ?_); rintro e w1 ⟨rfl, rfl⟩))
        refine HR.out.mono ?_
        rintro e w2 ⟨rfl, hk2, hc2⟩
        have hk2' := HKE.out.trans hk2 (fun _ _ s => s)
        have hfc2 := hk2.cell (p := ⟨fb, 3 + k, none⟩) hqb hfc'
        obtain ⟨r, hr⟩ : ∃ r, r = readF 4 y d := ⟨_, rfl⟩
        have hr' : r = readF 4 (⟨y.toArray⟩ : ByteArray).data.toList d := hr
        rw [← hr']
        rw [← hr'] at hc2
        have HR2 := Lib.hid hr
        have HC2 := Lib.hid hc2
        have HK2 := Lib.hid hk2'
        clear hr hr' hc2 hk2 hk2' HR
        cases r with
        | none =>
          rw [show (Option.isSome (none : Option Cmd)) = false from rfl]
          go_wp2_with fail
          go_ret
          exact fs_fault (t := faultF 4) (HDn.out HR2.out.symm) (faultF_ne _) (HK0.out.trans HK2.out (fun _ _ s => s))
        | some d' =>
          rw [show (Option.isSome (some d' : Option Cmd)) = true from rfl]
          go_wp2_with fail
          go_roundw
          case rel => exact ⟨k + 1, d', by omega, by go_num, HC2.out _ rfl, HK2.out, HDs.out _ HR2.out.symm⟩
          case measure => simp [intOf]; omega
      · have HR := Lib.hid (rbyw ⟨y.toArray⟩ q d kv wr hxs HCB.out)
        have hfc' : wr.cell? ⟨fb, 3 + k, none⟩ = some (.int .u8 5) := hfc
        clear hfc hxs
        go_wp2_with (go_at_call 65; ((with_reducible refine (read5w _ _).mono ?_); rintro e w1 ⟨rfl, rfl⟩))
        refine HR.out.mono ?_
        rintro e w2 ⟨rfl, hk2, hc2⟩
        have hk2' := HKE.out.trans hk2 (fun _ _ s => s)
        have hfc2 := hk2.cell (p := ⟨fb, 3 + k, none⟩) hqb hfc'
        obtain ⟨r, hr⟩ : ∃ r, r = readF 5 y d := ⟨_, rfl⟩
        have hr' : r = readF 5 (⟨y.toArray⟩ : ByteArray).data.toList d := hr
        rw [← hr']
        rw [← hr'] at hc2
        have HR2 := Lib.hid hr
        have HC2 := Lib.hid hc2
        have HK2 := Lib.hid hk2'
        clear hr hr' hc2 hk2 hk2' HR
        cases r with
        | none =>
          rw [show (Option.isSome (none : Option Cmd)) = false from rfl]
          go_wp2_with fail
          go_ret
          exact fs_fault (t := faultF 5) (HDn.out HR2.out.symm) (faultF_ne _) (HK0.out.trans HK2.out (fun _ _ s => s))
        | some d' =>
          rw [show (Option.isSome (some d' : Option Cmd)) = true from rfl]
          go_wp2_with fail
          go_roundw
          case rel => exact ⟨k + 1, d', by omega, by go_num, HC2.out _ rfl, HK2.out, HDs.out _ HR2.out.symm⟩
          case measure => simp [intOf]; omega
    · obtain rfl : k = n := by omega
      have hE : readFs f.fields ws c = if 1024 < d.bytes then (d, 5) else (d, 0) := by
        have e : ws.drop k = [] := List.drop_eq_nil_of_le (by rw [HN.out]; exact Nat.le_refl _)
        rw [← hD.out, e, readFs_end]
      have c9 := hcb.at_ 9 _ rfl
      have HK2 := Lib.hid (HK0.out.trans hke (fun _ _ s => s))
      have HCB := Lib.hid hcb
      clear hD hke hcb
      by_cases hl : 1024 < d.bytes
      · have b0 : decide (1024 < d.bytes) = true := decide_eq_true hl
        rw [if_pos hl] at hE
        have HE := Lib.hid hE
        clear hE
        go_wp2_with fail
        go_ret
        exact fs_done HE.out HK2.out HCB.out
      · have b0 : decide (1024 < d.bytes) = false := decide_eq_false hl
        rw [if_neg hl] at hE
        have HE := Lib.hid hE
        clear hE
        go_wp2_with fail
        go_ret
        exact fs_done HE.out HK2.out HCB.out
end Go.Proofs.YtifbcejekdhnlaaDoor
