/- Lines: Parse of a line that has a verb. -/
import Derived.Test.YtifbcejekdhnlaaDoorLn7
namespace Go.Proofs.YtifbcejekdhnlaaDoor
open Go.RowKit Go.Maps
set_option linter.unusedVariables false

theorem ff_cells {w : World} {q : Nat} {f : Form} (h : Cb w q (formC f)) : (w.cell? ⟨q, 0, none⟩ = some (.int .u8 (f.verb : Nat)) ∧ w.cell? ⟨q, 1, none⟩ = some (.int .i64 (f.least : Nat)) ∧ w.cell? ⟨q, 2, none⟩ = some (.int .i64 (f.most : Nat)) ∧ w.cell? ⟨q, 3, none⟩ = some (.int .u8 (f.fld 0 : Nat)) ∧ w.cell? ⟨q, 4, none⟩ = some (.int .u8 (f.fld 1 : Nat)) ∧ w.cell? ⟨q, 5, none⟩ = some (.int .u8 (f.fld 2 : Nat)) ∧ w.cell? ⟨q, 6, none⟩ = some (.int .u8 (f.fld 3 : Nat)) ∧ w.cell? ⟨q, 7, none⟩ = some (.int .i64 (f.spare : Nat)) ∧ w.cell? ⟨q, 8, none⟩ = some (.bool f.quiet)) ∧ True :=
  ⟨⟨h.at_ 0 _ rfl, h.at_ 1 _ rfl, h.at_ 2 _ rfl, h.at_ 3 _ rfl, h.at_ 4 _ rfl, h.at_ 5 _ rfl, h.at_ 6 _ rfl, h.at_ 7 _ rfl, h.at_ 8 _ rfl⟩, trivial⟩
theorem fewestL (f : Form) (hf : FormOk f) (w : World) : Calls Tryd.prog 31 #[.agg #[.int .u8 f.verb, .int .i64 f.least, .int .i64 f.most, .int .u8 (f.fld 0 : Nat), .int .u8 (f.fld 1 : Nat), .int .u8 (f.fld 2 : Nat), .int .u8 (f.fld 3 : Nat), .int .i64 f.spare, .bool f.quiet]] w fun e w' => e = .returned (.int .i64 (f.fewest : Nat)) ∧ Below w.heap.size w w' := fewestw f w hf
theorem greatestL (f : Form) (hf : FormOk f) (w : World) : Calls Tryd.prog 32 #[.agg #[.int .u8 f.verb, .int .i64 f.least, .int .i64 f.most, .int .u8 (f.fld 0 : Nat), .int .u8 (f.fld 1 : Nat), .int .u8 (f.fld 2 : Nat), .int .u8 (f.fld 3 : Nat), .int .i64 f.spare, .bool f.quiet]] w fun e w' => e = .returned (.int .i64 (f.greatest : Nat)) ∧ Below w.heap.size w w' := greatestw f w hf
theorem quietW_cases (f : Form) (ws : List (List UInt8)) : (f.quiet = false → quietW f ws = false) ∧ ((f.quiet = true → ¬ f.fewest < ws.length → quietW f ws = false) ∧ (f.quiet = true → ∀ y, ws[ws.length - 1]? = some y → y ≠ norep → quietW f ws = false)) ∧ (f.quiet = true → f.fewest < ws.length → ws[ws.length - 1]? = some norep → quietW f ws = true) := by
  refine ⟨fun h => by simp [quietW, h], ⟨fun h h1 => ?_, fun h y h1 h2 => ?_⟩, fun h h1 h2 => ?_⟩
  · simp only [quietW, h, decide_eq_false h1]
    rfl
  · rw [← List.getLast?_eq_getElem?] at h1
    have : ¬ ws.getLast? = some norep := by rw [h1]; simpa using h2
    simp only [quietW, h, decide_eq_false this, Bool.and_false]
  · rw [← List.getLast?_eq_getElem?] at h2
    simp only [quietW, h, decide_eq_true h1, decide_eq_true h2]
    rfl
theorem quiet_pos {f : Form} {ws : List (List UInt8)} (h : quietW f ws = true) : f.fewest < ws.length := by
  unfold quietW at h
  simp at h
  exact h.2.1
theorem drop_last {ws : List (List UInt8)} {j : Nat} {x : List UInt8} (h : ws.dropLast[j]? = some x) : ws[j]? = some x := by
  rw [List.dropLast_eq_take, List.getElem?_take] at h
  split at h
  · exact h
  · simp at h
theorem rest_len (f : Form) (ws : List (List UInt8)) : (restW f ws).length ≤ ws.length := by
  unfold restW
  split
  · simp
  · omega
theorem rest_mem {f : Form} {ws : List (List UInt8)} {x : List UInt8} (h : x ∈ restW f ws) : x ∈ ws := by
  unfold restW at h
  split at h
  · rw [List.dropLast_eq_take] at h
    exact List.mem_of_mem_take h
  · exact h
theorem rkeysw (l : List (List UInt8)) (g o cap q sp : Nat) (c : Cmd) (w : World) (hsp : l.length = sp) (hn : sp ≤ 1048576) (hc : sp ≤ cap) (hcm : cap ≤ maxLen) (hsz : ∀ x ∈ l, x.length ≤ 1048576) (hg : g ≠ q) (hgl : g < w.heap.size) (hT : TxAt w g o l) (h : Cb w q (cmdC c (.slice none 0 0))) :
    Calls Tryd.prog 33 #[.pointer (some ⟨q, 0, none⟩), .slice (some ⟨g, o, none⟩) sp cap] w (KyPost w q c l) := by
  subst hsp
  cases l with
  | nil => exact rkeys_none _ cap q c w h
  | cons x l => exact rkeys_some (x :: l) g o cap q c w (by simp) hn hc hcm hsz hg hgl hT h
theorem rfieldsL (f : Form) (l : List (List UInt8)) (g : Nat) (a : Addr) (cap q m : Nat) (c : Cmd) (kv : Value) (w : World) (hf : FormOk f) (hm : l.length = m) (hn : l.length ≤ f.fields.length) (hc : l.length ≤ cap) (hcm : cap ≤ maxLen) (hsz : ∀ x ∈ l, x.length ≤ 1048576) (hg : g ≠ q) (hT : 0 < l.length → ∃ o, a = ⟨g, o, none⟩ ∧ TxAt w g o l) (h : Cb w q (cmdC c kv)) :
    Calls Tryd.prog 34 #[.pointer (some ⟨q, 0, none⟩), .agg #[.int .u8 f.verb, .int .i64 f.least, .int .i64 f.most, .int .u8 (f.fld 0 : Nat), .int .u8 (f.fld 1 : Nat), .int .u8 (f.fld 2 : Nat), .int .u8 (f.fld 3 : Nat), .int .i64 f.spare, .bool f.quiet], .slice (some a) m cap] w (FsPost w q c kv f.fields l) := by
  subst hm
  cases l with
  | nil => exact rfields_none f (some a) cap q c kv w h
  | cons x l =>
    obtain ⟨o, rfl, hT2⟩ := hT (by simp)
    exact rfields_some f (x :: l) g o cap q c kv w hf hn (by simp) hc hcm hsz hg hT2 h
theorem readF_keys {f : Nat} {x : List UInt8} {c d : Cmd} (h : readF f x c = some d) : d.keys = c.keys := by
  unfold readF at h
  repeat' split at h
  all_goals first | (injection h with h; subst h; rfl) | simp at h
theorem readFs_keys : ∀ (fs : List Nat) (xs : List (List UInt8)) (c : Cmd), (readFs fs xs c).2 = 0 ∨ (readFs fs xs c).2 = 5 → (readFs fs xs c).1.keys = c.keys
  | [], xs, c, h => by
    have e : readFs [] xs c = if 1024 < c.bytes then (c, 5) else (c, 0) := rfl
    rw [e]
    split <;> rfl
  | f :: fs, [], c, h => by
    have e : readFs (f :: fs) [] c = if 1024 < c.bytes then (c, 5) else (c, 0) := rfl
    rw [e]
    split <;> rfl
  | f :: fs, x :: xs, c, h => by
    cases hr : readF f x c with
    | none =>
      rw [readFs_none hr] at h
      exact absurd h (faultF_ne f)
    | some d =>
      rw [readFs_some hr] at h ⊢
      rw [readFs_keys fs xs d h, readF_keys hr]
theorem readFs_fault : ∀ (fs : List Nat) (xs : List (List UInt8)) (c : Cmd), ¬ ((readFs fs xs c).2 = 0 ∨ (readFs fs xs c).2 = 5) → (readFs fs xs c).1 = Cmd.none ∧ ((readFs fs xs c).2 = 2 ∨ (readFs fs xs c).2 = 4)
  | [], xs, c, h => by
    have e : readFs [] xs c = if 1024 < c.bytes then (c, 5) else (c, 0) := rfl
    rw [e] at h
    split at h <;> simp at h
  | f :: fs, [], c, h => by
    have e : readFs (f :: fs) [] c = if 1024 < c.bytes then (c, 5) else (c, 0) := rfl
    rw [e] at h
    split at h <;> simp at h
  | f :: fs, x :: xs, c, h => by
    cases hr : readF f x c with
    | none =>
      rw [readFs_none hr]
      refine ⟨rfl, ?_⟩
      show faultF f = 2 ∨ faultF f = 4
      unfold faultF
      split <;> simp
    | some d =>
      rw [readFs_some hr] at h ⊢
      exact readFs_fault fs xs d h
theorem Lst.keep {w W : World} {T : Nat → Prop} {B size n : Nat} {v : Value} {xs : List Value} (h : Lst w B size v n xs) (hk : Keeps T w W) (hT : ∀ g, B ≤ g → ¬ T g) : Lst W B size v n xs := by
  obtain ⟨hl, h | ⟨g, cap, rfl, hB', hg, hn, hcap, hx⟩⟩ := h
  · exact ⟨hl, .inl h⟩
  · exact ⟨hl, .inr ⟨g, cap, rfl, hB', Nat.lt_of_lt_of_le hg hk.size, hn, hcap, fun j u hj => ⟨hk.cell (p := ⟨g, j, none⟩) (hT g hB') (hx j u hj).1, hk.frozen (p := ⟨g, j, none⟩) (hT g hB') hg (hx j u hj).2⟩⟩⟩
theorem lst_one {w : World} {B size n : Nat} {v : Value} {xs : List Value} (h : Lst w B size v n xs) : v.oneCell' = true := by
  obtain ⟨_, ⟨rfl, _⟩ | ⟨g, cap, rfl, _⟩⟩ := h <;> rfl
/-- What stands of a Parse whose command q is begun. -/
structure PzC (w wx : World) (g b q : Nat) (f : Form) (c : Cmd) (kv : Value) (o : Nat) (l : List (List UInt8)) : Prop where
  below : Below w.heap.size w wx
  res : Cb wx w.heap.size (cmdC Cmd.none (.slice none 0 0))
  form : Cb wx b (formC f)
  txt : TxAt wx g o l
  cmd : Cb wx q (cmdC c kv)
  rg : w.heap.size < g
  gb : g < b
  bq : b < q
theorem PzC.new {w wx W : World} {g b q : Nat} {f : Form} {c : Cmd} {kv : Value} {o : Nat} {l : List (List UInt8)} (h : PzC w wx g b q f c kv o l) (hb : Below wx.heap.size wx W) : PzC w W g b q f c kv o l :=
  ⟨h.below.trans (hb.mono h.below.size), h.res.new hb, h.form.new hb, h.txt.keep (T := fun _ => False) (Keeps.of_new hb) (fun s => s), h.cmd.new hb, h.rg, h.gb, h.bq⟩
theorem PzC.turn {w wx W : World} {g b q : Nat} {f : Form} {c c' : Cmd} {kv kv' : Value} {o : Nat} {l : List (List UInt8)} (h : PzC w wx g b q f c kv o l) (hk : Keeps (fun k => k = q) wx W) (hc : Cb W q (cmdC c' kv')) : PzC w W g b q f c' kv' o l := by
  have h1 := h.rg
  have h2 := h.gb
  have h3 := h.bq
  exact ⟨h.below.trans (hk.to_below (fun k _ e => by omega) h.below.size), h.res.keep hk (by omega), h.form.keep hk (by omega), h.txt.keep hk (by omega), hc, h1, h2, h3⟩
theorem PzC.text {w wx : World} {g b q : Nat} {f : Form} {c : Cmd} {kv : Value} {o o' : Nat} {l l' : List (List UInt8)} (h : PzC w wx g b q f c kv o l) (ht : TxAt wx g o' l') : PzC w wx g b q f c kv o' l' := ⟨h.below, h.res, h.form, ht, h.cmd, h.rg, h.gb, h.bq⟩
theorem pz_cmd {w X : World} {g b o1 : Nat} {f : Form} {l l1 : List (List UInt8)} (hP : PzB w X g b f l) (hT : TxAt X g o1 l1) :
    PzC w (X.alloc (.cells #[.int .u8 f.verb, .slice none 0 0, .int .u8 f.verb, .string ⟨#[]⟩, .string ⟨#[]⟩, .int .u32 0, .int .i64 0, .int .u64 0, .int .u64 0, .int .i64 (-1), .bool false] 30)) g b X.heap.size f (beginW f false []) (.slice none 0 0) o1 l1 := by
  have hb : Below X.heap.size X (X.alloc (.cells #[.int .u8 f.verb, .slice none 0 0, .int .u8 f.verb, .string ⟨#[]⟩, .string ⟨#[]⟩, .int .u32 0, .int .i64 0, .int .u64 0, .int .u64 0, .int .i64 (-1), .bool false] 30)) := (Below.refl _ _).alloc (Nat.le_refl _) _
  exact ⟨hP.below.trans (hb.mono hP.below.size), hP.res.new hb, hP.form.new hb, hT.keep (T := fun _ => False) (Keeps.of_new hb) (fun s => s), cb_new rfl, hP.rg, hP.gb, hP.form.lt⟩
set_option maxHeartbeats 4000000 in
set_option maxRecDepth 100000 in
theorem parse_verb (s : ByteArray) (w : World) (n : List UInt8) (ws : List (List UInt8)) (f : Form) (h : s.size ≤ 2048) (hw : wordsF s.data.toList = n :: ws) (hf : formOf n = some f) (hsz : ∀ x ∈ n :: ws, x.length ≤ 1048576) (hlen : (n :: ws).length ≤ 1048576) : Calls Tryd.prog 10 #[.string s] w (IsPar w (parseW f ws)) := by
  have d0 : decide (2048 < (s.size : Int)) = false := decide_eq_false (by omega)
  have HW := Lib.hid hw
  have HR := Lib.hid (res_new w)
  have HB0 := Lib.hid (show Below w.heap.size w (w.alloc (.cells #[.int .u8 0, .slice none 0 0, .int .u8 0, .string ⟨#[]⟩, .string ⟨#[]⟩, .int .u32 0, .int .i64 0, .int .u64 0, .int .u64 0, .int .i64 0, .bool false] 30)) from (Below.refl _ _).alloc (Nat.le_refl _) _)
  have hns := txt_size (hsz n (by simp))
  have HF := Lib.hid hf
  have HSZ := Lib.hid hsz
  have HO := Lib.hid (formOf_ok hf)
  clear hw hf hsz
  go_enter Tryd.func10, Tryd.ntmps10
  go_wp2_with fail
  refine (wordsw _ _ (by omega)).mono ?_
  rintro e W ⟨v, rfl, ⟨hl, hv⟩, hb⟩
  rw [HW.out] at hv
  have hsz0 : (w.alloc (.cells #[.int .u8 0, .slice none 0 0, .int .u8 0, .string ⟨#[]⟩, .string ⟨#[]⟩, .int .u32 0, .int .i64 0, .int .u64 0, .int .u64 0, .int .i64 0, .bool false] 30)).heap.size = w.heap.size + 1 := by simp
  obtain ⟨-, h0⟩ | ⟨g, cap, rfl, hgB, hgl, hnc, hcm, hx⟩ := hv
  · simp at h0
  have HC := Lib.hid (HR.out.new hb)
  have HB := Lib.hid (HB0.out.trans (hb.mono HB0.out.size))
  have hT : TxAt W g 0 (n :: ws) := fun j x hj => by rw [Nat.zero_add]; exact (hx j _ (by simp only [strs, List.getElem?_map, hj]; rfl)).1
  have c1 : W.cell? ⟨g, 0, none⟩ = some (.string ⟨n.toArray⟩) := hT 0 n rfl
  have hgR : w.heap.size < g := by omega
  obtain ⟨m, hm⟩ : ∃ m, (n :: ws).length = m := ⟨_, rfl⟩
  have hm0 : 0 < m := by rw [← hm]; simp
  rw [hm] at hnc hlen ⊢
  unfold maxLen at hcm
  have hmm : m ≤ 9223372036854775807 := by omega
  have e0 : ((m : Int) == 0) = false := beq_eq_false_iff_ne.mpr (by omega)
  have HT := Lib.hid hT
  have HG := Lib.hid (And.intro hgR hgl)
  have HM := Lib.hid hm
  clear hl hb hsz0 hgB hx hT hm hgR
  go_wp2_with fail
  have c3 := fun o => (World.cell?_alloc_some W _ o (by simp [c1])).trans c1
  have c1d : W.drew.cell? ⟨g, 0, none⟩ = some (.string ⟨n.toArray⟩) := c1
  have c3d : ∀ o, (W.alloc o).drew.cell? ⟨g, 0, none⟩ = some (.string ⟨n.toArray⟩) := c3
  go_cut [5, 6] from 11 (fun s5 s6 wx => ∃ b, s5 = .pointer (some ⟨b, 0, none⟩) ∧ s6 = .bool true ∧ PzB w wx g b f (n :: ws))
  case first =>
    go_region_held3 (fun X => X.cell? ⟨g, 0, none⟩ = some (.string ⟨n.toArray⟩))
      (first | with_reducible exact c1 | with_reducible exact c3 _ | with_reducible exact c2 | with_reducible exact c4 _ | with_reducible exact c1d | with_reducible exact c3d _ | exact c5)
      (first
        | (go_at_call 30; refine (formsw _).mono ?_; rintro e w1 ⟨rfl, hown, hb1⟩; have c2 := box_cell hb1 hgl c1; have c4 := (fun o => (World.cell?_alloc_some w1 _ o (by simp [c2])).trans c2); have hr1 : (Instr.lookup 76 (.map (some W.heap.size)) (.string ⟨n.toArray⟩) true).run Tryd.prog w1 = .ok (.tuple #[.agg #[.int .u8 f.verb, .int .i64 f.least, .int .i64 f.most, .int .u8 (f.fld 0 : Nat), .int .u8 (f.fld 1 : Nat), .int .u8 (f.fld 2 : Nat), .int .u8 (f.fld 3 : Nat), .int .i64 f.spare, .bool f.quiet], .bool true]) w1 := lookY hown rfl hns HF.out; have hr2 : ∀ o, (Instr.lookup 76 (.map (some W.heap.size)) (.string ⟨n.toArray⟩) true).run Tryd.prog (w1.alloc o) = .ok (.tuple #[.agg #[.int .u8 f.verb, .int .i64 f.least, .int .i64 f.most, .int .u8 (f.fld 0 : Nat), .int .u8 (f.fld 1 : Nat), .int .u8 (f.fld 2 : Nat), .int .u8 (f.fld 3 : Nat), .int .i64 f.spare, .bool f.quiet], .bool true]) (w1.alloc o) := fun o => lookY (hown.alloc o) rfl hns HF.out; have P := Lib.hid (pz_one (f := f) HB.out HC.out HT.out HG.out.1 HG.out.2 hb1); clear hown hb1)
        | (go_at_call 30; refine (formsw _).mono ?_; rintro e w1 ⟨rfl, hown, hb1⟩; have c2 := box_cell hb1 (by show g < (W.alloc _).heap.size; simp; omega) (c3 zForm); have c5 := ((keeps_setCells W.heap.size (formC f) 0 w1).cell (p := ⟨g, 0, none⟩) (by show ¬ g = W.heap.size; omega) c2); have hr1 : (Instr.lookup 76 (.map (some (W.heap.size + 1))) (.string ⟨n.toArray⟩) true).run Tryd.prog w1 = .ok (.tuple #[.agg #[.int .u8 f.verb, .int .i64 f.least, .int .i64 f.most, .int .u8 (f.fld 0 : Nat), .int .u8 (f.fld 1 : Nat), .int .u8 (f.fld 2 : Nat), .int .u8 (f.fld 3 : Nat), .int .i64 f.spare, .bool f.quiet], .bool true]) w1 := lookY hown (by simp) hns HF.out; obtain ⟨⟨k0, k1, k2, k3, k4, k5, k6, k7, k8⟩, j0, j1, j2, j3, j4, j5, j6, j7, j8⟩ := fb_cells ((zform_new W).new ((Below.refl _ _).drew.trans hb1)); have P := Lib.hid (pz_two (f := f) HB.out HC.out HT.out HG.out.1 HG.out.2 hb1); clear hown hb1))
    all_goals
      go_wp2_with fail
      go_meet
      case rel => exact ⟨_, rfl, rfl, P.out⟩
  obtain ⟨b, rfl, rfl, hP⟩ := hcut
  generalize wc = X at *
  clear c1 c3 c1d c3d HC HB HT
  go_upto_region 9 with (fail)
  go_cut [4] from 11 (fun s4 wx => ∃ o1 cap1, s4 = .slice (some ⟨g, o1, none⟩) (m - 1) cap1 ∧ wx = X ∧ m - 1 ≤ cap1 ∧ cap1 ≤ 9223372036854775807 ∧ TxAt X g o1 ws)
  case first =>
    by_cases hc1 : cap = 1
    · subst hc1
      have hm1 : m = 1 := by omega
      subst hm1
      have HN := Lib.hid (show ws = [] from List.eq_nil_of_length_eq_zero (by have := HM.out; simp at this; simpa using this))
      go_wp2_with fail
      go_meet
      case rel => exact ⟨0, 0, rfl, rfl, by omega, by omega, by rw [HN.out]; intro j x hj; simp at hj⟩
    · have hm1 : (1 : Int) ≤ (m : Int) := by omega
      have hcc : (1 : Int) ≤ (cap : Int) := by omega
      go_wp2_with fail
      go_meet
      case rel => exact ⟨1, cap - 1, rfl, rfl, by omega, by omega, fun j x hj => by rw [Nat.add_comm]; have := hP.txt (j + 1) x hj; rwa [Nat.zero_add] at this⟩
  obtain ⟨o1, cap1, rfl, hX, hn1, hc1, hT1⟩ := hcut
  rw [hX]
  clear hX wc
  obtain ⟨k, hk⟩ : ∃ k, k = m - 1 := ⟨_, rfl⟩
  have hkw : ws.length = k := by have := HM.out; simp at this; omega
  rw [← hk] at hn1 ⊢
  have hk20 : k ≤ 1048576 := by omega
  have HK := Lib.hid hkw
  clear hk hkw hlen hnc hcm hmm e0 hm0 HM HW
  have c0 := hP.form.at_ 0 _ rfl
  have HX0 := Lib.hid (pz_cmd hP hT1)
  go_upto_region 12 with (fail)
  generalize X.heap.size = q at *
  generalize X.alloc _ = Y at *
  clear c0 hP hT1
  have hfo := HO.out
  have hw1 := Lib.hid (fewestL f hfo)
  have q1 := hfo.len
  have q2 := hfo.few
  have hfw : (f.fewest : Nat) ≤ 128 := by unfold Form.fewest; omega
  have HQ := Lib.hid (quietW_cases f ws)
  clear hfo q1 q2
  go_cut [57] from 11 (fun s57 wx => s57 = .bool (quietW f ws) ∧ PzC w wx g b q f (beginW f false []) (.slice none 0 0) o1 ws)
  case first =>
    obtain ⟨⟨f0, f1, f2, f3, f4, f5, f6, f7, f8⟩, -⟩ := ff_cells HX0.out.form
    cases hfq : f.quiet with
    | false =>
      rw [hfq] at f8
      have HE := Lib.hid (HQ.out.1 hfq)
      clear hfq
      go_wp2_with fail
      go_meet
      case rel => exact ⟨by rw [HE.out], HX0.out⟩
    | true =>
      rw [hfq] at f8
      have hC := fewestL f HO.out Y
      rw [hfq] at hC
      have HFQ := Lib.hid hfq
      have HC := Lib.hid hC
      clear hfq hC
      by_cases hkf : f.fewest < k
      · obtain ⟨k', rfl⟩ : ∃ k', k = k' + 1 := ⟨k - 1, by omega⟩
        have d1 : decide (f.fewest < k' + 1) = true := decide_eq_true hkf
        have d2 : decide ((f.fewest : Int) < (k' : Int) + 1) = true := decide_eq_true (by omega)
        obtain ⟨y, hy⟩ : ∃ y, ws[k']? = some y := ⟨ws[k']'(by rw [HK.out]; omega), List.getElem?_eq_getElem _⟩
        have hcy := HX0.out.txt k' y hy
        have HY := Lib.hid hy
        have HKF := Lib.hid hkf
        clear hy hkf
        by_cases hyn : y = [110, 111, 114, 101, 112, 108, 121]
        · have e1 : (y == [110, 111, 114, 101, 112, 108, 121]) = true := by simpa using hyn
          have HE := Lib.hid (HQ.out.2.2 HFQ.out (by rw [HK.out]; exact HKF.out) (by rw [HK.out]; have := HY.out; rw [hyn] at this; exact this))
          have HYN := Lib.hid hyn
          clear hyn
          go_wp2_with fail
          refine HC.out.mono ?_
          rintro e w1 ⟨rfl, hb1⟩
          have hcy1 := (HX0.out.new hb1).txt k' y HY.out
          have HX1 := Lib.hid (HX0.out.new hb1)
          clear hb1 HX0
          go_wp2_with fail
          go_meet
          case rel => exact ⟨by rw [HE.out], HX1.out⟩
        · have e1 : (y == [110, 111, 114, 101, 112, 108, 121]) = false := by simpa using hyn
          have HE := Lib.hid (HQ.out.2.1.2 HFQ.out y (by rw [HK.out]; exact HY.out) hyn)
          clear hyn
          go_wp2_with fail
          refine HC.out.mono ?_
          rintro e w1 ⟨rfl, hb1⟩
          have hcy1 := (HX0.out.new hb1).txt k' y HY.out
          have HX1 := Lib.hid (HX0.out.new hb1)
          clear hb1 HX0
          go_wp2_with fail
          go_meet
          case rel => exact ⟨by rw [HE.out], HX1.out⟩
      · have d1 : decide (f.fewest < k) = false := decide_eq_false hkf
        have HE := Lib.hid (HQ.out.2.1.1 HFQ.out (by rw [HK.out]; exact hkf))
        clear hkf
        go_wp2_with fail
        refine HC.out.mono ?_
        rintro e w1 ⟨rfl, hb1⟩
        have HX1 := Lib.hid (HX0.out.new hb1)
        clear hb1 HX0
        go_wp2_with fail
        go_meet
        case rel => exact ⟨by rw [HE.out], HX1.out⟩
  obtain ⟨rfl, hX1⟩ := hcut
  generalize wc = X1 at *
  clear HX0 HQ
  generalize Y = Y0 at *
  clear Y0
  go_upto_if 57 with (fail)
  go_cut [4] from 11 (fun s4 wx => s4 = .slice (some ⟨g, o1, none⟩) (restW f ws).length cap1 ∧ PzC w wx g b q f (beginW f (quietW f ws) []) (.slice none 0 0) o1 (restW f ws))
  case first =>
    cases hqw : quietW f ws with
    | false =>
      have HE := Lib.hid (show restW f ws = ws by unfold restW; rw [hqw]; rfl)
      have HQW := Lib.hid hqw
      clear hqw
      go_wp2_with fail
      go_meet
      case rel => exact ⟨by rw [HE.out, HK.out], by rw [HE.out, HQW.out]; exact hX1⟩
    | true =>
      have hk0 : f.fewest < ws.length := quiet_pos hqw
      obtain ⟨k', rfl⟩ : ∃ k', k = k' + 1 := ⟨k - 1, by rw [HK.out] at hk0; omega⟩
      have HE := Lib.hid (show restW f ws = ws.dropLast by unfold restW; rw [hqw]; rfl)
      have c10 := hX1.cmd.at_ 10 _ rfl
      have z10 := hX1.cmd.fz 10 (by show 10 < 11; decide)
      have HX1 := Lib.hid hX1
      have HQW := Lib.hid hqw
      clear hqw hX1 hk0
      go_wp2_with fail
      go_meet
      case rel =>
        have hs := HX1.out.cmd.set 10 (.bool true) (by show 10 < 11; decide) rfl
        have hk : Keeps (fun k => k = q) X1 (X1.setCell ⟨q, 10, none⟩ (.bool true)) := Keeps.setCell (S := fun k => k = q) (Keeps.refl _ X1) (p := ⟨q, 10, none⟩) (.inl rfl) _
        rw [HQW.out]
        refine ⟨?_, (HX1.out.turn (c' := beginW f true []) hk hs).text ?_⟩
        · rw [HE.out, List.length_dropLast, HK.out]
          rfl
        · rw [HE.out]
          intro j x hj
          exact (HX1.out.turn (c' := beginW f true []) hk hs).txt j x (drop_last hj)
  obtain ⟨rfl, hX2⟩ := hcut
  have hr := rest_len f ws
  rw [HK.out] at hr
  obtain ⟨l2, hl2⟩ : ∃ l2, l2 = restW f ws := ⟨_, rfl⟩
  obtain ⟨qt, hqt⟩ : ∃ qt, qt = quietW f ws := ⟨_, rfl⟩
  have hPW : parseW f ws = keyedW f qt l2 := by rw [hqt, hl2]; rfl
  have HPW := Lib.hid hPW
  rw [← hl2] at hX2 hr ⊢
  rw [← hqt] at hX2
  have hsz2 : ∀ x ∈ l2, x.length ≤ 1048576 := fun x hx => HSZ.out x (List.mem_cons_of_mem _ (rest_mem (by rw [← hl2]; exact hx)))
  obtain ⟨k2, hk2⟩ : ∃ k2, l2.length = k2 := ⟨_, rfl⟩
  rw [hk2] at hr ⊢
  have hkc : k2 ≤ cap1 := by omega
  have hk22 : k2 ≤ 1048576 := by omega
  have HK2 := Lib.hid hk2
  have HS2 := Lib.hid hsz2
  clear hPW hl2 hqt hk2 hsz2 hr hw1 HK HSZ HF hns hn1 hX1 hk20 d0 h
  generalize wc = X2 at *
  clear X1
  have hgr : (f.greatest : Nat) ≤ 128 := by have q1 := HO.out.len; have q2 := HO.out.most; unfold Form.greatest; omega
  have HF1 := Lib.hid (fewestL f HO.out)
  have HF2 := Lib.hid (greatestL f HO.out)
  obtain ⟨⟨f0, f1, f2, f3, f4, f5, f6, f7, f8⟩, -⟩ := ff_cells hX2.form
  have HX2 := Lib.hid hX2
  clear hX2
  by_cases hs1 : k2 < f.fewest
  · have e1 : decide (k2 < f.fewest) = true := decide_eq_true hs1
    have HE := Lib.hid (show parseW f ws = (Cmd.none, 1) by rw [HPW.out]; unfold keyedW; rw [HK2.out, if_pos (.inl hs1)])
    clear hs1
    go_wp2_with fail
    refine (HF1.out _).mono ?_
    rintro e w1 ⟨rfl, hb1⟩
    have HX3 := Lib.hid (HX2.out.new hb1)
    clear hb1 HX2 f0 f1 f2 f3 f4 f5 f6 f7 f8
    go_wp2_with (refine wpList_cmd rfl (.tmp 2) (.tmp 75) rfl w.heap.size Cmd.none (.slice none 0 0) Cmd.none (.slice none 0 0) HX3.out.res rfl rfl rfl ?_; intro W2 hC2 hK2; obtain ⟨r0, r1, r2, r3, r4, r5, r6, r7, r8, r9, r10⟩ := cb_zero hC2)
    refine bodyPost_ret (v := .tuple #[zeroCmd, .int .u8 1]) (by simp [results, Tryd.results10, go_sem, zeroCmd, r0, r1, r2, r3, r4, r5, r6, r7, r8, r9, r10]) rfl ?_
    rw [HE.out]
    exact isPar_none (par_below HX3.out.below hK2)
  by_cases hs2 : f.greatest < k2
  · have e1 : decide (k2 < f.fewest) = false := decide_eq_false hs1
    have e2 : decide (f.greatest < k2) = true := decide_eq_true hs2
    have HE := Lib.hid (show parseW f ws = (Cmd.none, 1) by rw [HPW.out]; unfold keyedW; rw [HK2.out, if_pos (.inr hs2)])
    clear hs1 hs2
    go_wp2_with fail
    refine (HF1.out _).mono ?_
    rintro e w1 ⟨rfl, hb1⟩
    obtain ⟨⟨f0, f1, f2, f3, f4, f5, f6, f7, f8⟩, -⟩ := ff_cells (HX2.out.new hb1).form
    have HX3 := Lib.hid (HX2.out.new hb1)
    clear hb1 HX2
    go_wp2_with fail
    refine (HF2.out _).mono ?_
    rintro e w1 ⟨rfl, hb1⟩
    have HX4 := Lib.hid (HX3.out.new hb1)
    clear hb1 HX3 f0 f1 f2 f3 f4 f5 f6 f7 f8
    go_wp2_with (refine wpList_cmd rfl (.tmp 2) (.tmp 75) rfl w.heap.size Cmd.none (.slice none 0 0) Cmd.none (.slice none 0 0) HX4.out.res rfl rfl rfl ?_; intro W2 hC2 hK2; obtain ⟨r0, r1, r2, r3, r4, r5, r6, r7, r8, r9, r10⟩ := cb_zero hC2)
    refine bodyPost_ret (v := .tuple #[zeroCmd, .int .u8 1]) (by simp [results, Tryd.results10, go_sem, zeroCmd, r0, r1, r2, r3, r4, r5, r6, r7, r8, r9, r10]) rfl ?_
    rw [HE.out]
    exact isPar_none (par_below HX4.out.below hK2)
  have e1 : decide (k2 < f.fewest) = false := decide_eq_false hs1
  have e2 : decide (f.greatest < k2) = false := decide_eq_false hs2
  have hPW2 : parseW f ws = if (l2.take f.most).all okF = true then readFs f.fields (l2.drop f.most) (beginW f qt (l2.take f.most)) else (Cmd.none, 2) := by rw [HPW.out]; unfold keyedW; rw [HK2.out, if_neg (by omega)]
  have HP2 := Lib.hid hPW2
  have HS1 := Lib.hid hs1
  have HS2' := Lib.hid hs2
  clear hs1 hs2 hPW2 HPW
  go_upto_region 17 with (first
    | (go_at_call 31; ((with_reducible refine (HF1.out _).mono ?_); rintro e w1 ⟨rfl, hb1⟩; obtain ⟨⟨g0, g1, g2, g3, g4, g5, g6, g7, g8⟩, -⟩ := ff_cells (HX2.out.new hb1).form; have HX3 := Lib.hid (HX2.out.new hb1); clear hb1 HX2 f0 f1 f2 f3 f4 f5 f6 f7 f8))
    | (go_at_call 32; ((with_reducible refine (HF2.out _).mono ?_); rintro e w2 ⟨rfl, hb2⟩; obtain ⟨⟨f0, f1, f2, f3, f4, f5, f6, f7, f8⟩, -⟩ := ff_cells (HX3.out.new hb2).form; have HX4 := Lib.hid (HX3.out.new hb2); clear hb2 HX3 g0 g1 g2 g3 g4 g5 g6 g7 g8)))
  obtain ⟨sp, hsp⟩ : ∃ sp, sp = min f.most k2 := ⟨_, rfl⟩
  have hsp2 : sp ≤ k2 := by omega
  have htk : l2.take f.most = l2.take sp := by
    rw [hsp]
    by_cases hm : f.most ≤ k2
    · rw [Nat.min_eq_left hm]
    · rw [Nat.min_eq_right (by omega), List.take_of_length_le (by rw [HK2.out]; omega), List.take_of_length_le (by rw [HK2.out]; omega)]
  have hdr : l2.drop f.most = l2.drop sp := by
    rw [hsp]
    by_cases hm : f.most ≤ k2
    · rw [Nat.min_eq_left hm]
    · rw [Nat.min_eq_right (by omega), List.drop_eq_nil_of_le (by rw [HK2.out]; omega), List.drop_eq_nil_of_le (by rw [HK2.out]; omega)]
  have hPW3 := HP2.out
  rw [htk, hdr] at hPW3
  have HP3 := Lib.hid hPW3
  have hm64 := HO.out.most
  have HSP := Lib.hid hsp
  clear hPW3 htk hdr HP2 hsp
  go_cut [9] from 11 (fun s9 wx => s9 = .int .i64 (sp : Nat) ∧ wx = w2)
  case first =>
    go_wp2_with fail
    all_goals
      go_meet
      case rel => exact ⟨by rw [HSP.out]; congr 1; omega, rfl⟩
  obtain ⟨rfl, hX⟩ := hcut
  rw [hX]
  clear hX wc
  have hlt : (l2.take sp).length = sp := by rw [List.length_take, HK2.out]; omega
  have HKY := Lib.hid (rkeysw (l2.take sp) g o1 cap1 q sp (beginW f qt []) w2 hlt (by omega) (by omega) (by unfold maxLen; omega) (fun x hx => HS2.out x (List.mem_of_mem_take hx)) (by have := HX4.out.gb; have := HX4.out.bq; omega) (by have := HX4.out.gb; have := HX4.out.form.lt; omega) (fun j x hj => HX4.out.txt j x (by rw [List.getElem?_take] at hj; split at hj; exact hj; simp at hj)) HX4.out.cmd)
  clear hlt
  go_wp2_with fail
  refine HKY.out.mono ?_
  rintro e w3 ⟨rfl, hk3, hc3⟩
  have hbw3 : Keeps (fun k => k = q) w2 w3 := hk3
  cases hall : (l2.take sp).all okF with
  | false =>
    have HE := Lib.hid (show parseW f ws = (Cmd.none, 2) by rw [HP3.out, hall]; rfl)
    have hr3 := HX4.out.res.keep hk3 (by have := HX4.out.rg; have := HX4.out.gb; have := HX4.out.bq; omega)
    have hb3 := HX4.out.below.trans (hk3.to_below (fun k _ e => by have := HX4.out.rg; have := HX4.out.gb; have := HX4.out.bq; omega) HX4.out.below.size)
    have HR3 := Lib.hid hr3
    have HB3 := Lib.hid hb3
    clear hall hc3 hk3 hbw3 hr3 hb3
    go_wp2_with (refine wpList_cmd rfl (.tmp 2) (.tmp 86) rfl w.heap.size Cmd.none (.slice none 0 0) Cmd.none (.slice none 0 0) HR3.out rfl rfl rfl ?_; intro W2 hC2 hK2; obtain ⟨r0, r1, r2, r3, r4, r5, r6, r7, r8, r9, r10⟩ := cb_zero hC2)
    refine bodyPost_ret (v := .tuple #[zeroCmd, .int .u8 2]) (by simp [results, Tryd.results10, go_sem, zeroCmd, r0, r1, r2, r3, r4, r5, r6, r7, r8, r9, r10]) rfl ?_
    rw [HE.out]
    exact isPar_none (par_below HB3.out hK2)
  | true =>
  obtain ⟨kv, hcb3, hL3⟩ := hc3 hall
  have HP4 := Lib.hid (show parseW f ws = readFs f.fields (l2.drop sp) (beginW f qt (l2.take sp)) by rw [HP3.out, hall]; rfl)
  have HX5 := Lib.hid (HX4.out.turn (c' := beginW f qt (l2.take sp)) hk3 hcb3)
  have HL5 := Lib.hid hL3
  have hqR := And.intro HX5.out.rg (And.intro HX5.out.gb HX5.out.bq)
  have hq2 : q < w2.heap.size := HX4.out.cmd.lt
  clear hall hc3 hk3 hbw3 hcb3 hL3 HX4 HKY f0 f1 f2 f3 f4 f5 f6 f7 f8 HP3
  obtain ⟨⟨f0, f1, f2, f3, f4, f5, f6, f7, f8⟩, -⟩ := ff_cells HX5.out.form
  obtain ⟨rl, hrl⟩ : ∃ rl, rl = l2.drop sp := ⟨_, rfl⟩
  have hrn : rl.length = k2 - sp := by rw [hrl, List.length_drop, HK2.out]
  have hrf : rl.length ≤ f.fields.length := by
    have h1 := HSP.out
    have h2 := HS2'.out
    have h3 := HS1.out
    have h4 := HO.out.least
    have h5 := HO.out.spare
    unfold Form.greatest at h2
    unfold Form.fewest at h3
    rw [hrn]
    omega
  have hrs : ∀ x ∈ rl, x.length ≤ 1048576 := fun x hx => HS2.out x (List.mem_of_mem_drop (by rw [← hrl]; exact hx))
  have hrt : TxAt w3 g (o1 + sp) rl := fun j x hj => by
    rw [Nat.add_assoc]
    refine HX5.out.txt (sp + j) x ?_
    rw [hrl, List.getElem?_drop] at hj
    exact hj
  have hgq : g ≠ q := by omega
  have HP5 := Lib.hid (show parseW f ws = readFs f.fields rl (beginW f qt (l2.take sp)) by rw [HP4.out, hrl])
  have HRL := Lib.hid (And.intro hrn (And.intro hrf (And.intro hrs hrt)))
  clear hrn hrf hrs hrt hrl HP4
  have HQB := Lib.hid (show ¬ b = q by omega)
  have HCD := Lib.hid (HX5.out.cmd.new ((Below.refl w3.heap.size w3).drew))
  have HTD := Lib.hid (show TxAt w3.drew g (o1 + sp) rl from HRL.out.2.2.2)
  have HKD := Lib.hid (show Keeps (fun k => k = q) w3 w3.drew from (Keeps.refl _ w3).drew)
  go_upto_region 20 with (fail)
  go_cut [10] from 11 (fun s10 wx => s10 = .int .u8 ((readFs f.fields rl (beginW f qt (l2.take sp))).2 : Nat) ∧ Keeps (fun k => k = q) w3 wx ∧ ((readFs f.fields rl (beginW f qt (l2.take sp))).2 = 0 ∨ (readFs f.fields rl (beginW f qt (l2.take sp))).2 = 5 → Cb wx q (cmdC (readFs f.fields rl (beginW f qt (l2.take sp))).1 kv)))
  case first =>
   by_cases hcs : sp = cap1
   · subst hcs
     obtain rfl : k2 = sp := by omega
     have HFI := Lib.hid (fun W (hW : Cb W q (cmdC (beginW f qt (l2.take k2)) kv)) (_ : TxAt W g (o1 + k2) rl) => rfieldsL f rl g ⟨g, o1, none⟩ 0 q 0 (beginW f qt (l2.take k2)) kv W HO.out (by rw [HRL.out.1]; omega) HRL.out.2.1 (by rw [HRL.out.1]; omega) (by unfold maxLen; omega) HRL.out.2.2.1 hgq (fun h => by rw [HRL.out.1] at h; omega) hW)
     go_region_held3 (fun X => X.cell? ⟨b, 0, none⟩ = some (.int .u8 f.verb) ∧ X.cell? ⟨b, 1, none⟩ = some (.int .i64 f.least) ∧ X.cell? ⟨b, 2, none⟩ = some (.int .i64 f.most) ∧ X.cell? ⟨b, 3, none⟩ = some (.int .u8 (f.fld 0 : Nat)) ∧ X.cell? ⟨b, 4, none⟩ = some (.int .u8 (f.fld 1 : Nat)) ∧ X.cell? ⟨b, 5, none⟩ = some (.int .u8 (f.fld 2 : Nat)) ∧ X.cell? ⟨b, 6, none⟩ = some (.int .u8 (f.fld 3 : Nat)) ∧ X.cell? ⟨b, 7, none⟩ = some (.int .i64 f.spare) ∧ X.cell? ⟨b, 8, none⟩ = some (.bool f.quiet))
       (first | exact ⟨by assumption, by assumption, by assumption, by assumption, by assumption, by assumption, by assumption, by assumption, by assumption⟩)
       ((go_at_call 34; ((with_reducible refine (HFI.out _ HCD.out HTD.out).mono ?_); rintro e w4 ⟨rfl, hk4, hc4⟩; have HC4 := Lib.hid hc4; have HK4 := Lib.hid (HKD.out.trans hk4 (fun _ _ s => s)); have hqb := HQB.out; replace f0 := hk4.cell (p := ⟨b, 0, none⟩) hqb f0; replace f1 := hk4.cell (p := ⟨b, 1, none⟩) hqb f1; replace f2 := hk4.cell (p := ⟨b, 2, none⟩) hqb f2; replace f3 := hk4.cell (p := ⟨b, 3, none⟩) hqb f3; replace f4 := hk4.cell (p := ⟨b, 4, none⟩) hqb f4; replace f5 := hk4.cell (p := ⟨b, 5, none⟩) hqb f5; replace f6 := hk4.cell (p := ⟨b, 6, none⟩) hqb f6; replace f7 := hk4.cell (p := ⟨b, 7, none⟩) hqb f7; replace f8 := hk4.cell (p := ⟨b, 8, none⟩) hqb f8; clear hk4 hc4)))
     go_wp2_with fail
     go_meet
     case rel => exact ⟨rfl, HK4.out, HC4.out⟩
   · have hcs2 : ((sp : Nat) : Int) ≤ (cap1 : Int) := by omega
     have hcs3 : sp < cap1 := by omega
     have hcs4 : ¬ cap1 = sp := by omega
     have HFI := Lib.hid (fun W (hW : Cb W q (cmdC (beginW f qt (l2.take sp)) kv)) (hT : TxAt W g (o1 + sp) rl) => rfieldsL f rl g ⟨g, o1 + sp, none⟩ (cap1 - sp) q (k2 - sp) (beginW f qt (l2.take sp)) kv W HO.out HRL.out.1 HRL.out.2.1 (by rw [HRL.out.1]; omega) (by unfold maxLen; omega) HRL.out.2.2.1 hgq (fun _ => ⟨o1 + sp, rfl, hT⟩) hW)
     go_region_held3 (fun X => X.cell? ⟨b, 0, none⟩ = some (.int .u8 f.verb) ∧ X.cell? ⟨b, 1, none⟩ = some (.int .i64 f.least) ∧ X.cell? ⟨b, 2, none⟩ = some (.int .i64 f.most) ∧ X.cell? ⟨b, 3, none⟩ = some (.int .u8 (f.fld 0 : Nat)) ∧ X.cell? ⟨b, 4, none⟩ = some (.int .u8 (f.fld 1 : Nat)) ∧ X.cell? ⟨b, 5, none⟩ = some (.int .u8 (f.fld 2 : Nat)) ∧ X.cell? ⟨b, 6, none⟩ = some (.int .u8 (f.fld 3 : Nat)) ∧ X.cell? ⟨b, 7, none⟩ = some (.int .i64 f.spare) ∧ X.cell? ⟨b, 8, none⟩ = some (.bool f.quiet))
       (first | exact ⟨by assumption, by assumption, by assumption, by assumption, by assumption, by assumption, by assumption, by assumption, by assumption⟩)
       ((go_at_call 34; ((with_reducible refine (HFI.out _ HCD.out HTD.out).mono ?_); rintro e w4 ⟨rfl, hk4, hc4⟩; have HC4 := Lib.hid hc4; have HK4 := Lib.hid (HKD.out.trans hk4 (fun _ _ s => s)); have hqb := HQB.out; replace f0 := hk4.cell (p := ⟨b, 0, none⟩) hqb f0; replace f1 := hk4.cell (p := ⟨b, 1, none⟩) hqb f1; replace f2 := hk4.cell (p := ⟨b, 2, none⟩) hqb f2; replace f3 := hk4.cell (p := ⟨b, 3, none⟩) hqb f3; replace f4 := hk4.cell (p := ⟨b, 4, none⟩) hqb f4; replace f5 := hk4.cell (p := ⟨b, 5, none⟩) hqb f5; replace f6 := hk4.cell (p := ⟨b, 6, none⟩) hqb f6; replace f7 := hk4.cell (p := ⟨b, 7, none⟩) hqb f7; replace f8 := hk4.cell (p := ⟨b, 8, none⟩) hqb f8; clear hk4 hc4)))
     go_wp2_with fail
     go_meet
     case rel => exact ⟨rfl, HK4.out, HC4.out⟩
  obtain ⟨rfl, hk6, hc6⟩ := hcut
  obtain ⟨p, hp⟩ : ∃ p, readFs f.fields rl (beginW f qt (l2.take sp)) = p := ⟨_, rfl⟩
  rw [hp] at hc6 ⊢
  obtain ⟨c', t⟩ := p
  simp only at hc6 ⊢
  have HPP := Lib.hid hp
  have hq2' : q < w2.heap.size := hq2
  clear hp HCD HTD HKD
  generalize wc = W6 at *
  by_cases ht : t = 0
  · skip
    obtain rfl : t = 0 := ht
    have hkk := readFs_keys f.fields rl (beginW f qt (l2.take sp)) (by rw [HPP.out]; exact .inl rfl)
    rw [HPP.out] at hkk
    have hcb := hc6 (.inl rfl)
    obtain ⟨k0, k1, k2', k3, k4, k5, k6, k7, k8, k9, k10⟩ := cb_cells hcb
    have hres := HX5.out.res.keep hk6 (by omega)
    have hbel := HX5.out.below.trans (hk6.to_below (fun k _ e => by omega) HX5.out.below.size)
    have HRES := Lib.hid hres
    have HBEL := Lib.hid hbel
    have HK6 := Lib.hid hk6
    have HKK := Lib.hid hkk
    have h1v := lst_one HL5.out
    clear hkk hcb hc6 hk6 hres hbel
    go_wp2_with (refine wpList_cmd rfl (.tmp 2) (.tmp 100) rfl w.heap.size Cmd.none (.slice none 0 0) c' kv HRES.out h1v rfl rfl ?_; intro W2 hC2 hK2; obtain ⟨r0, r1, r2, r3, r4, r5, r6, r7, r8, r9, r10⟩ := cb_cells hC2)
    refine bodyPost_ret (v := .tuple #[.agg (cmdC c' kv).toArray, .int .u8 0]) (by simp [results, Tryd.results10, go_sem, cmdC, r0, r1, r2, r3, r4, r5, r6, r7, r8, r9, r10]) rfl ?_
    rw [HP5.out, HPP.out]
    refine ⟨kv, rfl, ?_, par_below HBEL.out hK2⟩
    have hL := (HL5.out.keep (HK6.out) (fun g hg e => by omega)).keep hK2 (fun g hg e => by omega)
    unfold KeysAt
    rw [show c'.keys = l2.take sp from HKK.out]
    exact hL.mono (by omega)
  by_cases ht5 : t = 5
  · have ht : t = 5 := ht5
    clear ht5
    obtain rfl : t = 5 := ht
    have hkk := readFs_keys f.fields rl (beginW f qt (l2.take sp)) (by rw [HPP.out]; exact .inr rfl)
    rw [HPP.out] at hkk
    have hcb := hc6 (.inr rfl)
    obtain ⟨k0, k1, k2', k3, k4, k5, k6, k7, k8, k9, k10⟩ := cb_cells hcb
    have hres := HX5.out.res.keep hk6 (by omega)
    have hbel := HX5.out.below.trans (hk6.to_below (fun k _ e => by omega) HX5.out.below.size)
    have HRES := Lib.hid hres
    have HBEL := Lib.hid hbel
    have HK6 := Lib.hid hk6
    have HKK := Lib.hid hkk
    have h1v := lst_one HL5.out
    clear hkk hcb hc6 hk6 hres hbel
    go_wp2_with (refine wpList_cmd rfl (.tmp 2) (.tmp 100) rfl w.heap.size Cmd.none (.slice none 0 0) c' kv HRES.out h1v rfl rfl ?_; intro W2 hC2 hK2; obtain ⟨r0, r1, r2, r3, r4, r5, r6, r7, r8, r9, r10⟩ := cb_cells hC2)
    refine bodyPost_ret (v := .tuple #[.agg (cmdC c' kv).toArray, .int .u8 5]) (by simp [results, Tryd.results10, go_sem, cmdC, r0, r1, r2, r3, r4, r5, r6, r7, r8, r9, r10]) rfl ?_
    rw [HP5.out, HPP.out]
    refine ⟨kv, rfl, ?_, par_below HBEL.out hK2⟩
    have hL := (HL5.out.keep (HK6.out) (fun g hg e => by omega)).keep hK2 (fun g hg e => by omega)
    unfold KeysAt
    rw [show c'.keys = l2.take sp from HKK.out]
    exact hL.mono (by omega)
  have hft := readFs_fault f.fields rl (beginW f qt (l2.take sp)) (by rw [HPP.out]; show ¬ (t = 0 ∨ t = 5); omega)
  rw [HPP.out] at hft
  obtain ⟨rfl, htt⟩ : c' = Cmd.none ∧ (t = 2 ∨ t = 4) := hft
  have hres := HX5.out.res.keep hk6 (by omega)
  have hbel := HX5.out.below.trans (hk6.to_below (fun k _ e => by omega) HX5.out.below.size)
  have HRES := Lib.hid hres
  have HBEL := Lib.hid hbel
  clear hc6 hk6 hres hbel ht ht5
  rcases htt with rfl | rfl
  · go_wp2_with (refine wpList_cmd rfl (.tmp 2) (.tmp 98) rfl w.heap.size Cmd.none (.slice none 0 0) Cmd.none (.slice none 0 0) HRES.out rfl rfl rfl ?_; intro W2 hC2 hK2; obtain ⟨r0, r1, r2, r3, r4, r5, r6, r7, r8, r9, r10⟩ := cb_zero hC2)
    refine bodyPost_ret (v := .tuple #[zeroCmd, .int .u8 2]) (by simp [results, Tryd.results10, go_sem, zeroCmd, r0, r1, r2, r3, r4, r5, r6, r7, r8, r9, r10]) rfl ?_
    rw [HP5.out, HPP.out]
    exact isPar_none (par_below HBEL.out hK2)
  · go_wp2_with (refine wpList_cmd rfl (.tmp 2) (.tmp 98) rfl w.heap.size Cmd.none (.slice none 0 0) Cmd.none (.slice none 0 0) HRES.out rfl rfl rfl ?_; intro W2 hC2 hK2; obtain ⟨r0, r1, r2, r3, r4, r5, r6, r7, r8, r9, r10⟩ := cb_zero hC2)
    refine bodyPost_ret (v := .tuple #[zeroCmd, .int .u8 4]) (by simp [results, Tryd.results10, go_sem, zeroCmd, r0, r1, r2, r3, r4, r5, r6, r7, r8, r9, r10]) rfl ?_
    rw [HP5.out, HPP.out]
    exact isPar_none (par_below HBEL.out hK2)
end Go.Proofs.YtifbcejekdhnlaaDoor
