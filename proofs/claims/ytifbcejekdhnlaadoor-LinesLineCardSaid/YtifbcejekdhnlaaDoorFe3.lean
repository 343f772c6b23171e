/- Feeds: a byte is taken. -/
import Derived.Test.YtifbcejekdhnlaaDoorFe2
import Derived.Maps.AppendAt
namespace Go.Proofs.YtifbcejekdhnlaaDoor
open Go.RowKit Go.Maps
set_option linter.unusedVariables false

theorem info_u8 : (Tryd.prog.info? 5).map (fun i => (i.zero, i.size, i.bytes)) = some (some (.int .u8 0), 1, 1) := by kernel_rfl
theorem evC_agg (e : Ev) (kv : Value) : ∃ cs : Array Value, cs = (evC e kv).toArray := ⟨_, rfl⟩
/-- What stands while a byte is taken: the result R, the feed. -/
structure TkS (w W : World) (q R : Nat) (U : Nat → Prop) (s : Fst) (hv kv : Value) : Prop where
  keeps : Keeps U w W
  res : Cb W R (evC Ev.none (.slice none 0 0))
  fd : FdAt W q U s hv kv
  R : R = w.heap.size
  U : ∀ k, U k → k < w.heap.size
theorem TkS.ne {w W : World} {q R : Nat} {U : Nat → Prop} {s : Fst} {hv kv : Value} (h : TkS w W q R U s hv kv) : q ≠ R ∧ ¬ U R := ⟨fun e => by have := h.U q h.fd.me; have := h.R; omega, fun u => by have := h.U R u; have := h.R; omega⟩
theorem tks_new {w : World} {q : Nat} {U : Nat → Prop} {s : Fst} {hv kv : Value} (h : FdAt w q U s hv kv) : TkS w (w.alloc (.cells #[.int .u8 0, .slice none 0 0, .int .u8 0, .string ⟨#[]⟩, .string ⟨#[]⟩, .int .u32 0, .int .i64 0, .int .u64 0, .int .u64 0, .int .i64 0, .bool false, .string ⟨#[]⟩, .int .u8 0] 67)) q w.heap.size U s hv kv :=
  ⟨Keeps.of_new ((Below.refl _ _).alloc (Nat.le_refl _) _), ev_new w, h.new ((Below.refl _ _).alloc (Nat.le_refl _) _), rfl, h.lt⟩
/-- The feed has more held: the row has grown, or is a new one. -/
theorem fd_app {w0 w W : World} {q R : Nat} {U : Nat → Prop} {s : Fst} {hv kv : Value} {b : UInt8} {o : Obj} {a' : Option Addr} {n' c' : Nat} (hS : TkS w0 w q R U s hv kv)
    (hown : W.ownsRow 0 5 1 (.slice a' n' c') (s.held.length + 1) (byv s.held ++ [.int .u8 (b.toNat : Int)])) (hg : (w.alloc o).grownBy W hv.ownBlock) (hat : (Value.slice a' n' c').ownBlock = hv.ownBlock ∨ (Value.slice a' n' c').ownBlock = some (w.heap.size + 1)) :
    ∃ U' : Nat → Prop, (∀ k, U k → U' k) ∧ (∀ k, U' k → U k ∨ (w0.heap.size ≤ k ∧ k ≠ R)) ∧ FdAt (W.setCell ⟨q, 1, none⟩ (.slice a' n' c')) q U' { s with held := s.held ++ [b] } (.slice a' n' c') kv ∧ Keeps U w0 (W.setCell ⟨q, 1, none⟩ (.slice a' n' c')) ∧ Cb (W.setCell ⟨q, 1, none⟩ (.slice a' n' c')) R (evC Ev.none (.slice none 0 0)) ∧ W.cell? ⟨q, 1, none⟩ = some hv ∧ W.frozen? ⟨q, 1, none⟩ = false ∧ ∀ k, U' k → k < (W.setCell ⟨q, 1, none⟩ (.slice a' n' c')).heap.size := by
  obtain ⟨hqR, hUR⟩ := hS.ne
  have hF := hS.fd
  have hkv : Keeps (fun k => hv.ownBlock = some k) w W := ((Keeps.refl (fun k => hv.ownBlock = some k) w).alloc o).grown hg (fun k hk => .inl hk)
  have hnq : ¬ hv.ownBlock = some q := fun e => (hF.own q e).2 rfl
  have hC := hF.cells.keep hkv hnq
  have c1 := hC.at_ 1 _ rfl
  have z1 := hC.fz 1 (by show 1 < 15; decide)
  have hs : Cb (W.setCell ⟨q, 1, none⟩ (.slice a' n' c')) q (fdC { s with held := s.held ++ [b] } (.slice a' n' c') kv) := hC.set 1 _ (by show 1 < 15; decide) rfl
  have ks : Keeps (fun j => j = q) W (W.setCell ⟨q, 1, none⟩ (.slice a' n' c')) := Keeps.setCell (S := fun j => j = q) (Keeps.refl _ W) (p := ⟨q, 1, none⟩) (.inl rfl) _
  have hwW : w.heap.size + 1 ≤ W.heap.size := by have := hg.size; simpa using this
  have hsz := hS.keeps.size
  have hRl := hS.res.lt
  have hR := hS.R
  have hUw : ∀ k, U k → k < w.heap.size := fun k u => Nat.lt_of_lt_of_le (hS.U k u) hsz
  have hlt := fun g e => (Keeps.ownsRow (v := .slice a' n' c') hown (Keeps.refl (fun _ => False) W) (fun _ _ f => f)).lt g e
  have hwU : Keeps U w W := hkv.mono (fun k _ e => (hF.own k e).1)
  have hkU : Keeps U w (W.setCell ⟨q, 1, none⟩ (.slice a' n' c')) := hwU.trans (T := fun j => j = q) ks (fun k _ e => e ▸ hF.me)
  have hrow : (W.setCell ⟨q, 1, none⟩ (.slice a' n' c')).ownsRow 0 5 1 (.slice a' n' c') (s.held ++ [b]).length (byv (s.held ++ [b])) := by
    rw [byv_app, List.length_append]
    refine Keeps.ownsRow hown ks (fun g e n => ?_)
    rcases hat with h | h
    · exact (hF.own g (by rw [← h]; exact e)).2 n
    · rw [h] at e; injection e with e; have := hUw q hF.me; omega
  have hRW : Cb (W.setCell ⟨q, 1, none⟩ (.slice a' n' c')) R (evC Ev.none (.slice none 0 0)) := (hS.res.keep hwU hUR).keep ks (by omega)
  have hkeys : KyS (W.setCell ⟨q, 1, none⟩ (.slice a' n' c')) (fun k => U k ∨ k = w.heap.size + 1) kv s.cmd.keys := by
    rcases hF.keys with h' | ⟨g, c, e, h1, h2, h3, h4, h5⟩
    · exact .inl h'
    · refine .inr ⟨g, c, e, h1, h2, fun u => by rcases u with u | u; exact h3 u; omega, Nat.lt_of_lt_of_le h4 hkU.size, h5.keep hkU h3⟩
  have hlt1 : w.heap.size + 1 < W.heap.size ∨ (Value.slice a' n' c').ownBlock ≠ some (w.heap.size + 1) := by
    by_cases e : (Value.slice a' n' c').ownBlock = some (w.heap.size + 1)
    · exact .inl (hlt _ e).2
    · exact .inr e
  by_cases e : (Value.slice a' n' c').ownBlock = some (w.heap.size + 1)
  · have hl1 := (hlt _ e).2
    refine ⟨fun k => U k ∨ k = w.heap.size + 1, fun k u => .inl u, fun k u => ?_, ⟨hs, hrow, fun g eg => ?_, .inl hF.me, hkeys, fun k u => ?_⟩, hS.keeps.trans (T := U) hkU (fun _ _ u => u), hRW, c1, z1, fun k u => ?_⟩
    · rcases u with u | u
      · exact .inl u
      · exact .inr ⟨by omega, by omega⟩
    · rw [e] at eg; injection eg with eg
      exact ⟨.inr eg.symm, by have := hUw q hF.me; omega⟩
    · rcases u with u | u
      · exact Nat.lt_of_lt_of_le (hUw k u) hkU.size
      · have := ks.size; omega
    · rcases u with u | u
      · exact Nat.lt_of_lt_of_le (hUw k u) hkU.size
      · have := ks.size; omega
  · have e2 : (Value.slice a' n' c').ownBlock = hv.ownBlock := by rcases hat with h | h; exact h; exact absurd h e
    refine ⟨U, fun k u => u, fun k u => .inl u, ⟨hs, hrow, fun g eg => hF.own g (by rw [← e2]; exact eg), hF.me, ?_, fun k u => Nat.lt_of_lt_of_le (hUw k u) hkU.size⟩, hS.keeps.trans (T := U) hkU (fun _ _ u => u), hRW, c1, z1, fun k u => Nat.lt_of_lt_of_le (hUw k u) hkU.size⟩
    exact hkeys.less (fun k u => .inl u)
theorem KyS.over {W W' : World} {U : Nat → Prop} {R : Nat} {kv k0 : Value} {e0 : Ev} {l : List (List UInt8)} (h : KyS W U kv l) (hR : Cb W R (evC e0 k0)) (hk : Keeps (fun k => k = R) W W') : KyS W' U kv l := by
  rcases h with h | ⟨g, c, rfl, h1, h2, h3, h4, h5⟩
  · exact .inl h
  · refine .inr ⟨g, c, rfl, h1, h2, h3, Nat.lt_of_lt_of_le h4 hk.size, ?_⟩
    by_cases e : g = R
    · subst e
      cases l with
      | nil => intro j x hj; simp at hj
      | cons x l =>
        have := h5 0 x rfl
        rw [Nat.zero_add, hR.at_ 0 _ rfl] at this
        simp at this
    · exact h5.keep hk e
theorem tk_over {w X W Y : World} {q R : Nat} {U U' : Nat → Prop} {r : Fst × Option Ev} {hv kv kv2 k0 : Value} {ev e0 : Ev} (hk0 : Keeps U w X) (hR : R = w.heap.size) (hev : r.2 = some ev ∨ r.2 = none ∧ ev = Ev.none) (ht : Turn U U' X W) (hfd : FdAt W q U' r.1 hv kv) (hky : KyS W U' kv2 ev.cmd.keys)
    (hres : Cb W R (evC e0 k0)) (hUR : ¬ U R) (hRX : R < X.heap.size) (hk : Keeps (fun k => k = R) W Y) : TkPost w q U r (.returned (.tuple #[.agg (evC ev kv2).toArray, .bool r.2.isSome])) Y := by
  have hUR' : ¬ U' R := fun u => by rcases ht.only R u with u | u; exact hUR u; omega
  refine ⟨U', hv, kv, ev, kv2, rfl, hev, ⟨par_keep (hk0.trans ht.keeps (fun _ _ u => u)) (by rw [← hR]; exact hk) (by rw [← hR]; exact hUR), fun k u => ?_⟩, ⟨Cb.keep hfd.cells hk (fun e => hUR' (e ▸ hfd.me)), Keeps.ownsRow hfd.row hk (fun g e n => hUR' (n ▸ (hfd.own g e).1)), hfd.own, hfd.me, hfd.keys.over hres hk, fun k u => Nat.lt_of_lt_of_le (hfd.lt k u) hk.size⟩, hky.over hres hk⟩
  rcases ht.only k u with u | u
  · exact .inl u
  · exact .inr ⟨Nat.le_trans hk0.size u.1, Nat.lt_of_lt_of_le u.2 hk.size⟩
theorem tk_over2 {w W Y : World} {q R : Nat} {U U' : Nat → Prop} {s : Fst} {hv kv k0 : Value} {e0 : Ev} (hk0 : Keeps U w W) (hR : R = w.heap.size) (h1 : ∀ k, U k → U' k) (h2 : ∀ k, U' k → U k ∨ (w.heap.size ≤ k ∧ k ≠ R)) (hfd : FdAt W q U' s hv kv)
    (hres : Cb W R (evC e0 k0)) (hUR : ¬ U R) (hk : Keeps (fun k => k = R) W Y) : TkPost w q U (s, none) (.returned (.tuple #[zeroEv, .bool false])) Y := by
  have hUR' : ¬ U' R := fun u => by rcases h2 R u with u | u; exact hUR u; exact u.2 rfl
  refine ⟨U', hv, kv, Ev.none, .slice none 0 0, rfl, .inr ⟨rfl, rfl⟩, ⟨par_keep hk0 (by rw [← hR]; exact hk) (by rw [← hR]; exact hUR), fun k u => ?_⟩, ⟨Cb.keep hfd.cells hk (fun e => hUR' (e ▸ hfd.me)), Keeps.ownsRow hfd.row hk (fun g e n => hUR' (n ▸ (hfd.own g e).1)), hfd.own, hfd.me, hfd.keys.over hres hk, fun k u => Nat.lt_of_lt_of_le (hfd.lt k u) hk.size⟩, KyS.nil _ _⟩
  rcases h2 k u with u' | u'
  · exact .inl u'
  · exact .inr ⟨u'.1, Nat.lt_of_lt_of_le (hfd.lt k u) hk.size⟩
set_option maxHeartbeats 4000000 in
set_option maxRecDepth 100000 in
theorem takeLinew (q : Nat) (U : Nat → Prop) (s : Fst) (b : UInt8) (hv kv : Value) (w : World) (h : FdAt w q U s hv kv) (ho : s.held.length ≤ 2048) :
    Calls Tryd.prog 110 #[.pointer (some ⟨q, 0, none⟩), .int .u8 (b.toNat : Int)] w (TkPost w q U (takeLineF s b)) := by
  obtain ⟨i0, hi, hz0, hz1, hz2⟩ := info_parts info_u8
  have hS := tks_new h
  have hHT := fun W (hW : FdAt W q U s hv kv) => linew q U s hv kv W hW ho
  obtain ⟨R, hR⟩ : ∃ R, R = w.heap.size := ⟨_, rfl⟩
  rw [← hR] at hS
  obtain ⟨X, hX⟩ : ∃ X, X = w.alloc (.cells #[.int .u8 0, .slice none 0 0, .int .u8 0, .string ⟨#[]⟩, .string ⟨#[]⟩, .int .u32 0, .int .i64 0, .int .u64 0, .int .u64 0, .int .i64 0, .bool false, .string ⟨#[]⟩, .int .u8 0] 67) := ⟨_, rfl⟩
  rw [← hX] at hS
  have HS := Lib.hid hS
  have HX := Lib.hid hX
  have HR := Lib.hid hR
  obtain ⟨hqR, hUR⟩ := hS.ne
  obtain ⟨n, hn⟩ : ∃ n, s.held.length = n := ⟨_, rfl⟩
  have HN := Lib.hid hn
  have hbl : b.toNat < 256 := UInt8.toNat_lt b
  have h' := h
  clear hS hX hn
  by_cases hb : b = 10
  · have HL := Lib.hid (hHT X HS.out.fd)
    have e1 : ((b.toNat : Int) == 10) = true := by rw [hb]; rfl
    have HE := Lib.hid (show takeLineF s b = lineF s.held by unfold takeLineF; rw [if_pos hb])
    clear hb hHT h h'
    go_enter Tryd.func110, Tryd.ntmps110
    go_upto_region 1 with (fail)
    rw [← hR]
    generalize hWW : w.alloc _ = X'
    obtain rfl : X' = X := by rw [HX.out, ← hWW]
    clear hWW hR
    go_wp2_with fail
    refine HL.out.mono ?_
    rintro e W ⟨U', hv', kv', ev, kv2, rfl, hev, ht, hfd, hky⟩
    have hRW := HS.out.res.keep ht.keeps hUR
    have h1 := hky.one
    have HT := Lib.hid (And.intro hev (And.intro ht (And.intro hfd hky)))
    have HRW := Lib.hid hRW
    have hUR' : ¬ U' R := fun u => by rcases ht.only R u with u | u; exact hUR u; (have := HS.out.res.lt; omega)
    clear hev ht hfd hky hRW
    go_wp2_with (refine wpList_cb rfl 67 (.tmp 4) (.tmp 11) rfl R _ (evC ev kv2) HRW.out rfl info_ev (evC_one h1) rfl rfl ?_; intro Y9 hC9 hK9; obtain ⟨r0, r1, r2, r3, r4, r5, r6, r7, r8, r9, r10, r11, r12⟩ := ev_cells hC9)
    refine bodyPost_ret (v := .tuple #[.agg (evC ev kv2).toArray, .bool (lineF s.held).2.isSome]) (by simp [results, Tryd.results110, go_sem, evC, cmdC, r0, r1, r2, r3, r4, r5, r6, r7, r8, r9, r10, r11, r12]) rfl ?_
    obtain ⟨hev, ht, hfd, hky⟩ := HT.out
    rw [HE.out]
    exact tk_over HS.out.keeps HS.out.R hev ht hfd hky HRW.out hUR HS.out.res.lt hK9
  have e1 : ((b.toNat : Int) == 10) = false := beq_eq_false_iff_ne.mpr (fun e => hb (UInt8.toNat_inj.mp (by show b.toNat = 10; omega)))
  obtain ⟨a, cap, rfl, hnc, hcm, ha0⟩ := row_slice h.row
  have c1 := HS.out.fd.cells.at_ 1 _ rfl
  rw [HN.out] at c1 hnc ho
  unfold maxLen at hcm
  by_cases h48 : n = 2048
  · have HE := Lib.hid (show takeLineF s b = (Fst.at 2, some (Ev.fault 3)) by unfold takeLineF; rw [if_neg hb, if_pos (by rw [HN.out]; exact h48)])
    have HTW := Lib.hid (turnw q 2 s _ _ X HS.out.fd.cells)
    have d1 : ((n : Int) == 2048) = true := by rw [h48]; rfl
    have HU := Lib.hid h.lt
    have HME := Lib.hid h.me
    clear hb h48 hHT h h'
    go_enter Tryd.func110, Tryd.ntmps110
    go_upto_region 1 with (fail)
    rw [← hR]
    generalize hWW : w.alloc _ = X'
    obtain rfl : X' = X := by rw [HX.out, ← hWW]
    clear hWW hR
    go_wp2_with fail
    refine HTW.out.mono ?_
    rintro e Y2 ⟨rfl, hC2, hk2⟩
    have HR2 := Lib.hid (HS.out.res.keep hk2 (by omega))
    have HC2 := Lib.hid hC2
    have HK2 := Lib.hid (HS.out.keeps.trans (T := fun k => k = q) hk2 (fun k _ e => e ▸ HME.out))
    clear hC2 hk2
    go_wp2_with fail
    refine (faultw 3 _).mono ?_
    rintro e Y5 ⟨rfl, hb5⟩
    obtain ⟨ev, hev⟩ : ∃ ev, ev = Ev.fault 3 := ⟨_, rfl⟩
    rw [← hev]
    have HEV := Lib.hid hev
    have HR5 := Lib.hid (HR2.out.new hb5)
    have HS5 := Lib.hid (HC2.out.new hb5)
    have HT5 := Lib.hid (HK2.out.trans (Keeps.of_new (S := U) hb5) (fun _ _ u => u))
    clear hb5 hev
    go_wp2_with (refine wpList_cb rfl 67 (.tmp 4) (.tmp 23) rfl R _ (evC ev (.slice none 0 0)) HR5.out rfl info_ev (evC_one rfl) rfl rfl ?_; intro Y9 hC9 hK9; obtain ⟨r0, r1, r2, r3, r4, r5, r6, r7, r8, r9, r10, r11, r12⟩ := ev_cells hC9)
    refine bodyPost_ret (v := .tuple #[.agg (evC ev (.slice none 0 0)).toArray, .bool true]) (by simp [results, Tryd.results110, go_sem, evC, cmdC, r0, r1, r2, r3, r4, r5, r6, r7, r8, r9, r10, r11, r12]) rfl ?_
    rw [HE.out, HEV.out]
    exact tk_fault (par_keep HT5.out (by rw [← HS.out.R]; exact hK9) (by rw [← HS.out.R]; exact hUR)) (Cb.keep HS5.out hK9 hqR) HME.out HU.out
  · have HE := Lib.hid (show takeLineF s b = ({ s with held := s.held ++ [b] }, none) by unfold takeLineF; rw [if_neg hb, if_neg (by rw [HN.out]; exact h48)])
    have d1 : ((n : Int) == 2048) = false := beq_eq_false_iff_ne.mpr (by omega)
    have hrow := HS.out.fd.row
    rw [HN.out] at hrow
    clear hb hHT h h'
    go_enter Tryd.func110, Tryd.ntmps110
    go_upto_region 1 with (fail)
    rw [← hR]
    generalize hWW : w.alloc _ = X'
    obtain rfl : X' = X := by rw [HX.out, ← hWW]
    clear hWW hR
    go_wp2_with (at_builtin; refine wpList_append_own_at _ rfl _ _ 46 rfl 0 5 i0 (.int .u8 0) 1 1 Tryd.underlying46 hi hz0 hz1 hz2 rfl (by decide) _ _ _ rfl (hrow.alloc _) ⟨X'.heap.size, 0, none⟩ 1 1 [.int .u8 (b.toNat : Int)] rfl rfl ?c1 ?c2 ?c3 ?c4 ?c5 ?_)
    case c1 =>
      intro j u hj
      match j, hj with
      | 0, hj => simp at hj; subst hj; simp [Addr.add]
    case c2 => intro u hu; simp at hu; subst hu; rfl
    case c3 => unfold maxLen; omega
    case c4 => omega
    case c5 => simp
    intro v' W hown' hgrow _ hat
    obtain ⟨a', n', c', rfl⟩ := own_slice hown'
    obtain rfl : s.held.length = n := HN.out
    obtain ⟨U', hU1, hU2, hfd, hk, hres, k1, z1, hlt⟩ := fd_app HS.out (b := b) hown' hgrow (by simpa using hat)
    have HFD := Lib.hid (And.intro hU1 (And.intro hU2 (And.intro hfd (And.intro hk hlt))))
    have HR2 := Lib.hid hres
    clear hown' hgrow hat hrow hU1 hU2 hfd hk hres hlt
    go_wp2_with (refine wpList_cb rfl 67 (.tmp 4) (.tmp 35) rfl R _ (evC Ev.none (.slice none 0 0)) HR2.out rfl info_ev (evC_one rfl) rfl rfl ?_; intro Y9 hC9 hK9; obtain ⟨r0, r1, r2, r3, r4, r5, r6, r7, r8, r9, r10, r11, r12⟩ := ev_cells hC9)
    refine bodyPost_ret (v := .tuple #[.agg (evC Ev.none (.slice none 0 0)).toArray, .bool false]) (by simp [results, Tryd.results110, go_sem, evC, cmdC, r0, r1, r2, r3, r4, r5, r6, r7, r8, r9, r10, r11, r12]) rfl ?_
    obtain ⟨hU1, hU2, hfd, hk, hlt⟩ := HFD.out
    rw [HE.out]
    exact tk_over2 hk HS.out.R hU1 hU2 hfd HR2.out hUR hK9
end Go.Proofs.YtifbcejekdhnlaaDoor
