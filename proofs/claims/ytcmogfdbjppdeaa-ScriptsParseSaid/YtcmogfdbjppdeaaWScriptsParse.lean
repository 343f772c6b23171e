/- ScriptsParse: the commands are the chapter's, in new memory. -/
import Derived.Test.YtcmogfdbjppdeaaScWr
import Derived.Test.YtcmogfdbjppdeaaScRef
import Derived.Test.YtcmogfdbjppdeaaScOpen
import Derived.Test.YtcmogfdbjppdeaaScLives
namespace Go.Proofs.Ytcmogfdbjppdeaa
open Go.RowKit
set_option linter.unusedVariables false

theorem rparsew (A : Option Addr) (c : Nat) (L : List UInt8) (w : World) (hL : L.length ≤ 1048576) (hLc : L.length ≤ c) (hc : c ≤ maxLen) (hr : Rd w w.heap.size A L) :
    Calls Try.prog 9 #[.slice A L.length c] w (RParsed w (parse L)) := by
  cases L with
  | nil => exact rparse_none A c w
  | cons b r =>
    obtain ⟨g, off, rfl, hg, _⟩ := hr (by simp)
    exact rparse_some g off c (b :: r) w hL hLc hc hr
/-- The copy of the bytes. -/
theorem copy_by {w1 w2 : World} {v2 : Value} {L : List UInt8} (h : w2.ownsRow w1.heap.size 5 1 v2 ([] ++ L).length (byv ([] ++ L))) (hg : w1.grownBy w2 (Value.slice none 0 0).ownBlock) (hn : v2 = .slice none 0 0 ↔ Value.slice none 0 0 = .slice none 0 0 ∧ L = []) :
    ∃ a c, v2 = .slice a L.length c ∧ L.length ≤ c ∧ c ≤ maxLen ∧ (a = none → c = 0) ∧ Rd w2 w2.heap.size a L ∧ Own w2 w1.heap.size 5 (.slice a L.length c) L ∧ Below w1.heap.size w1 w2 := by
  rw [List.nil_append] at h
  obtain ⟨_, _, _, _, _, _, _, hO⟩ := Own.of_row h (fun e => hn.2 ⟨rfl, e⟩)
  obtain ⟨a, c, rfl, r1, r2, r3, r4⟩ := hO.rdB
  exact ⟨a, c, rfl, r1, r2, r3, r4, hO, (Below.refl _ _).grown hg (Nat.le_refl _) (by simp [Value.ownBlock])⟩
theorem Wr.at_ {w : World} {B : Nat} {e : TypeId} {a : Option Addr} {n c m : Nat} (h : Wr w B e (.slice a n c) m) (hm : 0 < m) : ∃ g, a = some ⟨g, 0, none⟩ ∧ B ≤ g ∧ Blk w e g m := by
  obtain ⟨a', c', he, _, _, hh⟩ := h
  injection he with e1 e2 e3
  subst e1
  exact hh hm
theorem Wr.keep {S : Nat → Prop} {w w' : World} {B : Nat} {e : TypeId} {v : Value} {n : Nat} (h : Wr w B e v n) (hk : Keeps S w w') (hS : ∀ g, v.ownBlock = some g → ¬ S g) : Wr w' B e v n := by
  obtain ⟨a, c, rfl, h2, h3, h4⟩ := h
  refine ⟨a, c, rfl, h2, h3, fun h0 => ?_⟩
  obtain ⟨g, e1, hB, hb⟩ := h4 h0
  exact ⟨g, e1, hB, hb.keeps hk (hS g (by rw [e1]; rfl))⟩
set_option maxHeartbeats 8000000 in
set_option maxRecDepth 100000 in
theorem walk_ScriptsParse (a0 : Option Addr) (l0 c0 : Nat) (w : World) (w0 : Reads Try.prog w 22 (.slice a0 l0 c0)) :
    Calls Try.prog 3 #[.slice a0 l0 c0] w fun e w' => e = .returned (.bool true) ∧ Below w.heap.size w w' := by
  obtain ⟨L, rfl, hLc, hLm, hA1, hrL⟩ := open_by (P := Try.prog) Try.underlying22 (by kernel_rfl) (by kernel_rfl) w0
  have HA1 := Lib.hid hA1
  have HRL := Lib.hid hrL
  have hLm' := hLm
  unfold maxLen at hLm'
  clear w0 hA1 hrL
  by_cases hl : 5000 < L.length
  · have hd3 : decide (5000 < (L.length : Int)) = true := decide_eq_true (by omega)
    go_enter Try.func3, Try.ntmps3
    go_wp2_with fail
    refine (lives33 _).mono ?_
    rintro e w2 ⟨rfl, hb2⟩
    go_wp2_with fail
    go_ret
    exact ⟨rfl, hb2⟩
  · have hd3 : decide (5000 < (L.length : Int)) = false := decide_eq_false (by omega)
    go_enter Try.func3, Try.ntmps3
    go_wp2_with fail
    refine (rparsew a0 c0 L _ (by omega) hLc hLm HRL.out).mono ?_
    rintro e w1 ⟨v1, rfl, hC1, hnx1⟩
    obtain ⟨M, hM⟩ : ∃ M, M = parse L := ⟨_, rfl⟩
    rw [← hM] at hC1
    obtain ⟨a1, c1, rfl, k1, k2, _, k4⟩ := hC1.rd
    have hMm : Hid (∀ x ∈ M, mayC x = true) := by rw [hM]; exact parse_may L
    have hMl : M.length ≤ L.length := by rw [hM]; exact parse_len L
    have hMk : Hid (∀ x ∈ M, 0 ≤ x.1 ∧ x.1 ≤ 255) := fun x hx => kind_le x (hMm.out x hx)
    have hMb : Hid (∀ x ∈ M, x.2.2.length ≤ 255) := fun x hx => bytes_le x (hMm.out x hx)
    have hMP : Hid (parse L = M) := hM.symm
    have K4 := Lib.hid k4
    have hrL1 := Lib.hid (HRL.out.on hnx1)
    clear hC1 hM k4
    go_wp2_with (first
      | (at_builtin; refine wpList_append_by _ rfl (.const (.slice none 0 0)) (.tmp 15) 22 rfl w1.heap.size 5 Try.underlying22 info_u8 (.slice none 0 0) [] rfl (World.ownsRow_nil _ _ _ _) w1.heap.size a0 L c0 rfl hrL1.out HA1.out (by simp; omega) (Nat.le_refl _) ?_; intro v2 w2 hown2 hg2 hn2; obtain ⟨a2, c2, rfl, t1, t2, t3, t4, t5, t6⟩ := copy_by hown2 hg2 hn2))
    have T4 := Lib.hid t4
    have T5 := Lib.hid t5
    have T6 := Lib.hid t6
    have t2' := t2
    unfold maxLen at t2'
    have hnx2 := hnx1.trans (t6.mono hnx1.size)
    clear hown2 hg2 hn2 t4 t5 t6 hrL1
    go_wp2_with fail
    refine (parsew a2 c2 L _ (by omega) t1 t2 t3 T4.out).mono ?_
    rintro e w3 ⟨v3, rfl, hC3, hb3⟩
    rw [hMP.out] at hC3
    obtain ⟨a3, c3, rfl, p1, p2, _, p4⟩ := hC3.rd
    have HC3 := Lib.hid hC3
    have HB3 := Lib.hid hb3
    have P4 := Lib.hid p4
    have hb13 := T6.out.trans (hb3.mono T6.out.size)
    have HB13 := Lib.hid hb13
    have hnx3 := hnx2.trans (hb3.mono hnx2.size)
    clear hC3 hb3 p4 hb13
    go_wp2_with fail
    refine (samew a3 a1 c3 c1 M _ (by omega) hMk.out p1 p2 k1 k2 P4.out (K4.out.on HB13.out)).mono ?_
    rintro e w4 ⟨rfl, hb4⟩
    have hnx4 := hnx3.trans (hb4.mono hnx3.size)
    have hb14 := HB13.out.trans (hb4.mono HB13.out.size)
    have hb24 := HB3.out.trans (hb4.mono HB3.out.size)
    have e1 := conv_by (P := Try.prog) w4 22 9 5 Try.underlying22 Try.underlying5 Try.underlying9 c0 (HRL.out.on hnx4)
    have e2 := conv_by (P := Try.prog) w4 22 9 5 Try.underlying22 Try.underlying5 Try.underlying9 c2 (T4.out.on hb24)
    have HC4 := Lib.hid (HC3.out.below hb4)
    have HW4 : Hid (Wr w4 w1.heap.size 5 (.slice a2 L.length c2) L.length) := (T5.out.below hb24).wr
    have HB14 := Lib.hid hb14
    have h12 : w1.heap.size ≤ w2.heap.size := T6.out.size
    have hgt : Hid (∀ g, a2 = some ⟨g, 0, none⟩ → 0 < L.length → g < w2.heap.size) := fun g e h => by
      obtain ⟨g', off', e', hlt, _⟩ := T4.out h
      rw [e] at e'
      injection e' with e'
      injection e' with e'
      omega
    have h24 : w2.heap.size ≤ w4.heap.size := Nat.le_trans HB3.out.size hb4.size
    clear hb4 hb14 hb24 HC3 HB3
    have hs4 := hnx4.size
    go_wp2_with fail
    go_loopw [6] (fun i wr => ∃ k : Nat, k ≤ L.length ∧ i = .int .i64 k ∧ Wr wr w1.heap.size 5 (.slice a2 L.length c2) L.length ∧ Keeps (fun b => w1.heap.size ≤ b ∧ b < w2.heap.size) w4 wr) (fun i _ => L.length - (intOf i).toNat)
    case atStart => exact ⟨0, by omega, rfl, HW4.out, Keeps.refl _ _⟩
    case round =>
      obtain ⟨k, hk, rfl, hwr, hkp⟩ := hrel
      by_cases hlt : k < L.length
      · obtain ⟨g, rfl, hBg, hblk⟩ := hwr.at_ (by omega)
        obtain ⟨u, hu⟩ := hblk.cell hlt
        have hfr := hblk.frozen k
        have hg2 := hgt.out g rfl (by omega)
        have hd : decide (k < L.length) = true := decide_eq_true hlt
        have HW := Lib.hid hwr
        have HBL := Lib.hid hblk
        clear hwr hblk e1 e2
        go_wp2_with fail
        go_roundw
        case rel => exact ⟨k + 1, by omega, by go_num, HW.out.set HBL.out k _, hkp.setCell (p := ⟨g, k, none⟩) (.inl ⟨hBg, hg2⟩) _⟩
        case measure => simp [intOf]; omega
      · have hd : decide (k < L.length) = false := decide_eq_false hlt
        have hb45 : Below w1.heap.size w4 wr := hkp.to_below (fun k _ h => h.1) HB14.out.size
        have hb15 := HB14.out.trans hb45
        have hnx5 := hnx4.trans (hb45.mono hnx1.size)
        have hC5 := HC4.out.keeps hkp (fun k h h2 => by omega)
        have p4 : RdC wr wr.heap.size .u8 a3 M := by
          obtain ⟨a', c', he, _, _, _, hr⟩ := hC5.rd
          injection he with e1 e2 e3
          subst e1
          exact hr
        have h25 : w2.heap.size ≤ wr.heap.size := Nat.le_trans h24 hkp.size
        have P5 := Lib.hid p4
        have HC5 := Lib.hid hC5
        have HB15 := Lib.hid hb15
        obtain ⟨w5, hw5⟩ : ∃ w5, w5 = wr := ⟨_, rfl⟩
        rw [← hw5] at P5 HC5 HB15 hnx5 h25 ⊢
        clear hb45 hb15 hC5 p4 hwr hkp hw5 e1 e2 HW4
        go_wp2_with fail
        refine (samew a3 a1 c3 c1 M _ (by omega) hMk.out p1 p2 k1 k2 P5.out (K4.out.on HB15.out)).mono ?_
        rintro e w6 ⟨rfl, hb6⟩
        have hnx6 := hnx5.trans (hb6.mono hnx5.size)
        have hb16 := HB15.out.trans (hb6.mono HB15.out.size)
        have HB16 := Lib.hid hb16
        have hC6 := HC5.out.below hb6
        have h26 : w2.heap.size ≤ w6.heap.size := Nat.le_trans h25 hb6.size
        have hst : Hid (0 < M.length → ∃ ga, a3 = some ⟨ga, 0, none⟩ ∧ St w6 w2.heap.size 31 5 ga M) := fun h0 => by
          obtain ⟨g, v, e1, _⟩ := hC6.at_ 0 M[0] (List.getElem?_eq_getElem h0)
          subst e1
          exact ⟨g, rfl, hC6.st⟩
        have p2' := p2
        unfold maxLen at p2'
        clear hb6 hb16 hC6 HC5 HB15 hnx5 h25 HC4
        go_wp2_with fail
        go_loopw [7] (fun i wr => ∃ k : Nat, k ≤ M.length ∧ i = .int .i64 k ∧ Hid (0 < M.length → ∃ ga, a3 = some ⟨ga, 0, none⟩ ∧ St wr w2.heap.size 31 5 ga M) ∧ Below w2.heap.size w6 wr) (fun i _ => M.length - (intOf i).toNat)
        case atStart => exact ⟨0, by omega, rfl, hst, Below.refl _ _⟩
        case round =>
          obtain ⟨k, hk, rfl, hst, hbl⟩ := hrel
          by_cases hlt : k < M.length
          · obtain ⟨ga, rfl, hS⟩ := hst.out (by omega)
            have hd : decide (k < M.length) = true := decide_eq_true hlt
            obtain ⟨x, hx⟩ : ∃ x, M[k]? = some x := ⟨_, List.getElem?_eq_getElem hlt⟩
            have hxb := hMb.out x (List.mem_of_getElem? hx)
            have HX := Lib.hid hx
            have HS := Lib.hid hS
            obtain ⟨nb, hnb⟩ : ∃ nb, nb = x.2.2.length := ⟨_, rfl⟩
            rw [← hnb] at hxb
            have HNB := Lib.hid hnb
            clear hS hst hx hnb
            go_wp2_with fail
            go_loopw [8] (fun s wq => ∃ q : Nat, q ≤ nb ∧ s = .int .i64 q ∧ Hid (St wq w2.heap.size 31 5 ga M) ∧ Below w2.heap.size w6 wq) (fun s _ => nb - (intOf s).toNat)
            case atStart => exact ⟨0, by omega, rfl, HS.out, hbl⟩
            case round =>
              obtain ⟨q, hq, rfl, hSq, hbq⟩ := hrel
              obtain ⟨v, hv, hwv⟩ := hSq.out.2.2 k x HX.out
              rw [← HNB.out] at hwv
              have hwv' := hwv
              obtain ⟨ab, cb, rfl, n1, n2, _⟩ := hwv
              have n1' := n1
              unfold maxLen at n1'
              by_cases hqt : q < nb
              · have hd2 : decide (q < nb) = true := decide_eq_true hqt
                obtain ⟨gb, rfl, hBg, hblk⟩ := hwv'.at_ (by omega)
                obtain ⟨u, hu⟩ := hblk.cell hqt
                have hfr := hblk.frozen q
                have HBL := Lib.hid hblk
                have HGB := Lib.hid hBg
                clear hblk hwv' hBg
                go_wp2_with fail
                go_roundw
                case rel => exact ⟨q + 1, by omega, by go_num, hSq.out.byte (by decide) HBL.out q _, hbq.setCell (p := ⟨gb, q, none⟩) HGB.out _⟩
                case measure => simp [intOf]; omega
              · have hd2 : decide (q < nb) = false := decide_eq_false hqt
                obtain ⟨hBa, hblk, _⟩ := hSq.out
                obtain ⟨u, hu⟩ := hblk.cell (j := k * 3 + 1) (by omega)
                have hfr := hblk.frozen (k * 3 + 1)
                have HBA := Lib.hid hBa
                clear hblk hwv' hBa
                go_wp2_with fail
                go_roundw
                case rel => exact ⟨k + 1, by omega, by go_num, fun _ => ⟨ga, rfl, hSq.out.conn k _⟩, hbq.setCell (p := ⟨ga, k * 3 + 1, none⟩) HBA.out _⟩
                case measure => simp [intOf]; omega
          · have hd : decide (k < M.length) = false := decide_eq_false hlt
            have hb17 := HB16.out.trans (hbl.mono h12)
            have hnx7 := hnx6.trans (hbl.mono (Nat.le_trans hnx1.size h12))
            have HB17 := Lib.hid hb17
            clear hbl hst hb17
            go_wp2_with fail
            refine (parsew a0 c0 L _ (by omega) hLc hLm HA1.out (HRL.out.on hnx7)).mono ?_
            rintro e w8 ⟨v8, rfl, hC8, hb8⟩
            rw [hMP.out] at hC8
            obtain ⟨a8, c8, rfl, r1, r2, _, r4⟩ := hC8.rd
            have hnx8 := hnx7.trans (hb8.mono hnx7.size)
            have HB18 := Lib.hid (HB17.out.trans (hb8.mono HB17.out.size))
            clear hC8 hb8
            go_wp2_with fail
            refine (samew a8 a1 c8 c1 M _ (by omega) hMk.out r1 r2 k1 k2 r4 (K4.out.on HB18.out)).mono ?_
            rintro e w9 ⟨rfl, hb9⟩
            have hnx9 := hnx8.trans (hb9.mono hnx8.size)
            clear hb9 r4
            go_wp2_with fail
            refine (lives33 _).mono ?_
            rintro e w10 ⟨rfl, hb10⟩
            go_wp2_with fail
            go_ret
            exact ⟨rfl, hnx9.trans (hb10.mono hnx9.size)⟩
end Go.Proofs.Ytcmogfdbjppdeaa
