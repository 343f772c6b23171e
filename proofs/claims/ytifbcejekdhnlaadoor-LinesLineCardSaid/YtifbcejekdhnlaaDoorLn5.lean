/- Lines: the keys, read into a command. -/
import Derived.Test.YtifbcejekdhnlaaDoorLn4
namespace Go.Proofs.YtifbcejekdhnlaaDoor
open Go.RowKit Go.Maps
set_option linter.unusedVariables false

/-- What the reading of the keys leaves. -/
def KyPost (w : World) (q : Nat) (c : Cmd) (ws : List (List UInt8)) (e : Ending) (w' : World) : Prop :=
  e = .returned (.bool (ws.all okF)) ∧ Keeps (fun k => k = q) w w' ∧ (ws.all okF = true → ∃ kv, Cb w' q (cmdC { c with keys := ws, key := ws.headD c.key } kv) ∧ Lst w' w.heap.size 1 kv ws.length (strs ws))
theorem okF_eq (x : List UInt8) : ((lookF x).1 == 0) = okF x := by unfold okF; rfl
theorem okF_bytes (x : List UInt8) : ((lookF (⟨x.toArray⟩ : ByteArray).data.toList).1 == 0) = okF x := okF_eq x
theorem all_take {ws : List (List UInt8)} {k : Nat} (hk : k < ws.length) (h : (ws.take k).all okF = true) (h2 : okF ws[k] = true) : (ws.take (k + 1)).all okF = true := by
  rw [List.take_succ_eq_append_getElem hk, List.all_append, h]
  simp [h2]
theorem all_not {ws : List (List UInt8)} {k : Nat} (hk : k < ws.length) (h2 : okF ws[k] = false) : ws.all okF = false := by
  rw [List.all_eq_false]
  exact ⟨ws[k], List.getElem_mem hk, by simp [h2]⟩
theorem strs_take {ws : List (List UInt8)} {k : Nat} (hk : k < ws.length) : strs (ws.take (k + 1)) = strs (ws.take k) ++ [.string ⟨ws[k].toArray⟩] := by
  rw [List.take_succ_eq_append_getElem hk, strs_snoc]
theorem own_slice {w : World} {B e size n : Nat} {v : Value} {xs : List Value} (h : w.ownsRow B e size v n xs) : ∃ a m c, v = .slice a m c := by
  obtain ⟨_, ⟨rfl, _⟩ | ⟨g, cap, cur, rfl, _⟩⟩ := h
  · exact ⟨_, _, _, rfl⟩
  · exact ⟨_, _, _, rfl⟩
theorem headD_get {ws : List (List UInt8)} {d : List UInt8} (h : 0 < ws.length) : ws.headD d = ws[0] := by
  cases ws with
  | nil => simp at h
  | cons a l => rfl
set_option maxHeartbeats 2000000 in
theorem rkeys_none (a : Option Addr) (cap q : Nat) (c : Cmd) (w : World) (h : Cb w q (cmdC c (.slice none 0 0))) :
    Calls Tryd.prog 33 #[.pointer (some ⟨q, 0, none⟩), .slice a 0 cap] w (KyPost w q c []) := by
  have c1 := h.at_ 1 _ rfl
  have f1 := h.fz 1 (by show 1 < 11; decide)
  have H := Lib.hid h
  have HS := Lib.hid (h.set 1 (.slice none 0 0) (by show 1 < 11; decide) rfl)
  have HK := Lib.hid (keeps_set (q := q) (i := 1) (v := .slice none 0 0) (Below.refl w.heap.size w))
  clear h
  go_enter Tryd.func33, Tryd.ntmps33
  go_wp2_with fail
  refine wp_loop_rounds 1 ?_
  rw [rounds_succ]
  go_wp2_with (go_at_call 49; ((with_reducible refine (clips none 0 0 _ (by omega) (by simp [maxLen]) (fun _ => ⟨rfl, rfl⟩)).mono ?_); rintro e w1 ⟨rfl, rfl⟩))
  go_ret
  exact ⟨rfl, HK.out, fun _ => ⟨_, HS.out, by simp [strs, Lst]⟩⟩
set_option maxHeartbeats 4000000 in
set_option maxRecDepth 100000 in
theorem rkeys_some (ws : List (List UInt8)) (g o cap q : Nat) (c : Cmd) (w : World) (hn0 : 0 < ws.length) (hn : ws.length ≤ 1048576) (hc : ws.length ≤ cap) (hcm : cap ≤ maxLen) (hsz : ∀ x ∈ ws, x.length ≤ 1048576) (hg : g ≠ q) (hgl : g < w.heap.size) (hw : ∀ j x, ws[j]? = some x → w.cell? ⟨g, o + j, none⟩ = some (.string ⟨x.toArray⟩)) (h : Cb w q (cmdC c (.slice none 0 0))) :
    Calls Tryd.prog 33 #[.pointer (some ⟨q, 0, none⟩), .slice (some ⟨g, o, none⟩) ws.length cap] w (KyPost w q c ws) := by
  obtain ⟨i0, hi, hz0, hz1, hz2⟩ := info_parts info_string
  obtain ⟨n, hN⟩ : ∃ n, ws.length = n := ⟨_, rfl⟩
  obtain ⟨B, hB⟩ : ∃ B, B = w.heap.size := ⟨_, rfl⟩
  have hqB : q < B := by rw [hB]; exact h.lt
  have hgB : g < B := by rw [hB]; exact hgl
  rw [hN] at hn hn0 hc ⊢
  unfold maxLen at hcm
  have HW := Lib.hid hw
  have H := Lib.hid h
  have HN := Lib.hid hN
  have HSZ := Lib.hid hsz
  have HB := Lib.hid hB
  clear hw h hN hsz hB hgl
  go_enter Tryd.func33, Tryd.ntmps33
  go_wp2_with fail
  go_loopw [9] (fun i wr => ∃ (k : Nat) (v : Value), k ≤ n ∧ i = .int .i64 k ∧ Cb wr q (cmdC c v) ∧ wr.ownsRow B 9 1 v k (strs (ws.take k)) ∧ Keeps (fun k => k = q) w wr ∧ Hid ((ws.take k).all okF = true)) (fun i _ => n - (intOf i).toNat)
  case atStart => exact ⟨0, _, by omega, rfl, H.out, World.ownsRow_nil _ _ _ _, Keeps.refl _ _, rfl⟩
  case round =>
    obtain ⟨k, v, hk, rfl, hcb, hown, hke, hA⟩ := hrel
    have hsz := hke.size
    have hBw : B ≤ wr.heap.size := by rw [HB.out]; exact hsz
    by_cases hlt : k < n
    · have hkw : k < ws.length := by rw [HN.out]; exact hlt
      have hcx := hke.cell (p := ⟨g, o + k, none⟩) hg (HW.out k ws[k] (List.getElem?_eq_getElem hkw))
      have hxs : (⟨ws[k].toArray⟩ : ByteArray).size ≤ maxLen := txt_size (HSZ.out _ (List.getElem_mem hkw))
      have hst := strs_take hkw
      have hAt := fun (h2 : okF ws[k] = true) => all_take hkw hA.out h2
      have hAn := fun (h2 : okF ws[k] = false) => all_not hkw h2
      obtain ⟨y, hy⟩ : ∃ y, y = ws[k] := ⟨_, rfl⟩
      rw [← hy] at hcx hxs hst hAt hAn
      have HST := Lib.hid hst
      have HAt := Lib.hid hAt
      have HAn := Lib.hid hAn
      have HCB := Lib.hid hcb
      have HKE := Lib.hid hke
      clear hst hAt hAn hy hkw hA hke
      have HOK := Lib.hid (okF_bytes y)
      cases hb : okF y with
      | false =>
        have HBB := Lib.hid hb
        clear hb hcb
        go_wp2_with fail
        refine (okw _ _ hxs).mono ?_
        rintro e w1 ⟨rfl, rfl⟩
        rw [HOK.out, HBB.out]
        go_wp2_with fail
        go_ret
        have := HAn.out HBB.out
        exact ⟨by rw [this]; rfl, HKE.out, fun n => by rw [this] at n; simp at n⟩
      | true =>
        have HBB := Lib.hid hb
        have c1 := hcb.at_ 1 _ rfl
        clear hb hcb
        go_wp2_with fail
        refine (okw _ _ hxs).mono ?_
        rintro e w1 ⟨rfl, rfl⟩
        rw [HOK.out, HBB.out]
        go_wp2_with (at_builtin; refine wpList_append_own _ rfl _ _ 24 rfl B 9 i0 (.string ⟨#[]⟩) 1 16 Tryd.underlying24 hi hz0 hz1 hz2 rfl (by decide) _ _ _ rfl (hown.alloc _) ⟨wr.heap.size, 0, none⟩ 1 1 [.string ⟨y.toArray⟩] rfl rfl ?c1 ?c2 ?c3 ?c4 ?c5 ?_)
        case c1 =>
          intro j u hj
          match j, hj with
          | 0, hj => simp at hj; subst hj; simp [Addr.add]
        case c2 => intro u hu; simp at hu; subst hu; rfl
        case c3 => unfold maxLen; omega
        case c4 => omega
        case c5 => simp; omega
        intro v' w2 hown' hgrow _
        obtain ⟨a', n', c', rfl⟩ := own_slice hown'
        have hvq : v.ownBlock ≠ some q := fun e => by have := (hown.lt q e).1; omega
        have hk2 : Keeps (fun k => v.ownBlock = some k) wr w2 := ((Keeps.refl (fun k => v.ownBlock = some k) wr).alloc _).grown hgrow (fun k hk => .inl hk)
        have hcb2 := HCB.out.keep hk2 hvq
        have c12 := hcb2.at_ 1 _ rfl
        have f12 := hcb2.fz 1 (by show 1 < 11; decide)
        have ks : Keeps (fun j => j = q) w2 (w2.setCell ⟨q, 1, none⟩ (.slice a' n' c')) := Keeps.setCell (S := fun j => j = q) (Keeps.refl _ w2) (p := ⟨q, 1, none⟩) (.inl rfl) _
        have hkB : Below B wr w2 := (((Below.refl B wr).alloc (by omega) _).grown hgrow (by simp; omega) (fun k hk => (hown.lt k hk).1))
        have R1 := Lib.hid (hcb2.set 1 (.slice a' n' c') (by show 1 < 11; decide) rfl)
        have R2 := Lib.hid (Keeps.ownsRow hown' ks (fun g e n => by have := (hown'.lt g e).1; omega))
        have hkq : Keeps (fun j => j = q) w w2 := HKE.out.trans (T := fun j => B ≤ j) (Keeps.of_below hkB) (fun i hi hb => absurd hi (by rw [← HB.out]; omega))
        have R3 := Lib.hid (Keeps.trans (S := fun j => j = q) hkq ks (fun _ _ s => s))
        have R4 := Lib.hid (HAt.out HBB.out)
        clear hgrow hown hown' hk2 hcb2 ks hkB hkq c1
        go_wp2
        go_roundw
        case rel => exact ⟨k + 1, _, by omega, by go_num, R1.out, by rw [HST.out]; exact R2.out, R3.out, R4.out⟩
        case measure => simp [intOf]; omega
    · obtain rfl : k = n := by omega
      have htk : ws.take k = ws := List.take_of_length_le (by rw [HN.out]; exact Nat.le_refl _)
      rw [htk] at hown hA
      obtain ⟨a, m, cc, hv, hm, hcc, ha0, L'⟩ := lst_clip hown
      rw [hv] at hcb
      have c1 := hcb.at_ 1 _ rfl
      have f1 := hcb.fz 1 (by show 1 < 11; decide)
      have hw0 : 0 < ws.length := by rw [HN.out]; exact hn0
      have hcx := hke.cell (p := ⟨g, o + 0, none⟩) hg (HW.out 0 ws[0] (List.getElem?_eq_getElem hw0))
      have hhd := headD_get (d := c.key) hw0
      obtain ⟨y, hy⟩ : ∃ y, y = ws[0] := ⟨_, rfl⟩
      rw [← hy] at hcx hhd
      rw [Nat.add_zero] at hcx
      have ks1 : Keeps (fun j => j = q) wr (wr.setCell ⟨q, 1, none⟩ (.slice a m m)) := Keeps.setCell (S := fun j => j = q) (Keeps.refl _ wr) (p := ⟨q, 1, none⟩) (.inl rfl) _
      have hs1 := hcb.set 1 (.slice a m m) (by show 1 < 11; decide) rfl
      have c3 := hs1.at_ 3 _ rfl
      have f3 := hs1.fz 3 (by show 3 < 11; decide)
      have hcx1 := ks1.cell (p := ⟨g, o, none⟩) hg hcx
      have ks2 : Keeps (fun j => j = q) (wr.setCell ⟨q, 1, none⟩ (.slice a m m)) ((wr.setCell ⟨q, 1, none⟩ (.slice a m m)).setCell ⟨q, 3, none⟩ (.string ⟨y.toArray⟩)) := Keeps.setCell (S := fun j => j = q) (Keeps.refl _ _) (p := ⟨q, 3, none⟩) (.inl rfl) _
      have R1 := Lib.hid (hs1.set 3 (.string ⟨y.toArray⟩) (by show 3 < 11; decide) rfl)
      have R2 := Lib.hid (Keeps.trans (S := fun j => j = q) (Keeps.trans (S := fun j => j = q) hke ks1 (fun _ _ s => s)) ks2 (fun _ _ s => s))
      have hL2 : Lst ((wr.setCell ⟨q, 1, none⟩ (.slice a m m)).setCell ⟨q, 3, none⟩ (.string ⟨y.toArray⟩)) B 1 (.slice a m m) k (strs ws) := by
        obtain ⟨l1, l2 | ⟨g', c', l2, l3, l4, l5, l6, l7⟩⟩ := L'
        · exact ⟨l1, .inl l2⟩
        · refine ⟨l1, .inr ⟨g', c', l2, l3, by simpa [World.setCell] using l4, l5, l6, fun j u hj => ?_⟩⟩
          have kk := Keeps.trans (S := fun j => j = q) ks1 ks2 (fun _ _ s => s)
          exact ⟨kk.cell (p := ⟨g', j, none⟩) (by show ¬ g' = q; omega) (l7 j u hj).1, kk.frozen (p := ⟨g', j, none⟩) (by show ¬ g' = q; omega) l4 (l7 j u hj).2⟩
      have R3 := Lib.hid hL2
      have HA := Lib.hid hA.out
      have HHD := Lib.hid hhd
      have HC0 := Lib.hid ha0
      have d0 : decide (0 < (k : Int)) = true := decide_eq_true (by omega)
      have d1 : decide (0 < k) = true := decide_eq_true (by omega)
      clear hhd hy hw0 hcb hown hv L' ks1 ks2 hs1 hL2 hke hA htk ha0
      go_wp2_with (go_at_call 49; ((with_reducible refine (clips a m cc _ hm hcc HC0.out).mono ?_); rintro e w1 ⟨rfl, rfl⟩))
      go_ret
      refine ⟨by rw [HA.out]; rfl, R2.out, fun _ => ⟨_, ?_, HB.out ▸ HN.out.symm ▸ R3.out⟩⟩
      rw [HHD.out]
      exact R1.out
end Go.Proofs.YtifbcejekdhnlaaDoor
