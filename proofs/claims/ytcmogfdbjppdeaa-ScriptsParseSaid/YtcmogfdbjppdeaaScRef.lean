/- Scripts: the chapter's commands of a script. -/
import Derived.Test.YtcmogfdbjppdeaaScFeed
import Derived.Test.YtcmogfdbjppdeaaScList
import Derived.Deep.RegionLaw
import Derived.Deep.AppendLies
namespace Go.Proofs.Ytcmogfdbjppdeaa
open Go.RowKit
set_option linter.unusedVariables false

theorem info_rcmd : (Try.prog.info? 42).map (fun i => (i.zero, i.size, i.bytes)) = some (some (.agg #[.int .i64 0, .int .i64 0, .slice none 0 0]), 3, 40) := by kernel_rfl
/-- What the chapter's parse hands back. -/
def RParsed (w : World) (cs : List Cm) (e : Ending) (w' : World) : Prop := ∃ v, e = .returned v ∧ Cms w' w.heap.size 42 5 .i64 v cs ∧ Below w.heap.size w w'
theorem news3 {W : World} {x y z : Value} {t : TypeId} {j : Nat} {u : Value} (hj : [x, y, z][j]? = some u) : (W.alloc (.cells #[x, y, z] t)).cell? ((⟨W.heap.size, 0, none⟩ : Addr).add j) = some u :=
  World.news_of_block (B := W.heap.size) (cs := #[x, y, z]) (t := t) (fr := (0, 0)) (by show (W.heap.push _)[W.heap.size]? = _; simp) j u hj
theorem Mk.moreR {w w1 w2 : World} {B : Nat} {v v' u : Value} {cs : List Cm} {vs : List Value} {x : Cm} {o : Obj} (hB : w.heap.size = B) (hnx : Below B w w1) (ho : OwnAll w1 B 5 cs vs) (hown : w1.ownsRow B 42 3 v cs.length (rows3 .i64 cs vs)) (hu : Own w1 B 5 u x.2.2)
    (hown' : w2.ownsRow B 42 3 v' (cs.length + 1) (rows3 .i64 cs vs ++ cells3 .i64 x u)) (hg : (w1.alloc o).grownBy w2 v.ownBlock) (hv : ¬ v' = .slice none 0 0) :
    Mk w2 B 42 5 .i64 v' (cs ++ [x]) ∧ Below B w w2 := by
  have hs := hnx.size
  have hn : Below w1.heap.size w1 (w1.alloc o) := (Below.refl _ _).alloc (Nat.le_refl _) o
  have ho' := ho.map (w' := w1.alloc o) (B' := B) fun v l h => h.below hn
  have hown0 : (w1.alloc o).ownsRow B 42 3 v cs.length (rows3 .i64 cs vs) := hown.alloc _
  have hb : Below B (w1.alloc o) w2 := (Below.refl _ _).grown hg (by simp; omega) (fun k hk => (hown.lt k hk).1)
  exact ⟨Mk.snoc (w0 := w) (by decide) ho' (hu.below hn) hown0 hown' hg hv, hnx.trans ((hn.mono (by omega)).trans hb)⟩
theorem box_ref {wr W2 : World} {w : World} {B : Nat} {v : Value} {cs : List Cm} {vs : List Value} {x y z : Value} {t : TypeId} (hnx : Below B w wr) (hB : B ≤ wr.heap.size) (hown : wr.ownsRow B 42 3 v cs.length (rows3 .i64 cs vs)) (ho : OwnAll wr B 5 cs vs) (hW : wr.alloc (.cells #[x, y, z] t) = W2) :
    W2.cell? ⟨wr.heap.size, 0, none⟩ = some x ∧ W2.cell? ⟨wr.heap.size, 1, none⟩ = some y ∧ W2.cell? ⟨wr.heap.size, 2, none⟩ = some z ∧ W2.ownsRow B 42 3 v cs.length (rows3 .i64 cs vs) ∧ OwnAll W2 B 5 cs vs ∧ Below B w W2 := by
  subst hW
  refine ⟨by simp, by simp, by simp, hown.alloc _, ho.map fun v l h => h.below ((Below.refl _ _).alloc (Nat.le_refl _) _), hnx.alloc hB _⟩
theorem box_at {W : World} {q : Nat} {x y z : Value} {t : TypeId} (h : W.heap[q]? = some (Obj.cells #[x, y, z] t (0, 0))) : W.cell? ⟨q, 0, none⟩ = some x ∧ W.cell? ⟨q, 1, none⟩ = some y ∧ W.cell? ⟨q, 2, none⟩ = some z ∧ W.frozen? ⟨q, 2, none⟩ = false :=
  ⟨by simp [World.cell?, h], by simp [World.cell?, h], by simp [World.cell?, h], by simp [World.frozen?, h]⟩
theorem grown_undrew {w w1 : World} {row : Option Nat} (h : w.drew.grownBy w1 row) : w.grownBy w1 row := ⟨h.os, h.tape, h.output, h.size, h.block⟩
theorem new_one {W : World} {x : Value} {t : TypeId} {j : Nat} {u : Value} (hj : [x][j]? = some u) : (W.alloc (.cells #[x] t)).cell? ((⟨W.heap.size, 0, none⟩ : Addr).add j) = some u :=
  World.news_of_block (B := W.heap.size) (cs := #[x]) (t := t) (fr := (0, 0)) (by show (W.heap.push _)[W.heap.size]? = _; simp) j u hj
theorem box_kept {W w1 : World} {q n e : Nat} {cs : Array Value} {t : TypeId} {bv : Value} {xs : List Value} {o : Obj} (hb : W.heap[q]? = some (Obj.cells cs t (0, 0))) (hown : W.ownsRow (q + 1) e 1 bv n xs) (hg : (W.alloc o).grownBy w1 bv.ownBlock) : w1.heap[q]? = some (Obj.cells cs t (0, 0)) :=
  (hg.block q (by have := blk_lt hb; simp; omega) (fun e => by have := (hown.lt q e.symm).1; omega)).trans ((Below.heap_alloc W o q (blk_lt hb)).trans hb)
theorem own_of_row {w : World} {B : Nat} {e : TypeId} {v : Value} {l : List UInt8} (h : w.ownsRow B e 1 v l.length (byv l)) (h0 : l = [] → v = .slice none 0 0) : Own w B e v l := by
  obtain ⟨_, _, _, _, _, _, _, h⟩ := Own.of_row h h0
  exact h
theorem box_next {W2 wr w1 : World} {q n e g cap : Nat} {x y bv : Value} {t : TypeId} {ys : List Value} {o : Obj} (hbel : Below q W2 wr) (hb1 : w1.heap[q]? = some (Obj.cells #[x, y, bv] t (0, 0))) (hown1 : w1.ownsRow (q + 1) e 1 (.slice (some ⟨g, 0, none⟩) n cap) n ys) (hg : (wr.alloc o).grownBy w1 bv.ownBlock) (hv : ∀ k, bv.ownBlock = some k → q + 1 ≤ k) (hW : W2.heap.size = q + 1) (hq : q < wr.heap.size) :
    (w1.setCell ⟨q, 2, none⟩ (.slice (some ⟨g, 0, none⟩) n cap)).heap[q]? = some (Obj.cells #[x, y, .slice (some ⟨g, 0, none⟩) n cap] t (0, 0)) ∧ (w1.setCell ⟨q, 2, none⟩ (.slice (some ⟨g, 0, none⟩) n cap)).ownsRow (q + 1) e 1 (.slice (some ⟨g, 0, none⟩) n cap) n ys ∧ Below q W2 (w1.setCell ⟨q, 2, none⟩ (.slice (some ⟨g, 0, none⟩) n cap)) := by
  refine ⟨?_, ownsRow_setCell_below hown1 (by show q < q + 1; omega) _, ?_⟩
  · have hlt := blk_lt hb1
    have h' : w1.heap[q] = .cells #[x, y, bv] t (0, 0) := by simpa [Array.getElem?_eq_getElem hlt] using hb1
    show (w1.heap.modify q _)[q]? = _
    rw [Array.getElem?_eq_getElem (by simpa using hlt), Array.getElem_modify_self, h']
    rfl
  · exact ((hbel.alloc (by omega) o).grown hg (by simp; omega) (fun k hk => by have := hv k hk; omega)).setCell (p := ⟨q, 2, none⟩) (Nat.le_refl _) _
theorem drop_cons {L : List UInt8} {k : Nat} {b : UInt8} {r : List UInt8} (h : L.drop k = b :: r) : k < L.length ∧ L[k]? = some b ∧ L.drop (k + 1) = r := by
  have hk : k < L.length := by
    rcases Nat.lt_or_ge k L.length with h' | h'
    · exact h'
    · rw [List.drop_eq_nil_of_le h'] at h; simp at h
  have h2 := List.drop_eq_getElem_cons hk
  rw [h2] at h
  injection h with h3 h4
  exact ⟨hk, by rw [List.getElem?_eq_getElem hk, h3], h4⟩
theorem drop_nil {L : List UInt8} {k : Nat} (hk : k ≤ L.length) (h : L.drop k = []) : k = L.length := by
  have := congrArg List.length h
  simp at this
  omega
set_option maxHeartbeats 4000000 in
set_option maxRecDepth 100000 in
theorem rparse_none (A : Option Addr) (c : Nat) (w : World) : Calls Try.prog 9 #[.slice A 0 c] w (RParsed w (parse [])) := by
  have fin : RParsed w (parse []) (.returned (.slice none 0 0)) w := by
    rw [parse_nil]
    exact ⟨_, rfl, ⟨[], trivial, .inl ⟨rfl, rfl⟩⟩, Below.refl _ _⟩
  have FIN := Lib.hid fin
  clear fin
  go_enter Try.func9, Try.ntmps9
  go_wp2_with fail
  refine wp_loop_rounds 1 ?_
  rw [rounds_succ]
  go_wp2_with fail
  go_ret
  exact FIN.out
set_option maxHeartbeats 4000000 in
set_option maxRecDepth 100000 in
theorem rparse_some (g off c : Nat) (L : List UInt8) (w : World) (hL : L.length ≤ 1048576) (hLc : L.length ≤ c) (hc : c ≤ maxLen) (hr : Rd w w.heap.size (some ⟨g, off, none⟩) L) :
    Calls Try.prog 9 #[.slice (some ⟨g, off, none⟩) L.length c] w (RParsed w (parse L)) := by
  obtain ⟨i0, hi, hz0, hz1, hz2⟩ := info_parts info_rcmd
  obtain ⟨j0, hj, hy0, hy1, hy2⟩ := info_parts info_u8
  unfold maxLen at hc
  obtain ⟨B, hB⟩ : ∃ B, w.heap.size = B := ⟨_, rfl⟩
  have hcell : ∀ k b, L[k]? = some b → g < B ∧ w.cell? ⟨g, off + k, none⟩ = some (.int .u8 (b.toNat : Int)) := by
    intro k b hb
    have hk : k < L.length := by
      rcases Nat.lt_or_ge k L.length with h' | h'
      · exact h'
      · rw [List.getElem?_eq_none h'] at hb; simp at hb
    obtain ⟨_, _, he, hg, hx⟩ := hr (by omega)
    simp at he
    obtain ⟨rfl, rfl⟩ := he
    rw [List.getElem?_eq_getElem hk] at hb
    injection hb with hb
    rw [hx k hk, hb]
    exact ⟨by omega, rfl⟩
  have HCELL := Lib.hid hcell
  have HBB := Lib.hid hB
  clear hr hB hcell
  go_enter Try.func9, Try.ntmps9
  go_wp2_with fail
  go_loopw [3, 4] (fun v at' wr => ∃ (cs : List Cm) (k : Nat), Hid (parse L = cs ++ parse (L.drop k)) ∧ cs.length ≤ k ∧ k ≤ L.length ∧ at' = .int .i64 k ∧ Mk wr B 42 5 .i64 v cs ∧ Below B w wr) (fun _ at' _ => L.length - (intOf at').toNat)
  case atStart => exact ⟨[], 0, by show _ = _; simp, by simp, by simp, rfl, Mk.nil _ _ _ _ _, Below.refl _ _⟩
  case round =>
    obtain ⟨cs, k, hE, hck, hkL, rfl, hmk, hnx⟩ := hrel
    obtain ⟨rest, hrest⟩ : ∃ rest, L.drop k = rest := ⟨_, rfl⟩
    rw [hrest] at hE
    cases rest with
    | nil =>
      have hk := drop_nil hkL hrest
      obtain ⟨a, n, c', hv, hn, hnc, hcm, h0, _, hC⟩ := Mk.form hmk
      have HC := Lib.hid hC
      have HE : Hid (parse L = cs) := by show _ = _; rw [hE.out, parse_nil, List.append_nil]
      have hlt : decide (k < L.length) = false := decide_eq_false (by omega)
      clear hmk hv hC hE hn hrest hnc hcm h0 hk
      go_wp2_with fail
      go_ret
      rw [HE.out]
      exact ⟨_, rfl, HBB.out ▸ HC.out, HBB.out ▸ hnx⟩
    | cons b r =>
      have hb := u8_lt b
      obtain ⟨hk, hbk, hr⟩ := drop_cons hrest
      obtain ⟨hgB, hc1⟩ := HCELL.out k b hbk
      have hc1' := box_cell hnx hgB hc1
      have HR := Lib.hid hr
      obtain ⟨vs, ho, hown, hnil⟩ := hmk
      have hsz := hnx.size
      clear hrest hbk hr hc1 hnil
      have hnil1 : Own wr B 5 (.slice none 0 0) [] := .inl ⟨rfl, rfl⟩
      by_cases h2 : b.toNat < 192
      · have h2' : decide ((192 : Int) ≤ (b.toNat : Int)) = false := decide_eq_false (by omega)
        by_cases h1 : b.toNat < 64
        · have h1' : decide ((64 : Int) ≤ (b.toNat : Int)) = false := decide_eq_false (by omega)
          cases r with
          | nil =>
            have hk1 : k + 1 = L.length := drop_nil (by omega) HR.out
            have HK1 := Lib.hid hk1
            have hk2 : ¬ ((k : Int) + 1 < (L.length : Int)) := by omega
            have hk3 : L.length ≤ k + 1 := by omega
            clear hk1
            go_wp2_with fail
            refine wp_loop_rounds 1 ?_
            rw [rounds_succ]
            generalize hW : wr.alloc (Obj.cells #[Value.int IntKind.i64 0, Value.int IntKind.i64 ↑b.toNat, Value.slice none 0 0] 42) = W2
            obtain ⟨e0, e1, e2, hown2, ho2, hnx2⟩ := box_ref hnx (by have := HBB.out; omega) hown ho hW
            have hnil2 : Own W2 B 5 (.slice none 0 0) [] := .inl ⟨rfl, rfl⟩
            clear hW hown ho
            have hk1 := HK1.out
            go_wp2_with (at_builtin; refine wpList_append_own _ rfl _ _ 24 rfl B 42 i0 (.agg #[.int .i64 0, .int .i64 0, .slice none 0 0]) 3 40 Try.underlying24 hi hz0 hz1 hz2 rfl (by decide) _ _ _ rfl (hown2.alloc _) ⟨W2.heap.size, 0, none⟩ 1 1 (cells3 .i64 ((0, (b.toNat : Int), []) : Cm) (.slice none 0 0)) rfl rfl ?e1 ?e2 ?e3 ?e4 ?e5 ?_)
            case e1 => intro j u hj; first | exact news3 hj | exact hj
            case e2 => exact cells3_one (own_one hnil2)
            case e3 => unfold maxLen; omega
            case e4 => omega
            case e5 => have := HBB.out; have := hnx2.size; simp; omega
            intro v' w3 hown' hgrow hv
            obtain ⟨R1, R3⟩ := Mk.moreR (x := ((0, (b.toNat : Int), []) : Cm)) HBB.out hnx2 ho2 hown2 hnil2 hown' hgrow hv
            have hE' : Hid (parse L = (cs ++ [((0, (b.toNat : Int), []) : Cm)]) ++ parse (L.drop (k + 1))) := by show _ = _; rw [hE.out, parse_feed [] h1, HR.out, List.append_assoc]; rfl
            clear hown' hgrow hv
            go_wp2
            go_roundw
            case rel => exact ⟨_, k + 1, hE', by simp; omega, by omega, by go_num, R1, R3⟩
            case measure => simp [intOf]; omega
          | cons n r' =>
            obtain ⟨hk1, hbn, hr1⟩ := drop_cons HR.out
            obtain ⟨_, hcn⟩ := HCELL.out (k + 1) n hbn
            have hcn' := box_cell hnx hgB hcn
            have hn := u8_lt n
            have hk1' : decide ((k : Int) + 1 < (L.length : Int)) = true := decide_eq_true (by omega)
            have HR1 := Lib.hid hr1
            have hk2 : (k : Int) + 1 < (L.length : Int) := by omega
            have hcn2 := fun o => (World.cell?_alloc_some wr _ o (by simp [hcn'])).trans hcn'
            clear hbn hr1 hcn
            have hbq : Below wr.heap.size wr (wr.alloc (.cells #[.int .i64 0, .int .i64 b.toNat, .slice none 0 0] 42)) := (Below.refl _ _).alloc (Nat.le_refl _) _
            have hblk := heap_alloc_new wr (.cells #[.int .i64 0, .int .i64 b.toNat, .slice none 0 0] 42)
            have hBq : B ≤ wr.heap.size := by have := HBB.out; omega
            obtain ⟨T, hT⟩ : ∃ T : List UInt8, T = r'.take n.toNat := ⟨_, rfl⟩
            have hTl : T.length = min n.toNat r'.length := by rw [hT]; simp
            have hLl : L.length = k + 1 + 1 + r'.length := by
              have := congrArg List.length HR1.out
              simp at this
              omega
            have hTat : ∀ j c, T[j]? = some c → L[k + 1 + 1 + j]? = some c := by
              intro j c h
              rw [← List.getElem?_drop, HR1.out]
              rw [hT, List.getElem?_take] at h
              split at h
              · exact h
              · simp at h
            have hTD : Hid (fedB (n :: r') = T) := hT.symm
            have hDr : Hid (∀ j, j = T.length → parse (fedR (n :: r')) = parse (L.drop (k + 1 + 1 + j))) := by
              intro j hj
              rw [← List.drop_drop, HR1.out, hj, hTl]
              show parse (r'.drop n.toNat) = _
              rcases Nat.le_total n.toNat r'.length with h | h
              · rw [Nat.min_eq_left h]
              · rw [Nat.min_eq_right h, List.drop_eq_nil_of_le h, List.drop_length]
            have HTat := Lib.hid hTat
            have HTl := Lib.hid hTl
            have HLl := Lib.hid hLl
            have HMK : Hid (∀ W, Below wr.heap.size wr W → OwnAll W B 5 cs vs ∧ W.ownsRow B 42 3 u3 cs.length (rows3 .i64 cs vs) ∧ Below B w W) := by
              intro W hW
              exact ⟨ho.map fun v l h => h.below hW, Keeps.ownsRow (S := fun _ => False) hown (Keeps.of_new hW) (fun g hg => id), hnx.trans (hW.mono hBq)⟩
            have HBQ := Lib.hid hbq
            have HBK := Lib.hid hblk
            clear hT hTl hLl hTat hbq hblk hown ho
            go_wp2_with fail
            have hbq := HBQ.out
            have hblk := HBK.out
            generalize hW : wr.alloc (Obj.cells #[Value.int IntKind.i64 0, Value.int IntKind.i64 ↑b.toNat, Value.slice none 0 0] 42) = W2
            rw [hW] at hbq hblk
            have hW2s : W2.heap.size = wr.heap.size + 1 := by rw [← hW]; simp
            obtain ⟨wo, hwo⟩ : ∃ wo, wo = wr := ⟨_, rfl⟩
            rw [← hwo] at hbq hblk hW2s HMK hBq ⊢
            have HW2s := Lib.hid hW2s
            have HBQ2 := Lib.hid hbq
            have HBK2 := Lib.hid hblk
            clear hW HBQ HBK hbq hblk hW2s hcn2 hcn' hc1' hnx hsz hwo
            obtain ⟨q, hq⟩ : ∃ q, q = wo.heap.size := ⟨_, rfl⟩
            rw [← hq] at hBq HW2s HBK2 ⊢
            have HQ := Lib.hid hq
            clear hq
            go_loopw [4, 8] (fun at' i wq => ∃ (j : Nat) (bv : Value), j ≤ T.length ∧ at' = .int .i64 ((k : Int) + 1 + 1 + (j : Int)) ∧ i = .int .i64 (j : Int) ∧ wq.heap[q]? = some (Obj.cells #[.int .i64 0, .int .i64 (b.toNat : Int), bv] 42 (0, 0)) ∧ wq.ownsRow (q + 1) 5 1 bv j (byv (T.take j)) ∧ (j = 0 → bv = .slice none 0 0) ∧ Below q W2 wq) (fun _ i _ => T.length - (intOf i).toNat)
            case atStart => exact ⟨0, .slice none 0 0, by omega, by go_num, rfl, HBK2.out, World.ownsRow_nil _ _ _ _, fun _ => rfl, Below.refl _ _⟩
            case round =>
              obtain ⟨j, bv, hjT, rfl, rfl, hbk, hbo, hb0, hbel⟩ := hrel
              have hTl := HTl.out
              have hLl := HLl.out
              obtain ⟨f0, f1, f2, f3⟩ := box_at hbk
              by_cases hjt : j < T.length
              · have hjn : j < n.toNat := by omega
                have hjL : k + 1 + 1 + j < L.length := by omega
                obtain ⟨_, hcj⟩ := HCELL.out _ _ (HTat.out j _ (List.getElem?_eq_getElem hjt))
                have hbw : Below q wo wr := (HQ.out ▸ HBQ2.out).trans hbel
                have hcq := box_cell ((HMK.out wr (HQ.out ▸ hbw)).2.2) hgB hcj
                obtain ⟨c, hcd⟩ : ∃ c, c = T[j] := ⟨_, rfl⟩
                rw [← hcd] at hcq
                have hsn : Hid (byv (T.take (j + 1)) = byv (T.take j) ++ [.int .u8 (c.toNat : Int)]) := by
                  show _ = _
                  rw [List.take_succ_eq_append_getElem hjt, byv_app, ← hcd]; rfl
                have hd1 : decide ((k : Int) + 1 + 1 + (j : Int) < (L.length : Int)) = true := decide_eq_true (by omega)
                have hd2 : (k : Int) + 1 + 1 + (j : Int) < (L.length : Int) := by omega
                have y1 : ((k : Int) + 1 + 1 + (j : Int)).toNat = k + 1 + 1 + j := by omega
                have y2 : 0 ≤ (k : Int) + 1 + 1 + (j : Int) := by omega
                have hqs := blk_lt hbk
                have HJ := Lib.hid hjt
                clear hcj hcd hTl hLl hjt
                go_wp2_with fail
                go_region_law (refine step_append_lies _ rfl (.tmp 59) (.tmp 64) 22 rfl (q + 1) 5 j0 _ 1 1 Try.underlying22 hj hy0 hy1 hy2 rfl (by decide) bv j (byv (T.take j)) (by simp [Act.eval]) (hbo.alloc _) ⟨wr.heap.size, 0, none⟩ 1 1 [.int .u8 (c.toNat : Int)] (by simp [Act.eval]) rfl (by intro i u hi; exact new_one hi) (by intro u hu; simp at hu; subst hu; rfl) (by decide) (by have := HJ.out; have := HTl.out; have := HLl.out; unfold maxLen; omega) (by have := HJ.out; have := HTl.out; have := HLl.out; omega) (by simp; omega) _ rfl ?_; intro g' cap' w1 hown1 hgrow hg' hltg; have hgr := grown_undrew hgrow; have hb1 := box_kept hbk hbo hgr; obtain ⟨k0, k1, k2, k3⟩ := box_at hb1)
                all_goals
                  go_wp2
                  obtain ⟨q1, q2, q3⟩ := box_next hbel hb1 hown1 hgr (fun g hg => (hbo.lt g hg).1) (by have := HW2s.out; omega) hqs
                  go_roundw
                  case rel => exact ⟨j + 1, _, by have := HJ.out; omega, by go_num, by go_num, q1, by rw [hsn.out]; exact q2, fun h => absurd h (by omega), q3⟩
                  case measure => have := HJ.out; simp [intOf]; omega
              · have hjT2 : j = T.length := by omega
                have hbw : Below wo.heap.size wo wr := (HBQ2.out).trans (HQ.out ▸ hbel)
                obtain ⟨ho3, hown3, hnx3⟩ := HMK.out wr hbw
                have hbo2 : wr.ownsRow (q + 1) 5 1 bv T.length (byv T) := by rw [hjT2, List.take_length] at hbo; exact hbo
                have hO3' := own_of_row hbo2 (fun e => hb0 (by rw [hjT2, e]; rfl))
                have hO3 : Own wr B 5 bv T := hO3'.mono (by omega)
                have hD := hDr.out j hjT2
                have HD : Hid (parse L = cs ++ ((0, (b.toNat : Int), T) :: parse (L.drop (k + 1 + 1 + j)))) := by
                  show _ = _
                  rw [hE.out, parse_feed (n :: r') h1, hTD.out, hD]
                have HJ2 := Lib.hid hjT2
                have hjr : j ≤ n.toNat ∧ k + 1 + 1 + j ≤ L.length := by omega
                obtain ⟨hjr1, hjr2⟩ := hjr
                have hway : (¬ j < n.toNat) ∨ (j < n.toNat ∧ ¬ k + 1 + 1 + j < L.length) := by omega
                clear hbo hbo2 hO3' hbk hD hjT hb0 hjT2 hTl hLl
                rcases hway with hw1 | ⟨hw1, hw2⟩
                · have hd1 : decide ((j : Int) < (n.toNat : Int)) = false := decide_eq_false (by omega)
                  go_wp2_with (at_builtin; refine wpList_append_own _ rfl _ _ 24 rfl B 42 i0 (.agg #[.int .i64 0, .int .i64 0, .slice none 0 0]) 3 40 Try.underlying24 hi hz0 hz1 hz2 rfl (by decide) _ _ _ rfl (hown3.alloc _) ⟨wr.heap.size, 0, none⟩ 1 1 (cells3 .i64 ((0, (b.toNat : Int), T) : Cm) bv) rfl rfl ?f1 ?f2 ?f3 ?f4 ?f5 ?_)
                  case f1 => intro j u hj; first | exact news3 hj | exact hj
                  case f2 => exact cells3_one (own_one hO3)
                  case f3 => unfold maxLen; omega
                  case f4 => omega
                  case f5 => have := HBB.out; have := hnx3.size; simp; omega
                  intro v' w3 hown' hgrow hv
                  obtain ⟨R1, R3⟩ := Mk.moreR (x := ((0, (b.toNat : Int), T) : Cm)) HBB.out hnx3 ho3 hown3 hO3 hown' hgrow hv
                  have hE' : Hid (parse L = (cs ++ [((0, (b.toNat : Int), T) : Cm)]) ++ parse (L.drop (k + 1 + 1 + j))) := by show _ = _; rw [HD.out, List.append_assoc]; rfl
                  clear hown' hgrow hv
                  go_wp2
                  go_roundw
                  case rel => exact ⟨_, k + 1 + 1 + j, hE', by simp; omega, by omega, by go_num, R1, R3⟩
                  case measure => simp [intOf]; omega
                · have hd1 : decide ((k : Int) + 1 + 1 + (j : Int) < (L.length : Int)) = false := decide_eq_false (by omega)
                  have hd2 : ¬ (k : Int) + 1 + 1 + (j : Int) < (L.length : Int) := by omega
                  go_wp2_with (at_builtin; refine wpList_append_own _ rfl _ _ 24 rfl B 42 i0 (.agg #[.int .i64 0, .int .i64 0, .slice none 0 0]) 3 40 Try.underlying24 hi hz0 hz1 hz2 rfl (by decide) _ _ _ rfl (hown3.alloc _) ⟨wr.heap.size, 0, none⟩ 1 1 (cells3 .i64 ((0, (b.toNat : Int), T) : Cm) bv) rfl rfl ?zz1 ?zz2 ?zz3 ?zz4 ?zz5 ?_)
                  case zz1 => intro j u hj; first | exact news3 hj | exact hj
                  case zz2 => exact cells3_one (own_one hO3)
                  case zz3 => unfold maxLen; omega
                  case zz4 => omega
                  case zz5 => have := HBB.out; have := hnx3.size; simp; omega
                  intro v' w3 hown' hgrow hv
                  obtain ⟨R1, R3⟩ := Mk.moreR (x := ((0, (b.toNat : Int), T) : Cm)) HBB.out hnx3 ho3 hown3 hO3 hown' hgrow hv
                  have hE' : Hid (parse L = (cs ++ [((0, (b.toNat : Int), T) : Cm)]) ++ parse (L.drop (k + 1 + 1 + j))) := by show _ = _; rw [HD.out, List.append_assoc]; rfl
                  clear hown' hgrow hv
                  go_wp2
                  go_roundw
                  case rel => exact ⟨_, k + 1 + 1 + j, hE', by simp; omega, by omega, by go_num, R1, R3⟩
                  case measure => simp [intOf]; omega
        · have h1' : decide ((64 : Int) ≤ (b.toNat : Int)) = true := decide_eq_true (by omega)
          go_wp2_with (at_builtin; refine wpList_append_own _ rfl _ _ 24 rfl B 42 i0 (.agg #[.int .i64 0, .int .i64 0, .slice none 0 0]) 3 40 Try.underlying24 hi hz0 hz1 hz2 rfl (by decide) _ _ _ rfl (hown.alloc _) ⟨wr.heap.size, 0, none⟩ 1 1 (cells3 .i64 ((1, ((b.toNat % 64 : Nat) : Int), []) : Cm) (.slice none 0 0)) rfl rfl ?b1 ?b2 ?b3 ?b4 ?b5 ?_)
          case b1 => intro j u hj; first | exact news3 hj | exact hj
          case b2 => exact cells3_one (own_one hnil1)
          case b3 => unfold maxLen; omega
          case b4 => omega
          case b5 => have := HBB.out; have := hnx.size; simp; omega
          intro v' w3 hown' hgrow hv
          obtain ⟨R1, R3⟩ := Mk.moreR (x := ((1, ((b.toNat % 64 : Nat) : Int), []) : Cm)) HBB.out hnx ho hown hnil1 hown' hgrow hv
          have hE' : Hid (parse L = (cs ++ [((1, ((b.toNat % 64 : Nat) : Int), []) : Cm)]) ++ parse (L.drop (k + 1))) := by show _ = _; rw [hE.out, parse_pick r h1 h2, HR.out, List.append_assoc]; rfl
          clear hown' hgrow hv
          go_wp2
          go_roundw
          case rel => exact ⟨_, k + 1, hE', by simp; omega, by omega, by go_num, R1, R3⟩
          case measure => simp [intOf]; omega
      · have h2' : decide ((192 : Int) ≤ (b.toNat : Int)) = true := decide_eq_true (by omega)
        go_wp2_with (at_builtin; refine wpList_append_own _ rfl _ _ 24 rfl B 42 i0 (.agg #[.int .i64 0, .int .i64 0, .slice none 0 0]) 3 40 Try.underlying24 hi hz0 hz1 hz2 rfl (by decide) _ _ _ rfl (hown.alloc _) ⟨wr.heap.size, 0, none⟩ 1 1 (cells3 .i64 ((2, 0, []) : Cm) (.slice none 0 0)) rfl rfl ?d1 ?d2 ?d3 ?d4 ?d5 ?_)
        case d1 => intro j u hj; first | exact news3 hj | exact hj
        case d2 => exact cells3_one (own_one hnil1)
        case d3 => unfold maxLen; omega
        case d4 => omega
        case d5 => have := HBB.out; have := hnx.size; simp; omega
        intro v' w3 hown' hgrow hv
        obtain ⟨R1, R3⟩ := Mk.moreR (x := ((2, 0, []) : Cm)) HBB.out hnx ho hown hnil1 hown' hgrow hv
        have hE' : Hid (parse L = (cs ++ [((2, 0, []) : Cm)]) ++ parse (L.drop (k + 1))) := by show _ = _; rw [hE.out, parse_tick r (by omega) h2, HR.out, List.append_assoc]; rfl
        clear hown' hgrow hv
        go_wp2
        go_roundw
        case rel => exact ⟨_, k + 1, hE', by simp; omega, by omega, by go_num, R1, R3⟩
        case measure => simp [intOf]; omega
end Go.Proofs.Ytcmogfdbjppdeaa
