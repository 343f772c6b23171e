/- Marks that are over, or are not there; the chapter's New. -/
import Derived.Test.YthlebfiedejhhaaGreatMk
import Derived.Test.YthlebfiedejhhaaGreatPwA
import Derived.Test.YthlebfiedejhhaaGreatGPu
namespace Go.Proofs.YthlebfiedejhhaaGreat
open Go.RowKit Go.Maps
set_option linter.unusedVariables false
theorem bs_out {w W : World} {o : Obj} (h : Below w.heap.size w W) : Below w.heap.size w (W.alloc o) := h.alloc h.size o
theorem bs_out2 {w W : World} {o : Obj} {v : Value} {n i : Nat} (h : Below w.heap.size w W) (hn : w.heap.size ≤ n) : Below w.heap.size w ((W.alloc o).setCell ⟨n, i, none⟩ v) := (h.alloc h.size o).setCell hn v
theorem rnew12 {w : World} {a : Option Addr} {c n : Nat} {L : List Pv} (h : LayP w a n c L) (hM : n ≤ 1000000) {z : Int} (hz : z = if strsF L = [] then 0 else 1) :
    Calls Tryz.prog 96 #[.slice a n c] w fun e w' => (∃ r, e = .returned (.pointer (some ⟨r, 0, none⟩)) ∧ w'.cell? ⟨r, 0, none⟩ = some (.int .i64 z)) ∧ Below w.heap.size w w' := by
  have C := Lib.hid (rstrOf h hM)
  have hl := strsF_len L L.length
  rw [List.take_length, h.1] at hl
  clear h
  generalize strsF L = D at *
  have hD : D = [] ∨ 0 < D.length := by cases D <;> simp
  have hD' : (D.length = 0 ∧ z = 0) ∨ (0 < D.length ∧ z = 1) := by
    rcases hD with hD | hD
    · subst hD; exact .inl ⟨rfl, by rw [hz]; rfl⟩
    · exact .inr ⟨hD, by rw [hz, if_neg (fun e => by rw [e] at hD; simp at hD)]⟩
  clear hz hD
  go_enter Tryz.func96, Tryz.ntmps96
  go_wp2_with fail
  refine C.out.mono ?_
  rintro e w1 ⟨C0, v, hC0, rfl, hown, hb⟩
  obtain ⟨ac, cc, rfl, -, -, -, -⟩ := LieG.of (Lst.of_own hown)
  have HB := Lib.hid hb
  clear hb hown C
  rcases hD' with ⟨h0, rfl⟩ | ⟨h0, rfl⟩
  · generalize D.length = m at *
    subst h0
    go_wp2_with fail
    go_ret
    exact ⟨⟨_, rfl, by simp⟩, bs_out HB.out⟩
  · have hd : decide (0 < (D.length : Int)) = true := decide_eq_true (by omega)
    have hd2 : decide (0 < D.length) = true := decide_eq_true h0
    generalize D.length = m at *
    go_wp2_with fail
    go_ret
    exact ⟨⟨_, rfl, by simp⟩, bs_out HB.out⟩
/-- A Mark that is over, or is not there. -/
def OvM (w : World) (v : Value) : Prop := v = .pointer none ∨ ∃ q a, v = .pointer (some ⟨q, 0, none⟩) ∧ Ob w q [.slice a 0 0]
theorem OvM.keep {w W : World} {v : Value} {T : Nat → Prop} (h : OvM w v) (hk : Keeps T w W) (hT : ∀ q, v = .pointer (some ⟨q, 0, none⟩) → ¬ T q) : OvM W v := by
  rcases h with h | ⟨q, a, rfl, h⟩
  · exact .inl h
  · exact .inr ⟨q, a, rfl, h.keep hk (hT q rfl)⟩
theorem OvM.new {w W : World} {v : Value} (h : OvM w v) (hb : Below w.heap.size w W) : OvM W v := h.keep (T := fun _ => False) (Keeps.of_new hb) (fun _ _ s => s)
theorem OvM.lt {w : World} {v : Value} (h : OvM w v) : ∀ q, v = .pointer (some ⟨q, 0, none⟩) → q < w.heap.size := fun q e => by
  rcases h with h | ⟨q', a, h, ht⟩
  · rw [h] at e; simp at e
  · rw [h] at e
    injection e with e
    injection e with e
    injection e with e
    rw [← e]
    exact ht.lt
theorem ovm_over {w : World} {v : Value} (h : OvM w v) : Calls Tryz.prog 28 #[v] w fun e w' => e = .returned (.bool true) ∧ w = w' := by
  rcases h with rfl | ⟨q, a, rfl, h⟩
  · exact mk_over_nil w
  · exact mk_over (n := 0) h rfl
theorem ovm_step {w : World} {v : Value} (h : OvM w v) (x : Value) : Calls Tryz.prog 30 #[v, x] w fun e w' => e = .returned (.bool true) ∧ w = w' := by
  rcases h with rfl | ⟨q, a, rfl, h⟩
  · exact mk_step_nil x w
  · exact mk_step0 h x
/-- What NewMark leaves of no place. -/
def NwOv (w : World) (e : Ending) (w' : World) : Prop := ∃ q, e = .returned (.pointer (some ⟨q, 0, none⟩)) ∧ OvM w' (.pointer (some ⟨q, 0, none⟩)) ∧ w.heap.size ≤ q ∧ Below w.heap.size w w'
theorem newMark_ov {w : World} {a : Option Addr} {c n : Nat} {L : List Pv} (h : LayP w a n c L) (hM : n ≤ 1000000) (hL : strsF L = []) : Calls Tryz.prog 34 #[.slice a n c] w (NwOv w) := by
  refine (newMark h hM).mono ?_
  rw [hL]
  rintro e w' ⟨q, g, v, rfl, ⟨⟨a', rfl⟩, -⟩, ho, hq, -, hb⟩
  exact ⟨q, rfl, .inr ⟨q, a', rfl, ho⟩, hq.1, hb⟩
theorem lay_nil (w : World) : LayP w none 0 0 [] := ⟨rfl, fun i b k h => by simp at h⟩
theorem newMark_nil (w : World) : Calls Tryz.prog 34 #[.slice none 0 0] w (NwOv w) := newMark_ov (lay_nil w) (by decide) rfl
theorem lay_one (w : World) (b k : Int) (T : TypeId) : LayP (w.alloc (.cells #[.int .i64 b, .int .i64 k] T)) (some ⟨w.heap.size, 0, none⟩) 1 1 [(b, k)] := by
  refine ⟨rfl, fun i x y hx => ⟨w.heap.size, 0, rfl, Nat.le_refl _, ?_⟩⟩
  match i, hx with
  | 0, hx => simp at hx; obtain ⟨rfl, rfl⟩ := hx; exact ⟨new_at rfl rfl, new_at rfl rfl⟩
  | i + 1, hx => simp at hx
theorem lay_two (w : World) (b k b' k' : Int) (T : TypeId) : LayP (w.alloc (.cells #[.int .i64 b, .int .i64 k, .int .i64 b', .int .i64 k'] T)) (some ⟨w.heap.size, 0, none⟩) 2 2 [(b, k), (b', k')] := by
  refine ⟨rfl, fun i x y hx => ⟨w.heap.size, 0, rfl, Nat.le_refl _, ?_⟩⟩
  match i, hx with
  | 0, hx => simp at hx; obtain ⟨rfl, rfl⟩ := hx; exact ⟨new_at rfl rfl, new_at rfl rfl⟩
  | 1, hx => simp at hx; obtain ⟨rfl, rfl⟩ := hx; exact ⟨new_at rfl rfl, new_at rfl rfl⟩
  | i + 2, hx => simp at hx
theorem no_str (b : Int) : strsF [((0 : Int), (0 : Int)), (b, -1)] = [] := by
  have h1 : versf 0 0 = 0 := by decide
  have h2 : versf b (-1) = 0 := by
    unfold versf
    rw [if_neg]
    intro h
    have := isp_range h
    omega
  simp [strsF, addS, h1, h2]
/-- A list of Marks that are over. -/
def LsM (w : World) (g : Nat) (vs : List Value) : Prop := ∀ i v, vs[i]? = some v → w.cell? ⟨g, i, none⟩ = some v ∧ OvM w v
theorem LsM.new {w W : World} {g : Nat} {vs : List Value} (h : LsM w g vs) (hb : Below w.heap.size w W) : LsM W g vs := fun i v hi => by
  obtain ⟨h1, h2⟩ := h i v hi
  exact ⟨(hb.cell (p := ⟨g, i, none⟩) (World.block_lt_of_cell? _ _ h1)).trans h1, h2.new hb⟩
theorem info_mp : (Tryz.prog.info? 76).map (fun i => (i.zero, i.size, i.bytes)) = some (some (.pointer none), 1, 8) := by kernel_rfl
end Go.Proofs.YthlebfiedejhhaaGreat
/- Next: Puts and Outs that are over, or are not there; lists of such. -/
namespace Go.Proofs.YthlebfiedejhhaaGreat
open Go.RowKit Go.Maps
set_option linter.unusedVariables false
def OvP (w : World) (v : Value) : Prop := v = .pointer none ∨ ∃ q b k s tg ref tags, v = .pointer (some ⟨q, 0, none⟩) ∧ Ob w q (puC b k s tg ref tags 0)
def OvO (w : World) (v : Value) : Prop := v = .pointer none ∨ ∃ q b k s tags, v = .pointer (some ⟨q, 0, none⟩) ∧ Ob w q (ouC b k s tags 0 false)
/-- What such a list needs of what its elements are. -/
structure StV (P : World → Value → Prop) : Prop where
  keep : ∀ (X Y : World) (v : Value) (T : Nat → Prop), P X v → Keeps T X Y → (∀ q, v = .pointer (some ⟨q, 0, none⟩) → ¬ T q) → P Y v
  ptr : ∀ (X : World) (v : Value), P X v → v = .pointer none ∨ ∃ q z, v = .pointer (some ⟨q, 0, none⟩) ∧ X.cell? ⟨q, 0, none⟩ = some (.int .i64 z)
theorem stP : StV OvP := by
  refine ⟨fun X Y v T h hk hT => ?_, fun X v h => ?_⟩
  · rcases h with h | ⟨q, b, k, s, tg, ref, tags, rfl, h⟩
    · exact .inl h
    · exact .inr ⟨q, b, k, s, tg, ref, tags, rfl, h.keep hk (hT q rfl)⟩
  · rcases h with h | ⟨q, b, k, s, tg, ref, tags, rfl, h⟩
    · exact .inl h
    · exact .inr ⟨q, b, rfl, h.at_ 0 _ rfl⟩
theorem stO : StV OvO := by
  refine ⟨fun X Y v T h hk hT => ?_, fun X v h => ?_⟩
  · rcases h with h | ⟨q, b, k, s, tags, rfl, h⟩
    · exact .inl h
    · exact .inr ⟨q, b, k, s, tags, rfl, h.keep hk (hT q rfl)⟩
  · rcases h with h | ⟨q, b, k, s, tags, rfl, h⟩
    · exact .inl h
    · exact .inr ⟨q, b, rfl, h.at_ 0 _ rfl⟩
theorem StV.new {P : World → Value → Prop} (hP : StV P) {X Y : World} {v : Value} (h : P X v) (hb : Below X.heap.size X Y) : P Y v := hP.keep X Y v (fun _ => False) h (Keeps.of_new hb) (fun _ _ s => s)
theorem ovp_over {w : World} {v : Value} (h : OvP w v) : Calls Tryz.prog 45 #[v] w fun e w' => e = .returned (.bool true) ∧ w = w' := by
  rcases h with rfl | ⟨q, b, k, s, tg, ref, tags, rfl, h⟩
  · exact pu_over_nil w
  · exact pu_over h rfl
theorem ovp_step {w : World} {v : Value} (h : OvP w v) (x : Value) : Calls Tryz.prog 46 #[v, x] w fun e w' => e = .returned (.bool true) ∧ w = w' := by
  rcases h with rfl | ⟨q, b, k, s, tg, ref, tags, rfl, h⟩
  · exact pu_step_nil x w
  · exact pu_step0 h x
theorem ovo_over {w : World} {v : Value} (h : OvO w v) : Calls Tryz.prog 47 #[v] w fun e w' => e = .returned (.bool true) ∧ w = w' := by
  rcases h with rfl | ⟨q, b, k, s, tags, rfl, h⟩
  · exact ou_over_nil w
  · exact ou_over h rfl
theorem ovo_step {w : World} {v : Value} (h : OvO w v) (x : Value) : Calls Tryz.prog 48 #[v, x] w fun e w' => e = .returned (.bool true) ∧ w = w' := by
  rcases h with rfl | ⟨q, b, k, s, tags, rfl, h⟩
  · exact ou_step_nil x w
  · exact ou_step0 h x
theorem ovo_gone {w : World} {v : Value} (h : OvO w v) : Calls Tryz.prog 49 #[v] w fun e w' => e = .returned (.bool false) ∧ w = w' := by
  rcases h with rfl | ⟨q, b, k, s, tags, rfl, h⟩
  · exact ou_gone_nil w
  · exact ou_gone h
/-- What a new one leaves that is over. -/
def NwV (P : World → Value → Prop) (w : World) (e : Ending) (w' : World) : Prop := ∃ q, e = .returned (.pointer (some ⟨q, 0, none⟩)) ∧ P w' (.pointer (some ⟨q, 0, none⟩)) ∧ w.heap.size ≤ q ∧ Below w.heap.size w w'
theorem newPut_ov (b k s tg ref : Int) (w : World) (h : ¬ (itemf b k s ≠ 0 ∧ 1 ≤ tg ∧ tg ≤ 255 ∧ 1 ≤ ref)) : Calls Tryz.prog 38 #[.agg #[.int .i64 b, .int .i64 k, .int .i64 s], .int .i64 tg, .int .i64 ref] w (NwV OvP w) :=
  (newPut b k s tg ref w (z := 0) (by rw [if_neg h])).mono fun e w' ⟨q, he, ho, hq, hb⟩ => ⟨q, he, .inr ⟨q, _, _, _, _, _, _, rfl, ho⟩, hq, hb⟩
theorem newOut_ov (b k s : Int) (w : World) (h : itemf b k s = 0) : Calls Tryz.prog 40 #[.agg #[.int .i64 b, .int .i64 k, .int .i64 s]] w (NwV OvO w) :=
  (newOut b k s w (z := 0) (by rw [if_neg (fun e => e h)])).mono fun e w' ⟨q, he, ho, hq, hb⟩ => ⟨q, he, .inr ⟨q, _, _, _, _, rfl, ho⟩, hq, hb⟩
/-- A list of what is P. -/
def LsQ (B : Nat) (P : World → Value → Prop) (e : TypeId) (X : World) (s : Value) (m : Nat) : Prop := ∃ (g n cap : Nat) (vs : List Value), s = .slice (some ⟨g, 0, none⟩) n cap ∧ (n ≤ cap ∧ 1 ≤ n ∧ n ≤ m) ∧ vs.length = n ∧ X.ownsRow B e 1 s n vs ∧ ∀ v, v ∈ vs → P X v
section
variable {B : Nat} {P : World → Value → Prop} {e : TypeId} {X Y : World} {s : Value} {m : Nat}
theorem LsQ.new (h : LsQ B P e X s m) (hP : StV P) (hb : Below X.heap.size X Y) : LsQ B P e Y s m := by
  obtain ⟨g, n, cap, vs, rfl, h1, h2, h3, h4⟩ := h
  exact ⟨g, n, cap, vs, rfl, h1, h2, own_below h3 hb, fun v hv => hP.new (h4 v hv) hb⟩
theorem LsQ.le (h : LsQ B P e X s m) {m' : Nat} (hm : m ≤ m') : LsQ B P e X s m' := by
  obtain ⟨g, n, cap, vs, rfl, h1, h2, h3, h4⟩ := h
  exact ⟨g, n, cap, vs, rfl, ⟨h1.1, h1.2.1, by omega⟩, h2, h3, h4⟩
theorem LsQ.at_ {g n cap : Nat} {vs : List Value} (h3 : X.ownsRow B e 1 (.slice (some ⟨g, 0, none⟩) n cap) n vs) (h2 : vs.length = n) {i : Nat} {v : Value} (hi : vs[i]? = some v) : X.cell? ⟨g, i, none⟩ = some v := by
  have := h3.cells rfl i v hi
  rw [Addr.add_lit] at this
  simpa using this
/-- Behind append. -/
theorem LsQ.app {g n cap : Nat} {vs : List Value} {v v' : Value} (hP : StV P) (hn1 : 1 ≤ n) (hnm : n ≤ m) (h2 : vs.length = n) (h3 : X.ownsRow B e 1 (.slice (some ⟨g, 0, none⟩) n cap) n vs) (h4 : ∀ u, u ∈ vs → P X u) (hv : P X v) (hown : Y.ownsRow B e 1 v' (n + 1) (vs ++ [v])) (hgr : X.grownBy Y (Value.ownBlock (.slice (some ⟨g, 0, none⟩) n cap))) : LsQ B P e Y v' (m + 1) ∧ ∀ G : Nat → Prop, (∀ k, G k → k < B ∨ (∃ z, X.cell? ⟨k, 0, none⟩ = some (.int .i64 z)) ∨ ∃ cur e' fr, X.heap[k]? = some (.cells cur e' fr) ∧ e' ≠ e) → Kp G X Y := by
  have kz : Keeps (fun j => j = g) X Y := (Keeps.refl (fun j => j = g) X).grown hgr (fun k hk => by simp [Value.ownBlock] at hk; exact .inl hk.symm)
  obtain ⟨_, ⟨_, h0'⟩ | ⟨g', cap', rfl, hgB, hgl, hgn, hgc, hgx⟩⟩ := Lst.of_own hown
  · omega
  refine ⟨⟨g', n + 1, cap', vs ++ [v], rfl, ⟨hgn, by omega, by omega⟩, by simp [h2], hown, fun u hu => ?_⟩, fun G hG => kz.mono (fun k _ e hk => ?_)⟩
  · have hpu : P X u := by
      rcases List.mem_append.1 hu with hu | hu
      · exact h4 u hu
      · simp at hu
        subst hu
        exact hv
    refine hP.keep X Y u _ hpu kz (fun q e => ?_)
    rintro rfl
    obtain ⟨u0, hu0⟩ : ∃ u0, vs[0]? = some u0 := ⟨_, List.getElem?_eq_getElem (by omega)⟩
    have c0 := LsQ.at_ h3 h2 hu0
    rcases hP.ptr X u hpu with h | ⟨q', z, h, hz⟩
    · rw [h] at e; simp at e
    · rw [h] at e
      injection e with e
      injection e with e
      injection e with e
      subst e
      rw [hz] at c0
      injection c0 with c0
      rcases hP.ptr X u0 (h4 u0 (List.mem_of_getElem? hu0)) with h | ⟨_, _, h, _⟩
      · rw [h] at c0; simp at c0
      · rw [h] at c0; simp at c0
  · subst e
    rcases hG _ hk with h | ⟨z, hz⟩ | ⟨cur, e', fr, hc, he⟩
    · have := (h3.lt k rfl).1
      omega
    · obtain ⟨u0, hu0⟩ : ∃ u0, vs[0]? = some u0 := ⟨_, List.getElem?_eq_getElem (by omega)⟩
      have c0 := LsQ.at_ h3 h2 hu0
      rw [hz] at c0
      injection c0 with c0
      rcases hP.ptr X u0 (h4 u0 (List.mem_of_getElem? hu0)) with h | ⟨_, _, h, _⟩
      · rw [h] at c0; simp at c0
      · rw [h] at c0; simp at c0
    · obtain ⟨-, ⟨h, -⟩ | ⟨g, cap, cur', e1, -, h, -⟩⟩ := h3
      · simp at h
      · injection e1 with e1
        injection e1 with e1
        injection e1 with e1
        subst e1
        rw [hc] at h
        injection h with h
        injection h with _ h _
        exact he h
/-- What else turns keeps it. -/
theorem LsQ.keepE (hP : StV P) (h : LsQ B P e X s m) (hk : Kp (fun k => (∃ z, X.cell? ⟨k, 0, none⟩ = some (.int .i64 z)) ∨ ∃ cur fr, X.heap[k]? = some (.cells cur e fr)) X Y) : LsQ B P e Y s m := by
  obtain ⟨g, n, cap, vs, rfl, h1, h2, h3, h4⟩ := h
  refine ⟨g, n, cap, vs, rfl, h1, h2, Keeps.ownsRow h3 hk (fun g' e1 hn => hn (.inr ?_)), fun v hv => hP.keep X Y v _ (h4 v hv) hk (fun q e1 hn => hn (.inl ?_))⟩
  · simp [Value.ownBlock] at e1
    subst e1
    obtain ⟨-, ⟨h, -⟩ | ⟨g', cap', cur, e1, -, h, -⟩⟩ := h3
    · simp at h
    · injection e1 with e1
      injection e1 with e1
      injection e1 with e1
      subst e1
      exact ⟨_, _, h⟩
  · rcases hP.ptr X v (h4 v hv) with h | ⟨q', z, h, hz⟩
    · rw [h] at e1; simp at e1
    · rw [h] at e1
      injection e1 with e1
      injection e1 with e1
      injection e1 with e1
      subst e1
      exact ⟨z, hz⟩
end
theorem own2b {B : Nat} (w : World) (hB : B ≤ w.heap.size) (e : TypeId) (a b : Value) : (w.alloc (.cells #[a, b] e)).ownsRow B e 1 (.slice (some ⟨w.heap.size, 0, none⟩) 2 2) 2 [a, b] :=
  ⟨rfl, .inr ⟨w.heap.size, 2, #[a, b], rfl, hB, heap_alloc_new w _, Nat.le_refl _, by decide, rfl, by simp⟩⟩
theorem LsQ.two {B : Nat} {P : World → Value → Prop} {w : World} {e : TypeId} {a b : Value} (hP : StV P) (hB : B ≤ w.heap.size) (ha : P w a) (hb : P w b) : LsQ B P e (w.alloc (.cells #[a, b] e)) (.slice (some ⟨w.heap.size, 0, none⟩) 2 2) 2 :=
  ⟨w.heap.size, 2, 2, [a, b], rfl, ⟨by decide, by decide, by decide⟩, rfl, own2b w hB e a b, fun v hv => by
    simp at hv
    rcases hv with rfl | rfl
    · exact hP.new ha (bs_alloc (Below.refl _ _))
    · exact hP.new hb (bs_alloc (Below.refl _ _))⟩
theorem info_pu : (Tryz.prog.info? 107).map (fun i => (i.zero, i.size, i.bytes)) = some (some (.pointer none), 1, 8) := by kernel_rfl
theorem info_ou : (Tryz.prog.info? 111).map (fun i => (i.zero, i.size, i.bytes)) = some (some (.pointer none), 1, 8) := by kernel_rfl
end Go.Proofs.YthlebfiedejhhaaGreat
