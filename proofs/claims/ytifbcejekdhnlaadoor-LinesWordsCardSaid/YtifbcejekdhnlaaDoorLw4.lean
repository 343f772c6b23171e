/- Lines: a name with a letter of it in another case, as bytes; words ahead of others. -/
import Derived.Test.YtifbcejekdhnlaaDoorLw3
import Derived.Test.YtifbcejekdhnlaaDoorLi2
namespace Go.Proofs.YtifbcejekdhnlaaDoor
open Go.RowKit Go.Maps
set_option linter.unusedVariables false

theorem ext_list (B : ByteArray) (i j : Nat) : (B.extract i j).data.toList = (B.data.toList.drop i).take (j - i) := by
  rw [ByteArray.data_extract, Array.toList_extract]
theorem of_list {A B : ByteArray} (h : A.data.toList = B.data.toList) : A = B := by
  apply ByteArray.ext
  exact Array.ext' h
theorem size_list (B : ByteArray) : B.data.toList.length = B.size := by simp
structure OddB (x : List UInt8) (i : Nat) (P Q R U : ByteArray) : Prop where
  asc : (∀ c ∈ x, c.toNat < 128) → ∀ (j : Nat) (b : UInt8), Q.data.toList[j]? = some b → b.toNat < 128
  small : Q.size ≤ 1 ∧ P.size ≤ i ∧ U.size ≤ 1 ∧ R.size ≤ x.length
  all : (P ++ U) ++ R = ⟨(oddL x i).toArray⟩
theorem odd_b {x : List UInt8} {i : Nat} {NB : ByteArray} (hN : NB = ⟨x.toArray⟩) (hi : i < x.length) {n : Nat} (hn : NB.size = n) : OddB x i (NB.extract 0 i) (NB.extract i (i + 1)) (NB.extract (i + 1) n) ⟨(Lib.toUpperA (NB.extract i (i + 1)).data.toList).toArray⟩ := by
  have hd : NB.data.toList = x := by rw [hN]
  have hl : x.length = n := by rw [← hd, size_list, hn]
  have e1 := ext_list NB 0 i
  have e2 := ext_list NB i (i + 1)
  have e3 := ext_list NB (i + 1) n
  rw [hd] at e1 e2 e3
  rw [List.drop_zero, Nat.sub_zero] at e1
  rw [show i + 1 - i = 1 by omega] at e2
  rw [List.take_of_length_le (by rw [List.length_drop]; omega)] at e3
  have hu : (Lib.toUpperA ((x.drop i).take 1)).length ≤ 1 := by
    have : (Lib.toUpperA ((x.drop i).take 1)).length = ((x.drop i).take 1).length := by simp [Lib.toUpperA]
    rw [this, List.length_take]; omega
  refine ⟨fun h j b hb => ?_, ⟨?_, ?_, ?_, ?_⟩, ?_⟩
  · rw [e2] at hb
    exact h b (List.mem_of_mem_drop (List.mem_of_mem_take (List.mem_of_getElem? hb)))
  · rw [← size_list, e2, List.length_take]; omega
  · rw [← size_list, e1, List.length_take]; omega
  · rw [e2]
    show (Lib.toUpperA ((x.drop i).take 1)).toArray.size ≤ 1
    simpa using hu
  · rw [← size_list, e3, List.length_drop]; omega
  · apply of_list
    rw [ByteArray.data_append, Array.toList_append, ByteArray.data_append, Array.toList_append, e1, e3, e2]
    simp [oddL]
/-- What a row of strings holds. -/
theorem row_at {W : World} {B n : Nat} {e : TypeId} {v' : Value} {ws : List (List UInt8)} (h : W.ownsRow B e 1 v' n (ws.map fun x => .string ⟨x.toArray⟩)) (hn : 0 < n) (hl : ws.length = n) : ∃ g cap, v' = .slice (some ⟨g, 0, none⟩) n cap ∧ n ≤ cap ∧ cap ≤ maxLen ∧ g < W.heap.size ∧ ∀ k x, ws[k]? = some x → W.cell? ⟨g, 0 + k, none⟩ = some (.string ⟨x.toArray⟩) := by
  rcases h.2 with ⟨he, h0⟩ | ⟨g, cap, cur, rfl, hB, hbk, h1, h2, _⟩
  · omega
  · refine ⟨g, cap, rfl, h1, h2, (h.lt g rfl).2, fun k x hk => ?_⟩
    have q := h.cells (g := g) rfl k (.string ⟨x.toArray⟩) (by rw [List.getElem?_map, hk]; rfl)
    rw [Addr.add_lit] at q
    exact q
theorem bad_parse {x : List UInt8} {tl : List (List UInt8)} (h : formOf x = none) : parseN (x :: tl) = (Cmd.none, 1) := by
  unfold parseN
  simp only [h]
/-- Words that were put behind one. -/
theorem app_row {N : Nat} {w X : World} {OD : ByteArray} {x : List UInt8} {tl : List (List UInt8)} {v' : Value} {m : Nat} (hx : OD = ⟨x.toArray⟩) (hl : tl.length = m) (hN : 1 + m = N) (hown : X.ownsRow w.heap.size 9 1 v' (1 + m) ([.string OD] ++ tl.map fun x => .string ⟨x.toArray⟩)) (hgr : (w.alloc (.cells #[.string OD] 9)).grownBy X (Value.ownBlock (.slice (some ⟨w.heap.size, 0, none⟩) 1 1))) :
    ∃ g cap, v' = .slice (some ⟨g, 0, none⟩) N cap ∧ N ≤ cap ∧ cap ≤ maxLen ∧ g < X.heap.size ∧ (∀ k y, (x :: tl)[k]? = some y → X.cell? ⟨g, 0 + k, none⟩ = some (.string ⟨y.toArray⟩)) ∧ Below w.heap.size w X := by
  subst hN
  have e : ([.string OD] ++ tl.map fun x => .string ⟨x.toArray⟩ : List Value) = (x :: tl).map fun x => .string ⟨x.toArray⟩ := by rw [hx]; rfl
  rw [e] at hown
  obtain ⟨g, cap, h1, h2, h3, h4, h5⟩ := row_at hown (by omega) (by rw [List.length_cons, hl]; omega)
  exact ⟨g, cap, h1, h2, h3, h4, h5, ((Below.refl _ _).alloc (Nat.le_refl _) _).grown hgr (by simp) (fun j e => by simp [Value.ownBlock] at e; omega)⟩
theorem strs_at {W : World} {g o : Nat} {tl : List (List UInt8)} (h : ∀ k x, tl[k]? = some x → W.cell? ⟨g, o + k, none⟩ = some (.string ⟨x.toArray⟩)) : ∀ j u, (tl.map fun x => (.string ⟨x.toArray⟩ : Value))[j]? = some u → W.cell? ((⟨g, o, none⟩ : Addr).add j) = some u := by
  intro j u hu
  rw [List.getElem?_map] at hu
  cases hx : tl[j]? with
  | none => rw [hx] at hu; simp at hu
  | some x =>
    rw [hx] at hu
    simp only [Option.map_some] at hu
    injection hu with hu
    subst hu
    rw [Addr.add_lit]
    exact h j x hx
theorem strs_one {tl : List (List UInt8)} : ∀ u ∈ (tl.map fun x => (.string ⟨x.toArray⟩ : Value)), u.oneCell' = true := by
  intro u hu
  obtain ⟨x, _, rfl⟩ := List.mem_map.mp hu
  rfl
/-- A row's copy, and one word more behind it. -/
theorem nil_row {w X : World} {l : List (List UInt8)} {v' : Value} {n : Nat} (hl : l.length = n) (hn : 0 < n) (hown : X.ownsRow w.heap.size 9 1 v' (0 + n) ([] ++ l.map fun x => .string ⟨x.toArray⟩)) (hgr : w.grownBy X (Value.ownBlock (.slice none 0 0))) :
    ∃ g cap, v' = .slice (some ⟨g, 0, none⟩) n cap ∧ n ≤ cap ∧ X.ownsRow w.heap.size 9 1 (.slice (some ⟨g, 0, none⟩) n cap) n (l.map fun x => .string ⟨x.toArray⟩) ∧ Below w.heap.size w X := by
  rw [Nat.zero_add, List.nil_append] at hown
  obtain ⟨g, cap, rfl, h2, h3, h4, h5⟩ := row_at hown hn hl
  exact ⟨g, cap, rfl, h2, hown, (Below.refl _ _).grown hgr (Nat.le_refl _) (fun j e => by simp [Value.ownBlock] at e)⟩
theorem snoc_row {N : Nat} {w X Z : World} {OB : Obj} {x : List UInt8} {l : List (List UInt8)} {g cap n : Nat} {v' : Value} (hown0 : X.ownsRow w.heap.size 9 1 (.slice (some ⟨g, 0, none⟩) n cap) n (l.map fun x => .string ⟨x.toArray⟩)) (hb : Below w.heap.size w X) (hl : l.length = n) (hN : n + 1 = N) (hown : Z.ownsRow w.heap.size 9 1 v' (n + 1) ((l.map fun x => .string ⟨x.toArray⟩) ++ [.string ⟨x.toArray⟩])) (hgr : (X.alloc OB).grownBy Z (Value.ownBlock (.slice (some ⟨g, 0, none⟩) n cap))) :
    ∃ g cap, v' = .slice (some ⟨g, 0, none⟩) N cap ∧ N ≤ cap ∧ cap ≤ maxLen ∧ g < Z.heap.size ∧ (∀ k y, (l ++ [x])[k]? = some y → Z.cell? ⟨g, 0 + k, none⟩ = some (.string ⟨y.toArray⟩)) ∧ Below w.heap.size w Z := by
  subst hN
  have e : ((l.map fun x => .string ⟨x.toArray⟩) ++ [.string ⟨x.toArray⟩] : List Value) = (l ++ [x]).map fun x => .string ⟨x.toArray⟩ := by rw [List.map_append]; rfl
  rw [e] at hown
  have hg := (hown0.lt g rfl).1
  obtain ⟨g', cap', h1, h2, h3, h4, h5⟩ := row_at hown (by omega) (by rw [List.length_append, hl]; rfl)
  exact ⟨g', cap', h1, h2, h3, h4, h5, (hb.alloc hb.size _).grown hgr (by have := hb.size; simp; omega) (fun j e => by simp [Value.ownBlock] at e; omega)⟩
theorem one_at {W : World} {v : Value} {e : TypeId} : ∀ j u, [v][j]? = some u → (W.alloc (.cells #[v] e)).cell? ((⟨W.heap.size, 0, none⟩ : Addr).add j) = some u := by
  intro j u hj
  match j, hj with
  | 0, hj => simp at hj; subst hj; simp [Addr.add]
theorem one_one {x : ByteArray} : ∀ u ∈ [(.string x : Value)], u.oneCell' = true := by
  intro u hu
  rw [List.mem_singleton.mp hu]; rfl
theorem name_cls : ∀ v : Fin 13, 2 ≤ v.val → v.val ≤ 9 → (nameL v == [103, 101, 116]) = false ∧ (nameL v == [103, 101, 116, 115]) = false ∧ (nameL v == [102, 108, 117, 115, 104, 95, 97, 108, 108]) = false ∧ (nameL v == [118, 101, 114, 115, 105, 111, 110]) = false ∧ (nameL v == [113, 117, 105, 116]) = false := by decide +kernel
end Go.Proofs.YtifbcejekdhnlaaDoor
