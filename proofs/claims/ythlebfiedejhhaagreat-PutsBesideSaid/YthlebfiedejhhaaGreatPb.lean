/- The spots of the tables of 1 to 4 bits, one behind the other; what stands at each. -/
import Derived.Test.YthlebfiedejhhaaGreatGPu
import Derived.Test.YthlebfiedejhhaaGreatPuN
import Derived.Test.YthlebfiedejhhaaGreatGPl
import Derived.Test.YthlebfiedejhhaaGreatZr
namespace Go.Proofs.YthlebfiedejhhaaGreat
open Go.RowKit Go.Maps
set_option linter.unusedVariables false
theorem four_szf {b : Nat} (h : 1 ≤ b ∧ b ≤ 4) : (b = 1 ∧ szf (b : Int) = 2 ∧ 2 ^ b = 2) ∨ (b = 2 ∧ szf (b : Int) = 4 ∧ 2 ^ b = 4) ∨ (b = 3 ∧ szf (b : Int) = 8 ∧ 2 ^ b = 8) ∨ (b = 4 ∧ szf (b : Int) = 16 ∧ 2 ^ b = 16) := by
  rcases (by omega : b = 1 ∨ b = 2 ∨ b = 3 ∨ b = 4) with rfl | rfl | rfl | rfl
  · exact .inl ⟨rfl, by decide, by decide⟩
  · exact .inr (.inl ⟨rfl, by decide, by decide⟩)
  · exact .inr (.inr (.inl ⟨rfl, by decide, by decide⟩))
  · exact .inr (.inr (.inr ⟨rfl, by decide, by decide⟩))
/-- The table of a number, the number in it. -/
def bN (i : Nat) : Nat := if i < 8 then 1 else if i < 24 then 2 else if i < 56 then 3 else 4
def pB (b : Nat) : Nat := if b = 1 then 0 else if b = 2 then 8 else if b = 3 then 24 else if b = 4 then 56 else 120
theorem bN_at {b k : Nat} (h : 1 ≤ b ∧ b ≤ 4) (hk : k < 4 * 2 ^ b) : bN (pB b + k) = b ∧ pB b + k < 120 ∧ pB b + k - pB (bN (pB b + k)) = k := by
  rcases four_szf h with ⟨rfl, -, e⟩ | ⟨rfl, -, e⟩ | ⟨rfl, -, e⟩ | ⟨rfl, -, e⟩ <;> rw [e] at hk <;> unfold bN pB <;> simp <;> (repeat' split) <;> omega
theorem pB_next {b : Nat} (h : 1 ≤ b ∧ b ≤ 4) : pB b + 4 * 2 ^ b = pB (b + 1) := by
  rcases four_szf h with ⟨rfl, -, e⟩ | ⟨rfl, -, e⟩ | ⟨rfl, -, e⟩ | ⟨rfl, -, e⟩ <;> rw [e] <;> decide
def tgN (f : Int → Int) (b k : Nat) : Int := tagf (f (tagsf b ((k / 4 : Nat) : Int))) ((k % 4 : Nat) : Int)
def itN (f : Int → Int) (b k : Nat) : Int := f (itemf b ((k / 4 : Nat) : Int) ((k % 4 : Nat) : Int))
def tgI (f : Int → Int) (i : Nat) : Int := tgN f (bN i) (i - pB (bN i))
def itI (f : Int → Int) (i : Nat) : Int := itN f (bN i) (i - pB (bN i))
theorem tgI_at (f : Int → Int) {b k : Nat} (h : 1 ≤ b ∧ b ≤ 4) (hk : k < 4 * 2 ^ b) : tgI f (pB b + k) = tgN f b k := by
  obtain ⟨e1, -, e2⟩ := bN_at h hk
  unfold tgI
  rw [e2, e1]
theorem itI_at (f : Int → Int) {b k : Nat} (h : 1 ≤ b ∧ b ≤ 4) (hk : k < 4 * 2 ^ b) : itI f (pB b + k) = itN f b k := by
  obtain ⟨e1, -, e2⟩ := bN_at h hk
  unfold itI
  rw [e2, e1]
theorem wordB (b : Nat) (h : 1 ≤ b ∧ b ≤ 4) (w : World) : Calls Tryz.prog 52 #[.int .i64 b, .int .i64 0] w fun e w' => e = .returned (.int .u64 b) ∧ w = w' := by
  have := wordw8 b 0 w
  have e : wordf (b : Int) 0 = (b : Int) := by unfold wordf; omega
  rwa [e] at this
theorem as4 {b : Nat} (h : 1 ≤ b ∧ b ≤ 4) : asO (b : Int) = b ∧ asN (b : Int) = 0 ∧ spotsf (b : Int) = ((4 * 2 ^ b : Nat) : Int) := by
  rcases (by omega : b = 1 ∨ b = 2 ∨ b = 3 ∨ b = 4) with rfl | rfl | rfl | rfl <;> decide
theorem spotsB (b : Nat) (h : 1 ≤ b ∧ b ≤ 4) (w : World) : Calls Tryz.prog 51 #[.int .u64 b] w fun e w' => e = .returned (.int .i64 ((4 * 2 ^ b : Nat) : Int)) ∧ Below w.heap.size w w' := by
  have := spotsw b w (by omega) (by omega)
  rwa [(as4 h).2.2] at this
theorem atB (b k : Nat) (h : 1 ≤ b ∧ b ≤ 4) (hk : k < 4 * 2 ^ b) (w : World) : Calls Tryz.prog 54 #[.int .u64 b, .int .i64 k] w fun e w' => e = .returned (.agg #[.int .i64 b, .int .i64 ((k / 4 : Nat) : Int), .int .i64 ((k % 4 : Nat) : Int)]) ∧ Below w.heap.size w w' := by
  obtain ⟨e1, e2, e3⟩ := as4 h
  have hk2 : k < 64 := by
    rcases four_szf h with ⟨rfl, -, e⟩ | ⟨rfl, -, e⟩ | ⟨rfl, -, e⟩ | ⟨rfl, -, e⟩ <;> omega
  have := atw8 b k w (by omega) (by omega) (by omega) (by omega)
  have ek : kf (b : Int) k = k := by
    unfold kf
    rw [e3]
    exact Int.emod_eq_of_lt (by omega) (by exact_mod_cast hk)
  have es : ¬ 4 * szf (asO (b : Int)) ≤ kf (b : Int) k := by
    rw [e1, ek]
    rcases four_szf h with ⟨rfl, e, f⟩ | ⟨rfl, e, f⟩ | ⟨rfl, e, f⟩ | ⟨rfl, e, f⟩ <;> rw [e] <;> rw [f] at hk <;> omega
  unfold aB aK aS at this
  rw [if_neg es, if_neg es, e1, ek] at this
  exact this
/-- Another spot's words are others. -/
theorem spot_ne {b k B K S : Nat} {s : Nat} (h : 1 ≤ b ∧ b ≤ 4) (H : 1 ≤ B ∧ B ≤ 4) (hk : k < 2 ^ b) (hK : K < 2 ^ B) (hs : s < 4) (hS : S < 4) :
    (tagsf b k = tagsf B K ↔ (b = B ∧ k = K)) ∧ (itemf b k s = itemf B K S ↔ (b = B ∧ k = K ∧ s = S)) ∧ tagsf b k ≠ itemf B K S ∧ itemf b k s ≠ tagsf B K ∧ itemf b k s ≠ 0 := by
  have p1 : isp (b : Int) k = true := by
    unfold isp
    rcases four_szf h with ⟨rfl, e, f⟩ | ⟨rfl, e, f⟩ | ⟨rfl, e, f⟩ | ⟨rfl, e, f⟩ <;> rw [e] <;> rw [f] at hk <;> simp <;> omega
  have p2 : isp (B : Int) K = true := by
    unfold isp
    rcases four_szf H with ⟨rfl, e, f⟩ | ⟨rfl, e, f⟩ | ⟨rfl, e, f⟩ | ⟨rfl, e, f⟩ <;> rw [e] <;> rw [f] at hK <;> simp <;> omega
  have t1 : tagsf (b : Int) k = 4096 + 8 * (szf b + k) := by unfold tagsf; rw [if_pos p1]
  have t2 : tagsf (B : Int) K = 4096 + 8 * (szf B + K) := by unfold tagsf; rw [if_pos p2]
  have i1 : itemf (b : Int) k s = 4096 + 8 * (szf b + k) + 1 + s := by unfold itemf; rw [if_pos ⟨p1, by omega, by omega⟩]
  have i2 : itemf (B : Int) K S = 4096 + 8 * (szf B + K) + 1 + S := by unfold itemf; rw [if_pos ⟨p2, by omega, by omega⟩]
  have q1 : (szf (b : Int) = 2 ∨ szf (b : Int) = 4 ∨ szf (b : Int) = 8 ∨ szf (b : Int) = 16) ∧ (k : Int) < szf b := by
    rcases four_szf h with ⟨rfl, e, f⟩ | ⟨rfl, e, f⟩ | ⟨rfl, e, f⟩ | ⟨rfl, e, f⟩ <;> rw [e] <;> rw [f] at hk <;> omega
  have q2 : (szf (B : Int) = 2 ∨ szf (B : Int) = 4 ∨ szf (B : Int) = 8 ∨ szf (B : Int) = 16) ∧ (K : Int) < szf B := by
    rcases four_szf H with ⟨rfl, e, f⟩ | ⟨rfl, e, f⟩ | ⟨rfl, e, f⟩ | ⟨rfl, e, f⟩ <;> rw [e] <;> rw [f] at hK <;> omega
  have q3 : b = B ↔ szf (b : Int) = szf (B : Int) := by
    rcases four_szf h with ⟨rfl, e, f⟩ | ⟨rfl, e, f⟩ | ⟨rfl, e, f⟩ | ⟨rfl, e, f⟩ <;> rcases four_szf H with ⟨rfl, e', f'⟩ | ⟨rfl, e', f'⟩ | ⟨rfl, e', f'⟩ | ⟨rfl, e', f'⟩ <;> simp only [e, e'] <;> decide
  clear p1 p2 hk hK h H
  generalize szf (b : Int) = z at *
  generalize szf (B : Int) = Z at *
  rw [q3, t1, t2, i1, i2]
  clear t1 t2 i1 i2 q3
  obtain ⟨q1, q1'⟩ := q1
  obtain ⟨q2, q2'⟩ := q2
  refine ⟨?_, ?_, ?_, ?_, ?_⟩ <;> omega
/-- What stands at a spot behind a change of one. -/
theorem spot_say {f f2 : Int → Int} {B K S : Nat} {T y t u : Int} (H : 1 ≤ B ∧ B ≤ 4) (hK : K < 2 ^ B) (hS : S < 4) (hT : f (tagsf B K) = T) (hTU : isU T) (hy : withf T S t = y) (ht : 0 ≤ t ∧ t ≤ 255)
    (hf : ∀ a, f2 a = if a = tagsf B K then y else if a = itemf B K S then u else f a) {b k : Nat} (h : 1 ≤ b ∧ b ≤ 4) (hk : k < 4 * 2 ^ b) :
    (b = B ∧ k / 4 = K ∧ k % 4 = S → tgN f2 b k = t ∧ itN f2 b k = u) ∧ (¬ (b = B ∧ k / 4 = K ∧ k % 4 = S) → tgN f2 b k = tgN f b k ∧ itN f2 b k = itN f b k) := by
  obtain ⟨n1, n2, n3, n4, -⟩ := spot_ne (s := k % 4) h H (show k / 4 < 2 ^ b by omega) hK (by omega) hS
  have tw := fun j (hj : 0 ≤ j ∧ j < 4) => tag_with (k := (S : Int)) (t := t) (j := j) hTU (by omega) ht hj
  unfold tgN itN
  refine ⟨fun ⟨e1, e2, e3⟩ => ?_, fun ne => ?_⟩
  · subst e1; subst e2; subst e3
    rw [hf, if_pos rfl, hf, if_neg n4, if_pos rfl, ← hy, tw _ (by omega), if_pos rfl]
    exact ⟨rfl, rfl⟩
  · refine ⟨?_, ?_⟩
    · rw [hf]
      by_cases e : tagsf (b : Int) ((k / 4 : Nat) : Int) = tagsf B K
      · obtain ⟨e1, e2⟩ := n1.mp e
        have e3 : ¬ k % 4 = S := fun e3 => ne ⟨e1, e2, e3⟩
        rw [if_pos e, e, hT, ← hy, tw _ (by omega), if_neg (by omega)]
      · rw [if_neg e, if_neg n3]
    · rw [hf, if_neg n4, if_neg (fun e => ne (n2.mp e))]
/-- The two tables as they are filled. -/
def PbT (W X : World) (T I : Nat) (f : Int → Int) (n : Nat) : Prop := ∃ gt gi : Nat → Int, Zr X T 120 .i64 gt ∧ Zr X I 120 .u64 gi ∧ (∀ i, i < n → gt i = tgI f i ∧ gi i = itI f i) ∧ Keeps (fun j => j = T ∨ j = I) W X
theorem PbT.keep {W X Y : World} {T I n : Nat} {f : Int → Int} {U : Nat → Prop} (h : PbT W X T I f n) (hk : Keeps U X Y) (h1 : ¬ U T) (h2 : ¬ U I) (h3 : Keeps (fun j => j = T ∨ j = I) W Y) : PbT W Y T I f n := by
  obtain ⟨gt, gi, a, b, c, d⟩ := h
  exact ⟨gt, gi, a.keep hk h1, b.keep hk h2, c, h3⟩
theorem PbT.new {W X Y : World} {T I n : Nat} {f : Int → Int} (h : PbT W X T I f n) (hb : Below X.heap.size X Y) : PbT W Y T I f n := by
  obtain ⟨gt, gi, a, b, c, d⟩ := h
  exact ⟨gt, gi, a.keep (U := fun _ => False) (Keeps.of_new hb) (fun s => s), b.keep (U := fun _ => False) (Keeps.of_new hb) (fun s => s), c, d.new hb⟩
theorem PbT.kp {W X : World} {T I n : Nat} {f : Int → Int} (h : PbT W X T I f n) : Keeps (fun j => j = T ∨ j = I) W X := by
  obtain ⟨gt, gi, a, b, c, d⟩ := h
  exact d
theorem PbT.at_ {W X : World} {T I n : Nat} {f : Int → Int} (h : PbT W X T I f n) {i : Nat} (hi : i < 120) : ∃ x y, X.cell? ⟨T, i, none⟩ = some (.int .i64 x) ∧ X.frozen? ⟨T, i, none⟩ = false ∧ X.cell? ⟨I, i, none⟩ = some (.int .u64 y) ∧ X.frozen? ⟨I, i, none⟩ = false ∧ (i < n → x = tgI f i ∧ y = itI f i) := by
  obtain ⟨gt, gi, a, b, c, d⟩ := h
  exact ⟨gt i, gi i, (a i hi).1, (a i hi).2, (b i hi).1, (b i hi).2, c i⟩
theorem PbT.put {W X : World} {T I n : Nat} {f : Int → Int} (h : PbT W X T I f n) (hn : n < 120) (hTI : T ≠ I) {t u : Int} (ht : t = tgI f n) (hu : u = itI f n) : PbT W ((X.setCell ⟨T, n, none⟩ (.int .i64 t)).setCell ⟨I, n, none⟩ (.int .u64 u)) T I f (n + 1) := by
  obtain ⟨gt, gi, a, b, c, d⟩ := h
  refine ⟨zput gt n t, zput gi n u, ?_, ?_, fun i hi => ?_, ?_⟩
  · exact (a.put hn t).keep (U := fun j => j = I) (Keeps.setCell (S := fun j => j = I) (Keeps.refl _ _) (p := ⟨I, n, none⟩) (.inl rfl) _) hTI
  · exact (b.keep (U := fun j => j = T) (Keeps.setCell (S := fun j => j = T) (Keeps.refl _ _) (p := ⟨T, n, none⟩) (.inl rfl) _) (fun e => hTI e.symm)).put hn u
  · unfold zput
    by_cases e : i = n
    · subst e
      rw [if_pos rfl, if_pos rfl]
      exact ⟨ht, hu⟩
    · rw [if_neg e, if_neg e]
      exact c i (by omega)
  · exact Keeps.setCell (S := fun j => j = T ∨ j = I) (Keeps.setCell (S := fun j => j = T ∨ j = I) d (p := ⟨T, n, none⟩) (.inl (.inl rfl)) _) (p := ⟨I, n, none⟩) (.inl (.inr rfl)) _
theorem pair_w2 (p r : Nat) (w : World) : (Instr.field 34 (.agg #[.pointer (some ⟨p, 0, none⟩), .pointer (some ⟨r, 0, none⟩)]) 0).run Tryz.prog w = .ok (.pointer (some ⟨p, 0, none⟩)) w := by kernel_rfl
theorem opw_wd {G : Nat → Prop} {w : World} {A : Ad} {V : Wv} {q : Nat} {C : List Value} (h : Opw G w A V q C) : WdG G w A V := by
  obtain ⟨S, h1, h2, h3, h4, h5, h6⟩ := h
  exact ⟨S, h1, h2, h6⟩
end Go.Proofs.YthlebfiedejhhaaGreat
