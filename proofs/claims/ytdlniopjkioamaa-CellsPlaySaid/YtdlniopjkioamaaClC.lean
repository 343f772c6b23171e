/- Contracts of package cells: CAS. -/
import Derived.Test.YtdlniopjkioamaaClO
namespace Go.Proofs.Ytdlniopjkioamaa
open Go.RowKit Go.Maps
set_option linter.unusedVariables false

def casI (r : Bool) (is z : Int) : Int := if r then is else z
theorem isU_cas {r : Bool} {is z : Int} (h1 : isU is) (h2 : isU z) : isU (casI r is z) := by unfold casI; split <;> assumption
theorem newc {W : World} {n : Nat} (hn : n = W.heap.size) (v : Value) (T : TypeId) : (W.alloc (.cells #[v] T)).cell? ⟨n, 0, none⟩ = some v ∧ (W.alloc (.cells #[v] T)).frozen? ⟨n, 0, none⟩ = false := by subst hn; simp
section
variable {w : World} {p n : Nat} {f : Int → Int} {cnt k a0 x y a was is : Int} {S : Nat → Prop}
set_option maxRecDepth 100000 in
theorem cas_any (h : Cel w p f cnt k a0 x y n S) (hS : ∀ k, S k → k < w.heap.size) (ha : isU a) (hv : isU is) (hn : n < 1099511627776) (hc0 : 0 ≤ cnt) (hc1 : cnt < 1000000000000) {r : Bool} (hr : (f a == was) = r) :
    Calls Try.prog 14 #[.pointer (some ⟨p, 0, none⟩), .int .u64 a, .int .u64 was, .int .u64 is] w fun e w' => e = .returned (.tuple #[.int .u64 (f a), .bool r]) ∧ AccPost w p (upd f a (casI r is (f a))) (cnt + 1) 3 a (f a) (casI r is (f a)) (n + 1) S w' := by
  have HA : ∀ A B C, ∀ W, W = ((w.alloc (.cells #[.int .u64 was] A)).alloc (.cells #[.int .u64 is] B)).alloc (.cells #[.bool false] C) →
      Calls Try.prog 27 #[.pointer (some ⟨p, 0, none⟩), .int .u8 3, .int .u64 a, .func (.func 30) #[] #[.pointer (some ⟨w.heap.size, 0, none⟩), .pointer (some ⟨w.heap.size + 1 + 1, 0, none⟩), .pointer (some ⟨w.heap.size + 1, 0, none⟩)]] W
        fun e w' => e = .returned (.int .u64 (f a)) ∧ w'.cell? ⟨w.heap.size + 1 + 1, 0, none⟩ = some (.bool r) ∧ w'.frozen? ⟨w.heap.size + 1 + 1, 0, none⟩ = false ∧ ∃ S', Turn S S' w w' ∧ Cel w' p (upd f a (casI r is (f a))) (cnt + 1) 3 a (f a) (casI r is (f a)) (n + 1) S' ∧ ¬ S' (w.heap.size + 1 + 1) := by
    intro A B C W hW
    have hk : Below w.heap.size w W := by rw [hW]; exact (((Below.refl _ _).alloc (Nat.le_refl _) _).alloc (by simp) _).alloc (by simp; omega) _
    have hz : W.heap.size = w.heap.size + 3 := by rw [hW]; simp
    have h1 : Cel W p f cnt k a0 x y n S := IsCells.keep h (Keeps.of_new (S := fun _ => False) hk) (fun _ _ s => s)
    have d0 : W.cell? ⟨w.heap.size, 0, none⟩ = some (.int .u64 was) := by
      rw [hW]
      exact ((((Below.refl _ (w.alloc (.cells #[.int .u64 was] A))).alloc (Nat.le_refl _) _).alloc (by simp) _).cell (p := ⟨w.heap.size, 0, none⟩) (by simp)).trans (newc rfl _ _).1
    have d1 : W.cell? ⟨w.heap.size + 1, 0, none⟩ = some (.int .u64 is) := by
      rw [hW]
      exact ((Below.refl _ ((w.alloc (.cells #[.int .u64 was] A)).alloc (.cells #[.int .u64 is] B))).alloc (Nat.le_refl _) _).cell (p := ⟨w.heap.size + 1, 0, none⟩) (by simp) |>.trans (newc (by simp) _ _).1
    have d2 : W.cell? ⟨w.heap.size + 1 + 1, 0, none⟩ = some (.bool false) := by rw [hW]; exact (newc (by simp) _ _).1
    have z2 : W.frozen? ⟨w.heap.size + 1 + 1, 0, none⟩ = false := by rw [hW]; exact (newc (by simp) (.bool false) C).2
    have hkc : Keeps (fun k => k = w.heap.size + 1 + 1) W (W.setCell ⟨w.heap.size + 1 + 1, 0, none⟩ (.bool r)) := Keeps.setCell (S := fun k => k = w.heap.size + 1 + 1) (Keeps.refl _ W) (p := ⟨w.heap.size + 1 + 1, 0, none⟩) (.inl rfl) _
    have hT : ∀ k, S k → ¬ k = w.heap.size + 1 + 1 := fun k s e => by have := hS k s; omega
    refine (access_any (kk := 3) (is := casI r is (f a)) 30 _ h1 ha (isU_cas hv (h.rng a ha)) hn hc0 hc1 (enter_of Try.func30 (by kernel_rfl) rfl) (cl_cas _ was is _ _ _ false W r hr (by omega) (by omega) d0 d2 z2 d1) hkc hT).mono ?_
    rintro e w' ⟨rfl, S', t, q⟩
    have hsz : (W.setCell ⟨w.heap.size + 1 + 1, 0, none⟩ (.bool r)).heap.size = w.heap.size + 3 := by simpa [World.setCell] using hz
    have hno : ¬ S (w.heap.size + 1 + 1) := fun s => by have := hS _ s; omega
    refine ⟨rfl, t.keeps.cell (p := ⟨w.heap.size + 1 + 1, 0, none⟩) hno (World.cell?_setCell_same _ _ _ d2), t.keeps.frozen (p := ⟨w.heap.size + 1 + 1, 0, none⟩) hno (by show w.heap.size + 1 + 1 < _; rw [hsz]; omega) (by simpa using z2), S', ?_, q, fun s => ?_⟩
    · have t1 : Turn S S W (W.setCell ⟨w.heap.size + 1 + 1, 0, none⟩ (.bool r)) → Turn S S' W w' := fun t0 => t0.trans t
      refine ⟨?_, fun i hi => ?_⟩
      · have k1 : Keeps S w (W.setCell ⟨w.heap.size + 1 + 1, 0, none⟩ (.bool r)) := (Keeps.of_new hk).setCell (.inr (by show w.heap.size ≤ w.heap.size + 1 + 1; omega)) _
        exact k1.trans t.keeps (fun _ _ s => s)
      · rcases t.only i hi with s | s
        · exact .inl s
        · rw [hsz] at s; exact .inr (by omega)
    · rcases t.only _ s with s | s
      · exact hno s
      · rw [hsz] at s; omega
  have HA := Lib.hid HA
  clear h hS hr
  generalize upd f a (casI r is (f a)) = f' at *
  generalize casI r is (f a) = u at *
  generalize f a = z at *
  go_enter Try.func14, Try.ntmps14
  go_wp2_with (go_at_call 27; refine (HA.out _ _ _ _ rfl).mono ?_; rintro e w1 ⟨rfl, d1, d2, S', t, q, hno⟩; have HT := Lib.hid t; have HQ := Lib.hid q; have HN := Lib.hid hno; clear t q hno HA)
  go_region
  all_goals
    go_wp2_with fail
    have d3 : (w1.setCell ⟨w.heap.size + 1 + 1, 0, none⟩ (.bool r)).drew.cell? ⟨w.heap.size + 1 + 1, 0, none⟩ = some (.bool r) := World.cell?_setCell_same w1 _ (.bool r) d1
    refine bodyPost_ret (v := .tuple #[.int .u64 z, .bool r]) (by simp [results, Try.results14, go_sem, d3]) rfl ⟨rfl, S', ?_, ?_⟩
    · have := HT.out
      exact ⟨(this.keeps.setCell (.inr (by show w.heap.size ≤ w.heap.size + 1 + 1; omega)) _).drew, fun i hi => by rcases this.only i hi with s | s; exact .inl s; exact .inr (by simpa [World.setCell] using s)⟩
    · refine IsCells.keep HQ.out (T := fun k => k = w.heap.size + 1 + 1) ?_ (fun k s e => HN.out (by rwa [← e]))
      exact (Keeps.setCell (S := fun k => k = w.heap.size + 1 + 1) (Keeps.refl _ w1) (p := ⟨w.heap.size + 1 + 1, 0, none⟩) (.inl rfl) _).drew
end
end Go.Proofs.Ytdlniopjkioamaa
