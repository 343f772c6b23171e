/- Lines: the words of each verb, and what is told of them (mathematics). -/
import Derived.Test.YtifbcejekdhnlaaDoorLnMath
import Derived.Test.YtifbcejekdhnlaaDoorKyJn
import Derived.Test.YtifbcejekdhnlaaDoorShelf
namespace Go.Proofs.YtifbcejekdhnlaaDoor
set_option linter.unusedVariables false

def keyL : List UInt8 := [107, 101, 121]
def onesL (n : Nat) : List UInt8 := List.replicate (1 + n) 49
def nameL (v : Nat) : List UInt8 := (tbF.getD v ([], ⟨0, 0, 0, [], 0, false⟩)).1
def tailL (v : Nat) (a b c d : List UInt8) : List (List UInt8) :=
  match v with
  | 0 => [keyL]
  | 1 => [keyL, [111, 116, 104, 101, 114]]
  | 2 => [keyL, a, b, c]
  | 3 => [keyL, a, b, c]
  | 4 => [keyL, a, b, c]
  | 5 => [keyL, a, b, c, d]
  | 6 => [keyL]
  | 7 => [keyL, b]
  | 8 => [keyL, d]
  | 9 => [keyL, d]
  | 10 => [b]
  | _ => []
def wordsL (v : Nat) (a b c d : List UInt8) : List (List UInt8) := nameL v :: tailL v a b c d
def moreW : List UInt8 := [109, 111, 114, 101]
/-- Has the same call. -/
def callEq (c d : Cmd) : Bool := decide (c.cverb = d.cverb) && decide (c.key = d.key) && decide (c.value = d.value) && decide (c.flags = d.flags) && decide (c.exp = d.exp) && decide (c.id = d.id) && decide (c.by_ = d.by_)
/-- What the law asks of a verb's words. -/
def chkW (v : Nat) (l : List (List UInt8)) : Bool :=
  let c := parseN l
  let m := parseN (l ++ [moreW])
  let s := parseN l.dropLast
  let u := parseN (l ++ [norep])
  decide (c.2 = 0) && !c.1.quiet &&
  (if v ≤ 1 then decide (m.2 = 0) && (decide (u.2 = 0) && (!u.1.quiet && (decide (u.1.keys.length = l.length) && decide (decide (s.2 = 0) = decide (l.length = 3)))))
   else if v = 10 then decide (m.2 = 1) && (decide (s.2 = 0) && (decide (u.2 = 0) && (u.1.quiet && callEq u.1 c.1)))
   else if 11 ≤ v then decide (m.2 = 1) && (decide (s.2 = 1) && decide (u.2 = 1))
   else decide (m.2 = 1) && (decide (s.2 = 1) && (decide (u.2 = 0) && (u.1.quiet && (callEq u.1 c.1 && decide (u.1.bytes = c.1.bytes))))))
def goodL (l : List (List UInt8)) : Bool := decide (l.length ≤ 8) && l.all (fun x => decide (x ≠ []) && x.all (fun c => decide (c ≠ 32)) && decide (x.length ≤ 20))
theorem chk_all : ∀ (v : Fin 13) (a b c d : Fin 3), chkW v (wordsL v (onesL a) (onesL b) (onesL c) (onesL d)) = true := by decide +kernel
theorem good_all : ∀ (v : Fin 13) (a b c d : Fin 3), goodL (wordsL v (onesL a) (onesL b) (onesL c) (onesL d)) = true := by decide +kernel
/-- A name with a letter of it in another case. -/
def oddL (n : List UInt8) (i : Nat) : List UInt8 := n.take i ++ Lib.toUpperA ((n.drop i).take 1) ++ n.drop (i + 1)
theorem odd_all : ∀ (v : Fin 13) (i : Fin 9), i.val < (nameL v).length → (nameL v)[i.val]? ≠ some 95 → formOf (oddL (nameL v) i) = none := by decide +kernel
theorem more_all : ∀ (v : Fin 13), formOf (nameL v ++ [120]) = none := by decide +kernel
theorem name_len : ∀ (v : Fin 13), 0 < (nameL v).length ∧ (nameL v).length ≤ 9 ∧ ∀ x ∈ nameL v, x.toNat < 128 := by decide +kernel
theorem odd_good : ∀ (v : Fin 13) (i : Fin 9), i.val < (nameL v).length → (oddL (nameL v) i).all (fun c => decide (c ≠ 32)) = true ∧ (oddL (nameL v) i).length = (nameL v).length := by decide +kernel
end Go.Proofs.YtifbcejekdhnlaaDoor
