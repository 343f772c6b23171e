/- Lines: what a line of the protocol asks for, as a function on its words. -/
import Derived.Test.YtifbcejekdhnlaaDoorKyMath
import Derived.Test.YtifbcejekdhnlaaDoorNmMath
namespace Go.Proofs.YtifbcejekdhnlaaDoor
set_option linter.unusedVariables false

/-- A command of a line. -/
structure Cmd where
  verb : Nat
  keys : List (List UInt8)
  cverb : Nat
  key : List UInt8
  value : List UInt8
  flags : Int
  exp : Int
  id : Int
  by_ : Int
  bytes : Int
  quiet : Bool
deriving DecidableEq
def Cmd.none : Cmd := ⟨0, [], 0, [], [], 0, 0, 0, 0, 0, false⟩
/-- The form of a verb's lines: its words behind the keys are flags (1), exp (2), bytes (3), id (4), by (5). -/
structure Form where
  verb : Nat
  least : Nat
  most : Nat
  fields : List Nat
  spare : Nat
  quiet : Bool
deriving DecidableEq
def Form.fewest (f : Form) : Nat := f.least + f.fields.length - f.spare
def Form.greatest (f : Form) : Nat := f.most + f.fields.length
def tbF : List (List UInt8 × Form) := [
  ([103, 101, 116], ⟨1, 1, 64, [], 0, false⟩),
  ([103, 101, 116, 115], ⟨2, 1, 64, [], 0, false⟩),
  ([115, 101, 116], ⟨3, 1, 1, [1, 2, 3], 0, true⟩),
  ([97, 100, 100], ⟨4, 1, 1, [1, 2, 3], 0, true⟩),
  ([114, 101, 112, 108, 97, 99, 101], ⟨5, 1, 1, [1, 2, 3], 0, true⟩),
  ([99, 97, 115], ⟨6, 1, 1, [1, 2, 3, 4], 0, true⟩),
  ([100, 101, 108, 101, 116, 101], ⟨7, 1, 1, [], 0, true⟩),
  ([116, 111, 117, 99, 104], ⟨8, 1, 1, [2], 0, true⟩),
  ([105, 110, 99, 114], ⟨9, 1, 1, [5], 0, true⟩),
  ([100, 101, 99, 114], ⟨10, 1, 1, [5], 0, true⟩),
  ([102, 108, 117, 115, 104, 95, 97, 108, 108], ⟨11, 0, 0, [2], 1, true⟩),
  ([118, 101, 114, 115, 105, 111, 110], ⟨12, 0, 0, [], 0, false⟩),
  ([113, 117, 105, 116], ⟨13, 0, 0, [], 0, false⟩)]
def formIn : List (List UInt8 × Form) → List UInt8 → Option Form
  | [], _ => none
  | x :: xs, n => if x.1 = n then some x.2 else formIn xs n
def formOf (n : List UInt8) : Option Form := formIn tbF n
def norep : List UInt8 := [110, 111, 114, 101, 112, 108, 121]
def okF (s : List UInt8) : Bool := decide ((lookF s).1 = 0)
/-- A field's word, read into a command. -/
def readF (f : Nat) (x : List UInt8) (c : Cmd) : Option Cmd :=
  if f = 1 then (if (p32F x).2 = true then some { c with flags := (p32F x).1 } else none)
  else if f = 2 then (if (signedF x).2 = true then some { c with exp := (signedF x).1 } else none)
  else if f = 3 then (if (parseF x).2 = true ∧ (parseF x).1 ≤ 2147483647 then some { c with bytes := (parseF x).1 } else none)
  else if f = 4 then (if (parseF x).2 = true then some { c with id := (parseF x).1 } else none)
  else (if (parseF x).2 = true then some { c with by_ := (parseF x).1 } else none)
def faultF (f : Nat) : Nat := if f = 5 then 4 else 2
/-- All of them, in their order; what is told of the first one that is not what it must be. -/
def readFs : List Nat → List (List UInt8) → Cmd → Cmd × Nat
  | f :: fs, x :: xs, c => match readF f x c with
    | some d => readFs fs xs d
    | none => (Cmd.none, faultF f)
  | _, _, c => if 1024 < c.bytes then (c, 5) else (c, 0)
/-- Is there a last noreply, and may it be? -/
def quietW (f : Form) (ws : List (List UInt8)) : Bool := f.quiet && (decide (f.fewest < ws.length) && decide (ws.getLast? = some norep))
def restW (f : Form) (ws : List (List UInt8)) : List (List UInt8) := if quietW f ws = true then ws.dropLast else ws
def beginW (f : Form) (q : Bool) (ks : List (List UInt8)) : Cmd := ⟨f.verb, ks, f.verb, ks.headD [], [], 0, 0, 0, 0, -1, q⟩
def keyedW (f : Form) (q : Bool) (ws : List (List UInt8)) : Cmd × Nat :=
  if ws.length < f.fewest ∨ f.greatest < ws.length then (Cmd.none, 1)
  else if (ws.take f.most).all okF = true then readFs f.fields (ws.drop f.most) (beginW f q (ws.take f.most))
  else (Cmd.none, 2)
def parseW (f : Form) (ws : List (List UInt8)) : Cmd × Nat := keyedW f (quietW f ws) (restW f ws)
def parseN (l : List (List UInt8)) : Cmd × Nat :=
  match l with
  | [] => (Cmd.none, 1)
  | n :: ws => match formOf n with
    | none => (Cmd.none, 1)
    | some f => parseW f ws
def parseC (line : List UInt8) : Cmd × Nat := if 2048 < line.length then (Cmd.none, 3) else parseN (wordsF line)
theorem ex29a : parseC [115, 101, 116, 32, 97, 32, 53, 32, 48, 32, 51] = (⟨3, [[97]], 3, [97], [], 5, 0, 0, 0, 3, false⟩, 0) := by decide
end Go.Proofs.YtifbcejekdhnlaaDoor
