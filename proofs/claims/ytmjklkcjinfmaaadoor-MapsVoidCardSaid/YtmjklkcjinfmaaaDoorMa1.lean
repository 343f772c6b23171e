/- Maps: what a call gives, by what is there. -/
import Derived.Test.YtmjklkcjinfmaaaDoorMaL
import Derived.Test.YtmjklkcjinfmaaaDoorMb
namespace Go.Proofs.YtmjklkcjinfmaaaDoor
open Go.RowKit
set_option linter.unusedVariables false
set_option linter.unusedSimpArgs false

/-- A call, in an epoch, and what is there. -/
structure Ask where
  c : Cal
  w : Int
  was : Itm
  is : Bool
  there : Bool
  ids : Int
/-- What it gives. -/
structure Giv where
  a : Ans
  r : Itm
  is : Bool
  st : Bool
  e : Int
  i : Int
def calC (c : Cal) : List Value := [.int .u8 c.verb, .string c.key, .string c.val, .int .u32 c.fl, .int .i64 c.exp, .int .u64 c.id, .int .u64 c.by_]
def itC (x : Itm) : List Value := [.string x.k, .string x.v, .int .u32 x.fl, .int .u64 x.id, .int .i64 x.dies, .int .i64 x.gen]
def ansC (a : Ans) : List Value := [.int .u8 a.kind, .int .u64 a.num, .string a.item.k, .string a.item.v, .int .u32 a.item.fl, .int .u64 a.item.id, .int .i64 a.item.dies, .int .i64 a.item.gen]
def askC (x : Ask) : List Value := [.int .u8 x.c.verb, .string x.c.key, .string x.c.val, .int .u32 x.c.fl, .int .i64 x.c.exp, .int .u64 x.c.id, .int .u64 x.c.by_, .int .u64 x.w, .string x.was.k, .string x.was.v, .int .u32 x.was.fl, .int .u64 x.was.id, .int .i64 x.was.dies, .int .i64 x.was.gen, .bool x.is, .bool x.there, .int .u64 x.ids]
def givC (g : Giv) : List Value := [.int .u8 g.a.kind, .int .u64 g.a.num, .string g.a.item.k, .string g.a.item.v, .int .u32 g.a.item.fl, .int .u64 g.a.item.id, .int .i64 g.a.item.dies, .int .i64 g.a.item.gen, .string g.r.k, .string g.r.v, .int .u32 g.r.fl, .int .u64 g.r.id, .int .i64 g.r.dies, .int .i64 g.r.gen, .bool g.is, .bool g.st, .int .u64 g.e, .int .u64 g.i]
def Ask.stay (x : Ask) (k : Int) : Giv := ⟨Ans.of k, x.was, x.is, false, x.w, x.ids⟩
def Ask.store (x : Ask) : Giv := ⟨⟨1, u64 (x.ids + 1), Itm.none⟩, ⟨x.c.key, x.c.val, x.c.fl, u64 (x.ids + 1), diesf x.w x.c.exp, genf x.w⟩, true, true, x.w, u64 (x.ids + 1)⟩
structure AskOk (x : Ask) : Prop where
  c : CalOk x.c
  w : 0 ≤ x.w ∧ x.w < 18446744073709551616
  was : ItOk x.was
  ids : 0 ≤ x.ids ∧ x.ids < 18446744073709551616
theorem info_giv : (Tryd.prog.info? 83).map (·.size) = some 18 := by kernel_rfl
theorem info_ask : (Tryd.prog.info? 110).map (·.size) = some 17 := by kernel_rfl
theorem info_it : (Tryd.prog.info? 38).map (·.size) = some 6 := by kernel_rfl
theorem givC_one (g : Giv) : (givC g).toArray.all (·.oneCell') = true := by simp [givC, askC, itC, Value.oneCell']
theorem askC_one (x : Ask) : (askC x).toArray.all (·.oneCell') = true := by simp [givC, askC, itC, Value.oneCell']
theorem itC_one (x : Itm) : (itC x).toArray.all (·.oneCell') = true := by simp [givC, askC, itC, Value.oneCell']
def Giv.none : Giv := ⟨Ans.none, Itm.none, false, false, 0, 0⟩
theorem ask_cells {w : World} {q : Nat} {x : Ask} (h : Bk w q (askC x)) : w.cell? ⟨q, 0, none⟩ = some (.int .u8 x.c.verb) ∧ w.cell? ⟨q, 1, none⟩ = some (.string x.c.key) ∧ w.cell? ⟨q, 2, none⟩ = some (.string x.c.val) ∧ w.cell? ⟨q, 3, none⟩ = some (.int .u32 x.c.fl) ∧ w.cell? ⟨q, 4, none⟩ = some (.int .i64 x.c.exp) ∧ w.cell? ⟨q, 5, none⟩ = some (.int .u64 x.c.id) ∧ w.cell? ⟨q, 6, none⟩ = some (.int .u64 x.c.by_) ∧ w.cell? ⟨q, 7, none⟩ = some (.int .u64 x.w) ∧ w.cell? ⟨q, 9, none⟩ = some (.string x.was.v) ∧ w.cell? ⟨q, 11, none⟩ = some (.int .u64 x.was.id) ∧ w.cell? ⟨q, 14, none⟩ = some (.bool x.is) ∧ w.cell? ⟨q, 15, none⟩ = some (.bool x.there) ∧ w.cell? ⟨q, 16, none⟩ = some (.int .u64 x.ids) :=
  ⟨h.at_ 0 _ rfl, h.at_ 1 _ rfl, h.at_ 2 _ rfl, h.at_ 3 _ rfl, h.at_ 4 _ rfl, h.at_ 5 _ rfl, h.at_ 6 _ rfl, h.at_ 7 _ rfl, h.at_ 9 _ rfl, h.at_ 11 _ rfl, h.at_ 14 _ rfl, h.at_ 15 _ rfl, h.at_ 16 _ rfl⟩
theorem ask_new (w : World) (x : Ask) (T : TypeId) : Bk (w.alloc (.cells (askC x).toArray T)) w.heap.size (askC x) := bk_new (by simp)
def zgiv : Obj := .cells #[.int .u8 0, .int .u64 0, .string ⟨#[]⟩, .string ⟨#[]⟩, .int .u32 0, .int .u64 0, .int .i64 0, .int .i64 0, .string ⟨#[]⟩, .string ⟨#[]⟩, .int .u32 0, .int .u64 0, .int .i64 0, .int .i64 0, .bool false, .bool false, .int .u64 0, .int .u64 0] 83
theorem giv_new (w : World) : Bk (w.alloc zgiv) w.heap.size (givC Giv.none) := bk_new rfl
theorem ret_giv {fn : Func} {p : Tmp} (h : fn.results = #[.cell p 83]) (tmps : Array Value) {w : World} {q : Nat} {g : Giv} (hC : Bk w q (givC g)) (hp : tmps.getD p undef = .pointer (some ⟨q, 0, none⟩)) : (results fn tmps).run Tryd.prog w = .ok (.agg (givC g).toArray) w :=
  results_bk h tmps hC hp _ Tryd.underlying83 rfl info_giv
section
variable {ops : Array Oper} {rest : List Oper} {op : Oper} {a : Act} {w : World} {Q : Exit → Act → World → Prop}
/-- What is given, stored. -/
theorem wpList_giv (hgd : op.guard = none) (x y : Operand) (ho : op.op = .store 83 x y) (q : Nat) (g g' : Giv) (h : Bk w q (givC g)) (hx : a.eval x = .pointer (some ⟨q, 0, none⟩)) (hy : a.eval y = .agg (givC g').toArray)
    (hK : ∀ W, Bk W q (givC g') → Keeps (fun k => k = q) w W → wpList Tryd.prog ops Q rest (a.put op.dst undef) W) : wpList Tryd.prog ops Q (op :: rest) a w :=
  wpList_store_bk hgd 83 x y ho q 0 (givC g) (givC g') (givC g') h (Nat.le_refl 18) rfl info_giv (givC_one _) hx hy hK
/-- What is given, read. -/
theorem wpList_givl (hgd : op.guard = none) (x : Operand) (ho : op.op = .load 83 x) (q : Nat) (g : Giv) (h : Bk w q (givC g)) (hx : a.eval x = .pointer (some ⟨q, 0, none⟩))
    (hK : wpList Tryd.prog ops Q rest (a.put op.dst (.agg (givC g).toArray)) w) : wpList Tryd.prog ops Q (op :: rest) a w :=
  wpList_load_bk hgd 83 x ho q 0 (givC g) (givC g) h rfl _ Tryd.underlying83 rfl info_giv hx hK
/-- What is asked, read. -/
theorem wpList_ask (hgd : op.guard = none) (x : Operand) (ho : op.op = .load 110 x) (q : Nat) (y : Ask) (h : Bk w q (askC y)) (hx : a.eval x = .pointer (some ⟨q, 0, none⟩))
    (hK : wpList Tryd.prog ops Q rest (a.put op.dst (.agg (askC y).toArray)) w) : wpList Tryd.prog ops Q (op :: rest) a w :=
  wpList_load_bk hgd 110 x ho q 0 (askC y) (askC y) h rfl _ Tryd.underlying110 rfl info_ask hx hK
/-- The record that was there, read. -/
theorem wpList_was (hgd : op.guard = none) (x : Operand) (ho : op.op = .load 38 x) (q : Nat) (y : Ask) (h : Bk w q (askC y)) (hx : a.eval x = .pointer (some ⟨q, 8, none⟩))
    (hK : wpList Tryd.prog ops Q rest (a.put op.dst (.agg #[.string y.was.k, .string y.was.v, .int .u32 y.was.fl, .int .u64 y.was.id, .int .i64 y.was.dies, .int .i64 y.was.gen])) w) : wpList Tryd.prog ops Q (op :: rest) a w :=
  wpList_load_bk hgd 38 x ho q 8 (askC y) (itC y.was) h rfl _ Tryd.underlying38 rfl info_it hx hK
/-- One cell of what is given, stored. -/
theorem wpList_gset (hgd : op.guard = none) (ty : TypeId) (x y : Operand) (ho : op.op = .store ty x y) (hi : (Tryd.prog.info? ty).map (·.size) = some 1) (q o : Nat) (g : Giv) (u : Value) (g' : Giv) (h : Bk w q (givC g)) (hn : o < 18) (hC : givC g' = (givC g).set o u) (h1 : u.oneCell' = true) (hx : a.eval x = .pointer (some ⟨q, o, none⟩)) (hy : a.eval y = u)
    (hK : ∀ W, Bk W q (givC g') → Keeps (fun k => k = q) w W → wpList Tryd.prog ops Q rest (a.put op.dst undef) W) : wpList Tryd.prog ops Q (op :: rest) a w :=
  wpList_set_bk hgd ty x y ho q o (givC g) u (givC g') h hn hC hi h1 hx hy hK
/-- A record in what is given, stored: at 2 the answer's, at 8 the own one. -/
theorem wpList_grec (hgd : op.guard = none) (x y : Operand) (ho : op.op = .store 38 x y) (q o : Nat) (g : Giv) (r : Itm) (g' : Giv) (h : Bk w q (givC g)) (hn : o + 6 ≤ 18) (hC : givC g' = (givC g).take o ++ (itC r ++ (givC g).drop (o + 6))) (hx : a.eval x = .pointer (some ⟨q, o, none⟩)) (hy : a.eval y = .agg (itC r).toArray)
    (hK : ∀ W, Bk W q (givC g') → Keeps (fun k => k = q) w W → wpList Tryd.prog ops Q rest (a.put op.dst undef) W) : wpList Tryd.prog ops Q (op :: rest) a w :=
  wpList_store_bk hgd 38 x y ho q o (givC g) (itC r) (givC g') h hn hC info_it (itC_one _) hx hy hK
end
theorem alloc_giv (w : World) : (Instr.alloc 83 true (.tuple #[])).run Tryd.prog w = .ok (.pointer (some ⟨w.heap.size, 0, none⟩)) (w.alloc (.cells (givC Giv.none).toArray 83)) := by kernel_rfl
end Go.Proofs.YtmjklkcjinfmaaaDoor
