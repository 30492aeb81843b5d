/-
  The recorders that a law keeps in its own blocks, read.
-/
import Derived.Test.YtfgpndfopgnmgaaDrawnRec
namespace Go.Proofs.Ytfgpndfopgnmgaa
open Go.ChangeShapes Go.WideShapes Go.ChangeAt Go.RowKit
set_option linter.unusedVariables false
set_option linter.unusedSimpArgs false

/-- a laws.Recorder out of its block -/
theorem wpList_load_lrec {ops : Array Oper} {rest : List Oper} {dst : Option Tmp} {x : Operand} {τ : TypeId} {pos : String} {after : Array Edge} {a : Act} {w : World} {Q : Exit → Act → World → Prop}
    (g : Nat) (cs : Array Value) (hs : cs.size = 18) (hx : a.eval x = .pointer (some ⟨g, 0, none⟩)) (hg : Blk w g cs 52)
    (h : wpList Try.prog ops Q rest (a.put dst (.agg cs)) w) :
    wpList Try.prog ops Q ({ dst := dst, op := .load 52 x, type := τ, pos := pos, after := after, guard := none } :: rest) a w :=
  wpList_load_blk g cs _ hx hg Try.underlying52 rfl (by rw [hs]; kernel_rfl) h
/-- the law's two recorders lie in their blocks; what was there at B is as it was -/
structure LawS (B : World) (g1 g2 : Nat) (r : Rc) (p q : RcP) (w' : World) : Prop where
  blk : Blk w' g1 (rcV r p) 52
  own : Blk w' g2 (rcV r q) 57
  bel : Below B.heap.size B w'
theorem LawS.ext {B : World} {g1 g2 : Nat} {r : Rc} {p q : RcP} {w' v' : World} (h : LawS B g1 g2 r p q w') (hb : Below w'.heap.size w' v') : LawS B g1 g2 r p q v' := ⟨h.blk.ext hb, h.own.ext hb, ext_trans h.bel hb⟩
theorem LawS.drew {B : World} {g1 g2 : Nat} {r : Rc} {p q : RcP} {w' : World} (h : LawS B g1 g2 r p q w') : LawS B g1 g2 r p q w'.drew := ⟨h.blk, h.own, h.bel.drew⟩
theorem yields_law {ops : Array Oper} {o : Oper} {a : Act} {B : World} {g1 g2 : Nat} {r : Rc} {p q : RcP} (hw : Region.wanted o (yielded ops a.tmps) = true) (x : Operand) (ho : o.op = .load 52 x) (hx : a.eval x = .pointer (some ⟨g1, 0, none⟩)) :
    YieldsIf Try.prog ops (LawS B g1 g2 r p q) o (.agg (rcV r p)) a :=
  .inl ⟨hw, fun w hS => by
    unfold execOp
    simp only [ho, hx, Instr.loadAt, Instr.sureAddr, Sem.run_bind, Sem.run_pure, Result.andThen_ok, run_loadVar_row w g1 52 52 (rcV r p) (0, 0) _ hS.blk Try.underlying52 rfl (by kernel_rfl)]⟩
theorem yields_own {ops : Array Oper} {o : Oper} {a : Act} {B : World} {g1 g2 : Nat} {r : Rc} {p q : RcP} (hw : Region.wanted o (yielded ops a.tmps) = true) (x : Operand) (ho : o.op = .load 57 x) (hx : a.eval x = .pointer (some ⟨g2, 0, none⟩)) :
    YieldsIf Try.prog ops (LawS B g1 g2 r p q) o (.agg (rcV r q)) a :=
  .inl ⟨hw, fun w hS => by
    unfold execOp
    simp only [ho, hx, Instr.loadAt, Instr.sureAddr, Sem.run_bind, Sem.run_pure, Result.andThen_ok, run_loadVar_row w g2 57 57 (rcV r q) (0, 0) _ hS.own Try.underlying57 rfl (by kernel_rfl)]⟩
end Go.Proofs.Ytfgpndfopgnmgaa
