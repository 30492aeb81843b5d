/-
  The worlds that a law keeps in its own blocks, read.
-/
import Derived.Test.YtgjommccflfjaaaWOpen
import Derived.Test.YtgjommccflfjaaaDrawnRec
namespace Go.Proofs.Ytgjommccflfjaaa
open Go.ChangeShapes Go.WideShapes Go.ChangeAt Go.RowKit
set_option linter.unusedVariables false
set_option linter.unusedSimpArgs false

/-- the law's two worlds lie in their blocks; what was there at B is as it was -/
structure LawW (B : World) (g1 g2 : Nat) (d : Wd) (p q : WdP) (w' : World) : Prop where
  blk : Blk w' g1 (wdV d p) 35
  own : Blk w' g2 (wdV d q) 26
  bel : Below B.heap.size B w'
theorem LawW.ext {B : World} {g1 g2 : Nat} {d : Wd} {p q : WdP} {w' v' : World} (h : LawW B g1 g2 d p q w') (hb : Below w'.heap.size w' v') : LawW B g1 g2 d p q v' := ⟨h.blk.ext hb, h.own.ext hb, ext_trans h.bel hb⟩
theorem LawW.drew {B : World} {g1 g2 : Nat} {d : Wd} {p q : WdP} {w' : World} (h : LawW B g1 g2 d p q w') : LawW B g1 g2 d p q w'.drew := ⟨h.blk, h.own, h.bel.drew⟩
theorem yields_lawW {ops : Array Oper} {o : Oper} {a : Act} {B : World} {g1 g2 : Nat} {d : Wd} {p q : WdP} (hw : Region.wanted o (yielded ops a.tmps) = true) (x : Operand) (ho : o.op = .load 35 x) (hx : a.eval x = .pointer (some ⟨g1, 0, none⟩)) :
    YieldsIf Try.prog ops (LawW B g1 g2 d p q) o (.agg (wdV d p)) a :=
  .inl ⟨hw, fun w hS => by
    unfold execOp
    simp only [ho, hx, Instr.loadAt, Instr.sureAddr, Sem.run_bind, Sem.run_pure, Result.andThen_ok, run_loadVar_row w g1 35 35 (wdV d p) (0, 0) _ hS.blk Try.underlying35 rfl (by kernel_rfl)]⟩
theorem yields_ownW {ops : Array Oper} {o : Oper} {a : Act} {B : World} {g1 g2 : Nat} {d : Wd} {p q : WdP} (hw : Region.wanted o (yielded ops a.tmps) = true) (x : Operand) (ho : o.op = .load 26 x) (hx : a.eval x = .pointer (some ⟨g2, 0, none⟩)) :
    YieldsIf Try.prog ops (LawW B g1 g2 d p q) o (.agg (wdV d q)) a :=
  .inl ⟨hw, fun w hS => by
    unfold execOp
    simp only [ho, hx, Instr.loadAt, Instr.sureAddr, Sem.run_bind, Sem.run_pure, Result.andThen_ok, run_loadVar_row w g2 26 26 (wdV d q) (0, 0) _ hS.own Try.underlying26 rfl (by kernel_rfl)]⟩
end Go.Proofs.Ytgjommccflfjaaa
