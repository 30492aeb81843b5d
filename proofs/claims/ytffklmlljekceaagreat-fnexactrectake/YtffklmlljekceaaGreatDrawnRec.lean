/-
  A drawn region over a recorder in its block: laws.
-/
import Derived.Test.YtffklmlljekceaaGreatValidB
import Derived.Deep.RegionHeld3
namespace Go.Proofs.YtffklmlljekceaaGreat
open Go.ChangeShapes Go.WideShapes Go.ChangeAt Go.RowKit Go.Deep Go.Joins
set_option linter.unusedVariables false
set_option linter.unusedSimpArgs false

theorem within_b (a b c : Int) (w : World) : Calls Tryz.prog 89 #[.int .i64 a, .int .i64 b, .int .i64 c] w fun e w' => e = .returned (.bool (inB a b c)) ∧ Below w.heap.size w w' :=
  (within_any a b c w).mono fun e w' ⟨h1, h2⟩ => ⟨h1, below_eq h2⟩
theorem recorderIs_b (n o : Int) (w : World) : Calls Tryz.prog 85 #[.int .i64 n, .int .i64 o] w fun e w' => e = .returned (.bool (inB o 1 5 && inB n 1 o)) ∧ Below w.heap.size w w' :=
  (atNil.recorderIs_any n o w).mono fun e w' ⟨h1, h2⟩ => ⟨h1, below_eq h2⟩
theorem implNumbers_b (a : Option Addr) (l : List Int) (n cap : Nat) (of_ : Int) (w : World) (hn : l.length = n) (hc : n ≤ maxLen) (hof : of_ ≤ 1000000) (h : IntsAt w a l) :
    Calls Tryz.prog 90 #[.slice a n cap, .int .i64 of_] w fun e w' => e = .returned (.bool (numsOkB of_ l)) ∧ Below w.heap.size w w' :=
  (implNumbers a l n cap of_ w hn hc hof h).mono fun e w' ⟨h1, h2⟩ => ⟨h1, below_eq h2⟩

/-- the element at a place of a list that is written out -/
def nth : List Oper → Nat → Option Oper
  | [], _ => none
  | a :: _, 0 => some a
  | _ :: l, n + 1 => nth l n
theorem nth_eq : ∀ (l : List Oper) (i : Nat), nth l i = l[i]?
  | [], _ => by simp [nth]
  | a :: l, 0 => by simp [nth]
  | a :: l, n + 1 => by simp [nth, nth_eq l n]
theorem at_lit {l : List Oper} {i : Nat} {o : Oper} (h : nth l i = some o) : l.toArray[i]? = some o := by rw [List.getElem?_toArray, ← nth_eq, h]

/-- the recorder r lies in the block g; what was there at B is as it was -/
structure RecS (B : World) (g : Nat) (r : Rc) (p : RcP) (w' : World) : Prop where
  blk : Blk w' g (rcV r p) 41
  bel : Below B.heap.size B w'
theorem RecS.ext {B : World} {g : Nat} {r : Rc} {p : RcP} {w' v' : World} (h : RecS B g r p w') (hb : Below w'.heap.size w' v') : RecS B g r p v' := ⟨h.blk.ext hb, ext_trans h.bel hb⟩
theorem RecS.drew {B : World} {g : Nat} {r : Rc} {p : RcP} {w' : World} (h : RecS B g r p w') : RecS B g r p w'.drew := ⟨h.blk, h.bel.drew⟩
/-- the whole recorder is read -/
theorem yields_rec {ops : Array Oper} {o : Oper} {a : Act} {B : World} {g : Nat} {r : Rc} {p : RcP} (hw : Region.wanted o (yielded ops a.tmps) = true) (x : Operand) (ho : o.op = .load 41 x) (hx : a.eval x = .pointer (some ⟨g, 0, none⟩)) :
    YieldsIf Tryz.prog ops (RecS B g r p) o (.agg (rcV r p)) a :=
  .inl ⟨hw, fun w hS => by
    unfold execOp
    simp only [ho, hx, Instr.loadAt, Instr.sureAddr, Sem.run_bind, Sem.run_pure, Result.andThen_ok, run_loadVar_row w g 41 41 (rcV r p) (0, 0) _ hS.blk Tryz.underlying41 rfl (by kernel_rfl)]⟩
end Go.Proofs.YtffklmlljekceaaGreat
