/-
  When a recorder is valid; the whole of one read where a test lets it.
-/
import Derived.Test.YtffklmlljekceaaGreatRecBits
import Derived.Test.YtffklmlljekceaaGreatHeld
import Derived.Test.YtffklmlljekceaaGreatAcksOk
import Derived.Test.YtffklmlljekceaaGreatWishes
import Derived.Test.YtffklmlljekceaaGreatDiskOk
import Derived.Test.YtffklmlljekceaaGreatRecIs
import Derived.Test.YtffklmlljekceaaGreatMsgs
namespace Go.Proofs.YtffklmlljekceaaGreat
open Go.ChangeShapes Go.WideShapes Go.ChangeAt Go.RowKit Go.Deep Go.Joins
set_option linter.unusedVariables false
set_option linter.unusedSimpArgs false

/-- the part of it that stands beside what it is doing -/
def roleB (r : Rc) : Bool := if r.lead then leadB r else if r.tr then tryB r else calmB r
def validB (r : Rc) : Bool := (inB r.of_ 1 5 && inB r.num 1 r.of_) && diskOkB r.sp r.sk r.ss && diskOkB r.dp r.dk r.ds && heldOkB r.num r.of_ r.held && wishesOkB r.wish && inB r.heard 0 1000000 && numsOkB r.of_ r.yes && slotsOkB r.best && acksOkB r.of_ r.acks && (!(r.lead && r.tr)) && roleB r && (r.up || downB r)
theorem nv_g0 {r : Rc} (h : (inB r.of_ 1 5 && inB r.num 1 r.of_) = false) : validB r = false := by
  unfold validB
  rw [h]
  simp only [Bool.false_and, Bool.and_false]
theorem nv_g1 {r : Rc} (h : diskOkB r.sp r.sk r.ss = false) : validB r = false := by
  unfold validB
  rw [h]
  simp only [Bool.false_and, Bool.and_false]
theorem nv_g2 {r : Rc} (h : diskOkB r.dp r.dk r.ds = false) : validB r = false := by
  unfold validB
  rw [h]
  simp only [Bool.false_and, Bool.and_false]
theorem nv_g3 {r : Rc} (h : heldOkB r.num r.of_ r.held = false) : validB r = false := by
  unfold validB
  rw [h]
  simp only [Bool.false_and, Bool.and_false]
theorem nv_g4 {r : Rc} (h : wishesOkB r.wish = false) : validB r = false := by
  unfold validB
  rw [h]
  simp only [Bool.false_and, Bool.and_false]
theorem nv_g5 {r : Rc} (h : inB r.heard 0 1000000 = false) : validB r = false := by
  unfold validB
  rw [h]
  simp only [Bool.false_and, Bool.and_false]
theorem nv_g6 {r : Rc} (h : numsOkB r.of_ r.yes = false) : validB r = false := by
  unfold validB
  rw [h]
  simp only [Bool.false_and, Bool.and_false]
theorem nv_g7 {r : Rc} (h : slotsOkB r.best = false) : validB r = false := by
  unfold validB
  rw [h]
  simp only [Bool.false_and, Bool.and_false]
theorem nv_g8 {r : Rc} (h : acksOkB r.of_ r.acks = false) : validB r = false := by
  unfold validB
  rw [h]
  simp only [Bool.false_and, Bool.and_false]
theorem nv_g9 {r : Rc} (h : (!(r.lead && r.tr)) = false) : validB r = false := by
  unfold validB
  rw [h]
  simp only [Bool.false_and, Bool.and_false]
theorem nv_g10 {r : Rc} (h : roleB r = false) : validB r = false := by
  unfold validB
  rw [h]
  simp only [Bool.false_and, Bool.and_false]
theorem valid_last {r : Rc} (hg0 : (inB r.of_ 1 5 && inB r.num 1 r.of_) = true) (hg1 : diskOkB r.sp r.sk r.ss = true) (hg2 : diskOkB r.dp r.dk r.ds = true) (hg3 : heldOkB r.num r.of_ r.held = true) (hg4 : wishesOkB r.wish = true) (hg5 : inB r.heard 0 1000000 = true) (hg6 : numsOkB r.of_ r.yes = true) (hg7 : slotsOkB r.best = true) (hg8 : acksOkB r.of_ r.acks = true) (hg9 : (!(r.lead && r.tr)) = true) (hg10 : roleB r = true) : validB r = (r.up || downB r) := by
  unfold validB
  rw [hg0, hg1, hg2, hg3, hg4, hg5, hg6, hg7, hg8, hg9, hg10]
  simp only [Bool.true_and]
theorem below_eq {w w' : World} (h : w' = w) : Below w.heap.size w w' := h ▸ Below.refl _ _

/-- a recorder out of its block, where a test lets it -/
theorem wpList_load_rec_g {ops : Array Oper} {rest : List Oper} {dst : Option Tmp} {x : Operand} {τ : TypeId} {pos : String} {after : Array Edge} {gd : Option (Nat × Bool)} {a : Act} {w : World} {Q : Exit → Act → World → Prop}
    (g : Nat) (cs : Array Value) (hs : cs.size = 18) (hw : Region.wanted { dst := dst, op := .load 41 x, type := τ, pos := pos, after := after, guard := gd } (yielded ops a.tmps) = true) (hx : a.eval x = .pointer (some ⟨g, 0, none⟩)) (hg : Blk w g cs 41)
    (h : wpList Tryz.prog ops Q rest (a.put dst (.agg cs)) w) :
    wpList Tryz.prog ops Q ({ dst := dst, op := .load 41 x, type := τ, pos := pos, after := after, guard := gd } :: rest) a w :=
  wpList_step fun K hK => by
    rw [if_pos hw]
    exact wp_load_row 41 x rfl g hx 41 cs (0, 0) _ hg Tryz.underlying41 rfl (by rw [hs]; kernel_rfl) (hK _ _ h)
end Go.Proofs.YtffklmlljekceaaGreat
