/-
  What becomes of a recorder by what chapter 3 says; recorders with the same lists.
-/
import Derived.Test.YtffklmlljekceaaGreatHasUpd
namespace Go.Proofs.YtffklmlljekceaaGreat
open Go.ChangeShapes Go.WideShapes Go.ChangeAt Go.RowKit
set_option linter.unusedVariables false
set_option linter.unusedSimpArgs false

def calmR (r : Rc) : Rc := { r with lead := false, tr := false, ball := 0, yes := [], best := [], acks := [] }
def riseR (r : Rc) (b : Int) : Rc := { r with dp := if r.dp < b then b else r.dp }
def hush (r : Rc) : Rc := { r with heard := 0 }
def followR (r : Rc) (b : Int) : Rc := hush (if b = r.ball then riseR r b else calmR (riseR r b))
def holdR (r : Rc) (m : MsgH) (l : List Sl) : Rc := if r.held.length < 400 then { r with held := r.held ++ [({ m with f := r.num }, l)] } else r
def padL (l : List Sl) (n : Nat) : List Sl := l ++ List.replicate (n - l.length) (0, ⟨#[]⟩)
def setL (l : List Sl) (i : Nat) (s : Sl) : List Sl := (padL l i).set (i - 1) s
def setR (r : Rc) (i : Nat) (s : Sl) : Rc := { r with ds := setL r.ds i s }
def addL : List Int → Int → List Int
  | [], n => [n]
  | x :: l, n => if x < n then x :: addL l n else if x = n then x :: l else n :: x :: l
theorem riseR_yes {r : Rc} {b : Int} (h : r.dp < b) : riseR r b = { r with dp := b } := by simp [riseR, h]
theorem riseR_no {r : Rc} {b : Int} (h : ¬ r.dp < b) : riseR r b = r := by simp [riseR, h]
theorem followR_own {r : Rc} {b : Int} (h : b = r.ball) : followR r b = hush (riseR r b) := by simp [followR, h]
theorem followR_new {r : Rc} {b : Int} (h : ¬ b = r.ball) : followR r b = hush (calmR (riseR r b)) := by simp [followR, h]
/-- blocks that are in no list stay as they are, and in none -/
def Others (w : World) (col : Nat → Nat) (w' : World) (col' : Nat → Nat) : Prop := ∀ b, b < w.heap.size → 8 < col b → w'.heap[b]? = w.heap[b]? ∧ 8 < col' b
theorem Others.trans {w w1 w2 : World} {col col1 col2 : Nat → Nat} (h : Others w col w1 col1) (k : Others w1 col1 w2 col2) (hs : w.heap.size ≤ w1.heap.size) : Others w col w2 col2 := fun b hb hc => by
  obtain ⟨h1, h2⟩ := h b hb hc
  obtain ⟨k1, k2⟩ := k b (by omega) h2
  exact ⟨k1.trans h1, k2⟩
theorem Others.of {w w' : World} {col col' : Nat → Nat} (h : Below w.heap.size w w') (hc : ∀ b, b < w.heap.size → col' b = col b) : Others w col w' col' := fun b hb h8 => ⟨h.block b hb, by rw [hc b hb]; exact h8⟩
/-- a recorder of its own memory is answered, its lists from B on -/
def TPost (B : Nat) (w : World) (col : Nat → Nat) (r' : Rc) (e : Ending) (w' : World) : Prop := ∃ p' X' col', e = .returned (.agg (rcV r' p')) ∧ RcHas B w' r' p' X' col' ∧ Below B w w' ∧ Others w col w' col'
theorem RcHas.like {B : Nat} {w : World} {r r' : Rc} {p : RcP} {X : RcX} {col : Nat → Nat} (h : RcHas B w r p X col) (e1 : r'.ss = r.ss) (e2 : r'.ds = r.ds) (e3 : r'.held = r.held) (e4 : r'.wish = r.wish) (e5 : r'.yes = r.yes) (e6 : r'.best = r.best) (e7 : r'.acks = r.acks) : RcHas B w r' p X col := by
  obtain ⟨a1, a2, a3, a4, a5, a6, a7, a8, a9, a10, a11, a12, a13, a14, a15, a16, a17, a18⟩ := r
  obtain ⟨b1, b2, b3, b4, b5, b6, b7, b8, b9, b10, b11, b12, b13, b14, b15, b16, b17, b18⟩ := r'
  dsimp only at e1 e2 e3 e4 e5 e6 e7
  subst e1 e2 e3 e4 e5 e6 e7
  exact ⟨h.s, h.d, h.h, h.hm, h.hi, h.t, h.y, h.b, h.a, h.am, h.ai, ⟨h.gd.s, h.gd.d, h.gd.h, h.gd.t, h.gd.y, h.gd.b, h.gd.a⟩⟩
/-- behind a call that leaves what was there: colours may be new for what is new -/
theorem RcHas.later {B : Nat} {w w' : World} {r : Rc} {p : RcP} {X : RcX} {col col' : Nat → Nat} (h : RcHas B w r p X col) (hb : Below w.heap.size w w') (hc : ∀ b, b < w.heap.size → col' b = col b) : RcHas B w' r p X col' := (h.recol hc).ext hb
/-- a row of no cells in a block of its own -/
theorem rowC_none {B g : Nat} {w : World} {col : Nat → Nat} {t k : Nat} {e : TypeId} (h : Blk w g #[] e) (hB : B ≤ g) (hc : col g = t) : RowC B w col t e k (some ⟨g, 0, none⟩) 0 0 [] :=
  ⟨⟨by simp, .inr ⟨g, 0, #[], rfl, hB, h, Nat.le_refl _, by unfold maxLen; omega, by simp, by simp⟩⟩, fun x hx => by simp only [Option.some.injEq] at hx; rw [← hx]; exact hc⟩
/-- three new lists -/
def col3 (n gY gB : Nat) (col : Nat → Nat) (b : Nat) : Nat := if b < n then col b else if b = gY then 4 else if b = gB then 5 else 6
theorem RcHas.calm {B gY gB gA : Nat} {w w' : World} {r : Rc} {p : RcP} {X : RcX} {col : Nat → Nat} (h : RcHas B w r p X col) (hb : Below w.heap.size w w') (hB : B ≤ w.heap.size) (hY : Blk w' gY #[] 3) (hBb : Blk w' gB #[] 108) (hA : Blk w' gA #[] 105) (l1 : w.heap.size ≤ gY) (l2 : gY < gB) (l3 : gB < gA) :
    RcHas B w' (calmR r) { p with aY := some ⟨gY, 0, none⟩, cY := 0, aB := some ⟨gB, 0, none⟩, cB := 0, aA := some ⟨gA, 0, none⟩, cA := 0 } ⟨X.H, []⟩ (col3 w.heap.size gY gB col) := by
  have h1 := h.later (col' := col3 w.heap.size gY gB col) hb (fun b hlt => if_pos hlt)
  have h2 := h1.set_y (l := []) (rowC_none (k := 1) hY (by omega) (by unfold col3; rw [if_neg (by omega), if_pos rfl])) (fun i s hs => by simp at hs)
  have h3 := h2.set_b (l := []) (rowC_none (k := 2) hBb (by omega) (by unfold col3; rw [if_neg (by omega), if_neg (by omega), if_pos rfl])) (fun i s hs => by simp at hs)
  have h4 := h3.set_a (l := []) (rowC_none (k := 2) hA (by omega) (by unfold col3; rw [if_neg (by omega), if_neg (by omega), if_neg (by omega)])) ⟨fun m hm => absurd hm (by simp), List.Pairwise.nil⟩ (fun i s hs => by simp at hs)
  exact h4.like rfl rfl rfl rfl rfl rfl rfl
end Go.Proofs.YtffklmlljekceaaGreat
