/-
  Nothing, and an answer that is a recorder of its own memory.
-/
import Derived.Test.YtafolmhpdgpmaaaCopyRec
namespace Go.Proofs.Ytafolmhpdgpmaaa
open Go.ChangeShapes Go.WideShapes Go.ChangeAt Go.RowKit
set_option linter.unusedVariables false
set_option linter.unusedSimpArgs false

/-- nothing -/
def rc0 : Rc := ⟨0, 0, false, 0, 0, [], 0, 0, [], [], [], false, false, 0, [], [], [], 0⟩
def rp0 : RcP := ⟨none, 0, none, 0, none, 0, none, 0, none, 0, none, 0, none, 0⟩
theorem rc0_cells : rcV rc0 rp0 = #[.int .i64 0, .int .i64 0, .bool false, .int .i64 0, .int .i64 0, .slice none 0 0, .int .i64 0, .int .i64 0, .slice none 0 0, .slice none 0 0, .slice none 0 0, .bool false, .bool false, .int .i64 0, .slice none 0 0, .slice none 0 0, .slice none 0 0, .int .i64 0] := rfl
theorem rowC_nil0 (B : Nat) (w : World) (col : Nat → Nat) (t : Nat) (e : TypeId) (k : Nat) : RowC B w col t e k none 0 0 [] := ⟨World.ownsRow_nil _ _ _ _, fun x hx => by simp at hx⟩
theorem rc0_has (B : Nat) (w : World) (col : Nat → Nat) : RcHas B w rc0 rp0 ⟨[], []⟩ col :=
  ⟨rowC_nil0 _ _ _ _ _ _, rowC_nil0 _ _ _ _ _ _, rowC_nil0 _ _ _ _ _ _, rfl, ⟨fun m hm => absurd hm (by simp), List.Pairwise.nil⟩, rowC_nil0 _ _ _ _ _ _, rowC_nil0 _ _ _ _ _ _, rowC_nil0 _ _ _ _ _ _, rowC_nil0 _ _ _ _ _ _, rfl, ⟨fun m hm => absurd hm (by simp), List.Pairwise.nil⟩,
    ⟨fun i s hs => by simp [rc0] at hs, fun i s hs => by simp [rc0] at hs, fun i s hs => by simp [rc0] at hs, fun i s hs => by simp [rc0] at hs, fun i s hs => by simp [rc0] at hs, fun i s hs => by simp [rc0] at hs, fun i s hs => by simp [rc0] at hs⟩⟩
/-- a recorder of its own memory is answered -/
def APost (w : World) (r' : Rc) (e : Ending) (w' : World) : Prop := ∃ p' X' col', e = .returned (.agg (rcV r' p')) ∧ RcHas w.heap.size w' r' p' X' col' ∧ Below w.heap.size w w'
theorem RcHas.far {B : Nat} {w : World} {r : Rc} {p : RcP} {X : RcX} {col : Nat → Nat} (h : RcHas B w r p X col) {g : Nat} (hg : g < B) (cs : Array Value) : RcHas B (w.setRow g cs) r p X col :=
  h.same fun b hb _ _ => setRow_other w g b cs (by omega)
theorem RcHas.lower {B B' : Nat} {w : World} {r : Rc} {p : RcP} {X : RcX} {col : Nat → Nat} (h : RcHas B w r p X col) (hB : B' ≤ B) : RcHas B' w r p X col :=
  ⟨h.s.low hB, h.d.low hB, h.h.low hB, h.hm, ⟨fun m hm => (h.hi.row m hm).low hB, h.hi.apart⟩, h.t.low hB, h.y.low hB, h.b.low hB, h.a.low hB, h.am, ⟨fun m hm => (h.ai.row m hm).low hB, h.ai.apart⟩, h.gd⟩
end Go.Proofs.Ytafolmhpdgpmaaa
