/-
  A recorder whose lists lie in blocks of their own may be marked.
-/
import Derived.Test.YtffklmlljekceaaGreatToRecOwn
import Derived.Test.YtffklmlljekceaaGreatMarkRec
namespace Go.Proofs.YtffklmlljekceaaGreat
open Go.ChangeShapes Go.WideShapes Go.ChangeAt Go.RowKit
set_option linter.unusedVariables false
set_option linter.unusedSimpArgs false

theorem room_blk {w : World} {g : Nat} {C : Array Value} {t : TypeId} (h : Blk w g C t) {m : Nat} (hm : m ≤ C.size) : Room w (some ⟨g, 0, none⟩) m := fun j hj => by
  refine ⟨g, 0, rfl, h.lt, ?_, by rw [Nat.zero_add]; exact h.free j⟩
  rw [Nat.zero_add, h.cell, Array.getElem?_eq_getElem (by omega)]
  rfl
theorem SlotsOwn.room {w : World} {g : Nat} {l : List Sl} (h : SlotsOwn w g l) : Room w (some ⟨g, 0, none⟩) (l.length * 2) := by
  obtain ⟨C, hb, hz, _⟩ := h
  exact room_blk hb (by omega)
theorem OnesOwn.room {α : Type} {enc : α → Value} {e : TypeId} {w : World} {g : Nat} {l : List α} (h : OnesOwn enc e w g l) : Room w (some ⟨g, 0, none⟩) l.length := by
  obtain ⟨C, hb, hz, _⟩ := h
  exact room_blk hb (by omega)
theorem adr_ne_block {b o i b' o' j : Nat} (h : b ≠ b') : adr (some ⟨b, o, none⟩) i ≠ adr (some ⟨b', o', none⟩) j := fun e => by
  rw [adr_some, adr_some] at e
  simp only [Addr.mk.injEq] at e
  exact h e.1
/-- the lengths of inner lists -/
def lenM (l : List Ms) (i : Nat) : Nat := match l[i]? with | some s => s.2.length | none => 0
def lenA (l : List Ak) (i : Nat) : Nat := match l[i]? with | some s => s.2.length | none => 0
theorem MsgsOwnB.lay {B : Nat} {w : World} {g : Nat} {l : List Ms} (h : MsgsOwnB B w g l) : ∃ G : Nat → Nat, LayM w (some ⟨g, 0, none⟩) (fun i => some ⟨G i, 0, none⟩) (lenM l) (lenM l) l.length ∧ ∀ i, i < l.length → g < G i ∧ G i < B := by
  obtain ⟨C, G, hb, ⟨hz, hc⟩, hB⟩ := h
  have each : ∀ i (hi : i < l.length), C[i * 8 + 7]? = some (.slice (some ⟨G i, 0, none⟩) (lenM l i) (lenM l i)) ∧ Room w (some ⟨G i, 0, none⟩) (lenM l i * 2) ∧ g < G i ∧ ∀ j, j < i → G j < G i := fun i hi => by
    have hs : l[i]? = some l[i] := List.getElem?_eq_getElem hi
    obtain ⟨c0, c1, c2, c3, c4, c5, c6, c7, q1, q2, q3⟩ := hc i _ hi hs
    have e : lenM l i = (l[i]).2.length := by simp [lenM, hs]
    rw [e]
    exact ⟨c7, q1.room, q2, q3⟩
  refine ⟨G, ⟨room_blk hb (by omega), fun i hi => ?_, fun i hi => (each i hi).2.1, fun i j q hi hj hq => adr_ne_block (by have := (each i hi).2.2.1; omega), fun i i' j j' hi hi' hne hj hj' => adr_ne_block ?_⟩, fun i hi => ⟨(each i hi).2.2.1, hB i hi⟩⟩
  · rw [adr_some, Nat.zero_add, hb.cell]
    exact (each i hi).1
  · rcases Nat.lt_or_gt_of_ne hne with h9 | h9
    · have := (each i' hi').2.2.2 i h9; omega
    · have := (each i hi).2.2.2 i' h9; omega
theorem AcksOwn.lay {w : World} {g : Nat} {l : List Ak} (h : AcksOwn w g l) : ∃ G : Nat → Nat, LayA w (some ⟨g, 0, none⟩) (fun i => some ⟨G i, 0, none⟩) (lenA l) (lenA l) l.length ∧ ∀ i, i < l.length → g < G i := by
  obtain ⟨C, G, hb, hz, hc⟩ := h
  have each : ∀ i (hi : i < l.length), C[i * 2 + 1]? = some (.slice (some ⟨G i, 0, none⟩) (lenA l i) (lenA l i)) ∧ Room w (some ⟨G i, 0, none⟩) (lenA l i) ∧ g < G i ∧ ∀ j, j < i → G j < G i := fun i hi => by
    have hs : l[i]? = some l[i] := List.getElem?_eq_getElem hi
    obtain ⟨c0, c1, q1, q2, q3⟩ := hc i _ hi hs
    have e : lenA l i = (l[i]).2.length := by simp [lenA, hs]
    rw [e]
    exact ⟨c1, q1.room, q2, q3⟩
  refine ⟨G, ⟨room_blk hb (by omega), fun i hi => ?_, fun i hi => (each i hi).2.1, fun i j q hi hj hq => adr_ne_block (by have := (each i hi).2.2.1; omega), fun i i' j j' hi hi' hne hj hj' => adr_ne_block ?_⟩, fun i hi => (each i hi).2.2.1⟩
  · rw [adr_some, Nat.zero_add, hb.cell]
    exact (each i hi).1
  · rcases Nat.lt_or_gt_of_ne hne with h9 | h9
    · have := (each i' hi').2.2.2 i h9; omega
    · have := (each i hi).2.2.2 i' h9; omega

theorem zR_block {g m : Nat} {x : Addr} (h : zR (some ⟨g, 0, none⟩) m x) : x.block = g := by
  obtain ⟨j, _, rfl⟩ := h
  rfl
theorem RcOwn.lay {w : World} {r : Rc} {p : RcP} (h : RcOwn w r p) : ∃ AH AA, RcLay w r p AH (lenM r.held) (lenM r.held) AA (lenA r.acks) (lenA r.acks) ∧
    ∃ g, p.aS = some ⟨g, 0, none⟩ ∧ ∀ i x, zone r p AH (lenM r.held) AA (lenA r.acks) i x → g ≤ x.block := by
  obtain ⟨gS, gD, gH, BH, gW, gY, gB, gA, rfl, ⟨l1, l2, l3, l4, l5, l6, l7⟩, oS, oD, oH, oW, oY, oB, oA⟩ := h
  obtain ⟨GH, yH, bH⟩ := oH.lay
  obtain ⟨GA, yA, bA⟩ := oA.lay
  have zz : ∀ i x, zone r ⟨some ⟨gS, 0, none⟩, r.ss.length, some ⟨gD, 0, none⟩, r.ds.length, some ⟨gH, 0, none⟩, r.held.length, some ⟨gW, 0, none⟩, r.wish.length, some ⟨gY, 0, none⟩, r.yes.length, some ⟨gB, 0, none⟩, r.best.length, some ⟨gA, 0, none⟩, r.acks.length⟩ (fun i => some ⟨GH i, 0, none⟩) (lenM r.held) (fun i => some ⟨GA i, 0, none⟩) (lenA r.acks) i x →
      (i = 0 ∧ x.block = gS) ∨ (i = 1 ∧ x.block = gD) ∨ (i = 2 ∧ gH ≤ x.block ∧ x.block < BH) ∨ (i = 3 ∧ x.block = gW) ∨ (i = 4 ∧ x.block = gY) ∨ (i = 5 ∧ x.block = gB) ∨ (i = 6 ∧ gA ≤ x.block) := fun i x hz => by
    match i, hz with
    | 0, hz => exact .inl ⟨rfl, zR_block hz⟩
    | 1, hz => exact .inr (.inl ⟨rfl, zR_block hz⟩)
    | 2, hz =>
      refine .inr (.inr (.inl ⟨rfl, ?_⟩))
      rcases hz with hz | ⟨i, j, hi, _, rfl⟩
      · rw [zR_block hz]; omega
      · have := bH i hi
        rw [adr_some]
        exact ⟨by dsimp only; omega, this.2⟩
    | 3, hz => exact .inr (.inr (.inr (.inl ⟨rfl, zR_block hz⟩)))
    | 4, hz => exact .inr (.inr (.inr (.inr (.inl ⟨rfl, zR_block hz⟩))))
    | 5, hz => exact .inr (.inr (.inr (.inr (.inr (.inl ⟨rfl, zR_block hz⟩)))))
    | 6, hz =>
      refine .inr (.inr (.inr (.inr (.inr (.inr ⟨rfl, ?_⟩)))))
      rcases hz with hz | ⟨i, j, hi, _, rfl⟩
      · rw [zR_block hz]; omega
      · have := bA i hi
        rw [adr_some]
        dsimp only; omega
    | _ + 7, hz => exact hz.elim
  refine ⟨_, _, ⟨oS.room, oD.room, yH, oW.room, oY.room, oB.room, yA, fun i j x hne h1 h2 => ?_⟩, gS, rfl, fun i x hz => ?_⟩
  · have q1 := zz i x h1
    have q2 := zz j x h2
    omega
  · have q1 := zz i x hz
    omega
end Go.Proofs.YtffklmlljekceaaGreat
