/-
  A wish: what becomes of a recorder by it; colours of blocks that are in no list; a list that grows.
-/
import Derived.Test.YtffklmlljekceaaGreatApps
import Derived.Test.YtffklmlljekceaaGreatKnows
namespace Go.Proofs.YtffklmlljekceaaGreat
open Go.ChangeShapes Go.WideShapes Go.ChangeAt Go.RowKit
set_option linter.unusedVariables false
set_option linter.unusedSimpArgs false

def wishB (r : Rc) (t : ByteArray) : Bool := inB (t.size : Int) 1 100 && decide (r.wish.length < 20) && !hasSlot (r.ds.take r.dk.toNat) t && !hasB r.wish t
def wishR (r : Rc) (t : ByteArray) : Rc := if wishB r t = true then { r with wish := r.wish ++ [t] } else r
theorem wishR_yes {r : Rc} {t : ByteArray} (h : wishB r t = true) : wishR r t = { r with wish := r.wish ++ [t] } := if_pos h
theorem wishR_no {r : Rc} {t : ByteArray} (h : wishB r t = false) : wishR r t = r := by simp [wishR, h]

theorem known_pos {p k : Int} {l : List Sl} (h : diskOkB p k l = true) {i : Nat} {s : Sl} (hi : i < k.toNat) (hs : l[i]? = some s) : 0 < s.1 := by
  simp only [diskOkB, slotsOkB, Bool.and_eq_true] at h
  obtain ⟨⟨⟨_, ⟨_, h1⟩⟩, _⟩, h2⟩ := h
  have q1 := List.all_eq_true.1 h1 s (List.mem_of_getElem? hs)
  simp only [slotOkB, Bool.and_eq_true] at q1
  have q2 := (inB_iff.1 q1.1.1).1
  have q3 : placeOkB p k i s = true := by
    unfold placesOkB at h2
    rw [List.all_eq_true] at h2
    have := h2 (s, i) (by
      obtain ⟨hl, he⟩ := List.getElem?_eq_some_iff.1 hs
      rw [List.mem_iff_getElem]
      exact ⟨i, by simpa using hl, by simp [List.getElem_zipIdx, he]⟩)
    exact this
  by_cases h0 : s.1 = 0
  · exfalso
    have h9 : (i : Int) < k := by omega
    simp [placeOkB, h0, h9] at q3
  · omega
theorem hasText_eq {r : Rc} (h : validB r = true) (t : ByteArray) : hasText (r.ds.take r.dk.toNat) t = hasSlot (r.ds.take r.dk.toNat) t := by
  have hd : diskOkB r.dp r.dk r.ds = true := by
    cases hc : diskOkB r.dp r.dk r.ds
    · rw [nv_g2 hc] at h; cases h
    · rfl
  have pos : ∀ s ∈ r.ds.take r.dk.toNat, 0 < s.1 := fun s hs => by
    obtain ⟨i, hi, he⟩ := List.getElem_of_mem hs
    simp only [List.length_take] at hi
    rw [List.getElem_take] at he
    exact known_pos hd (i := i) (by omega) (by rw [← he]; exact List.getElem?_eq_getElem (by omega))
  unfold hasText hasSlot
  rw [Bool.eq_iff_iff, List.any_eq_true, List.any_eq_true]
  constructor
  · rintro ⟨s, hs, h1⟩
    exact ⟨s, hs, by simp only [slotIs, decide_eq_true (pos s hs), Bool.true_and]; exact h1⟩
  · rintro ⟨s, hs, h1⟩
    refine ⟨s, hs, ?_⟩
    simp only [slotIs, decide_eq_true (pos s hs), Bool.true_and] at h1
    exact h1

/-- the blocks from n on are in no list -/
def colF (n : Nat) (col : Nat → Nat) (b : Nat) : Nat := if b < n then col b else 9
theorem colF_old {n : Nat} {col : Nat → Nat} {b : Nat} (h : b < n) : colF n col b = col b := if_pos h
theorem colF_new {n : Nat} {col : Nat → Nat} {b : Nat} (h : n ≤ b) : colF n col b = 9 := if_neg (by omega)
theorem RcHas.recol {B : Nat} {w : World} {r : Rc} {p : RcP} {X : RcX} {col col' : Nat → Nat} (h : RcHas B w r p X col) (hc : ∀ b, b < w.heap.size → col' b = col b) : RcHas B w r p X col' :=
  ⟨h.s.recol hc, h.d.recol hc, h.h.recol hc, h.hm, h.hi.recol hc, h.t.recol hc, h.y.recol hc, h.b.recol hc, h.a.recol hc, h.am, h.ai.recol hc, h.gd⟩
theorem RcHas.fresh {B : Nat} {w : World} {r : Rc} {p : RcP} {X : RcX} {col : Nat → Nat} (h : RcHas B w r p X col) : RcHas B w r p X (colF w.heap.size col) := h.recol fun b hb => colF_old hb

/-- colour t for the block of an answer -/
def colN (a : Option Addr) (t : Nat) (col : Nat → Nat) (b : Nat) : Nat := if a.map (·.block) = some b then t else col b
theorem colN_at {a : Option Addr} {t : Nat} {col : Nat → Nat} {x : Addr} (h : a = some x) : colN a t col x.block = t := by unfold colN; rw [if_pos (by rw [h]; rfl)]
theorem colN_else {a : Option Addr} {t : Nat} {col : Nat → Nat} {b : Nat} (h : ∀ x, a = some x → x.block ≠ b) : colN a t col b = col b := by
  unfold colN
  rw [if_neg]
  intro e
  simp only [Option.map_eq_some_iff] at e
  obtain ⟨x, hx, he⟩ := e
  exact h x hx he
/-- a row of another colour stays where a list grows -/
theorem RowC.grown {B : Nat} {w w' : World} {col : Nat → Nat} {t u : Nat} {e : TypeId} {k : Nat} {a : Option Addr} {n c : Nat} {xs : List Value} {sa a' : Option Addr} {m c0 : Nat} (h : RowC B w col t e k a n c xs) (hu : ∀ y, sa = some y → col y.block = u) (hne : t ≠ u)
    (hg : w.grownBy w' (Value.slice sa m c0).ownBlock) (hn : NewOr w sa a') : RowC B w' (colN a' u col) t e k a n c xs := by
  have far : ∀ x, a = some x → ∀ y, sa = some y → y.block ≠ x.block := fun x hx y hy he => by
    have h1 := h.col x hx
    have h2 := hu y hy
    rw [he] at h2
    exact hne (h1.symm.trans h2)
  have h1 : RowC B w' col t e k a n c xs := h.same fun x hx => hg.block _ (h.lt x hx).2 (by
    cases hs : sa with
    | none => simp [Value.ownBlock]
    | some y =>
      simp only [Value.ownBlock, ne_eq, Option.some.injEq]
      exact fun e => far x hx y hs e.symm)
  refine ⟨h1.own, fun x hx => (colN_else fun z hz he => ?_).trans (h.col x hx)⟩
  rcases hn z hz with ⟨y, hy, hyz⟩ | hnew
  · exact far x hx y hy (hyz.trans he)
  · have := (h.lt x hx).2
    omega
theorem RcHas.growT {B : Nat} {w w' : World} {r : Rc} {p : RcP} {X : RcX} {col : Nat → Nat} (h : RcHas B w r p X col) {a' : Option Addr} {c' : Nat} {l : List ByteArray} (hg : w.grownBy w' (Value.slice p.aW r.wish.length p.cW).ownBlock) (ho : w'.ownsRow B 9 1 (.slice a' l.length c') l.length (flatT l)) (hn : NewOr w p.aW a') (hl : GoodOnes okS l) :
    RcHas B w' { r with wish := l } { p with aW := a', cW := c' } X (colN a' 3 col) :=
  ⟨h.s.grown h.t.col (by decide) hg hn, h.d.grown h.t.col (by decide) hg hn, h.h.grown h.t.col (by decide) hg hn, h.hm, ⟨fun m hm => (h.hi.row m hm).grown h.t.col (by decide) hg hn, h.hi.apart⟩,
    ⟨ho, fun x hx => colN_at hx⟩, h.y.grown h.t.col (by decide) hg hn, h.b.grown h.t.col (by decide) hg hn, h.a.grown h.t.col (by decide) hg hn, h.am, ⟨fun m hm => (h.ai.row m hm).grown h.t.col (by decide) hg hn, h.ai.apart⟩,
    ⟨h.gd.s, h.gd.d, h.gd.h, hl, h.gd.y, h.gd.b, h.gd.a⟩⟩
theorem goodT_snoc {l : List ByteArray} {t : ByteArray} (h : GoodOnes okS l) (ht : okS t) : GoodOnes okS (l ++ [t]) := fun i s hs => by
  rcases Nat.lt_or_ge i l.length with hi | hi
  · rw [List.getElem?_append_left hi] at hs; exact h i s hs
  · rw [List.getElem?_append_right hi] at hs
    have h9 := List.mem_of_getElem? hs
    simp only [List.mem_cons, List.not_mem_nil, or_false] at h9
    rw [h9]; exact ht
end Go.Proofs.YtffklmlljekceaaGreat
