/-
  Rows of their own and inner lists of their own, in blocks between two marks.
-/
import Derived.Test.YtffklmlljekceaaGreatCopyList
import Derived.Test.YtffklmlljekceaaGreatDrawnRec
namespace Go.Proofs.YtffklmlljekceaaGreat
open Go.ChangeShapes Go.WideShapes Go.ChangeAt Go.RowKit
set_option linter.unusedVariables false
set_option linter.unusedSimpArgs false

theorem Blk.set {w : World} {b o : Nat} {c : Array Value} {t : TypeId} (h : Blk w b c t) (v : Value) : Blk (w.setCell ⟨b, o, none⟩ v) b (c.setIfInBounds o v) t := heap_setCell_same _ _ o _ _ v h
def colZ (n1 n2 n3 n4 n5 n6 n7 n8 b : Nat) : Nat := if b < n1 then 0 else if b < n2 then 1 else if b < n3 then 2 else if b < n4 then 7 else if b < n5 then 3 else if b < n6 then 4 else if b < n7 then 5 else if b < n8 then 6 else 8
structure Lad (n1 n2 n3 n4 n5 n6 n7 n8 : Nat) : Prop where
  h1 : n1 ≤ n2
  h2 : n2 ≤ n3
  h3 : n3 ≤ n4
  h4 : n4 ≤ n5
  h5 : n5 ≤ n6
  h6 : n6 ≤ n7
  h7 : n7 ≤ n8
theorem colZ_0 {n1 n2 n3 n4 n5 n6 n7 n8 b : Nat} (L : Lad n1 n2 n3 n4 n5 n6 n7 n8) (h2 : b < n1) : colZ n1 n2 n3 n4 n5 n6 n7 n8 b = 0 := by
  obtain ⟨l1, l2, l3, l4, l5, l6, l7⟩ := L
  unfold colZ
  rw [if_pos h2]
theorem colZ_1 {n1 n2 n3 n4 n5 n6 n7 n8 b : Nat} (L : Lad n1 n2 n3 n4 n5 n6 n7 n8) (h : n1 ≤ b) (h2 : b < n2) : colZ n1 n2 n3 n4 n5 n6 n7 n8 b = 1 := by
  obtain ⟨l1, l2, l3, l4, l5, l6, l7⟩ := L
  unfold colZ
  rw [if_neg (by omega), if_pos h2]
theorem colZ_2 {n1 n2 n3 n4 n5 n6 n7 n8 b : Nat} (L : Lad n1 n2 n3 n4 n5 n6 n7 n8) (h : n2 ≤ b) (h2 : b < n3) : colZ n1 n2 n3 n4 n5 n6 n7 n8 b = 2 := by
  obtain ⟨l1, l2, l3, l4, l5, l6, l7⟩ := L
  unfold colZ
  rw [if_neg (by omega), if_neg (by omega), if_pos h2]
theorem colZ_7 {n1 n2 n3 n4 n5 n6 n7 n8 b : Nat} (L : Lad n1 n2 n3 n4 n5 n6 n7 n8) (h : n3 ≤ b) (h2 : b < n4) : colZ n1 n2 n3 n4 n5 n6 n7 n8 b = 7 := by
  obtain ⟨l1, l2, l3, l4, l5, l6, l7⟩ := L
  unfold colZ
  rw [if_neg (by omega), if_neg (by omega), if_neg (by omega), if_pos h2]
theorem colZ_3 {n1 n2 n3 n4 n5 n6 n7 n8 b : Nat} (L : Lad n1 n2 n3 n4 n5 n6 n7 n8) (h : n4 ≤ b) (h2 : b < n5) : colZ n1 n2 n3 n4 n5 n6 n7 n8 b = 3 := by
  obtain ⟨l1, l2, l3, l4, l5, l6, l7⟩ := L
  unfold colZ
  rw [if_neg (by omega), if_neg (by omega), if_neg (by omega), if_neg (by omega), if_pos h2]
theorem colZ_4 {n1 n2 n3 n4 n5 n6 n7 n8 b : Nat} (L : Lad n1 n2 n3 n4 n5 n6 n7 n8) (h : n5 ≤ b) (h2 : b < n6) : colZ n1 n2 n3 n4 n5 n6 n7 n8 b = 4 := by
  obtain ⟨l1, l2, l3, l4, l5, l6, l7⟩ := L
  unfold colZ
  rw [if_neg (by omega), if_neg (by omega), if_neg (by omega), if_neg (by omega), if_neg (by omega), if_pos h2]
theorem colZ_5 {n1 n2 n3 n4 n5 n6 n7 n8 b : Nat} (L : Lad n1 n2 n3 n4 n5 n6 n7 n8) (h : n6 ≤ b) (h2 : b < n7) : colZ n1 n2 n3 n4 n5 n6 n7 n8 b = 5 := by
  obtain ⟨l1, l2, l3, l4, l5, l6, l7⟩ := L
  unfold colZ
  rw [if_neg (by omega), if_neg (by omega), if_neg (by omega), if_neg (by omega), if_neg (by omega), if_neg (by omega), if_pos h2]
theorem colZ_6 {n1 n2 n3 n4 n5 n6 n7 n8 b : Nat} (L : Lad n1 n2 n3 n4 n5 n6 n7 n8) (h : n7 ≤ b) (h2 : b < n8) : colZ n1 n2 n3 n4 n5 n6 n7 n8 b = 6 := by
  obtain ⟨l1, l2, l3, l4, l5, l6, l7⟩ := L
  unfold colZ
  rw [if_neg (by omega), if_neg (by omega), if_neg (by omega), if_neg (by omega), if_neg (by omega), if_neg (by omega), if_neg (by omega), if_pos h2]
theorem colZ_8 {n1 n2 n3 n4 n5 n6 n7 n8 b : Nat} (L : Lad n1 n2 n3 n4 n5 n6 n7 n8) (h : n8 ≤ b) : colZ n1 n2 n3 n4 n5 n6 n7 n8 b = 8 := by
  obtain ⟨l1, l2, l3, l4, l5, l6, l7⟩ := L
  unfold colZ
  rw [if_neg (by omega), if_neg (by omega), if_neg (by omega), if_neg (by omega), if_neg (by omega), if_neg (by omega), if_neg (by omega), if_neg (by omega)]
theorem below_set {B : Nat} {a w : World} (h : Below B a w) {q : Addr} (hq : B ≤ q.block) (v : Value) : Below B a (w.setCell q v) := h.setCell hq v


theorem flatM_put (A D : List Mp) (m : Mp) (a : Option Addr) (c : Nat) : (flatM (A ++ m :: D)).set (A.length * 8 + 7) (.slice a m.1.2.length c) = flatM (A ++ (m.1, a, c) :: D) := by
  simp only [flatM, List.flatMap_append, List.flatMap_cons]
  have hl : (A.flatMap cellsM).length = A.length * 8 := flatM_len A
  rw [List.set_append_right _ _ (by omega), hl, show A.length * 8 + 7 - A.length * 8 = 7 by omega, List.set_append_left _ _ (by simp [cellsM_len])]
  rfl
theorem flatA_put (A D : List Ap) (m : Ap) (a : Option Addr) (c : Nat) : (flatA (A ++ m :: D)).set (A.length * 2 + 1) (.slice a m.1.2.length c) = flatA (A ++ (m.1, a, c) :: D) := by
  simp only [flatA, List.flatMap_append, List.flatMap_cons]
  have hl : (A.flatMap cellsA).length = A.length * 2 := flatA_len A
  rw [List.set_append_right _ _ (by omega), hl, show A.length * 2 + 1 - A.length * 2 = 1 by omega, List.set_append_left _ _ (by simp [cellsA_len])]
  rfl
/-- a boxed recorder is there; below z all is as it was at V -/
structure BoxS (z : Nat) (V : World) (g : Nat) (c : Array Value) (w' : World) : Prop where
  blk : Blk w' g c 41
  bel : Below z V w'
theorem BoxS.drew {z : Nat} {V : World} {g : Nat} {c : Array Value} {w' : World} (h : BoxS z V g c w') : BoxS z V g c w'.drew := ⟨h.blk, h.bel.drew⟩
theorem BoxS.ext {z : Nat} {V : World} {g : Nat} {c : Array Value} {w' v' : World} (h : BoxS z V g c w') (hz : z ≤ V.heap.size) (hb : Below w'.heap.size w' v') : BoxS z V g c v' := ⟨h.blk.ext hb, h.bel.trans (hb.mono (Nat.le_trans hz h.bel.size))⟩

structure InnZM (lo hi : Nat) (w : World) (H : List Mp) : Prop where
  row : ∀ m ∈ H, RowZ lo hi w 108 2 m.2.1 m.1.2.length m.2.2 (flat m.1.2)
  apart : H.Pairwise (fun m m' => ∀ x x', m.2.1 = some x → m'.2.1 = some x' → x.block ≠ x'.block)
theorem InnZM.ext {lo hi : Nat} {w w' : World} {H : List Mp} (h : InnZM lo hi w H) (hb : Below w.heap.size w w') : InnZM lo hi w' H := ⟨fun m hm => (h.row m hm).ext hb, h.apart⟩
theorem InnZM.set {lo hi : Nat} {w : World} {H : List Mp} (h : InnZM lo hi w H) {q : Addr} (hq : q.block < lo) (v : Value) : InnZM lo hi (w.setCell q v) H := ⟨fun m hm => (h.row m hm).set hq v, h.apart⟩
theorem InnZM.below {lo hi B : Nat} {w w' : World} {H : List Mp} (h : InnZM lo hi w H) (hb : Below B w w') (hB : hi ≤ B) : InnZM lo hi w' H := ⟨fun m hm => (h.row m hm).below hb hB, h.apart⟩
theorem InnZM.nil (lo hi : Nat) (w : World) : InnZM lo hi w [] := ⟨fun m hm => absurd hm (by simp), List.Pairwise.nil⟩
theorem InnZM.snoc {lo lo2 hi hi2 : Nat} {w : World} {H : List Mp} {m : Mp} (h : InnZM lo hi w H) (hm : RowZ lo2 hi2 w 108 2 m.2.1 m.1.2.length m.2.2 (flat m.1.2)) (h1 : lo ≤ lo2) (h2 : hi ≤ lo2) (h3 : lo2 ≤ hi2) : InnZM lo hi2 w (H ++ [m]) := by
  refine ⟨fun u hu => ?_, ?_⟩
  · rcases List.mem_append.1 hu with hu | hu
    · have := h.row u hu
      exact ⟨this.own, fun x hx => by have := this.hi x hx; omega⟩
    · simp only [List.mem_cons, List.not_mem_nil, or_false] at hu
      subst hu
      refine ⟨⟨hm.own.1, ?_⟩, hm.hi⟩
      rcases hm.own.2 with h0 | ⟨g, cap, cur, hv, hB, r⟩
      · exact .inl h0
      · exact .inr ⟨g, cap, cur, hv, by omega, r⟩
  · rw [List.pairwise_append]
    refine ⟨h.apart, List.pairwise_singleton _ _, fun u hu v hv x x' hx hx' => ?_⟩
    simp only [List.mem_cons, List.not_mem_nil, or_false] at hv
    subst hv
    have q1 := (h.row u hu).hi x hx
    have q2 := (hm.lo x' hx').1
    omega
theorem InnZM.inn {lo hi B : Nat} {w : World} {H : List Mp} {col : Nat → Nat} {t : Nat} (h : InnZM lo hi w H) (hB : B ≤ lo) (hc : ∀ b, lo ≤ b → b < hi → col b = t) : InnM B w col t H :=
  ⟨fun m hm => (h.row m hm).row hB hc, h.apart⟩

structure InnZA (lo hi : Nat) (w : World) (H : List Ap) : Prop where
  row : ∀ m ∈ H, RowZ lo hi w 3 1 m.2.1 m.1.2.length m.2.2 (flatI m.1.2)
  apart : H.Pairwise (fun m m' => ∀ x x', m.2.1 = some x → m'.2.1 = some x' → x.block ≠ x'.block)
theorem InnZA.ext {lo hi : Nat} {w w' : World} {H : List Ap} (h : InnZA lo hi w H) (hb : Below w.heap.size w w') : InnZA lo hi w' H := ⟨fun m hm => (h.row m hm).ext hb, h.apart⟩
theorem InnZA.set {lo hi : Nat} {w : World} {H : List Ap} (h : InnZA lo hi w H) {q : Addr} (hq : q.block < lo) (v : Value) : InnZA lo hi (w.setCell q v) H := ⟨fun m hm => (h.row m hm).set hq v, h.apart⟩
theorem InnZA.below {lo hi B : Nat} {w w' : World} {H : List Ap} (h : InnZA lo hi w H) (hb : Below B w w') (hB : hi ≤ B) : InnZA lo hi w' H := ⟨fun m hm => (h.row m hm).below hb hB, h.apart⟩
theorem InnZA.nil (lo hi : Nat) (w : World) : InnZA lo hi w [] := ⟨fun m hm => absurd hm (by simp), List.Pairwise.nil⟩
theorem InnZA.snoc {lo lo2 hi hi2 : Nat} {w : World} {H : List Ap} {m : Ap} (h : InnZA lo hi w H) (hm : RowZ lo2 hi2 w 3 1 m.2.1 m.1.2.length m.2.2 (flatI m.1.2)) (h1 : lo ≤ lo2) (h2 : hi ≤ lo2) (h3 : lo2 ≤ hi2) : InnZA lo hi2 w (H ++ [m]) := by
  refine ⟨fun u hu => ?_, ?_⟩
  · rcases List.mem_append.1 hu with hu | hu
    · have := h.row u hu
      exact ⟨this.own, fun x hx => by have := this.hi x hx; omega⟩
    · simp only [List.mem_cons, List.not_mem_nil, or_false] at hu
      subst hu
      refine ⟨⟨hm.own.1, ?_⟩, hm.hi⟩
      rcases hm.own.2 with h0 | ⟨g, cap, cur, hv, hB, r⟩
      · exact .inl h0
      · exact .inr ⟨g, cap, cur, hv, by omega, r⟩
  · rw [List.pairwise_append]
    refine ⟨h.apart, List.pairwise_singleton _ _, fun u hu v hv x x' hx hx' => ?_⟩
    simp only [List.mem_cons, List.not_mem_nil, or_false] at hv
    subst hv
    have q1 := (h.row u hu).hi x hx
    have q2 := (hm.lo x' hx').1
    omega
theorem InnZA.inn {lo hi B : Nat} {w : World} {H : List Ap} {col : Nat → Nat} {t : Nat} (h : InnZA lo hi w H) (hB : B ≤ lo) (hc : ∀ b, lo ≤ b → b < hi → col b = t) : InnA B w col t H :=
  ⟨fun m hm => (h.row m hm).row hB hc, h.apart⟩

/-- what copying asks: each list can be read (two may be one) -/
structure InnRM (w : World) (H : List Mp) : Prop where
  row : ∀ m ∈ H, ReadAt w m.2.1 m.1.2.length m.2.2 2 (flat m.1.2)
structure InnRA (w : World) (H : List Ap) : Prop where
  row : ∀ m ∈ H, ReadAt w m.2.1 m.1.2.length m.2.2 1 (flatI m.1.2)
structure RcRead (w : World) (r : Rc) (p : RcP) (X : RcX) : Prop where
  s : ReadAt w p.aS r.ss.length p.cS 2 (flat r.ss)
  d : ReadAt w p.aD r.ds.length p.cD 2 (flat r.ds)
  h : ReadAt w p.aH r.held.length p.cH 8 (flatM X.H)
  hm : X.H.map (·.1) = r.held
  hi : InnRM w X.H
  t : ReadAt w p.aW r.wish.length p.cW 1 (flatT r.wish)
  y : ReadAt w p.aY r.yes.length p.cY 1 (flatI r.yes)
  b : ReadAt w p.aB r.best.length p.cB 2 (flat r.best)
  a : ReadAt w p.aA r.acks.length p.cA 2 (flatA X.A)
  am : X.A.map (·.1) = r.acks
  ai : InnRA w X.A
  gd : RcGood r
theorem ReadAt.read {w : World} {a : Option Addr} {n c k : Nat} {xs : List Value} (h : ReadAt w a n c k xs) : ReadAt w a n c k xs := h
theorem RcRead.ext {w w' : World} {r : Rc} {p : RcP} {X : RcX} (h : RcRead w r p X) (hb : Below w.heap.size w w') : RcRead w' r p X :=
  ⟨h.s.ext hb, h.d.ext hb, h.h.ext hb, h.hm, ⟨fun m hm => (h.hi.row m hm).ext hb⟩, h.t.ext hb, h.y.ext hb, h.b.ext hb, h.a.ext hb, h.am, ⟨fun m hm => (h.ai.row m hm).ext hb⟩, h.gd⟩
theorem RcHas.reads {B : Nat} {w : World} {r : Rc} {p : RcP} {X : RcX} {col : Nat → Nat} (h : RcHas B w r p X col) : RcRead w r p X :=
  ⟨h.s.read, h.d.read, h.h.read, h.hm, ⟨fun m hm => (h.hi.row m hm).read⟩, h.t.read, h.y.read, h.b.read, h.a.read, h.am, ⟨fun m hm => (h.ai.row m hm).read⟩, h.gd⟩
end Go.Proofs.YtffklmlljekceaaGreat
