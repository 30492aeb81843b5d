import Derived.Test.YtffklmlljekceaaGreatQ13
namespace Go.Proofs.YtffklmlljekceaaGreat
open Go.ChangeShapes Go.WideShapes Go.ChangeAt Go.RowKit
set_option linter.unusedSimpArgs false
set_option linter.unusedVariables false
set_option maxHeartbeats 8000000
structure RcX where
 H : List Mp
 A : List Ap
structure RcGood (r : Rc) : Prop where
 s : GoodSlots r.ss
 d : GoodSlots r.ds
 h : MsgsGood r.held
 t : GoodOnes okS r.wish
 y : GoodOnes wfI r.yes
 b : GoodSlots r.best
 a : AcksGood r.acks
theorem RcAt.good {w : World} {r : Rc} {p : RcP} (h : RcAt w r p) : RcGood r := ⟨h.hS.good, h.hD.good, h.hH.good, h.hW.good, h.hY.good, h.hB.good, h.hA.good⟩
structure InnM (B : Nat) (w : World) (col : Nat → Nat) (t : Nat) (H : List Mp) : Prop where
 row : ∀ m ∈ H, RowC B w col t 108 2 m.2.1 m.1.2.length m.2.2 (flat m.1.2)
 apart : H.Pairwise (fun m m' => ∀ x x', m.2.1 = some x → m'.2.1 = some x' → x.block ≠ x'.block)
structure InnA (B : Nat) (w : World) (col : Nat → Nat) (t : Nat) (H : List Ap) : Prop where
 row : ∀ m ∈ H, RowC B w col t 3 1 m.2.1 m.1.2.length m.2.2 (flatI m.1.2)
 apart : H.Pairwise (fun m m' => ∀ x x', m.2.1 = some x → m'.2.1 = some x' → x.block ≠ x'.block)
structure RcHas (B : Nat) (w : World) (r : Rc) (p : RcP) (X : RcX) (col : Nat → Nat) : Prop where
 s : RowC B w col 0 108 2 p.aS r.ss.length p.cS (flat r.ss)
 d : RowC B w col 1 108 2 p.aD r.ds.length p.cD (flat r.ds)
 h : RowC B w col 2 45 8 p.aH r.held.length p.cH (flatM X.H)
 hm : X.H.map (·.1) = r.held
 hi : InnM B w col 7 X.H
 t : RowC B w col 3 9 1 p.aW r.wish.length p.cW (flatT r.wish)
 y : RowC B w col 4 3 1 p.aY r.yes.length p.cY (flatI r.yes)
 b : RowC B w col 5 108 2 p.aB r.best.length p.cB (flat r.best)
 a : RowC B w col 6 105 2 p.aA r.acks.length p.cA (flatA X.A)
 am : X.A.map (·.1) = r.acks
 ai : InnA B w col 8 X.A
 gd : RcGood r
theorem InnM.same {B : Nat} {w w' : World} {col : Nat → Nat} {t : Nat} {H : List Mp} (h : InnM B w col t H) (hs : ∀ b, b < w.heap.size → col b = t → w'.heap[b]? = w.heap[b]?) : InnM B w' col t H :=
 ⟨fun m hm => (h.row m hm).same fun x hx => hs _ ((h.row m hm).lt x hx).2 ((h.row m hm).col x hx), h.apart⟩
theorem InnA.same {B : Nat} {w w' : World} {col : Nat → Nat} {t : Nat} {H : List Ap} (h : InnA B w col t H) (hs : ∀ b, b < w.heap.size → col b = t → w'.heap[b]? = w.heap[b]?) : InnA B w' col t H :=
 ⟨fun m hm => (h.row m hm).same fun x hx => hs _ ((h.row m hm).lt x hx).2 ((h.row m hm).col x hx), h.apart⟩
theorem InnM.recol {B : Nat} {w : World} {col col' : Nat → Nat} {t : Nat} {H : List Mp} (h : InnM B w col t H) (hc : ∀ b, b < w.heap.size → col' b = col b) : InnM B w col' t H :=
 ⟨fun m hm => (h.row m hm).recol hc, h.apart⟩
theorem InnA.recol {B : Nat} {w : World} {col col' : Nat → Nat} {t : Nat} {H : List Ap} (h : InnA B w col t H) (hc : ∀ b, b < w.heap.size → col' b = col b) : InnA B w col' t H :=
 ⟨fun m hm => (h.row m hm).recol hc, h.apart⟩
theorem RcHas.ext {B : Nat} {w w' : World} {r : Rc} {p : RcP} {X : RcX} {col : Nat → Nat} (h : RcHas B w r p X col) (hb : Below w.heap.size w w') : RcHas B w' r p X col :=
 have k : ∀ t b, b < w.heap.size → col b = t → w'.heap[b]? = w.heap[b]? := fun t b hlt _ => hb.block b hlt
 ⟨h.s.ext hb, h.d.ext hb, h.h.ext hb, h.hm, h.hi.same (k 7), h.t.ext hb, h.y.ext hb, h.b.ext hb, h.a.ext hb, h.am, h.ai.same (k 8), h.gd⟩
theorem RcHas.same {B : Nat} {w w' : World} {r : Rc} {p : RcP} {X : RcX} {col : Nat → Nat} (h : RcHas B w r p X col) (hs : ∀ b, B ≤ b → b < w.heap.size → col b ≤ 8 → w'.heap[b]? = w.heap[b]?) : RcHas B w' r p X col := by
 have k : ∀ {t : Nat} {e : TypeId} {k : Nat} {a : Option Addr} {n c : Nat} {xs : List Value}, t ≤ 8 → RowC B w col t e k a n c xs → RowC B w' col t e k a n c xs := fun ht h => h.same fun x hx => hs _ (h.lt x hx).1 (h.lt x hx).2 (by rw [h.col x hx]; exact ht)
 exact ⟨k (by omega) h.s, k (by omega) h.d, k (by omega) h.h, h.hm, ⟨fun m hm => k (by omega) (h.hi.row m hm), h.hi.apart⟩, k (by omega) h.t, k (by omega) h.y, k (by omega) h.b, k (by omega) h.a, h.am, ⟨fun m hm => k (by omega) (h.ai.row m hm), h.ai.apart⟩, h.gd⟩
theorem RowC.cellM {B : Nat} {w : World} {col : Nat → Nat} {t : Nat} {a : Option Addr} {n c : Nat} {H : List Mp} (h : RowC B w col t 45 8 a n c (flatM H)) {i : Nat} {m : Mp} (hm : H[i]? = some m) {q : Nat} {u : Value} (hq : q < 8) (hu : (cellsM m)[q]? = some u) :
  ∃ g, a = some ⟨g, 0, none⟩ ∧ g < w.heap.size ∧ w.cell? ⟨g, i * 8 + q, none⟩ = some u ∧ w.frozen? ⟨g, i * 8 + q, none⟩ = false := h.cell ((flatM_at H i q m hm hq).trans hu)
theorem RowC.cellA {B : Nat} {w : World} {col : Nat → Nat} {t : Nat} {a : Option Addr} {n c : Nat} {H : List Ap} (h : RowC B w col t 105 2 a n c (flatA H)) {i : Nat} {m : Ap} (hm : H[i]? = some m) {q : Nat} {u : Value} (hq : q < 2) (hu : (cellsA m)[q]? = some u) :
  ∃ g, a = some ⟨g, 0, none⟩ ∧ g < w.heap.size ∧ w.cell? ⟨g, i * 2 + q, none⟩ = some u ∧ w.frozen? ⟨g, i * 2 + q, none⟩ = false := h.cell ((flatA_at H i q m hm hq).trans hu)
theorem some_inj_addr {a : Option Addr} {g g' : Nat} (h : a = some ⟨g, 0, none⟩) (h' : a = some ⟨g', 0, none⟩) : g' = g := by
 rw [h] at h'
 simp only [Option.some.injEq, Addr.mk.injEq, and_true] at h'
 exact h'.symm
theorem msgs_at {B : Nat} {w : World} {col : Nat → Nat} {t u : Nat} {a : Option Addr} {n c : Nat} {H : List Mp} {l : List Ms} (h : RowC B w col t 45 8 a n c (flatM H)) (hm : H.map (·.1) = l) (hi : InnM B w col u H) (hg : MsgsGood l) : MsgsAt w a l := fun i s hs => by
 rw [← hm, List.getElem?_map, Option.map_eq_some_iff] at hs
 obtain ⟨m, h0, rfl⟩ := hs
 have hs' : l[i]? = some m.1 := by rw [← hm, List.getElem?_map, h0]; rfl
 obtain ⟨g, e0, hg0, c0, _⟩ := h.cellM h0 (q := 0) (by omega) rfl
 obtain ⟨g1, e1, _, c1, _⟩ := h.cellM h0 (q := 1) (by omega) rfl
 obtain ⟨g2, e2, _, c2, _⟩ := h.cellM h0 (q := 2) (by omega) rfl
 obtain ⟨g3, e3, _, c3, _⟩ := h.cellM h0 (q := 3) (by omega) rfl
 obtain ⟨g4, e4, _, c4, _⟩ := h.cellM h0 (q := 4) (by omega) rfl
 obtain ⟨g5, e5, _, c5, _⟩ := h.cellM h0 (q := 5) (by omega) rfl
 obtain ⟨g6, e6, _, c6, _⟩ := h.cellM h0 (q := 6) (by omega) rfl
 obtain ⟨g7, e7, _, c7, _⟩ := h.cellM h0 (q := 7) (by omega) rfl
 have q1 := some_inj_addr e0 e1
 have q2 := some_inj_addr e0 e2
 have q3 := some_inj_addr e0 e3
 have q4 := some_inj_addr e0 e4
 have q5 := some_inj_addr e0 e5
 have q6 := some_inj_addr e0 e6
 have q7 := some_inj_addr e0 e7
 subst q1 q2 q3 q4 q5 q6 q7
 obtain ⟨k1, k2, k3⟩ := hg i _ hs'
 refine ⟨g7, 0, m.2.1, m.2.2, e0, hg0, ?_, ?_, ?_, ?_, ?_, ?_, ?_, ?_, k1, k2, (hi.row m (List.mem_of_getElem? h0)).slots k3⟩
 all_goals rw [Nat.zero_add]
 all_goals assumption
theorem acks_at {B : Nat} {w : World} {col : Nat → Nat} {t u : Nat} {a : Option Addr} {n c : Nat} {H : List Ap} {l : List Ak} (h : RowC B w col t 105 2 a n c (flatA H)) (hm : H.map (·.1) = l) (hi : InnA B w col u H) (hg : AcksGood l) : AcksAt w a l := fun i s hs => by
 rw [← hm, List.getElem?_map, Option.map_eq_some_iff] at hs
 obtain ⟨m, h0, rfl⟩ := hs
 have hs' : l[i]? = some m.1 := by rw [← hm, List.getElem?_map, h0]; rfl
 obtain ⟨g, e0, hg0, c0, _⟩ := h.cellA h0 (q := 0) (by omega) rfl
 obtain ⟨g1, e1, _, c1, _⟩ := h.cellA h0 (q := 1) (by omega) rfl
 have q1 := some_inj_addr e0 e1
 subst q1
 obtain ⟨k1, k2, k3⟩ := hg i _ hs'
 refine ⟨g1, 0, m.2.1, m.2.2, e0, hg0, ?_, ?_, k1, k2, (hi.row m (List.mem_of_getElem? h0)).ints k3⟩
 all_goals rw [Nat.zero_add]
 all_goals assumption
theorem RcHas.at {B : Nat} {w : World} {r : Rc} {p : RcP} {X : RcX} {col : Nat → Nat} (h : RcHas B w r p X col) : RcAt w r p :=
 ⟨h.s.slots h.gd.s, h.s.len.1, h.d.slots h.gd.d, h.d.len.1, msgs_at h.h h.hm h.hi h.gd.h, h.h.len.1, h.t.strs h.gd.t, h.t.len.1, h.y.ints h.gd.y, h.y.len.1, h.b.slots h.gd.b, h.b.len.1, acks_at h.a h.am h.ai h.gd.a, h.a.len.1⟩
def ixA (X : List (Option Addr × Nat)) (i : Nat) : Option Addr := match X[i]? with | some m => m.1 | none => none
def ixC (X : List (Option Addr × Nat)) (i : Nat) : Nat := match X[i]? with | some m => m.2 | none => 0
theorem lay_m {B : Nat} {w : World} {col : Nat → Nat} {a : Option Addr} {n c : Nat} {H : List Mp} {l : List Ms} (h : RowC B w col 2 45 8 a n c (flatM H)) (hn : l.length = n) (hm : H.map (·.1) = l) (hi : InnM B w col 7 H) :
  LayM w a (ixA (H.map (·.2))) (lenM l) (ixC (H.map (·.2))) n ∧ ∀ i j, i < n → j < lenM l i * 2 → col (adr (ixA (H.map (·.2)) i) j).block = 7 ∧ B ≤ (adr (ixA (H.map (·.2)) i) j).block := by
 have hl : H.length = n := by rw [← hn, ← hm, List.length_map]
 have at_ : ∀ i, i < n → ∃ m, H[i]? = some m ∧ ixA (H.map (·.2)) i = m.2.1 ∧ ixC (H.map (·.2)) i = m.2.2 ∧ lenM l i = m.1.2.length ∧ RowC B w col 7 108 2 m.2.1 m.1.2.length m.2.2 (flat m.1.2) := fun i hi' => by
  have h0 : H[i]? = some H[i] := List.getElem?_eq_getElem (by omega)
  refine ⟨_, h0, ?_, ?_, ?_, hi.row _ (List.mem_of_getElem? h0)⟩
  ·simp [ixA, h0]
  ·simp [ixC, h0]
  rw [← hm]; simp [lenM, h0]
 have inn : ∀ i j, i < n → j < lenM l i * 2 → ∃ m g, H[i]? = some m ∧ m.2.1 = some ⟨g, 0, none⟩ ∧ adr (ixA (H.map (·.2)) i) j = ⟨g, j, none⟩ ∧ col g = 7 ∧ B ≤ g := fun i j hi' hj => by
  obtain ⟨m, h0, e1, e2, e3, hr⟩ := at_ i hi'
  rw [e3] at hj
  obtain ⟨u, hu⟩ : ∃ u, (flat m.1.2)[j]? = some u := ⟨_, List.getElem?_eq_getElem (by rw [flat_len]; exact hj)⟩
  obtain ⟨g, eg, _⟩ := hr.cell hu
  refine ⟨m, g, h0, eg, ?_, hr.col _ eg, (hr.lt _ eg).1⟩
  rw [e1, eg, adr_some, Nat.zero_add]
 refine ⟨⟨h.room rfl, fun i hi' => ?_, fun i hi' => ?_, fun i j q hi' hj hq => ?_, fun i i' j j' h1 h2 hne hj hj' => ?_⟩, fun i j hi' hj => ?_⟩
 ·obtain ⟨m, h0, e1, e2, e3, hr⟩ := at_ i hi'
  obtain ⟨g, eg, _, cg, _⟩ := h.cellM h0 (q := 7) (by omega) rfl
  rw [eg, adr_some, Nat.zero_add, cg, e1, e2, e3]
 ·obtain ⟨m, h0, e1, e2, e3, hr⟩ := at_ i hi'
  rw [e1, e3]
  exact hr.room rfl
 ·obtain ⟨m, g, h0, eg, ea, ec, _⟩ := inn i j hi' hj
  rw [ea]
  obtain ⟨u, hu⟩ : ∃ u, (flatM H)[q]? = some u := ⟨_, List.getElem?_eq_getElem (by rw [flatM_len, hl]; exact hq)⟩
  obtain ⟨g2, eg2, _⟩ := h.cell hu
  have c2 := h.col _ eg2
  rw [eg2, adr_some]
  intro e
  simp only [Addr.mk.injEq] at e
  rw [e.1] at ec
  dsimp only at c2
  omega
 ·obtain ⟨m, g, h0, eg, ea, ec, _⟩ := inn i j h1 hj
  obtain ⟨m', g', h0', eg', ea', ec', _⟩ := inn i' j' h2 hj'
  rw [ea, ea']
  intro e
  simp only [Addr.mk.injEq] at e
  have pw := List.pairwise_iff_getElem.1 hi.apart
  obtain ⟨l1, f1⟩ := List.getElem?_eq_some_iff.1 h0
  obtain ⟨l2, f2⟩ := List.getElem?_eq_some_iff.1 h0'
  rcases Nat.lt_or_gt_of_ne hne with hlt | hlt
  ·exact pw i i' l1 l2 hlt _ _ (by rw [f1]; exact eg) (by rw [f2]; exact eg') e.1
  exact pw i' i l2 l1 hlt _ _ (by rw [f2]; exact eg') (by rw [f1]; exact eg) e.1.symm
 obtain ⟨m, g, h0, eg, ea, ec, eb⟩ := inn i j hi' hj
 rw [ea]
 exact ⟨ec, eb⟩
theorem lay_a {B : Nat} {w : World} {col : Nat → Nat} {a : Option Addr} {n c : Nat} {H : List Ap} {l : List Ak} (h : RowC B w col 6 105 2 a n c (flatA H)) (hn : l.length = n) (hm : H.map (·.1) = l) (hi : InnA B w col 8 H) :
  LayA w a (ixA (H.map (·.2))) (lenA l) (ixC (H.map (·.2))) n ∧ ∀ i j, i < n → j < lenA l i → col (adr (ixA (H.map (·.2)) i) j).block = 8 ∧ B ≤ (adr (ixA (H.map (·.2)) i) j).block := by
 have hl : H.length = n := by rw [← hn, ← hm, List.length_map]
 have at_ : ∀ i, i < n → ∃ m, H[i]? = some m ∧ ixA (H.map (·.2)) i = m.2.1 ∧ ixC (H.map (·.2)) i = m.2.2 ∧ lenA l i = m.1.2.length ∧ RowC B w col 8 3 1 m.2.1 m.1.2.length m.2.2 (flatI m.1.2) := fun i hi' => by
  have h0 : H[i]? = some H[i] := List.getElem?_eq_getElem (by omega)
  refine ⟨_, h0, ?_, ?_, ?_, hi.row _ (List.mem_of_getElem? h0)⟩
  ·simp [ixA, h0]
  ·simp [ixC, h0]
  rw [← hm]; simp [lenA, h0]
 have inn : ∀ i j, i < n → j < lenA l i → ∃ m g, H[i]? = some m ∧ m.2.1 = some ⟨g, 0, none⟩ ∧ adr (ixA (H.map (·.2)) i) j = ⟨g, j, none⟩ ∧ col g = 8 ∧ B ≤ g := fun i j hi' hj => by
  obtain ⟨m, h0, e1, e2, e3, hr⟩ := at_ i hi'
  rw [e3] at hj
  obtain ⟨u, hu⟩ : ∃ u, (flatI m.1.2)[j]? = some u := ⟨_, List.getElem?_eq_getElem (by simp only [flatI, List.length_map]; exact hj)⟩
  obtain ⟨g, eg, _⟩ := hr.cell hu
  refine ⟨m, g, h0, eg, ?_, hr.col _ eg, (hr.lt _ eg).1⟩
  rw [e1, eg, adr_some, Nat.zero_add]
 refine ⟨⟨h.room rfl, fun i hi' => ?_, fun i hi' => ?_, fun i j q hi' hj hq => ?_, fun i i' j j' h1 h2 hne hj hj' => ?_⟩, fun i j hi' hj => ?_⟩
 ·obtain ⟨m, h0, e1, e2, e3, hr⟩ := at_ i hi'
  obtain ⟨g, eg, _, cg, _⟩ := h.cellA h0 (q := 1) (by omega) rfl
  rw [eg, adr_some, Nat.zero_add, cg, e1, e2, e3]
 ·obtain ⟨m, h0, e1, e2, e3, hr⟩ := at_ i hi'
  rw [e1, e3]
  exact hr.room (Nat.mul_one _).symm
 ·obtain ⟨m, g, h0, eg, ea, ec, _⟩ := inn i j hi' hj
  rw [ea]
  obtain ⟨u, hu⟩ : ∃ u, (flatA H)[q]? = some u := ⟨_, List.getElem?_eq_getElem (by rw [flatA_len, hl]; exact hq)⟩
  obtain ⟨g2, eg2, _⟩ := h.cell hu
  have c2 := h.col _ eg2
  rw [eg2, adr_some]
  intro e
  simp only [Addr.mk.injEq] at e
  rw [e.1] at ec
  dsimp only at c2
  omega
 ·obtain ⟨m, g, h0, eg, ea, ec, _⟩ := inn i j h1 hj
  obtain ⟨m', g', h0', eg', ea', ec', _⟩ := inn i' j' h2 hj'
  rw [ea, ea']
  intro e
  simp only [Addr.mk.injEq] at e
  have pw := List.pairwise_iff_getElem.1 hi.apart
  obtain ⟨l1, f1⟩ := List.getElem?_eq_some_iff.1 h0
  obtain ⟨l2, f2⟩ := List.getElem?_eq_some_iff.1 h0'
  rcases Nat.lt_or_gt_of_ne hne with hlt | hlt
  ·exact pw i i' l1 l2 hlt _ _ (by rw [f1]; exact eg) (by rw [f2]; exact eg') e.1
  exact pw i' i l2 l1 hlt _ _ (by rw [f2]; exact eg') (by rw [f1]; exact eg) e.1.symm
 obtain ⟨m, g, h0, eg, ea, ec, eb⟩ := inn i j hi' hj
 rw [ea]
 exact ⟨ec, eb⟩
theorem zR_col {B : Nat} {w : World} {col : Nat → Nat} {t : Nat} {e : TypeId} {k : Nat} {a : Option Addr} {n c : Nat} {xs : List Value} (h : RowC B w col t e k a n c xs) {m : Nat} (hm : m = n * k) {x : Addr} (hz : zR a m x) : col x.block = t ∧ B ≤ x.block := by
 obtain ⟨j, hj, rfl⟩ := hz
 obtain ⟨b, off, rfl, _⟩ := h.room hm j hj
 exact ⟨h.col ⟨b, off, none⟩ rfl, (h.lt ⟨b, off, none⟩ rfl).1⟩
theorem RcHas.lay {B : Nat} {w : World} {r : Rc} {p : RcP} {X : RcX} {col : Nat → Nat} (h : RcHas B w r p X col) :
  RcLay w r p (ixA (X.H.map (·.2))) (lenM r.held) (ixC (X.H.map (·.2))) (ixA (X.A.map (·.2))) (lenA r.acks) (ixC (X.A.map (·.2))) ∧
  ∀ i x, zone r p (ixA (X.H.map (·.2))) (lenM r.held) (ixA (X.A.map (·.2))) (lenA r.acks) i x → B ≤ x.block := by
 obtain ⟨lH, cH⟩ := lay_m h.h rfl h.hm h.hi
 obtain ⟨lA, cA⟩ := lay_a h.a rfl h.am h.ai
 have zz : ∀ i x, zone r p (ixA (X.H.map (·.2))) (lenM r.held) (ixA (X.A.map (·.2))) (lenA r.acks) i x → (col x.block = i ∨ (i = 2 ∧ col x.block = 7) ∨ (i = 6 ∧ col x.block = 8)) ∧ i < 7 ∧ B ≤ x.block := fun i x hz => by
  match i, hz with
  | 0, hz => have := zR_col h.s rfl hz; exact ⟨.inl this.1, by omega, this.2⟩
  | 1, hz => have := zR_col h.d rfl hz; exact ⟨.inl this.1, by omega, this.2⟩
  | 2, hz =>
   rcases hz with hz | ⟨i, j, hi, hj, rfl⟩
   ·have := zR_col h.h rfl hz; exact ⟨.inl this.1, by omega, this.2⟩
   ·have := cH i j hi hj; exact ⟨.inr (.inl ⟨rfl, this.1⟩), by omega, this.2⟩
  | 3, hz => have := zR_col h.t (Nat.mul_one _).symm hz; exact ⟨.inl this.1, by omega, this.2⟩
  | 4, hz => have := zR_col h.y (Nat.mul_one _).symm hz; exact ⟨.inl this.1, by omega, this.2⟩
  | 5, hz => have := zR_col h.b rfl hz; exact ⟨.inl this.1, by omega, this.2⟩
  | 6, hz =>
   rcases hz with hz | ⟨i, j, hi, hj, rfl⟩
   ·have := zR_col h.a rfl hz; exact ⟨.inl this.1, by omega, this.2⟩
   have := cA i j hi hj; exact ⟨.inr (.inr ⟨rfl, this.1⟩), by omega, this.2⟩
  | _ + 7, hz => exact hz.elim
 refine ⟨⟨h.s.room rfl, h.d.room rfl, lH, h.t.room (Nat.mul_one _).symm, h.y.room (Nat.mul_one _).symm, h.b.room rfl, lA, fun i j x hne h1 h2 => ?_⟩, fun i x hz => (zz i x hz).2.2⟩
 have q1 := zz i x h1
 have q2 := zz j x h2
 omega
theorem own_low {w : World} {B B' size n : Nat} {e : TypeId} {v : Value} {xs : List Value} (h : w.ownsRow B e size v n xs) (hb : B' ≤ B) : w.ownsRow B' e size v n xs := by
 refine ⟨h.1, ?_⟩
 rcases h.2 with h0 | ⟨g, cap, cur, hv, hB, r⟩
 ·exact .inl h0
 exact .inr ⟨g, cap, cur, hv, Nat.le_trans hb hB, r⟩
theorem l1Disk_at (x y : Int) (a : Option Addr) (l : List Sl) (n cap : Nat) (w : World) (hn : l.length = n) (hc : n ≤ 1048576) (ha : a = none → cap = 0) (hsp : ∀ x, a = some x → x.spot = none) (h : SlotsAt w a l) :
  Calls Tryz.prog 57 #[.agg #[.int .i64 x, .int .i64 y, .slice a n cap]] w fun e w' => ∃ g' cap', e = .returned (.agg #[.int .i64 x, .int .i64 y, .slice (some ⟨g', 0, none⟩) n cap']) ∧ w.heap.size ≤ g' ∧ w'.ownsRow w.heap.size 108 2 (.slice (some ⟨g', 0, none⟩) n cap') n (flat l) ∧ Below w.heap.size w w' := by
 have HL := hid hn
 have hB := hid (show Below w.heap.size w ((w.alloc (.cells #[.int .i64 x, .int .i64 y, .slice a n cap] 37)).alloc (.cells #[.int .i64 0, .int .i64 0, .slice none 0 0] 37)) from ext_alloc (ext_alloc (Below.refl _ _) _) _)
 clear hn
 go_enter Tryz.func57, Tryz.ntmps57
 go_wp2_with fail
 refine (l1Slots_at a l n cap _ HL.out hc ha hsp (h.ext hB.out)).mono ?_
 rintro e w1 ⟨g, cap', rfl, hg, hown, hb1⟩
 have b0 : Blk w1 w.heap.size #[.int .i64 x, .int .i64 y, .slice a n cap] 37 := ((Blk.new w _ _).alloc _).ext hb1
 have b1 : Blk w1 (w.heap.size + 1) #[.int .i64 0, .int .i64 0, .slice none 0 0] 37 := (Blk.new' _ _ (by simp)).ext hb1
 have c0 := b0.cell
 have c1 := b1.cell
 have f0 := b0.free
 have f1 := b1.free
 have hg' : w.heap.size + 1 < g := by simp at hg; omega
 have OW := hid (own_low hown (show w.heap.size + 1 + 1 ≤ _ by simp))
 have BB := hid (ext_trans hB.out hb1)
 clear b0 b1 h hown hb1 hg ha hsp
 go_wp2
 refine bodyPost_ret (v := .agg #[.int .i64 x, .int .i64 y, .slice (some ⟨g, 0, none⟩) n cap']) (by simp [results, Tryz.results57, go_sem, c0, c1]) rfl ⟨g, cap', rfl, by omega, ?_, ?_⟩
 ·refine own_low (B := w.heap.size + 1 + 1) ?_ (by omega)
  iterate 4 refine ownsRow_setCell_below ?_ (by simp; try omega) _
  exact OW.out
 iterate 4 refine Below.setCell ?_ (by simp; try omega) _
 exact BB.out
theorem l2Message_at (h : MsgH) (a : Option Addr) (l : List Sl) (n cap : Nat) (w : World) (hn : l.length = n) (hc : n ≤ 1048576) (ha : a = none → cap = 0) (hsp : ∀ x, a = some x → x.spot = none) (hs : SlotsAt w a l) :
  Calls Tryz.prog 31 #[.agg (msgV h (.slice a n cap))] w fun e w' => ∃ g' cap', e = .returned (.agg (msgV h (.slice (some ⟨g', 0, none⟩) n cap'))) ∧ w.heap.size ≤ g' ∧ w'.ownsRow w.heap.size 108 2 (.slice (some ⟨g', 0, none⟩) n cap') n (flat l) ∧ Below w.heap.size w w' := by
 have HL := hid hn
 have hB := hid (show Below w.heap.size w ((w.alloc (.cells (msgV h (.slice a n cap)) 45)).alloc (.cells (msgV ⟨0, 0, 0, 0, 0, 0, ⟨#[]⟩⟩ (.slice none 0 0)) 45)) from ext_alloc (ext_alloc (Below.refl _ _) _) _)
 clear hn
 go_enter Tryz.func31, Tryz.ntmps31
 go_wp2_with fail
 refine (l1Slots_at a l n cap _ HL.out hc ha hsp (hs.ext hB.out)).mono ?_
 rintro e w1 ⟨g, cap', rfl, hg, hown, hb1⟩
 have b0 : Blk w1 w.heap.size (msgV h (.slice a n cap)) 45 := ((Blk.new w _ _).alloc _).ext hb1
 have b1 : Blk w1 (w.heap.size + 1) (msgV ⟨0, 0, 0, 0, 0, 0, ⟨#[]⟩⟩ (.slice none 0 0)) 45 := (Blk.new' _ _ (by simp)).ext hb1
 have c0 := b0.cell
 have c1 := b1.cell
 have f0 := b0.free
 have f1 := b1.free
 have hg' : w.heap.size + 1 < g := by simp at hg; omega
 have OW := hid (own_low hown (show w.heap.size + 1 + 1 ≤ _ by simp))
 have BB := hid (ext_trans hB.out hb1)
 clear b0 b1 hs hown hb1 hg ha hsp
 go_wp2
 refine bodyPost_ret (v := .agg (msgV h (.slice (some ⟨g, 0, none⟩) n cap'))) (by simp [results, Tryz.results31, go_sem, c0, c1]) rfl ⟨g, cap', rfl, by omega, ?_, ?_⟩
 ·refine own_low (B := w.heap.size + 1 + 1) ?_ (by omega)
  iterate 9 refine ownsRow_setCell_below ?_ (by simp; try omega) _
  exact OW.out
 iterate 9 refine Below.setCell ?_ (by simp; try omega) _
 exact BB.out
def MsgsPlain (w : World) (a : Option Addr) (l : List Ms) : Prop := ∀ (i b off : Nat) (s : Ms) (sa : Option Addr) (m cap : Nat), l[i]? = some s → a = some ⟨b, off, none⟩ → w.cell? ⟨b, off + i * 8 + 7, none⟩ = some (.slice sa m cap) → (sa = none → cap = 0) ∧ ∀ x, sa = some x → x.spot = none
theorem own_ext' {w w' : World} {B n k : Nat} {e : TypeId} {v : Value} {xs : List Value} (h : w.ownsRow B e k v n xs) (hb : Below w.heap.size w w') : w'.ownsRow B e k v n xs := by
 refine ⟨h.1, ?_⟩
 rcases h.2 with h0 | ⟨g, cap, cur, hv, hB, hg, r⟩
 ·exact .inl h0
 exact .inr ⟨g, cap, cur, hv, hB, (hb.block g (Array.getElem?_eq_some_iff.1 hg).1).trans hg, r⟩
theorem own_none8 (w : World) (e : TypeId) (size : Nat) : (w.alloc (.cells #[] e)).ownsRow w.heap.size e size (.slice (some ⟨w.heap.size, 0, none⟩) 0 0) 0 [] :=
 ⟨by simp, .inr ⟨w.heap.size, 0, #[], rfl, Nat.le_refl _, heap_alloc_new w _, Nat.le_refl _, by unfold maxLen; omega, by simp, by simp⟩⟩
theorem own_formk {w : World} {B n k : Nat} {e : TypeId} {v : Value} {xs : List Value} (h : w.ownsRow B e k v n xs) (hv : v ≠ .slice none 0 0) : ∃ g cap C, v = .slice (some ⟨g, 0, none⟩) n cap ∧ B ≤ g ∧ n ≤ cap ∧ Blk w g C e := by
 rcases h.2 with ⟨h0, _⟩ | ⟨g, cap, cur, rfl, hb, hg, hn, _⟩
 ·exact absurd h0 hv
 exact ⟨g, cap, cur, rfl, hb, hn, hg⟩
structure ReadAt (w : World) (a : Option Addr) (n c k : Nat) (xs : List Value) : Prop where
 len : xs.length = n * k
 nil : a = none → n = 0 ∧ c = 0
 cells : ∀ x, a = some x → x.spot = none ∧ ∀ j u, xs[j]? = some u → w.cell? (x.add j) = some u
theorem RowC.read {B : Nat} {w : World} {col : Nat → Nat} {t : Nat} {e : TypeId} {k : Nat} {a : Option Addr} {n c : Nat} {xs : List Value} (h : RowC B w col t e k a n c xs) : ReadAt w a n c k xs := by
 refine ⟨h.own.1, fun ha => ?_, fun x hx => ⟨h.plain.2 x hx, fun j u hu => ?_⟩⟩
 ·rcases h.form with ⟨_, h1, h2, _⟩ | ⟨g, cur, h1, _⟩
  ·exact ⟨h1, h2⟩
  rw [ha] at h1; simp at h1
 obtain ⟨g, h1, _, h2, _⟩ := h.cell hu
 rw [hx] at h1
 simp only [Option.some.injEq] at h1
 rw [h1, Addr.add_mid, Nat.zero_add]
 exact h2
theorem ReadAt.ext {w w' : World} {a : Option Addr} {n c k : Nat} {xs : List Value} (h : ReadAt w a n c k xs) (hb : Below w.heap.size w w') : ReadAt w' a n c k xs :=
 ⟨h.len, h.nil, fun x hx => ⟨(h.cells x hx).1, fun j u hu => by
  have h0 := (h.cells x hx).2 j u hu
  exact (hb.cell (World.block_lt_of_cell? w _ h0)).trans h0⟩⟩
structure RowZ (lo hi : Nat) (w : World) (e : TypeId) (k : Nat) (a : Option Addr) (n c : Nat) (xs : List Value) : Prop where
 own : w.ownsRow lo e k (.slice a n c) n xs
 hi : ∀ x, a = some x → x.block < hi
theorem RowZ.lo {lo hi : Nat} {w : World} {e : TypeId} {k : Nat} {a : Option Addr} {n c : Nat} {xs : List Value} (h : RowZ lo hi w e k a n c xs) : ∀ x, a = some x → lo ≤ x.block ∧ x.block < w.heap.size := fun x hx => by
 have := h.own.lt x.block (by rw [hx]; rfl)
 exact this
theorem RowZ.mk' {lo : Nat} {w : World} {e : TypeId} {k : Nat} {a : Option Addr} {n c : Nat} {xs : List Value} (h : w.ownsRow lo e k (.slice a n c) n xs) : RowZ lo w.heap.size w e k a n c xs :=
 ⟨h, fun x hx => (h.lt x.block (by rw [hx]; rfl)).2⟩
theorem RowZ.same {lo hi : Nat} {w w' : World} {e : TypeId} {k : Nat} {a : Option Addr} {n c : Nat} {xs : List Value} (h : RowZ lo hi w e k a n c xs) (hs : ∀ b, lo ≤ b → b < hi → b < w.heap.size → w'.heap[b]? = w.heap[b]?) : RowZ lo hi w' e k a n c xs := by
 refine ⟨⟨h.own.1, ?_⟩, h.hi⟩
 rcases h.own.2 with h0 | ⟨g, cap, cur, hv, hB, hg, r⟩
 ·exact .inl h0
 refine .inr ⟨g, cap, cur, hv, hB, ?_, r⟩
 simp only [Value.slice.injEq] at hv
 exact (hs g hB (h.hi _ hv.1) (Array.getElem?_eq_some_iff.1 hg).1).trans hg
theorem RowZ.ext {lo hi : Nat} {w w' : World} {e : TypeId} {k : Nat} {a : Option Addr} {n c : Nat} {xs : List Value} (h : RowZ lo hi w e k a n c xs) (hb : Below w.heap.size w w') : RowZ lo hi w' e k a n c xs :=
 h.same fun b _ _ hlt => hb.block b hlt
theorem RowZ.below {lo hi B : Nat} {w w' : World} {e : TypeId} {k : Nat} {a : Option Addr} {n c : Nat} {xs : List Value} (h : RowZ lo hi w e k a n c xs) (hb : Below B w w') (hB : hi ≤ B) : RowZ lo hi w' e k a n c xs :=
 h.same fun b _ hlt _ => hb.block b (by omega)
theorem RowZ.set {lo hi : Nat} {w : World} {e : TypeId} {k : Nat} {a : Option Addr} {n c : Nat} {xs : List Value} (h : RowZ lo hi w e k a n c xs) {q : Addr} (hq : q.block < lo) (v : Value) : RowZ lo hi (w.setCell q v) e k a n c xs :=
 h.same fun b h1 _ _ => heap_setCell_other w q b v (by omega)
theorem RowZ.row {lo hi : Nat} {B : Nat} {w : World} {col : Nat → Nat} {t : Nat} {e : TypeId} {k : Nat} {a : Option Addr} {n c : Nat} {xs : List Value} (h : RowZ lo hi w e k a n c xs) (hB : B ≤ lo) (hc : ∀ b, lo ≤ b → b < hi → col b = t) : RowC B w col t e k a n c xs :=
 (RowC.mk (B := lo) h.own (fun x hx => hc _ (h.lo x hx).1 (h.hi x hx))).low hB
theorem own_slice {w : World} {B n k : Nat} {e : TypeId} {v : Value} {xs : List Value} (h : w.ownsRow B e k v n xs) : ∃ a c, v = .slice a n c := by
 rcases h.2 with ⟨rfl, rfl⟩ | ⟨g, cap, _, rfl, _⟩
 ·exact ⟨_, _, rfl⟩
 exact ⟨_, _, rfl⟩
theorem wpList_append_sl {ops : Array Oper} {rest : List Oper} {dst : Option Tmp} {s x : Operand} {τ : TypeId} {pos : String} {after : Array Edge} {a : Act} {w : World} {Q : Exit → Act → World → Prop}
  (B : Nat) (v : Value) (xs news : List Value) (n m c : Nat) (ad : Addr) (hs : a.eval s = v) (hx : a.eval x = .slice (some ad) m c) (hown : w.ownsRow B 108 2 v n xs) (hl : news.length = m * 2)
  (hnews : ∀ j u, news[j]? = some u → w.cell? (ad.add j) = some u) (h1 : ∀ u ∈ news, u.oneCell' = true) (hN : n + m ≤ 4194304) (hB : B ≤ w.heap.size)
  (h : ∀ v' w', w'.ownsRow B 108 2 v' (n + m) (xs ++ news) → w.grownBy w' v.ownBlock → (v' = .slice none 0 0 ↔ v = .slice none 0 0 ∧ m = 0) → wpList Tryz.prog ops Q rest (a.put dst v') w') :
  wpList Tryz.prog ops Q ({ dst := dst, op := .call { callee := .builtin .append, args := #[s, x], argTypes := #[35, 35] }, type := τ, pos := pos, after := after, guard := none } :: rest) a w := by
 obtain ⟨i, q1, q2, q3, q4⟩ := slotInfo
 exact wpList_append_own_wide w rfl s x 35 rfl B 108 i (.agg #[.int .i64 0, .string ⟨#[]⟩]) 2 24 Tryz.underlying35 q1 q2 q3 q4 rfl (by omega) v n xs hs hown ad m c news hx hl hnews h1 (by unfold maxLen; omega) (by omega) hB h
theorem copyS (a : Option Addr) (n c : Nat) (xs : List Value) (w : World) (h : ReadAt w a n c 2 xs) (hc : n ≤ 1048576) (h1 : ∀ u ∈ xs, u.oneCell' = true) :
  Calls Tryz.prog 95 #[.slice a n c] w fun e w' => ∃ a' c', e = .returned (.slice a' n c') ∧ RowZ w.heap.size w'.heap.size w' 108 2 a' n c' xs ∧ Below w.heap.size w w' := by
 have HL := hid h.len
 have H1 := hid h1
 cases a with
 | some x =>
  have HC := hid (h.cells x rfl).2
  have HO := hid (World.ownsRow_nil w w.heap.size 108 2)
  clear h h1
  go_enter Tryz.func95, Tryz.ntmps95
  go_wp2_with ((with_reducible refine wpList_append_sl w.heap.size (.slice none 0 0) [] xs 0 n c x ?_ ?_ ?_ ?_ ?_ ?_ ?_ ?_ ?_); (· rfl); (· rfl); (· exact HO.out); (· exact HL.out); (· exact HC.out); (· exact H1.out); (· omega); (· exact Nat.le_refl _); intro v' w' q1 q2 q3; have Q1 := hid q1; have Q2 := hid q2; clear q1 q2 q3)
  go_ret
  have o := Q1.out
  simp only [Nat.zero_add, List.nil_append] at o
  obtain ⟨a', c', rfl⟩ := own_slice o
  exact ⟨a', c', rfl, RowZ.mk' o, ext_grown (Below.refl _ _) Q2.out (fun j hj => by simp [Value.ownBlock] at hj)⟩
 | none =>
  obtain ⟨rfl, rfl⟩ := h.nil rfl
  have e9 : xs = [] := by have := h.len; simpa using this
  subst e9
  clear h h1
  go_enter Tryz.func95, Tryz.ntmps95
  go_wp2_with fail
  go_ret
  exact ⟨none, 0, rfl, RowZ.mk' (World.ownsRow_nil _ _ _ _), Below.refl _ _⟩
theorem copyM (a : Option Addr) (n c : Nat) (xs : List Value) (w : World) (h : ReadAt w a n c 8 xs) (hc : n ≤ 1048576) (h1 : ∀ u ∈ xs, u.oneCell' = true) :
  Calls Tryz.prog 132 #[.slice a n c] w fun e w' => ∃ a' c', e = .returned (.slice a' n c') ∧ RowZ w.heap.size w'.heap.size w' 45 8 a' n c' xs ∧ Below w.heap.size w w' := by
 have HL := hid h.len
 have H1 := hid h1
 cases a with
 | some x =>
  have HC := hid (h.cells x rfl).2
  have HO := hid (World.ownsRow_nil w w.heap.size 45 8)
  clear h h1
  go_enter Tryz.func132, Tryz.ntmps132
  go_wp2_with ((with_reducible refine wpList_append_msgs w.heap.size (.slice none 0 0) [] xs 0 n c x ?_ ?_ ?_ ?_ ?_ ?_ ?_ ?_ ?_); (· rfl); (· rfl); (· exact HO.out); (· exact HL.out); (· exact HC.out); (· exact H1.out); (· omega); (· exact Nat.le_refl _); intro v' w' q1 q2 q3; have Q1 := hid q1; have Q2 := hid q2; clear q1 q2 q3)
  go_ret
  have o := Q1.out
  simp only [Nat.zero_add, List.nil_append] at o
  obtain ⟨a', c', rfl⟩ := own_slice o
  exact ⟨a', c', rfl, RowZ.mk' o, ext_grown (Below.refl _ _) Q2.out (fun j hj => by simp [Value.ownBlock] at hj)⟩
 | none =>
  obtain ⟨rfl, rfl⟩ := h.nil rfl
  have e9 : xs = [] := by have := h.len; simpa using this
  subst e9
  clear h h1
  go_enter Tryz.func132, Tryz.ntmps132
  go_wp2_with fail
  go_ret
  exact ⟨none, 0, rfl, RowZ.mk' (World.ownsRow_nil _ _ _ _), Below.refl _ _⟩
theorem copyT (a : Option Addr) (n c : Nat) (xs : List Value) (w : World) (h : ReadAt w a n c 1 xs) (hc : n ≤ 1048576) (h1 : ∀ u ∈ xs, u.oneCell' = true) :
  Calls Tryz.prog 97 #[.slice a n c] w fun e w' => ∃ a' c', e = .returned (.slice a' n c') ∧ RowZ w.heap.size w'.heap.size w' 9 1 a' n c' xs ∧ Below w.heap.size w w' := by
 have HL := hid h.len
 have H1 := hid h1
 cases a with
 | some x =>
  have HC := hid (h.cells x rfl).2
  have HO := hid (World.ownsRow_nil w w.heap.size 9 1)
  clear h h1
  go_enter Tryz.func97, Tryz.ntmps97
  go_wp2_with ((with_reducible refine wpList_append_strs w.heap.size (.slice none 0 0) [] xs 0 n c x ?_ ?_ ?_ ?_ ?_ ?_ ?_ ?_ ?_); (· rfl); (· rfl); (· exact HO.out); (· exact HL.out); (· exact HC.out); (· exact H1.out); (· omega); (· exact Nat.le_refl _); intro v' w' q1 q2 q3; have Q1 := hid q1; have Q2 := hid q2; clear q1 q2 q3)
  go_ret
  have o := Q1.out
  simp only [Nat.zero_add, List.nil_append] at o
  obtain ⟨a', c', rfl⟩ := own_slice o
  exact ⟨a', c', rfl, RowZ.mk' o, ext_grown (Below.refl _ _) Q2.out (fun j hj => by simp [Value.ownBlock] at hj)⟩
 | none =>
  obtain ⟨rfl, rfl⟩ := h.nil rfl
  have e9 : xs = [] := by have := h.len; simpa using this
  subst e9
  clear h h1
  go_enter Tryz.func97, Tryz.ntmps97
  go_wp2_with fail
  go_ret
  exact ⟨none, 0, rfl, RowZ.mk' (World.ownsRow_nil _ _ _ _), Below.refl _ _⟩
theorem copyI (a : Option Addr) (n c : Nat) (xs : List Value) (w : World) (h : ReadAt w a n c 1 xs) (hc : n ≤ 1048576) (h1 : ∀ u ∈ xs, u.oneCell' = true) :
  Calls Tryz.prog 98 #[.slice a n c] w fun e w' => ∃ a' c', e = .returned (.slice a' n c') ∧ RowZ w.heap.size w'.heap.size w' 3 1 a' n c' xs ∧ Below w.heap.size w w' := by
 have HL := hid h.len
 have H1 := hid h1
 cases a with
 | some x =>
  have HC := hid (h.cells x rfl).2
  have HO := hid (World.ownsRow_nil w w.heap.size 3 1)
  clear h h1
  go_enter Tryz.func98, Tryz.ntmps98
  go_wp2_with ((with_reducible refine wpList_append_ints w.heap.size (.slice none 0 0) [] xs 0 n c x ?_ ?_ ?_ ?_ ?_ ?_ ?_ ?_ ?_); (· rfl); (· rfl); (· exact HO.out); (· exact HL.out); (· exact HC.out); (· exact H1.out); (· omega); (· exact Nat.le_refl _); intro v' w' q1 q2 q3; have Q1 := hid q1; have Q2 := hid q2; clear q1 q2 q3)
  go_ret
  have o := Q1.out
  simp only [Nat.zero_add, List.nil_append] at o
  obtain ⟨a', c', rfl⟩ := own_slice o
  exact ⟨a', c', rfl, RowZ.mk' o, ext_grown (Below.refl _ _) Q2.out (fun j hj => by simp [Value.ownBlock] at hj)⟩
 | none =>
  obtain ⟨rfl, rfl⟩ := h.nil rfl
  have e9 : xs = [] := by have := h.len; simpa using this
  subst e9
  clear h h1
  go_enter Tryz.func98, Tryz.ntmps98
  go_wp2_with fail
  go_ret
  exact ⟨none, 0, rfl, RowZ.mk' (World.ownsRow_nil _ _ _ _), Below.refl _ _⟩
theorem copyA (a : Option Addr) (n c : Nat) (xs : List Value) (w : World) (h : ReadAt w a n c 2 xs) (hc : n ≤ 1048576) (h1 : ∀ u ∈ xs, u.oneCell' = true) :
  Calls Tryz.prog 99 #[.slice a n c] w fun e w' => ∃ a' c', e = .returned (.slice a' n c') ∧ RowZ w.heap.size w'.heap.size w' 105 2 a' n c' xs ∧ Below w.heap.size w w' := by
 have HL := hid h.len
 have H1 := hid h1
 cases a with
 | some x =>
  have HC := hid (h.cells x rfl).2
  have HO := hid (World.ownsRow_nil w w.heap.size 105 2)
  clear h h1
  go_enter Tryz.func99, Tryz.ntmps99
  go_wp2_with ((with_reducible refine wpList_append_acks w.heap.size (.slice none 0 0) [] xs 0 n c x ?_ ?_ ?_ ?_ ?_ ?_ ?_ ?_ ?_); (· rfl); (· rfl); (· exact HO.out); (· exact HL.out); (· exact HC.out); (· exact H1.out); (· omega); (· exact Nat.le_refl _); intro v' w' q1 q2 q3; have Q1 := hid q1; have Q2 := hid q2; clear q1 q2 q3)
  go_ret
  have o := Q1.out
  simp only [Nat.zero_add, List.nil_append] at o
  obtain ⟨a', c', rfl⟩ := own_slice o
  exact ⟨a', c', rfl, RowZ.mk' o, ext_grown (Below.refl _ _) Q2.out (fun j hj => by simp [Value.ownBlock] at hj)⟩
 | none =>
  obtain ⟨rfl, rfl⟩ := h.nil rfl
  have e9 : xs = [] := by have := h.len; simpa using this
  subst e9
  clear h h1
  go_enter Tryz.func99, Tryz.ntmps99
  go_wp2_with fail
  go_ret
  exact ⟨none, 0, rfl, RowZ.mk' (World.ownsRow_nil _ _ _ _), Below.refl _ _⟩
end Go.Proofs.YtffklmlljekceaaGreat
