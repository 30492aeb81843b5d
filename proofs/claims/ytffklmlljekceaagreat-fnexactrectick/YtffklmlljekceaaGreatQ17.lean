import Derived.Test.YtffklmlljekceaaGreatQ14
namespace Go.Proofs.YtffklmlljekceaaGreat
open Go.ChangeShapes Go.WideShapes Go.ChangeAt Go.RowKit
set_option linter.unusedSimpArgs false
set_option linter.unusedVariables false
set_option maxHeartbeats 8000000
set_option maxRecDepth 20000
theorem Blk.set {w : World} {b o : Nat} {c : Array Value} {t : TypeId} (h : Blk w b c t) (v : Value) : Blk (w.setCell ⟨b, o, none⟩ v) b (c.setIfInBounds o v) t := heap_setCell_same _ _ o _ _ v h
def colZ (n1 n2 n3 n4 n5 n6 n7 n8 b : Nat) : Nat := if b < n1 then 0 else if b < n2 then 1 else if b < n3 then 2 else if b < n4 then 7 else if b < n5 then 3 else if b < n6 then 4 else if b < n7 then 5 else if b < n8 then 6 else 8
structure Lad (n1 n2 n3 n4 n5 n6 n7 n8 : Nat) : Prop where
 h1 : n1 ≤ n2
 h2 : n2 ≤ n3
 h3 : n3 ≤ n4
 h4 : n4 ≤ n5
 h5 : n5 ≤ n6
 h6 : n6 ≤ n7
 h7 : n7 ≤ n8
theorem colZ_0 {n1 n2 n3 n4 n5 n6 n7 n8 b : Nat} (L : Lad n1 n2 n3 n4 n5 n6 n7 n8) (h2 : b < n1) : colZ n1 n2 n3 n4 n5 n6 n7 n8 b = 0 := by
 obtain ⟨l1, l2, l3, l4, l5, l6, l7⟩ := L
 unfold colZ
 rw [if_pos h2]
theorem colZ_1 {n1 n2 n3 n4 n5 n6 n7 n8 b : Nat} (L : Lad n1 n2 n3 n4 n5 n6 n7 n8) (h : n1 ≤ b) (h2 : b < n2) : colZ n1 n2 n3 n4 n5 n6 n7 n8 b = 1 := by
 obtain ⟨l1, l2, l3, l4, l5, l6, l7⟩ := L
 unfold colZ
 rw [if_neg (by omega), if_pos h2]
theorem colZ_2 {n1 n2 n3 n4 n5 n6 n7 n8 b : Nat} (L : Lad n1 n2 n3 n4 n5 n6 n7 n8) (h : n2 ≤ b) (h2 : b < n3) : colZ n1 n2 n3 n4 n5 n6 n7 n8 b = 2 := by
 obtain ⟨l1, l2, l3, l4, l5, l6, l7⟩ := L
 unfold colZ
 rw [if_neg (by omega), if_neg (by omega), if_pos h2]
theorem colZ_7 {n1 n2 n3 n4 n5 n6 n7 n8 b : Nat} (L : Lad n1 n2 n3 n4 n5 n6 n7 n8) (h : n3 ≤ b) (h2 : b < n4) : colZ n1 n2 n3 n4 n5 n6 n7 n8 b = 7 := by
 obtain ⟨l1, l2, l3, l4, l5, l6, l7⟩ := L
 unfold colZ
 rw [if_neg (by omega), if_neg (by omega), if_neg (by omega), if_pos h2]
theorem colZ_3 {n1 n2 n3 n4 n5 n6 n7 n8 b : Nat} (L : Lad n1 n2 n3 n4 n5 n6 n7 n8) (h : n4 ≤ b) (h2 : b < n5) : colZ n1 n2 n3 n4 n5 n6 n7 n8 b = 3 := by
 obtain ⟨l1, l2, l3, l4, l5, l6, l7⟩ := L
 unfold colZ
 rw [if_neg (by omega), if_neg (by omega), if_neg (by omega), if_neg (by omega), if_pos h2]
theorem colZ_4 {n1 n2 n3 n4 n5 n6 n7 n8 b : Nat} (L : Lad n1 n2 n3 n4 n5 n6 n7 n8) (h : n5 ≤ b) (h2 : b < n6) : colZ n1 n2 n3 n4 n5 n6 n7 n8 b = 4 := by
 obtain ⟨l1, l2, l3, l4, l5, l6, l7⟩ := L
 unfold colZ
 rw [if_neg (by omega), if_neg (by omega), if_neg (by omega), if_neg (by omega), if_neg (by omega), if_pos h2]
theorem colZ_5 {n1 n2 n3 n4 n5 n6 n7 n8 b : Nat} (L : Lad n1 n2 n3 n4 n5 n6 n7 n8) (h : n6 ≤ b) (h2 : b < n7) : colZ n1 n2 n3 n4 n5 n6 n7 n8 b = 5 := by
 obtain ⟨l1, l2, l3, l4, l5, l6, l7⟩ := L
 unfold colZ
 rw [if_neg (by omega), if_neg (by omega), if_neg (by omega), if_neg (by omega), if_neg (by omega), if_neg (by omega), if_pos h2]
theorem colZ_6 {n1 n2 n3 n4 n5 n6 n7 n8 b : Nat} (L : Lad n1 n2 n3 n4 n5 n6 n7 n8) (h : n7 ≤ b) (h2 : b < n8) : colZ n1 n2 n3 n4 n5 n6 n7 n8 b = 6 := by
 obtain ⟨l1, l2, l3, l4, l5, l6, l7⟩ := L
 unfold colZ
 rw [if_neg (by omega), if_neg (by omega), if_neg (by omega), if_neg (by omega), if_neg (by omega), if_neg (by omega), if_neg (by omega), if_pos h2]
theorem colZ_8 {n1 n2 n3 n4 n5 n6 n7 n8 b : Nat} (L : Lad n1 n2 n3 n4 n5 n6 n7 n8) (h : n8 ≤ b) : colZ n1 n2 n3 n4 n5 n6 n7 n8 b = 8 := by
 obtain ⟨l1, l2, l3, l4, l5, l6, l7⟩ := L
 unfold colZ
 rw [if_neg (by omega), if_neg (by omega), if_neg (by omega), if_neg (by omega), if_neg (by omega), if_neg (by omega), if_neg (by omega), if_neg (by omega)]
theorem below_set {B : Nat} {a w : World} (h : Below B a w) {q : Addr} (hq : B ≤ q.block) (v : Value) : Below B a (w.setCell q v) := h.setCell hq v
theorem flatM_put (A D : List Mp) (m : Mp) (a : Option Addr) (c : Nat) : (flatM (A ++ m :: D)).set (A.length * 8 + 7) (.slice a m.1.2.length c) = flatM (A ++ (m.1, a, c) :: D) := by
 simp only [flatM, List.flatMap_append, List.flatMap_cons]
 have hl : (A.flatMap cellsM).length = A.length * 8 := flatM_len A
 rw [List.set_append_right _ _ (by omega), hl, show A.length * 8 + 7 - A.length * 8 = 7 by omega, List.set_append_left _ _ (by simp [cellsM_len])]
 rfl
theorem flatA_put (A D : List Ap) (m : Ap) (a : Option Addr) (c : Nat) : (flatA (A ++ m :: D)).set (A.length * 2 + 1) (.slice a m.1.2.length c) = flatA (A ++ (m.1, a, c) :: D) := by
 simp only [flatA, List.flatMap_append, List.flatMap_cons]
 have hl : (A.flatMap cellsA).length = A.length * 2 := flatA_len A
 rw [List.set_append_right _ _ (by omega), hl, show A.length * 2 + 1 - A.length * 2 = 1 by omega, List.set_append_left _ _ (by simp [cellsA_len])]
 rfl
structure BoxS (z : Nat) (V : World) (g : Nat) (c : Array Value) (w' : World) : Prop where
 blk : Blk w' g c 41
 bel : Below z V w'
theorem BoxS.drew {z : Nat} {V : World} {g : Nat} {c : Array Value} {w' : World} (h : BoxS z V g c w') : BoxS z V g c w'.drew := ⟨h.blk, h.bel.drew⟩
theorem BoxS.ext {z : Nat} {V : World} {g : Nat} {c : Array Value} {w' v' : World} (h : BoxS z V g c w') (hz : z ≤ V.heap.size) (hb : Below w'.heap.size w' v') : BoxS z V g c v' := ⟨h.blk.ext hb, h.bel.trans (hb.mono (Nat.le_trans hz h.bel.size))⟩
structure InnZM (lo hi : Nat) (w : World) (H : List Mp) : Prop where
 row : ∀ m ∈ H, RowZ lo hi w 108 2 m.2.1 m.1.2.length m.2.2 (flat m.1.2)
 apart : H.Pairwise (fun m m' => ∀ x x', m.2.1 = some x → m'.2.1 = some x' → x.block ≠ x'.block)
theorem InnZM.ext {lo hi : Nat} {w w' : World} {H : List Mp} (h : InnZM lo hi w H) (hb : Below w.heap.size w w') : InnZM lo hi w' H := ⟨fun m hm => (h.row m hm).ext hb, h.apart⟩
theorem InnZM.set {lo hi : Nat} {w : World} {H : List Mp} (h : InnZM lo hi w H) {q : Addr} (hq : q.block < lo) (v : Value) : InnZM lo hi (w.setCell q v) H := ⟨fun m hm => (h.row m hm).set hq v, h.apart⟩
theorem InnZM.below {lo hi B : Nat} {w w' : World} {H : List Mp} (h : InnZM lo hi w H) (hb : Below B w w') (hB : hi ≤ B) : InnZM lo hi w' H := ⟨fun m hm => (h.row m hm).below hb hB, h.apart⟩
theorem InnZM.nil (lo hi : Nat) (w : World) : InnZM lo hi w [] := ⟨fun m hm => absurd hm (by simp), List.Pairwise.nil⟩
theorem InnZM.snoc {lo lo2 hi hi2 : Nat} {w : World} {H : List Mp} {m : Mp} (h : InnZM lo hi w H) (hm : RowZ lo2 hi2 w 108 2 m.2.1 m.1.2.length m.2.2 (flat m.1.2)) (h1 : lo ≤ lo2) (h2 : hi ≤ lo2) (h3 : lo2 ≤ hi2) : InnZM lo hi2 w (H ++ [m]) := by
 refine ⟨fun u hu => ?_, ?_⟩
 ·rcases List.mem_append.1 hu with hu | hu
  ·have := h.row u hu
   exact ⟨this.own, fun x hx => by have := this.hi x hx; omega⟩
  simp only [List.mem_cons, List.not_mem_nil, or_false] at hu
  subst hu
  refine ⟨⟨hm.own.1, ?_⟩, hm.hi⟩
  rcases hm.own.2 with h0 | ⟨g, cap, cur, hv, hB, r⟩
  ·exact .inl h0
  exact .inr ⟨g, cap, cur, hv, by omega, r⟩
 rw [List.pairwise_append]
 refine ⟨h.apart, List.pairwise_singleton _ _, fun u hu v hv x x' hx hx' => ?_⟩
 simp only [List.mem_cons, List.not_mem_nil, or_false] at hv
 subst hv
 have q1 := (h.row u hu).hi x hx
 have q2 := (hm.lo x' hx').1
 omega
theorem InnZM.inn {lo hi B : Nat} {w : World} {H : List Mp} {col : Nat → Nat} {t : Nat} (h : InnZM lo hi w H) (hB : B ≤ lo) (hc : ∀ b, lo ≤ b → b < hi → col b = t) : InnM B w col t H :=
 ⟨fun m hm => (h.row m hm).row hB hc, h.apart⟩
structure InnZA (lo hi : Nat) (w : World) (H : List Ap) : Prop where
 row : ∀ m ∈ H, RowZ lo hi w 3 1 m.2.1 m.1.2.length m.2.2 (flatI m.1.2)
 apart : H.Pairwise (fun m m' => ∀ x x', m.2.1 = some x → m'.2.1 = some x' → x.block ≠ x'.block)
theorem InnZA.ext {lo hi : Nat} {w w' : World} {H : List Ap} (h : InnZA lo hi w H) (hb : Below w.heap.size w w') : InnZA lo hi w' H := ⟨fun m hm => (h.row m hm).ext hb, h.apart⟩
theorem InnZA.set {lo hi : Nat} {w : World} {H : List Ap} (h : InnZA lo hi w H) {q : Addr} (hq : q.block < lo) (v : Value) : InnZA lo hi (w.setCell q v) H := ⟨fun m hm => (h.row m hm).set hq v, h.apart⟩
theorem InnZA.nil (lo hi : Nat) (w : World) : InnZA lo hi w [] := ⟨fun m hm => absurd hm (by simp), List.Pairwise.nil⟩
theorem InnZA.snoc {lo lo2 hi hi2 : Nat} {w : World} {H : List Ap} {m : Ap} (h : InnZA lo hi w H) (hm : RowZ lo2 hi2 w 3 1 m.2.1 m.1.2.length m.2.2 (flatI m.1.2)) (h1 : lo ≤ lo2) (h2 : hi ≤ lo2) (h3 : lo2 ≤ hi2) : InnZA lo hi2 w (H ++ [m]) := by
 refine ⟨fun u hu => ?_, ?_⟩
 ·rcases List.mem_append.1 hu with hu | hu
  ·have := h.row u hu
   exact ⟨this.own, fun x hx => by have := this.hi x hx; omega⟩
  simp only [List.mem_cons, List.not_mem_nil, or_false] at hu
  subst hu
  refine ⟨⟨hm.own.1, ?_⟩, hm.hi⟩
  rcases hm.own.2 with h0 | ⟨g, cap, cur, hv, hB, r⟩
  ·exact .inl h0
  exact .inr ⟨g, cap, cur, hv, by omega, r⟩
 rw [List.pairwise_append]
 refine ⟨h.apart, List.pairwise_singleton _ _, fun u hu v hv x x' hx hx' => ?_⟩
 simp only [List.mem_cons, List.not_mem_nil, or_false] at hv
 subst hv
 have q1 := (h.row u hu).hi x hx
 have q2 := (hm.lo x' hx').1
 omega
theorem InnZA.inn {lo hi B : Nat} {w : World} {H : List Ap} {col : Nat → Nat} {t : Nat} (h : InnZA lo hi w H) (hB : B ≤ lo) (hc : ∀ b, lo ≤ b → b < hi → col b = t) : InnA B w col t H :=
 ⟨fun m hm => (h.row m hm).row hB hc, h.apart⟩
structure InnRM (w : World) (H : List Mp) : Prop where
 row : ∀ m ∈ H, ReadAt w m.2.1 m.1.2.length m.2.2 2 (flat m.1.2)
structure InnRA (w : World) (H : List Ap) : Prop where
 row : ∀ m ∈ H, ReadAt w m.2.1 m.1.2.length m.2.2 1 (flatI m.1.2)
structure RcRead (w : World) (r : Rc) (p : RcP) (X : RcX) : Prop where
 s : ReadAt w p.aS r.ss.length p.cS 2 (flat r.ss)
 d : ReadAt w p.aD r.ds.length p.cD 2 (flat r.ds)
 h : ReadAt w p.aH r.held.length p.cH 8 (flatM X.H)
 hm : X.H.map (·.1) = r.held
 hi : InnRM w X.H
 t : ReadAt w p.aW r.wish.length p.cW 1 (flatT r.wish)
 y : ReadAt w p.aY r.yes.length p.cY 1 (flatI r.yes)
 b : ReadAt w p.aB r.best.length p.cB 2 (flat r.best)
 a : ReadAt w p.aA r.acks.length p.cA 2 (flatA X.A)
 am : X.A.map (·.1) = r.acks
 ai : InnRA w X.A
 gd : RcGood r
theorem ReadAt.read {w : World} {a : Option Addr} {n c k : Nat} {xs : List Value} (h : ReadAt w a n c k xs) : ReadAt w a n c k xs := h
theorem RcRead.ext {w w' : World} {r : Rc} {p : RcP} {X : RcX} (h : RcRead w r p X) (hb : Below w.heap.size w w') : RcRead w' r p X :=
 ⟨h.s.ext hb, h.d.ext hb, h.h.ext hb, h.hm, ⟨fun m hm => (h.hi.row m hm).ext hb⟩, h.t.ext hb, h.y.ext hb, h.b.ext hb, h.a.ext hb, h.am, ⟨fun m hm => (h.ai.row m hm).ext hb⟩, h.gd⟩
theorem RcHas.reads {B : Nat} {w : World} {r : Rc} {p : RcP} {X : RcX} {col : Nat → Nat} (h : RcHas B w r p X col) : RcRead w r p X :=
 ⟨h.s.read, h.d.read, h.h.read, h.hm, ⟨fun m hm => (h.hi.row m hm).read⟩, h.t.read, h.y.read, h.b.read, h.a.read, h.am, ⟨fun m hm => (h.ai.row m hm).read⟩, h.gd⟩
def CopyMP (w : World) (n : Nat) (H : List Mp) (e : Ending) (w' : World) : Prop := ∃ a' c' H' mid, e = .returned (.slice a' n c') ∧ H'.map (·.1) = H.map (·.1) ∧ w.heap.size ≤ mid ∧ mid ≤ w'.heap.size ∧ RowZ w.heap.size mid w' 45 8 a' n c' (flatM H') ∧ InnZM mid w'.heap.size w' H' ∧ Below w.heap.size w w'
theorem copyMsgs (aH : Option Addr) (n cH : Nat) (H : List Mp) (w : World) (hr : ReadAt w aH n cH 8 (flatM H)) (hl : H.length = n) (hc : n ≤ 1048576) (hi : InnRM w H) (hs : ∀ (k : Nat) m, H[k]? = some m → m.1.2.length ≤ 1048576) :
  Calls Tryz.prog 96 #[.slice aH n cH] w (CopyMP w n H) := by
 have HR0 := hid hr
 have XH := hid hl
 have HI0 := hid hi
 have HS := hid hs
 clear hr hl hi hs
 go_enter Tryz.func96, Tryz.ntmps96
 go_wp2_with fail
 refine (copyM aH n cH (flatM H) _ HR0.out hc (flatM_one _)).mono ?_
 rintro e w3 ⟨aH', cH', rfl, oH, hb3⟩
 have ZH := hid oH
 have E3 := hid hb3
 clear oH hb3
 go_wp2_with fail
 go_loopw [9] (fun i wr => ∃ (k : Nat) (H' : List Mp), k ≤ n ∧ i = .int .i64 k ∧ H'.map (·.1) = (H.take k).map (·.1) ∧ RowZ w.heap.size w3.heap.size wr 45 8 aH' n cH' (flatM (H' ++ H.drop k)) ∧ InnZM w3.heap.size wr.heap.size wr H' ∧ Below w.heap.size w wr ∧ w3.heap.size ≤ wr.heap.size) (fun i _ => n - (intOf i).toNat)
 case atStart => exact ⟨0, [], Nat.zero_le _, rfl, by simp, ZH.out, InnZM.nil _ _ _, E3.out, Nat.le_refl _⟩
 obtain ⟨k, H', hk, rfl, hmap, hrow, hinn, hbel, hsz⟩ := hrel
 have HM := hid hmap
 have HR := hid hrow
 have HI := hid hinn
 have HB := hid hbel
 have HZ0 := hid hsz
 have LH := hid (show H'.length = k by have := congrArg List.length hmap; simp at this; have := XH.out; omega)
 clear hmap hrow hinn hbel hsz
 by_cases hlt : k < n
 ·obtain ⟨m, hm0⟩ : ∃ m, H[k]? = some m := ⟨_, List.getElem?_eq_getElem (by rw [XH.out]; exact hlt)⟩
  have DR := hid (show H.drop k = m :: H.drop (k + 1) by
   obtain ⟨h1, h2⟩ := List.getElem?_eq_some_iff.1 hm0
   rw [← h2]; exact List.drop_eq_getElem_cons h1)
  have RM := hid hm0
  have MI := hid (HI0.out.row m (List.mem_of_getElem? hm0)).read
  have MS := hid (HS.out k m hm0)
  clear hm0
  have row0 := HR.out
  rw [DR.out] at row0
  obtain ⟨g, e0, _, c7, _⟩ := (row0.row (B := 0) (col := fun _ => 0) (t := 0) (Nat.zero_le _) (fun _ _ _ => rfl)).cellM (i := k) (m := m) (by rw [List.getElem?_append_right (by rw [LH.out]; omega), LH.out, Nat.sub_self]; rfl) (q := 7) (by omega) rfl
  subst e0
  have GL := hid (show w.heap.size ≤ g ∧ g < w3.heap.size from ⟨(row0.lo _ rfl).1, row0.hi _ rfl⟩)
  have RW := hid row0
  clear row0
  have e1 : (0 : Int) ≤ (k : Int) := by omega
  have e2 : (k : Int) < (n : Int) := by omega
  go_wp2_with fail
  refine (copyS m.2.1 m.1.2.length m.2.2 (flat m.1.2) _ (MI.out.ext HB.out) MS.out (flat_one _)).mono ?_
  rintro e z ⟨a9, c9, rfl, o9, hz⟩
  have O9 := hid o9
  have HZ := hid hz
  have ZR := hid (RW.out.ext hz)
  clear o9 hz c7
  have c9' : z.cell? ⟨g, k * 8 + 7, none⟩ = some (.slice m.2.1 m.1.2.length m.2.2) := by
   obtain ⟨g', e0, _, c7, _⟩ := (ZR.out.row (B := 0) (col := fun _ => 0) (t := 0) (Nat.zero_le _) (fun _ _ _ => rfl)).cellM (i := k) (m := m) (by rw [List.getElem?_append_right (by rw [LH.out]; omega), LH.out, Nat.sub_self]; rfl) (q := 7) (by omega) rfl
   simp only [Option.some.injEq, Addr.mk.injEq, and_true] at e0
   rw [e0]; exact c7
  have f9 : z.frozen? ⟨g, k * 8 + 7, none⟩ = false := ZR.out.own.frozenAt _
  go_wp2_with fail
  go_roundw
  case rel =>
   refine ⟨k + 1, H' ++ [(m.1, a9, c9)], by omega, by go_num, ?_, ?_, ?_, ?_, ?_⟩
   ·rw [List.map_append, HM.out, List.take_add_one, RM.out, List.map_append]; rfl
   ·have st := ZR.out.own.stored (k * 8 + 7) (.slice a9 m.1.2.length c9)
    rw [← LH.out, flatM_put, LH.out] at st
    rw [List.append_assoc, List.singleton_append]
    exact ⟨st.1, ZR.out.hi⟩
   ·have := (HI.out.ext HZ.out).snoc (m := (m.1, a9, c9)) O9.out (by have := HZ0.out; omega) (Nat.le_refl _) HZ.out.size
    have := this.set (q := ⟨g, k * 8 + 7, none⟩) (by have := GL.out; simp; omega) (.slice a9 m.1.2.length c9)
    simpa using this
   ·exact (HB.out.trans (HZ.out.mono (by have := E3.out.size; have := HZ0.out; omega))).setCell (by have := GL.out; simp; omega) _
   have := HZ0.out; have := HZ.out.size; simp; omega
  case measure => simp [intOf]; omega
 have hkk : k = n := by omega
 have HF := hid (show H'.map (·.1) = H.map (·.1) by rw [HM.out, hkk, ← XH.out, List.take_length])
 have HRf := hid (show RowZ w.heap.size w3.heap.size wr 45 8 aH' n cH' (flatM H') by
  have h9 := HR.out
  rw [hkk, List.drop_of_length_le (by rw [XH.out]; omega), List.append_nil] at h9
  exact h9)
 go_wp2_with fail
 go_ret
 exact ⟨aH', cH', H', w3.heap.size, rfl, HF.out, E3.out.size, HZ0.out, HRf.out, HI.out, HB.out⟩
end Go.Proofs.YtffklmlljekceaaGreat
