import Derived.Test.YtjdceoimignnpaaF11
namespace Go.Proofs.Ytjdceoimignnpaa
open Go.ChangeShapes Go.WideShapes Go.ChangeAt Go.RowKit
set_option linter.unusedVariables false
set_option linter.unusedSimpArgs false
set_option maxHeartbeats 16000000
set_option maxRecDepth 20000
variable {C : Array Value} {num : Int} {H : List Mp} {l : List Sl} {xs : List Value} {m : gq} {B c g hi hi' k lo n : Nat} {a a' a1 : Option Addr} {row : Option Nat} {r : Rc} {e e' : TypeId} {V w w' w1 w2 : World}
theorem below_grow {a b c : World} (h : Below B a b) (k : b.grownBy c row) (hr : ∀ j, row = some j → B ≤ j) (hB : B ≤ b.heap.size) : Below B a c :=
 h.trans ⟨k.os, k.tape, k.output, k.size, fun i hi => k.block i (by omega) (fun e => by have := hr i e.symm; omega)⟩
theorem zZ (h : ¬ (r.held.length : Int) < 400) : dw r m l = r := by unfold dw; rw [if_neg (by omega)]
theorem y5 (h : (r.held.length : Int) < 400) : dw r m l = { r with held := r.held ++ [({ m with f := r.num }, l)] } := by unfold dw; rw [if_pos (by omega)]
theorem iM (B : Nat) (r : Rc) (p : fU) (X : iU) (col : Nat → Nat) (m : gq) (a : Option Addr) (l : List Sl) (c : Nat) (w : World) (hB : B ≤ w.heap.size) (h : aG B w r p X col) (hrow : aO B w col 7 43 2 a l.length c (flat l)) (hfar : ∀ q ∈ X.H, ∀ x x', q.2.1 = some x → a = some x' → x.block ≠ x'.block) (hx : m.x.size ≤ maxLen) (hsl : dE l) :
  Calls Try.prog 106 #[.agg (au r p), .agg (bU m (.slice a l.length c))] w (jH B w col (dw r m l)) := by
 obtain ⟨aS, cS, aD, cD, aH, cH, aW, cW, aY, cY, aB, cB, aA, cA⟩ := p;have RD := hid h.fresh;have HB := hid hB;have HL := hid (show X.H.length = r.held.length by rw [← h.hm, List.length_map]);have B1 := hid (show Below w.heap.size w (((w.alloc (.cells (au r ⟨aS, cS, aD, cD, aH, cH, aW, cW, aY, cY, aB, cB, aA, cA⟩) 31)).alloc (.cells (bU { m with f := r.num } (.slice a l.length c)) 49)).alloc (.cells bP 31)) from ae (ae (ae (Below.refl _ _) _) _) _);have K1 := hid (show aC (((w.alloc (.cells (au r ⟨aS, cS, aD, cD, aH, cH, aW, cW, aY, cY, aB, cB, aA, cA⟩) 31)).alloc (.cells (bU { m with f := r.num } (.slice a l.length c)) 49)).alloc (.cells bP 31)) w.heap.size (au r ⟨aS, cS, aD, cD, aH, cH, aW, cW, aY, cY, aB, cB, aA, cA⟩) 31 from ((aC.new _ _ _).alloc _).alloc _);have M1 := hid (show aC (((w.alloc (.cells (au r ⟨aS, cS, aD, cD, aH, cH, aW, cW, aY, cY, aB, cB, aA, cA⟩) 31)).alloc (.cells (bU { m with f := r.num } (.slice a l.length c)) 49)).alloc (.cells bP 31)) (w.heap.size + 1) (bU { m with f := r.num } (.slice a l.length c)) 49 from (aC.new' _ _ (by simp)).alloc _);have Z1 := hid (show aC (((w.alloc (.cells (au r ⟨aS, cS, aD, cD, aH, cH, aW, cW, aY, cY, aB, cB, aA, cA⟩) 31)).alloc (.cells (bU { m with f := r.num } (.slice a l.length c)) 49)).alloc (.cells bP 31)) (w.heap.size + 1 + 1) bP 31 from aC.new' _ _ (by simp));have H1 := hid (RD.out.ext B1.out);have CG := hid (show ∀ x, w.heap.size ≤ x → 8 < dm w.heap.size col x from fun x hx => by rw [bI hx]; omega)
 have HIN := hid (show ∀ u ∈ X.H ++ [((({ m with f := r.num }, l), a, c) : Mp)], aO B (((w.alloc (.cells (au r ⟨aS, cS, aD, cD, aH, cH, aW, cW, aY, cY, aB, cB, aA, cA⟩) 31)).alloc (.cells (bU { m with f := r.num } (.slice a l.length c)) 49)).alloc (.cells bP 31)) (dm w.heap.size col) 7 43 2 u.2.1 u.1.2.length u.2.2 (flat u.1.2) from fun u hu => by
  rcases List.mem_append.1 hu with hu | hu
  ·exact H1.out.hi.row u hu
  simp only [List.mem_cons, List.not_mem_nil, or_false] at hu;subst hu
  exact (hrow.jW (fun b hb => bn hb)).ext B1.out)
 have HAP := hid (show (X.H ++ [((({ m with f := r.num }, l), a, c) : Mp)]).Pairwise (fun m m' => ∀ x x', m.2.1 = some x → m'.2.1 = some x' → x.block ≠ x'.block) by
  rw [List.pairwise_append];refine ⟨h.hi.apart, List.pairwise_singleton _ _, fun u hu v hv x x' hx hx' => ?_⟩;simp only [List.mem_cons, List.not_mem_nil, or_false] at hv;subst hv
  exact hfar u hu x x' hx hx')
 have HGD := hid (show kC ((X.H ++ [((({ m with f := r.num }, l), a, c) : Mp)]).map (·.1)) from fun i s hs => by
  rw [List.map_append, h.hm] at hs;rcases Nat.lt_or_ge i r.held.length with hi | hi
  ·rw [List.getElem?_append_left hi] at hs; exact h.gd.h i s hs
  rw [List.getElem?_append_right hi] at hs;have h9 := List.mem_of_getElem? hs;simp only [List.map_cons, List.map_nil, List.mem_cons, List.not_mem_nil, or_false] at h9;subst h9
  exact ⟨hx, hrow.len.1, hsl⟩)
 clear h hrow hfar hx hsl hB;by_cases h1 : (r.held.length : Int) < 400
 ·have HH := hid (y5 (m := m) (l := l) h1);have OW := hid ((H1.out.ext (ae (Below.refl _ _) (.cells (bU { m with f := r.num } (.slice a l.length c)) 49))).h.own)
  have WNE := hid (show ∀ b, w.heap.size ≤ b → some b ≠ (Value.slice aH r.held.length cH).ownBlock from fun b hle e => by
   have h9 := RD.out.h.own.lt b e.symm
   omega)
  have WB := hid (show ∀ j, (Value.slice aH r.held.length cH).ownBlock = some j → B ≤ j from fun j hj => (RD.out.h.own.lt j hj).1)
  have NEWS := hid (show aN ((((w.alloc (.cells (au r ⟨aS, cS, aD, cD, aH, cH, aW, cW, aY, cY, aB, cB, aA, cA⟩) 31)).alloc (.cells (bU { m with f := r.num } (.slice a l.length c)) 49)).alloc (.cells bP 31)).alloc (.cells (bU { m with f := r.num } (.slice a l.length c)) 49)) (some ⟨w.heap.size + 1 + 1 + 1, 0, none⟩) 1 1 8 (fP ((({ m with f := r.num }, l), a, c) : Mp)) from
   ⟨rfl, fun e => by simp at e, fun x hx => by
    simp only [Option.some.injEq] at hx;subst hx
    exact ⟨rfl, dG (cs := (bU { m with f := r.num } (.slice a l.length c)).toList) (show aC ((((w.alloc (.cells (au r ⟨aS, cS, aD, cD, aH, cH, aW, cW, aY, cY, aB, cB, aA, cA⟩) 31)).alloc (.cells (bU { m with f := r.num } (.slice a l.length c)) 49)).alloc (.cells bP 31)).alloc (.cells (bU { m with f := r.num } (.slice a l.length c)) 49)) (w.heap.size + 1 + 1 + 1) (bU { m with f := r.num } (.slice a l.length c)) 49 from aC.new' _ _ (by simp))⟩⟩)
  go_enter Try.func106, Try.ntmps106
  go_wp2_with (first
   | ((with_reducible refine nM B aH r.held.length cH (bZ X.H) (some ⟨w.heap.size + 1 + 1 + 1, 0, none⟩) 1 1 (fP ((({ m with f := r.num }, l), a, c) : Mp)) ?_ ?_ ?_ ?_ ?_ ?_ ?_ ?_); rfl; rfl; exact OW.out; exact NEWS.out; (· intro u hu; simp [fP] at hu; rcases hu with rfl | rfl | rfl | rfl | rfl | rfl | rfl | rfl <;> rfl); (· omega); (· have h9 := HB.out; simp; omega); (intro a' c' w2 q1 q2 q3); (have K1c := hid (show aC w2 w.heap.size (au r ⟨aS, cS, aD, cD, aH, cH, aW, cW, aY, cY, aB, cB, aA, cA⟩) 31 from (q2.block w.heap.size (K1.out.alloc (.cells (bU { m with f := r.num } (.slice a l.length c)) 49)).lt (WNE.out _ (Nat.le_refl _))).trans (K1.out.alloc (.cells (bU { m with f := r.num } (.slice a l.length c)) 49)))); (have Z1c := hid (show aC w2 (w.heap.size + 1 + 1) bP 31 from (q2.block (w.heap.size + 1 + 1) (Z1.out.alloc (.cells (bU { m with f := r.num } (.slice a l.length c)) 49)).lt (WNE.out _ (by omega))).trans (Z1.out.alloc (.cells (bU { m with f := r.num } (.slice a l.length c)) 49)))); (have HAS := hid (aG.GV (H1.out.ext (ae (Below.refl _ _) (.cells (bU { m with f := r.num } (.slice a l.length c)) 49))) (l := X.H ++ [((({ m with f := r.num }, l), a, c) : Mp)]) q2 (by (rw [show (X.H ++ [((({ m with f := r.num }, l), a, c) : Mp)]).length = r.held.length + 1 by (rw [List.length_append, HL.out]; rfl), show bZ (X.H ++ [((({ m with f := r.num }, l), a, c) : Mp)]) = bZ X.H ++ fP ((({ m with f := r.num }, l), a, c) : Mp) by simp [bZ]]; exact q1)) q3 (fun u hu => (HIN.out u hu).ext (ae (Below.refl _ _) (.cells (bU { m with f := r.num } (.slice a l.length c)) 49))) HAP.out HGD.out)); (have B3 := hid (below_grow ((ae B1.out (.cells (bU { m with f := r.num } (.slice a l.length c)) 49)).mono HB.out) q2 WB.out (by have h9 := HB.out; simp; omega))); (have NW := hid (show ∀ x, a' = some x → (∃ y, aH = some y ∧ y.block = x.block) ∨ w.heap.size + 1 + 1 + 1 < x.block from fun x hx => by (rcases q3 x hx with hy | hnew; (· exact .inl hy); (· simp at hnew; exact .inr (by omega))))); (have GB := hid (show ∀ b, b < w.heap.size → some b ≠ (Value.slice aH r.held.length cH).ownBlock → w2.heap[b]? = w.heap[b]? from fun b hb hne => (q2.block b (by simp; omega) hne).trans ((ae B1.out (.cells (bU { m with f := r.num } (.slice a l.length c)) 49)).block b hb))); (clear q1 q2 q3); (have eqC : (au { r with held := r.held ++ [({ m with f := r.num }, l)] } ⟨aS, cS, aD, cD, a', c', aW, cW, aY, cY, aB, cB, aA, cA⟩) = (au r ⟨aS, cS, aD, cD, aH, cH, aW, cW, aY, cY, aB, cB, aA, cA⟩).setIfInBounds 9 (.slice a' (r.held.length + 1) c') := by simp); (have k1 : aC (w2.setCell ⟨w.heap.size, 9, none⟩ (.slice a' (r.held.length + 1) c')) w.heap.size (au { r with held := r.held ++ [({ m with f := r.num }, l)] } ⟨aS, cS, aD, cD, a', c', aW, cW, aY, cY, aB, cB, aA, cA⟩) 31 := by (rw [eqC]; exact K1c.out.set (o := 9) (.slice a' (r.held.length + 1) c'))); (have k2 : aC (w2.setCell ⟨w.heap.size, 9, none⟩ (.slice a' (r.held.length + 1) c')) (w.heap.size + 1 + 1) bP 31 := Z1c.out.setCell (by simp; omega) _); (clear eqC); (have cK := K1c.out.cell); (have fK := K1c.out.free))
   | ((with_reducible refine ah w.heap.size (au { r with held := r.held ++ [({ m with f := r.num }, l)] } ⟨aS, cS, aD, cD, a', c', aW, cW, aY, cY, aB, cB, aA, cA⟩) rfl ?_ ?_ ?_); rfl; exact k1)
   | ((with_reducible refine af (w.heap.size + 1 + 1) bP (au { r with held := r.held ++ [({ m with f := r.num }, l)] } ⟨aS, cS, aD, cD, a', c', aW, cW, aY, cY, aB, cB, aA, cA⟩) rfl rfl ?_ ?_ ?_ ?_ ?_); rfl; rfl; exact k2; simp [Value.oneCell']))
  have hz := setRow_heap _ (w.heap.size + 1 + 1) _ (au { r with held := r.held ++ [({ m with f := r.num }, l)] } ⟨aS, cS, aD, cD, a', c', aW, cW, aY, cY, aB, cB, aA, cA⟩) _ _ k2;refine az (ty := 31) Try.results106 (w.heap.size + 1 + 1) (au { r with held := r.held ++ [({ m with f := r.num }, l)] } ⟨aS, cS, aD, cD, a', c', aW, cW, aY, cY, aB, cB, aA, cA⟩) _ ?_ ?_ hz Try.underlying31 rfl (by kernel_rfl) ?_
  ·rfl
  ·rfl
  have q8 : ∀ b, w.heap.size ≤ b → b ≤ w.heap.size + 1 + 1 → 8 < dM a' 2 (dm w.heap.size col) b := fun b hb hb2 => by
   rw [eQ (fun x hx he => by
    rcases NW.out x hx with ⟨y, hy, hyx⟩ | hnew
    ·have h9 := (RD.out.h.lt y hy).2;omega
    omega), bI hb]
   omega
  have HAS2 : aG B w2 { r with held := r.held ++ [({ m with f := r.num }, l)] } ⟨aS, cS, aD, cD, a', c', aW, cW, aY, cY, aB, cB, aA, cA⟩ ⟨X.H ++ [((({ m with f := r.num }, l), a, c) : Mp)], X.A⟩ (dM a' 2 (dm w.heap.size col)) := by
   have h9 := HAS.out;rw [List.map_append, RD.out.hm] at h9;exact h9
  rw [HH.out];refine ⟨⟨aS, cS, aD, cD, a', c', aW, cW, aY, cY, aB, cB, aA, cA⟩, _, _, rfl, (HAS2.setCell (q := ⟨w.heap.size, 9, none⟩) (q8 _ (Nat.le_refl _) (by show w.heap.size ≤ w.heap.size + 1 + 1; omega)) _).setRow (q8 _ (by omega) (Nat.le_refl _)) _, ay (bG B3.out HB.out _) (by have := HB.out; omega) _, fun b hb h8 => ?_⟩;have hne : ∀ y, aH = some y → y.block ≠ b := fun y hy he => by
   have h9 := RD.out.h.col y hy;rw [he, bn hb] at h9;omega
  refine ⟨(setRow_other _ (w.heap.size + 1 + 1) b _ (by omega)).trans ((heap_setCell_other _ ⟨w.heap.size, 9, none⟩ b _ (by simp; omega)).trans (GB.out b hb ?_)), ?_⟩
  ·cases hs : aH with
   | none => simp [Value.ownBlock]
   | some y =>
    simp only [Value.ownBlock, ne_eq, Option.some.injEq];exact fun e => hne y hs e.symm
  rw [eQ (fun x hx he => by
   rcases NW.out x hx with ⟨y, hy, hyx⟩ | hnew
   ·exact hne y hy (hyx.trans he)
   omega), bn hb]
  exact h8
 have HH := hid (zZ (m := m) (l := l) h1);have k1 := K1.out;have k2 := Z1.out;go_enter Try.func106, Try.ntmps106
 go_wp2_with (first
  | ((with_reducible refine ah w.heap.size (au r ⟨aS, cS, aD, cD, aH, cH, aW, cW, aY, cY, aB, cB, aA, cA⟩) rfl ?_ ?_ ?_); rfl; exact k1)
  | ((with_reducible refine af (w.heap.size + 1 + 1) bP (au r ⟨aS, cS, aD, cD, aH, cH, aW, cW, aY, cY, aB, cB, aA, cA⟩) rfl rfl ?_ ?_ ?_ ?_ ?_); rfl; rfl; exact k2; simp [Value.oneCell']))
 have hz := setRow_heap _ (w.heap.size + 1 + 1) _ (au r ⟨aS, cS, aD, cD, aH, cH, aW, cW, aY, cY, aB, cB, aA, cA⟩) _ _ k2;refine az (ty := 31) Try.results106 (w.heap.size + 1 + 1) (au r ⟨aS, cS, aD, cD, aH, cH, aW, cW, aY, cY, aB, cB, aA, cA⟩) _ ?_ ?_ hz Try.underlying31 rfl (by kernel_rfl) ?_
 ·rfl
 ·rfl
 rw [HH.out];exact ⟨⟨aS, cS, aD, cD, aH, cH, aW, cW, aY, cY, aB, cB, aA, cA⟩, X, _, rfl, H1.out.setRow (CG.out _ (by omega)) _, (ay B1.out (by omega) _).mono HB.out, Others.of (ay B1.out (by omega) _) (fun b hb => bn hb)⟩
def bare (m : gq) : Mp := ((m, []), (none, 0))
def ji (num : Int) (m : gq) : Nat → List Mp
 | 0 => []
 | k + 1 => if ((k : Int) + 1) = num then ji num m k else ji num m k ++ [bare { m with f := num, t := (k : Int) + 1 }]
theorem mZ (num : Int) (m : gq) : ∀ k, (ji num m k).length ≤ k
 | 0 => by simp [ji]
 | k + 1 => by
  have := mZ num m k;unfold ji;split
  ·omega
  simp; omega
theorem yV (h : (k : Int) + 1 = num) : ji num m (k + 1) = ji num m k := by
 rw [ji, if_pos h]
theorem EN (h : ¬ (k : Int) + 1 = num) : ji num m (k + 1) = ji num m k ++ [bare { m with f := num, t := (k : Int) + 1 }] := by
 rw [ji, if_neg h]
theorem dP.chain {a2 : Option Addr} (h : dP V a a1) (k : dP w a1 a2) (hs : V.heap.size ≤ w.heap.size) : dP V a a2 := fun x hx => by
 rcases k x hx with ⟨y, hy, e⟩ | h1
 ·rcases h y hy with ⟨z, hz, e2⟩ | h2
  ·exact .inl ⟨z, hz, e2.trans e⟩
  exact .inr (by omega)
 exact .inr (by omega)
theorem vM {n1 c1 : Nat} (h : V.grownBy w1 (Value.slice a n c).ownBlock) (hn : dP V a a1) (k : w1.grownBy w2 (Value.slice a1 n1 c1).ownBlock) : V.grownBy w2 (Value.slice a n c).ownBlock := by
 refine ⟨k.os.trans h.os, k.tape.trans h.tape, k.output.trans h.output, Nat.le_trans h.size k.size, fun b hb hne => ?_⟩;have hs := h.size;refine (k.block b (by omega) fun e => ?_).trans (h.block b hb hne);cases h1 : a1 with
 | none => rw [h1] at e; simp [Value.ownBlock] at e
 | some x =>
  rw [h1] at e;simp only [Value.ownBlock, Option.some.injEq] at e;rcases hn x h1 with ⟨y, hy, e2⟩ | h2
  ·rw [hy] at hne;simp only [Value.ownBlock, ne_eq, Option.some.injEq] at hne;exact hne (by rw [e, e2])
  omega
theorem wu (hb : Below w.heap.size w V) (h : V.grownBy w1 row) : w.grownBy w1 row :=
 ⟨h.os.trans hb.os, h.tape.trans hb.tape, h.output.trans hb.output, Nat.le_trans hb.size h.size, fun b hlt hne => (h.block b (Nat.lt_of_lt_of_le hlt hb.size) hne).trans (hb.block b hlt)⟩
theorem Ec (h : V.grownBy w1 row) (hb : Below w1.heap.size w1 w2) : V.grownBy w2 row :=
 ⟨hb.os.trans h.os, hb.tape.trans h.tape, hb.output.trans h.output, Nat.le_trans h.size hb.size, fun b hlt hne => (hb.block b (Nat.lt_of_lt_of_le hlt h.size)).trans (h.block b hlt hne)⟩
theorem xf (w : World) (row : Option Nat) : w.grownBy w row := ⟨rfl, rfl, rfl, Nat.le_refl _, fun _ _ _ => rfl⟩
theorem dP.self (w : World) (a : Option Addr) : dP w a a := fun x hx => .inl ⟨x, hx, rfl⟩
theorem dP.base (h : dP V a a') (hs : w.heap.size ≤ V.heap.size) : dP w a a' := fun x hx => by
 rcases h x hx with h1 | h2
 ·exact .inl h1
 exact .inr (by omega)
theorem xG {ops : Array Oper} {rest : List Oper} {dst : Option Tmp} {x : Operand} {τ : TypeId} {pos : String} {after : Array Edge} {a : Act} {w : World} {Q : Exit → Act → World → Prop}
  (g : Nat) (cs : Array Value) (hs : cs.size = 8) (hx : a.eval x = .pointer (some ⟨g, 0, none⟩)) (hg : aC w g cs 49)
  (h : wpList Try.prog ops Q rest (a.put dst (.agg cs)) w) :
  wpList Try.prog ops Q ({ dst := dst, op := .load 49 x, type := τ, pos := pos, after := after, guard := none } :: rest) a w :=
 gQ g cs _ hx hg Try.underlying49 rfl (by rw [hs]; kernel_rfl) h
abbrev iJ (B : Nat) (w : World) (a : Option Addr) (H : List Mp) (c : Nat) : Prop := aO B w (fun _ => 0) 0 49 8 a H.length c (bZ H)
theorem oh (H K : List Mp) : bZ (H ++ K) = bZ H ++ bZ K := by unfold bZ; rw [List.flatMap_append]
theorem lN (m : Mp) : bZ [m] = fP m := by unfold bZ; simp
def Np (B : Nat) (w : World) (a : Option Addr) (n c : Nat) (H' : List Mp) (e : Ending) (w' : World) : Prop :=
 ∃ a' c', e = .returned (.slice a' H'.length c') ∧ iJ B w' a' H' c' ∧ w.grownBy w' (Value.slice a n c).ownBlock ∧ dP w a a'
theorem rZ (B : Nat) (r : Rc) (p : fU) (m : gq) (a : Option Addr) (H : List Mp) (c : Nat) (w : World) (hB : B ≤ w.heap.size) (h1 : 0 ≤ r.of_) (h5 : r.of_ ≤ 5) (hH : H.length ≤ 4000000) (h : iJ B w a H c) :
  Calls Try.prog 105 #[.agg (au r p), .slice a H.length c, .agg (bU m (.slice none 0 0))] w (Np B w a H.length c (H ++ ji r.num m r.of_.toNat)) := by
 have HB := hid hB;obtain ⟨N, hN⟩ : ∃ N : Nat, r.of_ = (N : Int) := ⟨r.of_.toNat, by omega⟩
 have HN := hid hN;rw [show r.of_.toNat = N by omega];obtain ⟨V, hV⟩ : ∃ V, V = (w.alloc (.cells (au r p) 31)).alloc (.cells (bU m (.slice none 0 0)) 49) := ⟨_, rfl⟩
 have BV := hid (show Below w.heap.size w V by rw [hV]; exact ae (ae (Below.refl _ _) _) _);have K1 := hid (show aC V w.heap.size (au r p) 31 by rw [hV]; exact (aC.new _ _ _).alloc _);have KM := hid (show aC V (w.heap.size + 1) (bU m (.slice none 0 0)) 49 by rw [hV]; exact aC.new' _ _ (by simp))
 have OWN := hid (show ∀ b, w.heap.size ≤ b → some b ≠ (Value.slice a H.length c).ownBlock from fun b hb e => by
  have h9 := h.own.lt b e.symm
  omega)
 have RW := hid (h.ext BV.out);have HLL := hid hH;clear h hB hN;go_enter Try.func105, Try.ntmps105;go_wp2_with fail;rw [← hV];clear hV;go_loopw [1, 7] (fun o i wr => ∃ (k : Nat) (a' : Option Addr) (c' : Nat), k ≤ N ∧ i = .int .i64 ((k : Int) + 1) ∧ o = .slice a' (H ++ ji r.num m k).length c' ∧ iJ B wr a' (H ++ ji r.num m k) c' ∧ V.grownBy wr (Value.slice a H.length c).ownBlock ∧ dP V a a') (fun o i _ => (N + 1) - (intOf i).toNat);case atStart => exact ⟨0, a, c, Nat.zero_le _, rfl, by simp [ji], by simpa [ji] using RW.out, xf _ _, dP.self _ _⟩
 obtain ⟨k, a', c', hk, rfl, ho, row, gr, nw⟩ := hrel;have hlen : (H ++ ji r.num m k).length ≤ H.length + k := by have := mZ r.num m k; simp; omega
 obtain ⟨L, hL⟩ : ∃ L, L = H ++ ji r.num m k := ⟨_, rfl⟩
 rw [← hL] at ho row hlen;have HQ := hid hL;clear hL;subst ho;have ROW := hid row;have GR := hid gr;have NW := hid nw;have kr := (gr.block _ K1.out.lt (OWN.out _ (Nat.le_refl _))).trans K1.out;have km := (gr.block _ KM.out.lt (OWN.out _ (by omega))).trans KM.out;have KMR := hid (show aC wr (w.heap.size + 1) (bU m (.slice none 0 0)) 49 from km);have cK := (show aC wr w.heap.size (au r p) 31 from kr).cell;have KRR := hid (show aC wr w.heap.size (au r p) 31 from kr);clear row gr nw kr km;have hof := HN.out;have hH := HLL.out;by_cases hlt : k < N
 ·have e1 : (k : Int) + 1 ≤ r.of_ := by omega
  by_cases hnum : (k : Int) + 1 = r.num
  ·have u1 : ((k : Int) + 1 == r.num) = true := by rw [hnum]; exact beq_self_eq_true _
   go_wp2_with fail;go_roundw;case rel => exact ⟨k + 1, a', c', by omega, by go_num, by rw [yV hnum, HQ.out], by rw [yV hnum, ← HQ.out]; exact ROW.out, GR.out, NW.out⟩
   case measure => simp [intOf]; omega
  have u1 : ((k : Int) + 1 == r.num) = false := beq_false_of_ne hnum;have kmr := KMR.out;have cK2 := (KRR.out.alloc (.cells (bU m (.slice none 0 0)) 49)).cell;obtain ⟨M, hM⟩ : ∃ M : gq, M = { m with f := r.num, t := (k : Int) + 1 } := ⟨_, rfl⟩
  obtain ⟨Y, hY⟩ : ∃ Y, Y = (wr.alloc (.cells (bU { m with f := r.num, t := (k : Int) + 1 } (.slice none 0 0)) 49)).alloc (.cells (bU { m with f := r.num, t := (k : Int) + 1 } (.slice none 0 0)) 49) := ⟨_, rfl⟩
  have EY := hid (show Below wr.heap.size wr Y by rw [hY]; exact ae (ae (Below.refl _ _) _) _);have OWY := (ROW.out.ext EY.out).own;have KY := (show aC Y (wr.heap.size + 1) (bU { m with f := r.num, t := (k : Int) + 1 } (.slice none 0 0)) 49 by rw [hY]; exact aC.new' _ _ (by simp))
  have NEWS : aN Y (some ⟨wr.heap.size + 1, 0, none⟩) 1 1 8 (fP (bare { m with f := r.num, t := (k : Int) + 1 })) := ⟨rfl, fun e => by simp at e, fun x hx => by
   simp only [Option.some.injEq] at hx;subst hx
   exact ⟨rfl, dG (cs := (bU { m with f := r.num, t := (k : Int) + 1 } (.slice none 0 0)).toList) KY⟩⟩
  rw [hY] at OWY NEWS;clear KY hM M
  go_wp2_with (first
   | ((with_reducible refine nM B a' L.length c' (bZ L) (some ⟨wr.heap.size + 1, 0, none⟩) 1 1 (fP (bare { m with f := r.num, t := (k : Int) + 1 })) ?_ ?_ ?_ ?_ ?_ ?_ ?_ ?_); rfl; rfl; exact OWY; exact NEWS; (· intro u hu; simp [fP] at hu; rcases hu with rfl | rfl | rfl | rfl | rfl | rfl | rfl | rfl <;> rfl); (· omega); (· have h9 := HB.out; have h8 := BV.out.size; have h7 := GR.out.size; simp; omega); (intro a2 c2 w2 q1 q2 q3))
   | ((with_reducible refine xG (w.heap.size + 1) (bU m (.slice none 0 0)) rfl ?_ ?_ ?_); rfl; exact kmr))
  rw [← hY] at q2 q3;have EL : H ++ ji r.num m (k + 1) = L ++ [bare { m with f := r.num, t := (k : Int) + 1 }] := by rw [EN hnum, HQ.out, List.append_assoc]
  have hrow : iJ B w2 a2 (L ++ [bare { m with f := r.num, t := (k : Int) + 1 }]) c2 := by
   refine aO.mk ?_ (fun _ _ => rfl);rw [oh, lN, List.length_append];exact q1
  have hgr : V.grownBy w2 (Value.slice a H.length c).ownBlock := vM (Ec GR.out EY.out) NW.out q2;have hnw : dP V a a2 := NW.out.chain q3 (Nat.le_trans GR.out.size EY.out.size);clear hY OWY NEWS q1 q2 q3;go_roundw;case rel => exact ⟨k + 1, a2, c2, by omega, by go_num, by rw [EL, List.length_append]; rfl, by rw [EL]; exact hrow, hgr, hnw⟩
  case measure => simp [intOf]; omega
 have e1 : ¬ (k : Int) + 1 ≤ r.of_ := by omega
 have hkN : k = N := by omega
 subst hkN;go_wp2_with fail;go_ret;rw [← HQ.out];exact ⟨a', c', rfl, ROW.out, wu BV.out GR.out, NW.out.base BV.out.size⟩
theorem aZ.kept (h : aZ lo hi w e k a n c xs) (hg : w.grownBy w' (some g)) (hb : aC w g C e') (hne : e ≠ e') (hh : hi ≤ hi') : aZ lo hi' w' e k a n c xs := by
 refine ⟨h.own.kept hg ?_, fun x hx => Nat.lt_of_lt_of_le (h.hi x hx) hh⟩;rcases h.own.2 with ⟨h1, _⟩ | ⟨g1, cap, cur, hv, _, hb1, _⟩
 ·rw [h1]; exact .inl rfl
 refine .inr fun e9 => ?_
 rw [hv] at e9;simp only [Value.ownBlock, Option.some.injEq] at e9;subst e9;have h9 : aC w g1 C e' := hb;unfold aC at h9;rw [hb1] at h9;simp only [Option.some.injEq, Obj.cells.injEq] at h9;exact hne h9.2.1
theorem dR.kept (h : dR lo hi w H) (hg : w.grownBy w' (some g)) (hb : aC w g C 49) (hh : hi ≤ hi') : dR lo hi' w' H :=
 ⟨fun m hm => (h.row m hm).kept hg hb (by decide) hh, h.apart⟩
theorem iV.kept {H : List Ap} (h : iV lo hi w H) (hg : w.grownBy w' (some g)) (hb : aC w g C 69) (hh : hi ≤ hi') : iV lo hi' w' H :=
 ⟨fun m hm => (h.row m hm).kept hg hb (by decide) hh, h.apart⟩
theorem aZ.ne {lo' : Nat} {k' : Nat} {n' c' : Nat} {xs' : List Value} (h : aZ lo hi w e k a n c xs) (h' : aZ lo' hi' w e' k' a' n' c' xs') (hne : e ≠ e') : ∀ x x', a = some x → a' = some x' → x.block ≠ x'.block := fun x x' hx hx' he => by
 rcases h.own.2 with ⟨h1, _⟩ | ⟨g1, cap, cur, hv, _, hb1, _⟩
 ·simp only [Value.slice.injEq] at h1; rw [h1.1] at hx; simp at hx
 rcases h'.own.2 with ⟨h1, _⟩ | ⟨g2, cap2, cur2, hv2, _, hb2, _⟩
 ·simp only [Value.slice.injEq] at h1; rw [h1.1] at hx'; simp at hx'
 simp only [Value.slice.injEq] at hv hv2;rw [hv.1] at hx;rw [hv2.1] at hx';simp only [Option.some.injEq] at hx hx';rw [← hx, ← hx'] at he;dsimp only at he;rw [he, hb2] at hb1;simp only [Option.some.injEq, Obj.cells.injEq] at hb1;exact hne hb1.2.1.symm
theorem wG {col : Nat → Nat} {t u : Nat} {l : List Ms} (h : aO B w col t 49 8 a n c (bZ H)) (hm : H.map (·.1) = l) (hi : qg B w col u H) : qV w a l := fun i b off s sa m cap hs ha hc => by
 rw [← hm, List.getElem?_map, Option.map_eq_some_iff] at hs;obtain ⟨q, h0, rfl⟩ := hs;obtain ⟨g, e0, _, c7, _⟩ := h.jV h0 (q := 7) (by omega) rfl;rw [ha] at e0;simp only [Option.some.injEq, Addr.mk.injEq, and_true] at e0;obtain ⟨rfl, rfl⟩ := e0;rw [Nat.zero_add, c7] at hc;simp only [Option.some.injEq, Value.slice.injEq] at hc;obtain ⟨rfl, _, rfl⟩ := hc;exact (hi.row q (List.mem_of_getElem? h0)).plain
theorem nz (a : Option Addr) (l : List Ms) (n cap : Nat) (w : World) (hn : l.length = n) (hc : n ≤ 1048576) (hsm : jw l) (hpl : qV w a l) (h : jB w a l) :
  Calls Try.prog 72 #[.slice a n cap] w fun e w' => ∃ g' cap' H', e = .returned (.slice (some ⟨g', 0, none⟩) n cap') ∧ aZ w.heap.size w'.heap.size w' 49 8 (some ⟨g', 0, none⟩) n cap' (bZ H') ∧ H'.map (·.1) = l ∧ dR w.heap.size w'.heap.size w' H' ∧ Below w.heap.size w w' := by
 have HL := hid hn;have H := hid h;have HP := hid hpl;have HM := hid hsm;have HO := hid (yT w 49 8);clear hn h hpl hsm;go_enter Try.func72, Try.ntmps72;go_wp2;go_loopw [3, 4] (fun v i wr => ∃ (k g cap : Nat) (H' : List Mp), k ≤ n ∧ i = .int .i64 k ∧ v = .slice (some ⟨g, 0, none⟩) k cap ∧ wr.ownsRow w.heap.size 49 8 (.slice (some ⟨g, 0, none⟩) k cap) k (bZ H') ∧ H'.map (·.1) = l.take k ∧ dR w.heap.size wr.heap.size wr H' ∧ Below w.heap.size w wr) (fun _ i _ => n - (intOf i).toNat);case atStart => exact ⟨0, w.heap.size, 0, [], Nat.zero_le _, rfl, rfl, HO.out, by simp, dR.nil _ _ _, ae (Below.refl _ _) _⟩
 obtain ⟨k, g, cp0, H', hk, rfl, rfl, hown, hmap, hinn, hbel⟩ := hrel;have HW := hid hown;have HC := hid hmap;have HI := hid hinn;have HBe := hid hbel;clear hown hmap hinn hbel HO;by_cases hlt : k < n
 ·obtain ⟨s, hs0⟩ : ∃ s, l[k]? = some s := ⟨_, List.getElem?_eq_getElem (by rw [HL.out]; exact hlt)⟩
  have hs := hid hs0;obtain ⟨b, off, sa, cp, e0, hb, c0, c1, c2, c3, c4, c5, c6, c7, q1, q2, q3⟩ := (H.out.ext HBe.out) k s hs0;subst e0;have hb2 : b < w.heap.size := by
   obtain ⟨b', off', _, _, e9, hb9, _⟩ := H.out k s hs0;simp only [Option.some.injEq, Addr.mk.injEq, and_true] at e9;omega
  have PL := hid (HP.out k b off s sa s.2.length cp hs0 rfl (by rw [← HBe.out.cell (p := ⟨b, off + k * 8 + 7, none⟩) hb2]; exact c7));have SM := hid (HM.out k s hs0);have Q3 := hid q3;clear hs0 q3 q1 q2;have e1 : (0 : Int) ≤ (k : Int) := by omega
  have e2 : (k : Int) < (n : Int) := by omega
  go_wp2_with fail;refine (uy s.1 sa s.2 s.2.length cp _ rfl SM.out PL.out.1 PL.out.2 Q3.out).mono ?_;rintro e z ⟨g', cap', rfl, hg', ho', hz⟩;obtain ⟨Z, hZ⟩ : ∃ Z, Z = z.alloc (.cells (bU s.1 (.slice (some ⟨g', 0, none⟩) s.2.length cap')) 49) := ⟨_, rfl⟩
  have EZ := hid (show Below z.heap.size z Z by rw [hZ]; exact ae (Below.refl _ _) _)
  have NEWS := hid (show aN Z (some ⟨z.heap.size, 0, none⟩) 1 1 8 (fP (s, some ⟨g', 0, none⟩, cap')) from
   ⟨rfl, fun e => by simp at e, fun x hx => by
    simp only [Option.some.injEq] at hx;subst hx
    exact ⟨rfl, by rw [hZ]; exact dG (aC.new z (bU s.1 (.slice (some ⟨g', 0, none⟩) s.2.length cap')) 49)⟩⟩)
  have ZB := hid (aj (aj HBe.out hz) EZ.out);have ZW := hid (qc (qc HW.out hz) EZ.out);have ZN := hid (show aZ wr.heap.size z.heap.size Z 43 2 (some ⟨g', 0, none⟩) s.2.length cap' (flat s.2) from (aZ.mk' ho').ext EZ.out);have ZI := hid ((HI.out.ext hz).ext EZ.out);have SZ := hid (show w.heap.size ≤ Z.heap.size from ZB.out.size);have S1 := hid hz.size;have S2 := hid EZ.out.size;clear hz ho' hg' c0 c1 c2 c3 c4 c5 c6 c7;go_wp2_with ((with_reducible refine nM w.heap.size (some ⟨g, 0, none⟩) k cp0 (bZ H') (some ⟨z.heap.size, 0, none⟩) 1 1 (fP (s, some ⟨g', 0, none⟩, cap')) ?_ ?_ ?_ ?_ ?_ ?_ ?_ ?_); rfl; rfl; (· rw [← hZ]; exact ZW.out); (· rw [← hZ]; exact NEWS.out); (· intro u hu; simp [fP] at hu; rcases hu with rfl | rfl | rfl | rfl | rfl | rfl | rfl | rfl <;> rfl); (· omega); (· rw [← hZ]; exact SZ.out); rw [← hZ]; intro a2 c2 w' r1 r2 r3; have R1 := hid r1; have R2 := hid r2; clear r1 r2 r3);obtain ⟨g2, cap2, C2, e4, hb9, hn9, _⟩ := oK R1.out (fun e => by have := congrArg (fun v => match v with | Value.slice _ n _ => n | _ => 0) e; simp at this);simp only [Value.slice.injEq, true_and] at e4;obtain ⟨rfl, rfl⟩ := e4;obtain ⟨g3, cap3, C3, e3, _, _, hblk⟩ := oK ZW.out (by simp);simp only [Value.slice.injEq, Option.some.injEq, Addr.mk.injEq, and_true, true_and] at e3;obtain ⟨rfl, rfl⟩ := e3;go_roundw;case rel =>
   refine ⟨k + 1, g2, c2, H' ++ [(s, some ⟨g', 0, none⟩, cap')], by omega, by go_num, rfl, ?_, ?_, ?_, jS ZB.out R2.out (fun j hj => by simp [Value.ownBlock] at hj; have := (ZW.out.lt g rfl).1; omega)⟩
   ·have := R1.out;rw [show bZ (H' ++ [(s, some ⟨g', 0, none⟩, cap')]) = bZ H' ++ fP (s, some ⟨g', 0, none⟩, cap') by simp [bZ]];exact this
   ·rw [List.map_append, HC.out, List.take_add_one, hs.out]; rfl
   have := (ZI.out.snoc (m := (s, some ⟨g', 0, none⟩, cap')) ZN.out HBe.out.size (Nat.le_refl _) S1.out)
   exact this.kept (by simpa [Value.ownBlock] using R2.out) hblk (Nat.le_trans S2.out R2.out.size)
  case measure => simp [intOf]; omega
 have hkk : k = n := by omega
 subst hkk;go_wp2;go_ret;have h9 := HC.out;rw [List.take_of_length_le (by rw [HL.out]; omega)] at h9;exact ⟨g, cp0, H', rfl, aZ.mk' HW.out, h9, HI.out, HBe.out⟩
end Go.Proofs.Ytjdceoimignnpaa
