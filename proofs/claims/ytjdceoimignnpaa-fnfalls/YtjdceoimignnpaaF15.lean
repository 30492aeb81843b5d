import Derived.Test.YtjdceoimignnpaaF12
namespace Go.Proofs.Ytjdceoimignnpaa
open Go.ChangeShapes Go.WideShapes Go.ChangeAt Go.RowKit
set_option linter.unusedVariables false
set_option linter.unusedSimpArgs false
set_option maxHeartbeats 16000000
set_option maxRecDepth 20000
variable {t : ByteArray} {l : List Sl} {r : Rc}
structure GU (B : Nat) (w : World) (col : Nat → Nat) (r : Rc) (X : iU) (s : Sl) (g : Nat) (L : List Sl) (p' : fU) (col' : Nat → Nat) (w' : World) : Prop where
 k : aC w' g (au { r with ds := L } p') 31
 s : aC w' (g + 1) #[.int .i64 s.1, .string s.2] 43
 z : aC w' (g + 1 + 1) bP 31
 has : aG B w' { r with ds := L } p' X col'
 c0 : 8 < col' g
 c1 : 8 < col' (g + 1)
 c2 : 8 < col' (g + 1 + 1)
 bel : Below B w w'
 oth : Others w col w' col'
def Nu (B : Nat) (w : World) (col : Nat → Nat) (r : Rc) (X : iU) (s : Sl) (g q : Nat) (wr : World) : Prop := ∃ (j : Nat) (L : List Sl) (p' : fU) (col' : Nat → Nat), L = r.ds ++ List.replicate j (0, ⟨#[]⟩) ∧ (j = 0 ∨ L.length ≤ q + 1) ∧ GU B w col r X s g L p' col' wr
def Gz (w : World) (g : Nat) : Nat := match w.cell? ⟨g, 8, none⟩ with | some (.slice _ n _) => n | _ => 0
theorem GU.len {B : Nat} {w : World} {col : Nat → Nat} {X : iU} {s : Sl} {g : Nat} {L : List Sl} {p' : fU} {col' : Nat → Nat} {w' : World} (h : GU B w col r X s g L p' col' w') : Gz w' g = L.length := by
 unfold Gz;rw [h.k.cell 8];rfl
theorem BC {s : Sl} (h : dE l) (hs : s.2.size ≤ maxLen ∧ (Lit.int .i64 s.1).wf = true) : dE (l ++ [s]) := fun i u hu => by
 rcases Nat.lt_or_ge i l.length with hi | hi
 ·rw [List.getElem?_append_left hi] at hu; exact h i u hu
 rw [List.getElem?_append_right hi] at hu;have h9 := List.mem_of_getElem? hu;simp only [List.mem_cons, List.not_mem_nil, or_false] at h9;rw [h9]; exact hs
theorem Ey {s : Sl} {k : Nat} (h : dE l) (hs : s.2.size ≤ maxLen ∧ (Lit.int .i64 s.1).wf = true) : dE (l.set k s) := fun i u hu => by
 rw [List.getElem?_set] at hu;split at hu
 ·split at hu
  ·simp only [Option.some.injEq] at hu; rw [← hu]; exact hs
  simp at hu
 exact h i u hu
theorem Gg (l : List Sl) (j : Nat) : l ++ List.replicate j ((0 : Int), (⟨#[]⟩ : ByteArray)) ++ [(0, ⟨#[]⟩)] = l ++ List.replicate (j + 1) (0, ⟨#[]⟩) := by
 rw [List.append_assoc, ← List.replicate_succ']
theorem vX (B : Nat) (r : Rc) (p : fU) (X : iU) (col : Nat → Nat) (q : Nat) (s : Sl) (w : World) (hB : B ≤ w.heap.size) (hq : q ≤ 1048576) (hd : r.ds.length ≤ 1048576) (hs : s.2.size ≤ maxLen ∧ (Lit.int .i64 s.1).wf = true) (h : aG B w r p X col) :
  Calls Try.prog 111 #[.agg (au r p), .int .i64 ((q + 1 : Nat) : Int), .agg #[.int .i64 s.1, .string s.2]] w (jH B w col (rC r (q + 1) s)) := by
 have HB := hid hB;have HSg := hid hs;have BV := hid (show Below w.heap.size w (((w.alloc (.cells (au r p) 31)).alloc (.cells #[.int .i64 s.1, .string s.2] 43)).alloc (.cells bP 31)) from ae (ae (ae (Below.refl _ _) _) _) _)
 have S0 := hid (show GU B w col r X s w.heap.size r.ds p (dm w.heap.size col) (((w.alloc (.cells (au r p) 31)).alloc (.cells #[.int .i64 s.1, .string s.2] 43)).alloc (.cells bP 31)) from
  ⟨((aC.new _ _ _).alloc _).alloc _, (aC.new' _ _ (by simp)).alloc _, aC.new' _ _ (by simp), h.fresh.ext BV.out, by rw [bI (Nat.le_refl _)]; omega, by rw [bI (by omega)]; omega, by rw [bI (by omega)]; omega, BV.out.mono hB, Others.of BV.out (fun b hb => bn hb)⟩)
 clear h hs hB;go_enter Try.func111, Try.ntmps111;go_wp2_with fail;go_loopw [] (fun wr => Nu B w col r X s w.heap.size q wr) (fun wr => q + 1 - Gz wr w.heap.size);case atStart => exact ⟨0, r.ds, p, _, by simp, .inl rfl, S0.out⟩
 obtain ⟨j, L, p', col', hL, hj, hss⟩ := hrel;have SS := hid hss;have HL := hid hL;have LB : L.length ≤ 1048577 := by
  rcases hj with rfl | hj
  ·rw [hL]; simp; omega
  omega
 clear hss hL;obtain ⟨aS, cS, aD, cD, aH, cH, aW, cW, aY, cY, aB, cB, aA, cA⟩ := p';have cK := SS.out.k.cell;have fK := SS.out.k.free
 have DNE := hid (show ∀ b, 8 < col' b → some b ≠ (Value.slice aD L.length cD).ownBlock from fun b h8 e => by
  cases hs : aD with
  | none => rw [hs] at e; simp [Value.ownBlock] at e
  | some y =>
   rw [hs] at e;simp only [Value.ownBlock, Option.some.injEq] at e;have h7 := SS.out.has.d.col y hs;rw [← e] at h7
   omega)
 by_cases hlt : L.length < q + 1
 ·have OW := hid ((SS.out.has.ext (ae (Below.refl _ _) (.cells #[.int .i64 0, .string ⟨#[]⟩] 43))).d.own);have DB := hid (show ∀ j, (Value.slice aD L.length cD).ownBlock = some j → B ≤ j from fun j hj => (SS.out.has.d.own.lt j hj).1);have HGD := hid (BC SS.out.has.gd.d (s := (0, ⟨#[]⟩)) ⟨Nat.zero_le _, by decide⟩)
  have NEWS := hid (show aN (wr.alloc (.cells #[.int .i64 0, .string ⟨#[]⟩] 43)) (some ⟨wr.heap.size, 0, none⟩) 1 1 2 [.int .i64 0, .string ⟨#[]⟩] from
   ⟨rfl, fun e => by simp at e, fun x hx => by
    simp only [Option.some.injEq] at hx;subst hx
    exact ⟨rfl, dG (aC.new wr #[.int .i64 0, .string ⟨#[]⟩] 43)⟩⟩)
  have e1 : (L.length : Int) < ((q + 1 : Nat) : Int) := by omega
  go_wp2_with (first
   | ((with_reducible refine vg B aD L.length cD (flat L) (some ⟨wr.heap.size, 0, none⟩) 1 1 [.int .i64 0, .string ⟨#[]⟩] ?_ ?_ ?_ ?_ ?_ ?_ ?_ ?_); rfl; rfl; exact OW.out; exact NEWS.out; (· intro u hu; simp at hu; rcases hu with rfl | rfl <;> rfl); (· omega); (· have h9 := HB.out; have h8 := SS.out.bel.size; simp; omega); (intro a' c' w2 q1 q2 q3); (have KB := hid (show ∀ b C T, aC wr b C T → 8 < col' b → aC w2 b C T from fun b C T hb hc => (q2.block b (hb.alloc (.cells #[.int .i64 0, .string ⟨#[]⟩] 43)).lt (DNE.out b hc)).trans (hb.alloc (.cells #[.int .i64 0, .string ⟨#[]⟩] 43)))); (have HAS := hid (aG.Gv (SS.out.has.ext (ae (Below.refl _ _) (.cells #[.int .i64 0, .string ⟨#[]⟩] 43))) (l := L ++ [(0, ⟨#[]⟩)]) q2 (by (rw [List.length_append, lm]; exact q1)) q3 HGD.out)); (have B3 := hid (below_grow (SS.out.bel.alloc (Nat.le_trans HB.out SS.out.bel.size) (.cells #[.int .i64 0, .string ⟨#[]⟩] 43)) q2 DB.out (by have h9 := HB.out; have h8 := SS.out.bel.size; simp; omega))); (have NC := hid (show ∀ b, b < wr.heap.size → 8 < col' b → 8 < dM a' 1 col' b from fun b hb hc => by (rw [eQ (fun x hx he => by (rcases q3 x hx with ⟨y, hy, hyx⟩ | hnew; (· have h9 := SS.out.has.d.col y hy; rw [hyx, he] at h9; omega); (· simp at hnew; omega)))]; exact hc))); (have OB := hid (show ∀ b, b < w.heap.size → 8 < col b → w2.heap[b]? = w.heap[b]? ∧ 8 < dM a' 1 col' b from fun b hb h8 => by (have q9 := SS.out.oth b hb h8; have h7 := SS.out.bel.size; exact ⟨((q2.block b (by simp; omega) (DNE.out b q9.2)).trans (Below.heap_alloc wr (.cells #[.int .i64 0, .string ⟨#[]⟩] 43) b (by omega))).trans q9.1, NC.out b (by omega) q9.2⟩))); (clear q1 q2 q3 cK fK); (have S2 := hid (KB.out _ _ _ SS.out.s SS.out.c1)); (have Z2 := hid (KB.out _ _ _ SS.out.z SS.out.c2)); (have K2 := hid (KB.out _ _ _ SS.out.k SS.out.c0)); (have eqC : (au { r with ds := L ++ [(0, ⟨#[]⟩)] } ⟨aS, cS, a', c', aH, cH, aW, cW, aY, cY, aB, cB, aA, cA⟩) = (au { r with ds := L } ⟨aS, cS, aD, cD, aH, cH, aW, cW, aY, cY, aB, cB, aA, cA⟩).setIfInBounds 8 (.slice a' (L.length + 1) c') := by simp); (have k1 := hid (show aC (w2.setCell ⟨w.heap.size, 8, none⟩ (.slice a' (L.length + 1) c')) w.heap.size (au { r with ds := L ++ [(0, ⟨#[]⟩)] } ⟨aS, cS, a', c', aH, cH, aW, cW, aY, cY, aB, cB, aA, cA⟩) 31 by (rw [eqC]; exact K2.out.set (o := 8) (.slice a' (L.length + 1) c')))); (clear eqC); (have cK := K2.out.cell); (have fK := K2.out.free)))
  have SN := hid (show GU B w col r X s w.heap.size (L ++ [(0, ⟨#[]⟩)]) ⟨aS, cS, a', c', aH, cH, aW, cW, aY, cY, aB, cB, aA, cA⟩ (dM a' 1 col') (w2.setCell ⟨w.heap.size, 8, none⟩ (.slice a' (L.length + 1) c')) from
   ⟨k1.out, S2.out.setCell (by simp) _, Z2.out.setCell (by simp; omega) _, HAS.out.setCell (q := ⟨w.heap.size, 8, none⟩) (NC.out _ SS.out.k.lt SS.out.c0) _, NC.out _ SS.out.k.lt SS.out.c0, NC.out _ SS.out.s.lt SS.out.c1, NC.out _ SS.out.z.lt SS.out.c2, bG B3.out HB.out _,
    fun b hb h8 => ⟨(heap_setCell_other _ ⟨w.heap.size, 8, none⟩ b _ (by simp; omega)).trans (OB.out b hb h8).1, (OB.out b hb h8).2⟩⟩)
  go_roundw;case rel => exact ⟨j + 1, L ++ [(0, ⟨#[]⟩)], ⟨aS, cS, a', c', aH, cH, aW, cW, aY, cY, aB, cB, aA, cA⟩, _, by rw [HL.out, Gg], .inr (by simp; omega), SN.out⟩
  case measure =>
   have m1 := SN.out.len;have m2 := SS.out.len;rw [m1, m2];simp;omega
 have HP := hid (show L = zQ r.ds (q + 1) by
  rw [HL.out, zQ];congr 2;have h9 := congrArg List.length HL.out;simp at h9
  rcases hj with rfl | hj <;> omega)
 have hql : q < L.length := by omega
 have hu : L[q]? = some L[q] := List.getElem?_eq_getElem hql;have hf := iY L q _ hu;obtain ⟨g9, e0, hg9, d0, f0⟩ := SS.out.has.d.cell hf.1;obtain ⟨g8, e1, _, d1, f1⟩ := SS.out.has.d.cell hf.2;have e2 := di e0 e1;subst e2;clear e1 hf hu;dsimp only at e0;subst e0;have CG := hid (show col' g8 = 1 from SS.out.has.d.col _ rfl);have NE := hid (show ∀ b, 8 < col' b → b ≠ g8 from fun b h8 e => by rw [e, CG.out] at h8; omega);have hs0 := SS.out.s.cell;have V5e : ∀ b C T, aC wr b C T → b ≠ g8 → aC ((wr.setCell ⟨g8, q * 2, none⟩ (.int .i64 s.1)).setCell ⟨g8, q * 2 + 1, none⟩ (.string s.2)) b C T := fun b C T hb hne => (hb.setCell (p := ⟨g8, q * 2, none⟩) hne _).setCell (p := ⟨g8, q * 2 + 1, none⟩) hne _
 have k1 : aC ((wr.setCell ⟨g8, q * 2, none⟩ (.int .i64 s.1)).setCell ⟨g8, q * 2 + 1, none⟩ (.string s.2)) w.heap.size (au { r with ds := L.set q s } ⟨aS, cS, some ⟨g8, 0, none⟩, cD, aH, cH, aW, cW, aY, cY, aB, cB, aA, cA⟩) 31 := uS (V5e _ _ _ SS.out.k (NE.out _ SS.out.c0)) (by simp);have k2 : aC ((wr.setCell ⟨g8, q * 2, none⟩ (.int .i64 s.1)).setCell ⟨g8, q * 2 + 1, none⟩ (.string s.2)) (w.heap.size + 1 + 1) bP 31 := V5e _ _ _ SS.out.z (NE.out _ SS.out.c2);have e3 : (q : Int) < (L.length : Int) := by omega
 have e4 : ¬ (L.length : Int) < ((q + 1 : Nat) : Int) := by omega
 have HR := hid (show rC r (q + 1) s = { r with ds := L.set q s } by rw [rC, nU, ← HP.out]; rfl)
 have HAS := hid (show aG B ((wr.setCell ⟨g8, q * 2, none⟩ (.int .i64 s.1)).setCell ⟨g8, q * 2 + 1, none⟩ (.string s.2)) { r with ds := L.set q s } ⟨aS, cS, some ⟨g8, 0, none⟩, cD, aH, cH, aW, cW, aY, cY, aB, cB, aA, cA⟩ X col' from
  SS.out.has.L9 (l := L.set q s) (by simp) (fun b hb hne => (heap_setCell_other _ ⟨g8, q * 2 + 1, none⟩ b _ (fun e => hne (by rw [e]; exact CG.out))).trans (heap_setCell_other _ ⟨g8, q * 2, none⟩ b _ (fun e => hne (by rw [e]; exact CG.out))))
   (by rw [wR]; exact ((SS.out.has.d.own.stored (q * 2) (.int .i64 s.1)).1.stored (q * 2 + 1) (.string s.2)).1) (Ey SS.out.has.gd.d HSg.out))
 have B5 := hid (show Below B w ((wr.setCell ⟨g8, q * 2, none⟩ (.int .i64 s.1)).setCell ⟨g8, q * 2 + 1, none⟩ (.string s.2)) from bG (bG SS.out.bel (show B ≤ g8 from (SS.out.has.d.lt _ rfl).1) _) (show B ≤ g8 from (SS.out.has.d.lt _ rfl).1) _);clear V5e
 go_wp2_with (first
  | ((with_reducible refine ah w.heap.size (au { r with ds := L.set q s } ⟨aS, cS, some ⟨g8, 0, none⟩, cD, aH, cH, aW, cW, aY, cY, aB, cB, aA, cA⟩) rfl ?_ ?_ ?_); rfl; exact k1)
  | ((with_reducible refine af (w.heap.size + 1 + 1) bP (au { r with ds := L.set q s } ⟨aS, cS, some ⟨g8, 0, none⟩, cD, aH, cH, aW, cW, aY, cY, aB, cB, aA, cA⟩) rfl rfl ?_ ?_ ?_ ?_ ?_); rfl; rfl; exact k2; simp [Value.oneCell']))
 have hz := setRow_heap _ (w.heap.size + 1 + 1) _ (au { r with ds := L.set q s } ⟨aS, cS, some ⟨g8, 0, none⟩, cD, aH, cH, aW, cW, aY, cY, aB, cB, aA, cA⟩) _ _ k2;refine az (ty := 31) Try.results111 (w.heap.size + 1 + 1) (au { r with ds := L.set q s } ⟨aS, cS, some ⟨g8, 0, none⟩, cD, aH, cH, aW, cW, aY, cY, aB, cB, aA, cA⟩) _ ?_ ?_ hz Try.underlying31 rfl (by kernel_rfl) ?_
 ·rfl
 ·rfl
 rw [HR.out];refine ⟨⟨aS, cS, some ⟨g8, 0, none⟩, cD, aH, cH, aW, cW, aY, cY, aB, cB, aA, cA⟩, X, col', rfl, HAS.out.setRow SS.out.c2 _, ay B5.out (by have := HB.out; omega) _, fun b hb h8 => ?_⟩;have q1 := SS.out.oth b hb h8;have q2 := NE.out b q1.2;exact ⟨((setRow_other _ (w.heap.size + 1 + 1) b _ (by omega)).trans ((heap_setCell_other _ ⟨g8, q * 2 + 1, none⟩ b _ q2).trans (heap_setCell_other _ ⟨g8, q * 2, none⟩ b _ q2))).trans q1.1, q1.2⟩
theorem jb (B : Nat) (w : World) (col : Nat → Nat) (t : Nat) (e : TypeId) (k : Nat) : aO B w col t e k none 0 0 [] := ⟨World.ownsRow_nil _ _ _ _, fun x hx => by simp at hx⟩


theorem pR {ops : Array Oper} {rest : List Oper} {dst : Option Tmp} {x y : Operand} {τ : TypeId} {pos : String} {after : Array Edge} {gd : Option (Nat × Bool)} {a : Act} {w : World} {Q : Exit → Act → World → Prop}
  (aD : Option Addr) (n c k : Nat) (hw : Region.wanted { dst := dst, op := .slice 23 x none (some y) none, type := τ, pos := pos, after := after, guard := gd } (yielded ops a.tmps) = true)
  (hx : a.eval x = .slice aD n c) (hy : a.eval y = .int .i64 (k : Int)) (hk : k ≤ c) (ha : aD = none → c = 0)
  (h : wpList Try.prog ops Q rest (a.put dst (.slice aD k c)) w) :
  wpList Try.prog ops Q ({ dst := dst, op := .slice 23 x none (some y) none, type := τ, pos := pos, after := after, guard := gd } :: rest) a w :=
 wpList_step fun K hK => by
  rw [if_pos hw];have e1 : (0 : Int) ≤ (k : Int) := by omega
  have e2 : (k : Int) ≤ (c : Int) := by omega
  have hK' := hid (hK _ _ h);clear hK h hw;cases aD with
  | none =>
   have e9 := ha rfl;subst e9;have e8 : k = 0 := by omega
   subst e8;simp only [Oper.wp, execOp, hx, hy, Option.map_some, Option.map_none];go_simp;exact hK'.out
  | some ad =>
   simp only [Oper.wp, execOp, hx, hy, Option.map_some, Option.map_none];go_simp;exact hK'.out
theorem Aj (h : (t.size : Int) < 1) : iC r t = r := qO (by simp only [pU, vW (show ¬ (1 : Int) ≤ (t.size : Int) by omega), Bool.false_and])
theorem Bf (h : 100 < (t.size : Int)) : iC r t = r := qO (by simp only [pU, uh (show ¬ (t.size : Int) ≤ 100 by omega), Bool.false_and])
theorem Aa (h : (20 : Int) ≤ (r.wish.length : Int)) : iC r t = r := qO (by simp only [pU, decide_eq_false (show ¬ r.wish.length < 20 by omega), Bool.and_false, Bool.false_and])
theorem Bh (h : iw (r.ds.take r.dk.toNat) t = true) : iC r t = r := qO (by simp only [pU, h, Bool.not_true, Bool.and_false, Bool.false_and])
theorem Ad (h : hasB r.wish t = true) : iC r t = r := qO (by simp only [pU, h, Bool.not_true, Bool.and_false])
theorem zU (h1 : ¬ (t.size : Int) < 1) (h2 : ¬ 100 < (t.size : Int)) (h3 : ¬ (20 : Int) ≤ (r.wish.length : Int)) (h4 : iw (r.ds.take r.dk.toNat) t = false) (h5 : hasB r.wish t = false) : iC r t = { r with wish := r.wish ++ [t] } :=
 DZ (by simp only [pU, uz (show (1 : Int) ≤ (t.size : Int) by omega) (show (t.size : Int) ≤ 100 by omega), decide_eq_true (show r.wish.length < 20 by omega), h4, h5]; rfl)
theorem Bi {l : List ByteArray} {u : ByteArray} {k : Nat} (hs : l[k]? = some u) (h : jd u t = true) : hasB l t = true := List.any_eq_true.2 ⟨u, List.mem_of_getElem? hs, by rw [mQ]; exact h⟩
theorem Du {l : List ByteArray} (h : ∀ (i : Nat) u, i < l.length → l[i]? = some u → jd u t = false) : hasB l t = false := by
 unfold hasB;rw [List.any_eq_false];intro u hu;obtain ⟨i, hi, rfl⟩ := List.getElem_of_mem hu;rw [mQ, h i _ hi (List.getElem?_eq_getElem hi)];simp
theorem Es (B : Nat) (r : Rc) (p : fU) (X : iU) (col : Nat → Nat) (t : ByteArray) (w : World) (hB : B ≤ w.heap.size) (hk0 : 0 ≤ r.dk) (hk1 : r.dk ≤ r.ds.length) (hw : r.wish.length ≤ 1048576) (ht : t.size ≤ 1048576) (h : aG B w r p X col) :
  Calls Try.prog 101 #[.agg (au r p), .string t] w (jH B w col (iC r t)) := by
 obtain ⟨aS, cS, aD, cD, aH, cH, aW, cW, aY, cY, aB, cB, aA, cA⟩ := p;have RD := hid h.fresh;have HBs := hid hB;obtain ⟨k, hk9⟩ : ∃ k : Nat, r.dk = (k : Int) := ⟨r.dk.toNat, by omega⟩
 have hkn : k ≤ r.ds.length := by omega
 have TK := hid (show r.dk.toNat = k by omega);have HK := hid hk9;have hkc : k ≤ cD := Nat.le_trans hkn RD.out.d.len.2;clear h hk0 hk1 hB;obtain ⟨V, hV⟩ : ∃ V, V = (w.alloc (.cells (au r ⟨aS, cS, aD, cD, aH, cH, aW, cW, aY, cY, aB, cB, aA, cA⟩) 31)).alloc (.cells bP 31) := ⟨_, rfl⟩
 have BV := hid (show Below w.heap.size w V by rw [hV]; exact ae (ae (Below.refl _ _) _) _);have K1 := hid (show aC V w.heap.size (au r ⟨aS, cS, aD, cD, aH, cH, aW, cW, aY, cY, aB, cB, aA, cA⟩) 31 by rw [hV]; exact (aC.new _ _ _).alloc _);have K2 := hid (show aC V (w.heap.size + 1) bP 31 by rw [hV]; exact aC.new' _ _ (by simp));have c7 := (K1.out.cell 7).trans (show (au r ⟨aS, cS, aD, cD, aH, cH, aW, cW, aY, cY, aB, cB, aA, cA⟩)[7]? = some (Value.int .i64 (k : Int)) by rw [← hk9]; rfl);have c8 := (K1.out.cell 8).trans (show (au r ⟨aS, cS, aD, cD, aH, cH, aW, cW, aY, cY, aB, cB, aA, cA⟩)[8]? = some (Value.slice aD r.ds.length cD) from rfl);have c10 := (K1.out.cell 10).trans (show (au r ⟨aS, cS, aD, cD, aH, cH, aW, cW, aY, cY, aB, cB, aA, cA⟩)[10]? = some (Value.slice aW r.wish.length cW) from rfl);have k1 := K1.out;have k2 := K2.out;rw [hV] at c7 c8 c10 k1 k2;clear hk9;by_cases h1 : (t.size : Int) < 1
 ·have H1 := hid (Aj (r := r) h1);go_enter Try.func101, Try.ntmps101
  go_wp2_with (first
   | ((with_reducible refine ah w.heap.size (au r ⟨aS, cS, aD, cD, aH, cH, aW, cW, aY, cY, aB, cB, aA, cA⟩) rfl ?_ ?_ ?_); rfl; exact k1)
   | ((with_reducible refine af (w.heap.size + 1) bP (au r ⟨aS, cS, aD, cD, aH, cH, aW, cW, aY, cY, aB, cB, aA, cA⟩) rfl rfl ?_ ?_ ?_ ?_ ?_); rfl; rfl; exact k2; simp [Value.oneCell']))
  have hz := setRow_heap _ (w.heap.size + 1) _ (au r ⟨aS, cS, aD, cD, aH, cH, aW, cW, aY, cY, aB, cB, aA, cA⟩) _ _ k2;refine az (ty := 31) Try.results101 (w.heap.size + 1) (au r ⟨aS, cS, aD, cD, aH, cH, aW, cW, aY, cY, aB, cB, aA, cA⟩) _ ?_ ?_ hz Try.underlying31 rfl (by kernel_rfl) ?_
  ·rfl
  ·rfl
  rw [H1.out];rw [← hV];exact ⟨⟨aS, cS, aD, cD, aH, cH, aW, cW, aY, cY, aB, cB, aA, cA⟩, X, _, rfl, (RD.out.ext BV.out).setRow (by rw [bI (by omega)]; omega) _, ay (BV.out.mono HBs.out) (by have := HBs.out; omega) _, Others.of (ay BV.out (by omega) _) (fun b hb => bn hb)⟩
 by_cases h2 : 100 < (t.size : Int)
 ·have H1 := hid (Bf (r := r) h2);go_enter Try.func101, Try.ntmps101
  go_wp2_with (first
   | ((with_reducible refine ah w.heap.size (au r ⟨aS, cS, aD, cD, aH, cH, aW, cW, aY, cY, aB, cB, aA, cA⟩) rfl ?_ ?_ ?_); rfl; exact k1)
   | ((with_reducible refine af (w.heap.size + 1) bP (au r ⟨aS, cS, aD, cD, aH, cH, aW, cW, aY, cY, aB, cB, aA, cA⟩) rfl rfl ?_ ?_ ?_ ?_ ?_); rfl; rfl; exact k2; simp [Value.oneCell']))
  have hz := setRow_heap _ (w.heap.size + 1) _ (au r ⟨aS, cS, aD, cD, aH, cH, aW, cW, aY, cY, aB, cB, aA, cA⟩) _ _ k2;refine az (ty := 31) Try.results101 (w.heap.size + 1) (au r ⟨aS, cS, aD, cD, aH, cH, aW, cW, aY, cY, aB, cB, aA, cA⟩) _ ?_ ?_ hz Try.underlying31 rfl (by kernel_rfl) ?_
  ·rfl
  ·rfl
  rw [H1.out];rw [← hV];exact ⟨⟨aS, cS, aD, cD, aH, cH, aW, cW, aY, cY, aB, cB, aA, cA⟩, X, _, rfl, (RD.out.ext BV.out).setRow (by rw [bI (by omega)]; omega) _, ay (BV.out.mono HBs.out) (by have := HBs.out; omega) _, Others.of (ay BV.out (by omega) _) (fun b hb => bn hb)⟩
 by_cases h3 : (20 : Int) ≤ (r.wish.length : Int)
 ·have H1 := hid (Aa (t := t) h3);go_enter Try.func101, Try.ntmps101
  go_wp2_with (first
   | ((with_reducible refine ah w.heap.size (au r ⟨aS, cS, aD, cD, aH, cH, aW, cW, aY, cY, aB, cB, aA, cA⟩) rfl ?_ ?_ ?_); rfl; exact k1)
   | ((with_reducible refine af (w.heap.size + 1) bP (au r ⟨aS, cS, aD, cD, aH, cH, aW, cW, aY, cY, aB, cB, aA, cA⟩) rfl rfl ?_ ?_ ?_ ?_ ?_); rfl; rfl; exact k2; simp [Value.oneCell']))
  have hz := setRow_heap _ (w.heap.size + 1) _ (au r ⟨aS, cS, aD, cD, aH, cH, aW, cW, aY, cY, aB, cB, aA, cA⟩) _ _ k2;refine az (ty := 31) Try.results101 (w.heap.size + 1) (au r ⟨aS, cS, aD, cD, aH, cH, aW, cW, aY, cY, aB, cB, aA, cA⟩) _ ?_ ?_ hz Try.underlying31 rfl (by kernel_rfl) ?_
  ·rfl
  ·rfl
  rw [H1.out];rw [← hV];exact ⟨⟨aS, cS, aD, cD, aH, cH, aW, cW, aY, cY, aB, cB, aA, cA⟩, X, _, rfl, (RD.out.ext BV.out).setRow (by rw [bI (by omega)]; omega) _, ay (BV.out.mono HBs.out) (by have := HBs.out; omega) _, Others.of (ay BV.out (by omega) _) (fun b hb => bn hb)⟩
 go_enter Try.func101, Try.ntmps101;go_wp2_with ((with_reducible refine pR aD r.ds.length cD k ?_ ?_ ?_ ?_ ?_ ?_); rfl; rfl; rfl; exact hkc; exact RD.out.d.plain.1);rw [← hV];clear c7 c8 c10 k1 k2;have LT := hid (show (r.ds.take k).length = k by rw [List.length_take]; omega);refine (oG aD (r.ds.take k) k cD t _ LT.out (Nat.le_trans hkn RD.out.at.lD) ((RD.out.ext BV.out).at.hD.take k)).mono ?_;rintro e w1 ⟨rfl, hb1⟩;have B1 := hid (aj BV.out hb1);have K1b := hid (K1.out.ext hb1);have K2b := hid (K2.out.ext hb1);clear hb1 K1 K2 hV BV;have k1 := K1b.out;have k2 := K2b.out;cases h4 : iw (r.ds.take k) t
 case true =>
  have H1 := hid (Bh (r := r) (t := t) (by rw [TK.out]; exact h4))
  go_wp2_with (first
   | ((with_reducible refine ah w.heap.size (au r ⟨aS, cS, aD, cD, aH, cH, aW, cW, aY, cY, aB, cB, aA, cA⟩) rfl ?_ ?_ ?_); rfl; exact k1)
   | ((with_reducible refine af (w.heap.size + 1) bP (au r ⟨aS, cS, aD, cD, aH, cH, aW, cW, aY, cY, aB, cB, aA, cA⟩) rfl rfl ?_ ?_ ?_ ?_ ?_); rfl; rfl; exact k2; simp [Value.oneCell']))
  have hz := setRow_heap _ (w.heap.size + 1) _ (au r ⟨aS, cS, aD, cD, aH, cH, aW, cW, aY, cY, aB, cB, aA, cA⟩) _ _ k2;refine az (ty := 31) Try.results101 (w.heap.size + 1) (au r ⟨aS, cS, aD, cD, aH, cH, aW, cW, aY, cY, aB, cB, aA, cA⟩) _ ?_ ?_ hz Try.underlying31 rfl (by kernel_rfl) ?_
  ·rfl
  ·rfl
  rw [H1.out];exact ⟨⟨aS, cS, aD, cD, aH, cH, aW, cW, aY, cY, aB, cB, aA, cA⟩, X, _, rfl, (RD.out.ext B1.out).setRow (by rw [bI (by omega)]; omega) _, ay (B1.out.mono HBs.out) (by have := HBs.out; omega) _, Others.of (ay B1.out (by omega) _) (fun b hb => bn hb)⟩
 have H4 := hid (show iw (r.ds.take r.dk.toNat) t = false by rw [TK.out]; exact h4);clear h4;have c10 := (K1b.out.cell 10).trans (show (au r ⟨aS, cS, aD, cD, aH, cH, aW, cW, aY, cY, aB, cB, aA, cA⟩)[10]? = some (Value.slice aW r.wish.length cW) from rfl);go_wp2_with fail;go_loopw [5] (fun i wr => ∃ (j : Nat), j ≤ r.wish.length ∧ i = .int .i64 j ∧ (∀ (q : Nat) u, q < j → r.wish[q]? = some u → jd u t = false) ∧ Below w1.heap.size w1 wr) (fun i _ => r.wish.length - (intOf i).toNat);case atStart => exact ⟨0, Nat.zero_le _, rfl, fun q u hq => absurd hq (by omega), Below.refl _ _⟩
 obtain ⟨j, hj, rfl, hin0, hbel0⟩ := hrel;have hin := hid hin0;have hbel := hid hbel0;clear hin0 hbel0 k1 k2 c10;have B2 := hid (aj B1.out hbel.out);have k1 := K1b.out.ext hbel.out;have k2 := K2b.out.ext hbel.out;by_cases hlt : j < r.wish.length
 ·obtain ⟨u, hs0⟩ : ∃ s, r.wish[j]? = some s := ⟨_, List.getElem?_eq_getElem hlt⟩
  have hs := hid hs0;obtain ⟨b, off, e0, hb1, c0, _⟩ := ((RD.out.ext B2.out).at.hW) j u hs0;dsimp only at e0;have c10 : wr.cell? ⟨w.heap.size, 10, none⟩ = some (.slice (some ⟨b, off, none⟩) r.wish.length cW) := by rw [k1.cell 10, ← e0]; rfl
  have E0 := hid e0;clear hs0 e0;have e1 : (0 : Int) ≤ (j : Int) := by omega
  have e2 : (j : Int) < (r.wish.length : Int) := by omega
  cases hq : jd u t
  ·have hq' : (u.toList == t.toList) = false := hq;have HQ := hid hq;clear hq;go_wp2;go_roundw;case rel =>
    refine ⟨j + 1, by omega, by go_num, fun q v hq hv => ?_, hbel.out⟩;by_cases he : q = j
    ·subst he; rw [hs.out] at hv; simp only [Option.some.injEq] at hv; rw [← hv]; exact HQ.out
    exact hin.out q v (by omega) hv
   case measure => simp [intOf]; omega
  have hq' : (u.toList == t.toList) = true := hq;have H1 := hid (Ad (Bi hs.out hq));clear hq
  go_wp2_with (first
   | ((with_reducible refine ah w.heap.size (au r ⟨aS, cS, aD, cD, aH, cH, aW, cW, aY, cY, aB, cB, aA, cA⟩) rfl ?_ ?_ ?_); rfl; exact k1)
   | ((with_reducible refine af (w.heap.size + 1) bP (au r ⟨aS, cS, aD, cD, aH, cH, aW, cW, aY, cY, aB, cB, aA, cA⟩) rfl rfl ?_ ?_ ?_ ?_ ?_); rfl; rfl; exact k2; simp [Value.oneCell']))
  have hz := setRow_heap _ (w.heap.size + 1) _ (au r ⟨aS, cS, aD, cD, aH, cH, aW, cW, aY, cY, aB, cB, aA, cA⟩) _ _ k2;refine az (ty := 31) Try.results101 (w.heap.size + 1) (au r ⟨aS, cS, aD, cD, aH, cH, aW, cW, aY, cY, aB, cB, aA, cA⟩) _ ?_ ?_ hz Try.underlying31 rfl (by kernel_rfl) ?_
  ·rfl
  ·rfl
  rw [H1.out];exact ⟨⟨aS, cS, aD, cD, aH, cH, aW, cW, aY, cY, aB, cB, aA, cA⟩, X, _, rfl, (RD.out.ext B2.out).setRow (by rw [bI (by omega)]; omega) _, ay (B2.out.mono HBs.out) (by have := HBs.out; omega) _, Others.of (ay B2.out (by omega) _) (fun b hb => bn hb)⟩
 have hjj : j = r.wish.length := by omega
 subst hjj;have H5 := hid (Du (t := t) (l := r.wish) (fun i u hi hu => hin.out i u hi hu));have H1 := hid (zU (by omega) (by omega) (by omega) H4.out H5.out);have HT := hid (show okS t by unfold okS maxLen; omega);have c10 := (k1.cell 10).trans (show (au r ⟨aS, cS, aD, cD, aH, cH, aW, cW, aY, cY, aB, cB, aA, cA⟩)[10]? = some (Value.slice aW r.wish.length cW) from rfl);have OW := hid ((RD.out.ext (ae B2.out (.cells #[.string t] 9))).t.own)
 have WNE := hid (show ∀ b, w.heap.size ≤ b → some b ≠ (Value.slice aW r.wish.length cW).ownBlock from fun b hle e => by
  have h9 := RD.out.t.own.lt b e.symm
  omega)
 have DNE := hid (show ∀ b, 8 < dm w.heap.size col b → some b ≠ (Value.slice aW r.wish.length cW).ownBlock from fun b h8 e => by
  cases hs : aW with
  | none => rw [hs] at e; simp [Value.ownBlock] at e
  | some y =>
   rw [hs] at e;simp only [Value.ownBlock, Option.some.injEq] at e;have h7 := RD.out.t.col y hs;rw [← e] at h7
   omega)
 have WB := hid (show ∀ j, (Value.slice aW r.wish.length cW).ownBlock = some j → B ≤ j from fun j hj => (RD.out.t.own.lt j hj).1)
 have NEWS := hid (show aN (wr.alloc (.cells #[.string t] 9)) (some ⟨wr.heap.size, 0, none⟩) 1 1 1 [.string t] from
  ⟨rfl, fun e => by simp at e, fun x hx => by
   simp only [Option.some.injEq] at hx;subst hx
   exact ⟨rfl, dG (aC.new wr #[.string t] 9)⟩⟩)
 go_wp2_with (first
  | ((with_reducible refine nI B aW r.wish.length cW (fH r.wish) (some ⟨wr.heap.size, 0, none⟩) 1 1 [.string t] ?_ ?_ ?_ ?_ ?_ ?_ ?_ ?_); rfl; rfl; exact OW.out; exact NEWS.out; (· intro u hu; simp at hu; subst hu; rfl); (· omega); (· have h9 := HBs.out; have h8 := B2.out.size; simp; omega); (intro a' c' w2 q1 q2 q3); (have KB := hid (show ∀ b C T, aC (wr.alloc (.cells #[.string t] 9)) b C T → w.heap.size ≤ b → aC w2 b C T from fun b C T hb hle => (q2.block b hb.lt (WNE.out b hle)).trans hb)); (have K1c := hid (KB.out _ _ _ (k1.alloc (.cells #[.string t] 9)) (Nat.le_refl _))); (have K2c := hid (KB.out _ _ _ (k2.alloc (.cells #[.string t] 9)) (by omega))); (have HAS := hid (aG.Jw (RD.out.ext (ae B2.out (.cells #[.string t] 9))) (l := r.wish ++ [t]) q2 (by (simp only [List.length_append, List.length_cons, List.length_nil, fH, List.map_append, List.map_cons, List.map_nil]; exact q1)) q3 (xx RD.out.gd.t HT.out))); (have B3 := hid (below_grow ((ae B2.out (.cells #[.string t] 9)).mono HBs.out) q2 WB.out (by have h9 := HBs.out; have h8 := B2.out.size; simp; omega))); (have NW := hid (show ∀ x, a' = some x → x.block ≠ w.heap.size ∧ x.block ≠ w.heap.size + 1 from fun x hx => by (have h8 := B2.out.size; have h7 := k2.lt; rcases q3 x hx with ⟨y, hy, he⟩ | hnew; (· have h9 := (RD.out.t.lt y hy).2; omega); (· simp at hnew; omega)))); (have OB := hid (show ∀ b, b < w.heap.size → 8 < col b → w2.heap[b]? = w.heap[b]? ∧ 8 < dM a' 3 (dm w.heap.size col) b from fun b hb h8 => by (have h9 : 8 < dm w.heap.size col b := (by (rw [bn hb]; exact h8)); have h7 := B2.out.size; exact ⟨(q2.block b (by simp; omega) (DNE.out b h9)).trans ((ae B2.out (.cells #[.string t] 9)).block b hb), (by (rw [eQ (fun x hx he => by (rcases q3 x hx with ⟨y, hy, hyx⟩ | hnew; (· have h6 := RD.out.t.col y hy; rw [hyx, he] at h6; omega); (· simp at hnew; omega)))]; exact h9))⟩))); (clear q1 q2 q3 k1 k2 c10); (have eqC : (au { r with wish := r.wish ++ [t] } ⟨aS, cS, aD, cD, aH, cH, a', c', aY, cY, aB, cB, aA, cA⟩) = (au r ⟨aS, cS, aD, cD, aH, cH, aW, cW, aY, cY, aB, cB, aA, cA⟩).setIfInBounds 10 (.slice a' (r.wish.length + 1) c') := by simp); (have k1 : aC (w2.setCell ⟨w.heap.size, 10, none⟩ (.slice a' (r.wish.length + 1) c')) w.heap.size (au { r with wish := r.wish ++ [t] } ⟨aS, cS, aD, cD, aH, cH, a', c', aY, cY, aB, cB, aA, cA⟩) 31 := by (rw [eqC]; exact K1c.out.set (o := 10) (.slice a' (r.wish.length + 1) c'))); (clear eqC); (have k2 : aC (w2.setCell ⟨w.heap.size, 10, none⟩ (.slice a' (r.wish.length + 1) c')) (w.heap.size + 1) bP 31 := K2c.out.setCell (by simp) _); (have cK := K1c.out.cell); (have fK := K1c.out.free))
  | ((with_reducible refine ah w.heap.size (au { r with wish := r.wish ++ [t] } ⟨aS, cS, aD, cD, aH, cH, a', c', aY, cY, aB, cB, aA, cA⟩) rfl ?_ ?_ ?_); rfl; exact k1)
  | ((with_reducible refine af (w.heap.size + 1) bP (au { r with wish := r.wish ++ [t] } ⟨aS, cS, aD, cD, aH, cH, a', c', aY, cY, aB, cB, aA, cA⟩) rfl rfl ?_ ?_ ?_ ?_ ?_); rfl; rfl; exact k2; simp [Value.oneCell']))
 have hz := setRow_heap _ (w.heap.size + 1) _ (au { r with wish := r.wish ++ [t] } ⟨aS, cS, aD, cD, aH, cH, a', c', aY, cY, aB, cB, aA, cA⟩) _ _ k2;refine az (ty := 31) Try.results101 (w.heap.size + 1) (au { r with wish := r.wish ++ [t] } ⟨aS, cS, aD, cD, aH, cH, a', c', aY, cY, aB, cB, aA, cA⟩) _ ?_ ?_ hz Try.underlying31 rfl (by kernel_rfl) ?_
 ·rfl
 ·rfl
 rw [H1.out];have q8 : ∀ b, w.heap.size ≤ b → (∀ x, a' = some x → x.block ≠ b) → 8 < dM a' 3 (dm w.heap.size col) b := fun b hb hx => by rw [eQ hx, bI hb]; omega
 exact ⟨⟨aS, cS, aD, cD, aH, cH, a', c', aY, cY, aB, cB, aA, cA⟩, X, _, rfl, (HAS.out.setCell (q := ⟨w.heap.size, 10, none⟩) (q8 _ (Nat.le_refl _) (fun x hx => (NW.out x hx).1)) _).setRow (q8 _ (by omega) (fun x hx => (NW.out x hx).2)) _, ay (bG B3.out HBs.out _) (by have := HBs.out; omega) _, fun b hb h8 => ⟨((setRow_other _ (w.heap.size + 1) b _ (by omega)).trans (heap_setCell_other _ ⟨w.heap.size, 10, none⟩ b _ (by simp; omega))).trans (OB.out b hb h8).1, (OB.out b hb h8).2⟩⟩
end Go.Proofs.Ytjdceoimignnpaa
