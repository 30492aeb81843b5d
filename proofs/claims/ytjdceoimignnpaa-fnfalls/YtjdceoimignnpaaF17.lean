import Derived.Test.YtjdceoimignnpaaF16
namespace Go.Proofs.Ytjdceoimignnpaa
open Go.ChangeShapes Go.WideShapes Go.ChangeAt Go.RowKit
set_option linter.unusedVariables false
set_option linter.unusedSimpArgs false
set_option maxHeartbeats 16000000
set_option maxRecDepth 20000
variable {g : Nat}
def rJ (b : Int) : List Sl → Nat → List Sl → List Sl
 | [], _, ds => ds
 | s :: t, i, ds => rJ b t (i + 1) (nU ds (i + 1) (b, s.2))
def jk (r : Rc) (best : List Sl) : List Sl := rJ r.ball (best.drop r.dk.toNat) r.dk.toNat r.ds
abbrev jM (r : Rc) (L : List Sl) : Rc := { aU r with lead := true, ball := r.ball, ds := L }
abbrev Ll (r : Rc) (f : Int) (l : List Sl) : Rc := { r with yes := dN r.yes f, best := dY r.best l }
def jl (r : Rc) (f : Int) (l : List Sl) : Rc := if 2 * ((dN r.yes f).length : Int) ≤ r.of_ then Ll r f l else jM r (jk r (dY r.best l))
theorem oP (l : List Sl) (i : Nat) (s : Sl) : (nU l i s).length = max l.length i := by
 unfold nU zQ;simp;omega
theorem gG {S : World → Prop} {ops : Array Oper} {o : Oper} {a : Act} {cs : Array Value} (hb : ∀ w, S w → aC w g cs 31) (hs : cs.size = 18) (hw : Region.wanted o (yielded ops a.tmps) = true) (x : Operand) (ho : o.op = .load 31 x) (hx : a.eval x = .pointer (some ⟨g, 0, none⟩)) :
  YieldsIf Try.prog ops S o (.agg cs) a :=
 .inl ⟨hw, fun w hS => by
  unfold execOp
  simp only [ho, hx, Instr.loadAt, Instr.sureAddr, Sem.run_bind, Sem.run_pure, Result.andThen_ok, run_loadVar_row w g 31 31 cs (0, 0) _ (hb w hS) Try.underlying31 rfl (by rw [hs]; kernel_rfl)]⟩
structure yB (g : Nat) (c : Array Value) (q : Addr) (u : Value) (w' : World) : Prop where
 blk : aC w' g c 31
 cel : w'.cell? q = some u
theorem yB.drew {c : Array Value} {q : Addr} {u : Value} {w' : World} (h : yB g c q u w') : yB g c q u w'.drew := ⟨h.blk, h.cel⟩
structure Hg (B : Nat) (w : World) (col : Nat → Nat) (r : Rc) (best : List Sl) (gm cm : Nat) (L : List Sl) (p' : fU) (X' : iU) (col' : Nat → Nat) (v : World) : Prop where
 k : aC v w.heap.size (au (jM r L) p') 31
 z : aC v (w.heap.size + 1) bP 31
 has : aG B v (jM r L) p' X' col'
 c0 : 8 < col' w.heap.size
 c1 : 8 < col' (w.heap.size + 1)
 c2 : 8 < col' gm
 gb : aZ gm (gm + 1) v 43 2 (some ⟨gm, 0, none⟩) best.length cm (flat best)
 gh : gm < v.heap.size
 gn : gm ≠ w.heap.size
 bel : Below B w v
 oth : Others w col v col'
theorem Ku {w : World} {B n c k : Nat} {e : TypeId} {xs : List Value} (h : w.ownsRow B e k (.slice (some ⟨g, 0, none⟩) n c) n xs) : w.ownsRow g e k (.slice (some ⟨g, 0, none⟩) n c) n xs := by
 refine ⟨h.1, ?_⟩;rcases h.2 with ⟨h0, _⟩ | ⟨g', cap, cur, hv, hB, r⟩
 ·simp at h0
 have e0 : g = g' := by simp only [Value.slice.injEq, Option.some.injEq, Addr.mk.injEq] at hv; exact hv.1.1
 subst e0;exact .inr ⟨g, cap, cur, hv, Nat.le_refl _, r⟩
theorem tZ (B : Nat) (r : Rc) (p : fU) (X : iU) (col : Nat → Nat) (f : Int) (al : Option Addr) (l : List Sl) (cl : Nat) (w : World) (hB : B ≤ w.heap.size) (hd0 : 0 ≤ r.dk) (hS : bD r) (hl : l.length ≤ 1048576) (hy : r.yes.length ≤ 100000) (hbw : ny r.ball) (hf : ny f) (hsl : cO w al l) (h : aG B w r p X col) :
  Calls Try.prog 103 #[.agg (au r p), .int .i64 f, .slice al l.length cl] w (jH B w col (jl r f l)) := by
 obtain ⟨aS, cS, aD, cD, aH, cH, aW, cW, aY, cY, aB, cB, aA, cA⟩ := p;have HB := hid hB;have HS := hid hS;have RD := hid h;have BW := hid hbw;have HF := hid hf;have SL := hid hsl;have HY := hid hy;have D0 := hid hd0;have BV := hid (show Below w.heap.size w ((w.alloc (.cells (au r ⟨aS, cS, aD, cD, aH, cH, aW, cW, aY, cY, aB, cB, aA, cA⟩) 31)).alloc (.cells bP 31)) from ae (ae (Below.refl _ _) _) _);obtain ⟨V, hV⟩ : ∃ V, V = (w.alloc (.cells (au r ⟨aS, cS, aD, cD, aH, cH, aW, cW, aY, cY, aB, cB, aA, cA⟩) 31)).alloc (.cells bP 31) := ⟨_, rfl⟩
 have K1 := hid (show aC V w.heap.size (au r ⟨aS, cS, aD, cD, aH, cH, aW, cW, aY, cY, aB, cB, aA, cA⟩) 31 by rw [hV]; exact (aC.new _ _ _).alloc _);have K2 := hid (show aC V (w.heap.size + 1) bP 31 by rw [hV]; exact aC.new' _ _ (by simp));have BV := hid (show Below w.heap.size w V by rw [hV]; exact BV.out);have SZ := hid (show w.heap.size + 1 < V.heap.size from K2.out.lt);have H1 := hid (h.fresh.ext BV.out);clear h hS hB hd0 hf hsl hbw hy;have cK := K1.out.cell;rw [hV] at cK;go_enter Try.func103, Try.ntmps103;go_wp2_with fail;rw [← hV];clear hV cK;refine (um aY r.yes cY f _ HS.out.lY H1.out.y.len.2 H1.out.y.read).mono ?_;rintro e v1 ⟨a1, c1, rfl, hor, hb1⟩;obtain ⟨col1, has1, cl1, ch1⟩ := (H1.out.ext hb1).IZ (lo := V.heap.size) (hi := v1.heap.size) (a2 := a1) (c2 := c1) (fl := dN r.yes f) hor (Nat.le_trans HB.out (by have := SZ.out; omega)) (fun b hb => by rw [bI (by have := SZ.out; omega)]; omega) (nV H1.out.gd.y HF.out);have YL := hid (show (dN r.yes f).length ≤ 100001 from Nat.le_trans (iP _ _) (by have := HY.out; omega));obtain ⟨yl, hyl⟩ : ∃ y, y = dN r.yes f := ⟨_, rfl⟩
 rw [← hyl] at has1 YL ⊢;have EY := hid hyl;clear hyl;have L1 := hid (show V.heap.size ≤ v1.heap.size from hb1.size);have B1 := hid (aj BV.out hb1);obtain ⟨V1, hV1⟩ : ∃ v, v = v1.setCell ⟨w.heap.size, 14, none⟩ (.slice a1 yl.length c1) := ⟨_, rfl⟩
 have k1 : aC (v1.setCell ⟨w.heap.size, 14, none⟩ (.slice a1 yl.length c1)) w.heap.size (au { r with yes := yl } ⟨aS, cS, aD, cD, aH, cH, aW, cW, a1, c1, aB, cB, aA, cA⟩) 31 := by
  have := (K1.out.ext hb1).set (o := 14) (.slice a1 yl.length c1);simpa using this
 have C0 := hid (show 8 < col1 w.heap.size by rw [cl1 _ (by have := SZ.out; omega), bI (Nat.le_refl _)]; omega);have C1 := hid (show 8 < col1 (w.heap.size + 1) by rw [cl1 _ SZ.out, bI (by omega)]; omega);have H2 := hid (show aG B V1 { r with yes := yl } ⟨aS, cS, aD, cD, aH, cH, aW, cW, a1, c1, aB, cB, aA, cA⟩ X col1 by rw [hV1]; exact has1.setCell (q := ⟨w.heap.size, 14, none⟩) C0.out _);have K3 := hid (show aC V1 w.heap.size (au { r with yes := yl } ⟨aS, cS, aD, cD, aH, cH, aW, cW, a1, c1, aB, cB, aA, cA⟩) 31 by rw [hV1]; exact k1);have K4 := hid (show aC V1 (w.heap.size + 1) bP 31 by rw [hV1]; exact (K2.out.ext hb1).setCell (by simp) _);have B2 := hid (show Below w.heap.size w V1 by rw [hV1]; exact bG B1.out (Nat.le_refl _) _);have CO := hid (show ∀ b, b < w.heap.size → col1 b = col b from fun b hb => by rw [cl1 b (by have := SZ.out; omega), bn hb])
 have CN := hid (show ∀ b, V1.heap.size ≤ b → 8 < col1 b from fun b hb => by
  have hb' : v1.heap.size ≤ b := by rw [hV1] at hb; simpa using hb
  rw [ch1 b hb', bI (by have := SZ.out; have := L1.out; omega)]; omega)
 have S1 := hid (show w.heap.size + 1 < V1.heap.size from K4.out.lt);have cK := (K1.out.ext hb1).cell;have fK := (K1.out.ext hb1).free;have cL := k1.cell;clear has1 hor K1 K2 k1 hb1 cl1 ch1 H1 BV B1 L1;go_wp2_with fail;rw [← hV1];clear hV1 cK fK cL;refine (CE aB al r.best l _ _ cB cl _ rfl rfl HS.out.lB hl H2.out.b.plain.1 H2.out.b.plain.2 H2.out.at.hB (SL.out.ext B2.out)).mono ?_;rintro e v2 ⟨gm, cm, rfl, hgm, ow2, hb2⟩;have LM := kT r.best l;have GM := hid (zS H2.out.gd.b SL.out.good);obtain ⟨best, hbest⟩ : ∃ b, b = dY r.best l := ⟨_, rfl⟩
 rw [← hbest] at ow2 LM GM;rw [← LM] at ow2 ⊢;have EB := hid hbest;have LB0 := hid (show best.length ≤ 1048576 by rw [LM]; have := HS.out.lB; omega);clear hbest LM;have O2 := hid ow2;have G2 := hid (show V1.heap.size ≤ gm ∧ gm < v2.heap.size from ⟨hgm, (ow2.lt gm rfl).2⟩);have B3 := hid (aj B2.out hb2);obtain ⟨V2, hV2⟩ : ∃ v, v = v2.setCell ⟨w.heap.size, 15, none⟩ (.slice (some ⟨gm, 0, none⟩) best.length cm) := ⟨_, rfl⟩
 have k1 : aC (v2.setCell ⟨w.heap.size, 15, none⟩ (.slice (some ⟨gm, 0, none⟩) best.length cm)) w.heap.size (au { r with yes := yl, best := best } ⟨aS, cS, aD, cD, aH, cH, aW, cW, a1, c1, some ⟨gm, 0, none⟩, cm, aA, cA⟩) 31 := by
  have := (K3.out.ext hb2).set (o := 15) (.slice (some ⟨gm, 0, none⟩) best.length cm);simpa using this
 have CG := hid (show ∀ b, b ≠ gm → dM (some ⟨gm, 0, none⟩) 5 col1 b = col1 b from fun b hb => if_neg (by simp only [Option.map_some, Option.some.injEq]; exact fun e => hb e.symm));have CG0 := hid (show dM (some ⟨gm, 0, none⟩) 5 col1 gm = 5 from if_pos rfl);have c0' : 8 < dM (some ⟨gm, 0, none⟩) 5 col1 w.heap.size := by rw [CG.out _ (by have := G2.out.1; have := S1.out; omega)]; exact C0.out
 have c1' : 8 < dM (some ⟨gm, 0, none⟩) 5 col1 (w.heap.size + 1) := by rw [CG.out _ (by have := G2.out.1; have := S1.out; omega)]; exact C1.out
 have H3 := hid (show aG B V2 { r with yes := yl, best := best } ⟨aS, cS, aD, cD, aH, cH, aW, cW, a1, c1, some ⟨gm, 0, none⟩, cm, aA, cA⟩ X (dM (some ⟨gm, 0, none⟩) 5 col1) by
  rw [hV2];refine aG.setCell (q := ⟨w.heap.size, 15, none⟩) ?_ c0' _
  exact ((H2.out.ext hb2).kG (u := 5) (fun x hx => by simp only [Option.some.injEq] at hx; rw [← hx]; exact CN.out _ hgm)).JM ((aO.mk (B := V1.heap.size) ow2 (fun x hx => iL hx)).low (Nat.le_trans HB.out (by have := S1.out; omega))) GM.out)
 have K5 := hid (show aC V2 w.heap.size (au { r with yes := yl, best := best } ⟨aS, cS, aD, cD, aH, cH, aW, cW, a1, c1, some ⟨gm, 0, none⟩, cm, aA, cA⟩) 31 by rw [hV2]; exact k1);have K6 := hid (show aC V2 (w.heap.size + 1) bP 31 by rw [hV2]; exact (K4.out.ext hb2).setCell (by simp) _);have B4 := hid (show Below w.heap.size w V2 by rw [hV2]; exact bG B3.out (Nat.le_refl _) _)
 have O3 := hid (show aZ gm (gm + 1) V2 43 2 (some ⟨gm, 0, none⟩) best.length cm (flat best) by
  rw [hV2]
  exact (aZ.mk (Ku ow2) (fun x hx => by simp only [Option.some.injEq] at hx; rw [← hx]; show gm < gm + 1; omega)).set (by show w.heap.size < gm; have := G2.out.1; have := S1.out; omega) _)
 have G3 := hid (show gm < V2.heap.size by rw [hV2]; simpa using G2.out.2);have cK := (K3.out.ext hb2).cell;have fK := (K3.out.ext hb2).free;have cL := k1.cell;have k5 := K5.out;have k6 := K6.out;rw [hV2] at k5 k6;have yl0 := YL.out;have e5 : IntKind.i64.wrap (2 * (yl.length : Int)) = 2 * (yl.length : Int) := by go_arith
 clear ow2 hb2 hgm k1 K3 K4 B3 H2 B2 RD;by_cases hq : 2 * (yl.length : Int) ≤ r.of_
 ·have u1 : decide (2 * (yl.length : Int) ≤ r.of_) = true := decide_eq_true hq
  go_wp2_with (first
   | ((with_reducible refine ah w.heap.size (au { r with yes := yl, best := best } ⟨aS, cS, aD, cD, aH, cH, aW, cW, a1, c1, some ⟨gm, 0, none⟩, cm, aA, cA⟩) rfl ?_ ?_ ?_); rfl; exact k5)
   | ((with_reducible refine af (w.heap.size + 1) bP (au { r with yes := yl, best := best } ⟨aS, cS, aD, cD, aH, cH, aW, cW, a1, c1, some ⟨gm, 0, none⟩, cm, aA, cA⟩) rfl rfl ?_ ?_ ?_ ?_ ?_); rfl; rfl; exact k6; simp [Value.oneCell']))
  have hz := setRow_heap _ (w.heap.size + 1) _ (au { r with yes := yl, best := best } ⟨aS, cS, aD, cD, aH, cH, aW, cW, a1, c1, some ⟨gm, 0, none⟩, cm, aA, cA⟩) _ _ k6;refine az (ty := 31) Try.results103 (w.heap.size + 1) (au { r with yes := yl, best := best } ⟨aS, cS, aD, cD, aH, cH, aW, cW, a1, c1, some ⟨gm, 0, none⟩, cm, aA, cA⟩) _ ?_ ?_ hz Try.underlying31 rfl (by kernel_rfl) ?_
  ·rfl
  ·rfl
  have FIN : jl r f l = { r with yes := yl, best := best } := by unfold jl; rw [if_pos (by rw [← EY.out]; exact hq), EY.out, EB.out]
  rw [FIN, ← hV2];refine ⟨_, X, _, rfl, H3.out.setRow c1' _, ay (B4.out.mono HB.out) (by have := HB.out; omega) _, fun b hb h8 => ⟨(setRow_other _ _ b _ (by omega)).trans (B4.out.block b hb), by rw [CG.out b (by have := G2.out.1; have := S1.out; omega), CO.out b hb]; exact h8⟩⟩
 have u1 : decide (2 * (yl.length : Int) ≤ r.of_) = false := decide_eq_false hq;have FIN := hid (show jl r f l = jM r (jk r best) by unfold jl; rw [if_neg (by rw [← EY.out]; exact hq), ← EB.out]);go_wp2_with ((with_reducible refine ah w.heap.size (au { r with yes := yl, best := best } ⟨aS, cS, aD, cD, aH, cH, aW, cW, a1, c1, some ⟨gm, 0, none⟩, cm, aA, cA⟩) rfl ?_ ?_ ?_); rfl; exact k5);rw [← hV2];clear hV2 cK fK cL k5 k6;refine (yS B { r with yes := yl, best := best } ⟨aS, cS, aD, cD, aH, cH, aW, cW, a1, c1, some ⟨gm, 0, none⟩, cm, aA, cA⟩ X (dM (some ⟨gm, 0, none⟩) 5 col1) _ (Nat.le_trans HB.out (by have := K6.out.lt; omega)) H3.out).mono ?_;rintro e v4 ⟨p4, X4, col4, rfl, has4, hb4, cc4, nb4⟩;have H4 := hid (has4.LG (g := gm) (by rw [cc4 gm G3.out]; exact CG0.out) (fun x hx => by have := nb4 x hx; have := G3.out; omega));have CC := hid cc4;have B5 := hid hb4;have k7 := K5.out.ext hb4;have Z7 := hid (K6.out.ext hb4);have O4 := hid (O3.out.ext hb4);have G4 := hid (show gm < v4.heap.size from Nat.lt_of_lt_of_le G3.out hb4.size);have NG := hid (show w.heap.size + 1 < gm from by have := G2.out.1; have := S1.out; omega);have SV := hid (show V2.heap.size ≤ v4.heap.size from hb4.size);clear has4 hb4 cc4 nb4;obtain ⟨W0, hW0⟩ : ∃ v, v = ((v4.setRow w.heap.size (au (aU { r with yes := yl, best := best }) p4)).setCell ⟨w.heap.size, 11, none⟩ (.bool true)).setCell ⟨w.heap.size, 13, none⟩ (.int .i64 r.ball) := ⟨_, rfl⟩
 have hz7 := setRow_heap _ w.heap.size _ (au (aU { r with yes := yl, best := best }) p4) _ _ k7;have kA : aC ((v4.setRow w.heap.size (au (aU { r with yes := yl, best := best }) p4)).setCell ⟨w.heap.size, 11, none⟩ (.bool true)) w.heap.size (au { aU { r with yes := yl, best := best } with lead := true } p4) 31 := by
  have := aC.set (o := 11) hz7 (.bool true);simpa using this
 have kB : aC W0 w.heap.size (au (jM r r.ds) p4) 31 := by
  rw [hW0];exact uS (kA.set (o := 13) (.int .i64 r.ball)) rfl
 have OB := hid (show ∀ b, b ≠ w.heap.size → W0.heap[b]? = v4.heap[b]? from fun b hb => by
  rw [hW0]
  exact (heap_setCell_other _ ⟨w.heap.size, 13, none⟩ b _ hb).trans ((heap_setCell_other _ ⟨w.heap.size, 11, none⟩ b _ hb).trans (setRow_other _ _ b _ hb)))
 have cw : ∀ b, b < V2.heap.size → b ≠ gm → wipe gm col4 b = dM (some ⟨gm, 0, none⟩) 5 col1 b := fun b hb hne => by rw [IV hne, CC.out b hb]
 have T0 := hid (show Hg B w col r best gm cm r.ds p4 X4 (wipe gm col4) W0 from
  ⟨kB, (OB.out _ (by omega)).trans Z7.out, (show aG B W0 (jM r r.ds) p4 X4 (wipe gm col4) from by
    rw [hW0]
    exact (((H4.out.setRow (g := w.heap.size) (by rw [cw _ (by have := K5.out.lt; omega) (by have := NG.out; omega)]; exact c0') _).setCell (q := ⟨w.heap.size, 11, none⟩) (by show 8 < wipe gm col4 w.heap.size; rw [cw _ (by have := K5.out.lt; omega) (by have := NG.out; omega)]; exact c0') _).setCell (q := ⟨w.heap.size, 13, none⟩) (by show 8 < wipe gm col4 w.heap.size; rw [cw _ (by have := K5.out.lt; omega) (by have := NG.out; omega)]; exact c0') _).like rfl rfl rfl rfl rfl rfl rfl),
   by rw [cw _ (by have := K5.out.lt; omega) (by have := NG.out; omega)]; exact c0', by rw [cw _ (by have := K6.out.lt; omega) (by have := NG.out; omega)]; exact c1', IE _ _,
   O4.out.same (fun b h1 h2 _ => OB.out b (by have := NG.out; omega)), by have := G4.out; rw [hW0]; simpa using this, by have := NG.out; omega,
   by rw [hW0]; exact bG (bG (ay ((B4.out.trans (B5.out.mono (by have := K6.out.lt; omega))).mono HB.out) HB.out _) HB.out _) HB.out _,
   fun b hb h8 => ⟨(OB.out b (by omega)).trans ((B5.out.block b (by have := K6.out.lt; omega)).trans (B4.out.block b hb)), by rw [cw b (by have := K6.out.lt; omega) (by have := NG.out; omega), CG.out b (by have := NG.out; omega), CO.out b hb]; exact h8⟩⟩)
 have cA' := hz7;have cB' : ∀ o, ((v4.setRow w.heap.size (au (aU { r with yes := yl, best := best }) p4)).setCell ⟨w.heap.size, 11, none⟩ (.bool true)).cell? ⟨w.heap.size, o, none⟩ = _ := kA.cell
 have cD' := (show aC (((v4.setRow w.heap.size (au (aU { r with yes := yl, best := best }) p4)).setCell ⟨w.heap.size, 11, none⟩ (.bool true)).setCell ⟨w.heap.size, 13, none⟩ (.int .i64 r.ball)) w.heap.size (au (jM r r.ds) p4) 31 from by rw [← hW0]; exact kB).cell;have cE' := (show aC (v4.setRow w.heap.size (au (aU { r with yes := yl, best := best }) p4)) w.heap.size (au (aU { r with yes := yl, best := best }) p4) 31 from hz7).cell;have fE' := (show aC (v4.setRow w.heap.size (au (aU { r with yes := yl, best := best }) p4)) w.heap.size (au (aU { r with yes := yl, best := best }) p4) 31 from hz7).free;have fB' := kA.free;clear cA' kB cw H3 K5 K6 B4 O3 CN C0 C1 hz7;go_wp2_with ((with_reducible refine af w.heap.size (au { r with yes := yl, best := best } ⟨aS, cS, aD, cD, aH, cH, aW, cW, a1, c1, some ⟨gm, 0, none⟩, cm, aA, cA⟩) (au (aU { r with yes := yl, best := best }) p4) rfl rfl ?_ ?_ ?_ ?_ ?_); rfl; rfl; exact k7; simp [Value.oneCell']);rw [← hW0];clear hW0 cB' cD' cE' fE' fB' kA k7;go_loopw [9] (fun i wr => ∃ (k : Nat) (L : List Sl) (p' : fU) (X' : iU) (col' : Nat → Nat), r.dk.toNat ≤ k ∧ (k ≤ best.length ∨ k = r.dk.toNat) ∧ i = .int .i64 k ∧ rJ r.ball (best.drop k) k L = jk r best ∧ L.length ≤ 1048576 ∧ Hg B w col r best gm cm L p' X' col' wr) (fun i _ => best.length - (intOf i).toNat);case atStart => exact ⟨r.dk.toNat, r.ds, p4, X4, _, Nat.le_refl _, .inr rfl, by rw [Int.toNat_of_nonneg D0.out]; rfl, rfl, HS.out.lD, T0.out⟩
 obtain ⟨k, L, p', X', col', hk1, hk2, rfl, hlead, LB, hss⟩ := hrel;have SS := hid hss;have HE := hid hlead;clear hss hlead T0 H4;have cK := SS.out.k.cell;have fK := SS.out.k.free;have k1 := SS.out.k;have k2 := SS.out.z;have lb := LB0.out;by_cases hlt : k < best.length
 ·obtain ⟨y, hy0⟩ : ∃ y, best[k]? = some y := ⟨_, List.getElem?_eq_getElem hlt⟩
  have FY := hid (iY best k y hy0)
  have DY := hid (show best.drop k = y :: best.drop (k + 1) by
   obtain ⟨h1, h2⟩ := List.getElem?_eq_some_iff.1 hy0
   rw [← h2]; exact List.drop_eq_getElem_cons h1)
  have YG := hid (GM.out k y hy0).1;have rd := aN.cells (aO.read (aO.mk (B := gm) (col := fun _ => 0) (t := 0) SS.out.gb.own (fun _ _ => rfl))) _ rfl;have c0 := rd.2 (k * 2) _ FY.out.1;have c1 := rd.2 (k * 2 + 1) _ FY.out.2;rw [Addr.add_mid, Nat.zero_add] at c0 c1;clear hy0 rd;have e1 : (0 : Int) ≤ (k : Int) := by omega
  have e2 : (k : Int) < (best.length : Int) := by omega
  have e6 : IntKind.i64.wrap ((k : Int) + 1) = (k : Int) + 1 := by go_arith
  have e7 := hid (show IntKind.i64.wrap ((k : Int) + 1) = ((k + 1 : Nat) : Int) from e6.trans (by omega));clear e6;go_wp2_with fail;have hK0 : yB w.heap.size (au (jM r L) p') ⟨gm, k * 2 + 1, none⟩ (.string y.2) wr := ⟨SS.out.k, c1⟩
  refine aI (S := yB w.heap.size (au (jM r L) p') ⟨gm, k * 2 + 1, none⟩ (.string y.2)) 11 (by kernel_rfl) hK0.drew (fun q9 => ?_);simp only [qz, Nat.reduceAdd];clear hK0 c0 c1 cK fK k1;refine dO (i := 0) (v := .agg (au (jM r L) p')) (ax rfl) (by kernel_rfl) (by kernel_rfl) (by kernel_rfl) (by kernel_rfl) (fun _ _ _ h => h) (gG (fun w9 hS => hS.blk) rfl (by rfl) _ rfl rfl) q9 ?_;try simp only [qq]
  refine bg.go [1, 2, 3, 4, 5, 6, 7, 8, 9] ?_;iterate 9 (apply bg.take (ax rfl) (by kernel_rfl) (by rfl) (fun _ _ _ h => h) q9; (· intro w9 hSw; have hq := hSw.blk.cell; have hc := hSw.cel; clear hSw; go_simp; try with_reducible rfl); try simp only [qq])
  refine bg.fin ?_;refine aT 10 fun K hK => ?_
  go_simp;rw [e7.out];refine (vX B (jM r L) p' X' col' k (r.ball, y.2) wr.drew (show B ≤ wr.heap.size from Nat.le_trans HB.out (by have := SS.out.z.lt; omega)) (by omega) LB ⟨YG.out, BW.out⟩ (SS.out.has.ext (Below.refl _ _).drew)).mono ?_;obtain ⟨r9, hr9⟩ : ∃ r9, r9 = rC (jM r L) (k + 1) (r.ball, y.2) := ⟨_, rfl⟩
  rw [← hr9];have EQ9 := hid (show r9 = jM r (nU L (k + 1) (r.ball, y.2)) from hr9);clear hr9;rintro e w9 ⟨p9, X9, col9, rfl, has9, hb9, ot9⟩;have H9 := hid has9;have B9 := hid (show Below B wr w9 from ((show Below wr.heap.size wr wr.drew from (Below.refl _ _).drew).mono (Nat.le_trans HB.out (by have := SS.out.z.lt; omega))).trans hb9);have O9 := hid (show ∀ b, b < wr.heap.size → 8 < col' b → w9.heap[b]? = wr.heap[b]? ∧ 8 < col9 b from fun b hb h8 => ot9 b hb h8);clear has9 hb9 ot9;have k9 : aC w9 w.heap.size (au (jM r L) p') 31 := (O9.out _ SS.out.k.lt SS.out.c0).1.trans SS.out.k
  have HS9 : yB w.heap.size (au (jM r L) p') ⟨gm, k * 2 + 1, none⟩ (.string y.2) w9 := ⟨k9, by
   have h0 := SS.out.gb.same (w' := w9) (fun b h1 h2 _ => (O9.out b (by have := SS.out.gh; omega) (by obtain rfl : b = gm := (by omega); exact SS.out.c2)).1);have h1 := (aN.cells (aO.read (aO.mk (B := gm) (col := fun _ => 0) (t := 0) h0.own (fun _ _ => rfl))) _ rfl).2 (k * 2 + 1) _ FY.out.2;rw [Addr.add_mid, Nat.zero_add] at h1
   exact h1⟩
  go_wp2_with fail;refine hK.out _ _ HS9 (fun _ => ?_);clear hK K HS9 q9;try simp only [qq]
  refine aJ fun K hK => ?_
  rw [if_pos (by rfl)];refine wp_store_row 31 _ _ rfl w.heap.size (au r9 p9) rfl rfl 31 (au (jM r L) p') k9 (by kernel_rfl) rfl (by simp [Value.oneCell']) ?_;refine hK.out _ _ ?_;clear hK K;have hz := setRow_heap _ w.heap.size _ (au r9 p9) _ _ k9
  have NX := hid (show Hg B w col r best gm cm (nU L (k + 1) (r.ball, y.2)) p9 X9 col9 (w9.setRow w.heap.size (au r9 p9)) from
   ⟨by rw [← EQ9.out]; exact hz, (setRow_other _ _ _ _ (by omega)).trans ((O9.out _ SS.out.z.lt SS.out.c1).1.trans SS.out.z), by rw [← EQ9.out]; exact H9.out.setRow (O9.out _ SS.out.k.lt SS.out.c0).2 _, (O9.out _ SS.out.k.lt SS.out.c0).2, (O9.out _ SS.out.z.lt SS.out.c1).2,
    (O9.out gm SS.out.gh SS.out.c2).2, (SS.out.gb.same (w' := w9.setRow w.heap.size _) (fun b h1 h2 _ => by
     obtain rfl : b = gm := by omega
     exact (setRow_other _ _ _ _ SS.out.gn).trans (O9.out _ SS.out.gh SS.out.c2).1)), by have := SS.out.gh; have := B9.out.size; simp; omega, SS.out.gn, ay (SS.out.bel.trans B9.out) HB.out _,
    fun b hb h8 => by
     obtain ⟨q1, q2⟩ := SS.out.oth b hb h8;obtain ⟨q3, q4⟩ := O9.out b (by have := SS.out.z.lt; omega) q2
     exact ⟨(setRow_other _ _ _ _ (by omega)).trans (q3.trans q1), q4⟩⟩)
  go_wp2_with fail;go_roundw;case rel => exact ⟨k + 1, nU L (k + 1) (r.ball, y.2), p9, X9, col9, by omega, .inl (by omega), by go_num, by rw [← HE.out, DY.out]; rfl, by rw [oP]; omega, NX.out⟩
  case measure => simp [intOf]; omega
 have e2 : ¬ (k : Int) < (best.length : Int) := by omega
 have EL : L = jk r best := by
  have := HE.out;rw [List.drop_of_length_le (by omega)] at this;exact this
 subst EL
 go_wp2_with (first
  | ((with_reducible refine ah w.heap.size (au (jM r (jk r best)) p') rfl ?_ ?_ ?_); rfl; exact k1)
  | ((with_reducible refine af (w.heap.size + 1) bP (au (jM r (jk r best)) p') rfl rfl ?_ ?_ ?_ ?_ ?_); rfl; rfl; exact k2; simp [Value.oneCell']))
 have hz := setRow_heap _ (w.heap.size + 1) _ (au (jM r (jk r best)) p') _ _ k2;refine az (ty := 31) Try.results103 (w.heap.size + 1) (au (jM r (jk r best)) p') _ ?_ ?_ hz Try.underlying31 rfl (by kernel_rfl) ?_
 ·rfl
 ·rfl
 rw [FIN.out];refine ⟨p', X', col', rfl, SS.out.has.setRow SS.out.c1 _, ay SS.out.bel (by have := HB.out; omega) _, fun b hb h8 => ⟨(setRow_other _ _ b _ (by omega)).trans (SS.out.oth b hb h8).1, (SS.out.oth b hb h8).2⟩⟩
end Go.Proofs.Ytjdceoimignnpaa
