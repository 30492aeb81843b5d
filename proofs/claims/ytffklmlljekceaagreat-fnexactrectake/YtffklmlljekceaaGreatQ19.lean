import Derived.Test.YtffklmlljekceaaGreatQ16
import Derived.Test.YtffklmlljekceaaGreatQ18
namespace Go.Proofs.YtffklmlljekceaaGreat
open Go.ChangeShapes Go.WideShapes Go.ChangeAt Go.RowKit
set_option linter.unusedSimpArgs false
set_option linter.unusedVariables false
set_option maxHeartbeats 16000000
set_option maxRecDepth 20000
theorem blk_eq {w : World} {b : Nat} {c c' : Array Value} {t : TypeId} (h : Blk w b c t) (e : c = c') : Blk w b c' t := e ▸ h
theorem specCalm (B : Nat) (r : Rc) (p : RcP) (X : RcX) (col : Nat → Nat) (w : World) (hB : B ≤ w.heap.size) (h : RcHas B w r p X col) :
  Calls Tryz.prog 63 #[.agg (rcV r p)] w (TPost B w col (calmR r)) := by
 obtain ⟨aS, cS, aD, cD, aH, cH, aW, cW, aY, cY, aB, cB, aA, cA⟩ := p
 have RD := hid h
 have HB := hid hB
 clear h hB
 have k1 : Blk (((((w.alloc (.cells (rcV (calmR r) ⟨aS, cS, aD, cD, aH, cH, aW, cW, some ⟨w.heap.size + 1 + 1, 0, none⟩, 0, some ⟨w.heap.size + 1 + 1 + 1, 0, none⟩, 0, some ⟨w.heap.size + 1 + 1 + 1 + 1, 0, none⟩, 0⟩) 41)).alloc (.cells zRc 41)).alloc (.cells #[] 3)).alloc (.cells #[] 108)).alloc (.cells #[] 105)) w.heap.size (rcV (calmR r) ⟨aS, cS, aD, cD, aH, cH, aW, cW, some ⟨w.heap.size + 1 + 1, 0, none⟩, 0, some ⟨w.heap.size + 1 + 1 + 1, 0, none⟩, 0, some ⟨w.heap.size + 1 + 1 + 1 + 1, 0, none⟩, 0⟩) 41 := ((((Blk.new _ _ _).alloc _).alloc _).alloc _).alloc _
 have k2 : Blk (((((w.alloc (.cells (rcV (calmR r) ⟨aS, cS, aD, cD, aH, cH, aW, cW, some ⟨w.heap.size + 1 + 1, 0, none⟩, 0, some ⟨w.heap.size + 1 + 1 + 1, 0, none⟩, 0, some ⟨w.heap.size + 1 + 1 + 1 + 1, 0, none⟩, 0⟩) 41)).alloc (.cells zRc 41)).alloc (.cells #[] 3)).alloc (.cells #[] 108)).alloc (.cells #[] 105)) (w.heap.size + 1) zRc 41 := (((Blk.new' _ _ (by simp)).alloc _).alloc _).alloc _
 have kY := hid (show Blk (((((w.alloc (.cells (rcV (calmR r) ⟨aS, cS, aD, cD, aH, cH, aW, cW, some ⟨w.heap.size + 1 + 1, 0, none⟩, 0, some ⟨w.heap.size + 1 + 1 + 1, 0, none⟩, 0, some ⟨w.heap.size + 1 + 1 + 1 + 1, 0, none⟩, 0⟩) 41)).alloc (.cells zRc 41)).alloc (.cells #[] 3)).alloc (.cells #[] 108)).alloc (.cells #[] 105)) (w.heap.size + 1 + 1) #[] 3 from ((Blk.new' _ _ (by simp)).alloc _).alloc _)
 have kB := hid (show Blk (((((w.alloc (.cells (rcV (calmR r) ⟨aS, cS, aD, cD, aH, cH, aW, cW, some ⟨w.heap.size + 1 + 1, 0, none⟩, 0, some ⟨w.heap.size + 1 + 1 + 1, 0, none⟩, 0, some ⟨w.heap.size + 1 + 1 + 1 + 1, 0, none⟩, 0⟩) 41)).alloc (.cells zRc 41)).alloc (.cells #[] 3)).alloc (.cells #[] 108)).alloc (.cells #[] 105)) (w.heap.size + 1 + 1 + 1) #[] 108 from (Blk.new' _ _ (by simp)).alloc _)
 have kA := hid (show Blk (((((w.alloc (.cells (rcV (calmR r) ⟨aS, cS, aD, cD, aH, cH, aW, cW, some ⟨w.heap.size + 1 + 1, 0, none⟩, 0, some ⟨w.heap.size + 1 + 1 + 1, 0, none⟩, 0, some ⟨w.heap.size + 1 + 1 + 1 + 1, 0, none⟩, 0⟩) 41)).alloc (.cells zRc 41)).alloc (.cells #[] 3)).alloc (.cells #[] 108)).alloc (.cells #[] 105)) (w.heap.size + 1 + 1 + 1 + 1) #[] 105 from Blk.new' _ _ (by simp))
 have BV := hid (show Below w.heap.size w (((((w.alloc (.cells (rcV (calmR r) ⟨aS, cS, aD, cD, aH, cH, aW, cW, some ⟨w.heap.size + 1 + 1, 0, none⟩, 0, some ⟨w.heap.size + 1 + 1 + 1, 0, none⟩, 0, some ⟨w.heap.size + 1 + 1 + 1 + 1, 0, none⟩, 0⟩) 41)).alloc (.cells zRc 41)).alloc (.cells #[] 3)).alloc (.cells #[] 108)).alloc (.cells #[] 105)) from ext_alloc (ext_alloc (ext_alloc (ext_alloc (ext_alloc (Below.refl _ _) _) _) _) _) _)
 go_enter Tryz.func63, Tryz.ntmps63
 go_wp2_with (first
  | ((with_reducible refine wpList_load_rec w.heap.size (rcV (calmR r) ⟨aS, cS, aD, cD, aH, cH, aW, cW, some ⟨w.heap.size + 1 + 1, 0, none⟩, 0, some ⟨w.heap.size + 1 + 1 + 1, 0, none⟩, 0, some ⟨w.heap.size + 1 + 1 + 1 + 1, 0, none⟩, 0⟩) rfl ?_ ?_ ?_); (· rfl); (· exact k1))
  | ((with_reducible refine wpList_store_rec_at (w.heap.size + 1) zRc (rcV (calmR r) ⟨aS, cS, aD, cD, aH, cH, aW, cW, some ⟨w.heap.size + 1 + 1, 0, none⟩, 0, some ⟨w.heap.size + 1 + 1 + 1, 0, none⟩, 0, some ⟨w.heap.size + 1 + 1 + 1 + 1, 0, none⟩, 0⟩) rfl rfl ?_ ?_ ?_ ?_ ?_); (· rfl); (· rfl); (· exact k2); (· simp [Value.oneCell'])))
 have hz := setRow_heap _ (w.heap.size + 1) _ (rcV (calmR r) ⟨aS, cS, aD, cD, aH, cH, aW, cW, some ⟨w.heap.size + 1 + 1, 0, none⟩, 0, some ⟨w.heap.size + 1 + 1 + 1, 0, none⟩, 0, some ⟨w.heap.size + 1 + 1 + 1 + 1, 0, none⟩, 0⟩) _ _ k2
 refine ret_cell (ty := 41) Tryz.results63 (w.heap.size + 1) (rcV (calmR r) ⟨aS, cS, aD, cD, aH, cH, aW, cW, some ⟨w.heap.size + 1 + 1, 0, none⟩, 0, some ⟨w.heap.size + 1 + 1 + 1, 0, none⟩, 0, some ⟨w.heap.size + 1 + 1 + 1 + 1, 0, none⟩, 0⟩) _ ?_ ?_ hz Tryz.underlying41 rfl (by kernel_rfl) ?_
 ·rfl
 ·rfl
 have SO := fun (b : Nat) (hb : b ≠ w.heap.size + 1) => setRow_other (((((w.alloc (.cells (rcV (calmR r) ⟨aS, cS, aD, cD, aH, cH, aW, cW, some ⟨w.heap.size + 1 + 1, 0, none⟩, 0, some ⟨w.heap.size + 1 + 1 + 1, 0, none⟩, 0, some ⟨w.heap.size + 1 + 1 + 1 + 1, 0, none⟩, 0⟩) 41)).alloc (.cells zRc 41)).alloc (.cells #[] 3)).alloc (.cells #[] 108)).alloc (.cells #[] 105)) (w.heap.size + 1) b (rcV (calmR r) ⟨aS, cS, aD, cD, aH, cH, aW, cW, some ⟨w.heap.size + 1 + 1, 0, none⟩, 0, some ⟨w.heap.size + 1 + 1 + 1, 0, none⟩, 0, some ⟨w.heap.size + 1 + 1 + 1 + 1, 0, none⟩, 0⟩) hb
 exact ⟨_, _, _, rfl, RcHas.calm (gY := w.heap.size + 1 + 1) (gB := w.heap.size + 1 + 1 + 1) (gA := w.heap.size + 1 + 1 + 1 + 1) RD.out (below_setRow' BV.out (by omega) _) HB.out ((SO _ (by omega)).trans kY.out) ((SO _ (by omega)).trans kB.out) ((SO _ (by omega)).trans kA.out) (by omega) (by omega) (by omega), (below_setRow' BV.out (by omega) _).mono HB.out, Others.of (below_setRow' BV.out (by omega) _) (fun b hb => if_pos hb)⟩
theorem RcHas.setRow {B : Nat} {w : World} {r : Rc} {p : RcP} {X : RcX} {col : Nat → Nat} (h : RcHas B w r p X col) {g : Nat} (hg : 8 < col g) (cs : Array Value) : RcHas B (w.setRow g cs) r p X col :=
 h.same fun b _ _ hc => setRow_other w g b cs (fun e => by rw [e] at hc; omega)
theorem RcHas.setCell {B : Nat} {w : World} {r : Rc} {p : RcP} {X : RcX} {col : Nat → Nat} (h : RcHas B w r p X col) {q : Addr} (hg : 8 < col q.block) (v : Value) : RcHas B (w.setCell q v) r p X col :=
 h.same fun b _ _ hc => heap_setCell_other w q b v (fun e => by rw [e] at hc; omega)
theorem specFollow (B : Nat) (r : Rc) (p : RcP) (X : RcX) (col : Nat → Nat) (b : Int) (w : World) (hB : B ≤ w.heap.size) (h : RcHas B w r p X col) :
  Calls Tryz.prog 78 #[.agg (rcV r p), .int .i64 b] w (TPost B w col (followR r b)) := by
 obtain ⟨aS, cS, aD, cD, aH, cH, aW, cW, aY, cY, aB, cB, aA, cA⟩ := p
 have RD := hid h.fresh
 have HB := hid hB
 clear h hB
 have cG : ∀ x, w.heap.size ≤ x → 8 < colF w.heap.size col x := fun x hx => by rw [colF_new hx]; omega
 have CG := hid cG
 clear cG
 by_cases h1 : r.dp < b
 ·by_cases h2 : b = r.ball
  ·subst h2
   have HRi := hid (riseR_yes h1)
   have HF := hid (show followR r r.ball = (hush { r with dp := r.ball }) by rw [followR_own rfl, HRi.out])
   have k1 : Blk ((w.alloc (.cells (rcV (hush { r with dp := r.ball }) ⟨aS, cS, aD, cD, aH, cH, aW, cW, aY, cY, aB, cB, aA, cA⟩) 41)).alloc (.cells zRc 41)) w.heap.size (rcV (hush { r with dp := r.ball }) ⟨aS, cS, aD, cD, aH, cH, aW, cW, aY, cY, aB, cB, aA, cA⟩) 41 := (Blk.new _ _ _).alloc _
   have k2 : Blk ((w.alloc (.cells (rcV (hush { r with dp := r.ball }) ⟨aS, cS, aD, cD, aH, cH, aW, cW, aY, cY, aB, cB, aA, cA⟩) 41)).alloc (.cells zRc 41)) (w.heap.size + 1) zRc 41 := Blk.new' _ _ (by simp)
   have B1 := hid (show Below w.heap.size w ((w.alloc (.cells (rcV (hush { r with dp := r.ball }) ⟨aS, cS, aD, cD, aH, cH, aW, cW, aY, cY, aB, cB, aA, cA⟩) 41)).alloc (.cells zRc 41)) from ext_alloc (ext_alloc (Below.refl _ _) _) _)
   go_enter Tryz.func78, Tryz.ntmps78
   go_wp2_with (first
    | ((with_reducible refine wpList_load_rec w.heap.size (rcV (hush { r with dp := r.ball }) ⟨aS, cS, aD, cD, aH, cH, aW, cW, aY, cY, aB, cB, aA, cA⟩) rfl ?_ ?_ ?_); (· rfl); (· exact k1))
    | ((with_reducible refine wpList_store_rec_at (w.heap.size + 1) zRc (rcV (hush { r with dp := r.ball }) ⟨aS, cS, aD, cD, aH, cH, aW, cW, aY, cY, aB, cB, aA, cA⟩) rfl rfl ?_ ?_ ?_ ?_ ?_); (· rfl); (· rfl); (· exact k2); (· simp [Value.oneCell'])))
   have hz := setRow_heap _ (w.heap.size + 1) _ (rcV (hush { r with dp := r.ball }) ⟨aS, cS, aD, cD, aH, cH, aW, cW, aY, cY, aB, cB, aA, cA⟩) _ _ k2
   refine ret_cell (ty := 41) Tryz.results78 (w.heap.size + 1) (rcV (hush { r with dp := r.ball }) ⟨aS, cS, aD, cD, aH, cH, aW, cW, aY, cY, aB, cB, aA, cA⟩) _ ?_ ?_ hz Tryz.underlying41 rfl (by kernel_rfl) ?_
   ·rfl
   ·rfl
   rw [HF.out]
   exact ⟨⟨aS, cS, aD, cD, aH, cH, aW, cW, aY, cY, aB, cB, aA, cA⟩, X, colF w.heap.size col, rfl, ((RD.out.ext B1.out).setRow (CG.out _ (by omega)) _).like rfl rfl rfl rfl rfl rfl rfl, (below_setRow' B1.out (by omega) _).mono HB.out, Others.of (below_setRow' B1.out (by omega) _) (fun x hx => colF_old hx)⟩
  have HRi := hid (riseR_yes h1)
  have k1 : Blk ((w.alloc (.cells (rcV { r with dp := b } ⟨aS, cS, aD, cD, aH, cH, aW, cW, aY, cY, aB, cB, aA, cA⟩) 41)).alloc (.cells zRc 41)) w.heap.size (rcV { r with dp := b } ⟨aS, cS, aD, cD, aH, cH, aW, cW, aY, cY, aB, cB, aA, cA⟩) 41 := (Blk.new _ _ _).alloc _
  have K1 := hid k1
  have Z1 := hid (show Blk ((w.alloc (.cells (rcV { r with dp := b } ⟨aS, cS, aD, cD, aH, cH, aW, cW, aY, cY, aB, cB, aA, cA⟩) 41)).alloc (.cells zRc 41)) (w.heap.size + 1) zRc 41 from Blk.new' _ _ (by simp))
  have B1 := hid (show Below w.heap.size w ((w.alloc (.cells (rcV { r with dp := b } ⟨aS, cS, aD, cD, aH, cH, aW, cW, aY, cY, aB, cB, aA, cA⟩) 41)).alloc (.cells zRc 41)) from ext_alloc (ext_alloc (Below.refl _ _) _) _)
  have H1 := hid ((RD.out.ext B1.out).like (r' := { r with dp := b }) rfl rfl rfl rfl rfl rfl rfl)
  go_enter Tryz.func78, Tryz.ntmps78
  go_wp2_with ((with_reducible refine wpList_load_rec w.heap.size (rcV { r with dp := b } ⟨aS, cS, aD, cD, aH, cH, aW, cW, aY, cY, aB, cB, aA, cA⟩) rfl ?_ ?_ ?_); (· rfl); (· exact k1))
  refine (specCalm B { r with dp := b } ⟨aS, cS, aD, cD, aH, cH, aW, cW, aY, cY, aB, cB, aA, cA⟩ X (colF w.heap.size col) _ (by have h9 := HB.out; have h8 := B1.out.size; omega) H1.out).mono ?_
  rintro e w2 ⟨p2, X2, col2, rfl, has2, hb2, ot2⟩
  have H2 := hid has2
  have B2 := hid (show Below B w w2 from (B1.out.mono HB.out).trans hb2)
  have O1 := ot2 w.heap.size K1.out.lt (CG.out _ (Nat.le_refl _))
  have O2 := ot2 (w.heap.size + 1) Z1.out.lt (CG.out _ (by omega))
  have K2 := hid (show Blk w2 w.heap.size (rcV { r with dp := b } ⟨aS, cS, aD, cD, aH, cH, aW, cW, aY, cY, aB, cB, aA, cA⟩) 41 from O1.1.trans K1.out)
  have Z2 := hid (show Blk w2 (w.heap.size + 1) zRc 41 from O2.1.trans Z1.out)
  have G1 := hid O1.2
  have G2 := hid O2.2
  have OT := hid ((Others.of (B1.out) (fun x hx => colF_old hx)).trans ot2 B1.out.size)
  clear has2 hb2 ot2 O1 O2 k1
  have HF := hid (show followR r b = (hush (calmR { r with dp := b })) by rw [followR_new h2, HRi.out])
  have k2 := K2.out
  have K3 := hid (show Blk (w2.setRow w.heap.size (rcV (calmR { r with dp := b }) p2)) w.heap.size (rcV (calmR { r with dp := b }) p2) 41 from setRow_heap _ w.heap.size _ (rcV (calmR { r with dp := b }) p2) _ _ K2.out)
  have Z3 := hid (show Blk (w2.setRow w.heap.size (rcV (calmR { r with dp := b }) p2)) (w.heap.size + 1) zRc 41 from (setRow_other w2 w.heap.size (w.heap.size + 1) (rcV (calmR { r with dp := b }) p2) (by omega)).trans Z2.out)
  have c3 := K3.out.cell
  have f3 := K3.out.free
  have k4 : Blk ((w2.setRow w.heap.size (rcV (calmR { r with dp := b }) p2)).setCell ⟨w.heap.size, 17, none⟩ (.int .i64 0)) w.heap.size (rcV (hush (calmR { r with dp := b })) p2) 41 := K3.out.set (o := 17) (.int .i64 0)
  have k5 := Z3.out.setCell (p := ⟨w.heap.size, 17, none⟩) (by simp) (.int .i64 0)
  have H3 := hid (show RcHas B (w2.setRow w.heap.size (rcV (calmR { r with dp := b }) p2)) (calmR { r with dp := b }) p2 X2 col2 from H2.out.setRow G1.out _)
  have B3 := hid (show Below B w (w2.setRow w.heap.size (rcV (calmR { r with dp := b }) p2)) from below_setRow' B2.out HB.out _)
  have O3 := hid (show Others w col (w2.setRow w.heap.size (rcV (calmR { r with dp := b }) p2)) col2 from fun x hx h8 => ⟨(setRow_other _ w.heap.size x _ (by omega)).trans (OT.out x hx h8).1, (OT.out x hx h8).2⟩)
  go_wp2_with (first
   | ((with_reducible refine wpList_store_rec_at w.heap.size (rcV { r with dp := b } ⟨aS, cS, aD, cD, aH, cH, aW, cW, aY, cY, aB, cB, aA, cA⟩) (rcV (calmR { r with dp := b }) p2) rfl rfl ?_ ?_ ?_ ?_ ?_); (· rfl); (· rfl); (· exact k2); (· simp [Value.oneCell']))
   | ((with_reducible refine wpList_load_rec w.heap.size (rcV (hush (calmR { r with dp := b })) p2) rfl ?_ ?_ ?_); (· rfl); (· exact k4))
   | ((with_reducible refine wpList_store_rec_at (w.heap.size + 1) zRc (rcV (hush (calmR { r with dp := b })) p2) rfl rfl ?_ ?_ ?_ ?_ ?_); (· rfl); (· rfl); (· exact k5); (· simp [Value.oneCell'])))
  have hz := setRow_heap _ (w.heap.size + 1) _ (rcV (hush (calmR { r with dp := b })) p2) _ _ k5
  refine ret_cell (ty := 41) Tryz.results78 (w.heap.size + 1) (rcV (hush (calmR { r with dp := b })) p2) _ ?_ ?_ hz Tryz.underlying41 rfl (by kernel_rfl) ?_
  ·rfl
  ·rfl
  rw [HF.out]
  refine ⟨p2, X2, col2, rfl, ((H3.out.setCell (q := ⟨w.heap.size, 17, none⟩) G1.out _).setRow G2.out _).like rfl rfl rfl rfl rfl rfl rfl, below_setRow' (below_set B3.out HB.out _) (by have := HB.out; omega) _, fun x hx h8 => ?_⟩
  have q1 := O3.out x hx h8
  exact ⟨((setRow_other _ (w.heap.size + 1) x _ (by omega)).trans (heap_setCell_other _ ⟨w.heap.size, 17, none⟩ x _ (by simp; omega))).trans q1.1, q1.2⟩
 by_cases h2 : b = r.ball
 ·subst h2
  have HRi := hid (riseR_no h1)
  have HF := hid (show followR r r.ball = (hush r) by rw [followR_own rfl, HRi.out])
  have k1 : Blk ((w.alloc (.cells (rcV (hush r) ⟨aS, cS, aD, cD, aH, cH, aW, cW, aY, cY, aB, cB, aA, cA⟩) 41)).alloc (.cells zRc 41)) w.heap.size (rcV (hush r) ⟨aS, cS, aD, cD, aH, cH, aW, cW, aY, cY, aB, cB, aA, cA⟩) 41 := (Blk.new _ _ _).alloc _
  have k2 : Blk ((w.alloc (.cells (rcV (hush r) ⟨aS, cS, aD, cD, aH, cH, aW, cW, aY, cY, aB, cB, aA, cA⟩) 41)).alloc (.cells zRc 41)) (w.heap.size + 1) zRc 41 := Blk.new' _ _ (by simp)
  have B1 := hid (show Below w.heap.size w ((w.alloc (.cells (rcV (hush r) ⟨aS, cS, aD, cD, aH, cH, aW, cW, aY, cY, aB, cB, aA, cA⟩) 41)).alloc (.cells zRc 41)) from ext_alloc (ext_alloc (Below.refl _ _) _) _)
  go_enter Tryz.func78, Tryz.ntmps78
  go_wp2_with (first
   | ((with_reducible refine wpList_load_rec w.heap.size (rcV (hush r) ⟨aS, cS, aD, cD, aH, cH, aW, cW, aY, cY, aB, cB, aA, cA⟩) rfl ?_ ?_ ?_); (· rfl); (· exact k1))
   | ((with_reducible refine wpList_store_rec_at (w.heap.size + 1) zRc (rcV (hush r) ⟨aS, cS, aD, cD, aH, cH, aW, cW, aY, cY, aB, cB, aA, cA⟩) rfl rfl ?_ ?_ ?_ ?_ ?_); (· rfl); (· rfl); (· exact k2); (· simp [Value.oneCell'])))
  have hz := setRow_heap _ (w.heap.size + 1) _ (rcV (hush r) ⟨aS, cS, aD, cD, aH, cH, aW, cW, aY, cY, aB, cB, aA, cA⟩) _ _ k2
  refine ret_cell (ty := 41) Tryz.results78 (w.heap.size + 1) (rcV (hush r) ⟨aS, cS, aD, cD, aH, cH, aW, cW, aY, cY, aB, cB, aA, cA⟩) _ ?_ ?_ hz Tryz.underlying41 rfl (by kernel_rfl) ?_
  ·rfl
  ·rfl
  rw [HF.out]
  exact ⟨⟨aS, cS, aD, cD, aH, cH, aW, cW, aY, cY, aB, cB, aA, cA⟩, X, colF w.heap.size col, rfl, ((RD.out.ext B1.out).setRow (CG.out _ (by omega)) _).like rfl rfl rfl rfl rfl rfl rfl, (below_setRow' B1.out (by omega) _).mono HB.out, Others.of (below_setRow' B1.out (by omega) _) (fun x hx => colF_old hx)⟩
 have HRi := hid (riseR_no h1)
 have k1 : Blk ((w.alloc (.cells (rcV r ⟨aS, cS, aD, cD, aH, cH, aW, cW, aY, cY, aB, cB, aA, cA⟩) 41)).alloc (.cells zRc 41)) w.heap.size (rcV r ⟨aS, cS, aD, cD, aH, cH, aW, cW, aY, cY, aB, cB, aA, cA⟩) 41 := (Blk.new _ _ _).alloc _
 have K1 := hid k1
 have Z1 := hid (show Blk ((w.alloc (.cells (rcV r ⟨aS, cS, aD, cD, aH, cH, aW, cW, aY, cY, aB, cB, aA, cA⟩) 41)).alloc (.cells zRc 41)) (w.heap.size + 1) zRc 41 from Blk.new' _ _ (by simp))
 have B1 := hid (show Below w.heap.size w ((w.alloc (.cells (rcV r ⟨aS, cS, aD, cD, aH, cH, aW, cW, aY, cY, aB, cB, aA, cA⟩) 41)).alloc (.cells zRc 41)) from ext_alloc (ext_alloc (Below.refl _ _) _) _)
 have H1 := hid ((RD.out.ext B1.out).like (r' := r) rfl rfl rfl rfl rfl rfl rfl)
 go_enter Tryz.func78, Tryz.ntmps78
 go_wp2_with ((with_reducible refine wpList_load_rec w.heap.size (rcV r ⟨aS, cS, aD, cD, aH, cH, aW, cW, aY, cY, aB, cB, aA, cA⟩) rfl ?_ ?_ ?_); (· rfl); (· exact k1))
 refine (specCalm B r ⟨aS, cS, aD, cD, aH, cH, aW, cW, aY, cY, aB, cB, aA, cA⟩ X (colF w.heap.size col) _ (by have h9 := HB.out; have h8 := B1.out.size; omega) H1.out).mono ?_
 rintro e w2 ⟨p2, X2, col2, rfl, has2, hb2, ot2⟩
 have H2 := hid has2
 have B2 := hid (show Below B w w2 from (B1.out.mono HB.out).trans hb2)
 have O1 := ot2 w.heap.size K1.out.lt (CG.out _ (Nat.le_refl _))
 have O2 := ot2 (w.heap.size + 1) Z1.out.lt (CG.out _ (by omega))
 have K2 := hid (show Blk w2 w.heap.size (rcV r ⟨aS, cS, aD, cD, aH, cH, aW, cW, aY, cY, aB, cB, aA, cA⟩) 41 from O1.1.trans K1.out)
 have Z2 := hid (show Blk w2 (w.heap.size + 1) zRc 41 from O2.1.trans Z1.out)
 have G1 := hid O1.2
 have G2 := hid O2.2
 have OT := hid ((Others.of (B1.out) (fun x hx => colF_old hx)).trans ot2 B1.out.size)
 clear has2 hb2 ot2 O1 O2 k1
 have HF := hid (show followR r b = (hush (calmR r)) by rw [followR_new h2, HRi.out])
 have k2 := K2.out
 have K3 := hid (show Blk (w2.setRow w.heap.size (rcV (calmR r) p2)) w.heap.size (rcV (calmR r) p2) 41 from setRow_heap _ w.heap.size _ (rcV (calmR r) p2) _ _ K2.out)
 have Z3 := hid (show Blk (w2.setRow w.heap.size (rcV (calmR r) p2)) (w.heap.size + 1) zRc 41 from (setRow_other w2 w.heap.size (w.heap.size + 1) (rcV (calmR r) p2) (by omega)).trans Z2.out)
 have c3 := K3.out.cell
 have f3 := K3.out.free
 have k4 : Blk ((w2.setRow w.heap.size (rcV (calmR r) p2)).setCell ⟨w.heap.size, 17, none⟩ (.int .i64 0)) w.heap.size (rcV (hush (calmR r)) p2) 41 := K3.out.set (o := 17) (.int .i64 0)
 have k5 := Z3.out.setCell (p := ⟨w.heap.size, 17, none⟩) (by simp) (.int .i64 0)
 have H3 := hid (show RcHas B (w2.setRow w.heap.size (rcV (calmR r) p2)) (calmR r) p2 X2 col2 from H2.out.setRow G1.out _)
 have B3 := hid (show Below B w (w2.setRow w.heap.size (rcV (calmR r) p2)) from below_setRow' B2.out HB.out _)
 have O3 := hid (show Others w col (w2.setRow w.heap.size (rcV (calmR r) p2)) col2 from fun x hx h8 => ⟨(setRow_other _ w.heap.size x _ (by omega)).trans (OT.out x hx h8).1, (OT.out x hx h8).2⟩)
 go_wp2_with (first
  | ((with_reducible refine wpList_store_rec_at w.heap.size (rcV r ⟨aS, cS, aD, cD, aH, cH, aW, cW, aY, cY, aB, cB, aA, cA⟩) (rcV (calmR r) p2) rfl rfl ?_ ?_ ?_ ?_ ?_); (· rfl); (· rfl); (· exact k2); (· simp [Value.oneCell']))
  | ((with_reducible refine wpList_load_rec w.heap.size (rcV (hush (calmR r)) p2) rfl ?_ ?_ ?_); (· rfl); (· exact k4))
  | ((with_reducible refine wpList_store_rec_at (w.heap.size + 1) zRc (rcV (hush (calmR r)) p2) rfl rfl ?_ ?_ ?_ ?_ ?_); (· rfl); (· rfl); (· exact k5); (· simp [Value.oneCell'])))
 have hz := setRow_heap _ (w.heap.size + 1) _ (rcV (hush (calmR r)) p2) _ _ k5
 refine ret_cell (ty := 41) Tryz.results78 (w.heap.size + 1) (rcV (hush (calmR r)) p2) _ ?_ ?_ hz Tryz.underlying41 rfl (by kernel_rfl) ?_
 ·rfl
 ·rfl
 rw [HF.out]
 refine ⟨p2, X2, col2, rfl, ((H3.out.setCell (q := ⟨w.heap.size, 17, none⟩) G1.out _).setRow G2.out _).like rfl rfl rfl rfl rfl rfl rfl, below_setRow' (below_set B3.out HB.out _) (by have := HB.out; omega) _, fun x hx h8 => ?_⟩
 have q1 := O3.out x hx h8
 exact ⟨((setRow_other _ (w.heap.size + 1) x _ (by omega)).trans (heap_setCell_other _ ⟨w.heap.size, 17, none⟩ x _ (by simp; omega))).trans q1.1, q1.2⟩
end Go.Proofs.YtffklmlljekceaaGreat
