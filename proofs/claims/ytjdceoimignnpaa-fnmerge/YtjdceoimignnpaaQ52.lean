import Derived.Test.YtjdceoimignnpaaQ51
namespace Go.Proofs.Ytjdceoimignnpaa
open Go.ChangeShapes Go.WideShapes Go.ChangeAt Go.RowKit
set_option linter.unusedVariables false
set_option linter.unusedSimpArgs false
set_option maxHeartbeats 8000000
set_option maxRecDepth 20000
variable {C C1 C2 : Array Value} {l l1 l2 : List Sl} {ga gb k : Nat} {y : Sl} {B w' : World}
theorem isNaN_any (x : Int) (w : World) : Calls Try.prog 85 #[.int .i64 x] w fun e w' => e = .returned (.bool false) ∧ w' = w := by
 go_enter Try.func85, Try.ntmps85;go_wp2;go_ret;exact ⟨by simp, rfl⟩
theorem compare_any (x y : Int) (w : World) : Calls Try.prog 80 #[.int .i64 x, .int .i64 y] w fun e w' => ∃ c : Int, e = .returned (.int .i64 c) ∧ decide (c < 0) = decide (x < y) ∧ w' = w := by
 go_enter Try.func80, Try.ntmps80;go_wp2_with (go_at_call 85; refine (isNaN_any _ _).mono ?_; rintro e w' ⟨rfl, rfl⟩);all_goals go_ret
 ·exact ⟨-1, rfl, by simp; omega, rfl⟩
 ·exact ⟨1, rfl, by simp; omega, rfl⟩
 exact ⟨0, rfl, by simp; omega, rfl⟩
theorem compareBallots_any (x y : Sl) (w : World) : Calls Try.prog 55 #[.agg #[.int .i64 x.1, .string x.2], .agg #[.int .i64 y.1, .string y.2]] w fun e w' => ∃ c : Int, e = .returned (.int .i64 c) ∧ decide (c < 0) = decide (x.1 < y.1) ∧ Below w.heap.size w w' := by
 go_enter Try.func55, Try.ntmps55;go_wp2_with (go_at_call 80; refine (compare_any _ _ _).mono ?_; rintro e w' ⟨c, rfl, hc, rfl⟩);go_ret;exact ⟨c, rfl, hc, ext_alloc (ext_alloc (Below.refl _ _) _) _⟩
structure PgS (B : World) (ga gb : Nat) (C1 C2 : Array Value) (w' : World) : Prop where
 blkA : Blk w' ga C1 83
 blkB : Blk w' gb C2 83
 bel : Below B.heap.size B w'
theorem PgS.ext {v' : World} (h : PgS B ga gb C1 C2 w') (hb : Below w'.heap.size w' v') : PgS B ga gb C1 C2 v' := ⟨h.blkA.ext hb, h.blkB.ext hb, ext_trans h.bel hb⟩
theorem PgS.drew (h : PgS B ga gb C1 C2 w') : PgS B ga gb C1 C2 w'.drew := ⟨h.blkA, h.blkB, h.bel.drew⟩
theorem PageC.put {l' : List Sl} (h : PageC C l) {k : Nat} {y : Sl} (hk : k < 60) (hl : l'.length ≤ 60) (hold : ∀ (i : Nat) s, l'[i]? = some s → i = k ∧ s = y ∨ i ≠ k ∧ l[i]? = some s) :
  PageC ((C.setIfInBounds (k * 2) (.int .i64 y.1)).setIfInBounds (k * 2 + 1) (.string y.2)) l' := by
 have hz := h.size;refine ⟨by simp [hz], hl, fun i s hs => ?_, one_set (one_set h.one _ rfl) _ rfl⟩;rcases hold i s hs with ⟨rfl, rfl⟩ | ⟨hne, ho⟩
 ·constructor
  ·rw [Array.getElem?_setIfInBounds_ne (by omega), Array.getElem?_setIfInBounds_self_of_lt (by omega)]
  rw [Array.getElem?_setIfInBounds_self_of_lt (by rw [Array.size_setIfInBounds]; omega)]
 have := h.at' i s ho;rw [Array.getElem?_setIfInBounds_ne (by omega), Array.getElem?_setIfInBounds_ne (by omega), Array.getElem?_setIfInBounds_ne (by omega), Array.getElem?_setIfInBounds_ne (by omega)];exact this
theorem PageC.done (h : PageC C l) (v : Value) (hv : v = .int .i64 l.length) : PageOk (C.setIfInBounds 120 v) l := by
 subst hv;have hz := h.size;have hl := h.len;refine ⟨⟨by simp [hz], h.len, fun i s hs => ?_, one_set h.one _ rfl⟩, by rw [Array.getElem?_setIfInBounds_self_of_lt (by omega)]⟩;have hi : i < l.length := (List.getElem?_eq_some_iff.1 hs).1;rw [Array.getElem?_setIfInBounds_ne (by omega), Array.getElem?_setIfInBounds_ne (by omega)];exact h.at' i s hs
theorem put_app (hk : l1.length ≤ k) (hy : l2[k]? = some y) : ∀ (i : Nat) s, (mergeL l1 (l2.take (k + 1)))[i]? = some s → i = k ∧ s = y ∨ i ≠ k ∧ (mergeL l1 (l2.take k))[i]? = some s := fun i s hs => by
 have hb : k < l2.length := (List.getElem?_eq_some_iff.1 hy).1;rw [mergeL_app hk hy, List.getElem?_append, mergeL_len, List.length_take] at hs;split at hs
 ·exact .inr ⟨by omega, hs⟩
 rename_i h9;have := (List.getElem?_eq_some_iff.1 hs).1;simp at this;have hik : i = k := by omega
 subst hik;rw [show i - max l1.length (min i l2.length) = 0 by omega] at hs;simp at hs;exact .inl ⟨rfl, hs.symm⟩
theorem put_set {x : Sl} (hx : l1[k]? = some x) (hy : l2[k]? = some y) (h : x.1 < y.1) : ∀ (i : Nat) s, (mergeL l1 (l2.take (k + 1)))[i]? = some s → i = k ∧ s = y ∨ i ≠ k ∧ (mergeL l1 (l2.take k))[i]? = some s := fun i s hs => by
 rw [mergeL_set hx hy h, List.getElem?_set] at hs;split at hs
 ·rename_i h9;split at hs
  ·simp only [Option.some.injEq] at hs;exact .inl ⟨h9.symm, hs.symm⟩
  simp at hs
 rename_i h9;exact .inr ⟨fun e => h9 e.symm, hs⟩
theorem mergePages_any (C1 C2 : Array Value) (l1 l2 : List Sl) (w : World) (h1 : PageOk C1 l1) (h2 : PageOk C2 l2) :
  Calls Try.prog 53 #[.agg C1, .agg C2, .func (.func 55) #[] #[]] w fun e w' => ∃ C, e = .returned (.agg C) ∧ PageOk C (mergeL l1 l2) ∧ Below w.heap.size w w' := by
 have H1 := hid h1;have H2 := hid h2;have L1 : l1.length ≤ 60 := h1.len;have L2 : l2.length ≤ 60 := h2.len;have U1 := h1.used;have U2 := h2.used;clear h1 h2;have ka := hid (show Blk ((((w.alloc (.cells C1 83)).alloc (.cells C2 83)).alloc (.cells Try.zeroCells83 83)).alloc (.cells C1 83)) w.heap.size C1 83 from (((Blk.new w _ _).alloc _).alloc _).alloc _);have ka3 := hid (show Blk (((w.alloc (.cells C1 83)).alloc (.cells C2 83)).alloc (.cells Try.zeroCells83 83)) w.heap.size C1 83 from ((Blk.new w _ _).alloc _).alloc _);have kb := hid (show Blk ((((w.alloc (.cells C1 83)).alloc (.cells C2 83)).alloc (.cells Try.zeroCells83 83)).alloc (.cells C1 83)) (w.heap.size + 1) C2 83 from ((Blk.new' _ _ (by simp)).alloc _).alloc _);have kr := hid (show Blk ((((w.alloc (.cells C1 83)).alloc (.cells C2 83)).alloc (.cells Try.zeroCells83 83)).alloc (.cells C1 83)) (w.heap.size + 1 + 1) Try.zeroCells83 83 from (Blk.new' _ _ (by simp)).alloc _);have km := hid (show Blk ((((w.alloc (.cells C1 83)).alloc (.cells C2 83)).alloc (.cells Try.zeroCells83 83)).alloc (.cells C1 83)) (w.heap.size + 1 + 1 + 1) C1 83 from Blk.new' _ _ (by simp));have HB := hid (show Below w.heap.size w ((((w.alloc (.cells C1 83)).alloc (.cells C2 83)).alloc (.cells Try.zeroCells83 83)).alloc (.cells C1 83)) from ext_alloc (ext_alloc (ext_alloc (ext_alloc (Below.refl _ _) _) _) _) _);have ub := (kb.out.cell 120).trans U2;have HE := hid (show Value.pointer (some ⟨w.heap.size + 1 + 1 + 1, 0, none⟩) = Value.pointer (some ⟨(((w.alloc (.cells C1 83)).alloc (.cells C2 83)).alloc (.cells Try.zeroCells83 83)).heap.size, 0, none⟩) by simp);go_enter Try.func53, Try.ntmps53
 go_wp2_with (first
  | ((with_reducible refine wpList_load_page w.heap.size C1 H1.out.size ?_ ?_ ?_); (· rfl); (· exact ka3.out))
  | ((with_reducible refine wpList_store_page C1 H1.out.size ?_ ?_ ?_ ?_ ?_); (· exact HE.out); (· rfl); (· exact zero_size); (· exact H1.out.one)))
 go_loopw [12] (fun i wr => ∃ (k : Nat) (C : Array Value), k ≤ l2.length ∧ i = .int .i64 k ∧ PageC C (mergeL l1 (l2.take k)) ∧ Blk wr w.heap.size C1 83 ∧ Blk wr (w.heap.size + 1) C2 83 ∧ Blk wr (w.heap.size + 1 + 1) Try.zeroCells83 83 ∧ Blk wr (w.heap.size + 1 + 1 + 1) C 83 ∧ Below w.heap.size w wr) (fun i _ => l2.length - (intOf i).toNat);case atStart => exact ⟨0, C1, Nat.zero_le _, rfl, by rw [List.take_zero, mergeL_nil]; exact H1.out.toPageC, ka.out, kb.out, kr.out, km.out, HB.out⟩
 clear ka ka3 kb kr km HB ub;obtain ⟨k, C, hk, rfl, hpc0, ba0, bb0, br0, bm0, hbel0⟩ := hrel;have hpc := hid hpc0;have ba := hid ba0;have bb := hid bb0;have br := hid br0;have bm := hid bm0;have hbel := hid hbel0;clear hpc0 ba0 bb0 br0 bm0 hbel0;by_cases hlt : k < l2.length
 ·obtain ⟨y, hy0⟩ : ∃ s, l2[k]? = some s := ⟨_, List.getElem?_eq_getElem hlt⟩
  have hy := hid hy0;have Y0 := (H2.out.at' k y hy0).1;have Y1 := (H2.out.at' k y hy0).2;clear hy0;have e1 : (0 : Int) ≤ (k : Int) := by omega
  have e2 : (k : Int) < (l2.length : Int) := by omega
  have e3 : (k : Int) < 60 := by omega
  have hK0 : PgS wr w.heap.size (w.heap.size + 1) C1 C2 wr := ⟨ba.out, bb.out, Below.refl _ _⟩
  have YC := hid (show C2[k * 2]? = some (.int .i64 y.1) ∧ C2[k * 2 + 1]? = some (.string y.2) from ⟨Y0, Y1⟩);clear Y0 Y1;go_wp2_with fail;refine wp_region_held_drew (S := PgS wr w.heap.size (w.heap.size + 1) C1 C2) (by kernel_rfl) hK0.drew (fun hHeld => ?_);clear hK0;simp only [qz, Nat.reduceAdd];refine planH.go [0, 1] ?_;iterate 2 (apply planH.take (at_lit rfl) (by kernel_rfl) (by rfl) (fun _ _ _ h => h) hHeld; (· intro w9 hSw; clear hSw; go_simp; try with_reducible rfl); try simp only [qq])
  refine planH.fin ?_;refine planH.go [2] ?_;iterate 1 (apply planH.take (at_lit rfl) (by kernel_rfl) (by rfl) (fun _ _ _ h => h) hHeld; (· intro w9 hSw; have hq := (hSw.blkA.cell 120).trans U1; clear hSw; go_simp; try with_reducible rfl); try simp only [qq])
  refine planH.fin ?_;by_cases hkn : l1.length ≤ k
  ·have e4 : (l1.length : Int) ≤ (k : Int) := by omega
   refine planH.go [3, 4, 5, 6, 7, 8, 9, 10, 11, 12, 13, 14, 15, 16] ?_;iterate 2 (apply planH.take (at_lit rfl) (by kernel_rfl) (by rfl) (fun _ _ _ h => h) hHeld; (· intro w9 hSw; clear hSw; go_simp; try with_reducible rfl); try simp only [qq])
   iterate 11 (refine planH.skip (at_lit rfl) (by kernel_rfl) (by rfl) (fun _ _ _ h => h) hHeld ?_; try simp only [qq])
   iterate 1 (apply planH.take (at_lit rfl) (by kernel_rfl) (by rfl) (fun _ _ _ h => h) hHeld; (· intro w9 hSw; clear hSw; go_simp; try with_reducible rfl); try simp only [qq])
   refine planH.fin ?_;refine wpAnyH_done (by kernel_rfl) ?_ _;have bm1 := bm.out;have bb1 := bb.out;have ba1 := ba;have br1 := br;have HF := hbel;have BM1 := hid bm1;have BB1 := hid bb1;have c0 := (bb1.cell (k * 2)).trans YC.out.1;have c1 := (bb1.cell (k * 2 + 1)).trans YC.out.2;have hz := hpc.out.size;obtain ⟨x0, hx0⟩ : ∃ x, C[k * 2]? = some x := ⟨_, Array.getElem?_eq_getElem (by omega)⟩
   obtain ⟨x1, hx1⟩ : ∃ x, C[k * 2 + 1]? = some x := ⟨_, Array.getElem?_eq_getElem (by omega)⟩
   have d0 := (bm1.cell (k * 2)).trans hx0;have d1 := (bm1.cell (k * 2 + 1)).trans hx1;have ff := bm1.free;clear hHeld bm1 bb1 hx0 hx1 hz;go_wp2;go_roundw;case rel =>
    refine ⟨k + 1, _, by omega, by go_num, hpc.out.put (by omega) (by rw [mergeL_len, List.length_take]; omega) (put_app hkn hy.out), (ba1.out.setCell (by simp; try omega) _).setCell (by simp; try omega) _, (BB1.out.setCell (by simp; try omega) _).setCell (by simp; try omega) _, (br1.out.setCell (by simp; try omega) _).setCell (by simp; try omega) _, heap_setCell_same _ _ _ _ _ _ (heap_setCell_same _ _ _ _ _ _ BM1.out), (((HF.out.setCell (by simp; try omega) _).setCell (by simp; try omega) _).drew)⟩
   case measure => simp [intOf]; omega
  have e4 : ¬ (l1.length : Int) ≤ (k : Int) := by omega
  obtain ⟨x, hx0⟩ : ∃ s, l1[k]? = some s := ⟨_, List.getElem?_eq_getElem (by omega)⟩
  have hx := hid hx0;have XC := hid (H1.out.at' k x hx0);clear hx0;refine planH.go [3, 4, 5, 6, 7, 8] ?_;iterate 6 (apply planH.take (at_lit rfl) (by kernel_rfl) (by rfl) (fun _ _ _ h => h) hHeld; (· intro w9 hSw; clear hSw; go_simp; try with_reducible rfl); try simp only [qq])
  refine planH.fin ?_;refine planH.go [9] ?_;iterate 1 (apply planH.take (at_lit rfl) (by kernel_rfl) (by rfl) (fun _ _ _ h => h) hHeld; (· intro w9 hSw; have q0 := (hSw.blkA.cell (k * 2)).trans XC.out.1; have q1 := (hSw.blkA.cell (k * 2 + 1)).trans XC.out.2; clear hSw; go_simp; try with_reducible rfl); try simp only [qq])
  refine planH.fin ?_;refine planH.go [10, 11, 12] ?_;iterate 3 (apply planH.take (at_lit rfl) (by kernel_rfl) (by rfl) (fun _ _ _ h => h) hHeld; (· intro w9 hSw; clear hSw; go_simp; try with_reducible rfl); try simp only [qq])
  refine planH.fin ?_;refine planH.go [13] ?_;iterate 1 (apply planH.take (at_lit rfl) (by kernel_rfl) (by rfl) (fun _ _ _ h => h) hHeld; (· intro w9 hSw; have q0 := (hSw.blkB.cell (k * 2)).trans YC.out.1; have q1 := (hSw.blkB.cell (k * 2 + 1)).trans YC.out.2; clear hSw; go_simp; try with_reducible rfl); try simp only [qq])
  refine planH.fin ?_;refine rdH 14 (by kernel_rfl) (at_lit rfl) (fun K hK => ?_);go_simp;refine (compareBallots_any x y _).mono ?_;rintro e z ⟨c, rfl, hc, hz⟩;go_wp2_with fail;refine hK.out _ _ (hHeld.ext hz) (fun hNew => ?_);clear hK K hHeld hz;have hHeld := hNew;clear hNew;try simp only [qq]
  by_cases hxy : x.1 < y.1
  ·have hc1 : decide (c < 0) = true := by rw [hc]; exact decide_eq_true hxy
   have hc2 : c < 0 := of_decide_eq_true hc1;clear hc hc1;refine planH.go [15, 16] ?_;iterate 2 (apply planH.take (at_lit rfl) (by kernel_rfl) (by rfl) (fun _ _ _ h => h) hHeld; (· intro w9 hSw; clear hSw; go_simp; try with_reducible rfl); try simp only [qq])
   refine planH.fin ?_;refine wpAnyH_done (by kernel_rfl) ?_ _;have bm1 := bm.out.ext hHeld.bel;have bb1 := bb.out.ext hHeld.bel;have ba1 := hid (ba.out.ext hHeld.bel);have br1 := hid (br.out.ext hHeld.bel);have HF := hid (ext_trans hbel.out hHeld.bel);have BM1 := hid bm1;have BB1 := hid bb1;have c0 := (bb1.cell (k * 2)).trans YC.out.1;have c1 := (bb1.cell (k * 2 + 1)).trans YC.out.2;have hz := hpc.out.size;obtain ⟨x0, hx0⟩ : ∃ x, C[k * 2]? = some x := ⟨_, Array.getElem?_eq_getElem (by omega)⟩
   obtain ⟨x1, hx1⟩ : ∃ x, C[k * 2 + 1]? = some x := ⟨_, Array.getElem?_eq_getElem (by omega)⟩
   have d0 := (bm1.cell (k * 2)).trans hx0;have d1 := (bm1.cell (k * 2 + 1)).trans hx1;have ff := bm1.free;clear hHeld bm1 bb1 hx0 hx1 hz;go_wp2;go_roundw;case rel =>
    refine ⟨k + 1, _, by omega, by go_num, hpc.out.put (by omega) (by rw [mergeL_len, List.length_take]; omega) (put_set hx.out hy.out hxy), (ba1.out.setCell (by simp; try omega) _).setCell (by simp; try omega) _, (BB1.out.setCell (by simp; try omega) _).setCell (by simp; try omega) _, (br1.out.setCell (by simp; try omega) _).setCell (by simp; try omega) _, heap_setCell_same _ _ _ _ _ _ (heap_setCell_same _ _ _ _ _ _ BM1.out), (HF.out.setCell (by simp; try omega) _).setCell (by simp; try omega) _⟩
   case measure => simp [intOf]; omega
  have hc1 : decide (c < 0) = false := by rw [hc]; exact decide_eq_false hxy
  have hc2 : ¬ c < 0 := of_decide_eq_false hc1;clear hc hc1;refine planH.go [15, 16] ?_;iterate 2 (apply planH.take (at_lit rfl) (by kernel_rfl) (by rfl) (fun _ _ _ h => h) hHeld; (· intro w9 hSw; clear hSw; go_simp; try with_reducible rfl); try simp only [qq])
  refine planH.fin ?_;refine wpAnyH_done (by kernel_rfl) ?_ _;have bm1 := bm.out.ext hHeld.bel;have bb1 := bb.out.ext hHeld.bel;have ba1 := hid (ba.out.ext hHeld.bel);have br1 := hid (br.out.ext hHeld.bel);have HF := hid (ext_trans hbel.out hHeld.bel);have BM1 := hid bm1;have BB1 := hid bb1;clear hHeld bm1 bb1;go_wp2;go_roundw;case rel =>
   refine ⟨k + 1, C, by omega, by go_num, by rw [mergeL_keep hx.out hy.out (by omega)]; exact hpc.out, ba1.out, BB1.out, br1.out, BM1.out, HF.out⟩
  case measure => simp [intOf]; omega
 have hkk : k = l2.length := by omega
 subst hkk;have hpc2 := hpc.out;rw [mergeL_full l1 l2 (Nat.le_refl _)] at hpc2;have HPC := hid hpc2;have c0 := (ba.out.cell 120).trans U1;have c1 := (bb.out.cell 120).trans U2;have hz := hpc2.size;obtain ⟨x0, hx0⟩ : ∃ x, C[120]? = some x := ⟨_, Array.getElem?_eq_getElem (by omega)⟩
 have d0 := (bm.out.cell 120).trans hx0;have ff := bm.out.free;clear hx0 hz hpc2 hpc;have HP := hid (HPC.out.done (.int .i64 (max (l1.length : Int) (l2.length : Int))) (by rw [mergeL_len]; congr 1; omega));have b1 := hid (heap_setCell_same wr (w.heap.size + 1 + 1 + 1) 120 C 83 (.int .i64 (max (l1.length : Int) (l2.length : Int))) bm.out);have b0 := hid (show Blk (wr.setCell ⟨(w.heap.size + 1 + 1 + 1), 120, none⟩ (.int .i64 (max (l1.length : Int) (l2.length : Int)))) (w.heap.size + 1 + 1) Try.zeroCells83 83 from br.out.setCell (by simp) _);have HF := hid (show Below w.heap.size w (wr.setCell ⟨(w.heap.size + 1 + 1 + 1), 120, none⟩ (.int .i64 (max (l1.length : Int) (l2.length : Int)))) from hbel.out.setCell (by simp; try omega) _)
 go_wp2_with (first
  | ((with_reducible refine wpList_load_page (w.heap.size + 1 + 1 + 1) (C.setIfInBounds 120 (.int .i64 (max (l1.length : Int) (l2.length : Int)))) ?_ ?_ ?_ ?_); (· exact HP.out.size); (· rfl); (· exact b1.out))
  | ((with_reducible refine wpList_store_page_at (w.heap.size + 1 + 1) Try.zeroCells83 (C.setIfInBounds 120 (.int .i64 (max (l1.length : Int) (l2.length : Int)))) HP.out.size zero_size ?_ ?_ ?_ ?_ ?_); (· rfl); (· rfl); (· exact b0.out); (· exact HP.out.one)))
 refine ret_cell (ty := 83) Try.results53 (w.heap.size + 1 + 1) (C.setIfInBounds 120 (.int .i64 (max (l1.length : Int) (l2.length : Int)))) _ ?_ ?_ (setRow_heap _ (w.heap.size + 1 + 1) _ _ _ _ b0.out) Try.underlying83 rfl (pageSize HP.out.size) ⟨_, rfl, HP.out, HF.out.trans ⟨rfl, rfl, rfl, by simp, fun q hq => setRow_other _ (w.heap.size + 1 + 1) q _ (by omega)⟩⟩
 ·rfl
 rfl
theorem own_extM {w : World} {B n : Nat} {e : TypeId} {v : Value} {xs : List Value} (h : w.ownsRow B e k v n xs) (hb : Below w.heap.size w w') : w'.ownsRow B e k v n xs := by
 refine ⟨h.1, ?_⟩;rcases h.2 with h0 | ⟨g, cap, cur, hv, hB, hg, r⟩
 ·exact .inl h0
 exact .inr ⟨g, cap, cur, hv, hB, (hb.block g (Array.getElem?_eq_some_iff.1 hg).1).trans hg, r⟩
theorem PageC.news (h : PageC C l) (j : Nat) (u : Value) (hu : (flat l)[j]? = some u) : C[j]? = some u := by
 have hj := (List.getElem?_eq_some_iff.1 hu).1;rw [flat_len] at hj;have hi : j / 2 < l.length := by omega
 have hs : l[j / 2]? = some l[j / 2] := List.getElem?_eq_getElem hi;have h1 := h.at' _ _ hs;have h2 := flat_at l _ _ hs;by_cases hp : j % 2 = 0
 ·have e : j = j / 2 * 2 := by omega
  rw [e] at hu ⊢;rw [← hu, h1.1, h2.1]
 have e : j = j / 2 * 2 + 1 := by omega
 rw [e] at hu ⊢;rw [← hu, h1.2, h2.2]
theorem wpList_make_slots {ops : Array Oper} {rest : List Oper} {dst : Option Tmp} {c : Operand} {τ : TypeId} {pos : String} {after : Array Edge} {a : Act} {w : World} {Q : Exit → Act → World → Prop}
  (C : Int) (n : Nat) (hc : a.eval c = .int .i64 C) (hC : C = (n : Int)) (hn : n ≤ 4194304)
  (hK : ∀ w', w'.ownsRow w.heap.size 43 2 (.slice (some ⟨w.heap.size, 0, none⟩) 0 n) 0 [] → w.grownBy w' none → wpList Try.prog ops Q rest (a.put dst (.slice (some ⟨w.heap.size, 0, none⟩) 0 n)) w') :
  wpList Try.prog ops Q ({ dst := dst, op := .makeSlice 23 (.const (.int .i64 0)) c, type := τ, pos := pos, after := after, guard := none } :: rest) a w := by
 obtain ⟨i, h1, h2, h3, h4⟩ := slotInfo;exact wpList_make_own w rfl _ _ 23 rfl w.heap.size 43 i (.agg #[.int .i64 0, .string ⟨#[]⟩]) 2 Try.underlying23 h1 h2 h3 .i64 .i64 C n rfl hc hC (by rw [h4]; omega) (by unfold maxLen; omega) (Nat.le_refl _) hK
theorem wpList_append_spare {ops : Array Oper} {rest : List Oper} {dst : Option Tmp} {s x : Operand} {τ : TypeId} {pos : String} {after : Array Edge} {a : Act} {w : World} {Q : Exit → Act → World → Prop}
  (B g n cap m c : Nat) (l1 l2 : List Sl) (ad : Addr) (hs : a.eval s = .slice (some ⟨g, 0, none⟩) n cap) (hx : a.eval x = .slice (some ad) m c) (hown : w.ownsRow B 43 2 (.slice (some ⟨g, 0, none⟩) n cap) n (flat l1)) (hm : l2.length = m)
  (hnews : ∀ j u, (flat l2)[j]? = some u → w.cell? (ad.add j) = some u) (hroom : n + m ≤ cap)
  (h : ∀ w', w'.ownsRow B 43 2 (.slice (some ⟨g, 0, none⟩) (n + m) cap) (n + m) (flat (l1 ++ l2)) → w.grownBy w' (some g) → wpList Try.prog ops Q rest (a.put dst (.slice (some ⟨g, 0, none⟩) (n + m) cap)) w') :
  wpList Try.prog ops Q ({ dst := dst, op := .call { callee := .builtin .append, args := #[s, x], argTypes := #[23, 23] }, type := τ, pos := pos, after := after, guard := none } :: rest) a w := by
 obtain ⟨i, h1, h2, h3, h4⟩ := slotInfo;refine wpList_append_own_spare w rfl s x 23 rfl B 43 i 2 Try.underlying23 h1 h3 g n cap (flat l1) hs hown ad m c (flat l2) hx (by rw [flat_len, hm]) hnews (flat_one l2) hroom ?_;intro w' q1 q2;exact h w' (by rw [flat_app]; exact q1) q2
theorem pageFrom_g (ad : Option Addr) (l : List Sl) (n cap start : Nat) (w : World) (hn : l.length = n) (hc : n ≤ 1048576) (hcap : n ≤ cap ∧ cap ≤ maxLen) (hs : start ≤ 4194304) (h : SlotsAt w ad l) :
  Calls Try.prog 54 #[.slice ad n cap, .int .i64 start] w fun e w' => ∃ C, e = .returned (.agg C) ∧ PageOk C ((l.drop start).take 60) ∧ Below w.heap.size w w' := by
 have HL := hid hn;clear hn;by_cases hlt : start < n
 ·obtain ⟨g, off, rfl⟩ : ∃ g off, ad = some ⟨g, off, none⟩ := by
   obtain ⟨b, off, ha, _⟩ := h start _ (List.getElem?_eq_getElem (by rw [HL.out]; exact hlt));exact ⟨b, off, ha⟩
  unfold maxLen at hcap;obtain ⟨hcap1, hcap2⟩ := hcap;have e5 : (start : Int) ≤ (cap : Int) := by omega
  have e6 : (n : Int) ≤ (cap : Int) := by omega
  have e1 : (0 : Int) ≤ (start : Int) := by omega
  have e2 : (start : Int) ≤ (n : Int) := by omega
  have e3 : (start : Int) < (n : Int) := by omega
  have e4 : ¬ cap = start := by omega
  obtain ⟨l', hl'⟩ : ∃ l', l' = (l.drop start).take 60 := ⟨_, rfl⟩
  have HLL := hid hl';have HL60 := hid (show l'.length ≤ 60 by rw [hl', List.length_take]; omega);have HP := hid (page_copied l' HL60.out);rw [← hl'];clear hl';go_enter Try.func54, Try.ntmps54;have k0 : Blk ((w.alloc (.cells Try.zeroCells83 83)).alloc (.cells Try.zeroCells83 83)) w.heap.size Try.zeroCells83 83 := (Blk.new w _ _).alloc _;have k1 : Blk ((w.alloc (.cells Try.zeroCells83 83)).alloc (.cells Try.zeroCells83 83)) (w.heap.size + 1) Try.zeroCells83 83 := Blk.new' _ _ (by simp);have hB : Below w.heap.size w ((w.alloc (.cells Try.zeroCells83 83)).alloc (.cells Try.zeroCells83 83)) := ext_alloc (ext_alloc (Below.refl _ _) _) _;have hbg := (h.ext hB)
  have K0 := hid k0;have K1 := hid k1;have HB := hid hB;have HG := hid hbg;clear k0 k1 hB hbg h;go_wp2_with fail;refine wp_region_held_drew (S := fun _ => True) (by kernel_rfl) trivial (fun _ => ?_);simp only [qz, Nat.reduceAdd];refine wpAnyH_take (i := 0) (v := ?_) (at_lit rfl) (by kernel_rfl) (by kernel_rfl) (by kernel_rfl) (fun _ _ _ h => h) (Or.inl ⟨by rfl, ?_⟩) trivial ?_;rotate_left
  ·(intro w9 hSw; clear hSw; go_simp; try with_reducible rfl)
  try simp only [qq]
  refine wpAnyH_take (i := 1) (v := ?_) (at_lit rfl) (by kernel_rfl) (by kernel_rfl) (by kernel_rfl) (fun _ _ _ h => h) (Or.inl ⟨by rfl, ?_⟩) trivial ?_;rotate_left
  ·(intro w9 hSw; clear hSw; go_simp; try with_reducible rfl)
  try simp only [qq]
  refine wpAnyH_take (i := 2) (v := ?_) (at_lit rfl) (by kernel_rfl) (by kernel_rfl) (by kernel_rfl) (fun _ _ _ h => h) (Or.inl ⟨by rfl, ?_⟩) trivial ?_;rotate_left
  ·(intro w9 hSw; clear hSw; go_simp; try with_reducible rfl)
  try simp only [qq]
  refine wpAnyH_take (i := 3) (v := ?_) (at_lit rfl) (by kernel_rfl) (by kernel_rfl) (by kernel_rfl) (fun _ _ _ h => h) (Or.inl ⟨by rfl, ?_⟩) trivial ?_;rotate_left
  ·(intro w9 hSw; clear hSw; go_simp; try with_reducible rfl)
  try simp only [qq]
  refine wpAnyH_take (i := 4) (v := ?_) (at_lit rfl) (by kernel_rfl) (by kernel_rfl) (by kernel_rfl) (fun _ _ _ h => h) (Or.inl ⟨by rfl, ?_⟩) trivial ?_;rotate_left
  ·(intro w9 hSw; clear hSw; go_simp; try with_reducible rfl)
  try simp only [qq]
  refine rdH 5 (by kernel_rfl) (at_lit rfl) (fun K hK => ?_);refine step_copy_slots rfl (.tmp 11) (.tmp 14) rfl (w.heap.size + 1) 0 60 60 ⟨g, off + start * 2, none⟩ (n - start) (cap - start) rfl rfl Try.zeroCells83 83 l' (Blk.drew K1.out) ?_ ?_ ?_ ?_
  ·rw [HLL.out, List.length_take, List.length_drop, HL.out]; exact Nat.min_comm _ _
  ·intro j v hv;have hv2 := hv;rw [HLL.out, flat_take, flat_drop] at hv2;have hj : j < 60 * 2 := by
    have := (List.getElem?_eq_some_iff.1 hv2).1;rw [List.length_take] at this;omega
   rw [List.getElem?_take_of_lt hj, List.getElem?_drop] at hv2;rw [Addr.add_mid];have hcell := HG.out.news (start * 2 + j) v hv2;rw [Addr.add_mid] at hcell;rw [Nat.add_assoc];exact hcell
  ·have h8 := flat_len l';have h7 := zero_size;have h6 := HL60.out;omega
  intro w2 C hC hBk hBe;refine hK.out _ _ trivial (fun _ => ?_);clear hK K;try simp only [qq]
  refine wpAnyH_take (i := 6) (v := ?_) (at_lit rfl) (by kernel_rfl) (by kernel_rfl) (by kernel_rfl) (fun _ _ _ h => h) (Or.inl ⟨by rfl, ?_⟩) trivial ?_;rotate_left
  ·(intro w9 hSw; clear hSw; go_simp; try with_reducible rfl)
  try simp only [qq]
  refine rdH 7 (by kernel_rfl) (at_lit rfl) (fun K hK => ?_);have hCz : C.size = 121 := by
   have := HP.out.size;rw [Array.size_setIfInBounds, ← hC.out] at this;exact this
  obtain ⟨x, hx⟩ : ∃ x, C[120]? = some x := ⟨_, Array.getElem?_eq_getElem (by omega)⟩
  have c0 := (hBk.out.cell 120).trans hx;have f0 := hBk.out.free 120;go_simp;refine hK.out _ _ trivial (fun _ => ?_);clear hK K c0 f0 hx hCz;try simp only [qq]
  refine wpAnyH_done (by kernel_rfl) ?_ _;rw [← hC.out] at HP;have b1 := hid (heap_setCell_same w2 (w.heap.size + 1) 120 C 83 (.int .i64 l'.length) hBk.out);have b0 := hid (show Blk (w2.setCell ⟨w.heap.size + 1, 120, none⟩ (.int .i64 l'.length)) w.heap.size Try.zeroCells83 83 from ((Blk.drew K0.out).below hBe.out (by omega)).setCell (by simp) _);have bb := hid (show Below w.heap.size w (w2.setCell ⟨w.heap.size + 1, 120, none⟩ (.int .i64 l'.length)) from ((HB.out.drew).trans (hBe.out.mono (by omega))).setCell (by simp) _);clear hBk hBe hC
  go_wp2_with (first
   | ((with_reducible refine wpList_load_page (w.heap.size + 1) (C.setIfInBounds 120 (.int .i64 l'.length)) HP.out.size ?_ ?_ ?_); (· rfl); (· exact b1.out))
   | ((with_reducible refine wpList_store_page_at w.heap.size Try.zeroCells83 (C.setIfInBounds 120 (.int .i64 l'.length)) HP.out.size zero_size ?_ ?_ ?_ ?_ ?_); (· rfl); (· rfl); (· exact b0.out); (· exact HP.out.one)))
  refine ret_cell (ty := 83) Try.results54 w.heap.size (C.setIfInBounds 120 (.int .i64 l'.length)) _ ?_ ?_ (setRow_heap _ w.heap.size _ _ _ _ b0.out) Try.underlying83 rfl (pageSize HP.out.size) ⟨_, rfl, HP.out, bb.out.trans ⟨rfl, rfl, rfl, by simp, fun k hk => setRow_other _ w.heap.size k _ (by omega)⟩⟩
  ·rfl
  rfl
 go_enter Try.func54, Try.ntmps54;have k0 : Blk ((w.alloc (.cells Try.zeroCells83 83)).alloc (.cells Try.zeroCells83 83)) w.heap.size Try.zeroCells83 83 := (Blk.new w _ _).alloc _;have k1 : Blk ((w.alloc (.cells Try.zeroCells83 83)).alloc (.cells Try.zeroCells83 83)) (w.heap.size + 1) Try.zeroCells83 83 := Blk.new' _ _ (by simp);have hB : Below w.heap.size w ((w.alloc (.cells Try.zeroCells83 83)).alloc (.cells Try.zeroCells83 83)) := ext_alloc (ext_alloc (Below.refl _ _) _) _;have K0 := hid k0;have K1 := hid k1;have HB := hid hB;clear k0 k1 hB
 go_wp2_with (first
  | ((with_reducible refine wpList_load_page (w.heap.size + 1) Try.zeroCells83 zero_size ?_ ?_ ?_); (· rfl); (· exact K1.out))
  | ((with_reducible refine wpList_store_page_at w.heap.size Try.zeroCells83 Try.zeroCells83 zero_size zero_size ?_ ?_ ?_ ?_ ?_); (· rfl); (· rfl); (· exact K0.out); (· exact zero_one)))
 refine ret_cell (ty := 83) Try.results54 w.heap.size Try.zeroCells83 _ ?_ ?_ (setRow_heap _ w.heap.size _ _ _ _ K0.out) Try.underlying83 rfl (pageSize zero_size) ⟨_, rfl, ?_, HB.out.trans ⟨rfl, rfl, rfl, by simp, fun k hk => setRow_other _ w.heap.size k _ (by omega)⟩⟩
 ·rfl
 ·rfl
 rw [List.drop_eq_nil_of_le (by rw [HL.out]; omega), List.take_nil]; exact page_zero
theorem implMergeG (a1 a2 : Option Addr) (l1 l2 : List Sl) (n1 n2 k1 k2 : Nat) (w : World) (hn1 : l1.length = n1) (hn2 : l2.length = n2) (hc1 : n1 ≤ 1048576) (hc2 : n2 ≤ 1048576) (hk1 : n1 ≤ k1 ∧ k1 ≤ maxLen) (hk2 : n2 ≤ k2 ∧ k2 ≤ maxLen) (h1 : SlotsAt w a1 l1) (h2 : SlotsAt w a2 l2) :
  Calls Try.prog 15 #[.slice a1 n1 k1, .slice a2 n2 k2] w fun e w' => ∃ g, e = .returned (.slice (some ⟨g, 0, none⟩) (max n1 n2) (max n1 n2)) ∧ w.heap.size ≤ g ∧ SlotsOwn w' g (mergeL l1 l2) ∧ Below w.heap.size w w' := by
 have HL : Hid (l1.length = n1 ∧ l2.length = n2) := ⟨hn1, hn2⟩
 have HK1 := hid hk1;have HK2 := hid hk2;have H1 := hid h1;have H2 := hid h2;clear hn1 hn2 h1 h2 hk1 hk2;obtain ⟨N, hN0⟩ : ∃ N, N = max n1 n2 := ⟨_, rfl⟩
 have hN := hid hN0;have hNi : max (n1 : Int) (n2 : Int) = (N : Int) := by omega
 have hNb : N ≤ 1048576 := by omega
 have hML := hid (show (mergeL l1 l2).length = N by rw [mergeL_len, HL.out.1, HL.out.2, hN0]);rw [← hN0];clear hN0;go_enter Try.func15, Try.ntmps15;go_wp2_with ((with_reducible refine wpList_make_slots (N : Int) N ?_ ?_ ?_ ?_); (· rfl); (· rfl); (· omega); intro w1 q1 q2; have Q1 := hid q1; have Q2 := hid q2; clear q1 q2);go_loopw [6, 7] (fun v i wr => ∃ (s : Nat), s ≤ N + 60 ∧ i = .int .i64 s ∧ v = .slice (some ⟨w.heap.size, 0, none⟩) (min s N : Nat) N ∧ wr.ownsRow w.heap.size 43 2 (.slice (some ⟨w.heap.size, 0, none⟩) (min s N : Nat) N) (min s N : Nat) (flat ((mergeL l1 l2).take s)) ∧ Below w.heap.size w wr) (fun _ i _ => N - (intOf i).toNat);case atStart => exact ⟨0, Nat.zero_le _, rfl, by rw [Nat.min_eq_left (Nat.zero_le _)], by rw [Nat.min_eq_left (Nat.zero_le _), List.take_zero]; exact Q1.out, ext_grown (Below.refl _ _) Q2.out (fun j hj => by simp at hj)⟩
 obtain ⟨s, hs, rfl, rfl, hown, hbel⟩ := hrel;have HW := hid hown;have HBe := hid hbel;clear hown hbel Q1 Q2;by_cases hlt : s < N
 ·have hm : min s N = s := Nat.min_eq_left (by omega);rw [hm] at HW ⊢;have e1 : (s : Int) < (N : Int) := by omega
  go_wp2_with fail;refine (pageFrom_g a1 l1 n1 k1 s _ HL.out.1 hc1 HK1.out (by omega) (H1.out.ext HBe.out)).mono ?_;rintro e z1 ⟨C1, rfl, p1, hz1⟩;have P1 := hid p1;have Z1 := hid (ext_trans HBe.out hz1);have W1 := hid (own_extM HW.out hz1);clear p1 hz1 HW HBe;go_wp2_with fail;refine (pageFrom_g a2 l2 n2 k2 s _ HL.out.2 hc2 HK2.out (by omega) (H2.out.ext Z1.out)).mono ?_;rintro e z2 ⟨C2, rfl, p2, hz2⟩;have P2 := hid p2;have Z2 := hid (ext_trans Z1.out hz2);have W2 := hid (own_extM W1.out hz2);clear p2 hz2 Z1 W1;go_wp2_with fail;refine (mergePages_any C1 C2 _ _ _ P1.out P2.out).mono ?_;rintro e z3 ⟨C, rfl, p3, hz3⟩;have P3 := hid p3;have Z3 := hid (ext_trans Z2.out hz3);have W3 := hid (own_extM W2.out hz3);clear hz3 Z2 W2 P1 P2;obtain ⟨l', hl'⟩ : ∃ l', l' = mergeL ((l1.drop s).take 60) ((l2.drop s).take 60) := ⟨_, rfl⟩
  rw [← hl'] at P3 p3;have HLL := hid hl';have hlen : l'.length = min 60 (N - s) := by
   rw [hl', mergeL_len, List.length_take, List.length_take, List.length_drop, List.length_drop, HL.out.1, HL.out.2, hN.out]; omega
  have hlb : l'.length ≤ 60 := by omega
  have hroom : s + l'.length ≤ N := by omega
  have HLEN := hid hlen;clear hl' hlen;have U := p3.used;have k1 := hid (Blk.new z3 C 83);have u1 := (k1.out.cell 120).trans U;have W4 := hid (own_extM W3.out (ext_alloc (Below.refl _ _) (.cells C 83)));have NEWS := hid (show ∀ j u, (flat l')[j]? = some u → (z3.alloc (.cells C 83)).cell? ((⟨z3.heap.size, 0, none⟩ : Addr).add j) = some u from fun j u hu => by rw [show (⟨z3.heap.size, 0, none⟩ : Addr).add j = ⟨z3.heap.size, j, none⟩ by unfold Addr.add; split <;> simp_all]; rw [k1.out.cell]; exact P3.out.toPageC.news j u hu);have e2 : (0 : Int) ≤ (l'.length : Int) := by omega
  have e3 : (l'.length : Int) ≤ 60 := by omega
  clear U p3
  go_wp2_with (first
   | ((with_reducible refine wpList_store_page C P3.out.size ?_ ?_ ?_ ?_ ?_); (· rfl); (· rfl); (· exact zero_size); (· exact P3.out.one))
   | ((with_reducible refine wpList_append_spare w.heap.size w.heap.size s N l'.length 60 ((mergeL l1 l2).take s) l' ⟨z3.heap.size, 0, none⟩ ?_ ?_ ?_ ?_ ?_ ?_ ?_); (· rfl); (· rfl); (· exact W4.out); (· rfl); (· exact NEWS.out); (· exact hroom); intro w5 q1 q2; have Q1 := hid q1; have Q2 := hid q2; clear q1 q2))
  go_roundw;case rel =>
   have h9 := HLEN.out;refine ⟨s + 60, by omega, by go_num, by rw [show min (s + 60) N = s + l'.length by omega], ?_, ext_grown (ext_alloc Z3.out _) Q2.out (fun j hj => by simp at hj; omega)⟩;rw [show min (s + 60) N = s + l'.length by omega, ← mergeL_pages, ← HLL.out];exact Q1.out
  case measure => simp [intOf]; omega
 go_wp2;go_ret;refine ⟨w.heap.size, by rw [show min s N = N by omega]; rfl, Nat.le_refl _, ?_, HBe.out⟩;have h9 := HW.out;rw [show min s N = N by omega, List.take_of_length_le (by rw [hML.out]; omega)] at h9;rcases h9.2 with ⟨h0, _⟩ | ⟨g, cap, cur, hv, hB, hg, _, _, hcs, ht⟩
 ·simp at h0
 simp only [Value.slice.injEq, Option.some.injEq, Addr.mk.injEq, and_true, true_and] at hv;obtain ⟨rfl, rfl⟩ := hv;refine blk_own ?_;rw [← ht, List.take_of_length_le (by rw [Array.length_toList]; omega)];simpa using hg
end Go.Proofs.Ytjdceoimignnpaa
