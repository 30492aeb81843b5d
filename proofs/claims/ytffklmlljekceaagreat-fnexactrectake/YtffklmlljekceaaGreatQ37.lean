import Derived.Test.YtffklmlljekceaaGreatQ36
namespace Go.Proofs.YtffklmlljekceaaGreat
open Go.ChangeShapes Go.WideShapes Go.ChangeAt Go.RowKit
set_option linter.unusedSimpArgs false
set_option linter.unusedVariables false
set_option maxHeartbeats 8000000
set_option maxRecDepth 20000
def refuseR (r : Rc) (b : Int) : Rc := if (r.lead || r.tr) = true ∧ r.ball < b then riseR (calmR r) b else r
theorem refuseR_no {r : Rc} {b : Int} (h : ¬ ((r.lead || r.tr) = true ∧ r.ball < b)) : refuseR r b = r := if_neg h
theorem refuseR_yes {r : Rc} {b : Int} (h : (r.lead || r.tr) = true ∧ r.ball < b) : refuseR r b = riseR (calmR r) b := if_pos h
structure RefS (tb g : Nat) (c c2 : Array Value) (ld tr : Bool) (ba : Int) (w' : World) : Prop where
 bt : Blk w' tb c 121
 bm : Blk w' (tb + 1) c2 45
 c11 : w'.cell? ⟨g, 11, none⟩ = some (.bool ld)
 c12 : w'.cell? ⟨g, 12, none⟩ = some (.bool tr)
 c13 : w'.cell? ⟨g, 13, none⟩ = some (.int .i64 ba)
theorem RefS.drew {tb g : Nat} {c c2 : Array Value} {ld tr : Bool} {ba : Int} {w' : World} (h : RefS tb g c c2 ld tr ba w') : RefS tb g c c2 ld tr ba w'.drew := ⟨h.bt, h.bm, h.c11, h.c12, h.c13⟩
structure RefT (tb : Nat) (c c2 : Array Value) (w' : World) : Prop where
 bt : Blk w' tb c 121
 bm : Blk w' (tb + 1) c2 45
theorem RefT.drew {tb : Nat} {c c2 : Array Value} {w' : World} (h : RefT tb c c2 w') : RefT tb c c2 w'.drew := ⟨h.bt, h.bm⟩
theorem implRefuse_c (B g : Nat) (f : Value) (r : Rc) (p : RcP) (X : RcX) (col : Nat → Nat) (m : MsgH) (v : Value) (w : World) (hg : B ≤ g) (hk : Blk w g (rcV r p) 41) (hc : 8 < col g) (h : RcHas B w r p X col) (hl : r.lead = false) (ht : r.tr = false) :
  Calls Tryz.prog 109 #[.agg #[.pointer (some ⟨g, 0, none⟩), f], .agg (msgV m v)] w fun e w' => (∃ u, e = .returned u) ∧ GPost B g w col (refuseR r m.b) w' := by
 have RD := hid h.fresh
 have HC := hid (show 8 < colF w.heap.size col g by rw [colF_old hk.lt]; exact hc)
 have HG := hid hg
 have K0 := hid hk
 have HBs := hid (show B ≤ w.heap.size from Nat.le_trans hg (Nat.le_of_lt hk.lt))
 obtain ⟨V, hV⟩ : ∃ V, V = (w.alloc (.cells #[.pointer (some ⟨g, 0, none⟩), f] 121)).alloc (.cells (msgV m v) 45) := ⟨_, rfl⟩
 have E1 := hid (show Below w.heap.size w V by rw [hV]; exact ext_alloc (ext_alloc (Below.refl _ _) _) _)
 have bt := hid (show Blk V w.heap.size #[.pointer (some ⟨g, 0, none⟩), f] 121 by rw [hV]; exact (Blk.new _ _ _).alloc _)
 have bm := hid (show Blk V (w.heap.size + 1) (msgV m v) 45 by rw [hV]; exact Blk.new' _ _ (by simp))
 have KV := hid (K0.out.ext E1.out)
 have hK0 : RefS w.heap.size g #[.pointer (some ⟨g, 0, none⟩), f] (msgV m v) false false r.ball V := ⟨bt.out, bm.out, (KV.out.cell 11).trans (show (rcV r p)[11]? = some (.bool false) by rw [← hl]; rfl), (KV.out.cell 12).trans (show (rcV r p)[12]? = some (.bool false) by rw [← ht]; rfl), (KV.out.cell 13).trans rfl⟩
 have HLT := hid (show r.lead = false ∧ r.tr = false from ⟨hl, ht⟩)
 clear h hc hg hk hl ht
 go_enter Tryz.func109, Tryz.ntmps109
 go_wp2_with fail
 rw [← hV]
 clear hV
 refine wp_region_held_drew (S := RefS w.heap.size g #[.pointer (some ⟨g, 0, none⟩), f] (msgV m v) false false r.ball) (by kernel_rfl) hK0.drew (fun hHeld => ?_)
 clear hK0
 simp only [qz, Nat.reduceAdd]
 refine planH.go [0, 1, 2, 3, 4, 5, 6, 7, 8, 9, 10, 11, 12, 13, 14, 15, 16, 17, 18, 19, 20, 21] ?_
 iterate 13 (apply planH.take (at_lit rfl) (by kernel_rfl) (by rfl) (fun _ _ _ h => h) hHeld; (· intro w9 hSw; have hq := hSw.bt.cell; have hm := hSw.bm.cell; have h11 := hSw.c11; have h12 := hSw.c12; have h13 := hSw.c13; clear hSw; go_simp; try with_reducible rfl); try simp only [qq])
 iterate 8 (refine planH.skip (at_lit rfl) (by kernel_rfl) (by rfl) (fun _ _ _ h => h) hHeld ?_; try simp only [qq])
 iterate 1 (apply planH.take (at_lit rfl) (by kernel_rfl) (by rfl) (fun _ _ _ h => h) hHeld; (· intro w9 hSw; have hq := hSw.bt.cell; have hm := hSw.bm.cell; have h11 := hSw.c11; have h12 := hSw.c12; have h13 := hSw.c13; clear hSw; go_simp; try with_reducible rfl); try simp only [qq])
 refine planH.fin ?_
 refine wpAnyH_done (by kernel_rfl) ?_ _
 clear hHeld
 go_wp2_with fail
 refine bodyPost_end (results_none rfl _ _ _) rfl ?_
 rw [refuseR_no (by rw [HLT.out.1, HLT.out.2]; simp)]
 exact ⟨⟨_, rfl⟩, p, X, _, KV.out.ext (Below.refl _ _).drew, RD.out.ext E1.out.drew, HC.out, E1.out.drew.mono HBs.out, fun b hb hne h8 => ⟨E1.out.block b hb, by rw [colF_old hb]; exact h8⟩⟩
theorem implRefuse_a (B g : Nat) (f : Value) (r : Rc) (p : RcP) (X : RcX) (col : Nat → Nat) (m : MsgH) (v : Value) (w : World) (hg : B ≤ g) (hk : Blk w g (rcV r p) 41) (hc : 8 < col g) (h : RcHas B w r p X col) (hl : r.lead = true) (ht : r.tr = false) :
  Calls Tryz.prog 109 #[.agg #[.pointer (some ⟨g, 0, none⟩), f], .agg (msgV m v)] w fun e w' => (∃ u, e = .returned u) ∧ GPost B g w col (refuseR r m.b) w' := by
 have RD := hid h.fresh
 have HC := hid (show 8 < colF w.heap.size col g by rw [colF_old hk.lt]; exact hc)
 have HG := hid hg
 have K0 := hid hk
 have HBs := hid (show B ≤ w.heap.size from Nat.le_trans hg (Nat.le_of_lt hk.lt))
 obtain ⟨V, hV⟩ : ∃ V, V = (w.alloc (.cells #[.pointer (some ⟨g, 0, none⟩), f] 121)).alloc (.cells (msgV m v) 45) := ⟨_, rfl⟩
 have E1 := hid (show Below w.heap.size w V by rw [hV]; exact ext_alloc (ext_alloc (Below.refl _ _) _) _)
 have bt := hid (show Blk V w.heap.size #[.pointer (some ⟨g, 0, none⟩), f] 121 by rw [hV]; exact (Blk.new _ _ _).alloc _)
 have bm := hid (show Blk V (w.heap.size + 1) (msgV m v) 45 by rw [hV]; exact Blk.new' _ _ (by simp))
 have KV := hid (K0.out.ext E1.out)
 have hK0 : RefS w.heap.size g #[.pointer (some ⟨g, 0, none⟩), f] (msgV m v) true false r.ball V := ⟨bt.out, bm.out, (KV.out.cell 11).trans (show (rcV r p)[11]? = some (.bool true) by rw [← hl]; rfl), (KV.out.cell 12).trans (show (rcV r p)[12]? = some (.bool false) by rw [← ht]; rfl), (KV.out.cell 13).trans rfl⟩
 have HLT := hid (show r.lead = true ∧ r.tr = false from ⟨hl, ht⟩)
 clear h hc hg hk hl ht
 go_enter Tryz.func109, Tryz.ntmps109
 go_wp2_with fail
 rw [← hV]
 clear hV
 refine wp_region_held_drew (S := RefS w.heap.size g #[.pointer (some ⟨g, 0, none⟩), f] (msgV m v) true false r.ball) (by kernel_rfl) hK0.drew (fun hHeld => ?_)
 clear hK0
 simp only [qz, Nat.reduceAdd]
 refine planH.go [0, 1, 2, 3, 4, 5, 6, 7, 8, 9, 10, 11, 12, 13, 14, 15, 16, 17, 18, 19, 20, 21] ?_
 iterate 6 (apply planH.take (at_lit rfl) (by kernel_rfl) (by rfl) (fun _ _ _ h => h) hHeld; (· intro w9 hSw; have hq := hSw.bt.cell; have hm := hSw.bm.cell; have h11 := hSw.c11; have h12 := hSw.c12; have h13 := hSw.c13; clear hSw; go_simp; try with_reducible rfl); try simp only [qq])
 iterate 5 (refine planH.skip (at_lit rfl) (by kernel_rfl) (by rfl) (fun _ _ _ h => h) hHeld ?_; try simp only [qq])
 iterate 11 (apply planH.take (at_lit rfl) (by kernel_rfl) (by rfl) (fun _ _ _ h => h) hHeld; (· intro w9 hSw; have hq := hSw.bt.cell; have hm := hSw.bm.cell; have h11 := hSw.c11; have h12 := hSw.c12; have h13 := hSw.c13; clear hSw; go_simp; try with_reducible rfl); try simp only [qq])
 refine planH.fin ?_
 refine wpAnyH_done (by kernel_rfl) ?_ _
 clear hHeld
 by_cases hb : r.ball < m.b
 case neg =>
  have hb' : decide (r.ball < m.b) = false := decide_eq_false hb
  go_wp2_with fail
  refine bodyPost_end (results_none rfl _ _ _) rfl ?_
  rw [refuseR_no (fun h9 => absurd h9.2 (by omega))]
  exact ⟨⟨_, rfl⟩, p, X, _, KV.out.ext (Below.refl _ _).drew, RD.out.ext E1.out.drew, HC.out, E1.out.drew.mono HBs.out, fun b hb hne h8 => ⟨E1.out.block b hb, by rw [colF_old hb]; exact h8⟩⟩
 have hb' : decide (r.ball < m.b) = true := decide_eq_true hb
 have ct := bt.out.cell 0
 have HB9 := hid hb
 go_wp2_with fail
 refine (implQuiet B g r p X (colF w.heap.size col) _ HG.out (KV.out.ext (Below.refl _ _).drew) HC.out (RD.out.ext E1.out.drew)).mono ?_
 rintro e z ⟨⟨u, rfl⟩, p2, X2, col2, k2, has2, hc2, hb2, ot2⟩
 have TB := ot2 w.heap.size (show w.heap.size < V.heap.size from bt.out.lt) (by have := K0.out.lt; omega) (by rw [colF_new (Nat.le_refl _)]; omega)
 have MB := ot2 (w.heap.size + 1) (show w.heap.size + 1 < V.heap.size from bm.out.lt) (by have := K0.out.lt; omega) (by rw [colF_new (by omega)]; omega)
 have hT0 : RefT w.heap.size #[.pointer (some ⟨g, 0, none⟩), f] (msgV m v) z := ⟨TB.1.trans bt.out, MB.1.trans bm.out⟩
 have B2 := hid (show Below B w z from (E1.out.drew.mono HBs.out).trans hb2)
 have O2 := hid (show ∀ b, b < w.heap.size → b ≠ g → 8 < col b → z.heap[b]? = w.heap[b]? ∧ 8 < col2 b from fun b hlt hne h8 => by
  have q1 := ot2 b (show b < V.heap.size from Nat.lt_of_lt_of_le hlt E1.out.size) hne (by rw [colF_old hlt]; exact h8)
  exact ⟨q1.1.trans (E1.out.drew.block b hlt), q1.2⟩)
 have K2 := hid k2
 have H2 := hid has2
 have C2 := hid hc2
 have cz := k2.cell 6
 have fz := k2.free 6
 have cz' : z.cell? ⟨g, 6, none⟩ = some (.int .i64 r.dp) := cz
 clear ot2 hb2 has2 hc2 k2 TB MB ct cz hb hb'
 by_cases h1 : r.dp < m.b
 ·have HR := hid (show refuseR r m.b = { calmR r with dp := m.b } by rw [refuseR_yes ⟨by rw [HLT.out.1, HLT.out.2]; rfl, HB9.out⟩, riseR_yes (r := calmR r) h1])
  go_wp2_with fail
  refine wp_region_held_drew (S := RefT w.heap.size #[.pointer (some ⟨g, 0, none⟩), f] (msgV m v)) (by kernel_rfl) hT0.drew (fun hHeld => ?_)
  clear hT0
  simp only [qz, Nat.reduceAdd]
  refine planH.go [0, 1, 2, 3, 4, 5, 6, 8, 9] ?_
  iterate 9 (apply planH.take (at_lit rfl) (by kernel_rfl) (by rfl) (fun _ _ _ h => h) hHeld; (· intro w9 hSw; have hq := hSw.bt.cell; have hm := hSw.bm.cell; clear hSw; go_simp; try with_reducible rfl); try simp only [qq])
  refine planH.fin ?_
  refine rdH 7 (by kernel_rfl) (at_lit rfl) (fun K hK => ?_)
  go_simp
  refine hK.out _ _ hHeld (fun hNew => ?_)
  clear hK K hNew
  try simp only [qq]
  refine planH.go [10, 11, 12, 13] ?_
  iterate 4 (apply planH.take (at_lit rfl) (by kernel_rfl) (by rfl) (fun _ _ _ h => h) hHeld; (· intro w9 hSw; have hq := hSw.bt.cell; have hm := hSw.bm.cell; clear hSw; go_simp; try with_reducible rfl); try simp only [qq])
  refine planH.fin ?_
  refine rdH 14 (by kernel_rfl) (at_lit rfl) (fun K hK => ?_)
  go_simp
  refine hK.out _ _ ⟨hHeld.bt.setCell (p := ⟨g, 6, none⟩) (by have := K0.out.lt; simp; omega) _, hHeld.bm.setCell (p := ⟨g, 6, none⟩) (by have := K0.out.lt; simp; omega) _⟩ (fun hNew => ?_)
  clear hK K hNew hHeld
  try simp only [qq]
  refine wpAnyH_done (by kernel_rfl) ?_ _
  go_wp2_with fail
  refine bodyPost_end (results_none rfl _ _ _) rfl ?_
  rw [HR.out]
  exact ⟨⟨_, rfl⟩, p2, X2, col2, blk_eq (K2.out.set (o := 6) (.int .i64 m.b)) (by simp), ((H2.out.setCell (q := ⟨g, 6, none⟩) C2.out (.int .i64 m.b)).ext (Below.refl _ _).drew).like rfl rfl rfl rfl rfl rfl rfl, C2.out, (below_set B2.out HG.out _).drew, fun b hlt hne h8 => ⟨(heap_setCell_other _ ⟨g, 6, none⟩ b _ hne).trans (O2.out b hlt hne h8).1, (O2.out b hlt hne h8).2⟩⟩
 have HR := hid (show refuseR r m.b = (calmR r) by rw [refuseR_yes ⟨by rw [HLT.out.1, HLT.out.2]; rfl, HB9.out⟩, riseR_no (r := calmR r) h1])
 go_wp2_with fail
 refine wp_region_held_drew (S := RefT w.heap.size #[.pointer (some ⟨g, 0, none⟩), f] (msgV m v)) (by kernel_rfl) hT0.drew (fun hHeld => ?_)
 clear hT0
 simp only [qz, Nat.reduceAdd]
 refine planH.go [0, 1, 2, 3, 4, 5, 6, 8, 9] ?_
 iterate 9 (apply planH.take (at_lit rfl) (by kernel_rfl) (by rfl) (fun _ _ _ h => h) hHeld; (· intro w9 hSw; have hq := hSw.bt.cell; have hm := hSw.bm.cell; clear hSw; go_simp; try with_reducible rfl); try simp only [qq])
 refine planH.fin ?_
 refine rdH 7 (by kernel_rfl) (at_lit rfl) (fun K hK => ?_)
 go_simp
 refine hK.out _ _ hHeld (fun hNew => ?_)
 clear hK K hNew
 try simp only [qq]
 refine planH.go [10, 11, 12, 13] ?_
 iterate 4 (apply planH.take (at_lit rfl) (by kernel_rfl) (by rfl) (fun _ _ _ h => h) hHeld; (· intro w9 hSw; have hq := hSw.bt.cell; have hm := hSw.bm.cell; clear hSw; go_simp; try with_reducible rfl); try simp only [qq])
 refine planH.fin ?_
 refine rdH 14 (by kernel_rfl) (at_lit rfl) (fun K hK => ?_)
 go_simp
 refine hK.out _ _ ⟨hHeld.bt.setCell (p := ⟨g, 6, none⟩) (by have := K0.out.lt; simp; omega) _, hHeld.bm.setCell (p := ⟨g, 6, none⟩) (by have := K0.out.lt; simp; omega) _⟩ (fun hNew => ?_)
 clear hK K hNew hHeld
 try simp only [qq]
 refine wpAnyH_done (by kernel_rfl) ?_ _
 go_wp2_with fail
 refine bodyPost_end (results_none rfl _ _ _) rfl ?_
 rw [HR.out]
 exact ⟨⟨_, rfl⟩, p2, X2, col2, blk_eq (K2.out.set (o := 6) (.int .i64 r.dp)) (by simp [calmR]), ((H2.out.setCell (q := ⟨g, 6, none⟩) C2.out (.int .i64 r.dp)).ext (Below.refl _ _).drew).like rfl rfl rfl rfl rfl rfl rfl, C2.out, (below_set B2.out HG.out _).drew, fun b hlt hne h8 => ⟨(heap_setCell_other _ ⟨g, 6, none⟩ b _ hne).trans (O2.out b hlt hne h8).1, (O2.out b hlt hne h8).2⟩⟩
theorem implRefuse_d (B g : Nat) (f : Value) (r : Rc) (p : RcP) (X : RcX) (col : Nat → Nat) (m : MsgH) (v : Value) (w : World) (hg : B ≤ g) (hk : Blk w g (rcV r p) 41) (hc : 8 < col g) (h : RcHas B w r p X col) (hl : r.lead = true) (ht : r.tr = true) :
  Calls Tryz.prog 109 #[.agg #[.pointer (some ⟨g, 0, none⟩), f], .agg (msgV m v)] w fun e w' => (∃ u, e = .returned u) ∧ GPost B g w col (refuseR r m.b) w' := by
 have RD := hid h.fresh
 have HC := hid (show 8 < colF w.heap.size col g by rw [colF_old hk.lt]; exact hc)
 have HG := hid hg
 have K0 := hid hk
 have HBs := hid (show B ≤ w.heap.size from Nat.le_trans hg (Nat.le_of_lt hk.lt))
 obtain ⟨V, hV⟩ : ∃ V, V = (w.alloc (.cells #[.pointer (some ⟨g, 0, none⟩), f] 121)).alloc (.cells (msgV m v) 45) := ⟨_, rfl⟩
 have E1 := hid (show Below w.heap.size w V by rw [hV]; exact ext_alloc (ext_alloc (Below.refl _ _) _) _)
 have bt := hid (show Blk V w.heap.size #[.pointer (some ⟨g, 0, none⟩), f] 121 by rw [hV]; exact (Blk.new _ _ _).alloc _)
 have bm := hid (show Blk V (w.heap.size + 1) (msgV m v) 45 by rw [hV]; exact Blk.new' _ _ (by simp))
 have KV := hid (K0.out.ext E1.out)
 have hK0 : RefS w.heap.size g #[.pointer (some ⟨g, 0, none⟩), f] (msgV m v) true true r.ball V := ⟨bt.out, bm.out, (KV.out.cell 11).trans (show (rcV r p)[11]? = some (.bool true) by rw [← hl]; rfl), (KV.out.cell 12).trans (show (rcV r p)[12]? = some (.bool true) by rw [← ht]; rfl), (KV.out.cell 13).trans rfl⟩
 have HLT := hid (show r.lead = true ∧ r.tr = true from ⟨hl, ht⟩)
 clear h hc hg hk hl ht
 go_enter Tryz.func109, Tryz.ntmps109
 go_wp2_with fail
 rw [← hV]
 clear hV
 refine wp_region_held_drew (S := RefS w.heap.size g #[.pointer (some ⟨g, 0, none⟩), f] (msgV m v) true true r.ball) (by kernel_rfl) hK0.drew (fun hHeld => ?_)
 clear hK0
 simp only [qz, Nat.reduceAdd]
 refine planH.go [0, 1, 2, 3, 4, 5, 6, 7, 8, 9, 10, 11, 12, 13, 14, 15, 16, 17, 18, 19, 20, 21] ?_
 iterate 6 (apply planH.take (at_lit rfl) (by kernel_rfl) (by rfl) (fun _ _ _ h => h) hHeld; (· intro w9 hSw; have hq := hSw.bt.cell; have hm := hSw.bm.cell; have h11 := hSw.c11; have h12 := hSw.c12; have h13 := hSw.c13; clear hSw; go_simp; try with_reducible rfl); try simp only [qq])
 iterate 5 (refine planH.skip (at_lit rfl) (by kernel_rfl) (by rfl) (fun _ _ _ h => h) hHeld ?_; try simp only [qq])
 iterate 11 (apply planH.take (at_lit rfl) (by kernel_rfl) (by rfl) (fun _ _ _ h => h) hHeld; (· intro w9 hSw; have hq := hSw.bt.cell; have hm := hSw.bm.cell; have h11 := hSw.c11; have h12 := hSw.c12; have h13 := hSw.c13; clear hSw; go_simp; try with_reducible rfl); try simp only [qq])
 refine planH.fin ?_
 refine wpAnyH_done (by kernel_rfl) ?_ _
 clear hHeld
 by_cases hb : r.ball < m.b
 case neg =>
  have hb' : decide (r.ball < m.b) = false := decide_eq_false hb
  go_wp2_with fail
  refine bodyPost_end (results_none rfl _ _ _) rfl ?_
  rw [refuseR_no (fun h9 => absurd h9.2 (by omega))]
  exact ⟨⟨_, rfl⟩, p, X, _, KV.out.ext (Below.refl _ _).drew, RD.out.ext E1.out.drew, HC.out, E1.out.drew.mono HBs.out, fun b hb hne h8 => ⟨E1.out.block b hb, by rw [colF_old hb]; exact h8⟩⟩
 have hb' : decide (r.ball < m.b) = true := decide_eq_true hb
 have ct := bt.out.cell 0
 have HB9 := hid hb
 go_wp2_with fail
 refine (implQuiet B g r p X (colF w.heap.size col) _ HG.out (KV.out.ext (Below.refl _ _).drew) HC.out (RD.out.ext E1.out.drew)).mono ?_
 rintro e z ⟨⟨u, rfl⟩, p2, X2, col2, k2, has2, hc2, hb2, ot2⟩
 have TB := ot2 w.heap.size (show w.heap.size < V.heap.size from bt.out.lt) (by have := K0.out.lt; omega) (by rw [colF_new (Nat.le_refl _)]; omega)
 have MB := ot2 (w.heap.size + 1) (show w.heap.size + 1 < V.heap.size from bm.out.lt) (by have := K0.out.lt; omega) (by rw [colF_new (by omega)]; omega)
 have hT0 : RefT w.heap.size #[.pointer (some ⟨g, 0, none⟩), f] (msgV m v) z := ⟨TB.1.trans bt.out, MB.1.trans bm.out⟩
 have B2 := hid (show Below B w z from (E1.out.drew.mono HBs.out).trans hb2)
 have O2 := hid (show ∀ b, b < w.heap.size → b ≠ g → 8 < col b → z.heap[b]? = w.heap[b]? ∧ 8 < col2 b from fun b hlt hne h8 => by
  have q1 := ot2 b (show b < V.heap.size from Nat.lt_of_lt_of_le hlt E1.out.size) hne (by rw [colF_old hlt]; exact h8)
  exact ⟨q1.1.trans (E1.out.drew.block b hlt), q1.2⟩)
 have K2 := hid k2
 have H2 := hid has2
 have C2 := hid hc2
 have cz := k2.cell 6
 have fz := k2.free 6
 have cz' : z.cell? ⟨g, 6, none⟩ = some (.int .i64 r.dp) := cz
 clear ot2 hb2 has2 hc2 k2 TB MB ct cz hb hb'
 by_cases h1 : r.dp < m.b
 ·have HR := hid (show refuseR r m.b = { calmR r with dp := m.b } by rw [refuseR_yes ⟨by rw [HLT.out.1, HLT.out.2]; rfl, HB9.out⟩, riseR_yes (r := calmR r) h1])
  go_wp2_with fail
  refine wp_region_held_drew (S := RefT w.heap.size #[.pointer (some ⟨g, 0, none⟩), f] (msgV m v)) (by kernel_rfl) hT0.drew (fun hHeld => ?_)
  clear hT0
  simp only [qz, Nat.reduceAdd]
  refine planH.go [0, 1, 2, 3, 4, 5, 6, 8, 9] ?_
  iterate 9 (apply planH.take (at_lit rfl) (by kernel_rfl) (by rfl) (fun _ _ _ h => h) hHeld; (· intro w9 hSw; have hq := hSw.bt.cell; have hm := hSw.bm.cell; clear hSw; go_simp; try with_reducible rfl); try simp only [qq])
  refine planH.fin ?_
  refine rdH 7 (by kernel_rfl) (at_lit rfl) (fun K hK => ?_)
  go_simp
  refine hK.out _ _ hHeld (fun hNew => ?_)
  clear hK K hNew
  try simp only [qq]
  refine planH.go [10, 11, 12, 13] ?_
  iterate 4 (apply planH.take (at_lit rfl) (by kernel_rfl) (by rfl) (fun _ _ _ h => h) hHeld; (· intro w9 hSw; have hq := hSw.bt.cell; have hm := hSw.bm.cell; clear hSw; go_simp; try with_reducible rfl); try simp only [qq])
  refine planH.fin ?_
  refine rdH 14 (by kernel_rfl) (at_lit rfl) (fun K hK => ?_)
  go_simp
  refine hK.out _ _ ⟨hHeld.bt.setCell (p := ⟨g, 6, none⟩) (by have := K0.out.lt; simp; omega) _, hHeld.bm.setCell (p := ⟨g, 6, none⟩) (by have := K0.out.lt; simp; omega) _⟩ (fun hNew => ?_)
  clear hK K hNew hHeld
  try simp only [qq]
  refine wpAnyH_done (by kernel_rfl) ?_ _
  go_wp2_with fail
  refine bodyPost_end (results_none rfl _ _ _) rfl ?_
  rw [HR.out]
  exact ⟨⟨_, rfl⟩, p2, X2, col2, blk_eq (K2.out.set (o := 6) (.int .i64 m.b)) (by simp), ((H2.out.setCell (q := ⟨g, 6, none⟩) C2.out (.int .i64 m.b)).ext (Below.refl _ _).drew).like rfl rfl rfl rfl rfl rfl rfl, C2.out, (below_set B2.out HG.out _).drew, fun b hlt hne h8 => ⟨(heap_setCell_other _ ⟨g, 6, none⟩ b _ hne).trans (O2.out b hlt hne h8).1, (O2.out b hlt hne h8).2⟩⟩
 have HR := hid (show refuseR r m.b = (calmR r) by rw [refuseR_yes ⟨by rw [HLT.out.1, HLT.out.2]; rfl, HB9.out⟩, riseR_no (r := calmR r) h1])
 go_wp2_with fail
 refine wp_region_held_drew (S := RefT w.heap.size #[.pointer (some ⟨g, 0, none⟩), f] (msgV m v)) (by kernel_rfl) hT0.drew (fun hHeld => ?_)
 clear hT0
 simp only [qz, Nat.reduceAdd]
 refine planH.go [0, 1, 2, 3, 4, 5, 6, 8, 9] ?_
 iterate 9 (apply planH.take (at_lit rfl) (by kernel_rfl) (by rfl) (fun _ _ _ h => h) hHeld; (· intro w9 hSw; have hq := hSw.bt.cell; have hm := hSw.bm.cell; clear hSw; go_simp; try with_reducible rfl); try simp only [qq])
 refine planH.fin ?_
 refine rdH 7 (by kernel_rfl) (at_lit rfl) (fun K hK => ?_)
 go_simp
 refine hK.out _ _ hHeld (fun hNew => ?_)
 clear hK K hNew
 try simp only [qq]
 refine planH.go [10, 11, 12, 13] ?_
 iterate 4 (apply planH.take (at_lit rfl) (by kernel_rfl) (by rfl) (fun _ _ _ h => h) hHeld; (· intro w9 hSw; have hq := hSw.bt.cell; have hm := hSw.bm.cell; clear hSw; go_simp; try with_reducible rfl); try simp only [qq])
 refine planH.fin ?_
 refine rdH 14 (by kernel_rfl) (at_lit rfl) (fun K hK => ?_)
 go_simp
 refine hK.out _ _ ⟨hHeld.bt.setCell (p := ⟨g, 6, none⟩) (by have := K0.out.lt; simp; omega) _, hHeld.bm.setCell (p := ⟨g, 6, none⟩) (by have := K0.out.lt; simp; omega) _⟩ (fun hNew => ?_)
 clear hK K hNew hHeld
 try simp only [qq]
 refine wpAnyH_done (by kernel_rfl) ?_ _
 go_wp2_with fail
 refine bodyPost_end (results_none rfl _ _ _) rfl ?_
 rw [HR.out]
 exact ⟨⟨_, rfl⟩, p2, X2, col2, blk_eq (K2.out.set (o := 6) (.int .i64 r.dp)) (by simp [calmR]), ((H2.out.setCell (q := ⟨g, 6, none⟩) C2.out (.int .i64 r.dp)).ext (Below.refl _ _).drew).like rfl rfl rfl rfl rfl rfl rfl, C2.out, (below_set B2.out HG.out _).drew, fun b hlt hne h8 => ⟨(heap_setCell_other _ ⟨g, 6, none⟩ b _ hne).trans (O2.out b hlt hne h8).1, (O2.out b hlt hne h8).2⟩⟩
theorem implRefuse_b (B g : Nat) (f : Value) (r : Rc) (p : RcP) (X : RcX) (col : Nat → Nat) (m : MsgH) (v : Value) (w : World) (hg : B ≤ g) (hk : Blk w g (rcV r p) 41) (hc : 8 < col g) (h : RcHas B w r p X col) (hl : r.lead = false) (ht : r.tr = true) :
  Calls Tryz.prog 109 #[.agg #[.pointer (some ⟨g, 0, none⟩), f], .agg (msgV m v)] w fun e w' => (∃ u, e = .returned u) ∧ GPost B g w col (refuseR r m.b) w' := by
 have RD := hid h.fresh
 have HC := hid (show 8 < colF w.heap.size col g by rw [colF_old hk.lt]; exact hc)
 have HG := hid hg
 have K0 := hid hk
 have HBs := hid (show B ≤ w.heap.size from Nat.le_trans hg (Nat.le_of_lt hk.lt))
 obtain ⟨V, hV⟩ : ∃ V, V = (w.alloc (.cells #[.pointer (some ⟨g, 0, none⟩), f] 121)).alloc (.cells (msgV m v) 45) := ⟨_, rfl⟩
 have E1 := hid (show Below w.heap.size w V by rw [hV]; exact ext_alloc (ext_alloc (Below.refl _ _) _) _)
 have bt := hid (show Blk V w.heap.size #[.pointer (some ⟨g, 0, none⟩), f] 121 by rw [hV]; exact (Blk.new _ _ _).alloc _)
 have bm := hid (show Blk V (w.heap.size + 1) (msgV m v) 45 by rw [hV]; exact Blk.new' _ _ (by simp))
 have KV := hid (K0.out.ext E1.out)
 have hK0 : RefS w.heap.size g #[.pointer (some ⟨g, 0, none⟩), f] (msgV m v) false true r.ball V := ⟨bt.out, bm.out, (KV.out.cell 11).trans (show (rcV r p)[11]? = some (.bool false) by rw [← hl]; rfl), (KV.out.cell 12).trans (show (rcV r p)[12]? = some (.bool true) by rw [← ht]; rfl), (KV.out.cell 13).trans rfl⟩
 have HLT := hid (show r.lead = false ∧ r.tr = true from ⟨hl, ht⟩)
 clear h hc hg hk hl ht
 go_enter Tryz.func109, Tryz.ntmps109
 go_wp2_with fail
 rw [← hV]
 clear hV
 refine wp_region_held_drew (S := RefS w.heap.size g #[.pointer (some ⟨g, 0, none⟩), f] (msgV m v) false true r.ball) (by kernel_rfl) hK0.drew (fun hHeld => ?_)
 clear hK0
 simp only [qz, Nat.reduceAdd]
 refine planH.go [0, 1, 2, 3, 4, 5, 6, 7, 8, 9, 10, 11, 12, 13, 14, 15, 16, 17, 18, 19, 20, 21] ?_
 iterate 22 (apply planH.take (at_lit rfl) (by kernel_rfl) (by rfl) (fun _ _ _ h => h) hHeld; (· intro w9 hSw; have hq := hSw.bt.cell; have hm := hSw.bm.cell; have h11 := hSw.c11; have h12 := hSw.c12; have h13 := hSw.c13; clear hSw; go_simp; try with_reducible rfl); try simp only [qq])
 refine planH.fin ?_
 refine wpAnyH_done (by kernel_rfl) ?_ _
 clear hHeld
 by_cases hb : r.ball < m.b
 case neg =>
  have hb' : decide (r.ball < m.b) = false := decide_eq_false hb
  go_wp2_with fail
  refine bodyPost_end (results_none rfl _ _ _) rfl ?_
  rw [refuseR_no (fun h9 => absurd h9.2 (by omega))]
  exact ⟨⟨_, rfl⟩, p, X, _, KV.out.ext (Below.refl _ _).drew, RD.out.ext E1.out.drew, HC.out, E1.out.drew.mono HBs.out, fun b hb hne h8 => ⟨E1.out.block b hb, by rw [colF_old hb]; exact h8⟩⟩
 have hb' : decide (r.ball < m.b) = true := decide_eq_true hb
 have ct := bt.out.cell 0
 have HB9 := hid hb
 go_wp2_with fail
 refine (implQuiet B g r p X (colF w.heap.size col) _ HG.out (KV.out.ext (Below.refl _ _).drew) HC.out (RD.out.ext E1.out.drew)).mono ?_
 rintro e z ⟨⟨u, rfl⟩, p2, X2, col2, k2, has2, hc2, hb2, ot2⟩
 have TB := ot2 w.heap.size (show w.heap.size < V.heap.size from bt.out.lt) (by have := K0.out.lt; omega) (by rw [colF_new (Nat.le_refl _)]; omega)
 have MB := ot2 (w.heap.size + 1) (show w.heap.size + 1 < V.heap.size from bm.out.lt) (by have := K0.out.lt; omega) (by rw [colF_new (by omega)]; omega)
 have hT0 : RefT w.heap.size #[.pointer (some ⟨g, 0, none⟩), f] (msgV m v) z := ⟨TB.1.trans bt.out, MB.1.trans bm.out⟩
 have B2 := hid (show Below B w z from (E1.out.drew.mono HBs.out).trans hb2)
 have O2 := hid (show ∀ b, b < w.heap.size → b ≠ g → 8 < col b → z.heap[b]? = w.heap[b]? ∧ 8 < col2 b from fun b hlt hne h8 => by
  have q1 := ot2 b (show b < V.heap.size from Nat.lt_of_lt_of_le hlt E1.out.size) hne (by rw [colF_old hlt]; exact h8)
  exact ⟨q1.1.trans (E1.out.drew.block b hlt), q1.2⟩)
 have K2 := hid k2
 have H2 := hid has2
 have C2 := hid hc2
 have cz := k2.cell 6
 have fz := k2.free 6
 have cz' : z.cell? ⟨g, 6, none⟩ = some (.int .i64 r.dp) := cz
 clear ot2 hb2 has2 hc2 k2 TB MB ct cz hb hb'
 by_cases h1 : r.dp < m.b
 ·have HR := hid (show refuseR r m.b = { calmR r with dp := m.b } by rw [refuseR_yes ⟨by rw [HLT.out.1, HLT.out.2]; rfl, HB9.out⟩, riseR_yes (r := calmR r) h1])
  go_wp2_with fail
  refine wp_region_held_drew (S := RefT w.heap.size #[.pointer (some ⟨g, 0, none⟩), f] (msgV m v)) (by kernel_rfl) hT0.drew (fun hHeld => ?_)
  clear hT0
  simp only [qz, Nat.reduceAdd]
  refine planH.go [0, 1, 2, 3, 4, 5, 6, 8, 9] ?_
  iterate 9 (apply planH.take (at_lit rfl) (by kernel_rfl) (by rfl) (fun _ _ _ h => h) hHeld; (· intro w9 hSw; have hq := hSw.bt.cell; have hm := hSw.bm.cell; clear hSw; go_simp; try with_reducible rfl); try simp only [qq])
  refine planH.fin ?_
  refine rdH 7 (by kernel_rfl) (at_lit rfl) (fun K hK => ?_)
  go_simp
  refine hK.out _ _ hHeld (fun hNew => ?_)
  clear hK K hNew
  try simp only [qq]
  refine planH.go [10, 11, 12, 13] ?_
  iterate 4 (apply planH.take (at_lit rfl) (by kernel_rfl) (by rfl) (fun _ _ _ h => h) hHeld; (· intro w9 hSw; have hq := hSw.bt.cell; have hm := hSw.bm.cell; clear hSw; go_simp; try with_reducible rfl); try simp only [qq])
  refine planH.fin ?_
  refine rdH 14 (by kernel_rfl) (at_lit rfl) (fun K hK => ?_)
  go_simp
  refine hK.out _ _ ⟨hHeld.bt.setCell (p := ⟨g, 6, none⟩) (by have := K0.out.lt; simp; omega) _, hHeld.bm.setCell (p := ⟨g, 6, none⟩) (by have := K0.out.lt; simp; omega) _⟩ (fun hNew => ?_)
  clear hK K hNew hHeld
  try simp only [qq]
  refine wpAnyH_done (by kernel_rfl) ?_ _
  go_wp2_with fail
  refine bodyPost_end (results_none rfl _ _ _) rfl ?_
  rw [HR.out]
  exact ⟨⟨_, rfl⟩, p2, X2, col2, blk_eq (K2.out.set (o := 6) (.int .i64 m.b)) (by simp), ((H2.out.setCell (q := ⟨g, 6, none⟩) C2.out (.int .i64 m.b)).ext (Below.refl _ _).drew).like rfl rfl rfl rfl rfl rfl rfl, C2.out, (below_set B2.out HG.out _).drew, fun b hlt hne h8 => ⟨(heap_setCell_other _ ⟨g, 6, none⟩ b _ hne).trans (O2.out b hlt hne h8).1, (O2.out b hlt hne h8).2⟩⟩
 have HR := hid (show refuseR r m.b = (calmR r) by rw [refuseR_yes ⟨by rw [HLT.out.1, HLT.out.2]; rfl, HB9.out⟩, riseR_no (r := calmR r) h1])
 go_wp2_with fail
 refine wp_region_held_drew (S := RefT w.heap.size #[.pointer (some ⟨g, 0, none⟩), f] (msgV m v)) (by kernel_rfl) hT0.drew (fun hHeld => ?_)
 clear hT0
 simp only [qz, Nat.reduceAdd]
 refine planH.go [0, 1, 2, 3, 4, 5, 6, 8, 9] ?_
 iterate 9 (apply planH.take (at_lit rfl) (by kernel_rfl) (by rfl) (fun _ _ _ h => h) hHeld; (· intro w9 hSw; have hq := hSw.bt.cell; have hm := hSw.bm.cell; clear hSw; go_simp; try with_reducible rfl); try simp only [qq])
 refine planH.fin ?_
 refine rdH 7 (by kernel_rfl) (at_lit rfl) (fun K hK => ?_)
 go_simp
 refine hK.out _ _ hHeld (fun hNew => ?_)
 clear hK K hNew
 try simp only [qq]
 refine planH.go [10, 11, 12, 13] ?_
 iterate 4 (apply planH.take (at_lit rfl) (by kernel_rfl) (by rfl) (fun _ _ _ h => h) hHeld; (· intro w9 hSw; have hq := hSw.bt.cell; have hm := hSw.bm.cell; clear hSw; go_simp; try with_reducible rfl); try simp only [qq])
 refine planH.fin ?_
 refine rdH 14 (by kernel_rfl) (at_lit rfl) (fun K hK => ?_)
 go_simp
 refine hK.out _ _ ⟨hHeld.bt.setCell (p := ⟨g, 6, none⟩) (by have := K0.out.lt; simp; omega) _, hHeld.bm.setCell (p := ⟨g, 6, none⟩) (by have := K0.out.lt; simp; omega) _⟩ (fun hNew => ?_)
 clear hK K hNew hHeld
 try simp only [qq]
 refine wpAnyH_done (by kernel_rfl) ?_ _
 go_wp2_with fail
 refine bodyPost_end (results_none rfl _ _ _) rfl ?_
 rw [HR.out]
 exact ⟨⟨_, rfl⟩, p2, X2, col2, blk_eq (K2.out.set (o := 6) (.int .i64 r.dp)) (by simp [calmR]), ((H2.out.setCell (q := ⟨g, 6, none⟩) C2.out (.int .i64 r.dp)).ext (Below.refl _ _).drew).like rfl rfl rfl rfl rfl rfl rfl, C2.out, (below_set B2.out HG.out _).drew, fun b hlt hne h8 => ⟨(heap_setCell_other _ ⟨g, 6, none⟩ b _ hne).trans (O2.out b hlt hne h8).1, (O2.out b hlt hne h8).2⟩⟩
theorem implRefuse (B g : Nat) (f : Value) (r : Rc) (p : RcP) (X : RcX) (col : Nat → Nat) (m : MsgH) (v : Value) (w : World) (hg : B ≤ g) (hk : Blk w g (rcV r p) 41) (hc : 8 < col g) (h : RcHas B w r p X col) :
  Calls Tryz.prog 109 #[.agg #[.pointer (some ⟨g, 0, none⟩), f], .agg (msgV m v)] w fun e w' => (∃ u, e = .returned u) ∧ GPost B g w col (refuseR r m.b) w' := by
 cases hl : r.lead
 ·cases ht : r.tr
  ·exact implRefuse_c B g f r p X col m v w hg hk hc h hl ht
  exact implRefuse_b B g f r p X col m v w hg hk hc h hl ht
 cases ht : r.tr
 ·exact implRefuse_a B g f r p X col m v w hg hk hc h hl ht
 exact implRefuse_d B g f r p X col m v w hg hk hc h hl ht
end Go.Proofs.YtffklmlljekceaaGreat
