import Derived.Test.YtffklmlljekceaaGreatQ22
namespace Go.Proofs.YtffklmlljekceaaGreat
open Go.ChangeShapes Go.WideShapes Go.ChangeAt Go.RowKit
set_option linter.unusedSimpArgs false
set_option linter.unusedVariables false
set_option maxHeartbeats 16000000
set_option maxRecDepth 20000
structure HoldS (pb g mb : Nat) (c : Array Value) (w' : World) : Prop where
 bp : Blk w' pb #[.pointer (some ⟨g, 0, none⟩)] 74
 bm : Blk w' mb c 45
theorem HoldS.drew {pb g mb : Nat} {c : Array Value} {w' : World} (h : HoldS pb g mb c w') : HoldS pb g mb c w'.drew := ⟨h.bp, h.bm⟩
def HPost (B g : Nat) (w : World) (col : Nat → Nat) (p : RcP) (r' : Rc) (w' : World) : Prop := ∃ p' X' col', Blk w' g (rcV r' p') 41 ∧ RcHas B w' r' p' X' col' ∧ 8 < col' g ∧ Below B w w' ∧ (∀ b, b < w.heap.size → b ≠ g → 8 < col b → w'.heap[b]? = w.heap[b]? ∧ 8 < col' b) ∧ p'.aW = p.aW ∧ p'.cW = p.cW
theorem implHoldW (B g pb : Nat) (r : Rc) (p : RcP) (X : RcX) (col : Nat → Nat) (m : MsgH) (a : Option Addr) (l : List Sl) (c : Nat) (w : World) (hg : B ≤ g) (hk : Blk w g (rcV r p) 41) (hc : 8 < col g) (hp : Blk w pb #[.pointer (some ⟨g, 0, none⟩)] 74) (hpc : 8 < col pb) (hpg : pb ≠ g) (h : RcHas B w r p X col) (hrow : RowC B w col 7 108 2 a l.length c (flat l)) (hfar : ∀ q ∈ X.H, ∀ x x', q.2.1 = some x → a = some x' → x.block ≠ x'.block) (hx : m.x.size ≤ maxLen) (hsl : GoodSlots l) :
  Calls Tryz.prog 133 #[.agg (msgV m (.slice a l.length c)), .pointer (some ⟨pb, 0, none⟩)] w fun e w' => (∃ v, e = .returned v) ∧ HPost B g w col p (holdR r m l) w' := by
 obtain ⟨aS, cS, aD, cD, aH, cH, aW, cW, aY, cY, aB, cB, aA, cA⟩ := p
 have RD := hid h.fresh
 have HC := hid hc
 have HP := hid hpc
 have HG := hid hg
 have HPG := hid hpg
 have KLT := hid hk.lt
 have PLT := hid hp.lt
 have K0 := hid hk
 have HL := hid (show X.H.length = r.held.length by rw [← h.hm, List.length_map])
 have HBs := hid (show B ≤ w.heap.size from Nat.le_trans hg (Nat.le_of_lt hk.lt))
 have HIN0 := hid (show ∀ u ∈ X.H ++ [((({ m with f := r.num }, l), a, c) : Mp)], RowC B w (colF w.heap.size col) 7 108 2 u.2.1 u.1.2.length u.2.2 (flat u.1.2) from fun u hu => by
  rcases List.mem_append.1 hu with hu | hu
  ·exact RD.out.hi.row u hu
  simp only [List.mem_cons, List.not_mem_nil, or_false] at hu
  subst hu
  exact hrow.recol (fun b hb => colF_old hb))
 have HAP := hid (show (X.H ++ [((({ m with f := r.num }, l), a, c) : Mp)]).Pairwise (fun m m' => ∀ x x', m.2.1 = some x → m'.2.1 = some x' → x.block ≠ x'.block) by
  rw [List.pairwise_append]
  refine ⟨h.hi.apart, List.pairwise_singleton _ _, fun u hu v hv x x' hx hx' => ?_⟩
  simp only [List.mem_cons, List.not_mem_nil, or_false] at hv
  subst hv
  exact hfar u hu x x' hx hx')
 have HGD := hid (show MsgsGood ((X.H ++ [((({ m with f := r.num }, l), a, c) : Mp)]).map (·.1)) from fun i s hs => by
  rw [List.map_append, h.hm] at hs
  rcases Nat.lt_or_ge i r.held.length with hi | hi
  ·rw [List.getElem?_append_left hi] at hs; exact h.gd.h i s hs
  rw [List.getElem?_append_right hi] at hs
  have h9 := List.mem_of_getElem? hs
  simp only [List.map_cons, List.map_nil, List.mem_cons, List.not_mem_nil, or_false] at h9
  subst h9
  exact ⟨hx, hrow.len.1, hsl⟩)
 clear h hrow hfar hx hsl
 by_cases h1 : (r.held.length : Int) < 400
 ·have HH := hid (holdR_yes (m := m) (l := l) h1)
  have cp := (hp.alloc (.cells (msgV m (.slice a l.length c)) 45)).cell
  have cg := (hk.alloc (.cells (msgV m (.slice a l.length c)) 45)).cell
  have cp1 := (hp.alloc (.cells (msgV { m with f := r.num } (.slice a l.length c)) 45)).cell
  have cg1 := (hk.alloc (.cells (msgV { m with f := r.num } (.slice a l.length c)) 45)).cell
  have cg2 := ((hk.alloc (.cells (msgV { m with f := r.num } (.slice a l.length c)) 45)).alloc (.cells (msgV { m with f := r.num } (.slice a l.length c)) 45)).cell
  obtain ⟨Z, hZ⟩ : ∃ v, v = ((w.alloc (.cells #[.int .i64 m.k, .int .i64 r.num, .int .i64 m.t, .int .i64 m.b, .int .i64 m.i, .int .i64 m.n, .string m.x, .slice a l.length c] 45)).alloc (.cells #[.int .i64 m.k, .int .i64 r.num, .int .i64 m.t, .int .i64 m.b, .int .i64 m.i, .int .i64 m.n, .string m.x, .slice a l.length c] 45)).drew := ⟨_, rfl⟩
  have EZ := hid (show Below w.heap.size w Z by rw [hZ]; exact (ext_alloc (ext_alloc (Below.refl _ _) _) _).drew)
  have KZ := hid (show Blk Z g (rcV r ⟨aS, cS, aD, cD, aH, cH, aW, cW, aY, cY, aB, cB, aA, cA⟩) 41 from K0.out.ext EZ.out)
  have HZ := hid (RD.out.ext EZ.out)
  have BZ := hid (EZ.out.mono HBs.out)
  have ZB := hid (show B ≤ Z.heap.size from Nat.le_trans HBs.out EZ.out.size)
  have OW := hid HZ.out.h.own
  have HIN := hid (fun u hu => (HIN0.out u hu).ext EZ.out)
  have DNE := hid (show ∀ b, 8 < colF w.heap.size col b → some b ≠ (Value.slice aH r.held.length cH).ownBlock from fun b h8 e => by
   cases hs : aH with
   | none => rw [hs] at e; simp [Value.ownBlock] at e
   | some y =>
    rw [hs] at e
    simp only [Value.ownBlock, Option.some.injEq] at e
    have h7 := RD.out.h.col y hs
    rw [← e] at h7
    omega)
  have DB := hid (show ∀ j, (Value.slice aH r.held.length cH).ownBlock = some j → B ≤ j from fun j hj => (RD.out.h.own.lt j hj).1)
  have NEWS := hid (show ReadAt Z (some ⟨w.heap.size + 1, 0, none⟩) 1 1 8 (cellsM ((({ m with f := r.num }, l), a, c) : Mp)) from
   ⟨rfl, fun e => by simp at e, fun x hx => by
    simp only [Option.some.injEq] at hx
    subst hx
    exact ⟨rfl, by rw [hZ]; exact blk_news (cs := (msgV { m with f := r.num } (.slice a l.length c)).toList) (show Blk ((w.alloc (.cells #[.int .i64 m.k, .int .i64 r.num, .int .i64 m.t, .int .i64 m.b, .int .i64 m.i, .int .i64 m.n, .string m.x, .slice a l.length c] 45)).alloc (.cells #[.int .i64 m.k, .int .i64 r.num, .int .i64 m.t, .int .i64 m.b, .int .i64 m.i, .int .i64 m.n, .string m.x, .slice a l.length c] 45)) (w.heap.size + 1) (msgV { m with f := r.num } (.slice a l.length c)) 45 from Blk.new' _ _ (by simp))⟩⟩)
  have hK0 : HoldS pb g w.heap.size (msgV { m with f := r.num } (.slice a l.length c)) (w.alloc (.cells (msgV { m with f := r.num } (.slice a l.length c)) 45)) := ⟨hp.alloc _, Blk.new _ _ _⟩
  clear hk hp hc hpc hpg hg
  go_enter Tryz.func133, Tryz.ntmps133
  go_wp2_with fail
  refine wp_region_held_drew (S := HoldS pb g w.heap.size (msgV { m with f := r.num } (.slice a l.length c))) (by kernel_rfl) hK0.drew (fun hHeld => ?_)
  clear hK0
  simp only [qz, Nat.reduceAdd]
  refine planH.go [0, 1, 2, 3, 5] ?_
  iterate 5 (apply planH.take (at_lit rfl) (by kernel_rfl) (by rfl) (fun _ _ _ h => h) hHeld; (· intro w9 hSw; have hq := hSw.bp.cell; have hm := hSw.bm.cell; clear hSw; go_simp; try with_reducible rfl); try simp only [qq])
  refine planH.fin ?_
  refine wpAnyH_ready (rs := [4, 6]) (by kernel_rfl) (by simp) ?_
  refine AllReadyH.cons (at_lit rfl) (fun K hK => ?_) (AllReadyH.cons (at_lit rfl) (fun K hK => ?_) AllReadyH.nil)
  ·go_simp
   refine hK.out _ _ hHeld (fun hNew => ?_)
   clear hK K hHeld
   have hHeld := hNew
   clear hNew
   try simp only [qq]
   refine rdH 6 (by kernel_rfl) (at_lit rfl) (fun K hK => ?_)
   go_simp
   refine hK.out _ _ ⟨hHeld.bp.alloc _, hHeld.bm.alloc _⟩ (fun hNew => ?_)
   clear hK K hHeld
   have hHeld := hNew
   clear hNew
   try simp only [qq]
   rw [← hZ] at hHeld ⊢
   refine rdH 7 (by kernel_rfl) (at_lit rfl) (fun K hK => ?_)
   rw [if_pos (by rfl)]
   refine wp_appM B aH r.held.length cH (flatM X.H) (some ⟨w.heap.size + 1, 0, none⟩) 1 1 (cellsM ((({ m with f := r.num }, l), a, c) : Mp)) rfl rfl OW.out NEWS.out (fun u hu => by simp [cellsM] at hu; rcases hu with rfl | rfl | rfl | rfl | rfl | rfl | rfl | rfl <;> rfl) (by omega) ZB.out ?_
   intro a' c' w2 q1 q2 q3
   have KB := hid (show ∀ b C T, Blk Z b C T → 8 < colF w.heap.size col b → Blk w2 b C T from fun b C T hb h8 => (q2.block b hb.lt (DNE.out b h8)).trans hb)
   have HAS := hid (RcHas.grow_h HZ.out (l := X.H ++ [((({ m with f := r.num }, l), a, c) : Mp)]) q2 (by rw [show (X.H ++ [((({ m with f := r.num }, l), a, c) : Mp)]).length = r.held.length + 1 by (rw [List.length_append, HL.out]; rfl), show flatM (X.H ++ [((({ m with f := r.num }, l), a, c) : Mp)]) = flatM X.H ++ cellsM ((({ m with f := r.num }, l), a, c) : Mp) by simp [flatM]]; exact q1) q3 HIN.out HAP.out HGD.out)
   have B3 := hid (below_grow BZ.out q2 DB.out ZB.out)
   have NC := hid (show ∀ b, b < Z.heap.size → 8 < colF w.heap.size col b → 8 < colN a' 2 (colF w.heap.size col) b from fun b hb hc => by
    rw [colN_else (fun x hx he => by
     rcases q3 x hx with ⟨y, hy, hyx⟩ | hnew
     ·have h9 := HZ.out.h.col y hy
      rw [hyx, he] at h9
      omega
     omega)]
    exact hc)
   have OB := hid (show ∀ b, b < w.heap.size → 8 < col b → w2.heap[b]? = w.heap[b]? ∧ 8 < colN a' 2 (colF w.heap.size col) b from fun b hb h8 => by
    have h9 : 8 < colF w.heap.size col b := by rw [colF_old hb]; exact h8
    have h7 := EZ.out.size
    exact ⟨(q2.block b (by omega) (DNE.out b h9)).trans (EZ.out.block b hb), NC.out b (by omega) h9⟩)
   clear q1 q2 q3
   have K2 := hid (KB.out _ _ _ KZ.out (by rw [colF_old KLT.out]; exact HC.out))
   refine hK.out _ _ ⟨KB.out _ _ _ hHeld.bp (by rw [colF_old PLT.out]; exact HP.out), KB.out _ _ _ hHeld.bm (by rw [colF_new (Nat.le_refl _)]; omega)⟩ (fun hNew => ?_)
   clear hK K hHeld
   have hHeld := hNew
   clear hNew
   try simp only [qq]
   refine planH.go [8, 9] ?_
   iterate 2 (apply planH.take (at_lit rfl) (by kernel_rfl) (by rfl) (fun _ _ _ h => h) hHeld; (· intro w9 hSw; have hq := hSw.bp.cell; have hm := hSw.bm.cell; clear hSw; go_simp; try with_reducible rfl); try simp only [qq])
   refine planH.fin ?_
   have cK := K2.out.cell
   have fK := K2.out.free
   refine rdH 10 (by kernel_rfl) (at_lit rfl) (fun K hK => ?_)
   go_simp
   refine hK.out _ _ ⟨hHeld.bp.setCell HPG.out _, hHeld.bm.setCell (by have := KLT.out; simp; omega) _⟩ (fun hNew => ?_)
   clear hK K hHeld
   have hHeld := hNew
   clear hNew
   try simp only [qq]
   refine wpAnyH_done (by kernel_rfl) ?_ _
   clear hHeld cK fK
   go_wp2_with fail
   refine bodyPost_end (results_none rfl _ _ _) rfl ?_
   have HAS2 : RcHas B w2 { r with held := r.held ++ [({ m with f := r.num }, l)] } ⟨aS, cS, aD, cD, a', c', aW, cW, aY, cY, aB, cB, aA, cA⟩ ⟨X.H ++ [((({ m with f := r.num }, l), a, c) : Mp)], X.A⟩ (colN a' 2 (colF w.heap.size col)) := by
    have h9 := HAS.out
    rw [List.map_append, RD.out.hm] at h9
    exact h9
   rw [HH.out]
   have g8 := NC.out g (by have := EZ.out.size; have := KLT.out; omega) (by rw [colF_old KLT.out]; exact HC.out)
   exact ⟨⟨_, rfl⟩, ⟨aS, cS, aD, cD, a', c', aW, cW, aY, cY, aB, cB, aA, cA⟩, _, _, blk_eq (K2.out.set (o := 9) (.slice a' (r.held.length + 1) c')) (by simp), HAS2.setCell (q := ⟨g, 9, none⟩) g8 _, g8, below_set B3.out HG.out _, fun b hb hne h8 => ⟨(heap_setCell_other _ ⟨g, 9, none⟩ b _ hne).trans (OB.out b hb h8).1, (OB.out b hb h8).2⟩, rfl, rfl⟩
  go_simp
  refine hK.out _ _ ⟨hHeld.bp.alloc _, hHeld.bm.alloc _⟩ (fun hNew => ?_)
  clear hK K hHeld
  have hHeld := hNew
  clear hNew
  try simp only [qq]
  refine rdH 4 (by kernel_rfl) (at_lit rfl) (fun K hK => ?_)
  go_simp
  refine hK.out _ _ hHeld (fun hNew => ?_)
  clear hK K hHeld
  have hHeld := hNew
  clear hNew
  try simp only [qq]
  rw [← hZ] at hHeld ⊢
  refine rdH 7 (by kernel_rfl) (at_lit rfl) (fun K hK => ?_)
  rw [if_pos (by rfl)]
  refine wp_appM B aH r.held.length cH (flatM X.H) (some ⟨w.heap.size + 1, 0, none⟩) 1 1 (cellsM ((({ m with f := r.num }, l), a, c) : Mp)) rfl rfl OW.out NEWS.out (fun u hu => by simp [cellsM] at hu; rcases hu with rfl | rfl | rfl | rfl | rfl | rfl | rfl | rfl <;> rfl) (by omega) ZB.out ?_
  intro a' c' w2 q1 q2 q3
  have KB := hid (show ∀ b C T, Blk Z b C T → 8 < colF w.heap.size col b → Blk w2 b C T from fun b C T hb h8 => (q2.block b hb.lt (DNE.out b h8)).trans hb)
  have HAS := hid (RcHas.grow_h HZ.out (l := X.H ++ [((({ m with f := r.num }, l), a, c) : Mp)]) q2 (by rw [show (X.H ++ [((({ m with f := r.num }, l), a, c) : Mp)]).length = r.held.length + 1 by (rw [List.length_append, HL.out]; rfl), show flatM (X.H ++ [((({ m with f := r.num }, l), a, c) : Mp)]) = flatM X.H ++ cellsM ((({ m with f := r.num }, l), a, c) : Mp) by simp [flatM]]; exact q1) q3 HIN.out HAP.out HGD.out)
  have B3 := hid (below_grow BZ.out q2 DB.out ZB.out)
  have NC := hid (show ∀ b, b < Z.heap.size → 8 < colF w.heap.size col b → 8 < colN a' 2 (colF w.heap.size col) b from fun b hb hc => by
   rw [colN_else (fun x hx he => by
    rcases q3 x hx with ⟨y, hy, hyx⟩ | hnew
    ·have h9 := HZ.out.h.col y hy
     rw [hyx, he] at h9
     omega
    omega)]
   exact hc)
  have OB := hid (show ∀ b, b < w.heap.size → 8 < col b → w2.heap[b]? = w.heap[b]? ∧ 8 < colN a' 2 (colF w.heap.size col) b from fun b hb h8 => by
   have h9 : 8 < colF w.heap.size col b := by rw [colF_old hb]; exact h8
   have h7 := EZ.out.size
   exact ⟨(q2.block b (by omega) (DNE.out b h9)).trans (EZ.out.block b hb), NC.out b (by omega) h9⟩)
  clear q1 q2 q3
  have K2 := hid (KB.out _ _ _ KZ.out (by rw [colF_old KLT.out]; exact HC.out))
  refine hK.out _ _ ⟨KB.out _ _ _ hHeld.bp (by rw [colF_old PLT.out]; exact HP.out), KB.out _ _ _ hHeld.bm (by rw [colF_new (Nat.le_refl _)]; omega)⟩ (fun hNew => ?_)
  clear hK K hHeld
  have hHeld := hNew
  clear hNew
  try simp only [qq]
  refine planH.go [8, 9] ?_
  iterate 2 (apply planH.take (at_lit rfl) (by kernel_rfl) (by rfl) (fun _ _ _ h => h) hHeld; (· intro w9 hSw; have hq := hSw.bp.cell; have hm := hSw.bm.cell; clear hSw; go_simp; try with_reducible rfl); try simp only [qq])
  refine planH.fin ?_
  have cK := K2.out.cell
  have fK := K2.out.free
  refine rdH 10 (by kernel_rfl) (at_lit rfl) (fun K hK => ?_)
  go_simp
  refine hK.out _ _ ⟨hHeld.bp.setCell HPG.out _, hHeld.bm.setCell (by have := KLT.out; simp; omega) _⟩ (fun hNew => ?_)
  clear hK K hHeld
  have hHeld := hNew
  clear hNew
  try simp only [qq]
  refine wpAnyH_done (by kernel_rfl) ?_ _
  clear hHeld cK fK
  go_wp2_with fail
  refine bodyPost_end (results_none rfl _ _ _) rfl ?_
  have HAS2 : RcHas B w2 { r with held := r.held ++ [({ m with f := r.num }, l)] } ⟨aS, cS, aD, cD, a', c', aW, cW, aY, cY, aB, cB, aA, cA⟩ ⟨X.H ++ [((({ m with f := r.num }, l), a, c) : Mp)], X.A⟩ (colN a' 2 (colF w.heap.size col)) := by
   have h9 := HAS.out
   rw [List.map_append, RD.out.hm] at h9
   exact h9
  rw [HH.out]
  have g8 := NC.out g (by have := EZ.out.size; have := KLT.out; omega) (by rw [colF_old KLT.out]; exact HC.out)
  exact ⟨⟨_, rfl⟩, ⟨aS, cS, aD, cD, a', c', aW, cW, aY, cY, aB, cB, aA, cA⟩, _, _, blk_eq (K2.out.set (o := 9) (.slice a' (r.held.length + 1) c')) (by simp), HAS2.setCell (q := ⟨g, 9, none⟩) g8 _, g8, below_set B3.out HG.out _, fun b hb hne h8 => ⟨(heap_setCell_other _ ⟨g, 9, none⟩ b _ hne).trans (OB.out b hb h8).1, (OB.out b hb h8).2⟩, rfl, rfl⟩
 have HH := hid (holdR_no (m := m) (l := l) h1)
 have cp := (hp.alloc (.cells (msgV m (.slice a l.length c)) 45)).cell
 have cg := (hk.alloc (.cells (msgV m (.slice a l.length c)) 45)).cell
 have E1 := hid (show Below w.heap.size w (w.alloc (.cells (msgV m (.slice a l.length c)) 45)) from ext_alloc (Below.refl _ _) _)
 go_enter Tryz.func133, Tryz.ntmps133
 go_wp2_with fail
 refine bodyPost_end (results_none rfl _ _ _) rfl ?_
 rw [HH.out]
 exact ⟨⟨_, rfl⟩, ⟨aS, cS, aD, cD, aH, cH, aW, cW, aY, cY, aB, cB, aA, cA⟩, X, _, K0.out.ext E1.out, RD.out.ext E1.out, by rw [colF_old KLT.out]; exact HC.out, E1.out.mono HBs.out, fun b hb hne h8 => ⟨E1.out.block b hb, by rw [colF_old hb]; exact h8⟩, rfl, rfl⟩
theorem implHold1 (B g pb : Nat) (r : Rc) (p : RcP) (X : RcX) (col : Nat → Nat) (m : MsgH) (a : Option Addr) (l : List Sl) (c : Nat) (w : World) (hg : B ≤ g) (hk : Blk w g (rcV r p) 41) (hc : 8 < col g) (hp : Blk w pb #[.pointer (some ⟨g, 0, none⟩)] 74) (hpc : 8 < col pb) (hpg : pb ≠ g) (h : RcHas B w r p X col) (hrow : RowC B w col 7 108 2 a l.length c (flat l)) (hfar : ∀ q ∈ X.H, ∀ x x', q.2.1 = some x → a = some x' → x.block ≠ x'.block) (hx : m.x.size ≤ maxLen) (hsl : GoodSlots l) :
  Calls Tryz.prog 133 #[.agg (msgV m (.slice a l.length c)), .pointer (some ⟨pb, 0, none⟩)] w fun e w' => (∃ v, e = .returned v) ∧ GPost B g w col (holdR r m l) w' :=
 (implHoldW B g pb r p X col m a l c w hg hk hc hp hpc hpg h hrow hfar hx hsl).mono fun e w' ⟨hv, p', X', col', q1, q2, q3, q4, q5, _⟩ => ⟨hv, p', X', col', q1, q2, q3, q4, q5⟩
structure PutS (B : Nat) (w : World) (col : Nat → Nat) (r : Rc) (X : RcX) (s : Sl) (g sb : Nat) (L : List Sl) (p' : RcP) (col' : Nat → Nat) (w' : World) : Prop where
 k : Blk w' g (rcV { r with ds := L } p') 41
 s : Blk w' sb #[.int .i64 s.1, .string s.2] 108
 has : RcHas B w' { r with ds := L } p' X col'
 c0 : 8 < col' g
 c1 : 8 < col' sb
 bel : Below B w w'
 oth : ∀ b, b < w.heap.size → b ≠ g → 8 < col b → w'.heap[b]? = w.heap[b]? ∧ 8 < col' b
def PutI (B : Nat) (w : World) (col : Nat → Nat) (r : Rc) (X : RcX) (s : Sl) (g sb q : Nat) (wr : World) : Prop := ∃ (j : Nat) (L : List Sl) (p' : RcP) (col' : Nat → Nat), L = r.ds ++ List.replicate j (0, ⟨#[]⟩) ∧ (j = 0 ∨ L.length ≤ q + 1) ∧ PutS B w col r X s g sb L p' col' wr
theorem PutS.len {B : Nat} {w : World} {col : Nat → Nat} {r : Rc} {X : RcX} {s : Sl} {g sb : Nat} {L : List Sl} {p' : RcP} {col' : Nat → Nat} {w' : World} (h : PutS B w col r X s g sb L p' col' w') : slLen w' g = L.length := by
 unfold slLen
 rw [h.k.cell 8]
 rfl
structure PutH (g sb : Nat) (c c2 : Array Value) (w' : World) : Prop where
 bg : Blk w' g c 41
 bs : Blk w' sb c2 108
theorem PutH.drew {g sb : Nat} {c c2 : Array Value} {w' : World} (h : PutH g sb c c2 w') : PutH g sb c c2 w'.drew := ⟨h.bg, h.bs⟩
theorem implPut (B g : Nat) (r : Rc) (p : RcP) (X : RcX) (col : Nat → Nat) (q : Nat) (s : Sl) (w : World) (hg : B ≤ g) (hk : Blk w g (rcV r p) 41) (hc : 8 < col g) (hq : q ≤ 1048576) (hd : r.ds.length ≤ 1048576) (hs : s.2.size ≤ maxLen ∧ (Lit.int .i64 s.1).wf = true) (h : RcHas B w r p X col) :
  Calls Tryz.prog 137 #[.pointer (some ⟨g, 6, none⟩), .int .i64 ((q + 1 : Nat) : Int), .agg #[.int .i64 s.1, .string s.2]] w fun e w' => (∃ v, e = .returned v) ∧ GPost B g w col (setR r (q + 1) s) w' := by
 have HB := hid (show B ≤ w.heap.size from Nat.le_trans hg (Nat.le_of_lt hk.lt))
 have HG := hid hg
 have KLT := hid hk.lt
 have HSg := hid hs
 have BV := hid (show Below w.heap.size w (w.alloc (.cells #[.int .i64 s.1, .string s.2] 108)) from ext_alloc (Below.refl _ _) _)
 have S0 := hid (show PutS B w col r X s g w.heap.size r.ds p (colF w.heap.size col) (w.alloc (.cells #[.int .i64 s.1, .string s.2] 108)) from
  ⟨hk.alloc _, Blk.new _ _ _, h.fresh.ext BV.out, by rw [colF_old hk.lt]; exact hc, by rw [colF_new (Nat.le_refl _)]; omega, BV.out.mono HB.out, fun b hb _ h8 => ⟨BV.out.block b hb, by rw [colF_old hb]; exact h8⟩⟩)
 clear h hs hg hk hc
 go_enter Tryz.func137, Tryz.ntmps137
 go_wp2_with fail
 go_loopw [] (fun wr => PutI B w col r X s g w.heap.size q wr) (fun wr => q + 1 - slLen wr g)
 case atStart => exact ⟨0, r.ds, p, _, by simp, .inl rfl, S0.out⟩
 obtain ⟨j, L, p', col', hL, hj, hss⟩ := hrel
 have SS := hid hss
 have HL := hid hL
 have LB : L.length ≤ 1048577 := by
  rcases hj with rfl | hj
  ·rw [hL]; simp; omega
  omega
 clear hss hL
 obtain ⟨aS, cS, aD, cD, aH, cH, aW, cW, aY, cY, aB, cB, aA, cA⟩ := p'
 have cK := SS.out.k.cell
 have fK := SS.out.k.free
 have DNE := hid (show ∀ b, 8 < col' b → some b ≠ (Value.slice aD L.length cD).ownBlock from fun b h8 e => by
  cases hs : aD with
  | none => rw [hs] at e; simp [Value.ownBlock] at e
  | some y =>
   rw [hs] at e
   simp only [Value.ownBlock, Option.some.injEq] at e
   have h7 := SS.out.has.d.col y hs
   rw [← e] at h7
   omega)
 by_cases hlt : L.length < q + 1
 ·have OW := hid ((SS.out.has.ext (ext_alloc (Below.refl _ _) (.cells #[.int .i64 0, .string ⟨#[]⟩] 108))).d.own)
  have DB := hid (show ∀ j, (Value.slice aD L.length cD).ownBlock = some j → B ≤ j from fun j hj => (SS.out.has.d.own.lt j hj).1)
  have HGD := hid (goodS_snoc SS.out.has.gd.d (s := (0, ⟨#[]⟩)) ⟨Nat.zero_le _, by decide⟩)
  have NEWS := hid (show ReadAt (wr.alloc (.cells #[.int .i64 0, .string ⟨#[]⟩] 108)) (some ⟨wr.heap.size, 0, none⟩) 1 1 2 [.int .i64 0, .string ⟨#[]⟩] from
   ⟨rfl, fun e => by simp at e, fun x hx => by
    simp only [Option.some.injEq] at hx
    subst hx
    exact ⟨rfl, blk_news (Blk.new wr #[.int .i64 0, .string ⟨#[]⟩] 108)⟩⟩)
  have e1 : (L.length : Int) < ((q + 1 : Nat) : Int) := by omega
  go_wp2_with (first
   | ((with_reducible refine wpList_appS B aD L.length cD (flat L) (some ⟨wr.heap.size, 0, none⟩) 1 1 [.int .i64 0, .string ⟨#[]⟩] ?_ ?_ ?_ ?_ ?_ ?_ ?_ ?_); (· rfl); (· rfl); (· exact OW.out); (· exact NEWS.out); (· intro u hu; simp at hu; rcases hu with rfl | rfl <;> rfl); (· omega); (· have h9 := HB.out; have h8 := SS.out.bel.size; simp; omega); (intro a' c' w2 q1 q2 q3); (have KB := hid (show ∀ b C T, Blk wr b C T → 8 < col' b → Blk w2 b C T from fun b C T hb hc => (q2.block b (hb.alloc (.cells #[.int .i64 0, .string ⟨#[]⟩] 108)).lt (DNE.out b hc)).trans (hb.alloc (.cells #[.int .i64 0, .string ⟨#[]⟩] 108)))); (have HAS := hid (RcHas.grow_d (SS.out.has.ext (ext_alloc (Below.refl _ _) (.cells #[.int .i64 0, .string ⟨#[]⟩] 108))) (l := L ++ [(0, ⟨#[]⟩)]) q2 (by (rw [List.length_append, flat_app]; exact q1)) q3 HGD.out)); (have B3 := hid (below_grow (SS.out.bel.alloc (Nat.le_trans HB.out SS.out.bel.size) (.cells #[.int .i64 0, .string ⟨#[]⟩] 108)) q2 DB.out (by have h9 := HB.out; have h8 := SS.out.bel.size; simp; omega))); (have NC := hid (show ∀ b, b < wr.heap.size → 8 < col' b → 8 < colN a' 1 col' b from fun b hb hc => by (rw [colN_else (fun x hx he => by (rcases q3 x hx with ⟨y, hy, hyx⟩ | hnew; (· have h9 := SS.out.has.d.col y hy; rw [hyx, he] at h9; omega); (· simp at hnew; omega)))]; exact hc))); (have OB := hid (show ∀ b, b < w.heap.size → b ≠ g → 8 < col b → w2.heap[b]? = w.heap[b]? ∧ 8 < colN a' 1 col' b from fun b hb hne h8 => by (have q9 := SS.out.oth b hb hne h8; have h7 := SS.out.bel.size; exact ⟨((q2.block b (by simp; omega) (DNE.out b q9.2)).trans (Below.heap_alloc wr (.cells #[.int .i64 0, .string ⟨#[]⟩] 108) b (by omega))).trans q9.1, NC.out b (by omega) q9.2⟩))); (clear q1 q2 q3 cK fK); (have S2 := hid (KB.out _ _ _ SS.out.s SS.out.c1)); (have K2 := hid (KB.out _ _ _ SS.out.k SS.out.c0)); (have eqC : (rcV { r with ds := L ++ [(0, ⟨#[]⟩)] } ⟨aS, cS, a', c', aH, cH, aW, cW, aY, cY, aB, cB, aA, cA⟩) = (rcV { r with ds := L } ⟨aS, cS, aD, cD, aH, cH, aW, cW, aY, cY, aB, cB, aA, cA⟩).setIfInBounds 8 (.slice a' (L.length + 1) c') := by simp); (have k1 := hid (show Blk (w2.setCell ⟨g, 8, none⟩ (.slice a' (L.length + 1) c')) g (rcV { r with ds := L ++ [(0, ⟨#[]⟩)] } ⟨aS, cS, a', c', aH, cH, aW, cW, aY, cY, aB, cB, aA, cA⟩) 41 by (rw [eqC]; exact K2.out.set (o := 8) (.slice a' (L.length + 1) c')))); (clear eqC); (have cK := K2.out.cell); (have fK := K2.out.free)))
  have SN := hid (show PutS B w col r X s g w.heap.size (L ++ [(0, ⟨#[]⟩)]) ⟨aS, cS, a', c', aH, cH, aW, cW, aY, cY, aB, cB, aA, cA⟩ (colN a' 1 col') (w2.setCell ⟨g, 8, none⟩ (.slice a' (L.length + 1) c')) from
   ⟨k1.out, S2.out.setCell (by have := KLT.out; simp; omega) _, HAS.out.setCell (q := ⟨g, 8, none⟩) (NC.out _ SS.out.k.lt SS.out.c0) _, NC.out _ SS.out.k.lt SS.out.c0, NC.out _ SS.out.s.lt SS.out.c1, below_set B3.out HG.out _,
    fun b hb hne h8 => ⟨(heap_setCell_other _ ⟨g, 8, none⟩ b _ hne).trans (OB.out b hb hne h8).1, (OB.out b hb hne h8).2⟩⟩)
  go_roundw
  case rel => exact ⟨j + 1, L ++ [(0, ⟨#[]⟩)], ⟨aS, cS, a', c', aH, cH, aW, cW, aY, cY, aB, cB, aA, cA⟩, _, by rw [HL.out, pad_more], .inr (by simp; omega), SN.out⟩
  case measure =>
   have m1 := SN.out.len
   have m2 := SS.out.len
   rw [m1, m2]
   simp
   omega
 have HP := hid (show L = padL r.ds (q + 1) by
  rw [HL.out, padL]
  congr 2
  have h9 := congrArg List.length HL.out
  simp at h9
  rcases hj with rfl | hj <;> omega)
 have hql : q < L.length := by omega
 have hu : L[q]? = some L[q] := List.getElem?_eq_getElem hql
 have hf := flat_at L q _ hu
 obtain ⟨g9, e0, hg9, d0, f0⟩ := SS.out.has.d.cell hf.1
 obtain ⟨g8, e1, _, d1, f1⟩ := SS.out.has.d.cell hf.2
 have e2 := some_inj_addr e0 e1
 subst e2
 clear e1 hf hu
 dsimp only at e0
 subst e0
 have CG := hid (show col' g8 = 1 from SS.out.has.d.col _ rfl)
 have NE := hid (show ∀ b, 8 < col' b → b ≠ g8 from fun b h8 e => by rw [e, CG.out] at h8; omega)
 have e3 : (q : Int) < (L.length : Int) := by omega
 have e5 : IntKind.i64.wrap (q : Int) = (q : Int) := by go_arith
 have e6 : (0 : Int) ≤ (q : Int) := by omega
 have e4 : ¬ (L.length : Int) < ((q + 1 : Nat) : Int) := by omega
 have HR := hid (show setR r (q + 1) s = { r with ds := L.set q s } by rw [setR, setL, ← HP.out]; rfl)
 have HAS := hid (show RcHas B ((wr.setCell ⟨g8, q * 2, none⟩ (.int .i64 s.1)).setCell ⟨g8, q * 2 + 1, none⟩ (.string s.2)) { r with ds := L.set q s } ⟨aS, cS, some ⟨g8, 0, none⟩, cD, aH, cH, aW, cW, aY, cY, aB, cB, aA, cA⟩ X col' from
  SS.out.has.put_d (l := L.set q s) (by simp) (fun b hb hne => (heap_setCell_other _ ⟨g8, q * 2 + 1, none⟩ b _ (fun e => hne (by rw [e]; exact CG.out))).trans (heap_setCell_other _ ⟨g8, q * 2, none⟩ b _ (fun e => hne (by rw [e]; exact CG.out))))
   (by rw [flat_set]; exact ((SS.out.has.d.own.stored (q * 2) (.int .i64 s.1)).1.stored (q * 2 + 1) (.string s.2)).1) (goodS_set SS.out.has.gd.d HSg.out))
 have B5 := hid (show Below B w ((wr.setCell ⟨g8, q * 2, none⟩ (.int .i64 s.1)).setCell ⟨g8, q * 2 + 1, none⟩ (.string s.2)) from below_set (below_set SS.out.bel (show B ≤ g8 from (SS.out.has.d.lt _ rfl).1) _) (show B ≤ g8 from (SS.out.has.d.lt _ rfl).1) _)
 have hK0 : PutH g w.heap.size (rcV { r with ds := L } ⟨aS, cS, some ⟨g8, 0, none⟩, cD, aH, cH, aW, cW, aY, cY, aB, cB, aA, cA⟩) #[.int .i64 s.1, .string s.2] wr := ⟨SS.out.k, SS.out.s⟩
 go_wp2_with fail
 refine wp_region_held_drew (S := PutH g w.heap.size (rcV { r with ds := L } ⟨aS, cS, some ⟨g8, 0, none⟩, cD, aH, cH, aW, cW, aY, cY, aB, cB, aA, cA⟩) #[.int .i64 s.1, .string s.2]) (by kernel_rfl) hK0.drew (fun hHeld => ?_)
 clear hK0 cK fK
 simp only [qz, Nat.reduceAdd]
 refine planH.go [0, 1, 2, 3, 4, 5, 6, 7] ?_
 iterate 8 (apply planH.take (at_lit rfl) (by kernel_rfl) (by rfl) (fun _ _ _ h => h) hHeld; (· intro w9 hSw; have hq := hSw.bg.cell; have hm := hSw.bs.cell; clear hSw; go_simp; try with_reducible rfl); try simp only [qq])
 refine planH.fin ?_
 refine rdH 8 (by kernel_rfl) (at_lit rfl) (fun K hK => ?_)
 go_simp
 refine hK.out _ _ ⟨(hHeld.bg.setCell (p := ⟨g8, q * 2, none⟩) (NE.out _ SS.out.c0) _).setCell (p := ⟨g8, q * 2 + 1, none⟩) (NE.out _ SS.out.c0) _, (hHeld.bs.setCell (p := ⟨g8, q * 2, none⟩) (NE.out _ SS.out.c1) _).setCell (p := ⟨g8, q * 2 + 1, none⟩) (NE.out _ SS.out.c1) _⟩ (fun hNew => ?_)
 clear hK K hHeld
 have hHeld := hNew
 clear hNew
 try simp only [qq]
 refine wpAnyH_done (by kernel_rfl) ?_ _
 clear hHeld
 go_wp2_with fail
 refine bodyPost_end (results_none rfl _ _ _) rfl ?_
 rw [HR.out]
 have V5e : ∀ b C T, Blk wr b C T → b ≠ g8 → Blk ((wr.setCell ⟨g8, q * 2, none⟩ (.int .i64 s.1)).setCell ⟨g8, q * 2 + 1, none⟩ (.string s.2)) b C T := fun b C T hb hne => (hb.setCell (p := ⟨g8, q * 2, none⟩) hne _).setCell (p := ⟨g8, q * 2 + 1, none⟩) hne _
 refine ⟨⟨_, rfl⟩, ⟨aS, cS, some ⟨g8, 0, none⟩, cD, aH, cH, aW, cW, aY, cY, aB, cB, aA, cA⟩, X, col', blk_eq (V5e _ _ _ SS.out.k (NE.out _ SS.out.c0)) (by simp), HAS.out.ext (Below.refl _ _).drew, SS.out.c0, B5.out.drew, fun b hb hne h8 => ?_⟩
 have q1 := SS.out.oth b hb hne h8
 have q2 := NE.out b q1.2
 exact ⟨((heap_setCell_other _ ⟨g8, q * 2 + 1, none⟩ b _ q2).trans (heap_setCell_other _ ⟨g8, q * 2, none⟩ b _ q2)).trans q1.1, q1.2⟩
end Go.Proofs.YtffklmlljekceaaGreat
