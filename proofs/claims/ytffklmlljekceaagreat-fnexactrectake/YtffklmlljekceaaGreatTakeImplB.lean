/-
  impl.holdBehind$1: the closure that holds a message.
-/
import Derived.Test.YtffklmlljekceaaGreatTakeImplA
import Derived.Test.YtffklmlljekceaaGreatDrawnRec
namespace Go.Proofs.YtffklmlljekceaaGreat
open Go.ChangeShapes Go.WideShapes Go.ChangeAt Go.RowKit
set_option linter.unusedVariables false
set_option linter.unusedSimpArgs false

/-- the captured pointer and the message lie in their blocks -/
structure HoldS (pb g mb : Nat) (c : Array Value) (w' : World) : Prop where
  bp : Blk w' pb #[.pointer (some ⟨g, 0, none⟩)] 74
  bm : Blk w' mb c 45
theorem HoldS.drew {pb g mb : Nat} {c : Array Value} {w' : World} (h : HoldS pb g mb c w') : HoldS pb g mb c w'.drew := ⟨h.bp, h.bm⟩

set_option maxHeartbeats 16000000 in
set_option maxRecDepth 20000 in
theorem implHold1 (B g pb : Nat) (r : Rc) (p : RcP) (X : RcX) (col : Nat → Nat) (m : MsgH) (a : Option Addr) (l : List Sl) (c : Nat) (w : World) (hg : B ≤ g) (hk : Blk w g (rcV r p) 41) (hc : 8 < col g) (hp : Blk w pb #[.pointer (some ⟨g, 0, none⟩)] 74) (hpc : 8 < col pb) (hpg : pb ≠ g) (h : RcHas B w r p X col) (hrow : RowC B w col 7 108 2 a l.length c (flat l)) (hfar : ∀ q ∈ X.H, ∀ x x', q.2.1 = some x → a = some x' → x.block ≠ x'.block) (hx : m.x.size ≤ maxLen) (hsl : GoodSlots l) :
    Calls Tryz.prog 133 #[.agg (msgV m (.slice a l.length c)), .pointer (some ⟨pb, 0, none⟩)] w fun e w' => (∃ v, e = .returned v) ∧ GPost B g w col (holdR r m l) w' := by
  obtain ⟨aS, cS, aD, cD, aH, cH, aW, cW, aY, cY, aB, cB, aA, cA⟩ := p
  have RD := hid h.fresh
  have HC := hid hc
  have HP := hid hpc
  have HG := hid hg
  have HPG := hid hpg
  have KLT := hid hk.lt
  have PLT := hid hp.lt
  have K0 := hid hk
  have HL := hid (show X.H.length = r.held.length by rw [← h.hm, List.length_map])
  have HBs := hid (show B ≤ w.heap.size from Nat.le_trans hg (Nat.le_of_lt hk.lt))
  have HIN0 := hid (show ∀ u ∈ X.H ++ [((({ m with f := r.num }, l), a, c) : Mp)], RowC B w (colF w.heap.size col) 7 108 2 u.2.1 u.1.2.length u.2.2 (flat u.1.2) from fun u hu => by
    rcases List.mem_append.1 hu with hu | hu
    · exact RD.out.hi.row u hu
    · simp only [List.mem_cons, List.not_mem_nil, or_false] at hu
      subst hu
      exact hrow.recol (fun b hb => colF_old hb))
  have HAP := hid (show (X.H ++ [((({ m with f := r.num }, l), a, c) : Mp)]).Pairwise (fun m m' => ∀ x x', m.2.1 = some x → m'.2.1 = some x' → x.block ≠ x'.block) by
    rw [List.pairwise_append]
    refine ⟨h.hi.apart, List.pairwise_singleton _ _, fun u hu v hv x x' hx hx' => ?_⟩
    simp only [List.mem_cons, List.not_mem_nil, or_false] at hv
    subst hv
    exact hfar u hu x x' hx hx')
  have HGD := hid (show MsgsGood ((X.H ++ [((({ m with f := r.num }, l), a, c) : Mp)]).map (·.1)) from fun i s hs => by
    rw [List.map_append, h.hm] at hs
    rcases Nat.lt_or_ge i r.held.length with hi | hi
    · rw [List.getElem?_append_left hi] at hs; exact h.gd.h i s hs
    · rw [List.getElem?_append_right hi] at hs
      have h9 := List.mem_of_getElem? hs
      simp only [List.map_cons, List.map_nil, List.mem_cons, List.not_mem_nil, or_false] at h9
      subst h9
      exact ⟨hx, hrow.len.1, hsl⟩)
  clear h hrow hfar hx hsl
  by_cases h1 : (r.held.length : Int) < 400
  · have HH := hid (holdR_yes (m := m) (l := l) h1)
    have cp := (hp.alloc (.cells (msgV m (.slice a l.length c)) 45)).cell
    have cg := (hk.alloc (.cells (msgV m (.slice a l.length c)) 45)).cell
    have cp1 := (hp.alloc (.cells (msgV { m with f := r.num } (.slice a l.length c)) 45)).cell
    have cg1 := (hk.alloc (.cells (msgV { m with f := r.num } (.slice a l.length c)) 45)).cell
    have cg2 := ((hk.alloc (.cells (msgV { m with f := r.num } (.slice a l.length c)) 45)).alloc (.cells (msgV { m with f := r.num } (.slice a l.length c)) 45)).cell
    obtain ⟨Z, hZ⟩ : ∃ v, v = ((w.alloc (.cells #[.int .i64 m.k, .int .i64 r.num, .int .i64 m.t, .int .i64 m.b, .int .i64 m.i, .int .i64 m.n, .string m.x, .slice a l.length c] 45)).alloc (.cells #[.int .i64 m.k, .int .i64 r.num, .int .i64 m.t, .int .i64 m.b, .int .i64 m.i, .int .i64 m.n, .string m.x, .slice a l.length c] 45)).drew := ⟨_, rfl⟩
    have EZ := hid (show Below w.heap.size w Z by rw [hZ]; exact (ext_alloc (ext_alloc (Below.refl _ _) _) _).drew)
    have KZ := hid (show Blk Z g (rcV r ⟨aS, cS, aD, cD, aH, cH, aW, cW, aY, cY, aB, cB, aA, cA⟩) 41 from K0.out.ext EZ.out)
    have HZ := hid (RD.out.ext EZ.out)
    have BZ := hid (EZ.out.mono HBs.out)
    have ZB := hid (show B ≤ Z.heap.size from Nat.le_trans HBs.out EZ.out.size)
    have OW := hid HZ.out.h.own
    have HIN := hid (fun u hu => (HIN0.out u hu).ext EZ.out)
    have DNE := hid (show ∀ b, 8 < colF w.heap.size col b → some b ≠ (Value.slice aH r.held.length cH).ownBlock from fun b h8 e => by
      cases hs : aH with
      | none => rw [hs] at e; simp [Value.ownBlock] at e
      | some y =>
        rw [hs] at e
        simp only [Value.ownBlock, Option.some.injEq] at e
        have h7 := RD.out.h.col y hs
        rw [← e] at h7
        omega)
    have DB := hid (show ∀ j, (Value.slice aH r.held.length cH).ownBlock = some j → B ≤ j from fun j hj => (RD.out.h.own.lt j hj).1)
    have NEWS := hid (show ReadAt Z (some ⟨w.heap.size + 1, 0, none⟩) 1 1 8 (cellsM ((({ m with f := r.num }, l), a, c) : Mp)) from
      ⟨rfl, fun e => by simp at e, fun x hx => by
        simp only [Option.some.injEq] at hx
        subst hx
        exact ⟨rfl, by rw [hZ]; exact blk_news (cs := (msgV { m with f := r.num } (.slice a l.length c)).toList) (show Blk ((w.alloc (.cells #[.int .i64 m.k, .int .i64 r.num, .int .i64 m.t, .int .i64 m.b, .int .i64 m.i, .int .i64 m.n, .string m.x, .slice a l.length c] 45)).alloc (.cells #[.int .i64 m.k, .int .i64 r.num, .int .i64 m.t, .int .i64 m.b, .int .i64 m.i, .int .i64 m.n, .string m.x, .slice a l.length c] 45)) (w.heap.size + 1) (msgV { m with f := r.num } (.slice a l.length c)) 45 from Blk.new' _ _ (by simp))⟩⟩)
    have hK0 : HoldS pb g w.heap.size (msgV { m with f := r.num } (.slice a l.length c)) (w.alloc (.cells (msgV { m with f := r.num } (.slice a l.length c)) 45)) := ⟨hp.alloc _, Blk.new _ _ _⟩
    clear hk hp hc hpc hpg hg
    go_enter Tryz.func133, Tryz.ntmps133
    go_wp2_with fail
    refine wp_region_held_drew (S := HoldS pb g w.heap.size (msgV { m with f := r.num } (.slice a l.length c))) (by kernel_rfl) hK0.drew (fun hHeld => ?_)
    clear hK0
    simp only [List.size_toArray, List.length_cons, List.length_nil, Nat.reduceAdd, Array.replicate_succ, Array.replicate_zero, List.push_toArray, List.append_toArray, List.nil_append, List.cons_append]
    refine wpAnyH_take (i := 0) (v := ?_) (at_lit rfl) (by kernel_rfl) (by kernel_rfl) (by kernel_rfl) (fun _ _ _ h => h) (Or.inl ⟨by rfl, ?_⟩) hHeld ?_
    rotate_left
    · (intro w9 hSw; have hq := hSw.bp.cell; have hm := hSw.bm.cell; clear hSw; go_simp; try with_reducible rfl)
    try simp only [Act.put, List.setIfInBounds_toArray, List.set_cons_zero, List.set_cons_succ]
    refine wpAnyH_take (i := 1) (v := ?_) (at_lit rfl) (by kernel_rfl) (by kernel_rfl) (by kernel_rfl) (fun _ _ _ h => h) (Or.inl ⟨by rfl, ?_⟩) hHeld ?_
    rotate_left
    · (intro w9 hSw; have hq := hSw.bp.cell; have hm := hSw.bm.cell; clear hSw; go_simp; try with_reducible rfl)
    try simp only [Act.put, List.setIfInBounds_toArray, List.set_cons_zero, List.set_cons_succ]
    refine wpAnyH_take (i := 2) (v := ?_) (at_lit rfl) (by kernel_rfl) (by kernel_rfl) (by kernel_rfl) (fun _ _ _ h => h) (Or.inl ⟨by rfl, ?_⟩) hHeld ?_
    rotate_left
    · (intro w9 hSw; have hq := hSw.bp.cell; have hm := hSw.bm.cell; clear hSw; go_simp; try with_reducible rfl)
    try simp only [Act.put, List.setIfInBounds_toArray, List.set_cons_zero, List.set_cons_succ]
    refine wpAnyH_take (i := 3) (v := ?_) (at_lit rfl) (by kernel_rfl) (by kernel_rfl) (by kernel_rfl) (fun _ _ _ h => h) (Or.inl ⟨by rfl, ?_⟩) hHeld ?_
    rotate_left
    · (intro w9 hSw; have hq := hSw.bp.cell; have hm := hSw.bm.cell; clear hSw; go_simp; try with_reducible rfl)
    try simp only [Act.put, List.setIfInBounds_toArray, List.set_cons_zero, List.set_cons_succ]
    refine wpAnyH_take (i := 5) (v := ?_) (at_lit rfl) (by kernel_rfl) (by kernel_rfl) (by kernel_rfl) (fun _ _ _ h => h) (Or.inl ⟨by rfl, ?_⟩) hHeld ?_
    rotate_left
    · (intro w9 hSw; have hq := hSw.bp.cell; have hm := hSw.bm.cell; clear hSw; go_simp; try with_reducible rfl)
    try simp only [Act.put, List.setIfInBounds_toArray, List.set_cons_zero, List.set_cons_succ]
    refine wpAnyH_ready (rs := [4, 6]) (by kernel_rfl) (by simp) ?_
    refine AllReadyH.cons (at_lit rfl) (fun K hK => ?_) (AllReadyH.cons (at_lit rfl) (fun K hK => ?_) AllReadyH.nil)
    · go_simp
      refine hK.out _ _ hHeld (fun hNew => ?_)
      clear hK K hHeld
      have hHeld := hNew
      clear hNew
      try simp only [Act.put, List.setIfInBounds_toArray, List.set_cons_zero, List.set_cons_succ]
      refine wpAnyH_ready (rs := [6]) (by kernel_rfl) (by simp) ?_
      refine AllReadyH.cons (at_lit rfl) (fun K hK => ?_) AllReadyH.nil
      go_simp
      refine hK.out _ _ ⟨hHeld.bp.alloc _, hHeld.bm.alloc _⟩ (fun hNew => ?_)
      clear hK K hHeld
      have hHeld := hNew
      clear hNew
      try simp only [Act.put, List.setIfInBounds_toArray, List.set_cons_zero, List.set_cons_succ]
      rw [← hZ] at hHeld ⊢
      refine wpAnyH_ready (rs := [7]) (by kernel_rfl) (by simp) ?_
      refine AllReadyH.cons (at_lit rfl) (fun K hK => ?_) AllReadyH.nil
      rw [if_pos (by rfl)]
      refine wp_appM B aH r.held.length cH (flatM X.H) (some ⟨w.heap.size + 1, 0, none⟩) 1 1 (cellsM ((({ m with f := r.num }, l), a, c) : Mp)) rfl rfl OW.out NEWS.out (fun u hu => by simp [cellsM] at hu; rcases hu with rfl | rfl | rfl | rfl | rfl | rfl | rfl | rfl <;> rfl) (by omega) ZB.out ?_
      intro a' c' w2 q1 q2 q3
      have KB := hid (show ∀ b C T, Blk Z b C T → 8 < colF w.heap.size col b → Blk w2 b C T from fun b C T hb h8 => (q2.block b hb.lt (DNE.out b h8)).trans hb)
      have HAS := hid (RcHas.grow_h HZ.out (l := X.H ++ [((({ m with f := r.num }, l), a, c) : Mp)]) q2 (by rw [show (X.H ++ [((({ m with f := r.num }, l), a, c) : Mp)]).length = r.held.length + 1 by (rw [List.length_append, HL.out]; rfl), show flatM (X.H ++ [((({ m with f := r.num }, l), a, c) : Mp)]) = flatM X.H ++ cellsM ((({ m with f := r.num }, l), a, c) : Mp) by simp [flatM]]; exact q1) q3 HIN.out HAP.out HGD.out)
      have B3 := hid (below_grow BZ.out q2 DB.out ZB.out)
      have NC := hid (show ∀ b, b < Z.heap.size → 8 < colF w.heap.size col b → 8 < colN a' 2 (colF w.heap.size col) b from fun b hb hc => by
        rw [colN_else (fun x hx he => by
          rcases q3 x hx with ⟨y, hy, hyx⟩ | hnew
          · have h9 := HZ.out.h.col y hy
            rw [hyx, he] at h9
            omega
          · omega)]
        exact hc)
      have OB := hid (show ∀ b, b < w.heap.size → 8 < col b → w2.heap[b]? = w.heap[b]? ∧ 8 < colN a' 2 (colF w.heap.size col) b from fun b hb h8 => by
        have h9 : 8 < colF w.heap.size col b := by rw [colF_old hb]; exact h8
        have h7 := EZ.out.size
        exact ⟨(q2.block b (by omega) (DNE.out b h9)).trans (EZ.out.block b hb), NC.out b (by omega) h9⟩)
      clear q1 q2 q3
      have K2 := hid (KB.out _ _ _ KZ.out (by rw [colF_old KLT.out]; exact HC.out))
      refine hK.out _ _ ⟨KB.out _ _ _ hHeld.bp (by rw [colF_old PLT.out]; exact HP.out), KB.out _ _ _ hHeld.bm (by rw [colF_new (Nat.le_refl _)]; omega)⟩ (fun hNew => ?_)
      clear hK K hHeld
      have hHeld := hNew
      clear hNew
      try simp only [Act.put, List.setIfInBounds_toArray, List.set_cons_zero, List.set_cons_succ]
      refine wpAnyH_take (i := 8) (v := ?_) (at_lit rfl) (by kernel_rfl) (by kernel_rfl) (by kernel_rfl) (fun _ _ _ h => h) (Or.inl ⟨by rfl, ?_⟩) hHeld ?_
      rotate_left
      · (intro w9 hSw; have hq := hSw.bp.cell; have hm := hSw.bm.cell; clear hSw; go_simp; try with_reducible rfl)
      try simp only [Act.put, List.setIfInBounds_toArray, List.set_cons_zero, List.set_cons_succ]
      refine wpAnyH_take (i := 9) (v := ?_) (at_lit rfl) (by kernel_rfl) (by kernel_rfl) (by kernel_rfl) (fun _ _ _ h => h) (Or.inl ⟨by rfl, ?_⟩) hHeld ?_
      rotate_left
      · (intro w9 hSw; have hq := hSw.bp.cell; have hm := hSw.bm.cell; clear hSw; go_simp; try with_reducible rfl)
      try simp only [Act.put, List.setIfInBounds_toArray, List.set_cons_zero, List.set_cons_succ]
      have cK := K2.out.cell
      have fK := K2.out.free
      refine wpAnyH_ready (rs := [10]) (by kernel_rfl) (by simp) ?_
      refine AllReadyH.cons (at_lit rfl) (fun K hK => ?_) AllReadyH.nil
      go_simp
      refine hK.out _ _ ⟨hHeld.bp.setCell HPG.out _, hHeld.bm.setCell (by have := KLT.out; simp; omega) _⟩ (fun hNew => ?_)
      clear hK K hHeld
      have hHeld := hNew
      clear hNew
      try simp only [Act.put, List.setIfInBounds_toArray, List.set_cons_zero, List.set_cons_succ]
      refine wpAnyH_done (by kernel_rfl) ?_ _
      clear hHeld cK fK
      go_wp2_with fail
      refine bodyPost_end (results_none rfl _ _ _) rfl ?_
      have HAS2 : RcHas B w2 { r with held := r.held ++ [({ m with f := r.num }, l)] } ⟨aS, cS, aD, cD, a', c', aW, cW, aY, cY, aB, cB, aA, cA⟩ ⟨X.H ++ [((({ m with f := r.num }, l), a, c) : Mp)], X.A⟩ (colN a' 2 (colF w.heap.size col)) := by
        have h9 := HAS.out
        rw [List.map_append, RD.out.hm] at h9
        exact h9
      rw [HH.out]
      have g8 := NC.out g (by have := EZ.out.size; have := KLT.out; omega) (by rw [colF_old KLT.out]; exact HC.out)
      exact ⟨⟨_, rfl⟩, ⟨aS, cS, aD, cD, a', c', aW, cW, aY, cY, aB, cB, aA, cA⟩, _, _, blk_eq (K2.out.set (o := 9) (.slice a' (r.held.length + 1) c')) (by simp), HAS2.setCell (q := ⟨g, 9, none⟩) g8 _, g8, below_set B3.out HG.out _, fun b hb hne h8 => ⟨(heap_setCell_other _ ⟨g, 9, none⟩ b _ hne).trans (OB.out b hb h8).1, (OB.out b hb h8).2⟩⟩
    · go_simp
      refine hK.out _ _ ⟨hHeld.bp.alloc _, hHeld.bm.alloc _⟩ (fun hNew => ?_)
      clear hK K hHeld
      have hHeld := hNew
      clear hNew
      try simp only [Act.put, List.setIfInBounds_toArray, List.set_cons_zero, List.set_cons_succ]
      refine wpAnyH_ready (rs := [4]) (by kernel_rfl) (by simp) ?_
      refine AllReadyH.cons (at_lit rfl) (fun K hK => ?_) AllReadyH.nil
      go_simp
      refine hK.out _ _ hHeld (fun hNew => ?_)
      clear hK K hHeld
      have hHeld := hNew
      clear hNew
      try simp only [Act.put, List.setIfInBounds_toArray, List.set_cons_zero, List.set_cons_succ]
      rw [← hZ] at hHeld ⊢
      refine wpAnyH_ready (rs := [7]) (by kernel_rfl) (by simp) ?_
      refine AllReadyH.cons (at_lit rfl) (fun K hK => ?_) AllReadyH.nil
      rw [if_pos (by rfl)]
      refine wp_appM B aH r.held.length cH (flatM X.H) (some ⟨w.heap.size + 1, 0, none⟩) 1 1 (cellsM ((({ m with f := r.num }, l), a, c) : Mp)) rfl rfl OW.out NEWS.out (fun u hu => by simp [cellsM] at hu; rcases hu with rfl | rfl | rfl | rfl | rfl | rfl | rfl | rfl <;> rfl) (by omega) ZB.out ?_
      intro a' c' w2 q1 q2 q3
      have KB := hid (show ∀ b C T, Blk Z b C T → 8 < colF w.heap.size col b → Blk w2 b C T from fun b C T hb h8 => (q2.block b hb.lt (DNE.out b h8)).trans hb)
      have HAS := hid (RcHas.grow_h HZ.out (l := X.H ++ [((({ m with f := r.num }, l), a, c) : Mp)]) q2 (by rw [show (X.H ++ [((({ m with f := r.num }, l), a, c) : Mp)]).length = r.held.length + 1 by (rw [List.length_append, HL.out]; rfl), show flatM (X.H ++ [((({ m with f := r.num }, l), a, c) : Mp)]) = flatM X.H ++ cellsM ((({ m with f := r.num }, l), a, c) : Mp) by simp [flatM]]; exact q1) q3 HIN.out HAP.out HGD.out)
      have B3 := hid (below_grow BZ.out q2 DB.out ZB.out)
      have NC := hid (show ∀ b, b < Z.heap.size → 8 < colF w.heap.size col b → 8 < colN a' 2 (colF w.heap.size col) b from fun b hb hc => by
        rw [colN_else (fun x hx he => by
          rcases q3 x hx with ⟨y, hy, hyx⟩ | hnew
          · have h9 := HZ.out.h.col y hy
            rw [hyx, he] at h9
            omega
          · omega)]
        exact hc)
      have OB := hid (show ∀ b, b < w.heap.size → 8 < col b → w2.heap[b]? = w.heap[b]? ∧ 8 < colN a' 2 (colF w.heap.size col) b from fun b hb h8 => by
        have h9 : 8 < colF w.heap.size col b := by rw [colF_old hb]; exact h8
        have h7 := EZ.out.size
        exact ⟨(q2.block b (by omega) (DNE.out b h9)).trans (EZ.out.block b hb), NC.out b (by omega) h9⟩)
      clear q1 q2 q3
      have K2 := hid (KB.out _ _ _ KZ.out (by rw [colF_old KLT.out]; exact HC.out))
      refine hK.out _ _ ⟨KB.out _ _ _ hHeld.bp (by rw [colF_old PLT.out]; exact HP.out), KB.out _ _ _ hHeld.bm (by rw [colF_new (Nat.le_refl _)]; omega)⟩ (fun hNew => ?_)
      clear hK K hHeld
      have hHeld := hNew
      clear hNew
      try simp only [Act.put, List.setIfInBounds_toArray, List.set_cons_zero, List.set_cons_succ]
      refine wpAnyH_take (i := 8) (v := ?_) (at_lit rfl) (by kernel_rfl) (by kernel_rfl) (by kernel_rfl) (fun _ _ _ h => h) (Or.inl ⟨by rfl, ?_⟩) hHeld ?_
      rotate_left
      · (intro w9 hSw; have hq := hSw.bp.cell; have hm := hSw.bm.cell; clear hSw; go_simp; try with_reducible rfl)
      try simp only [Act.put, List.setIfInBounds_toArray, List.set_cons_zero, List.set_cons_succ]
      refine wpAnyH_take (i := 9) (v := ?_) (at_lit rfl) (by kernel_rfl) (by kernel_rfl) (by kernel_rfl) (fun _ _ _ h => h) (Or.inl ⟨by rfl, ?_⟩) hHeld ?_
      rotate_left
      · (intro w9 hSw; have hq := hSw.bp.cell; have hm := hSw.bm.cell; clear hSw; go_simp; try with_reducible rfl)
      try simp only [Act.put, List.setIfInBounds_toArray, List.set_cons_zero, List.set_cons_succ]
      have cK := K2.out.cell
      have fK := K2.out.free
      refine wpAnyH_ready (rs := [10]) (by kernel_rfl) (by simp) ?_
      refine AllReadyH.cons (at_lit rfl) (fun K hK => ?_) AllReadyH.nil
      go_simp
      refine hK.out _ _ ⟨hHeld.bp.setCell HPG.out _, hHeld.bm.setCell (by have := KLT.out; simp; omega) _⟩ (fun hNew => ?_)
      clear hK K hHeld
      have hHeld := hNew
      clear hNew
      try simp only [Act.put, List.setIfInBounds_toArray, List.set_cons_zero, List.set_cons_succ]
      refine wpAnyH_done (by kernel_rfl) ?_ _
      clear hHeld cK fK
      go_wp2_with fail
      refine bodyPost_end (results_none rfl _ _ _) rfl ?_
      have HAS2 : RcHas B w2 { r with held := r.held ++ [({ m with f := r.num }, l)] } ⟨aS, cS, aD, cD, a', c', aW, cW, aY, cY, aB, cB, aA, cA⟩ ⟨X.H ++ [((({ m with f := r.num }, l), a, c) : Mp)], X.A⟩ (colN a' 2 (colF w.heap.size col)) := by
        have h9 := HAS.out
        rw [List.map_append, RD.out.hm] at h9
        exact h9
      rw [HH.out]
      have g8 := NC.out g (by have := EZ.out.size; have := KLT.out; omega) (by rw [colF_old KLT.out]; exact HC.out)
      exact ⟨⟨_, rfl⟩, ⟨aS, cS, aD, cD, a', c', aW, cW, aY, cY, aB, cB, aA, cA⟩, _, _, blk_eq (K2.out.set (o := 9) (.slice a' (r.held.length + 1) c')) (by simp), HAS2.setCell (q := ⟨g, 9, none⟩) g8 _, g8, below_set B3.out HG.out _, fun b hb hne h8 => ⟨(heap_setCell_other _ ⟨g, 9, none⟩ b _ hne).trans (OB.out b hb h8).1, (OB.out b hb h8).2⟩⟩
  · have HH := hid (holdR_no (m := m) (l := l) h1)
    have cp := (hp.alloc (.cells (msgV m (.slice a l.length c)) 45)).cell
    have cg := (hk.alloc (.cells (msgV m (.slice a l.length c)) 45)).cell
    have E1 := hid (show Below w.heap.size w (w.alloc (.cells (msgV m (.slice a l.length c)) 45)) from ext_alloc (Below.refl _ _) _)
    go_enter Tryz.func133, Tryz.ntmps133
    go_wp2_with fail
    refine bodyPost_end (results_none rfl _ _ _) rfl ?_
    rw [HH.out]
    exact ⟨⟨_, rfl⟩, ⟨aS, cS, aD, cD, aH, cH, aW, cW, aY, cY, aB, cB, aA, cA⟩, X, _, K0.out.ext E1.out, RD.out.ext E1.out, by rw [colF_old KLT.out]; exact HC.out, E1.out.mono HBs.out, fun b hb hne h8 => ⟨E1.out.block b hb, by rw [colF_old hb]; exact h8⟩⟩
end Go.Proofs.YtffklmlljekceaaGreat
