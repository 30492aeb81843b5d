/-
  impl.quieten, impl.follow.
-/
import Derived.Test.YtffklmlljekceaaGreatTakeSpecC
namespace Go.Proofs.YtffklmlljekceaaGreat
open Go.ChangeShapes Go.WideShapes Go.ChangeAt Go.RowKit
set_option linter.unusedVariables false
set_option linter.unusedSimpArgs false

theorem rowC_nil (B : Nat) (w : World) (col : Nat → Nat) (t : Nat) (e : TypeId) (k : Nat) : RowC B w col t e k none 0 0 [] := ⟨World.ownsRow_nil _ _ _ _, fun x hx => by simp at hx⟩
/-- the recorder in the block g has become r'; blocks in no list, but g, are as they were -/
def GPost (B g : Nat) (w : World) (col : Nat → Nat) (r' : Rc) (w' : World) : Prop := ∃ p' X' col', Blk w' g (rcV r' p') 41 ∧ RcHas B w' r' p' X' col' ∧ 8 < col' g ∧ Below B w w' ∧ ∀ b, b < w.heap.size → b ≠ g → 8 < col b → w'.heap[b]? = w.heap[b]? ∧ 8 < col' b
theorem RcHas.quiet {B : Nat} {w : World} {r : Rc} {p : RcP} {X : RcX} {col : Nat → Nat} (h : RcHas B w r p X col) : RcHas B w (calmR r) { p with aY := none, cY := 0, aB := none, cB := 0, aA := none, cA := 0 } ⟨X.H, []⟩ col :=
  (((h.set_y (l := []) (rowC_nil _ _ _ _ _ _) (fun i s hs => by simp at hs)).set_b (l := []) (rowC_nil _ _ _ _ _ _) (fun i s hs => by simp at hs)).set_a (l := []) (rowC_nil _ _ _ _ _ _) ⟨fun m hm => absurd hm (by simp), List.Pairwise.nil⟩ (fun i s hs => by simp at hs)).like rfl rfl rfl rfl rfl rfl rfl

set_option maxHeartbeats 8000000 in
set_option maxRecDepth 20000 in
theorem implQuiet (B g : Nat) (r : Rc) (p : RcP) (X : RcX) (col : Nat → Nat) (w : World) (hg : B ≤ g) (hk : Blk w g (rcV r p) 41) (hc : 8 < col g) (h : RcHas B w r p X col) :
    Calls Tryz.prog 141 #[.pointer (some ⟨g, 0, none⟩)] w fun e w' => (∃ v, e = .returned v) ∧ GPost B g w col (calmR r) w' := by
  obtain ⟨aS, cS, aD, cD, aH, cH, aW, cW, aY, cY, aB, cB, aA, cA⟩ := p
  have HN := hid (show RcHas B w (calmR r) ⟨aS, cS, aD, cD, aH, cH, aW, cW, none, 0, none, 0, none, 0⟩ ⟨X.H, []⟩ col from h.quiet)
  have HC := hid hc
  have HG := hid hg
  have K := hid hk
  have cK := hk.cell
  have fK := hk.free
  have eqC : (((((((rcV r ⟨aS, cS, aD, cD, aH, cH, aW, cW, aY, cY, aB, cB, aA, cA⟩).setIfInBounds 11 (.bool false)).setIfInBounds 12 (.bool false)).setIfInBounds 13 (.int .i64 0)).setIfInBounds 14 (.slice none 0 0)).setIfInBounds 15 (.slice none 0 0)).setIfInBounds 16 (.slice none 0 0)) = (rcV (calmR r) ⟨aS, cS, aD, cD, aH, cH, aW, cW, none, 0, none, 0, none, 0⟩) := by simp [calmR]
  have KF := hid (blk_eq ((((((K.out.set (o := 11) (.bool false)).set (o := 12) (.bool false)).set (o := 13) (.int .i64 0)).set (o := 14) (.slice none 0 0)).set (o := 15) (.slice none 0 0)).set (o := 16) (.slice none 0 0)) eqC)
  have done := hid (show GPost B g w col (calmR r) ((((((w.setCell ⟨g, 11, none⟩ (.bool false)).setCell ⟨g, 12, none⟩ (.bool false)).setCell ⟨g, 13, none⟩ (.int .i64 0)).setCell ⟨g, 14, none⟩ (.slice none 0 0)).setCell ⟨g, 15, none⟩ (.slice none 0 0)).setCell ⟨g, 16, none⟩ (.slice none 0 0)) from ⟨⟨aS, cS, aD, cD, aH, cH, aW, cW, none, 0, none, 0, none, 0⟩, _, col, KF.out, ((((((HN.out.setCell (q := ⟨g, 11, none⟩) HC.out (.bool false)).setCell (q := ⟨g, 12, none⟩) HC.out (.bool false)).setCell (q := ⟨g, 13, none⟩) HC.out (.int .i64 0)).setCell (q := ⟨g, 14, none⟩) HC.out (.slice none 0 0)).setCell (q := ⟨g, 15, none⟩) HC.out (.slice none 0 0)).setCell (q := ⟨g, 16, none⟩) HC.out (.slice none 0 0)), HC.out, (below_set (below_set (below_set (below_set (below_set (below_set (Below.refl B w) HG.out (.bool false)) HG.out (.bool false)) HG.out (.int .i64 0)) HG.out (.slice none 0 0)) HG.out (.slice none 0 0)) HG.out (.slice none 0 0)), fun b hb hne h8 => ⟨((heap_setCell_other _ ⟨g, 16, none⟩ b _ hne).trans ((heap_setCell_other _ ⟨g, 15, none⟩ b _ hne).trans ((heap_setCell_other _ ⟨g, 14, none⟩ b _ hne).trans ((heap_setCell_other _ ⟨g, 13, none⟩ b _ hne).trans ((heap_setCell_other _ ⟨g, 12, none⟩ b _ hne).trans (heap_setCell_other _ ⟨g, 11, none⟩ b _ hne)))))), h8⟩⟩)
  clear h hg hc hk eqC
  go_enter Tryz.func141, Tryz.ntmps141
  go_wp2
  refine bodyPost_end (results_none rfl _ _ _) rfl ?_
  exact ⟨⟨_, rfl⟩, done.out⟩

set_option maxHeartbeats 8000000 in
set_option maxRecDepth 20000 in
theorem implFollow (B g : Nat) (r : Rc) (p : RcP) (X : RcX) (col : Nat → Nat) (b : Int) (w : World) (hg : B ≤ g) (hk : Blk w g (rcV r p) 41) (hc : 8 < col g) (h : RcHas B w r p X col) :
    Calls Tryz.prog 135 #[.pointer (some ⟨g, 0, none⟩), .int .i64 b] w fun e w' => (∃ v, e = .returned v) ∧ GPost B g w col (followR r b) w' := by
  obtain ⟨aS, cS, aD, cD, aH, cH, aW, cW, aY, cY, aB, cB, aA, cA⟩ := p
  have RD := hid h
  have HC := hid hc
  have HG := hid hg
  have K := hid hk
  have cK := hk.cell
  have fK := hk.free
  clear h hg hc hk
  by_cases h1 : r.dp < b
  · by_cases h2 : b = r.ball
    · subst h2
      have HRi := hid (riseR_yes h1)
      have k1 : Blk (w.setCell ⟨g, 6, none⟩ (.int .i64 r.ball)) g (rcV { r with dp := r.ball } ⟨aS, cS, aD, cD, aH, cH, aW, cW, aY, cY, aB, cB, aA, cA⟩) 41 := blk_eq (K.out.set (o := 6) (.int .i64 r.ball)) (by simp)
      have K1 := hid k1
      have c1 := k1.cell
      have f1 := k1.free
      have H1 := hid (show RcHas B (w.setCell ⟨g, 6, none⟩ (.int .i64 r.ball)) { r with dp := r.ball } ⟨aS, cS, aD, cD, aH, cH, aW, cW, aY, cY, aB, cB, aA, cA⟩ X col from (RD.out.setCell (q := ⟨g, 6, none⟩) HC.out (.int .i64 r.ball)).like rfl rfl rfl rfl rfl rfl rfl)
      have B1 := hid (show Below B w (w.setCell ⟨g, 6, none⟩ (.int .i64 r.ball)) from below_set (Below.refl B w) HG.out (.int .i64 r.ball))
      go_enter Tryz.func135, Tryz.ntmps135
      have HF := hid (show followR r r.ball = hush { r with dp := r.ball } by rw [followR_own rfl, HRi.out])
      go_wp2_with fail
      refine bodyPost_end (results_none rfl _ _ _) rfl ?_
      rw [HF.out]
      exact ⟨⟨_, rfl⟩, ⟨aS, cS, aD, cD, aH, cH, aW, cW, aY, cY, aB, cB, aA, cA⟩, X, col, blk_eq (K1.out.set (o := 17) (.int .i64 0)) (by simp [hush]), (H1.out.setCell (q := ⟨g, 17, none⟩) HC.out (.int .i64 0)).like rfl rfl rfl rfl rfl rfl rfl, HC.out, below_set B1.out HG.out _, fun x hx hne h8 => ⟨(heap_setCell_other _ ⟨g, 17, none⟩ x _ hne).trans (heap_setCell_other _ ⟨g, 6, none⟩ x _ hne), h8⟩⟩
    · have HRi := hid (riseR_yes h1)
      have k1 : Blk (w.setCell ⟨g, 6, none⟩ (.int .i64 b)) g (rcV { r with dp := b } ⟨aS, cS, aD, cD, aH, cH, aW, cW, aY, cY, aB, cB, aA, cA⟩) 41 := blk_eq (K.out.set (o := 6) (.int .i64 b)) (by simp)
      have K1 := hid k1
      have c1 := k1.cell
      have f1 := k1.free
      have H1 := hid (show RcHas B (w.setCell ⟨g, 6, none⟩ (.int .i64 b)) { r with dp := b } ⟨aS, cS, aD, cD, aH, cH, aW, cW, aY, cY, aB, cB, aA, cA⟩ X col from (RD.out.setCell (q := ⟨g, 6, none⟩) HC.out (.int .i64 b)).like rfl rfl rfl rfl rfl rfl rfl)
      have B1 := hid (show Below B w (w.setCell ⟨g, 6, none⟩ (.int .i64 b)) from below_set (Below.refl B w) HG.out (.int .i64 b))
      go_enter Tryz.func135, Tryz.ntmps135
      have HF := hid (show followR r b = hush (calmR { r with dp := b }) by rw [followR_new h2, HRi.out])
      go_wp2_with fail
      refine (implQuiet B g { r with dp := b } ⟨aS, cS, aD, cD, aH, cH, aW, cW, aY, cY, aB, cB, aA, cA⟩ X col _ HG.out K1.out HC.out H1.out).mono ?_
      rintro e w2 ⟨⟨v2, rfl⟩, p2, X2, col2, k2, has2, hc2, hb2, ot2⟩
      have H2 := hid has2
      have HC2 := hid hc2
      have B2 := hid (B1.out.trans hb2)
      have O2 := hid ot2
      have K2 := hid k2
      have S1 := hid (show w.heap.size = (w.setCell ⟨g, 6, none⟩ (.int .i64 b)).heap.size by simp)
      clear has2 hc2 hb2 ot2 c1 f1 cK fK k1
      have c2 := k2.cell
      have f2 := k2.free
      go_wp2_with fail
      refine bodyPost_end (results_none rfl _ _ _) rfl ?_
      rw [HF.out]
      exact ⟨⟨_, rfl⟩, p2, X2, col2, blk_eq (K2.out.set (o := 17) (.int .i64 0)) (by simp [hush]), (H2.out.setCell (q := ⟨g, 17, none⟩) HC2.out (.int .i64 0)).like rfl rfl rfl rfl rfl rfl rfl, HC2.out, below_set B2.out HG.out _, fun x hx hne h8 => ⟨((heap_setCell_other _ ⟨g, 17, none⟩ x _ hne).trans (O2.out x (by rw [← S1.out]; exact hx) hne h8).1).trans (heap_setCell_other _ ⟨g, 6, none⟩ x _ hne), (O2.out x (by rw [← S1.out]; exact hx) hne h8).2⟩⟩
  · by_cases h2 : b = r.ball
    · subst h2
      have HRi := hid (riseR_no h1)
      have k1 : Blk (w.setCell ⟨g, 6, none⟩ (.int .i64 r.dp)) g (rcV r ⟨aS, cS, aD, cD, aH, cH, aW, cW, aY, cY, aB, cB, aA, cA⟩) 41 := blk_eq (K.out.set (o := 6) (.int .i64 r.dp)) (by simp)
      have K1 := hid k1
      have c1 := k1.cell
      have f1 := k1.free
      have H1 := hid (show RcHas B (w.setCell ⟨g, 6, none⟩ (.int .i64 r.dp)) r ⟨aS, cS, aD, cD, aH, cH, aW, cW, aY, cY, aB, cB, aA, cA⟩ X col from (RD.out.setCell (q := ⟨g, 6, none⟩) HC.out (.int .i64 r.dp)).like rfl rfl rfl rfl rfl rfl rfl)
      have B1 := hid (show Below B w (w.setCell ⟨g, 6, none⟩ (.int .i64 r.dp)) from below_set (Below.refl B w) HG.out (.int .i64 r.dp))
      go_enter Tryz.func135, Tryz.ntmps135
      have HF := hid (show followR r r.ball = hush r by rw [followR_own rfl, HRi.out])
      go_wp2_with fail
      refine bodyPost_end (results_none rfl _ _ _) rfl ?_
      rw [HF.out]
      exact ⟨⟨_, rfl⟩, ⟨aS, cS, aD, cD, aH, cH, aW, cW, aY, cY, aB, cB, aA, cA⟩, X, col, blk_eq (K1.out.set (o := 17) (.int .i64 0)) (by simp [hush]), (H1.out.setCell (q := ⟨g, 17, none⟩) HC.out (.int .i64 0)).like rfl rfl rfl rfl rfl rfl rfl, HC.out, below_set B1.out HG.out _, fun x hx hne h8 => ⟨(heap_setCell_other _ ⟨g, 17, none⟩ x _ hne).trans (heap_setCell_other _ ⟨g, 6, none⟩ x _ hne), h8⟩⟩
    · have HRi := hid (riseR_no h1)
      have k1 : Blk (w.setCell ⟨g, 6, none⟩ (.int .i64 r.dp)) g (rcV r ⟨aS, cS, aD, cD, aH, cH, aW, cW, aY, cY, aB, cB, aA, cA⟩) 41 := blk_eq (K.out.set (o := 6) (.int .i64 r.dp)) (by simp)
      have K1 := hid k1
      have c1 := k1.cell
      have f1 := k1.free
      have H1 := hid (show RcHas B (w.setCell ⟨g, 6, none⟩ (.int .i64 r.dp)) r ⟨aS, cS, aD, cD, aH, cH, aW, cW, aY, cY, aB, cB, aA, cA⟩ X col from (RD.out.setCell (q := ⟨g, 6, none⟩) HC.out (.int .i64 r.dp)).like rfl rfl rfl rfl rfl rfl rfl)
      have B1 := hid (show Below B w (w.setCell ⟨g, 6, none⟩ (.int .i64 r.dp)) from below_set (Below.refl B w) HG.out (.int .i64 r.dp))
      go_enter Tryz.func135, Tryz.ntmps135
      have HF := hid (show followR r b = hush (calmR r) by rw [followR_new h2, HRi.out])
      go_wp2_with fail
      refine (implQuiet B g r ⟨aS, cS, aD, cD, aH, cH, aW, cW, aY, cY, aB, cB, aA, cA⟩ X col _ HG.out K1.out HC.out H1.out).mono ?_
      rintro e w2 ⟨⟨v2, rfl⟩, p2, X2, col2, k2, has2, hc2, hb2, ot2⟩
      have H2 := hid has2
      have HC2 := hid hc2
      have B2 := hid (B1.out.trans hb2)
      have O2 := hid ot2
      have K2 := hid k2
      have S1 := hid (show w.heap.size = (w.setCell ⟨g, 6, none⟩ (.int .i64 r.dp)).heap.size by simp)
      clear has2 hc2 hb2 ot2 c1 f1 cK fK k1
      have c2 := k2.cell
      have f2 := k2.free
      go_wp2_with fail
      refine bodyPost_end (results_none rfl _ _ _) rfl ?_
      rw [HF.out]
      exact ⟨⟨_, rfl⟩, p2, X2, col2, blk_eq (K2.out.set (o := 17) (.int .i64 0)) (by simp [hush]), (H2.out.setCell (q := ⟨g, 17, none⟩) HC2.out (.int .i64 0)).like rfl rfl rfl rfl rfl rfl rfl, HC2.out, below_set B2.out HG.out _, fun x hx hne h8 => ⟨((heap_setCell_other _ ⟨g, 17, none⟩ x _ hne).trans (O2.out x (by rw [← S1.out]; exact hx) hne h8).1).trans (heap_setCell_other _ ⟨g, 6, none⟩ x _ hne), (O2.out x (by rw [← S1.out]; exact hx) hne h8).2⟩⟩
end Go.Proofs.YtffklmlljekceaaGreat
