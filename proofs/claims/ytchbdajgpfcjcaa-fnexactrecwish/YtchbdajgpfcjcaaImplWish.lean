/-
  impl.wish.
-/
import Derived.Test.YtchbdajgpfcjcaaSpecWish
namespace Go.Proofs.Ytchbdajgpfcjcaa
open Go.ChangeShapes Go.WideShapes Go.ChangeAt Go.RowKit
set_option linter.unusedVariables false
set_option linter.unusedSimpArgs false

theorem RcHas.low {B B' : Nat} {w : World} {r : Rc} {p : RcP} {X : RcX} {col : Nat → Nat} (h : RcHas B w r p X col) (hB : B' ≤ B) : RcHas B' w r p X col :=
  ⟨h.s.low hB, h.d.low hB, h.h.low hB, h.hm, ⟨fun m hm => (h.hi.row m hm).low hB, h.hi.apart⟩, h.t.low hB, h.y.low hB, h.b.low hB, h.a.low hB, h.am, ⟨fun m hm => (h.ai.row m hm).low hB, h.ai.apart⟩, h.gd⟩
theorem valid_knows {r : Rc} (h : validB r = true) : 0 ≤ r.dk ∧ r.dk ≤ r.ds.length ∧ r.ds.length ≤ 60 := by
  have hd : diskOkB r.dp r.dk r.ds = true := by
    cases hc : diskOkB r.dp r.dk r.ds
    · rw [nv_g2 hc] at h; cases h
    · rfl
  simp only [diskOkB, slotsOkB, Bool.and_eq_true, decide_eq_true_eq] at hd
  obtain ⟨⟨⟨_, ⟨h1, _⟩⟩, h2⟩, _⟩ := hd
  exact ⟨(inB_iff.1 h2).1, (inB_iff.1 h2).2, h1⟩
theorem wish_no6 {r : Rc} {t : ByteArray} (h : inB (t.size : Int) 1 100 = false) : wishR r t = r := wishR_no (by simp only [wishB, h, Bool.false_and])
theorem wish_yes6 {r : Rc} {t : ByteArray} (h1 : inB (t.size : Int) 1 100 = true) (h3 : ¬ (20 : Int) ≤ (r.wish.length : Int)) (h4 : hasSlot (r.ds.take r.dk.toNat) t = false) (h5 : hasB r.wish t = false) : wishR r t = { r with wish := r.wish ++ [t] } :=
  wish_yes (by have := (inB_iff.1 h1).1; omega) (by have := (inB_iff.1 h1).2; omega) h3 h4 h5
/-- the recorder in the block g has become r' -/
def BPost (B g : Nat) (w : World) (r' : Rc) (X : RcX) (w' : World) : Prop := ∃ p' col', Blk w' g (rcV r' p') 44 ∧ RcHas B w' r' p' X col' ∧ 8 < col' g ∧ Below B w w'

set_option maxHeartbeats 16000000 in
set_option maxRecDepth 20000 in
theorem implWish0 (B g : Nat) (r : Rc) (p : RcP) (X : RcX) (col : Nat → Nat) (t : ByteArray) (w : World) (hg : B ≤ g) (hk : Blk w g (rcV r p) 44) (hcol : 8 < col g) (hv : validB r = true) (ht : t.size ≤ 1048576) (h : RcHas B w r p X col) :
    Calls Try.prog 88 #[.pointer (some ⟨g, 0, none⟩), .string t] w fun e w' => (∃ v, e = .returned v) ∧ BPost B g w (wishR r t) X w' := by
  obtain ⟨aS, cS, aD, cD, aH, cH, aW, cW, aY, cY, aB, cB, aA, cA⟩ := p
  have RD := hid h.fresh
  have CG := hid (show 8 < colF w.heap.size col g by rw [colF_old hk.lt]; exact hcol)
  obtain ⟨hk0, hk1, hk2⟩ := valid_knows hv
  have HV := hid hv
  have HG := hid hg
  have HBs := hid (show B ≤ w.heap.size from Nat.le_trans hg (Nat.le_of_lt hk.lt))
  obtain ⟨k, hk9⟩ : ∃ k : Nat, r.dk = (k : Int) := ⟨r.dk.toNat, by omega⟩
  have hkn : k ≤ r.ds.length := by omega
  have TK := hid (show r.dk.toNat = k by omega)
  have HK := hid hk9
  have K1 := hid hk
  have hwl : r.wish.length ≤ 20 := by
    have h9 : wishesOkB r.wish = true := by
      cases hc : wishesOkB r.wish
      · rw [nv_g4 hc] at hv; cases hv
      · rfl
    simp only [wishesOkB, Bool.and_eq_true, decide_eq_true_eq] at h9
    exact h9.1
  clear h hk0 hk1 hk2 hk hcol hv hk9 hg
  have cK := K1.out.cell
  have same := hid (show BPost B g w r X w from ⟨⟨aS, cS, aD, cD, aH, cH, aW, cW, aY, cY, aB, cB, aA, cA⟩, _, K1.out, RD.out, CG.out, Below.refl _ _⟩)
  cases h1 : inB (t.size : Int) 1 100
  case false =>
    have H1 := hid (wish_no6 (r := r) h1)
    go_enter Try.func88, Try.ntmps88
    go_wp2_with (go_at_call 45; refine (within_any _ _ _ _).mono ?_; rintro e w' ⟨rfl, he⟩; have he' := he.symm; subst he'; clear he)
    refine bodyPost_end (results_none rfl _ _ _) rfl ?_
    rw [H1.out]
    exact ⟨⟨_, rfl⟩, same.out⟩
  by_cases h3 : (20 : Int) ≤ (r.wish.length : Int)
  · have H1 := hid (wish_no3 (t := t) h3)
    have h3' : ¬ (r.wish.length : Int) < 20 := by omega
    go_enter Try.func88, Try.ntmps88
    go_wp2_with (go_at_call 45; refine (within_any _ _ _ _).mono ?_; rintro e w' ⟨rfl, he⟩; have he' := he.symm; subst he'; clear he)
    refine bodyPost_end (results_none rfl _ _ _) rfl ?_
    rw [H1.out]
    exact ⟨⟨_, rfl⟩, same.out⟩
  have h3' : (r.wish.length : Int) < 20 := by omega
  have AW := hid (RD.out.at.hW)
  cases h5 : hasB r.wish t
  case true =>
    have H1 := hid (wish_no5 (r := r) (t := t) h5)
    go_enter Try.func88, Try.ntmps88
    go_wp2_with (first | (go_at_call 45; refine (within_any _ _ _ _).mono ?_; rintro e w' ⟨rfl, he⟩; have he' := he.symm; subst he'; clear he) | (go_at_call 94; refine (contains_any aW r.wish r.wish.length cW t _ rfl RD.out.at.lW AW.out).mono ?_; rintro e w' ⟨rfl, he⟩; have he' := he.symm; subst he'; clear he))
    refine bodyPost_end (results_none rfl _ _ _) rfl ?_
    rw [H1.out]
    exact ⟨⟨_, rfl⟩, same.out⟩
  have H5 := hid h5
  go_enter Try.func88, Try.ntmps88
  go_wp2_with (first | (go_at_call 45; refine (within_any _ _ _ _).mono ?_; rintro e w' ⟨rfl, he⟩; have he' := he.symm; subst he'; clear he) | (go_at_call 94; refine (contains_any aW r.wish r.wish.length cW t _ rfl RD.out.at.lW AW.out).mono ?_; rintro e w' ⟨rfl, he⟩; have he' := he.symm; subst he'; clear he))
  refine (knows_any r.dp r.dk aD r.ds r.ds.length cD k t _ rfl RD.out.at.lD HK.out hkn RD.out.d.len.2 RD.out.d.plain.1 RD.out.at.hD).mono ?_
  rintro e w1 ⟨rfl, hb1⟩
  have B1 := hid hb1
  have k1 := K1.out.ext hb1
  have K1b := hid k1
  clear hb1 cK
  cases h4 : hasText (r.ds.take k) t
  case true =>
    have H1 := hid (wish_no4 (r := r) (t := t) (by rw [← hasText_eq HV.out, TK.out]; exact h4))
    go_wp2
    refine bodyPost_end (results_none rfl _ _ _) rfl ?_
    rw [H1.out]
    exact ⟨⟨_, rfl⟩, ⟨aS, cS, aD, cD, aH, cH, aW, cW, aY, cY, aB, cB, aA, cA⟩, _, K1b.out, RD.out.ext B1.out, CG.out, B1.out.mono HBs.out⟩
  have H4 := hid (show hasSlot (r.ds.take r.dk.toNat) t = false by rw [← hasText_eq HV.out, TK.out]; exact h4)
  have H1 := hid (wish_yes6 h1 (by omega) H4.out H5.out)
  have HT := hid (show okS t by unfold okS maxLen; omega)
  clear h4
  have cK := k1.cell
  have OW := hid ((RD.out.ext (ext_alloc B1.out (.cells #[.string t] 9))).t.own)
  have GNE := hid (show some g ≠ (Value.slice aW r.wish.length cW).ownBlock from fun e => by
    have h9 := RD.out.t.col
    have h8 := CG.out
    cases hs : aW with
    | none => rw [hs] at e; simp [Value.ownBlock] at e
    | some y =>
      rw [hs] at e
      simp only [Value.ownBlock, Option.some.injEq] at e
      have h7 := h9 y hs
      rw [← e] at h7
      omega)
  have WB := hid (show ∀ j, (Value.slice aW r.wish.length cW).ownBlock = some j → B ≤ j from fun j hj => (RD.out.t.own.lt j hj).1)
  have NEWS := hid (show ReadAt (w1.alloc (.cells #[.string t] 9)) (some ⟨w1.heap.size, 0, none⟩) 1 1 1 [.string t] from
    ⟨rfl, fun e => by simp at e, fun x hx => by
      simp only [Option.some.injEq] at hx
      subst hx
      exact ⟨rfl, blk_news (Blk.new w1 #[.string t] 9)⟩⟩)
  go_wp2_with (first
    | ((with_reducible refine wpList_appT B aW r.wish.length cW (flatT r.wish) (some ⟨w1.heap.size, 0, none⟩) 1 1 [.string t] ?_ ?_ ?_ ?_ ?_ ?_ ?_ ?_); (· rfl); (· rfl); (· exact OW.out); (· exact NEWS.out); (· intro u hu; simp at hu; subst hu; rfl); (· omega); (· have h9 := HBs.out; have h8 := B1.out.size; simp; omega); (intro a' c' w2 q1 q2 q3); (have K1c := hid (show Blk w2 g (rcV r ⟨aS, cS, aD, cD, aH, cH, aW, cW, aY, cY, aB, cB, aA, cA⟩) 44 from (q2.block g (k1.alloc (.cells #[.string t] 9)).lt GNE.out).trans (k1.alloc (.cells #[.string t] 9)))); (have HAS := hid (RcHas.growT (RD.out.ext (ext_alloc B1.out (.cells #[.string t] 9))) (l := r.wish ++ [t]) q2 (by (simp only [List.length_append, List.length_cons, List.length_nil, flatT, List.map_append, List.map_cons, List.map_nil]; exact q1)) q3 (goodT_snoc RD.out.gd.t HT.out))); (have B3 := hid (below_grow ((ext_alloc B1.out (.cells #[.string t] 9)).mono HBs.out) q2 WB.out (by have h9 := HBs.out; have h8 := B1.out.size; simp; omega))); (have NW := hid (show 8 < colN a' 3 (colF w.heap.size col) g by (rw [colN_else (fun x hx he => by (rcases q3 x hx with ⟨y, hy, hyx⟩ | hnew; (· have h9 := RD.out.t.col y hy; have h8 := CG.out; rw [hyx, he] at h9; omega); (· have h9 := K1.out.lt; have h8 := B1.out.size; simp at hnew; omega)))]; exact CG.out))); (clear q1 q2 q3 k1 cK); (have eqC : (rcV { r with wish := r.wish ++ [t] } ⟨aS, cS, aD, cD, aH, cH, a', c', aY, cY, aB, cB, aA, cA⟩) = (rcV r ⟨aS, cS, aD, cD, aH, cH, aW, cW, aY, cY, aB, cB, aA, cA⟩).setIfInBounds 10 (.slice a' (r.wish.length + 1) c') := by simp); (have k1 : Blk (w2.setCell ⟨g, 10, none⟩ (.slice a' (r.wish.length + 1) c')) g (rcV { r with wish := r.wish ++ [t] } ⟨aS, cS, aD, cD, aH, cH, a', c', aY, cY, aB, cB, aA, cA⟩) 44 := by (rw [eqC]; exact K1c.out.set (o := 10) (.slice a' (r.wish.length + 1) c'))); (clear eqC); (have cK := K1c.out.cell); (have fK := K1c.out.free)))
  refine bodyPost_end (results_none rfl _ _ _) rfl ?_
  rw [H1.out]
  exact ⟨⟨_, rfl⟩, ⟨aS, cS, aD, cD, aH, cH, a', c', aY, cY, aB, cB, aA, cA⟩, _, k1, HAS.out.setCell (q := ⟨g, 10, none⟩) NW.out _, NW.out, below_set B3.out HG.out _⟩

end Go.Proofs.Ytchbdajgpfcjcaa
