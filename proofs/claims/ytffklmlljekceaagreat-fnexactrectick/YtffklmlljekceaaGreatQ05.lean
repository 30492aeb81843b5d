import Derived.Test.YtffklmlljekceaaGreatQ04
namespace Go.Proofs.YtffklmlljekceaaGreat
open Go.ChangeShapes Go.WideShapes Go.ChangeAt Go.RowKit Go.Deep Go.Joins
set_option linter.unusedSimpArgs false
set_option linter.unusedVariables false
set_option maxHeartbeats 8000000
def MsgsOwnB (B : Nat) (w : World) (g : Nat) (l : List Ms) : Prop := ∃ C G, Blk w g C 45 ∧ MsgsTo w g C G l l.length ∧ ∀ i, i < l.length → G i < B
theorem MsgsOwnB.of {w : World} {g : Nat} {l : List Ms} (h : MsgsOwn w g l) : MsgsOwnB w.heap.size w g l := by
 obtain ⟨C, G, h1, hz, hc⟩ := h
 refine ⟨C, G, h1, ⟨hz, hc⟩, fun i hi => ?_⟩
 obtain ⟨c0, c1, c2, c3, c4, c5, c6, c7, q1, q2, q3⟩ := hc i _ hi (List.getElem?_eq_getElem hi)
 exact q1.lt
theorem MsgsOwnB.own {B : Nat} {w : World} {g : Nat} {l : List Ms} (h : MsgsOwnB B w g l) : MsgsOwn w g l := by
 obtain ⟨C, G, h1, h2, h3⟩ := h
 exact ⟨C, G, h1, h2⟩
theorem MsgsOwnB.at {B : Nat} {w : World} {g : Nat} {l : List Ms} (h : MsgsOwnB B w g l) (hg : MsgsGood l) : MsgsAt w (some ⟨g, 0, none⟩) l := h.own.at hg
theorem MsgsOwnB.ext {B : Nat} {w w' : World} {g : Nat} {l : List Ms} (h : MsgsOwnB B w g l) (hb : Below w.heap.size w w') : MsgsOwnB B w' g l := by
 obtain ⟨C, G, h1, ⟨hz, hc⟩, h3⟩ := h
 refine ⟨C, G, h1.ext hb, ⟨hz, fun i s hi hs => ?_⟩, h3⟩
 obtain ⟨c0, c1, c2, c3, c4, c5, c6, c7, q1, q2, q3⟩ := hc i s hi hs
 exact ⟨c0, c1, c2, c3, c4, c5, c6, c7, q1.ext hb, q2, q3⟩
theorem MsgsOwnB.same {B : Nat} {w w' : World} {g : Nat} {l : List Ms} (h : MsgsOwnB B w g l) (hs : ∀ b, g ≤ b → w'.heap[b]? = w.heap[b]?) : MsgsOwnB B w' g l := by
 obtain ⟨C, G, h1, ⟨hz, hc⟩, h3⟩ := h
 refine ⟨C, G, (hs g (Nat.le_refl _)).trans h1, ⟨hz, fun i s hi hs' => ?_⟩, h3⟩
 obtain ⟨c0, c1, c2, c3, c4, c5, c6, c7, q1, q2, q3⟩ := hc i s hi hs'
 exact ⟨c0, c1, c2, c3, c4, c5, c6, c7, q1.same (fun b hb => hs b (by omega)), q2, q3⟩
theorem MsgsOwnB.lt {B : Nat} {w : World} {g : Nat} {l : List Ms} (h : MsgsOwnB B w g l) : g < w.heap.size := by
 obtain ⟨C, G, h1, _⟩ := h
 exact Blk.lt h1
def RcOwn (w : World) (r : Rc) (p : RcP) : Prop := ∃ gS gD gH BH gW gY gB gA, p = ⟨some ⟨gS, 0, none⟩, r.ss.length, some ⟨gD, 0, none⟩, r.ds.length, some ⟨gH, 0, none⟩, r.held.length, some ⟨gW, 0, none⟩, r.wish.length, some ⟨gY, 0, none⟩, r.yes.length, some ⟨gB, 0, none⟩, r.best.length, some ⟨gA, 0, none⟩, r.acks.length⟩ ∧
 (gS < gD ∧ gD < gH ∧ gH < BH ∧ BH ≤ gW ∧ gW < gY ∧ gY < gB ∧ gB < gA) ∧ SlotsOwn w gS r.ss ∧ SlotsOwn w gD r.ds ∧ MsgsOwnB BH w gH r.held ∧ StrsOwn w gW r.wish ∧ IntsOwn w gY r.yes ∧ SlotsOwn w gB r.best ∧ AcksOwn w gA r.acks
theorem toRecO (r : Rc) (p : RcP) (w : World) (hS : RcSmall r) (h : RcAt w r p) :
  Calls Tryz.prog 8 #[.agg (rcV r p)] w fun e w' => ∃ p', e = .returned (.agg (rcV r p')) ∧ RcAt w' r p' ∧ r.wish.length ≤ p'.cW ∧ Below w.heap.size w w' ∧ RcOwn w' r p' ∧ (∀ x, p'.aS = some x → w.heap.size ≤ x.block) := by
 have hB0 : Below w.heap.size w (((w.alloc (.cells (rcV r p) 30)).alloc (.cells zRc 41)).alloc (.cells #[.int .i64 r.num, .int .i64 r.of_, .bool r.up, .int .i64 0, .int .i64 0, .slice none 0 0, .int .i64 0, .int .i64 0, .slice none 0 0, .slice none 0 0, .slice none 0 0, .bool false, .bool false, .int .i64 0, .slice none 0 0, .slice none 0 0, .slice none 0 0, .int .i64 0] 41)) := ext_alloc (ext_alloc (ext_alloc (Below.refl _ _) _) _) _
 have k0 : Blk (((w.alloc (.cells (rcV r p) 30)).alloc (.cells zRc 41)).alloc (.cells #[.int .i64 r.num, .int .i64 r.of_, .bool r.up, .int .i64 0, .int .i64 0, .slice none 0 0, .int .i64 0, .int .i64 0, .slice none 0 0, .slice none 0 0, .slice none 0 0, .bool false, .bool false, .int .i64 0, .slice none 0 0, .slice none 0 0, .slice none 0 0, .int .i64 0] 41)) w.heap.size (rcV r p) 30 := ((Blk.new w _ _).alloc _).alloc _
 have k1 : Blk (((w.alloc (.cells (rcV r p) 30)).alloc (.cells zRc 41)).alloc (.cells #[.int .i64 r.num, .int .i64 r.of_, .bool r.up, .int .i64 0, .int .i64 0, .slice none 0 0, .int .i64 0, .int .i64 0, .slice none 0 0, .slice none 0 0, .slice none 0 0, .bool false, .bool false, .int .i64 0, .slice none 0 0, .slice none 0 0, .slice none 0 0, .int .i64 0] 41)) (w.heap.size + 1) zRc 41 := (Blk.new' _ _ (by simp)).alloc _
 have k2 : Blk (((w.alloc (.cells (rcV r p) 30)).alloc (.cells zRc 41)).alloc (.cells #[.int .i64 r.num, .int .i64 r.of_, .bool r.up, .int .i64 0, .int .i64 0, .slice none 0 0, .int .i64 0, .int .i64 0, .slice none 0 0, .slice none 0 0, .slice none 0 0, .bool false, .bool false, .int .i64 0, .slice none 0 0, .slice none 0 0, .slice none 0 0, .int .i64 0] 41)) (w.heap.size + 1 + 1) #[.int .i64 r.num, .int .i64 r.of_, .bool r.up, .int .i64 0, .int .i64 0, .slice none 0 0, .int .i64 0, .int .i64 0, .slice none 0 0, .slice none 0 0, .slice none 0 0, .bool false, .bool false, .int .i64 0, .slice none 0 0, .slice none 0 0, .slice none 0 0, .int .i64 0] 41 := Blk.new' _ _ (by simp)
 have hRv := h.ext hB0
 have hsz : w.heap.size + 1 + 1 < (((w.alloc (.cells (rcV r p) 30)).alloc (.cells zRc 41)).alloc (.cells #[.int .i64 r.num, .int .i64 r.of_, .bool r.up, .int .i64 0, .int .i64 0, .slice none 0 0, .int .i64 0, .int .i64 0, .slice none 0 0, .slice none 0 0, .slice none 0 0, .bool false, .bool false, .int .i64 0, .slice none 0 0, .slice none 0 0, .slice none 0 0, .int .i64 0] 41)).heap.size := k2.lt
 go_enter Tryz.func8, Tryz.ntmps8
 go_wp2_with fail
 refine (toDisk _ _ p.aS r.ss _ p.cS _ rfl hS.lS (by exact hRv.hS)).mono ?_
 rintro e w0 ⟨gS, rfl, hgS, oS, hb0⟩
 have iS : w.heap.size + 1 + 1 < gS := Nat.lt_of_lt_of_le hsz hgS
 have B0 := ext_trans hB0 hb0
 have m0 := k0.ext hb0
 have m1 := k1.ext hb0
 have m2 := k2.ext hb0
 clear k0 k1 k2 hRv hsz hgS
 have c0 := m0.cell
 have c2 := m2.cell
 have f2 := m2.free
 have k0 : Blk (((w0.setCell ⟨w.heap.size + 1 + 1, 3, none⟩ (.int .i64 r.sp)).setCell ⟨w.heap.size + 1 + 1, 4, none⟩ (.int .i64 r.sk)).setCell ⟨w.heap.size + 1 + 1, 5, none⟩ (.slice (some ⟨gS, 0, none⟩) r.ss.length r.ss.length)) w.heap.size (rcV r p) 30 := (((m0.setCell (by simp; try omega) _).setCell (by simp; try omega) _).setCell (by simp; try omega) _)
 have k1 : Blk (((w0.setCell ⟨w.heap.size + 1 + 1, 3, none⟩ (.int .i64 r.sp)).setCell ⟨w.heap.size + 1 + 1, 4, none⟩ (.int .i64 r.sk)).setCell ⟨w.heap.size + 1 + 1, 5, none⟩ (.slice (some ⟨gS, 0, none⟩) r.ss.length r.ss.length)) (w.heap.size + 1) zRc 41 := (((m1.setCell (by simp; try omega) _).setCell (by simp; try omega) _).setCell (by simp; try omega) _)
 have k2 : Blk (((w0.setCell ⟨w.heap.size + 1 + 1, 3, none⟩ (.int .i64 r.sp)).setCell ⟨w.heap.size + 1 + 1, 4, none⟩ (.int .i64 r.sk)).setCell ⟨w.heap.size + 1 + 1, 5, none⟩ (.slice (some ⟨gS, 0, none⟩) r.ss.length r.ss.length)) (w.heap.size + 1 + 1) #[.int .i64 r.num, .int .i64 r.of_, .bool r.up, .int .i64 r.sp, .int .i64 r.sk, .slice (some ⟨gS, 0, none⟩) r.ss.length r.ss.length, .int .i64 0, .int .i64 0, .slice none 0 0, .slice none 0 0, .slice none 0 0, .bool false, .bool false, .int .i64 0, .slice none 0 0, .slice none 0 0, .slice none 0 0, .int .i64 0] 41 := by
  have := (heap_setCell_same _ _ 5 _ _ (.slice (some ⟨gS, 0, none⟩) r.ss.length r.ss.length) (heap_setCell_same _ _ 4 _ _ (.int .i64 r.sk) (heap_setCell_same _ _ 3 _ _ (.int .i64 r.sp) m2)))
  simpa using this
 have V0 : Below w.heap.size w (((w0.setCell ⟨w.heap.size + 1 + 1, 3, none⟩ (.int .i64 r.sp)).setCell ⟨w.heap.size + 1 + 1, 4, none⟩ (.int .i64 r.sk)).setCell ⟨w.heap.size + 1 + 1, 5, none⟩ (.slice (some ⟨gS, 0, none⟩) r.ss.length r.ss.length)) := (((B0.setCell (by simp; try omega) _).setCell (by simp; try omega) _).setCell (by simp; try omega) _)
 have tS : SlotsOwn (((w0.setCell ⟨w.heap.size + 1 + 1, 3, none⟩ (.int .i64 r.sp)).setCell ⟨w.heap.size + 1 + 1, 4, none⟩ (.int .i64 r.sk)).setCell ⟨w.heap.size + 1 + 1, 5, none⟩ (.slice (some ⟨gS, 0, none⟩) r.ss.length r.ss.length)) gS r.ss := oS.same (same_setCell (same_setCell (same_setCell (fun b _ => rfl) (by simp; omega) _) (by simp; omega) _) (by simp; omega) _)
 clear oS
 have oS := tS
 clear tS
 have hRv := h.ext V0
 have hsz : w.heap.size + 1 + 1 < (((w0.setCell ⟨w.heap.size + 1 + 1, 3, none⟩ (.int .i64 r.sp)).setCell ⟨w.heap.size + 1 + 1, 4, none⟩ (.int .i64 r.sk)).setCell ⟨w.heap.size + 1 + 1, 5, none⟩ (.slice (some ⟨gS, 0, none⟩) r.ss.length r.ss.length)).heap.size := k2.lt
 clear m0 m1 m2 hb0 B0
 have HK : Hid True := trivial
 clear HK
 go_wp2_with fail
 clear c0 c2 f2
 refine (toDisk _ _ p.aD r.ds _ p.cD _ rfl hS.lD (by exact hRv.hD)).mono ?_
 rintro e w1 ⟨gD, rfl, hgD, oD, hb1⟩
 have iD : w.heap.size + 1 + 1 < gD := Nat.lt_of_lt_of_le hsz hgD
 have lD : gS < gD := Nat.lt_of_lt_of_le oS.lt hgD
 have B1 := ext_trans V0 hb1
 have m0 := k0.ext hb1
 have m1 := k1.ext hb1
 have m2 := k2.ext hb1
 have oS' := oS.ext hb1
 clear k0 k1 k2 hRv hsz hgD oS
 clear V0
 have c0 := m0.cell
 have c2 := m2.cell
 have f2 := m2.free
 have k0 : Blk (((w1.setCell ⟨w.heap.size + 1 + 1, 6, none⟩ (.int .i64 r.dp)).setCell ⟨w.heap.size + 1 + 1, 7, none⟩ (.int .i64 r.dk)).setCell ⟨w.heap.size + 1 + 1, 8, none⟩ (.slice (some ⟨gD, 0, none⟩) r.ds.length r.ds.length)) w.heap.size (rcV r p) 30 := (((m0.setCell (by simp; try omega) _).setCell (by simp; try omega) _).setCell (by simp; try omega) _)
 have k1 : Blk (((w1.setCell ⟨w.heap.size + 1 + 1, 6, none⟩ (.int .i64 r.dp)).setCell ⟨w.heap.size + 1 + 1, 7, none⟩ (.int .i64 r.dk)).setCell ⟨w.heap.size + 1 + 1, 8, none⟩ (.slice (some ⟨gD, 0, none⟩) r.ds.length r.ds.length)) (w.heap.size + 1) zRc 41 := (((m1.setCell (by simp; try omega) _).setCell (by simp; try omega) _).setCell (by simp; try omega) _)
 have k2 : Blk (((w1.setCell ⟨w.heap.size + 1 + 1, 6, none⟩ (.int .i64 r.dp)).setCell ⟨w.heap.size + 1 + 1, 7, none⟩ (.int .i64 r.dk)).setCell ⟨w.heap.size + 1 + 1, 8, none⟩ (.slice (some ⟨gD, 0, none⟩) r.ds.length r.ds.length)) (w.heap.size + 1 + 1) #[.int .i64 r.num, .int .i64 r.of_, .bool r.up, .int .i64 r.sp, .int .i64 r.sk, .slice (some ⟨gS, 0, none⟩) r.ss.length r.ss.length, .int .i64 r.dp, .int .i64 r.dk, .slice (some ⟨gD, 0, none⟩) r.ds.length r.ds.length, .slice none 0 0, .slice none 0 0, .bool false, .bool false, .int .i64 0, .slice none 0 0, .slice none 0 0, .slice none 0 0, .int .i64 0] 41 := by
  have := (heap_setCell_same _ _ 8 _ _ (.slice (some ⟨gD, 0, none⟩) r.ds.length r.ds.length) (heap_setCell_same _ _ 7 _ _ (.int .i64 r.dk) (heap_setCell_same _ _ 6 _ _ (.int .i64 r.dp) m2)))
  simpa using this
 have V1 : Below w.heap.size w (((w1.setCell ⟨w.heap.size + 1 + 1, 6, none⟩ (.int .i64 r.dp)).setCell ⟨w.heap.size + 1 + 1, 7, none⟩ (.int .i64 r.dk)).setCell ⟨w.heap.size + 1 + 1, 8, none⟩ (.slice (some ⟨gD, 0, none⟩) r.ds.length r.ds.length)) := (((B1.setCell (by simp; try omega) _).setCell (by simp; try omega) _).setCell (by simp; try omega) _)
 have tS : SlotsOwn (((w1.setCell ⟨w.heap.size + 1 + 1, 6, none⟩ (.int .i64 r.dp)).setCell ⟨w.heap.size + 1 + 1, 7, none⟩ (.int .i64 r.dk)).setCell ⟨w.heap.size + 1 + 1, 8, none⟩ (.slice (some ⟨gD, 0, none⟩) r.ds.length r.ds.length)) gS r.ss := oS'.same (same_setCell (same_setCell (same_setCell (fun b _ => rfl) (by simp; omega) _) (by simp; omega) _) (by simp; omega) _)
 have tD : SlotsOwn (((w1.setCell ⟨w.heap.size + 1 + 1, 6, none⟩ (.int .i64 r.dp)).setCell ⟨w.heap.size + 1 + 1, 7, none⟩ (.int .i64 r.dk)).setCell ⟨w.heap.size + 1 + 1, 8, none⟩ (.slice (some ⟨gD, 0, none⟩) r.ds.length r.ds.length)) gD r.ds := oD.same (same_setCell (same_setCell (same_setCell (fun b _ => rfl) (by simp; omega) _) (by simp; omega) _) (by simp; omega) _)
 clear oS'
 have oS := tS
 clear tS
 clear oD
 have oD := tD
 clear tD
 have hRv := h.ext V1
 have hsz : w.heap.size + 1 + 1 < (((w1.setCell ⟨w.heap.size + 1 + 1, 6, none⟩ (.int .i64 r.dp)).setCell ⟨w.heap.size + 1 + 1, 7, none⟩ (.int .i64 r.dk)).setCell ⟨w.heap.size + 1 + 1, 8, none⟩ (.slice (some ⟨gD, 0, none⟩) r.ds.length r.ds.length)).heap.size := k2.lt
 clear m0 m1 m2 hb1 B1
 have HK : Hid True := trivial
 clear HK
 go_wp2_with fail
 clear c0 c2 f2
 refine (toMsgs p.aH r.held _ p.cH _ rfl hS.lH hS.nH (by exact hRv.hH)).mono ?_
 rintro e w2 ⟨gH, rfl, hgH, oH, hb2⟩
 have iH : w.heap.size + 1 + 1 < gH := Nat.lt_of_lt_of_le hsz hgH
 have lH : gD < gH := Nat.lt_of_lt_of_le oD.lt hgH
 obtain ⟨BH, hBH⟩ : ∃ B, B = w2.heap.size := ⟨_, rfl⟩
 have oHb := MsgsOwnB.of oH
 rw [← hBH] at oHb
 have lB : gH < BH := by rw [hBH]; exact oHb.lt
 clear oH
 have oH := oHb
 clear oHb
 have B2 := ext_trans V1 hb2
 have m0 := k0.ext hb2
 have m1 := k1.ext hb2
 have m2 := k2.ext hb2
 have oS' := oS.ext hb2
 have oD' := oD.ext hb2
 clear k0 k1 k2 hRv hsz hgH oS oD
 clear V1
 have c0 := m0.cell
 have c2 := m2.cell
 have f2 := m2.free
 have k0 : Blk (w2.setCell ⟨w.heap.size + 1 + 1, 9, none⟩ (.slice (some ⟨gH, 0, none⟩) r.held.length r.held.length)) w.heap.size (rcV r p) 30 := (m0.setCell (by simp; try omega) _)
 have k1 : Blk (w2.setCell ⟨w.heap.size + 1 + 1, 9, none⟩ (.slice (some ⟨gH, 0, none⟩) r.held.length r.held.length)) (w.heap.size + 1) zRc 41 := (m1.setCell (by simp; try omega) _)
 have k2 : Blk (w2.setCell ⟨w.heap.size + 1 + 1, 9, none⟩ (.slice (some ⟨gH, 0, none⟩) r.held.length r.held.length)) (w.heap.size + 1 + 1) #[.int .i64 r.num, .int .i64 r.of_, .bool r.up, .int .i64 r.sp, .int .i64 r.sk, .slice (some ⟨gS, 0, none⟩) r.ss.length r.ss.length, .int .i64 r.dp, .int .i64 r.dk, .slice (some ⟨gD, 0, none⟩) r.ds.length r.ds.length, .slice (some ⟨gH, 0, none⟩) r.held.length r.held.length, .slice none 0 0, .bool false, .bool false, .int .i64 0, .slice none 0 0, .slice none 0 0, .slice none 0 0, .int .i64 0] 41 := by
  have := (heap_setCell_same _ _ 9 _ _ (.slice (some ⟨gH, 0, none⟩) r.held.length r.held.length) m2)
  simpa using this
 have V2 : Below w.heap.size w (w2.setCell ⟨w.heap.size + 1 + 1, 9, none⟩ (.slice (some ⟨gH, 0, none⟩) r.held.length r.held.length)) := (B2.setCell (by simp; try omega) _)
 have tS : SlotsOwn (w2.setCell ⟨w.heap.size + 1 + 1, 9, none⟩ (.slice (some ⟨gH, 0, none⟩) r.held.length r.held.length)) gS r.ss := oS'.same (same_setCell (fun b _ => rfl) (by simp; omega) _)
 have tD : SlotsOwn (w2.setCell ⟨w.heap.size + 1 + 1, 9, none⟩ (.slice (some ⟨gH, 0, none⟩) r.held.length r.held.length)) gD r.ds := oD'.same (same_setCell (fun b _ => rfl) (by simp; omega) _)
 have tH : MsgsOwnB BH (w2.setCell ⟨w.heap.size + 1 + 1, 9, none⟩ (.slice (some ⟨gH, 0, none⟩) r.held.length r.held.length)) gH r.held := oH.same (same_setCell (fun b _ => rfl) (by simp; omega) _)
 clear oS'
 have oS := tS
 clear tS
 clear oD'
 have oD := tD
 clear tD
 clear oH
 have oH := tH
 clear tH
 have hRv := h.ext V2
 have hsz : w.heap.size + 1 + 1 < (w2.setCell ⟨w.heap.size + 1 + 1, 9, none⟩ (.slice (some ⟨gH, 0, none⟩) r.held.length r.held.length)).heap.size := k2.lt
 clear m0 m1 m2 hb2 B2
 have HK : Hid True := trivial
 clear HK
 go_wp2_with fail
 clear c0 c2 f2
 refine (toStrs p.aW r.wish _ p.cW _ rfl hS.lW (by exact hRv.hW)).mono ?_
 rintro e w3 ⟨gW, rfl, hgW, oW, hb3⟩
 have iW : w.heap.size + 1 + 1 < gW := Nat.lt_of_lt_of_le hsz hgW
 have lW : BH ≤ gW := by have h9 := hgW; simp at h9; omega
 have B3 := ext_trans V2 hb3
 have m0 := k0.ext hb3
 have m1 := k1.ext hb3
 have m2 := k2.ext hb3
 have oS' := oS.ext hb3
 have oD' := oD.ext hb3
 have oH' := oH.ext hb3
 clear k0 k1 k2 hRv hsz hgW oS oD oH
 clear V2
 have c0 := m0.cell
 have c2 := m2.cell
 have f2 := m2.free
 have k0 : Blk ((((w3.setCell ⟨w.heap.size + 1 + 1, 10, none⟩ (.slice (some ⟨gW, 0, none⟩) r.wish.length r.wish.length)).setCell ⟨w.heap.size + 1 + 1, 11, none⟩ (.bool r.lead)).setCell ⟨w.heap.size + 1 + 1, 12, none⟩ (.bool r.tr)).setCell ⟨w.heap.size + 1 + 1, 13, none⟩ (.int .i64 r.ball)) w.heap.size (rcV r p) 30 := ((((m0.setCell (by simp; try omega) _).setCell (by simp; try omega) _).setCell (by simp; try omega) _).setCell (by simp; try omega) _)
 have k1 : Blk ((((w3.setCell ⟨w.heap.size + 1 + 1, 10, none⟩ (.slice (some ⟨gW, 0, none⟩) r.wish.length r.wish.length)).setCell ⟨w.heap.size + 1 + 1, 11, none⟩ (.bool r.lead)).setCell ⟨w.heap.size + 1 + 1, 12, none⟩ (.bool r.tr)).setCell ⟨w.heap.size + 1 + 1, 13, none⟩ (.int .i64 r.ball)) (w.heap.size + 1) zRc 41 := ((((m1.setCell (by simp; try omega) _).setCell (by simp; try omega) _).setCell (by simp; try omega) _).setCell (by simp; try omega) _)
 have k2 : Blk ((((w3.setCell ⟨w.heap.size + 1 + 1, 10, none⟩ (.slice (some ⟨gW, 0, none⟩) r.wish.length r.wish.length)).setCell ⟨w.heap.size + 1 + 1, 11, none⟩ (.bool r.lead)).setCell ⟨w.heap.size + 1 + 1, 12, none⟩ (.bool r.tr)).setCell ⟨w.heap.size + 1 + 1, 13, none⟩ (.int .i64 r.ball)) (w.heap.size + 1 + 1) #[.int .i64 r.num, .int .i64 r.of_, .bool r.up, .int .i64 r.sp, .int .i64 r.sk, .slice (some ⟨gS, 0, none⟩) r.ss.length r.ss.length, .int .i64 r.dp, .int .i64 r.dk, .slice (some ⟨gD, 0, none⟩) r.ds.length r.ds.length, .slice (some ⟨gH, 0, none⟩) r.held.length r.held.length, .slice (some ⟨gW, 0, none⟩) r.wish.length r.wish.length, .bool r.lead, .bool r.tr, .int .i64 r.ball, .slice none 0 0, .slice none 0 0, .slice none 0 0, .int .i64 0] 41 := by
  have := (heap_setCell_same _ _ 13 _ _ (.int .i64 r.ball) (heap_setCell_same _ _ 12 _ _ (.bool r.tr) (heap_setCell_same _ _ 11 _ _ (.bool r.lead) (heap_setCell_same _ _ 10 _ _ (.slice (some ⟨gW, 0, none⟩) r.wish.length r.wish.length) m2))))
  simpa using this
 have V3 : Below w.heap.size w ((((w3.setCell ⟨w.heap.size + 1 + 1, 10, none⟩ (.slice (some ⟨gW, 0, none⟩) r.wish.length r.wish.length)).setCell ⟨w.heap.size + 1 + 1, 11, none⟩ (.bool r.lead)).setCell ⟨w.heap.size + 1 + 1, 12, none⟩ (.bool r.tr)).setCell ⟨w.heap.size + 1 + 1, 13, none⟩ (.int .i64 r.ball)) := ((((B3.setCell (by simp; try omega) _).setCell (by simp; try omega) _).setCell (by simp; try omega) _).setCell (by simp; try omega) _)
 have tS : SlotsOwn ((((w3.setCell ⟨w.heap.size + 1 + 1, 10, none⟩ (.slice (some ⟨gW, 0, none⟩) r.wish.length r.wish.length)).setCell ⟨w.heap.size + 1 + 1, 11, none⟩ (.bool r.lead)).setCell ⟨w.heap.size + 1 + 1, 12, none⟩ (.bool r.tr)).setCell ⟨w.heap.size + 1 + 1, 13, none⟩ (.int .i64 r.ball)) gS r.ss := oS'.same (same_setCell (same_setCell (same_setCell (same_setCell (fun b _ => rfl) (by simp; omega) _) (by simp; omega) _) (by simp; omega) _) (by simp; omega) _)
 have tD : SlotsOwn ((((w3.setCell ⟨w.heap.size + 1 + 1, 10, none⟩ (.slice (some ⟨gW, 0, none⟩) r.wish.length r.wish.length)).setCell ⟨w.heap.size + 1 + 1, 11, none⟩ (.bool r.lead)).setCell ⟨w.heap.size + 1 + 1, 12, none⟩ (.bool r.tr)).setCell ⟨w.heap.size + 1 + 1, 13, none⟩ (.int .i64 r.ball)) gD r.ds := oD'.same (same_setCell (same_setCell (same_setCell (same_setCell (fun b _ => rfl) (by simp; omega) _) (by simp; omega) _) (by simp; omega) _) (by simp; omega) _)
 have tH : MsgsOwnB BH ((((w3.setCell ⟨w.heap.size + 1 + 1, 10, none⟩ (.slice (some ⟨gW, 0, none⟩) r.wish.length r.wish.length)).setCell ⟨w.heap.size + 1 + 1, 11, none⟩ (.bool r.lead)).setCell ⟨w.heap.size + 1 + 1, 12, none⟩ (.bool r.tr)).setCell ⟨w.heap.size + 1 + 1, 13, none⟩ (.int .i64 r.ball)) gH r.held := oH'.same (same_setCell (same_setCell (same_setCell (same_setCell (fun b _ => rfl) (by simp; omega) _) (by simp; omega) _) (by simp; omega) _) (by simp; omega) _)
 have tW : StrsOwn ((((w3.setCell ⟨w.heap.size + 1 + 1, 10, none⟩ (.slice (some ⟨gW, 0, none⟩) r.wish.length r.wish.length)).setCell ⟨w.heap.size + 1 + 1, 11, none⟩ (.bool r.lead)).setCell ⟨w.heap.size + 1 + 1, 12, none⟩ (.bool r.tr)).setCell ⟨w.heap.size + 1 + 1, 13, none⟩ (.int .i64 r.ball)) gW r.wish := oW.same (same_setCell (same_setCell (same_setCell (same_setCell (fun b _ => rfl) (by simp; omega) _) (by simp; omega) _) (by simp; omega) _) (by simp; omega) _)
 clear oS'
 have oS := tS
 clear tS
 clear oD'
 have oD := tD
 clear tD
 clear oH'
 have oH := tH
 clear tH
 clear oW
 have oW := tW
 clear tW
 have hRv := h.ext V3
 have hsz : w.heap.size + 1 + 1 < ((((w3.setCell ⟨w.heap.size + 1 + 1, 10, none⟩ (.slice (some ⟨gW, 0, none⟩) r.wish.length r.wish.length)).setCell ⟨w.heap.size + 1 + 1, 11, none⟩ (.bool r.lead)).setCell ⟨w.heap.size + 1 + 1, 12, none⟩ (.bool r.tr)).setCell ⟨w.heap.size + 1 + 1, 13, none⟩ (.int .i64 r.ball)).heap.size := k2.lt
 clear m0 m1 m2 hb3 B3
 have HK : Hid True := trivial
 clear HK
 go_wp2_with fail
 clear c0 c2 f2
 refine (toInts p.aY r.yes _ p.cY _ rfl hS.lY (by exact hRv.hY)).mono ?_
 rintro e w4 ⟨gY, rfl, hgY, oY, hb4⟩
 have iY : w.heap.size + 1 + 1 < gY := Nat.lt_of_lt_of_le hsz hgY
 have lY : gW < gY := Nat.lt_of_lt_of_le oW.lt hgY
 have B4 := ext_trans V3 hb4
 have m0 := k0.ext hb4
 have m1 := k1.ext hb4
 have m2 := k2.ext hb4
 have oS' := oS.ext hb4
 have oD' := oD.ext hb4
 have oH' := oH.ext hb4
 have oW' := oW.ext hb4
 clear k0 k1 k2 hRv hsz hgY oS oD oH oW
 clear V3
 have c0 := m0.cell
 have c2 := m2.cell
 have f2 := m2.free
 have k0 : Blk (w4.setCell ⟨w.heap.size + 1 + 1, 14, none⟩ (.slice (some ⟨gY, 0, none⟩) r.yes.length r.yes.length)) w.heap.size (rcV r p) 30 := (m0.setCell (by simp; try omega) _)
 have k1 : Blk (w4.setCell ⟨w.heap.size + 1 + 1, 14, none⟩ (.slice (some ⟨gY, 0, none⟩) r.yes.length r.yes.length)) (w.heap.size + 1) zRc 41 := (m1.setCell (by simp; try omega) _)
 have k2 : Blk (w4.setCell ⟨w.heap.size + 1 + 1, 14, none⟩ (.slice (some ⟨gY, 0, none⟩) r.yes.length r.yes.length)) (w.heap.size + 1 + 1) #[.int .i64 r.num, .int .i64 r.of_, .bool r.up, .int .i64 r.sp, .int .i64 r.sk, .slice (some ⟨gS, 0, none⟩) r.ss.length r.ss.length, .int .i64 r.dp, .int .i64 r.dk, .slice (some ⟨gD, 0, none⟩) r.ds.length r.ds.length, .slice (some ⟨gH, 0, none⟩) r.held.length r.held.length, .slice (some ⟨gW, 0, none⟩) r.wish.length r.wish.length, .bool r.lead, .bool r.tr, .int .i64 r.ball, .slice (some ⟨gY, 0, none⟩) r.yes.length r.yes.length, .slice none 0 0, .slice none 0 0, .int .i64 0] 41 := by
  have := (heap_setCell_same _ _ 14 _ _ (.slice (some ⟨gY, 0, none⟩) r.yes.length r.yes.length) m2)
  simpa using this
 have V4 : Below w.heap.size w (w4.setCell ⟨w.heap.size + 1 + 1, 14, none⟩ (.slice (some ⟨gY, 0, none⟩) r.yes.length r.yes.length)) := (B4.setCell (by simp; try omega) _)
 have tS : SlotsOwn (w4.setCell ⟨w.heap.size + 1 + 1, 14, none⟩ (.slice (some ⟨gY, 0, none⟩) r.yes.length r.yes.length)) gS r.ss := oS'.same (same_setCell (fun b _ => rfl) (by simp; omega) _)
 have tD : SlotsOwn (w4.setCell ⟨w.heap.size + 1 + 1, 14, none⟩ (.slice (some ⟨gY, 0, none⟩) r.yes.length r.yes.length)) gD r.ds := oD'.same (same_setCell (fun b _ => rfl) (by simp; omega) _)
 have tH : MsgsOwnB BH (w4.setCell ⟨w.heap.size + 1 + 1, 14, none⟩ (.slice (some ⟨gY, 0, none⟩) r.yes.length r.yes.length)) gH r.held := oH'.same (same_setCell (fun b _ => rfl) (by simp; omega) _)
 have tW : StrsOwn (w4.setCell ⟨w.heap.size + 1 + 1, 14, none⟩ (.slice (some ⟨gY, 0, none⟩) r.yes.length r.yes.length)) gW r.wish := oW'.same (same_setCell (fun b _ => rfl) (by simp; omega) _)
 have tY : IntsOwn (w4.setCell ⟨w.heap.size + 1 + 1, 14, none⟩ (.slice (some ⟨gY, 0, none⟩) r.yes.length r.yes.length)) gY r.yes := oY.same (same_setCell (fun b _ => rfl) (by simp; omega) _)
 clear oS'
 have oS := tS
 clear tS
 clear oD'
 have oD := tD
 clear tD
 clear oH'
 have oH := tH
 clear tH
 clear oW'
 have oW := tW
 clear tW
 clear oY
 have oY := tY
 clear tY
 have hRv := h.ext V4
 have hsz : w.heap.size + 1 + 1 < (w4.setCell ⟨w.heap.size + 1 + 1, 14, none⟩ (.slice (some ⟨gY, 0, none⟩) r.yes.length r.yes.length)).heap.size := k2.lt
 clear m0 m1 m2 hb4 B4
 have HK : Hid True := trivial
 clear HK
 go_wp2_with fail
 clear c0 c2 f2
 refine (toSlots p.aB r.best _ p.cB _ rfl hS.lB (by exact hRv.hB)).mono ?_
 rintro e w5 ⟨gB, rfl, hgB, oB, hb5⟩
 have iB : w.heap.size + 1 + 1 < gB := Nat.lt_of_lt_of_le hsz hgB
 have lB' : gY < gB := Nat.lt_of_lt_of_le oY.lt hgB
 have B5 := ext_trans V4 hb5
 have m0 := k0.ext hb5
 have m1 := k1.ext hb5
 have m2 := k2.ext hb5
 have oS' := oS.ext hb5
 have oD' := oD.ext hb5
 have oH' := oH.ext hb5
 have oW' := oW.ext hb5
 have oY' := oY.ext hb5
 clear k0 k1 k2 hRv hsz hgB oS oD oH oW oY
 clear V4
 have c0 := m0.cell
 have c2 := m2.cell
 have f2 := m2.free
 have k0 : Blk (w5.setCell ⟨w.heap.size + 1 + 1, 15, none⟩ (.slice (some ⟨gB, 0, none⟩) r.best.length r.best.length)) w.heap.size (rcV r p) 30 := (m0.setCell (by simp; try omega) _)
 have k1 : Blk (w5.setCell ⟨w.heap.size + 1 + 1, 15, none⟩ (.slice (some ⟨gB, 0, none⟩) r.best.length r.best.length)) (w.heap.size + 1) zRc 41 := (m1.setCell (by simp; try omega) _)
 have k2 : Blk (w5.setCell ⟨w.heap.size + 1 + 1, 15, none⟩ (.slice (some ⟨gB, 0, none⟩) r.best.length r.best.length)) (w.heap.size + 1 + 1) #[.int .i64 r.num, .int .i64 r.of_, .bool r.up, .int .i64 r.sp, .int .i64 r.sk, .slice (some ⟨gS, 0, none⟩) r.ss.length r.ss.length, .int .i64 r.dp, .int .i64 r.dk, .slice (some ⟨gD, 0, none⟩) r.ds.length r.ds.length, .slice (some ⟨gH, 0, none⟩) r.held.length r.held.length, .slice (some ⟨gW, 0, none⟩) r.wish.length r.wish.length, .bool r.lead, .bool r.tr, .int .i64 r.ball, .slice (some ⟨gY, 0, none⟩) r.yes.length r.yes.length, .slice (some ⟨gB, 0, none⟩) r.best.length r.best.length, .slice none 0 0, .int .i64 0] 41 := by
  have := (heap_setCell_same _ _ 15 _ _ (.slice (some ⟨gB, 0, none⟩) r.best.length r.best.length) m2)
  simpa using this
 have V5 : Below w.heap.size w (w5.setCell ⟨w.heap.size + 1 + 1, 15, none⟩ (.slice (some ⟨gB, 0, none⟩) r.best.length r.best.length)) := (B5.setCell (by simp; try omega) _)
 have tS : SlotsOwn (w5.setCell ⟨w.heap.size + 1 + 1, 15, none⟩ (.slice (some ⟨gB, 0, none⟩) r.best.length r.best.length)) gS r.ss := oS'.same (same_setCell (fun b _ => rfl) (by simp; omega) _)
 have tD : SlotsOwn (w5.setCell ⟨w.heap.size + 1 + 1, 15, none⟩ (.slice (some ⟨gB, 0, none⟩) r.best.length r.best.length)) gD r.ds := oD'.same (same_setCell (fun b _ => rfl) (by simp; omega) _)
 have tH : MsgsOwnB BH (w5.setCell ⟨w.heap.size + 1 + 1, 15, none⟩ (.slice (some ⟨gB, 0, none⟩) r.best.length r.best.length)) gH r.held := oH'.same (same_setCell (fun b _ => rfl) (by simp; omega) _)
 have tW : StrsOwn (w5.setCell ⟨w.heap.size + 1 + 1, 15, none⟩ (.slice (some ⟨gB, 0, none⟩) r.best.length r.best.length)) gW r.wish := oW'.same (same_setCell (fun b _ => rfl) (by simp; omega) _)
 have tY : IntsOwn (w5.setCell ⟨w.heap.size + 1 + 1, 15, none⟩ (.slice (some ⟨gB, 0, none⟩) r.best.length r.best.length)) gY r.yes := oY'.same (same_setCell (fun b _ => rfl) (by simp; omega) _)
 have tB : SlotsOwn (w5.setCell ⟨w.heap.size + 1 + 1, 15, none⟩ (.slice (some ⟨gB, 0, none⟩) r.best.length r.best.length)) gB r.best := oB.same (same_setCell (fun b _ => rfl) (by simp; omega) _)
 clear oS'
 have oS := tS
 clear tS
 clear oD'
 have oD := tD
 clear tD
 clear oH'
 have oH := tH
 clear tH
 clear oW'
 have oW := tW
 clear tW
 clear oY'
 have oY := tY
 clear tY
 clear oB
 have oB := tB
 clear tB
 have hRv := h.ext V5
 have hsz : w.heap.size + 1 + 1 < (w5.setCell ⟨w.heap.size + 1 + 1, 15, none⟩ (.slice (some ⟨gB, 0, none⟩) r.best.length r.best.length)).heap.size := k2.lt
 clear m0 m1 m2 hb5 B5
 have HK : Hid True := trivial
 clear HK
 go_wp2_with fail
 clear c0 c2 f2
 refine (toAcks p.aA r.acks _ p.cA _ rfl hS.lA hS.nA (by exact hRv.hA)).mono ?_
 rintro e w6 ⟨gA, rfl, hgA, oA, hb6⟩
 have iA : w.heap.size + 1 + 1 < gA := Nat.lt_of_lt_of_le hsz hgA
 have lA : gB < gA := Nat.lt_of_lt_of_le oB.lt hgA
 have B6 := ext_trans V5 hb6
 have m0 := k0.ext hb6
 have m1 := k1.ext hb6
 have m2 := k2.ext hb6
 have oS' := oS.ext hb6
 have oD' := oD.ext hb6
 have oH' := oH.ext hb6
 have oW' := oW.ext hb6
 have oY' := oY.ext hb6
 have oB' := oB.ext hb6
 clear k0 k1 k2 hRv hsz hgA oS oD oH oW oY oB
 clear V5
 have c0 := m0.cell
 have c2 := m2.cell
 have f2 := m2.free
 have k0 : Blk ((w6.setCell ⟨w.heap.size + 1 + 1, 16, none⟩ (.slice (some ⟨gA, 0, none⟩) r.acks.length r.acks.length)).setCell ⟨w.heap.size + 1 + 1, 17, none⟩ (.int .i64 r.heard)) w.heap.size (rcV r p) 30 := ((m0.setCell (by simp; try omega) _).setCell (by simp; try omega) _)
 have k1 : Blk ((w6.setCell ⟨w.heap.size + 1 + 1, 16, none⟩ (.slice (some ⟨gA, 0, none⟩) r.acks.length r.acks.length)).setCell ⟨w.heap.size + 1 + 1, 17, none⟩ (.int .i64 r.heard)) (w.heap.size + 1) zRc 41 := ((m1.setCell (by simp; try omega) _).setCell (by simp; try omega) _)
 have k2 : Blk ((w6.setCell ⟨w.heap.size + 1 + 1, 16, none⟩ (.slice (some ⟨gA, 0, none⟩) r.acks.length r.acks.length)).setCell ⟨w.heap.size + 1 + 1, 17, none⟩ (.int .i64 r.heard)) (w.heap.size + 1 + 1) #[.int .i64 r.num, .int .i64 r.of_, .bool r.up, .int .i64 r.sp, .int .i64 r.sk, .slice (some ⟨gS, 0, none⟩) r.ss.length r.ss.length, .int .i64 r.dp, .int .i64 r.dk, .slice (some ⟨gD, 0, none⟩) r.ds.length r.ds.length, .slice (some ⟨gH, 0, none⟩) r.held.length r.held.length, .slice (some ⟨gW, 0, none⟩) r.wish.length r.wish.length, .bool r.lead, .bool r.tr, .int .i64 r.ball, .slice (some ⟨gY, 0, none⟩) r.yes.length r.yes.length, .slice (some ⟨gB, 0, none⟩) r.best.length r.best.length, .slice (some ⟨gA, 0, none⟩) r.acks.length r.acks.length, .int .i64 r.heard] 41 := by
  have := (heap_setCell_same _ _ 17 _ _ (.int .i64 r.heard) (heap_setCell_same _ _ 16 _ _ (.slice (some ⟨gA, 0, none⟩) r.acks.length r.acks.length) m2))
  simpa using this
 have V6 : Below w.heap.size w ((w6.setCell ⟨w.heap.size + 1 + 1, 16, none⟩ (.slice (some ⟨gA, 0, none⟩) r.acks.length r.acks.length)).setCell ⟨w.heap.size + 1 + 1, 17, none⟩ (.int .i64 r.heard)) := ((B6.setCell (by simp; try omega) _).setCell (by simp; try omega) _)
 have tS : SlotsOwn ((w6.setCell ⟨w.heap.size + 1 + 1, 16, none⟩ (.slice (some ⟨gA, 0, none⟩) r.acks.length r.acks.length)).setCell ⟨w.heap.size + 1 + 1, 17, none⟩ (.int .i64 r.heard)) gS r.ss := oS'.same (same_setCell (same_setCell (fun b _ => rfl) (by simp; omega) _) (by simp; omega) _)
 have tD : SlotsOwn ((w6.setCell ⟨w.heap.size + 1 + 1, 16, none⟩ (.slice (some ⟨gA, 0, none⟩) r.acks.length r.acks.length)).setCell ⟨w.heap.size + 1 + 1, 17, none⟩ (.int .i64 r.heard)) gD r.ds := oD'.same (same_setCell (same_setCell (fun b _ => rfl) (by simp; omega) _) (by simp; omega) _)
 have tH : MsgsOwnB BH ((w6.setCell ⟨w.heap.size + 1 + 1, 16, none⟩ (.slice (some ⟨gA, 0, none⟩) r.acks.length r.acks.length)).setCell ⟨w.heap.size + 1 + 1, 17, none⟩ (.int .i64 r.heard)) gH r.held := oH'.same (same_setCell (same_setCell (fun b _ => rfl) (by simp; omega) _) (by simp; omega) _)
 have tW : StrsOwn ((w6.setCell ⟨w.heap.size + 1 + 1, 16, none⟩ (.slice (some ⟨gA, 0, none⟩) r.acks.length r.acks.length)).setCell ⟨w.heap.size + 1 + 1, 17, none⟩ (.int .i64 r.heard)) gW r.wish := oW'.same (same_setCell (same_setCell (fun b _ => rfl) (by simp; omega) _) (by simp; omega) _)
 have tY : IntsOwn ((w6.setCell ⟨w.heap.size + 1 + 1, 16, none⟩ (.slice (some ⟨gA, 0, none⟩) r.acks.length r.acks.length)).setCell ⟨w.heap.size + 1 + 1, 17, none⟩ (.int .i64 r.heard)) gY r.yes := oY'.same (same_setCell (same_setCell (fun b _ => rfl) (by simp; omega) _) (by simp; omega) _)
 have tB : SlotsOwn ((w6.setCell ⟨w.heap.size + 1 + 1, 16, none⟩ (.slice (some ⟨gA, 0, none⟩) r.acks.length r.acks.length)).setCell ⟨w.heap.size + 1 + 1, 17, none⟩ (.int .i64 r.heard)) gB r.best := oB'.same (same_setCell (same_setCell (fun b _ => rfl) (by simp; omega) _) (by simp; omega) _)
 have tA : AcksOwn ((w6.setCell ⟨w.heap.size + 1 + 1, 16, none⟩ (.slice (some ⟨gA, 0, none⟩) r.acks.length r.acks.length)).setCell ⟨w.heap.size + 1 + 1, 17, none⟩ (.int .i64 r.heard)) gA r.acks := oA.same (same_setCell (same_setCell (fun b _ => rfl) (by simp; omega) _) (by simp; omega) _)
 clear oS'
 have oS := tS
 clear tS
 clear oD'
 have oD := tD
 clear tD
 clear oH'
 have oH := tH
 clear tH
 clear oW'
 have oW := tW
 clear tW
 clear oY'
 have oY := tY
 clear tY
 clear oB'
 have oB := tB
 clear tB
 clear oA
 have oA := tA
 clear tA
 have hRv := h.ext V6
 have hsz : w.heap.size + 1 + 1 < ((w6.setCell ⟨w.heap.size + 1 + 1, 16, none⟩ (.slice (some ⟨gA, 0, none⟩) r.acks.length r.acks.length)).setCell ⟨w.heap.size + 1 + 1, 17, none⟩ (.int .i64 r.heard)).heap.size := k2.lt
 clear m0 m1 m2 hb6 B6
 go_wp2_with (first
  | ((with_reducible refine wpList_load_rec (w.heap.size + 1 + 1) #[.int .i64 r.num, .int .i64 r.of_, .bool r.up, .int .i64 r.sp, .int .i64 r.sk, .slice (some ⟨gS, 0, none⟩) r.ss.length r.ss.length, .int .i64 r.dp, .int .i64 r.dk, .slice (some ⟨gD, 0, none⟩) r.ds.length r.ds.length, .slice (some ⟨gH, 0, none⟩) r.held.length r.held.length, .slice (some ⟨gW, 0, none⟩) r.wish.length r.wish.length, .bool r.lead, .bool r.tr, .int .i64 r.ball, .slice (some ⟨gY, 0, none⟩) r.yes.length r.yes.length, .slice (some ⟨gB, 0, none⟩) r.best.length r.best.length, .slice (some ⟨gA, 0, none⟩) r.acks.length r.acks.length, .int .i64 r.heard] rfl ?_ ?_ ?_); (· rfl); (· exact k2))
  | ((with_reducible refine wpList_store_rec_at (w.heap.size + 1) zRc #[.int .i64 r.num, .int .i64 r.of_, .bool r.up, .int .i64 r.sp, .int .i64 r.sk, .slice (some ⟨gS, 0, none⟩) r.ss.length r.ss.length, .int .i64 r.dp, .int .i64 r.dk, .slice (some ⟨gD, 0, none⟩) r.ds.length r.ds.length, .slice (some ⟨gH, 0, none⟩) r.held.length r.held.length, .slice (some ⟨gW, 0, none⟩) r.wish.length r.wish.length, .bool r.lead, .bool r.tr, .int .i64 r.ball, .slice (some ⟨gY, 0, none⟩) r.yes.length r.yes.length, .slice (some ⟨gB, 0, none⟩) r.best.length r.best.length, .slice (some ⟨gA, 0, none⟩) r.acks.length r.acks.length, .int .i64 r.heard] rfl rfl ?_ ?_ ?_ ?_ ?_); (· rfl); (· rfl); (· exact k1); (· simp [Value.oneCell'])))
 have hz := setRow_heap _ (w.heap.size + 1) _ #[.int .i64 r.num, .int .i64 r.of_, .bool r.up, .int .i64 r.sp, .int .i64 r.sk, .slice (some ⟨gS, 0, none⟩) r.ss.length r.ss.length, .int .i64 r.dp, .int .i64 r.dk, .slice (some ⟨gD, 0, none⟩) r.ds.length r.ds.length, .slice (some ⟨gH, 0, none⟩) r.held.length r.held.length, .slice (some ⟨gW, 0, none⟩) r.wish.length r.wish.length, .bool r.lead, .bool r.tr, .int .i64 r.ball, .slice (some ⟨gY, 0, none⟩) r.yes.length r.yes.length, .slice (some ⟨gB, 0, none⟩) r.best.length r.best.length, .slice (some ⟨gA, 0, none⟩) r.acks.length r.acks.length, .int .i64 r.heard] _ _ k1
 refine ret_cell (ty := 41) Tryz.results8 (w.heap.size + 1) #[.int .i64 r.num, .int .i64 r.of_, .bool r.up, .int .i64 r.sp, .int .i64 r.sk, .slice (some ⟨gS, 0, none⟩) r.ss.length r.ss.length, .int .i64 r.dp, .int .i64 r.dk, .slice (some ⟨gD, 0, none⟩) r.ds.length r.ds.length, .slice (some ⟨gH, 0, none⟩) r.held.length r.held.length, .slice (some ⟨gW, 0, none⟩) r.wish.length r.wish.length, .bool r.lead, .bool r.tr, .int .i64 r.ball, .slice (some ⟨gY, 0, none⟩) r.yes.length r.yes.length, .slice (some ⟨gB, 0, none⟩) r.best.length r.best.length, .slice (some ⟨gA, 0, none⟩) r.acks.length r.acks.length, .int .i64 r.heard] _ ?_ ?_ hz Tryz.underlying41 rfl (by kernel_rfl) ⟨⟨some ⟨gS, 0, none⟩, r.ss.length, some ⟨gD, 0, none⟩, r.ds.length, some ⟨gH, 0, none⟩, r.held.length, some ⟨gW, 0, none⟩, r.wish.length, some ⟨gY, 0, none⟩, r.yes.length, some ⟨gB, 0, none⟩, r.best.length, some ⟨gA, 0, none⟩, r.acks.length⟩, rfl, ?_, Nat.le_refl _, below_setRow' V6 (by omega) _, ?_, ?_⟩
 ·rfl
 ·rfl
 ·exact ⟨(oS.same (fun b hb => setRow_other _ (w.heap.size + 1) b _ (by omega))).at h.hS.good, h.lS, (oD.same (fun b hb => setRow_other _ (w.heap.size + 1) b _ (by omega))).at h.hD.good, h.lD, (oH.same (fun b hb => setRow_other _ (w.heap.size + 1) b _ (by omega))).at h.hH.good, h.lH, (oW.same (fun b hb => setRow_other _ (w.heap.size + 1) b _ (by omega))).at h.hW.good, h.lW, (oY.same (fun b hb => setRow_other _ (w.heap.size + 1) b _ (by omega))).at h.hY.good, h.lY, (oB.same (fun b hb => setRow_other _ (w.heap.size + 1) b _ (by omega))).at h.hB.good, h.lB, (oA.same (fun b hb => setRow_other _ (w.heap.size + 1) b _ (by omega))).at h.hA.good, h.lA⟩
 ·exact ⟨gS, gD, gH, BH, gW, gY, gB, gA, rfl, ⟨lD, lH, lB, lW, lY, lB', lA⟩, oS.same (fun b hb => setRow_other _ (w.heap.size + 1) b _ (by omega)), oD.same (fun b hb => setRow_other _ (w.heap.size + 1) b _ (by omega)), oH.same (fun b hb => setRow_other _ (w.heap.size + 1) b _ (by omega)), oW.same (fun b hb => setRow_other _ (w.heap.size + 1) b _ (by omega)), oY.same (fun b hb => setRow_other _ (w.heap.size + 1) b _ (by omega)), oB.same (fun b hb => setRow_other _ (w.heap.size + 1) b _ (by omega)), oA.same (fun b hb => setRow_other _ (w.heap.size + 1) b _ (by omega))⟩
 intro x hx
 simp only [Option.some.injEq] at hx
 subst hx
 show w.heap.size ≤ gS
 omega
theorem toRec (r : Rc) (p : RcP) (w : World) (hS : RcSmall r) (h : RcAt w r p) :
  Calls Tryz.prog 8 #[.agg (rcV r p)] w fun e w' => ∃ p', e = .returned (.agg (rcV r p')) ∧ RcAt w' r p' ∧ r.wish.length ≤ p'.cW ∧ Below w.heap.size w w' :=
 (toRecO r p w hS h).mono fun e w' ⟨p', h1, h2, h3, h4, _⟩ => ⟨p', h1, h2, h3, h4⟩
end Go.Proofs.YtffklmlljekceaaGreat
