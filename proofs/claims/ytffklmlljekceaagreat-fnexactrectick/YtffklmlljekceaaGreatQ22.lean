import Derived.Test.YtffklmlljekceaaGreatQ19
namespace Go.Proofs.YtffklmlljekceaaGreat
open Go.ChangeShapes Go.WideShapes Go.ChangeAt Go.RowKit
set_option linter.unusedSimpArgs false
set_option linter.unusedVariables false
set_option maxHeartbeats 16000000
set_option maxRecDepth 20000
structure SetS (B : Nat) (w : World) (col : Nat → Nat) (r : Rc) (X : RcX) (s : Sl) (g : Nat) (L : List Sl) (p' : RcP) (col' : Nat → Nat) (w' : World) : Prop where
 k : Blk w' g (rcV { r with ds := L } p') 41
 s : Blk w' (g + 1) #[.int .i64 s.1, .string s.2] 108
 z : Blk w' (g + 1 + 1) zRc 41
 has : RcHas B w' { r with ds := L } p' X col'
 c0 : 8 < col' g
 c1 : 8 < col' (g + 1)
 c2 : 8 < col' (g + 1 + 1)
 bel : Below B w w'
 oth : Others w col w' col'
def SetI (B : Nat) (w : World) (col : Nat → Nat) (r : Rc) (X : RcX) (s : Sl) (g q : Nat) (wr : World) : Prop := ∃ (j : Nat) (L : List Sl) (p' : RcP) (col' : Nat → Nat), L = r.ds ++ List.replicate j (0, ⟨#[]⟩) ∧ (j = 0 ∨ L.length ≤ q + 1) ∧ SetS B w col r X s g L p' col' wr
def slLen (w : World) (g : Nat) : Nat := match w.cell? ⟨g, 8, none⟩ with | some (.slice _ n _) => n | _ => 0
theorem SetS.len {B : Nat} {w : World} {col : Nat → Nat} {r : Rc} {X : RcX} {s : Sl} {g : Nat} {L : List Sl} {p' : RcP} {col' : Nat → Nat} {w' : World} (h : SetS B w col r X s g L p' col' w') : slLen w' g = L.length := by
 unfold slLen
 rw [h.k.cell 8]
 rfl
theorem goodS_snoc {l : List Sl} {s : Sl} (h : GoodSlots l) (hs : s.2.size ≤ maxLen ∧ (Lit.int .i64 s.1).wf = true) : GoodSlots (l ++ [s]) := fun i u hu => by
 rcases Nat.lt_or_ge i l.length with hi | hi
 ·rw [List.getElem?_append_left hi] at hu; exact h i u hu
 rw [List.getElem?_append_right hi] at hu
 have h9 := List.mem_of_getElem? hu
 simp only [List.mem_cons, List.not_mem_nil, or_false] at h9
 rw [h9]; exact hs
theorem goodS_set {l : List Sl} {s : Sl} {k : Nat} (h : GoodSlots l) (hs : s.2.size ≤ maxLen ∧ (Lit.int .i64 s.1).wf = true) : GoodSlots (l.set k s) := fun i u hu => by
 rw [List.getElem?_set] at hu
 split at hu
 ·split at hu
  ·simp only [Option.some.injEq] at hu; rw [← hu]; exact hs
  simp at hu
 exact h i u hu
theorem pad_more (l : List Sl) (j : Nat) : l ++ List.replicate j ((0 : Int), (⟨#[]⟩ : ByteArray)) ++ [(0, ⟨#[]⟩)] = l ++ List.replicate (j + 1) (0, ⟨#[]⟩) := by
 rw [List.append_assoc, ← List.replicate_succ']
theorem specSet (B : Nat) (r : Rc) (p : RcP) (X : RcX) (col : Nat → Nat) (q : Nat) (s : Sl) (w : World) (hB : B ≤ w.heap.size) (hq : q ≤ 1048576) (hd : r.ds.length ≤ 1048576) (hs : s.2.size ≤ maxLen ∧ (Lit.int .i64 s.1).wf = true) (h : RcHas B w r p X col) :
  Calls Tryz.prog 79 #[.agg (rcV r p), .int .i64 ((q + 1 : Nat) : Int), .agg #[.int .i64 s.1, .string s.2]] w (TPost B w col (setR r (q + 1) s)) := by
 have HB := hid hB
 have HSg := hid hs
 have BV := hid (show Below w.heap.size w (((w.alloc (.cells (rcV r p) 41)).alloc (.cells #[.int .i64 s.1, .string s.2] 108)).alloc (.cells zRc 41)) from ext_alloc (ext_alloc (ext_alloc (Below.refl _ _) _) _) _)
 have S0 := hid (show SetS B w col r X s w.heap.size r.ds p (colF w.heap.size col) (((w.alloc (.cells (rcV r p) 41)).alloc (.cells #[.int .i64 s.1, .string s.2] 108)).alloc (.cells zRc 41)) from
  ⟨((Blk.new _ _ _).alloc _).alloc _, (Blk.new' _ _ (by simp)).alloc _, Blk.new' _ _ (by simp), h.fresh.ext BV.out, by rw [colF_new (Nat.le_refl _)]; omega, by rw [colF_new (by omega)]; omega, by rw [colF_new (by omega)]; omega, BV.out.mono hB, Others.of BV.out (fun b hb => colF_old hb)⟩)
 clear h hs hB
 go_enter Tryz.func79, Tryz.ntmps79
 go_wp2_with fail
 go_loopw [] (fun wr => SetI B w col r X s w.heap.size q wr) (fun wr => q + 1 - slLen wr w.heap.size)
 case atStart => exact ⟨0, r.ds, p, _, by simp, .inl rfl, S0.out⟩
 obtain ⟨j, L, p', col', hL, hj, hss⟩ := hrel
 have SS := hid hss
 have HL := hid hL
 have LB : L.length ≤ 1048577 := by
  rcases hj with rfl | hj
  ·rw [hL]; simp; omega
  omega
 clear hss hL
 obtain ⟨aS, cS, aD, cD, aH, cH, aW, cW, aY, cY, aB, cB, aA, cA⟩ := p'
 have cK := SS.out.k.cell
 have fK := SS.out.k.free
 have DNE := hid (show ∀ b, 8 < col' b → some b ≠ (Value.slice aD L.length cD).ownBlock from fun b h8 e => by
  cases hs : aD with
  | none => rw [hs] at e; simp [Value.ownBlock] at e
  | some y =>
   rw [hs] at e
   simp only [Value.ownBlock, Option.some.injEq] at e
   have h7 := SS.out.has.d.col y hs
   rw [← e] at h7
   omega)
 by_cases hlt : L.length < q + 1
 ·have OW := hid ((SS.out.has.ext (ext_alloc (Below.refl _ _) (.cells #[.int .i64 0, .string ⟨#[]⟩] 108))).d.own)
  have DB := hid (show ∀ j, (Value.slice aD L.length cD).ownBlock = some j → B ≤ j from fun j hj => (SS.out.has.d.own.lt j hj).1)
  have HGD := hid (goodS_snoc SS.out.has.gd.d (s := (0, ⟨#[]⟩)) ⟨Nat.zero_le _, by decide⟩)
  have NEWS := hid (show ReadAt (wr.alloc (.cells #[.int .i64 0, .string ⟨#[]⟩] 108)) (some ⟨wr.heap.size, 0, none⟩) 1 1 2 [.int .i64 0, .string ⟨#[]⟩] from
   ⟨rfl, fun e => by simp at e, fun x hx => by
    simp only [Option.some.injEq] at hx
    subst hx
    exact ⟨rfl, blk_news (Blk.new wr #[.int .i64 0, .string ⟨#[]⟩] 108)⟩⟩)
  have e1 : (L.length : Int) < ((q + 1 : Nat) : Int) := by omega
  go_wp2_with (first
   | ((with_reducible refine wpList_appS B aD L.length cD (flat L) (some ⟨wr.heap.size, 0, none⟩) 1 1 [.int .i64 0, .string ⟨#[]⟩] ?_ ?_ ?_ ?_ ?_ ?_ ?_ ?_); (· rfl); (· rfl); (· exact OW.out); (· exact NEWS.out); (· intro u hu; simp at hu; rcases hu with rfl | rfl <;> rfl); (· omega); (· have h9 := HB.out; have h8 := SS.out.bel.size; simp; omega); (intro a' c' w2 q1 q2 q3); (have KB := hid (show ∀ b C T, Blk wr b C T → 8 < col' b → Blk w2 b C T from fun b C T hb hc => (q2.block b (hb.alloc (.cells #[.int .i64 0, .string ⟨#[]⟩] 108)).lt (DNE.out b hc)).trans (hb.alloc (.cells #[.int .i64 0, .string ⟨#[]⟩] 108)))); (have HAS := hid (RcHas.grow_d (SS.out.has.ext (ext_alloc (Below.refl _ _) (.cells #[.int .i64 0, .string ⟨#[]⟩] 108))) (l := L ++ [(0, ⟨#[]⟩)]) q2 (by (rw [List.length_append, flat_app]; exact q1)) q3 HGD.out)); (have B3 := hid (below_grow (SS.out.bel.alloc (Nat.le_trans HB.out SS.out.bel.size) (.cells #[.int .i64 0, .string ⟨#[]⟩] 108)) q2 DB.out (by have h9 := HB.out; have h8 := SS.out.bel.size; simp; omega))); (have NC := hid (show ∀ b, b < wr.heap.size → 8 < col' b → 8 < colN a' 1 col' b from fun b hb hc => by (rw [colN_else (fun x hx he => by (rcases q3 x hx with ⟨y, hy, hyx⟩ | hnew; (· have h9 := SS.out.has.d.col y hy; rw [hyx, he] at h9; omega); (· simp at hnew; omega)))]; exact hc))); (have OB := hid (show ∀ b, b < w.heap.size → 8 < col b → w2.heap[b]? = w.heap[b]? ∧ 8 < colN a' 1 col' b from fun b hb h8 => by (have q9 := SS.out.oth b hb h8; have h7 := SS.out.bel.size; exact ⟨((q2.block b (by simp; omega) (DNE.out b q9.2)).trans (Below.heap_alloc wr (.cells #[.int .i64 0, .string ⟨#[]⟩] 108) b (by omega))).trans q9.1, NC.out b (by omega) q9.2⟩))); (clear q1 q2 q3 cK fK); (have S2 := hid (KB.out _ _ _ SS.out.s SS.out.c1)); (have Z2 := hid (KB.out _ _ _ SS.out.z SS.out.c2)); (have K2 := hid (KB.out _ _ _ SS.out.k SS.out.c0)); (have eqC : (rcV { r with ds := L ++ [(0, ⟨#[]⟩)] } ⟨aS, cS, a', c', aH, cH, aW, cW, aY, cY, aB, cB, aA, cA⟩) = (rcV { r with ds := L } ⟨aS, cS, aD, cD, aH, cH, aW, cW, aY, cY, aB, cB, aA, cA⟩).setIfInBounds 8 (.slice a' (L.length + 1) c') := by simp); (have k1 := hid (show Blk (w2.setCell ⟨w.heap.size, 8, none⟩ (.slice a' (L.length + 1) c')) w.heap.size (rcV { r with ds := L ++ [(0, ⟨#[]⟩)] } ⟨aS, cS, a', c', aH, cH, aW, cW, aY, cY, aB, cB, aA, cA⟩) 41 by (rw [eqC]; exact K2.out.set (o := 8) (.slice a' (L.length + 1) c')))); (clear eqC); (have cK := K2.out.cell); (have fK := K2.out.free)))
  have SN := hid (show SetS B w col r X s w.heap.size (L ++ [(0, ⟨#[]⟩)]) ⟨aS, cS, a', c', aH, cH, aW, cW, aY, cY, aB, cB, aA, cA⟩ (colN a' 1 col') (w2.setCell ⟨w.heap.size, 8, none⟩ (.slice a' (L.length + 1) c')) from
   ⟨k1.out, S2.out.setCell (by simp) _, Z2.out.setCell (by simp; omega) _, HAS.out.setCell (q := ⟨w.heap.size, 8, none⟩) (NC.out _ SS.out.k.lt SS.out.c0) _, NC.out _ SS.out.k.lt SS.out.c0, NC.out _ SS.out.s.lt SS.out.c1, NC.out _ SS.out.z.lt SS.out.c2, below_set B3.out HB.out _,
    fun b hb h8 => ⟨(heap_setCell_other _ ⟨w.heap.size, 8, none⟩ b _ (by simp; omega)).trans (OB.out b hb h8).1, (OB.out b hb h8).2⟩⟩)
  go_roundw
  case rel => exact ⟨j + 1, L ++ [(0, ⟨#[]⟩)], ⟨aS, cS, a', c', aH, cH, aW, cW, aY, cY, aB, cB, aA, cA⟩, _, by rw [HL.out, pad_more], .inr (by simp; omega), SN.out⟩
  case measure =>
   have m1 := SN.out.len
   have m2 := SS.out.len
   rw [m1, m2]
   simp
   omega
 have HP := hid (show L = padL r.ds (q + 1) by
  rw [HL.out, padL]
  congr 2
  have h9 := congrArg List.length HL.out
  simp at h9
  rcases hj with rfl | hj <;> omega)
 have hql : q < L.length := by omega
 have hu : L[q]? = some L[q] := List.getElem?_eq_getElem hql
 have hf := flat_at L q _ hu
 obtain ⟨g9, e0, hg9, d0, f0⟩ := SS.out.has.d.cell hf.1
 obtain ⟨g8, e1, _, d1, f1⟩ := SS.out.has.d.cell hf.2
 have e2 := some_inj_addr e0 e1
 subst e2
 clear e1 hf hu
 dsimp only at e0
 subst e0
 have CG := hid (show col' g8 = 1 from SS.out.has.d.col _ rfl)
 have NE := hid (show ∀ b, 8 < col' b → b ≠ g8 from fun b h8 e => by rw [e, CG.out] at h8; omega)
 have hs0 := SS.out.s.cell
 have V5e : ∀ b C T, Blk wr b C T → b ≠ g8 → Blk ((wr.setCell ⟨g8, q * 2, none⟩ (.int .i64 s.1)).setCell ⟨g8, q * 2 + 1, none⟩ (.string s.2)) b C T := fun b C T hb hne => (hb.setCell (p := ⟨g8, q * 2, none⟩) hne _).setCell (p := ⟨g8, q * 2 + 1, none⟩) hne _
 have k1 : Blk ((wr.setCell ⟨g8, q * 2, none⟩ (.int .i64 s.1)).setCell ⟨g8, q * 2 + 1, none⟩ (.string s.2)) w.heap.size (rcV { r with ds := L.set q s } ⟨aS, cS, some ⟨g8, 0, none⟩, cD, aH, cH, aW, cW, aY, cY, aB, cB, aA, cA⟩) 41 := blk_eq (V5e _ _ _ SS.out.k (NE.out _ SS.out.c0)) (by simp)
 have k2 : Blk ((wr.setCell ⟨g8, q * 2, none⟩ (.int .i64 s.1)).setCell ⟨g8, q * 2 + 1, none⟩ (.string s.2)) (w.heap.size + 1 + 1) zRc 41 := V5e _ _ _ SS.out.z (NE.out _ SS.out.c2)
 have e3 : (q : Int) < (L.length : Int) := by omega
 have e4 : ¬ (L.length : Int) < ((q + 1 : Nat) : Int) := by omega
 have HR := hid (show setR r (q + 1) s = { r with ds := L.set q s } by rw [setR, setL, ← HP.out]; rfl)
 have HAS := hid (show RcHas B ((wr.setCell ⟨g8, q * 2, none⟩ (.int .i64 s.1)).setCell ⟨g8, q * 2 + 1, none⟩ (.string s.2)) { r with ds := L.set q s } ⟨aS, cS, some ⟨g8, 0, none⟩, cD, aH, cH, aW, cW, aY, cY, aB, cB, aA, cA⟩ X col' from
  SS.out.has.put_d (l := L.set q s) (by simp) (fun b hb hne => (heap_setCell_other _ ⟨g8, q * 2 + 1, none⟩ b _ (fun e => hne (by rw [e]; exact CG.out))).trans (heap_setCell_other _ ⟨g8, q * 2, none⟩ b _ (fun e => hne (by rw [e]; exact CG.out))))
   (by rw [flat_set]; exact ((SS.out.has.d.own.stored (q * 2) (.int .i64 s.1)).1.stored (q * 2 + 1) (.string s.2)).1) (goodS_set SS.out.has.gd.d HSg.out))
 have B5 := hid (show Below B w ((wr.setCell ⟨g8, q * 2, none⟩ (.int .i64 s.1)).setCell ⟨g8, q * 2 + 1, none⟩ (.string s.2)) from below_set (below_set SS.out.bel (show B ≤ g8 from (SS.out.has.d.lt _ rfl).1) _) (show B ≤ g8 from (SS.out.has.d.lt _ rfl).1) _)
 clear V5e
 go_wp2_with (first
  | ((with_reducible refine wpList_load_rec w.heap.size (rcV { r with ds := L.set q s } ⟨aS, cS, some ⟨g8, 0, none⟩, cD, aH, cH, aW, cW, aY, cY, aB, cB, aA, cA⟩) rfl ?_ ?_ ?_); (· rfl); (· exact k1))
  | ((with_reducible refine wpList_store_rec_at (w.heap.size + 1 + 1) zRc (rcV { r with ds := L.set q s } ⟨aS, cS, some ⟨g8, 0, none⟩, cD, aH, cH, aW, cW, aY, cY, aB, cB, aA, cA⟩) rfl rfl ?_ ?_ ?_ ?_ ?_); (· rfl); (· rfl); (· exact k2); (· simp [Value.oneCell'])))
 have hz := setRow_heap _ (w.heap.size + 1 + 1) _ (rcV { r with ds := L.set q s } ⟨aS, cS, some ⟨g8, 0, none⟩, cD, aH, cH, aW, cW, aY, cY, aB, cB, aA, cA⟩) _ _ k2
 refine ret_cell (ty := 41) Tryz.results79 (w.heap.size + 1 + 1) (rcV { r with ds := L.set q s } ⟨aS, cS, some ⟨g8, 0, none⟩, cD, aH, cH, aW, cW, aY, cY, aB, cB, aA, cA⟩) _ ?_ ?_ hz Tryz.underlying41 rfl (by kernel_rfl) ?_
 ·rfl
 ·rfl
 rw [HR.out]
 refine ⟨⟨aS, cS, some ⟨g8, 0, none⟩, cD, aH, cH, aW, cW, aY, cY, aB, cB, aA, cA⟩, X, col', rfl, HAS.out.setRow SS.out.c2 _, below_setRow' B5.out (by have := HB.out; omega) _, fun b hb h8 => ?_⟩
 have q1 := SS.out.oth b hb h8
 have q2 := NE.out b q1.2
 exact ⟨((setRow_other _ (w.heap.size + 1 + 1) b _ (by omega)).trans ((heap_setCell_other _ ⟨g8, q * 2 + 1, none⟩ b _ q2).trans (heap_setCell_other _ ⟨g8, q * 2, none⟩ b _ q2))).trans q1.1, q1.2⟩
theorem rowC_nil (B : Nat) (w : World) (col : Nat → Nat) (t : Nat) (e : TypeId) (k : Nat) : RowC B w col t e k none 0 0 [] := ⟨World.ownsRow_nil _ _ _ _, fun x hx => by simp at hx⟩
def GPost (B g : Nat) (w : World) (col : Nat → Nat) (r' : Rc) (w' : World) : Prop := ∃ p' X' col', Blk w' g (rcV r' p') 41 ∧ RcHas B w' r' p' X' col' ∧ 8 < col' g ∧ Below B w w' ∧ ∀ b, b < w.heap.size → b ≠ g → 8 < col b → w'.heap[b]? = w.heap[b]? ∧ 8 < col' b
theorem RcHas.quiet {B : Nat} {w : World} {r : Rc} {p : RcP} {X : RcX} {col : Nat → Nat} (h : RcHas B w r p X col) : RcHas B w (calmR r) { p with aY := none, cY := 0, aB := none, cB := 0, aA := none, cA := 0 } ⟨X.H, []⟩ col :=
 (((h.set_y (l := []) (rowC_nil _ _ _ _ _ _) (fun i s hs => by simp at hs)).set_b (l := []) (rowC_nil _ _ _ _ _ _) (fun i s hs => by simp at hs)).set_a (l := []) (rowC_nil _ _ _ _ _ _) ⟨fun m hm => absurd hm (by simp), List.Pairwise.nil⟩ (fun i s hs => by simp at hs)).like rfl rfl rfl rfl rfl rfl rfl
theorem implQuiet (B g : Nat) (r : Rc) (p : RcP) (X : RcX) (col : Nat → Nat) (w : World) (hg : B ≤ g) (hk : Blk w g (rcV r p) 41) (hc : 8 < col g) (h : RcHas B w r p X col) :
  Calls Tryz.prog 141 #[.pointer (some ⟨g, 0, none⟩)] w fun e w' => (∃ v, e = .returned v) ∧ GPost B g w col (calmR r) w' := by
 obtain ⟨aS, cS, aD, cD, aH, cH, aW, cW, aY, cY, aB, cB, aA, cA⟩ := p
 have HN := hid (show RcHas B w (calmR r) ⟨aS, cS, aD, cD, aH, cH, aW, cW, none, 0, none, 0, none, 0⟩ ⟨X.H, []⟩ col from h.quiet)
 have HC := hid hc
 have HG := hid hg
 have K := hid hk
 have cK := hk.cell
 have fK := hk.free
 have eqC : (((((((rcV r ⟨aS, cS, aD, cD, aH, cH, aW, cW, aY, cY, aB, cB, aA, cA⟩).setIfInBounds 11 (.bool false)).setIfInBounds 12 (.bool false)).setIfInBounds 13 (.int .i64 0)).setIfInBounds 14 (.slice none 0 0)).setIfInBounds 15 (.slice none 0 0)).setIfInBounds 16 (.slice none 0 0)) = (rcV (calmR r) ⟨aS, cS, aD, cD, aH, cH, aW, cW, none, 0, none, 0, none, 0⟩) := by simp [calmR]
 have KF := hid (blk_eq ((((((K.out.set (o := 11) (.bool false)).set (o := 12) (.bool false)).set (o := 13) (.int .i64 0)).set (o := 14) (.slice none 0 0)).set (o := 15) (.slice none 0 0)).set (o := 16) (.slice none 0 0)) eqC)
 have done := hid (show GPost B g w col (calmR r) ((((((w.setCell ⟨g, 11, none⟩ (.bool false)).setCell ⟨g, 12, none⟩ (.bool false)).setCell ⟨g, 13, none⟩ (.int .i64 0)).setCell ⟨g, 14, none⟩ (.slice none 0 0)).setCell ⟨g, 15, none⟩ (.slice none 0 0)).setCell ⟨g, 16, none⟩ (.slice none 0 0)) from ⟨⟨aS, cS, aD, cD, aH, cH, aW, cW, none, 0, none, 0, none, 0⟩, _, col, KF.out, ((((((HN.out.setCell (q := ⟨g, 11, none⟩) HC.out (.bool false)).setCell (q := ⟨g, 12, none⟩) HC.out (.bool false)).setCell (q := ⟨g, 13, none⟩) HC.out (.int .i64 0)).setCell (q := ⟨g, 14, none⟩) HC.out (.slice none 0 0)).setCell (q := ⟨g, 15, none⟩) HC.out (.slice none 0 0)).setCell (q := ⟨g, 16, none⟩) HC.out (.slice none 0 0)), HC.out, (below_set (below_set (below_set (below_set (below_set (below_set (Below.refl B w) HG.out (.bool false)) HG.out (.bool false)) HG.out (.int .i64 0)) HG.out (.slice none 0 0)) HG.out (.slice none 0 0)) HG.out (.slice none 0 0)), fun b hb hne h8 => ⟨((heap_setCell_other _ ⟨g, 16, none⟩ b _ hne).trans ((heap_setCell_other _ ⟨g, 15, none⟩ b _ hne).trans ((heap_setCell_other _ ⟨g, 14, none⟩ b _ hne).trans ((heap_setCell_other _ ⟨g, 13, none⟩ b _ hne).trans ((heap_setCell_other _ ⟨g, 12, none⟩ b _ hne).trans (heap_setCell_other _ ⟨g, 11, none⟩ b _ hne)))))), h8⟩⟩)
 clear h hg hc hk eqC
 go_enter Tryz.func141, Tryz.ntmps141
 go_wp2
 refine bodyPost_end (results_none rfl _ _ _) rfl ?_
 exact ⟨⟨_, rfl⟩, done.out⟩
end Go.Proofs.YtffklmlljekceaaGreat
