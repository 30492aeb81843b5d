import Derived.Test.YtffklmlljekceaaGreatQ25
namespace Go.Proofs.YtffklmlljekceaaGreat
open Go.ChangeShapes Go.WideShapes Go.ChangeAt Go.RowKit
set_option linter.unusedSimpArgs false
set_option linter.unusedVariables false
set_option maxHeartbeats 16000000
set_option maxRecDepth 20000
theorem RcHas.low {B B' : Nat} {w : World} {r : Rc} {p : RcP} {X : RcX} {col : Nat → Nat} (h : RcHas B w r p X col) (hB : B' ≤ B) : RcHas B' w r p X col :=
 ⟨h.s.low hB, h.d.low hB, h.h.low hB, h.hm, ⟨fun m hm => (h.hi.row m hm).low hB, h.hi.apart⟩, h.t.low hB, h.y.low hB, h.b.low hB, h.a.low hB, h.am, ⟨fun m hm => (h.ai.row m hm).low hB, h.ai.apart⟩, h.gd⟩
theorem valid_knows {r : Rc} (h : validB r = true) : 0 ≤ r.dk ∧ r.dk ≤ r.ds.length ∧ r.ds.length ≤ 60 := by
 have hd : diskOkB r.dp r.dk r.ds = true := by
  cases hc : diskOkB r.dp r.dk r.ds
  ·rw [nv_g2 hc] at h; cases h
  rfl
 simp only [diskOkB, slotsOkB, Bool.and_eq_true, decide_eq_true_eq] at hd
 obtain ⟨⟨⟨_, ⟨h1, _⟩⟩, h2⟩, _⟩ := hd
 exact ⟨(inB_iff.1 h2).1, (inB_iff.1 h2).2, h1⟩
theorem wish_no6 {r : Rc} {t : ByteArray} (h : inB (t.size : Int) 1 100 = false) : wishR r t = r := wishR_no (by simp only [wishB, h, Bool.false_and])
theorem wish_yes6 {r : Rc} {t : ByteArray} (h1 : inB (t.size : Int) 1 100 = true) (h3 : ¬ (20 : Int) ≤ (r.wish.length : Int)) (h4 : hasSlot (r.ds.take r.dk.toNat) t = false) (h5 : hasB r.wish t = false) : wishR r t = { r with wish := r.wish ++ [t] } :=
 wish_yes (by have := (inB_iff.1 h1).1; omega) (by have := (inB_iff.1 h1).2; omega) h3 h4 h5
theorem implWishG (B g : Nat) (r : Rc) (p : RcP) (X : RcX) (col : Nat → Nat) (t : ByteArray) (w : World) (hg : B ≤ g) (hk : Blk w g (rcV r p) 41) (hcol : 8 < col g) (hv : validB r = true) (ht : t.size ≤ 1048576) (h : RcHas B w r p X col) :
  Calls Tryz.prog 140 #[.pointer (some ⟨g, 0, none⟩), .string t] w fun e w' => (∃ v, e = .returned v) ∧ GPost B g w col (wishR r t) w' := by
 obtain ⟨aS, cS, aD, cD, aH, cH, aW, cW, aY, cY, aB, cB, aA, cA⟩ := p
 have RD := hid h.fresh
 have CG := hid (show 8 < colF w.heap.size col g by rw [colF_old hk.lt]; exact hcol)
 obtain ⟨hk0, hk1, hk2⟩ := valid_knows hv
 have HV := hid hv
 have HG := hid hg
 have HBs := hid (show B ≤ w.heap.size from Nat.le_trans hg (Nat.le_of_lt hk.lt))
 obtain ⟨k, hk9⟩ : ∃ k : Nat, r.dk = (k : Int) := ⟨r.dk.toNat, by omega⟩
 have hkn : k ≤ r.ds.length := by omega
 have TK := hid (show r.dk.toNat = k by omega)
 have HK := hid hk9
 have K1 := hid hk
 have hwl : r.wish.length ≤ 20 := by
  have h9 : wishesOkB r.wish = true := by
   cases hc : wishesOkB r.wish
   ·rw [nv_g4 hc] at hv; cases hv
   rfl
  simp only [wishesOkB, Bool.and_eq_true, decide_eq_true_eq] at h9
  exact h9.1
 clear h hk0 hk1 hk2 hk hcol hv hk9 hg
 have cK := K1.out.cell
 have same := hid (show GPost B g w col r w from ⟨⟨aS, cS, aD, cD, aH, cH, aW, cW, aY, cY, aB, cB, aA, cA⟩, X, _, K1.out, RD.out, CG.out, Below.refl _ _, fun b hb _ h8 => ⟨rfl, by rw [colF_old hb]; exact h8⟩⟩)
 cases h1 : inB (t.size : Int) 1 100
 case false =>
  have H1 := hid (wish_no6 (r := r) h1)
  go_enter Tryz.func140, Tryz.ntmps140
  go_wp2_with (go_at_call 89; refine (within_any _ _ _ _).mono ?_; rintro e w' ⟨rfl, he⟩; have he' := he.symm; subst he'; clear he)
  refine bodyPost_end (results_none rfl _ _ _) rfl ?_
  rw [H1.out]
  exact ⟨⟨_, rfl⟩, same.out⟩
 by_cases h3 : (20 : Int) ≤ (r.wish.length : Int)
 ·have H1 := hid (wish_no3 (t := t) h3)
  have h3' : ¬ (r.wish.length : Int) < 20 := by omega
  go_enter Tryz.func140, Tryz.ntmps140
  go_wp2_with (go_at_call 89; refine (within_any _ _ _ _).mono ?_; rintro e w' ⟨rfl, he⟩; have he' := he.symm; subst he'; clear he)
  refine bodyPost_end (results_none rfl _ _ _) rfl ?_
  rw [H1.out]
  exact ⟨⟨_, rfl⟩, same.out⟩
 have h3' : (r.wish.length : Int) < 20 := by omega
 have AW := hid (RD.out.at.hW)
 cases h5 : hasB r.wish t
 case true =>
  have H1 := hid (wish_no5 (r := r) (t := t) h5)
  go_enter Tryz.func140, Tryz.ntmps140
  go_wp2_with (first | (go_at_call 89; refine (within_any _ _ _ _).mono ?_; rintro e w' ⟨rfl, he⟩; have he' := he.symm; subst he'; clear he) | (go_at_call 126; refine (contains_any aW r.wish r.wish.length cW t _ rfl RD.out.at.lW AW.out).mono ?_; rintro e w' ⟨rfl, he⟩; have he' := he.symm; subst he'; clear he))
  refine bodyPost_end (results_none rfl _ _ _) rfl ?_
  rw [H1.out]
  exact ⟨⟨_, rfl⟩, same.out⟩
 have H5 := hid h5
 go_enter Tryz.func140, Tryz.ntmps140
 go_wp2_with (first | (go_at_call 89; refine (within_any _ _ _ _).mono ?_; rintro e w' ⟨rfl, he⟩; have he' := he.symm; subst he'; clear he) | (go_at_call 126; refine (contains_any aW r.wish r.wish.length cW t _ rfl RD.out.at.lW AW.out).mono ?_; rintro e w' ⟨rfl, he⟩; have he' := he.symm; subst he'; clear he))
 refine (knows_any r.dp r.dk aD r.ds r.ds.length cD k t _ rfl RD.out.at.lD HK.out hkn RD.out.d.len.2 RD.out.d.plain.1 RD.out.at.hD).mono ?_
 rintro e w1 ⟨rfl, hb1⟩
 have B1 := hid hb1
 have k1 := K1.out.ext hb1
 have K1b := hid k1
 clear hb1 cK
 cases h4 : hasText (r.ds.take k) t
 case true =>
  have H1 := hid (wish_no4 (r := r) (t := t) (by rw [← hasText_eq HV.out, TK.out]; exact h4))
  go_wp2
  refine bodyPost_end (results_none rfl _ _ _) rfl ?_
  rw [H1.out]
  exact ⟨⟨_, rfl⟩, ⟨aS, cS, aD, cD, aH, cH, aW, cW, aY, cY, aB, cB, aA, cA⟩, X, _, K1b.out, RD.out.ext B1.out, CG.out, B1.out.mono HBs.out, fun b hb _ h8 => ⟨B1.out.block b hb, by rw [colF_old hb]; exact h8⟩⟩
 have H4 := hid (show hasSlot (r.ds.take r.dk.toNat) t = false by rw [← hasText_eq HV.out, TK.out]; exact h4)
 have H1 := hid (wish_yes6 h1 (by omega) H4.out H5.out)
 have HT := hid (show okS t by unfold okS maxLen; omega)
 clear h4
 have cK := k1.cell
 have OW := hid ((RD.out.ext (ext_alloc B1.out (.cells #[.string t] 9))).t.own)
 have GNE := hid (show some g ≠ (Value.slice aW r.wish.length cW).ownBlock from fun e => by
  have h9 := RD.out.t.col
  have h8 := CG.out
  cases hs : aW with
  | none => rw [hs] at e; simp [Value.ownBlock] at e
  | some y =>
   rw [hs] at e
   simp only [Value.ownBlock, Option.some.injEq] at e
   have h7 := h9 y hs
   rw [← e] at h7
   omega)
 have DNE := hid (show ∀ b, 8 < colF w.heap.size col b → some b ≠ (Value.slice aW r.wish.length cW).ownBlock from fun b h8 e => by
  cases hs : aW with
  | none => rw [hs] at e; simp [Value.ownBlock] at e
  | some y =>
   rw [hs] at e
   simp only [Value.ownBlock, Option.some.injEq] at e
   have h7 := RD.out.t.col y hs
   rw [← e] at h7
   omega)
 have WB := hid (show ∀ j, (Value.slice aW r.wish.length cW).ownBlock = some j → B ≤ j from fun j hj => (RD.out.t.own.lt j hj).1)
 have NEWS := hid (show ReadAt (w1.alloc (.cells #[.string t] 9)) (some ⟨w1.heap.size, 0, none⟩) 1 1 1 [.string t] from
  ⟨rfl, fun e => by simp at e, fun x hx => by
   simp only [Option.some.injEq] at hx
   subst hx
   exact ⟨rfl, blk_news (Blk.new w1 #[.string t] 9)⟩⟩)
 go_wp2_with (first
  | ((with_reducible refine wpList_appT B aW r.wish.length cW (flatT r.wish) (some ⟨w1.heap.size, 0, none⟩) 1 1 [.string t] ?_ ?_ ?_ ?_ ?_ ?_ ?_ ?_); (· rfl); (· rfl); (· exact OW.out); (· exact NEWS.out); (· intro u hu; simp at hu; subst hu; rfl); (· omega); (· have h9 := HBs.out; have h8 := B1.out.size; simp; omega); (intro a' c' w2 q1 q2 q3); (have K1c := hid (show Blk w2 g (rcV r ⟨aS, cS, aD, cD, aH, cH, aW, cW, aY, cY, aB, cB, aA, cA⟩) 41 from (q2.block g (k1.alloc (.cells #[.string t] 9)).lt GNE.out).trans (k1.alloc (.cells #[.string t] 9)))); (have HAS := hid (RcHas.growT (RD.out.ext (ext_alloc B1.out (.cells #[.string t] 9))) (l := r.wish ++ [t]) q2 (by (simp only [List.length_append, List.length_cons, List.length_nil, flatT, List.map_append, List.map_cons, List.map_nil]; exact q1)) q3 (goodT_snoc RD.out.gd.t HT.out))); (have B3 := hid (below_grow ((ext_alloc B1.out (.cells #[.string t] 9)).mono HBs.out) q2 WB.out (by have h9 := HBs.out; have h8 := B1.out.size; simp; omega))); (have NW := hid (show 8 < colN a' 3 (colF w.heap.size col) g by (rw [colN_else (fun x hx he => by (rcases q3 x hx with ⟨y, hy, hyx⟩ | hnew; (· have h9 := RD.out.t.col y hy; have h8 := CG.out; rw [hyx, he] at h9; omega); (· have h9 := K1.out.lt; have h8 := B1.out.size; simp at hnew; omega)))]; exact CG.out))); (have OB := hid (show ∀ b, b < w.heap.size → 8 < col b → w2.heap[b]? = w.heap[b]? ∧ 8 < colN a' 3 (colF w.heap.size col) b from fun b hb h8 => by (have h9 : 8 < colF w.heap.size col b := (by (rw [colF_old hb]; exact h8)); have h7 := B1.out.size; exact ⟨(q2.block b (by simp; omega) (DNE.out b h9)).trans ((ext_alloc B1.out (.cells #[.string t] 9)).block b hb), (by (rw [colN_else (fun x hx he => by (rcases q3 x hx with ⟨y, hy, hyx⟩ | hnew; (· have h6 := RD.out.t.col y hy; rw [hyx, he] at h6; omega); (· simp at hnew; omega)))]; exact h9))⟩))); (clear q1 q2 q3 k1 cK); (have eqC : (rcV { r with wish := r.wish ++ [t] } ⟨aS, cS, aD, cD, aH, cH, a', c', aY, cY, aB, cB, aA, cA⟩) = (rcV r ⟨aS, cS, aD, cD, aH, cH, aW, cW, aY, cY, aB, cB, aA, cA⟩).setIfInBounds 10 (.slice a' (r.wish.length + 1) c') := by simp); (have k1 : Blk (w2.setCell ⟨g, 10, none⟩ (.slice a' (r.wish.length + 1) c')) g (rcV { r with wish := r.wish ++ [t] } ⟨aS, cS, aD, cD, aH, cH, a', c', aY, cY, aB, cB, aA, cA⟩) 41 := by (rw [eqC]; exact K1c.out.set (o := 10) (.slice a' (r.wish.length + 1) c'))); (clear eqC); (have cK := K1c.out.cell); (have fK := K1c.out.free)))
 refine bodyPost_end (results_none rfl _ _ _) rfl ?_
 rw [H1.out]
 exact ⟨⟨_, rfl⟩, ⟨aS, cS, aD, cD, aH, cH, a', c', aY, cY, aB, cB, aA, cA⟩, X, _, k1, HAS.out.setCell (q := ⟨g, 10, none⟩) NW.out _, NW.out, below_set B3.out HG.out _, fun b hb hne h8 => ⟨(heap_setCell_other _ ⟨g, 10, none⟩ b _ hne).trans (OB.out b hb h8).1, (OB.out b hb h8).2⟩⟩
def isOfB (l : List Sl) (q : Nat) (b : Int) : Bool := match l[q]? with | some s => decide (s.1 = b) | none => false
theorem slotIsOf_any (x y : Int) (a : Option Addr) (l : List Sl) (n cap q : Nat) (b : Int) (w : World) (hn : l.length = n) (hc : n ≤ 1048576) (hq : q ≤ 1048576) (h : SlotsAt w a l) :
  Calls Tryz.prog 139 #[.agg #[.int .i64 x, .int .i64 y, .slice a n cap], .int .i64 ((q + 1 : Nat) : Int), .int .i64 b] w fun e w' => e = .returned (.bool (isOfB l q b)) ∧ Below w.heap.size w w' := by
 have HL := hid hn
 have BV := hid (show Below w.heap.size w (w.alloc (.cells #[.int .i64 x, .int .i64 y, .slice a n cap] 37)) from ext_alloc (Below.refl _ _) _)
 by_cases hlt : q < n
 ·obtain ⟨s, hs0⟩ : ∃ s, l[q]? = some s := ⟨_, List.getElem?_eq_getElem (by omega)⟩
  have HR := hid (show isOfB l q b = decide (s.1 = b) by simp [isOfB, hs0])
  obtain ⟨bb, off, rfl, hb1, c0, c1, _⟩ := (h.ext BV.out) q s hs0
  clear hs0 hn h
  have e1 : (0 : Int) ≤ (q : Int) := by omega
  have e2 : (q : Int) < (n : Int) := by omega
  have e5 : IntKind.i64.wrap (q : Int) = (q : Int) := by go_arith
  have e3 : ((q + 1 : Nat) : Int) ≤ (n : Int) := by omega
  go_enter Tryz.func139, Tryz.ntmps139
  go_wp2
  go_ret
  rw [HR.out]
  exact ⟨rfl, BV.out⟩
 have HR := hid (show isOfB l q b = false by simp [isOfB, List.getElem?_eq_none (show l.length ≤ q by omega)])
 clear hn h
 have e3 : ¬ ((q + 1 : Nat) : Int) ≤ (n : Int) := by omega
 go_enter Tryz.func139, Tryz.ntmps139
 go_wp2
 go_ret
 rw [HR.out]
 exact ⟨rfl, BV.out⟩
theorem holdBehind_any (g : Nat) (w : World) :
  Calls Tryz.prog 100 #[.pointer (some ⟨g, 0, none⟩)] w fun e w' => e = .returned (.func (.func 133) #[] #[.pointer (some ⟨w.heap.size, 0, none⟩)]) ∧ w' = w.alloc (.cells #[.pointer (some ⟨g, 0, none⟩)] 74) := by
 go_enter Tryz.func100, Tryz.ntmps100
 go_wp2
 go_ret
 exact ⟨rfl, rfl⟩
theorem holdR_dp (r : Rc) (m : MsgH) (l : List Sl) : (holdR r m l).dp = r.dp := by
 unfold holdR
 split <;> rfl
abbrev atK (r : Rc) (d : Int) : Rc := { r with dk := d }
def advB (r : Rc) (d : Int) (a : Ak) : Bool := decide (a.1 = d + 1) && (decide (r.of_ < 2 * (a.2.length : Int)) && isOfB r.ds d.toNat r.ball)
def advK (r : Rc) (l : List Ak) (d : Int) : Int := l.foldl (fun d a => if advB r d a = true then a.1 else d) d
def advR (r : Rc) : Rc := atK r (advK r r.acks r.dk)
theorem advK_snoc (r : Rc) (l : List Ak) (a : Ak) (d : Int) : advK r (l ++ [a]) d = if advB r (advK r l d) a = true then a.1 else advK r l d := by rw [advK, List.foldl_append]; rfl
theorem isOfB_lt {l : List Sl} {q : Nat} {b : Int} (h : isOfB l q b = true) : q < l.length := by
 unfold isOfB at h
 split at h
 ·rename_i s hs; exact (List.getElem?_eq_some_iff.1 hs).1
 cases h
theorem advK_in (r : Rc) : ∀ (l : List Ak) (d : Int), 0 ≤ d → d ≤ r.ds.length → 0 ≤ advK r l d ∧ advK r l d ≤ r.ds.length
 | [], d, h1, h2 => ⟨h1, h2⟩
 | a :: l, d, h1, h2 => by
  simp only [advK, List.foldl_cons]
  by_cases hb : advB r d a = true
  ·rw [if_pos hb]
   simp only [advB, Bool.and_eq_true, decide_eq_true_eq] at hb
   have := isOfB_lt hb.2.2
   exact advK_in r l a.1 (by omega) (by omega)
  rw [if_neg hb]
  exact advK_in r l d h1 h2
structure AdvS (B : Nat) (w : World) (col : Nat → Nat) (r : Rc) (p : RcP) (X : RcX) (d : Int) (wr : World) : Prop where
 k : Blk wr w.heap.size (rcV (atK r d) p) 41
 z : Blk wr (w.heap.size + 1) zRc 41
 has : RcHas B wr r p X (colF w.heap.size col)
 bel : Below w.heap.size w wr
theorem AdvS.alloc {B : Nat} {w : World} {col : Nat → Nat} {r : Rc} {p : RcP} {X : RcX} {d : Int} {wr : World} (h : AdvS B w col r p X d wr) (o : Obj) : AdvS B w col r p X d (wr.alloc o) :=
 ⟨h.k.alloc _, h.z.alloc _, h.has.ext (ext_alloc (Below.refl _ _) _), ext_alloc h.bel _⟩
theorem AdvS.ext {B : Nat} {w : World} {col : Nat → Nat} {r : Rc} {p : RcP} {X : RcX} {d : Int} {wr wr' : World} (h : AdvS B w col r p X d wr) (hb : Below wr.heap.size wr wr') : AdvS B w col r p X d wr' :=
 ⟨h.k.ext hb, h.z.ext hb, h.has.ext hb, ext_trans h.bel hb⟩
theorem AdvS.put {B : Nat} {w : World} {col : Nat → Nat} {r : Rc} {p : RcP} {X : RcX} {d : Int} {wr : World} (h : AdvS B w col r p X d wr) (d' : Int) : AdvS B w col r p X d' (wr.setCell ⟨w.heap.size, 7, none⟩ (.int .i64 d')) :=
 ⟨by have := h.k.set (o := 7) (.int .i64 d'); simpa using this, h.z.setCell (by simp) _, h.has.setCell (q := ⟨w.heap.size, 7, none⟩) (by rw [colF_new (Nat.le_refl _)]; omega) _, below_set h.bel (Nat.le_refl _) _⟩
theorem specAdvance (B : Nat) (r : Rc) (p : RcP) (X : RcX) (col : Nat → Nat) (w : World) (hB : B ≤ w.heap.size) (hd0 : 0 ≤ r.dk) (hd1 : r.dk ≤ r.ds.length) (hS : RcSmall r) (h : RcHas B w r p X col) :
  Calls Tryz.prog 125 #[.agg (rcV r p)] w (TPost B w col (advR r)) := by
 have HB := hid hB
 have HS := hid hS
 have HM := hid h.am
 have HD := hid (And.intro hd0 hd1)
 have BV := hid (show Below w.heap.size w ((w.alloc (.cells (rcV r p) 41)).alloc (.cells zRc 41)) from ext_alloc (ext_alloc (Below.refl _ _) _) _)
 have S0 := hid (show AdvS B w col r p X r.dk ((w.alloc (.cells (rcV r p) 41)).alloc (.cells zRc 41)) from
  ⟨(Blk.new _ _ _).alloc _, Blk.new' _ _ (by simp), h.fresh.ext BV.out, BV.out⟩)
 clear h hS hB hd0 hd1
 go_enter Tryz.func125, Tryz.ntmps125
 go_wp2_with fail
 go_loopw [3] (fun i wr => ∃ (k : Nat), k ≤ r.acks.length ∧ i = .int .i64 k ∧ AdvS B w col r p X (advK r (r.acks.take k) r.dk) wr) (fun i _ => r.acks.length - (intOf i).toNat)
 case atStart => exact ⟨0, Nat.zero_le _, rfl, S0.out⟩
 obtain ⟨k, hk, rfl, hss⟩ := hrel
 have SS := hid hss
 have LA := hid HS.out.lA
 have ED := hid (advK_in r (r.acks.take k) r.dk HD.out.1 HD.out.2)
 have SN := hid (show ∀ a, r.acks[k]? = some a → advK r (r.acks.take (k + 1)) r.dk = if advB r (advK r (r.acks.take k) r.dk) a = true then a.1 else advK r (r.acks.take k) r.dk from fun a ha => by
  rw [List.take_add_one, ha]
  exact advK_snoc r (r.acks.take k) a r.dk)
 obtain ⟨d, hd⟩ : ∃ d, d = advK r (r.acks.take k) r.dk := ⟨_, rfl⟩
 have HDK := hid hd
 rw [← hd] at hss SS ED SN
 have d0 : 0 ≤ d := ED.out.1
 have d1 : d ≤ r.ds.length := ED.out.2
 have dS := HS.out.lD
 have aS := LA.out
 clear hd hss S0
 have cK := SS.out.k.cell
 have fK := SS.out.k.free
 have k1 := SS.out.k
 have k2 := SS.out.z
 by_cases hlt : k < r.acks.length
 ·obtain ⟨x, hx0⟩ : ∃ x, X.A[k]? = some x := ⟨_, List.getElem?_eq_getElem (by rw [← List.length_map (f := (·.1)), HM.out]; exact hlt)⟩
  have hx : Hid (r.acks[k]? = some x.1) := by
   show r.acks[k]? = some x.1
   rw [← HM.out, List.getElem?_map, hx0]; rfl
  obtain ⟨gA, ea, _, c0, _⟩ := SS.out.has.a.cellA hx0 (q := 0) (by omega) rfl
  obtain ⟨gA', ea', _, c1, _⟩ := SS.out.has.a.cellA hx0 (q := 1) (by omega) rfl
  have e9 := some_inj_addr ea ea'
  subst e9
  clear ea' hx0
  obtain ⟨aS1, cS1, aD, cD, aH, cH, aW, cW, aY, cY, aB, cB, aA, cA⟩ := p
  dsimp only at ea
  subst ea
  simp only [Nat.add_zero] at c0
  have e1 : (0 : Int) ≤ (k : Int) := by omega
  have e2 : (k : Int) < (r.acks.length : Int) := by omega
  have XS : x.1.2.length ≤ 1048576 := HS.out.nA k _ hx.out
  have e5 : IntKind.i64.wrap (2 * (x.1.2.length : Int)) = 2 * (x.1.2.length : Int) := by go_arith
  obtain ⟨q, rfl⟩ : ∃ q : Nat, d = (q : Int) := ⟨d.toNat, by omega⟩
  obtain ⟨⟨v, fl⟩, xa, xc⟩ := x
  dsimp only at c0 c1 hx XS e5
  have S1 := hid (SS.out.alloc (.cells #[.int .i64 v, .slice xa fl.length xc] 105))
  have cB := S1.out.k.cell
  have fB := S1.out.k.free
  have cN := (Blk.new wr #[.int .i64 v, .slice xa fl.length xc] 105).cell
  go_wp2_with fail
  clear cK fK c0 c1 k1 k2
  by_cases g1 : v = (q : Int) + 1
  ·subst g1
   have u1 : decide ((q : Int) + 1 = (q : Int) + 1) = true := by simp
   by_cases g2 : r.of_ < 2 * (fl.length : Int)
   ·have u2 : decide (r.of_ < 2 * (fl.length : Int)) = true := decide_eq_true g2
    by_cases g3 : q < r.ds.length
    ·have u3 : decide ((q : Int) + 1 ≤ (r.ds.length : Int)) = true := decide_eq_true (by omega)
     obtain ⟨t, ht⟩ : ∃ t, r.ds[q]? = some t := ⟨_, List.getElem?_eq_getElem g3⟩
     have HT := hid ht
     obtain ⟨gD, ed, _, dc, _⟩ := S1.out.has.d.cell (flat_at r.ds q t ht).1
     dsimp only at ed
     subst ed
     clear ht
     have e6 : (0 : Int) ≤ (q : Int) := by omega
     have e7 : (q : Int) < (r.ds.length : Int) := by omega
     by_cases g4 : t.1 = r.ball
     ·have u4 : decide (t.1 = r.ball) = true := decide_eq_true g4
      go_quiet (fail)
      go_wp2_with fail
      go_roundw
      case rel => exact ⟨k + 1, by omega, by go_num, by rw [SN.out _ hx.out, if_pos (by simp [advB, g2, isOfB, HT.out, g4])]; exact (S1.out.ext (below_drewN (Below.refl _ _) _)).put _⟩
      case measure => simp [intOf]; omega
     have u4 : decide (t.1 = r.ball) = false := decide_eq_false g4
     go_quiet (fail)
     go_wp2_with fail
     go_roundw
     case rel => exact ⟨k + 1, by omega, by go_num, by rw [SN.out _ hx.out, if_neg (by simp [advB, isOfB, HT.out, g4])]; exact S1.out.ext (below_drewN (Below.refl _ _) _)⟩
     case measure => simp [intOf]; omega
    have u3 : decide ((q : Int) + 1 ≤ (r.ds.length : Int)) = false := decide_eq_false (by omega)
    go_quiet (fail)
    go_wp2_with fail
    go_roundw
    case rel => exact ⟨k + 1, by omega, by go_num, by rw [SN.out _ hx.out, if_neg (by simp [advB, isOfB, List.getElem?_eq_none (show r.ds.length ≤ q by omega)])]; exact S1.out.ext (below_drewN (Below.refl _ _) _)⟩
    case measure => simp [intOf]; omega
   have u2 : decide (r.of_ < 2 * (fl.length : Int)) = false := decide_eq_false g2
   go_quiet (fail)
   go_wp2_with fail
   go_roundw
   case rel => exact ⟨k + 1, by omega, by go_num, by rw [SN.out _ hx.out, if_neg (by simp [advB, u2])]; exact S1.out.ext (below_drewN (Below.refl _ _) _)⟩
   case measure => simp [intOf]; omega
  have e3 : IntKind.i64.wrap ((q : Int) + 1) = (q : Int) + 1 := by go_arith
  have u1 : (v == (q : Int) + 1) = false := beq_false_of_ne g1
  have G1 := hid g1
  clear g1
  go_quiet (fail)
  go_wp2_with fail
  go_roundw
  case rel => exact ⟨k + 1, by omega, by go_num, by rw [SN.out _ hx.out, if_neg (by simp [advB, G1.out])]; exact S1.out.ext (below_drewN (Below.refl _ _) _)⟩
  case measure => simp [intOf]; omega
 have e2 : ¬ (k : Int) < (r.acks.length : Int) := by omega
 obtain rfl : k = r.acks.length := by omega
 go_wp2_with (first
  | ((with_reducible refine wpList_load_rec w.heap.size (rcV (atK r d) p) rfl ?_ ?_ ?_); (· rfl); (· exact k1))
  | ((with_reducible refine wpList_store_rec_at (w.heap.size + 1) zRc (rcV (atK r d) p) rfl rfl ?_ ?_ ?_ ?_ ?_); (· rfl); (· rfl); (· exact k2); (· simp [Value.oneCell'])))
 have hz := setRow_heap _ (w.heap.size + 1) _ (rcV (atK r d) p) _ _ k2
 refine ret_cell (ty := 41) Tryz.results125 (w.heap.size + 1) (rcV (atK r d) p) _ ?_ ?_ hz Tryz.underlying41 rfl (by kernel_rfl) ?_
 ·rfl
 ·rfl
 have HR : advR r = atK r d := by rw [HDK.out, List.take_length]; rfl
 rw [HR]
 refine ⟨p, X, colF w.heap.size col, rfl, (SS.out.has.like (r' := atK r d) rfl rfl rfl rfl rfl rfl rfl).setRow (g := w.heap.size + 1) (by rw [colF_new (by omega)]; omega) _, below_setRow' (SS.out.bel.mono HB.out) (by have := HB.out; omega) _, fun b hb h8 => ⟨(setRow_other _ _ b _ (by omega)).trans (SS.out.bel.block b hb), by rw [colF_old hb]; exact h8⟩⟩
end Go.Proofs.YtffklmlljekceaaGreat
