import Derived.Test.YtffklmlljekceaaGreatQ24
namespace Go.Proofs.YtffklmlljekceaaGreat
open Go.ChangeShapes Go.WideShapes Go.ChangeAt Go.RowKit
set_option linter.unusedSimpArgs false
set_option linter.unusedVariables false
set_option maxHeartbeats 16000000
set_option maxRecDepth 20000
theorem wpList_slice_hi {ops : Array Oper} {rest : List Oper} {dst : Option Tmp} {x y : Operand} {τ : TypeId} {pos : String} {after : Array Edge} {gd : Option (Nat × Bool)} {a : Act} {w : World} {Q : Exit → Act → World → Prop}
  (aD : Option Addr) (n c k : Nat) (hw : Region.wanted { dst := dst, op := .slice 35 x none (some y) none, type := τ, pos := pos, after := after, guard := gd } (yielded ops a.tmps) = true)
  (hx : a.eval x = .slice aD n c) (hy : a.eval y = .int .i64 (k : Int)) (hk : k ≤ c) (ha : aD = none → c = 0)
  (h : wpList Tryz.prog ops Q rest (a.put dst (.slice aD k c)) w) :
  wpList Tryz.prog ops Q ({ dst := dst, op := .slice 35 x none (some y) none, type := τ, pos := pos, after := after, guard := gd } :: rest) a w :=
 wpList_step fun K hK => by
  rw [if_pos hw]
  have e1 : (0 : Int) ≤ (k : Int) := by omega
  have e2 : (k : Int) ≤ (c : Int) := by omega
  have hK' := hid (hK _ _ h)
  clear hK h hw
  cases aD with
  | none =>
   have e9 := ha rfl
   subst e9
   have e8 : k = 0 := by omega
   subst e8
   simp only [Oper.wp, execOp, hx, hy, Option.map_some, Option.map_none]
   go_simp
   exact hK'.out
  | some ad =>
   simp only [Oper.wp, execOp, hx, hy, Option.map_some, Option.map_none]
   go_simp
   exact hK'.out
theorem wish_no1 {r : Rc} {t : ByteArray} (h : (t.size : Int) < 1) : wishR r t = r := wishR_no (by simp only [wishB, inB_low (show ¬ (1 : Int) ≤ (t.size : Int) by omega), Bool.false_and])
theorem wish_no2 {r : Rc} {t : ByteArray} (h : 100 < (t.size : Int)) : wishR r t = r := wishR_no (by simp only [wishB, inB_high (show ¬ (t.size : Int) ≤ 100 by omega), Bool.false_and])
theorem wish_no3 {r : Rc} {t : ByteArray} (h : (20 : Int) ≤ (r.wish.length : Int)) : wishR r t = r := wishR_no (by simp only [wishB, decide_eq_false (show ¬ r.wish.length < 20 by omega), Bool.and_false, Bool.false_and])
theorem wish_no4 {r : Rc} {t : ByteArray} (h : hasSlot (r.ds.take r.dk.toNat) t = true) : wishR r t = r := wishR_no (by simp only [wishB, h, Bool.not_true, Bool.and_false, Bool.false_and])
theorem wish_no5 {r : Rc} {t : ByteArray} (h : hasB r.wish t = true) : wishR r t = r := wishR_no (by simp only [wishB, h, Bool.not_true, Bool.and_false])
theorem wish_yes {r : Rc} {t : ByteArray} (h1 : ¬ (t.size : Int) < 1) (h2 : ¬ 100 < (t.size : Int)) (h3 : ¬ (20 : Int) ≤ (r.wish.length : Int)) (h4 : hasSlot (r.ds.take r.dk.toNat) t = false) (h5 : hasB r.wish t = false) : wishR r t = { r with wish := r.wish ++ [t] } :=
 wishR_yes (by simp only [wishB, inB_yes (show (1 : Int) ≤ (t.size : Int) by omega) (show (t.size : Int) ≤ 100 by omega), decide_eq_true (show r.wish.length < 20 by omega), h4, h5]; rfl)
theorem hasB_yes {l : List ByteArray} {t u : ByteArray} {k : Nat} (hs : l[k]? = some u) (h : sameB u t = true) : hasB l t = true := List.any_eq_true.2 ⟨u, List.mem_of_getElem? hs, by rw [sameB_comm]; exact h⟩
theorem hasB_no {l : List ByteArray} {t : ByteArray} (h : ∀ (i : Nat) u, i < l.length → l[i]? = some u → sameB u t = false) : hasB l t = false := by
 unfold hasB
 rw [List.any_eq_false]
 intro u hu
 obtain ⟨i, hi, rfl⟩ := List.getElem_of_mem hu
 rw [sameB_comm, h i _ hi (List.getElem?_eq_getElem hi)]
 simp
theorem specWishT (B : Nat) (r : Rc) (p : RcP) (X : RcX) (col : Nat → Nat) (t : ByteArray) (w : World) (hB : B ≤ w.heap.size) (hk0 : 0 ≤ r.dk) (hk1 : r.dk ≤ r.ds.length) (hw : r.wish.length ≤ 1048576) (ht : t.size ≤ 1048576) (h : RcHas B w r p X col) :
  Calls Tryz.prog 82 #[.agg (rcV r p), .string t] w (TPost B w col (wishR r t)) := by
 obtain ⟨aS, cS, aD, cD, aH, cH, aW, cW, aY, cY, aB, cB, aA, cA⟩ := p
 have RD := hid h.fresh
 have HBs := hid hB
 obtain ⟨k, hk9⟩ : ∃ k : Nat, r.dk = (k : Int) := ⟨r.dk.toNat, by omega⟩
 have hkn : k ≤ r.ds.length := by omega
 have TK := hid (show r.dk.toNat = k by omega)
 have HK := hid hk9
 have hkc : k ≤ cD := Nat.le_trans hkn RD.out.d.len.2
 clear h hk0 hk1 hB
 obtain ⟨V, hV⟩ : ∃ V, V = (w.alloc (.cells (rcV r ⟨aS, cS, aD, cD, aH, cH, aW, cW, aY, cY, aB, cB, aA, cA⟩) 41)).alloc (.cells zRc 41) := ⟨_, rfl⟩
 have BV := hid (show Below w.heap.size w V by rw [hV]; exact ext_alloc (ext_alloc (Below.refl _ _) _) _)
 have K1 := hid (show Blk V w.heap.size (rcV r ⟨aS, cS, aD, cD, aH, cH, aW, cW, aY, cY, aB, cB, aA, cA⟩) 41 by rw [hV]; exact (Blk.new _ _ _).alloc _)
 have K2 := hid (show Blk V (w.heap.size + 1) zRc 41 by rw [hV]; exact Blk.new' _ _ (by simp))
 have c7 := (K1.out.cell 7).trans (show (rcV r ⟨aS, cS, aD, cD, aH, cH, aW, cW, aY, cY, aB, cB, aA, cA⟩)[7]? = some (Value.int .i64 (k : Int)) by rw [← hk9]; rfl)
 have c8 := (K1.out.cell 8).trans (show (rcV r ⟨aS, cS, aD, cD, aH, cH, aW, cW, aY, cY, aB, cB, aA, cA⟩)[8]? = some (Value.slice aD r.ds.length cD) from rfl)
 have c10 := (K1.out.cell 10).trans (show (rcV r ⟨aS, cS, aD, cD, aH, cH, aW, cW, aY, cY, aB, cB, aA, cA⟩)[10]? = some (Value.slice aW r.wish.length cW) from rfl)
 have k1 := K1.out
 have k2 := K2.out
 rw [hV] at c7 c8 c10 k1 k2
 clear hk9
 by_cases h1 : (t.size : Int) < 1
 ·have H1 := hid (wish_no1 (r := r) h1)
  go_enter Tryz.func82, Tryz.ntmps82
  go_wp2_with (first
   | ((with_reducible refine wpList_load_rec w.heap.size (rcV r ⟨aS, cS, aD, cD, aH, cH, aW, cW, aY, cY, aB, cB, aA, cA⟩) rfl ?_ ?_ ?_); (· rfl); (· exact k1))
   | ((with_reducible refine wpList_store_rec_at (w.heap.size + 1) zRc (rcV r ⟨aS, cS, aD, cD, aH, cH, aW, cW, aY, cY, aB, cB, aA, cA⟩) rfl rfl ?_ ?_ ?_ ?_ ?_); (· rfl); (· rfl); (· exact k2); (· simp [Value.oneCell'])))
  have hz := setRow_heap _ (w.heap.size + 1) _ (rcV r ⟨aS, cS, aD, cD, aH, cH, aW, cW, aY, cY, aB, cB, aA, cA⟩) _ _ k2
  refine ret_cell (ty := 41) Tryz.results82 (w.heap.size + 1) (rcV r ⟨aS, cS, aD, cD, aH, cH, aW, cW, aY, cY, aB, cB, aA, cA⟩) _ ?_ ?_ hz Tryz.underlying41 rfl (by kernel_rfl) ?_
  ·rfl
  ·rfl
  rw [H1.out]
  rw [← hV]
  exact ⟨⟨aS, cS, aD, cD, aH, cH, aW, cW, aY, cY, aB, cB, aA, cA⟩, X, _, rfl, (RD.out.ext BV.out).setRow (by rw [colF_new (by omega)]; omega) _, below_setRow' (BV.out.mono HBs.out) (by have := HBs.out; omega) _, Others.of (below_setRow' BV.out (by omega) _) (fun b hb => colF_old hb)⟩
 by_cases h2 : 100 < (t.size : Int)
 ·have H1 := hid (wish_no2 (r := r) h2)
  go_enter Tryz.func82, Tryz.ntmps82
  go_wp2_with (first
   | ((with_reducible refine wpList_load_rec w.heap.size (rcV r ⟨aS, cS, aD, cD, aH, cH, aW, cW, aY, cY, aB, cB, aA, cA⟩) rfl ?_ ?_ ?_); (· rfl); (· exact k1))
   | ((with_reducible refine wpList_store_rec_at (w.heap.size + 1) zRc (rcV r ⟨aS, cS, aD, cD, aH, cH, aW, cW, aY, cY, aB, cB, aA, cA⟩) rfl rfl ?_ ?_ ?_ ?_ ?_); (· rfl); (· rfl); (· exact k2); (· simp [Value.oneCell'])))
  have hz := setRow_heap _ (w.heap.size + 1) _ (rcV r ⟨aS, cS, aD, cD, aH, cH, aW, cW, aY, cY, aB, cB, aA, cA⟩) _ _ k2
  refine ret_cell (ty := 41) Tryz.results82 (w.heap.size + 1) (rcV r ⟨aS, cS, aD, cD, aH, cH, aW, cW, aY, cY, aB, cB, aA, cA⟩) _ ?_ ?_ hz Tryz.underlying41 rfl (by kernel_rfl) ?_
  ·rfl
  ·rfl
  rw [H1.out]
  rw [← hV]
  exact ⟨⟨aS, cS, aD, cD, aH, cH, aW, cW, aY, cY, aB, cB, aA, cA⟩, X, _, rfl, (RD.out.ext BV.out).setRow (by rw [colF_new (by omega)]; omega) _, below_setRow' (BV.out.mono HBs.out) (by have := HBs.out; omega) _, Others.of (below_setRow' BV.out (by omega) _) (fun b hb => colF_old hb)⟩
 by_cases h3 : (20 : Int) ≤ (r.wish.length : Int)
 ·have H1 := hid (wish_no3 (t := t) h3)
  go_enter Tryz.func82, Tryz.ntmps82
  go_wp2_with (first
   | ((with_reducible refine wpList_load_rec w.heap.size (rcV r ⟨aS, cS, aD, cD, aH, cH, aW, cW, aY, cY, aB, cB, aA, cA⟩) rfl ?_ ?_ ?_); (· rfl); (· exact k1))
   | ((with_reducible refine wpList_store_rec_at (w.heap.size + 1) zRc (rcV r ⟨aS, cS, aD, cD, aH, cH, aW, cW, aY, cY, aB, cB, aA, cA⟩) rfl rfl ?_ ?_ ?_ ?_ ?_); (· rfl); (· rfl); (· exact k2); (· simp [Value.oneCell'])))
  have hz := setRow_heap _ (w.heap.size + 1) _ (rcV r ⟨aS, cS, aD, cD, aH, cH, aW, cW, aY, cY, aB, cB, aA, cA⟩) _ _ k2
  refine ret_cell (ty := 41) Tryz.results82 (w.heap.size + 1) (rcV r ⟨aS, cS, aD, cD, aH, cH, aW, cW, aY, cY, aB, cB, aA, cA⟩) _ ?_ ?_ hz Tryz.underlying41 rfl (by kernel_rfl) ?_
  ·rfl
  ·rfl
  rw [H1.out]
  rw [← hV]
  exact ⟨⟨aS, cS, aD, cD, aH, cH, aW, cW, aY, cY, aB, cB, aA, cA⟩, X, _, rfl, (RD.out.ext BV.out).setRow (by rw [colF_new (by omega)]; omega) _, below_setRow' (BV.out.mono HBs.out) (by have := HBs.out; omega) _, Others.of (below_setRow' BV.out (by omega) _) (fun b hb => colF_old hb)⟩
 go_enter Tryz.func82, Tryz.ntmps82
 go_wp2_with ((with_reducible refine wpList_slice_hi aD r.ds.length cD k ?_ ?_ ?_ ?_ ?_ ?_); (· rfl); (· rfl); (· rfl); (· exact hkc); (· exact RD.out.d.plain.1))
 rw [← hV]
 clear c7 c8 c10 k1 k2
 have LT := hid (show (r.ds.take k).length = k by rw [List.length_take]; omega)
 refine (l3Has_any aD (r.ds.take k) k cD t _ LT.out (Nat.le_trans hkn RD.out.at.lD) ((RD.out.ext BV.out).at.hD.take k)).mono ?_
 rintro e w1 ⟨rfl, hb1⟩
 have B1 := hid (ext_trans BV.out hb1)
 have K1b := hid (K1.out.ext hb1)
 have K2b := hid (K2.out.ext hb1)
 clear hb1 K1 K2 hV BV
 have k1 := K1b.out
 have k2 := K2b.out
 cases h4 : hasSlot (r.ds.take k) t
 case true =>
  have H1 := hid (wish_no4 (r := r) (t := t) (by rw [TK.out]; exact h4))
  go_wp2_with (first
   | ((with_reducible refine wpList_load_rec w.heap.size (rcV r ⟨aS, cS, aD, cD, aH, cH, aW, cW, aY, cY, aB, cB, aA, cA⟩) rfl ?_ ?_ ?_); (· rfl); (· exact k1))
   | ((with_reducible refine wpList_store_rec_at (w.heap.size + 1) zRc (rcV r ⟨aS, cS, aD, cD, aH, cH, aW, cW, aY, cY, aB, cB, aA, cA⟩) rfl rfl ?_ ?_ ?_ ?_ ?_); (· rfl); (· rfl); (· exact k2); (· simp [Value.oneCell'])))
  have hz := setRow_heap _ (w.heap.size + 1) _ (rcV r ⟨aS, cS, aD, cD, aH, cH, aW, cW, aY, cY, aB, cB, aA, cA⟩) _ _ k2
  refine ret_cell (ty := 41) Tryz.results82 (w.heap.size + 1) (rcV r ⟨aS, cS, aD, cD, aH, cH, aW, cW, aY, cY, aB, cB, aA, cA⟩) _ ?_ ?_ hz Tryz.underlying41 rfl (by kernel_rfl) ?_
  ·rfl
  ·rfl
  rw [H1.out]
  exact ⟨⟨aS, cS, aD, cD, aH, cH, aW, cW, aY, cY, aB, cB, aA, cA⟩, X, _, rfl, (RD.out.ext B1.out).setRow (by rw [colF_new (by omega)]; omega) _, below_setRow' (B1.out.mono HBs.out) (by have := HBs.out; omega) _, Others.of (below_setRow' B1.out (by omega) _) (fun b hb => colF_old hb)⟩
 have H4 := hid (show hasSlot (r.ds.take r.dk.toNat) t = false by rw [TK.out]; exact h4)
 clear h4
 have c10 := (K1b.out.cell 10).trans (show (rcV r ⟨aS, cS, aD, cD, aH, cH, aW, cW, aY, cY, aB, cB, aA, cA⟩)[10]? = some (Value.slice aW r.wish.length cW) from rfl)
 go_wp2_with fail
 go_loopw [5] (fun i wr => ∃ (j : Nat), j ≤ r.wish.length ∧ i = .int .i64 j ∧ (∀ (q : Nat) u, q < j → r.wish[q]? = some u → sameB u t = false) ∧ Below w1.heap.size w1 wr) (fun i _ => r.wish.length - (intOf i).toNat)
 case atStart => exact ⟨0, Nat.zero_le _, rfl, fun q u hq => absurd hq (by omega), Below.refl _ _⟩
 obtain ⟨j, hj, rfl, hin0, hbel0⟩ := hrel
 have hin := hid hin0
 have hbel := hid hbel0
 clear hin0 hbel0 k1 k2 c10
 have B2 := hid (ext_trans B1.out hbel.out)
 have k1 := K1b.out.ext hbel.out
 have k2 := K2b.out.ext hbel.out
 by_cases hlt : j < r.wish.length
 ·obtain ⟨u, hs0⟩ : ∃ s, r.wish[j]? = some s := ⟨_, List.getElem?_eq_getElem hlt⟩
  have hs := hid hs0
  obtain ⟨b, off, e0, hb1, c0, _⟩ := ((RD.out.ext B2.out).at.hW) j u hs0
  dsimp only at e0
  have c10 : wr.cell? ⟨w.heap.size, 10, none⟩ = some (.slice (some ⟨b, off, none⟩) r.wish.length cW) := by rw [k1.cell 10, ← e0]; rfl
  have E0 := hid e0
  clear hs0 e0
  have e1 : (0 : Int) ≤ (j : Int) := by omega
  have e2 : (j : Int) < (r.wish.length : Int) := by omega
  cases hq : sameB u t
  ·have hq' : (u.toList == t.toList) = false := hq
   have HQ := hid hq
   clear hq
   go_wp2
   go_roundw
   case rel =>
    refine ⟨j + 1, by omega, by go_num, fun q v hq hv => ?_, hbel.out⟩
    by_cases he : q = j
    ·subst he; rw [hs.out] at hv; simp only [Option.some.injEq] at hv; rw [← hv]; exact HQ.out
    exact hin.out q v (by omega) hv
   case measure => simp [intOf]; omega
  have hq' : (u.toList == t.toList) = true := hq
  have H1 := hid (wish_no5 (hasB_yes hs.out hq))
  clear hq
  go_wp2_with (first
   | ((with_reducible refine wpList_load_rec w.heap.size (rcV r ⟨aS, cS, aD, cD, aH, cH, aW, cW, aY, cY, aB, cB, aA, cA⟩) rfl ?_ ?_ ?_); (· rfl); (· exact k1))
   | ((with_reducible refine wpList_store_rec_at (w.heap.size + 1) zRc (rcV r ⟨aS, cS, aD, cD, aH, cH, aW, cW, aY, cY, aB, cB, aA, cA⟩) rfl rfl ?_ ?_ ?_ ?_ ?_); (· rfl); (· rfl); (· exact k2); (· simp [Value.oneCell'])))
  have hz := setRow_heap _ (w.heap.size + 1) _ (rcV r ⟨aS, cS, aD, cD, aH, cH, aW, cW, aY, cY, aB, cB, aA, cA⟩) _ _ k2
  refine ret_cell (ty := 41) Tryz.results82 (w.heap.size + 1) (rcV r ⟨aS, cS, aD, cD, aH, cH, aW, cW, aY, cY, aB, cB, aA, cA⟩) _ ?_ ?_ hz Tryz.underlying41 rfl (by kernel_rfl) ?_
  ·rfl
  ·rfl
  rw [H1.out]
  exact ⟨⟨aS, cS, aD, cD, aH, cH, aW, cW, aY, cY, aB, cB, aA, cA⟩, X, _, rfl, (RD.out.ext B2.out).setRow (by rw [colF_new (by omega)]; omega) _, below_setRow' (B2.out.mono HBs.out) (by have := HBs.out; omega) _, Others.of (below_setRow' B2.out (by omega) _) (fun b hb => colF_old hb)⟩
 have hjj : j = r.wish.length := by omega
 subst hjj
 have H5 := hid (hasB_no (t := t) (l := r.wish) (fun i u hi hu => hin.out i u hi hu))
 have H1 := hid (wish_yes (by omega) (by omega) (by omega) H4.out H5.out)
 have HT := hid (show okS t by unfold okS maxLen; omega)
 have c10 := (k1.cell 10).trans (show (rcV r ⟨aS, cS, aD, cD, aH, cH, aW, cW, aY, cY, aB, cB, aA, cA⟩)[10]? = some (Value.slice aW r.wish.length cW) from rfl)
 have OW := hid ((RD.out.ext (ext_alloc B2.out (.cells #[.string t] 9))).t.own)
 have WNE := hid (show ∀ b, w.heap.size ≤ b → some b ≠ (Value.slice aW r.wish.length cW).ownBlock from fun b hle e => by
  have h9 := RD.out.t.own.lt b e.symm
  omega)
 have DNE := hid (show ∀ b, 8 < colF w.heap.size col b → some b ≠ (Value.slice aW r.wish.length cW).ownBlock from fun b h8 e => by
  cases hs : aW with
  | none => rw [hs] at e; simp [Value.ownBlock] at e
  | some y =>
   rw [hs] at e
   simp only [Value.ownBlock, Option.some.injEq] at e
   have h7 := RD.out.t.col y hs
   rw [← e] at h7
   omega)
 have WB := hid (show ∀ j, (Value.slice aW r.wish.length cW).ownBlock = some j → B ≤ j from fun j hj => (RD.out.t.own.lt j hj).1)
 have NEWS := hid (show ReadAt (wr.alloc (.cells #[.string t] 9)) (some ⟨wr.heap.size, 0, none⟩) 1 1 1 [.string t] from
  ⟨rfl, fun e => by simp at e, fun x hx => by
   simp only [Option.some.injEq] at hx
   subst hx
   exact ⟨rfl, blk_news (Blk.new wr #[.string t] 9)⟩⟩)
 go_wp2_with (first
  | ((with_reducible refine wpList_appT B aW r.wish.length cW (flatT r.wish) (some ⟨wr.heap.size, 0, none⟩) 1 1 [.string t] ?_ ?_ ?_ ?_ ?_ ?_ ?_ ?_); (· rfl); (· rfl); (· exact OW.out); (· exact NEWS.out); (· intro u hu; simp at hu; subst hu; rfl); (· omega); (· have h9 := HBs.out; have h8 := B2.out.size; simp; omega); (intro a' c' w2 q1 q2 q3); (have KB := hid (show ∀ b C T, Blk (wr.alloc (.cells #[.string t] 9)) b C T → w.heap.size ≤ b → Blk w2 b C T from fun b C T hb hle => (q2.block b hb.lt (WNE.out b hle)).trans hb)); (have K1c := hid (KB.out _ _ _ (k1.alloc (.cells #[.string t] 9)) (Nat.le_refl _))); (have K2c := hid (KB.out _ _ _ (k2.alloc (.cells #[.string t] 9)) (by omega))); (have HAS := hid (RcHas.growT (RD.out.ext (ext_alloc B2.out (.cells #[.string t] 9))) (l := r.wish ++ [t]) q2 (by (simp only [List.length_append, List.length_cons, List.length_nil, flatT, List.map_append, List.map_cons, List.map_nil]; exact q1)) q3 (goodT_snoc RD.out.gd.t HT.out))); (have B3 := hid (below_grow ((ext_alloc B2.out (.cells #[.string t] 9)).mono HBs.out) q2 WB.out (by have h9 := HBs.out; have h8 := B2.out.size; simp; omega))); (have NW := hid (show ∀ x, a' = some x → x.block ≠ w.heap.size ∧ x.block ≠ w.heap.size + 1 from fun x hx => by (have h8 := B2.out.size; have h7 := k2.lt; rcases q3 x hx with ⟨y, hy, he⟩ | hnew; (· have h9 := (RD.out.t.lt y hy).2; omega); (· simp at hnew; omega)))); (have OB := hid (show ∀ b, b < w.heap.size → 8 < col b → w2.heap[b]? = w.heap[b]? ∧ 8 < colN a' 3 (colF w.heap.size col) b from fun b hb h8 => by (have h9 : 8 < colF w.heap.size col b := (by (rw [colF_old hb]; exact h8)); have h7 := B2.out.size; exact ⟨(q2.block b (by simp; omega) (DNE.out b h9)).trans ((ext_alloc B2.out (.cells #[.string t] 9)).block b hb), (by (rw [colN_else (fun x hx he => by (rcases q3 x hx with ⟨y, hy, hyx⟩ | hnew; (· have h6 := RD.out.t.col y hy; rw [hyx, he] at h6; omega); (· simp at hnew; omega)))]; exact h9))⟩))); (clear q1 q2 q3 k1 k2 c10); (have eqC : (rcV { r with wish := r.wish ++ [t] } ⟨aS, cS, aD, cD, aH, cH, a', c', aY, cY, aB, cB, aA, cA⟩) = (rcV r ⟨aS, cS, aD, cD, aH, cH, aW, cW, aY, cY, aB, cB, aA, cA⟩).setIfInBounds 10 (.slice a' (r.wish.length + 1) c') := by simp); (have k1 : Blk (w2.setCell ⟨w.heap.size, 10, none⟩ (.slice a' (r.wish.length + 1) c')) w.heap.size (rcV { r with wish := r.wish ++ [t] } ⟨aS, cS, aD, cD, aH, cH, a', c', aY, cY, aB, cB, aA, cA⟩) 41 := by (rw [eqC]; exact K1c.out.set (o := 10) (.slice a' (r.wish.length + 1) c'))); (clear eqC); (have k2 : Blk (w2.setCell ⟨w.heap.size, 10, none⟩ (.slice a' (r.wish.length + 1) c')) (w.heap.size + 1) zRc 41 := K2c.out.setCell (by simp) _); (have cK := K1c.out.cell); (have fK := K1c.out.free))
  | ((with_reducible refine wpList_load_rec w.heap.size (rcV { r with wish := r.wish ++ [t] } ⟨aS, cS, aD, cD, aH, cH, a', c', aY, cY, aB, cB, aA, cA⟩) rfl ?_ ?_ ?_); (· rfl); (· exact k1))
  | ((with_reducible refine wpList_store_rec_at (w.heap.size + 1) zRc (rcV { r with wish := r.wish ++ [t] } ⟨aS, cS, aD, cD, aH, cH, a', c', aY, cY, aB, cB, aA, cA⟩) rfl rfl ?_ ?_ ?_ ?_ ?_); (· rfl); (· rfl); (· exact k2); (· simp [Value.oneCell'])))
 have hz := setRow_heap _ (w.heap.size + 1) _ (rcV { r with wish := r.wish ++ [t] } ⟨aS, cS, aD, cD, aH, cH, a', c', aY, cY, aB, cB, aA, cA⟩) _ _ k2
 refine ret_cell (ty := 41) Tryz.results82 (w.heap.size + 1) (rcV { r with wish := r.wish ++ [t] } ⟨aS, cS, aD, cD, aH, cH, a', c', aY, cY, aB, cB, aA, cA⟩) _ ?_ ?_ hz Tryz.underlying41 rfl (by kernel_rfl) ?_
 ·rfl
 ·rfl
 rw [H1.out]
 have q8 : ∀ b, w.heap.size ≤ b → (∀ x, a' = some x → x.block ≠ b) → 8 < colN a' 3 (colF w.heap.size col) b := fun b hb hx => by rw [colN_else hx, colF_new hb]; omega
 exact ⟨⟨aS, cS, aD, cD, aH, cH, a', c', aY, cY, aB, cB, aA, cA⟩, X, _, rfl, (HAS.out.setCell (q := ⟨w.heap.size, 10, none⟩) (q8 _ (Nat.le_refl _) (fun x hx => (NW.out x hx).1)) _).setRow (q8 _ (by omega) (fun x hx => (NW.out x hx).2)) _, below_setRow' (below_set B3.out HBs.out _) (by have := HBs.out; omega) _, fun b hb h8 => ⟨((setRow_other _ (w.heap.size + 1) b _ (by omega)).trans (heap_setCell_other _ ⟨w.heap.size, 10, none⟩ b _ (by simp; omega))).trans (OB.out b hb h8).1, (OB.out b hb h8).2⟩⟩
end Go.Proofs.YtffklmlljekceaaGreat
