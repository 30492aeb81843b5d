/-
  FnExactRecWish, proved: for every recorder and every text.
-/
import Derived.Test.YtafolmhpdgpmaaaImplValidSpecValidRecWishOwnHasLawLoadLawKitLayMarkedRecOpen
namespace Go.Proofs.Ytafolmhpdgpmaaa.fnExactRecWish
open Go.ChangeShapes Go.WideShapes Go.ChangeAt Go.RowKit
set_option linter.unusedVariables false
set_option linter.unusedSimpArgs false

theorem answer_small {r : Rc} {t : ByteArray} (h : RcSmall r) : RcSmall (recWish r t) := by
  unfold recWish
  split
  · split
    · exact wish_small h
    · exact h
  · exact ⟨by simp [rc0], by simp [rc0], by simp [rc0], by simp [rc0], by simp [rc0], by simp [rc0], by simp [rc0], fun i s hs => by simp [rc0] at hs, fun i s hs => by simp [rc0] at hs⟩
theorem RcHas.wrote {B : Nat} {w w' : World} {r : Rc} {p : RcP} {X : RcX} {col : Nat → Nat} {ws : Ws} (h : RcHas B w r p X col) (k : Wrote w w' ws) (hd : ∀ q ∈ ws, q.1.block < B) : RcHas B w' r p X col :=
  h.same fun b hb hlt _ => k.block b hlt (fun q hq e => by have := hd q hq; omega)

set_option maxHeartbeats 16000000 in
set_option maxRecDepth 20000 in
theorem walk (r : Rc) (p : RcP) (t : ByteArray) (w : World) (h : RcAt w r p) :
    Calls Try.prog 4 #[.agg (rcV r p), .string t] w fun e w' => e = .returned (.bool true) ∧ Below w.heap.size w w' := by
  have hB := hid (show Below w.heap.size w (w.alloc (.cells (rcV r p) 37)) from ext_alloc (Below.refl _ _) _)
  have hA := hid (h.ext hB.out)
  have b0 := Blk.new w (rcV r p) 37
  clear h
  by_cases htt : 1048576 < (t.size : Int)
  · go_enter Try.func4, Try.ntmps4
    go_wp2_with fail
    go_ret
    exact ⟨rfl, hB.out⟩
  have HT := hid (show t.size ≤ 1048576 by omega)
  obtain ⟨RR, hRR⟩ : ∃ x, x = recWish r t := ⟨_, rfl⟩
  have HR := hid hRR
  clear hRR
  go_enter Try.func4, Try.ntmps4
  go_wp2_with ((with_reducible refine wpList_load_lrec w.heap.size (rcV r p) rfl ?_ ?_ ?_); (· rfl); (· exact b0))
  refine (szRec r p _ _ (by omega) (by omega) hA.out).mono ?_
  rintro e w1 ⟨q, rfl, r1, r2, r3, hb1⟩
  have a1 := hid (hA.out.ext hb1)
  have k1 := b0.ext hb1
  have B1 := hid (ext_trans hB.out hb1)
  clear hA hB b0 hb1
  by_cases hr : q < 0
  · go_wp2_with fail
    go_ret
    exact ⟨rfl, B1.out⟩
  have HS : Hid (RcSmall r) := r3 (by omega)
  have HSR := hid (show RcSmall RR by rw [HR.out]; exact answer_small HS.out)
  clear r3
  go_wp2_with ((with_reducible refine wpList_load_lrec w.heap.size (rcV r p) rfl ?_ ?_ ?_); (· rfl); (· exact k1))
  refine (toRecO r p _ HS.out a1.out).mono ?_
  rintro e w2 ⟨p2, rfl, o2, _, hb2, ow2, f2⟩
  obtain ⟨X2, col2, has2⟩ := ow2.has o2 f2
  have H2 := hid has2
  have B2 := hid hb2
  clear o2 hb2 ow2 f2 has2
  go_wp2_with fail
  refine (specRecWish w1.heap.size r p2 X2 col2 t _ HS.out HT.out H2.out).mono ?_
  rintro e w3 ⟨p3, X3, col3, rfl, has3, hb3⟩
  rw [← HR.out] at has3 ⊢
  obtain ⟨W3, hW3⟩ : ∃ v, v = w3.alloc (.cells (rcV RR p3) 44) := ⟨_, rfl⟩
  have E3 := hid (show Below w1.heap.size w1 W3 by rw [hW3]; exact ext_alloc (ext_trans B2.out hb3) _)
  have S3 := hid (show RcAt W3 RR p3 by rw [hW3]; exact (has3.ext (ext_alloc (Below.refl _ _) _)).at)
  have K6 := hid (show Blk W3 w3.heap.size (rcV RR p3) 44 by rw [hW3]; exact Blk.new _ _ _)
  have a3 := hid (a1.out.ext E3.out)
  have KL := hid (k1.ext E3.out)
  have k3 := KL.out
  rw [hW3] at k3
  have B3 := hid (ext_trans B1.out E3.out)
  clear a1 k1 B1 B2 H2 hb3 has3 E3
  -- from here on what stands is told of W3
  go_wp2_with (first | ((with_reducible refine wpList_store_rec (rcV RR p3) rfl ?_ ?_ ?_ ?_ ?_); (· rfl); (· rfl); (· rfl); (· simp [Value.oneCell'])) | ((with_reducible refine wpList_load_lrec w.heap.size (rcV r p) rfl ?_ ?_ ?_); (· rfl); (· exact k3)))
  rw [← hW3]
  clear hW3 k3
  refine (toRecO r p _ HS.out a3.out).mono ?_
  rintro e w4 ⟨p4, rfl, o4, _, hb4, ow4, f4⟩
  obtain ⟨X4, col4, has4⟩ := ow4.has o4 f4
  have lay4 := has4.lay
  have ZL := hid (show ∀ i x, zone r p4 (ixA (X4.H.map (·.2))) (lenM r.held) (ixA (X4.A.map (·.2))) (lenA r.acks) i x → W3.heap.size ≤ x.block ∧ x.block < w4.heap.size from fun i x hz => ⟨lay4.2 i x hz, lay4.1.lt i x hz⟩)
  obtain ⟨W4, hW4⟩ : ∃ v, v = w4.alloc (.cells (rcV r p4) 44) := ⟨_, rfl⟩
  have E4 := hid (show Below w4.heap.size w4 W4 by rw [hW4]; exact ext_alloc (Below.refl _ _) _)
  have K7 := hid (show Blk W4 w4.heap.size (rcV r p4) 44 by rw [hW4]; exact Blk.new _ _ _)
  have X4h := hid (has4.ext E4.out)
  have T4 := hid (ext_trans hb4 E4.out)
  have S4 := hid (show w4.heap.size < W4.heap.size from K7.out.lt)
  have S34 := hid hb4.size
  have k7 := K7.out
  rw [hW4] at k7
  clear o4 hb4 ow4 f4 has4 lay4
  go_wp2_with (first | ((with_reducible refine wpList_store_rec (rcV r p4) rfl ?_ ?_ ?_ ?_ ?_); (· rfl); (· rfl); (· rfl); (· simp [Value.oneCell'])) | ((with_reducible refine wpList_load_rec w4.heap.size (rcV r p4) rfl ?_ ?_ ?_); (· rfl); (· exact k7)))
  rw [← hW4]
  clear hW4 k7
  refine (implRecWish W3.heap.size r p4 X4 col4 t _ HS.out HT.out X4h.out).mono ?_
  rintro e w5 ⟨p5, X5, col5, rfl, has5, hb5⟩
  rw [← HR.out] at has5 ⊢
  obtain ⟨W5, hW5⟩ : ∃ v, v = w5.alloc (.cells (rcV RR p5) 44) := ⟨_, rfl⟩
  have E5 := hid (show Below W4.heap.size W4 W5 by rw [hW5]; exact ext_alloc hb5 _)
  have K8 := hid (show Blk W5 w5.heap.size (rcV RR p5) 44 by rw [hW5]; exact Blk.new _ _ _)
  have G5 := hid (show RcHas W4.heap.size W5 RR p5 X5 col5 by rw [hW5]; exact has5.ext (ext_alloc (Below.refl _ _) _))
  have ZG := hid (show ∀ i x, zone RR p5 (ixA (X5.H.map (·.2))) (lenM RR.held) (ixA (X5.A.map (·.2))) (lenA RR.acks) i x → W4.heap.size ≤ x.block ∧ x.block < w5.heap.size from fun i x hz => ⟨has5.lay.2 i x hz, has5.lay.1.lt i x hz⟩)
  have X5h := hid (X4h.out.ext E5.out)
  have K7b := hid (K7.out.ext E5.out)
  have T5 := hid (ext_trans T4.out E5.out)
  have K6b := hid (K6.out.ext T5.out)
  have k8 := K8.out
  have k6 := K6b.out
  rw [hW5] at k8 k6
  have S5 := hid (show W4.heap.size ≤ w5.heap.size from hb5.size)
  clear has5 hb5 E5 X4h K7 T4 E4
  go_wp2_with (first | ((with_reducible refine wpList_store_rec (rcV RR p5) rfl ?_ ?_ ?_ ?_ ?_); (· rfl); (· rfl); (· rfl); (· simp [Value.oneCell'])) | ((with_reducible refine wpList_load_rec w5.heap.size (rcV RR p5) rfl ?_ ?_ ?_); (· rfl); (· exact k8)) | ((with_reducible refine wpList_load_rec w3.heap.size (rcV RR p3) rfl ?_ ?_ ?_); (· rfl); (· exact k6)))
  rw [← hW5]
  clear hW5 k8 k6
  refine (eqRec_same RR p5 p3 _ G5.out.at (S3.out.ext T5.out)).mono ?_
  rintro e w6 ⟨rfl, hb6⟩
  have T6 := hid (ext_trans T5.out hb6)
  have K7c := hid (K7b.out.ext hb6)
  have K8c := hid (K8.out.ext hb6)
  have G6 := hid (G5.out.ext hb6)
  have X6 := hid (X5h.out.ext hb6)
  clear hb6 T5 K7b K8 G5 X5h K6b
  have hK0 : LawS w6 w.heap.size w4.heap.size r p p4 w6 := ⟨KL.out.ext T6.out, K7c.out, Below.refl _ _⟩
  go_wp2_with fail
  refine wp_region_held_drew (S := LawS w6 w.heap.size w4.heap.size r p p4) (by kernel_rfl) hK0.drew (fun hHeld => ?_)
  clear hK0
  simp only [List.size_toArray, List.length_cons, List.length_nil, Nat.reduceAdd, Array.replicate_succ, Array.replicate_zero, List.push_toArray, List.append_toArray, List.nil_append, List.cons_append]
  refine wpAnyH_take (i := 0) (at_lit rfl) (by kernel_rfl) (by kernel_rfl) (by kernel_rfl) (fun _ _ _ h => h) (yields_own (by rfl) _ rfl rfl) hHeld ?_
  try simp only [Act.put, List.setIfInBounds_toArray, List.set_cons_zero, List.set_cons_succ]
  refine wpAnyH_take (i := 1) (at_lit rfl) (by kernel_rfl) (by kernel_rfl) (by kernel_rfl) (fun _ _ _ h => h) (yields_law (by rfl) _ rfl rfl) hHeld ?_
  try simp only [Act.put, List.setIfInBounds_toArray, List.set_cons_zero, List.set_cons_succ]
  refine wpAnyH_ready (rs := [2]) (by kernel_rfl) (by simp) ?_
  refine AllReadyH.cons (at_lit rfl) (fun K hK => ?_) AllReadyH.nil
  go_simp
  refine (toRec r p _ HS.out (a3.out.ext (ext_trans T6.out hHeld.bel))).mono ?_
  rintro e w7 ⟨p7, rfl, o7, hW7, hb7⟩
  go_wp2_with fail
  refine hK.out _ _ (hHeld.ext hb7) (fun hNew => ?_)
  clear hK K hHeld hb7 hW7
  have hHeld := hNew
  clear hNew
  try simp only [Act.put, List.setIfInBounds_toArray, List.set_cons_zero, List.set_cons_succ]
  refine wpAnyH_ready (rs := [3]) (by kernel_rfl) (by simp) ?_
  refine AllReadyH.cons (at_lit rfl) (fun K hK => ?_) AllReadyH.nil
  go_simp
  refine (eqRec_same r p4 p7 _ (X6.out.ext hHeld.bel).at o7).mono ?_
  rintro e w8 ⟨rfl, hb8⟩
  go_wp2_with fail
  refine hK.out _ _ (hHeld.ext hb8) (fun hNew => ?_)
  clear hK K hHeld hb8 o7
  have hHeld := hNew
  clear hNew
  try simp only [Act.put, List.setIfInBounds_toArray, List.set_cons_zero, List.set_cons_succ]
  refine wpAnyH_take (i := 4) (v := ?_) (at_lit rfl) (by kernel_rfl) (by kernel_rfl) (by kernel_rfl) (fun _ _ _ h => h) (Or.inl ⟨by rfl, ?_⟩) hHeld ?_
  rotate_left
  · (intro w9 hSw; clear hSw; go_simp; try with_reducible rfl)
  try simp only [Act.put, List.setIfInBounds_toArray, List.set_cons_zero, List.set_cons_succ]
  refine wpAnyH_done (by kernel_rfl) ?_ _
  have T8 := hid (ext_trans T6.out hHeld.bel)
  have Q7 := hHeld.own
  have K8d := hid (K8c.out.ext hHeld.bel)
  have G8 := hid (G6.out.ext hHeld.bel)
  have X8 := hid (X6.out.ext hHeld.bel)
  clear hHeld T6 K7c K8c G6 X6
  go_wp2_with ((with_reducible refine wpList_load_rec w4.heap.size (rcV r p4) rfl ?_ ?_ ?_); (· rfl); (· exact Q7))
  refine (markRec r p4 _ _ _ _ _ _ 1 _ (cnt_le HS.out) HS.out X8.out.lay.1).mono ?_
  rintro e w9 ⟨rfl, wr9⟩
  have WB := hid (show ∀ q ∈ wsTo r p4 (ixA (X4.H.map (·.2))) (lenM r.held) (ixA (X4.A.map (·.2))) (lenA r.acks) 1 7, W3.heap.size ≤ q.1.block ∧ q.1.block < w4.heap.size from fun q hq => by obtain ⟨i, hz⟩ := wsTo_zone hq; exact ZL.out i _ hz)
  have T9 := hid (Wrote.below T8.out wr9 (Nat.le_refl _) (fun q hq => (WB.out q hq).1))
  have G9 := hid (RcHas.wrote G8.out wr9 (fun q hq => by have := (WB.out q hq).2; have := S4.out; omega))
  have k8 := wr9.blk K8d.out (fun q hq e => by have := (WB.out q hq).2; have := S4.out; have := S5.out; omega)
  have k6 := K6.out.ext T9.out
  clear wr9 WB T8 Q7 K8d G8 X8 ZL
  obtain ⟨K9, hK9⟩ : ∃ k, k = cnt r (lenM r.held) (lenA r.acks) 1 7 := ⟨_, rfl⟩
  rw [← hK9]
  clear hK9
  have e9 : ¬ ((K9 : Nat) : Int) < 0 := by omega
  go_wp2_with (first | ((with_reducible refine wpList_load_rec_g w5.heap.size (rcV RR p5) rfl ?_ ?_ ?_ ?_); (· rfl); (· rfl); (· exact k8)) | ((with_reducible refine wpList_load_rec_g w3.heap.size (rcV RR p3) rfl ?_ ?_ ?_ ?_); (· rfl); (· rfl); (· exact k6)))
  refine (eqRec_same RR p5 p3 _ G9.out.at (S3.out.ext T9.out)).mono ?_
  rintro e w10 ⟨rfl, hb10⟩
  have T10 := hid (ext_trans T9.out hb10)
  have G10 := hid (G9.out.ext hb10)
  have k10 := k8.ext hb10
  have K10 := hid k10
  clear hb10 T9 G9 k8 k6 e9
  go_wp2_with ((with_reducible refine wpList_load_rec w5.heap.size (rcV RR p5) rfl ?_ ?_ ?_); (· rfl); (· exact k10))
  refine (markRec RR p5 _ _ _ _ _ _ 1 _ (cnt_le HSR.out) HSR.out G10.out.lay.1).mono ?_
  rintro e w11 ⟨rfl, wr11⟩
  have WG := hid (show ∀ q ∈ wsTo RR p5 (ixA (X5.H.map (·.2))) (lenM RR.held) (ixA (X5.A.map (·.2))) (lenA RR.acks) 1 7, W4.heap.size ≤ q.1.block ∧ q.1.block < w5.heap.size from fun q hq => by obtain ⟨i, hz⟩ := wsTo_zone hq; exact ZG.out i _ hz)
  have T11 := hid (Wrote.below T10.out wr11 (Nat.le_refl _) (fun q hq => by have := (WG.out q hq).1; have := S34.out; have := S4.out; omega))
  have L11 := hid (G10.out.lay.1.marked wr11)
  have V11 := hid wr11.new
  have k11 := wr11.blk K10.out (fun q hq e => by have := (WG.out q hq).2; omega)
  have K11 := hid k11
  have N11 := hid (show w5.heap.size < w11.heap.size from k11.lt)
  clear wr11 T10 G10 k10 K10
  obtain ⟨M9, hM9⟩ : ∃ k, k = cnt RR (lenM RR.held) (lenA RR.acks) 1 7 := ⟨_, rfl⟩
  have HM9 := hid hM9
  rw [← hM9]
  clear hM9
  go_wp2_with ((with_reducible refine wpList_load_rec w5.heap.size (rcV RR p5) rfl ?_ ?_ ?_); (· rfl); (· exact k11))
  refine (heldRec RR p5 _ _ _ _ _ _ 1 _ (cnt_le HSR.out) HSR.out L11.out V11.out).mono ?_
  rintro e w12 ⟨rfl, hb12⟩
  rw [← HM9.out]
  have T12 := hid (ext_trans T11.out hb12)
  have L12 := hid (L11.out.ext hb12)
  have V12 := hid (marks_ext V11.out (fun q hq => by have := (WG.out q hq).2; have := N11.out; omega) hb12)
  have K12 := hid (K11.out.ext hb12)
  have k12 := KL.out.ext T12.out
  clear T11 L11 V11 k11 K11 hb12
  have e12 : ¬ ((M9 : Nat) : Int) < 0 := by omega
  go_wp2_with ((with_reducible refine wpList_load_lrec w.heap.size (rcV r p) rfl ?_ ?_ ?_); (· rfl); (· exact k12))
  refine (toRecO r p _ HS.out (a3.out.ext T12.out)).mono ?_
  rintro e w13 ⟨p13, rfl, o13, _, hb13, ow13, f13⟩
  obtain ⟨X13, col13, has13⟩ := ow13.has o13 f13
  have H13 := hid has13
  have B13 := hid hb13
  clear o13 hb13 ow13 f13 has13
  go_wp2_with fail
  refine (implRecWish w12.heap.size r p13 X13 col13 t _ HS.out HT.out H13.out).mono ?_
  rintro e w14 ⟨p14, X14, col14, rfl, has14, hb14⟩
  rw [← HR.out] at has14 ⊢
  obtain ⟨W14, hW14⟩ : ∃ v, v = w14.alloc (.cells (rcV RR p14) 44) := ⟨_, rfl⟩
  have D14 := hid (show Below w12.heap.size w12 W14 by rw [hW14]; exact ext_alloc (ext_trans B13.out hb14) _)
  have S14 := hid (show RcAt W14 RR p14 by rw [hW14]; exact (has14.ext (ext_alloc (Below.refl _ _) _)).at)
  have K14 := hid (show Blk W14 w14.heap.size (rcV RR p14) 44 by rw [hW14]; exact Blk.new _ _ _)
  have T14 := hid (ext_trans T12.out D14.out)
  have L14 := hid (L12.out.ext D14.out)
  have V14 := hid (marks_ext V12.out (fun q hq => by have := (WG.out q hq).2; have := K12.out.lt; omega) D14.out)
  have K12b := hid (K12.out.ext D14.out)
  have k14 := K14.out
  have k6 := K6.out.ext T14.out
  rw [hW14] at k14 k6
  clear has14 hb14 H13 B13 T12 L12 V12 D14 k12 K12
  go_wp2_with (first | ((with_reducible refine wpList_store_rec (rcV RR p14) rfl ?_ ?_ ?_ ?_ ?_); (· rfl); (· rfl); (· rfl); (· simp [Value.oneCell'])) | ((with_reducible refine wpList_load_rec w14.heap.size (rcV RR p14) rfl ?_ ?_ ?_); (· rfl); (· exact k14)) | ((with_reducible refine wpList_load_rec w3.heap.size (rcV RR p3) rfl ?_ ?_ ?_); (· rfl); (· exact k6)))
  rw [← hW14]
  clear hW14 k14 k6
  refine (eqRec_same RR p14 p3 _ S14.out (S3.out.ext T14.out)).mono ?_
  rintro e w15 ⟨rfl, hb15⟩
  have T15 := hid (ext_trans T14.out hb15)
  have L15 := hid (L14.out.ext hb15)
  have V15 := hid (marks_ext V14.out (fun q hq => by have := (WG.out q hq).2; have := K12b.out.lt; omega) hb15)
  have k15 := K12b.out.ext hb15
  clear hb15 T14 L14 V14 S14 K14
  go_wp2_with ((with_reducible refine wpList_load_rec w5.heap.size (rcV RR p5) rfl ?_ ?_ ?_); (· rfl); (· exact k15))
  refine (heldRec RR p5 _ _ _ _ _ _ 1 _ (cnt_le HSR.out) HSR.out L15.out V15.out).mono ?_
  rintro e w16 ⟨rfl, hb16⟩
  rw [← HM9.out]
  have T16 := hid (ext_trans T15.out hb16)
  clear hb16 T15 L15 V15 k15
  go_wp2
  go_ret
  exact ⟨rfl, ext_trans B3.out T16.out⟩

set_option maxRecDepth 100000 in
theorem lifted (os : Os) (started : os.Started) (H : Type) (enc : TypeId × Value → H) :
    ReturnsInHanded {} Try.checked os 4 .any (Rows.fnExactRecWishSpec.pre6 enc Try.prog Try.f4 Rows.fnExactRecWishRow.domain false) (Rows.fnExactRecWishSpec.post enc Try.prog Try.f4 false true false false) := by
  refine returnsInHanded_of_change (C := Try.checked) own started (by kernel_rfl) Try.func4
    (ChangeSpec.witness6 (enc := enc) (C := Try.checked) false ⟨#[], #[.agg #[.int .i64 0, .int .i64 0, .bool false, .int .i64 0, .int .i64 0, .slice none 0 0, .int .i64 0, .int .i64 0, .slice none 0 0, .slice none 0 0, .slice none 0 0, .bool false, .bool false, .int .i64 0, .slice none 0 0, .slice none 0 0, .slice none 0 0, .int .i64 0], .string ⟨#[]⟩], []⟩ 8 (by kernel_rfl) (by kernel_rfl) (by kernel_rfl) (by kernel_rfl)) ?_
  intro W base args ds gs before hval0 hW hcnd _
  have hval : ∀ (j : Nat) t v, Try.f4.params[j]? = some t → args[j]? = some v → Value.okWide Try.prog W .any base t v := hval0
  have hW' := hW
  obtain ⟨p, q, hA0, hV, rfl, hfz, hnd⟩ := hW
  have hA : DataW.TrodAll enc Try.prog W 0 (fun _ => true) true Try.f4.params.toList args.toList ds p := hA0
  rw [Try.params4] at hA hval
  obtain ⟨v0, vs0, d0, ds0, p0, q0, hargs, rfl, rfl, h0, r0⟩ := trodAll_cons hA
  obtain ⟨v1, vs1, d1, ds1, p1, q1, rfl, rfl, rfl, h1, r1⟩ := trodAll_cons r0
  obtain ⟨rfl, rfl, rfl⟩ := trodAll_nil r1
  obtain rfl : args = #[v0, v1] := by cases args; simp_all
  obtain ⟨rfl, rfl⟩ := trodVars_none hV
  have k0 := h0
  have lt0 : ∀ x ∈ p0, x.block < W.heap.size := by obtain ⟨m, hm⟩ := k0; exact DataW.trod_lt m _ _ _ hm
  have k1 := h1
  have lt1 : ∀ x ∈ p1, x.block < W.heap.size := by obtain ⟨m, hm⟩ := k1; exact DataW.trod_lt m _ _ _ hm
  obtain ⟨r, rp, rfl, hs⟩ := rec_open (hval 0 37 v0 rfl rfl) h0
  obtain ⟨t, rfl⟩ := okWide_string Try.underlying9 (hval 1 9 v1 rfl rfl)
  clear hA0 hval0
  refine (walk r rp t W hs).mono fun e W' ⟨he, bel⟩ => ?_
  subst he
  exact ⟨_, rfl, _, _, _, [], _, [], hW', trodAll_mk1 (shut_bool Try.underlying4 _), (trodAll_cons_mk (Below.trod laidOut (by kernel_rfl) (of_decide_eq_true (by kernel_rfl)) k0 bel lt0) (trodAll_cons_mk (Below.trod laidOut (by kernel_rfl) (of_decide_eq_true (by kernel_rfl)) k1 bel lt1) trodAll_mk0)), rfl, bel.frame _, fun h => by cases h⟩

theorem over : Rows.fnExactRecWishRow.holds Try.pinned (OpenSpec.ofChange Rows.fnExactRecWishSpec) :=
  OpenClaim.holds_of_wide 4 Try.f4 rfl rfl rfl rfl rfl rfl rfl ⟨rfl, rfl, rfl, rfl, rfl⟩ rfl rfl rfl rfl rfl (by kernel_rfl) Try.func4 (by kernel_rfl)
    (of_decide_eq_true (by kernel_rfl)) (by unfold Func.isWrapper; first | (rw [if_pos (by decide +kernel)]; kernel_rfl) | (rw [if_neg (by decide +kernel)]; exact ⟨rfl, rfl⟩))
    (fun os started H enc _ => lifted os started H enc)

/-- THE STATEMENT -/
theorem proved : Rows.FnExactRecWishSaid := over
#print axioms proved
end Go.Proofs.Ytafolmhpdgpmaaa.fnExactRecWish
