import Derived.Test.YtffklmlljekceaaGreatQ49
import Derived.Test.YtffklmlljekceaaGreatQ51
import Derived.Test.YtffklmlljekceaaGreatQ52
namespace Go.Proofs.YtffklmlljekceaaGreat.fnExactRecTick
open Go.ChangeShapes Go.WideShapes Go.ChangeAt Go.RowKit
set_option linter.unusedSimpArgs false
set_option linter.unusedVariables false
set_option maxHeartbeats 16000000
set_option maxRecDepth 100000
theorem RcHas.wrote {B : Nat} {w w' : World} {r : Rc} {p : RcP} {X : RcX} {col : Nat → Nat} {ws : Ws} (h : RcHas B w r p X col) (k : Wrote w w' ws) (hd : ∀ q ∈ ws, q.1.block < B) : RcHas B w' r p X col :=
 h.same fun b hb hlt _ => k.block b hlt (fun q hq e => by have := hd q hq; omega)
theorem walk (r : Rc) (p : RcP) (w : World) (h : RcAt w r p) :
  Calls Tryz.prog 4 #[.agg (rcV r p)] w fun e w' => e = .returned (.bool true) ∧ Below w.heap.size w w' := by
 have hB := hid (show Below w.heap.size w (w.alloc (.cells (rcV r p) 30)) from ext_alloc (Below.refl _ _) _)
 have hA := hid (h.ext hB.out)
 have b0 := Blk.new w (rcV r p) 30
 clear h
 obtain ⟨RR, hRR⟩ : ∃ x, x = recTickR r := ⟨_, rfl⟩
 have HR := hid hRR
 obtain ⟨ML, hML⟩ : ∃ x, x = recTickM r := ⟨_, rfl⟩
 have HML := hid hML
 clear hRR hML
 go_enter Tryz.func4, Tryz.ntmps4
 go_wp2_with ((with_reducible refine wpList_load_lrec w.heap.size (rcV r p) rfl ?_ ?_ ?_); (· rfl); (· exact b0))
 refine (szRec r p _ _ (by omega) (by omega) hA.out).mono ?_
 rintro e w1 ⟨q, rfl, r1, r2, r3, hb1⟩
 have a1 := hid (hA.out.ext hb1)
 have k1 := b0.ext hb1
 have B1 := hid (ext_trans hB.out hb1)
 clear hA hB b0 hb1
 by_cases hr : q < 0
 ·go_wp2_with fail
  go_ret
  exact ⟨rfl, B1.out⟩
 have HS : Hid (RcSmall r) := r3 (by omega)
 have HSR := hid (show RcSmall RR by rw [HR.out]; exact (tick_small HS.out).1)
 have HSM := hid (show MsgsSmall ML by rw [HML.out]; exact (tick_small HS.out).2.1)
 have HSL := hid (show ML.length ≤ 1048576 by rw [HML.out]; exact (tick_small HS.out).2.2)
 have HSX := hid (show ML.length ≤ maxLen by have := HSL.out; unfold maxLen; omega)
 clear r3
 go_wp2_with ((with_reducible refine wpList_load_lrec w.heap.size (rcV r p) rfl ?_ ?_ ?_); (· rfl); (· exact k1))
 refine (toRecO r p _ HS.out a1.out).mono ?_
 rintro e w2 ⟨p2, rfl, o2, _, hb2, ow2, f2⟩
 obtain ⟨X2, col2, has2⟩ := ow2.has o2 f2
 have H2 := hid has2
 have B2 := hid hb2
 clear o2 hb2 ow2 f2 has2
 go_wp2_with fail
 refine (specRecTick w1.heap.size r p2 X2 col2 _ HS.out H2.out).mono ?_
 rw [← HR.out, ← HML.out]
 rintro e w3 ⟨p3, X3, col3, m3, n3, rfl, has3, ms3, hb3⟩
 obtain ⟨W3, hW3⟩ : ∃ v, v = w3.alloc (.cells (rcV RR p3) 41) := ⟨_, rfl⟩
 have E3 := hid (show Below w1.heap.size w1 W3 by rw [hW3]; exact ext_alloc (ext_trans B2.out hb3) _)
 have S3 := hid (show RcAt W3 RR p3 by rw [hW3]; exact (has3.ext (ext_alloc (Below.refl _ _) _)).at)
 have Q3 := hid (show MsgsAt W3 m3 ML by rw [hW3]; exact ms3.ext (ext_alloc (Below.refl _ _) _))
 have K6 := hid (show Blk W3 w3.heap.size (rcV RR p3) 41 by rw [hW3]; exact Blk.new _ _ _)
 have a3 := hid (a1.out.ext E3.out)
 have KL := hid (k1.ext E3.out)
 have k3 := KL.out
 rw [hW3] at k3
 have B3 := hid (ext_trans B1.out E3.out)
 clear a1 k1 B1 B2 H2 hb3 has3 ms3 E3
 go_wp2_with (first | ((with_reducible refine wpList_store_rec (rcV RR p3) rfl ?_ ?_ ?_ ?_ ?_); (· rfl); (· rfl); (· rfl); (· simp [Value.oneCell'])) | ((with_reducible refine wpList_load_lrec w.heap.size (rcV r p) rfl ?_ ?_ ?_); (· rfl); (· exact k3)))
 rw [← hW3]
 clear hW3 k3
 refine (toRecO r p _ HS.out a3.out).mono ?_
 rintro e w4 ⟨p4, rfl, o4, _, hb4, ow4, f4⟩
 obtain ⟨X4, col4, has4⟩ := ow4.has o4 f4
 have lay4 := has4.lay
 have ZL := hid (show ∀ i x, zone r p4 (ixA (X4.H.map (·.2))) (lenM r.held) (ixA (X4.A.map (·.2))) (lenA r.acks) i x → W3.heap.size ≤ x.block ∧ x.block < w4.heap.size from fun i x hz => ⟨lay4.2 i x hz, lay4.1.lt i x hz⟩)
 obtain ⟨W4, hW4⟩ : ∃ v, v = w4.alloc (.cells (rcV r p4) 41) := ⟨_, rfl⟩
 have E4 := hid (show Below w4.heap.size w4 W4 by rw [hW4]; exact ext_alloc (Below.refl _ _) _)
 have K7 := hid (show Blk W4 w4.heap.size (rcV r p4) 41 by rw [hW4]; exact Blk.new _ _ _)
 have X4h := hid (has4.ext E4.out)
 have T4 := hid (ext_trans hb4 E4.out)
 have S4 := hid (show w4.heap.size < W4.heap.size from K7.out.lt)
 have S34 := hid hb4.size
 have k7 := K7.out
 rw [hW4] at k7
 clear o4 hb4 ow4 f4 has4 lay4
 go_wp2_with (first | ((with_reducible refine wpList_store_rec (rcV r p4) rfl ?_ ?_ ?_ ?_ ?_); (· rfl); (· rfl); (· rfl); (· simp [Value.oneCell'])) | ((with_reducible refine wpList_load_rec w4.heap.size (rcV r p4) rfl ?_ ?_ ?_); (· rfl); (· exact k7)))
 rw [← hW4]
 clear hW4 k7
 refine (implRecTick W3.heap.size r p4 X4 col4 _ HS.out X4h.out).mono ?_
 rw [← HR.out, ← HML.out]
 rintro e w5 ⟨p5, X5, col5, a5, H5, n5, rfl, hm5, has5, out5, hb5⟩
 have HM5 := hid hm5
 have LN := hid (show H5.length = ML.length by rw [← hm5, List.length_map])
 rw [LN.out]
 obtain ⟨W5, hW5⟩ : ∃ v, v = w5.alloc (.cells (rcV RR p5) 41) := ⟨_, rfl⟩
 have E5 := hid (show Below W4.heap.size W4 W5 by rw [hW5]; exact ext_alloc hb5 _)
 have K8 := hid (show Blk W5 w5.heap.size (rcV RR p5) 41 by rw [hW5]; exact Blk.new _ _ _)
 have G5 := hid (show RcHas W4.heap.size W5 RR p5 X5 col5 by rw [hW5]; exact has5.ext (ext_alloc (Below.refl _ _) _))
 have O5 := hid (show OutS W4.heap.size W5 col5 a5 H5 n5 by rw [hW5]; exact out5.ext (ext_alloc (Below.refl _ _) _))
 have MK := hid (show ∀ j, ∀ q ∈ wsM a5 (aM H5) (nM H5) j ML.length, 8 < col5 q.1.block ∧ W4.heap.size ≤ q.1.block ∧ q.1.block < w5.heap.size by rw [← LN.out]; exact fun j q hq => out5.marks q hq)
 have ZG := hid (show ∀ i x, zone RR p5 (ixA (X5.H.map (·.2))) (lenM RR.held) (ixA (X5.A.map (·.2))) (lenA RR.acks) i x → W4.heap.size ≤ x.block ∧ x.block < w5.heap.size ∧ col5 x.block ≤ 8 from fun i x hz => ⟨has5.lay.2 i x hz, has5.lay.1.lt i x hz, has5.zone8 i x hz⟩)
 have X5h := hid (X4h.out.ext E5.out)
 have K7b := hid (K7.out.ext E5.out)
 have T5 := hid (ext_trans T4.out E5.out)
 have K6b := hid (K6.out.ext T5.out)
 have k8 := K8.out
 have k6 := K6b.out
 rw [hW5] at k8 k6
 have S5 := hid (show W4.heap.size ≤ w5.heap.size from hb5.size)
 clear has5 out5 hm5 hb5 E5 X4h K7 T4 E4
 go_wp2_with (first | ((with_reducible refine wpList_store_rec (rcV RR p5) rfl ?_ ?_ ?_ ?_ ?_); (· rfl); (· rfl); (· rfl); (· simp [Value.oneCell'])) | ((with_reducible refine wpList_load_rec w5.heap.size (rcV RR p5) rfl ?_ ?_ ?_); (· rfl); (· exact k8)) | ((with_reducible refine wpList_load_rec w3.heap.size (rcV RR p3) rfl ?_ ?_ ?_); (· rfl); (· exact k6)))
 rw [← hW5]
 clear hW5 k8 k6
 refine (eqRec_same RR p5 p3 _ G5.out.at (S3.out.ext T5.out)).mono ?_
 rintro e w6a ⟨rfl, hb6⟩
 have E6a := hid hb6
 clear hb6
 go_wp2_with fail
 refine (eqMsgs_same a5 m3 ML ML.length n5 n3 w6a rfl HSX.out (by rw [← HM5.out]; exact (O5.out.ext E6a.out).at) (Q3.out.ext (ext_trans T5.out E6a.out))).mono ?_
 rintro e w6 ⟨rfl, hb6⟩
 have E6 := hid (ext_trans E6a.out hb6)
 have T6 := hid (ext_trans T5.out E6.out)
 have K7c := hid (K7b.out.ext E6.out)
 have K8c := hid (K8.out.ext E6.out)
 have G6 := hid (G5.out.ext E6.out)
 have O6 := hid (O5.out.ext E6.out)
 have X6 := hid (X5h.out.ext E6.out)
 clear hb6 T5 K7b K8 G5 O5 X5h K6b E6a E6
 have hK0 : LawS w6 w.heap.size w4.heap.size r p p4 w6 := ⟨KL.out.ext T6.out, K7c.out, Below.refl _ _⟩
 go_wp2_with fail
 refine wp_region_held_drew (S := LawS w6 w.heap.size w4.heap.size r p p4) (by kernel_rfl) hK0.drew (fun hHeld => ?_)
 clear hK0
 simp only [qz, Nat.reduceAdd]
 refine wpAnyH_take (i := 0) (at_lit rfl) (by kernel_rfl) (by kernel_rfl) (by kernel_rfl) (fun _ _ _ h => h) (yields_own (by rfl) _ rfl rfl) hHeld ?_
 try simp only [Act.put, List.setIfInBounds_toArray, List.set_cons_zero, List.set_cons_succ]
 refine wpAnyH_take (i := 1) (at_lit rfl) (by kernel_rfl) (by kernel_rfl) (by kernel_rfl) (fun _ _ _ h => h) (yields_law (by rfl) _ rfl rfl) hHeld ?_
 try simp only [Act.put, List.setIfInBounds_toArray, List.set_cons_zero, List.set_cons_succ]
 refine rdH 2 (by kernel_rfl) (at_lit rfl) (fun K hK => ?_)
 go_simp
 refine (toRec r p _ HS.out (a3.out.ext (ext_trans T6.out hHeld.bel))).mono ?_
 rintro e w7 ⟨p7, rfl, o7, hW7, hb7⟩
 go_wp2_with fail
 refine hK.out _ _ (hHeld.ext hb7) (fun hNew => ?_)
 clear hK K hHeld hb7 hW7
 have hHeld := hNew
 clear hNew
 try simp only [Act.put, List.setIfInBounds_toArray, List.set_cons_zero, List.set_cons_succ]
 refine rdH 3 (by kernel_rfl) (at_lit rfl) (fun K hK => ?_)
 go_simp
 refine (eqRec_same r p4 p7 _ (X6.out.ext hHeld.bel).at o7).mono ?_
 rintro e w8 ⟨rfl, hb8⟩
 go_wp2_with fail
 refine hK.out _ _ (hHeld.ext hb8) (fun hNew => ?_)
 clear hK K hHeld hb8 o7
 have hHeld := hNew
 clear hNew
 try simp only [Act.put, List.setIfInBounds_toArray, List.set_cons_zero, List.set_cons_succ]
 refine wpAnyH_take (i := 4) (v := ?_) (at_lit rfl) (by kernel_rfl) (by kernel_rfl) (by kernel_rfl) (fun _ _ _ h => h) (Or.inl ⟨by rfl, ?_⟩) hHeld ?_
 rotate_left
 ·(intro w9 hSw; clear hSw; go_simp; try with_reducible rfl)
 try simp only [Act.put, List.setIfInBounds_toArray, List.set_cons_zero, List.set_cons_succ]
 refine wpAnyH_done (by kernel_rfl) ?_ _
 have T8 := hid (ext_trans T6.out hHeld.bel)
 have Q7 := hHeld.own
 have K8d := hid (K8c.out.ext hHeld.bel)
 have G8 := hid (G6.out.ext hHeld.bel)
 have O8 := hid (O6.out.ext hHeld.bel)
 have X8 := hid (X6.out.ext hHeld.bel)
 clear hHeld T6 K7c K8c G6 O6 X6
 go_wp2_with ((with_reducible refine wpList_load_rec w4.heap.size (rcV r p4) rfl ?_ ?_ ?_); (· rfl); (· exact Q7))
 refine (markRec r p4 _ _ _ _ _ _ 1 _ (cnt_le HS.out) HS.out X8.out.lay.1).mono ?_
 rintro e w9 ⟨rfl, wr9⟩
 have WB := hid (show ∀ q ∈ wsTo r p4 (ixA (X4.H.map (·.2))) (lenM r.held) (ixA (X4.A.map (·.2))) (lenA r.acks) 1 7, W3.heap.size ≤ q.1.block ∧ q.1.block < w4.heap.size from fun q hq => by obtain ⟨i, hz⟩ := wsTo_zone hq; exact ZL.out i _ hz)
 have T9 := hid (Wrote.below T8.out wr9 (Nat.le_refl _) (fun q hq => (WB.out q hq).1))
 have G9 := hid (RcHas.wrote G8.out wr9 (fun q hq => by have := (WB.out q hq).2; have := S4.out; omega))
 have O9 := hid (O8.out.apart wr9 (fun q hq => .inl (by have := (WB.out q hq).2; have := S4.out; omega)))
 have k8 := wr9.blk K8d.out (fun q hq e => by have := (WB.out q hq).2; have := S4.out; have := S5.out; omega)
 have k6 := K6.out.ext T9.out
 clear wr9 WB T8 Q7 K8d G8 O8 X8 ZL
 obtain ⟨K9, hK9⟩ : ∃ k, k = cnt r (lenM r.held) (lenA r.acks) 1 7 := ⟨_, rfl⟩
 rw [← hK9]
 clear hK9
 have e9 : ¬ ((K9 : Nat) : Int) < 0 := by omega
 go_wp2_with (first | ((with_reducible refine wpList_load_rec_g w5.heap.size (rcV RR p5) rfl ?_ ?_ ?_ ?_); (· rfl); (· rfl); (· exact k8)) | ((with_reducible refine wpList_load_rec_g w3.heap.size (rcV RR p3) rfl ?_ ?_ ?_ ?_); (· rfl); (· rfl); (· exact k6)))
 refine (eqRec_same RR p5 p3 _ G9.out.at (S3.out.ext T9.out)).mono ?_
 rintro e w10a ⟨rfl, hb10⟩
 have E10a := hid hb10
 clear hb10
 go_wp2_with fail
 refine (eqMsgs_same a5 m3 ML ML.length n5 n3 w10a rfl HSX.out (by rw [← HM5.out]; exact (O9.out.ext E10a.out).at) (Q3.out.ext (ext_trans T9.out E10a.out))).mono ?_
 rintro e w10 ⟨rfl, hb10⟩
 have E10 := hid (ext_trans E10a.out hb10)
 have T10 := hid (ext_trans T9.out E10.out)
 have G10 := hid (G9.out.ext E10.out)
 have O10 := hid (O9.out.ext E10.out)
 have k10 := k8.ext E10.out
 have K10 := hid k10
 clear hb10 T9 G9 O9 k8 k6 e9 E10 E10a
 go_wp2_with ((with_reducible refine wpList_load_rec w5.heap.size (rcV RR p5) rfl ?_ ?_ ?_); (· rfl); (· exact k10))
 refine (markRec RR p5 _ _ _ _ _ _ 1 _ (cnt_le HSR.out) HSR.out G10.out.lay.1).mono ?_
 rintro e w11 ⟨rfl, wr11⟩
 have WG := hid (show ∀ q ∈ wsTo RR p5 (ixA (X5.H.map (·.2))) (lenM RR.held) (ixA (X5.A.map (·.2))) (lenA RR.acks) 1 7, W4.heap.size ≤ q.1.block ∧ q.1.block < w5.heap.size ∧ col5 q.1.block ≤ 8 from fun q hq => by obtain ⟨i, hz⟩ := wsTo_zone hq; exact ZG.out i _ hz)
 have T11 := hid (Wrote.below T10.out wr11 (Nat.le_refl _) (fun q hq => by have := (WG.out q hq).1; have := S34.out; have := S4.out; omega))
 have L11 := hid (G10.out.lay.1.marked wr11)
 have V11 := hid wr11.new
 have O11 := hid (O10.out.apart wr11 (fun q hq => .inr (WG.out q hq).2.2))
 have k11 := wr11.blk K10.out (fun q hq e => by have := (WG.out q hq).2; omega)
 have K11 := hid k11
 have N11 := hid (show w5.heap.size < w11.heap.size from k11.lt)
 clear wr11 T10 G10 O10 k10 K10 k11
 obtain ⟨M9, hM9⟩ : ∃ k, k = cnt RR (lenM RR.held) (lenA RR.acks) 1 7 := ⟨_, rfl⟩
 have HM9 := hid hM9
 have M9L := hid (show M9 ≤ 8000000000000 by rw [hM9]; exact cnt_le2 HSR.out)
 rw [← hM9]
 clear hM9
 have LY := hid (show LayM w11 a5 (aM H5) (nM H5) (cM H5) ML.length by rw [← LN.out]; exact O11.out.lay)
 have KM := hid (show kM (nM H5) M9 ML.length ≤ 1152921504606846900 by rw [show nM H5 = lenM ML by unfold nM; rw [HM5.out]]; exact kM_small HSM.out M9L.out HSL.out)
 have NL := hid (show ML.length ≤ 1152921504606846976 by have := HSL.out; omega)
 go_wp2_with fail
 refine (markM_any a5 (aM H5) (nM H5) (cM H5) ML.length n5 M9 w11 KM.out NL.out LY.out).mono ?_
 rintro e w11b ⟨rfl, wrb⟩
 have MM := hid (MK.out M9)
 have T11b := hid (Wrote.below T11.out wrb (Nat.le_refl _) (fun q hq => by have := (MM.out q hq).2.1; have := S34.out; have := S4.out; omega))
 have L11b := hid (L11.out.away wrb (fun q hq i hz => by have h1 := (MM.out q hq).1; have h2 := (ZG.out i _ hz).2.2; omega))
 have V11b := hid (show ∀ q ∈ wsTo RR p5 (ixA (X5.H.map (·.2))) (lenM RR.held) (ixA (X5.A.map (·.2))) (lenA RR.acks) 1 7, w11b.cell? q.1 = some q.2 from fun q hq => (wrb.keep q.1 (by have := (WG.out q hq).2.1; have := N11.out; omega) (fun u hu e => by have h1 := (MM.out u hu).1; have h2 := (WG.out q hq).2.2; rw [e] at h1; omega)).trans (V11.out q hq))
 have LYb := hid (LY.out.own wrb)
 have VMb := hid (show ∀ q ∈ wsM a5 (aM H5) (nM H5) M9 ML.length, w11b.cell? q.1 = some q.2 from wrb.new)
 have k11 := wrb.blk K11.out (fun q hq e => by have := (MM.out q hq).2.2; omega)
 have K11b := hid k11
 have N11b := hid (show w5.heap.size < w11b.heap.size from k11.lt)
 clear wrb T11 L11 V11 O11 K11 N11 LY
 obtain ⟨M10, hM10⟩ : ∃ k, k = kM (nM H5) M9 ML.length := ⟨_, rfl⟩
 have HM10 := hid hM10
 rw [← hM10]
 clear hM10
 go_wp2_with ((with_reducible refine wpList_load_rec w5.heap.size (rcV RR p5) rfl ?_ ?_ ?_); (· rfl); (· exact k11))
 refine (heldRec RR p5 _ _ _ _ _ _ 1 _ (cnt_le HSR.out) HSR.out L11b.out V11b.out).mono ?_
 rintro e w12a ⟨rfl, hb12⟩
 rw [← HM9.out]
 have E12a := hid hb12
 have VM12a := hid (marks_ext VMb.out (fun q hq => by have := (MM.out q hq).2.2; have := N11b.out; omega) hb12)
 have LY12a := hid (LYb.out.ext hb12)
 clear hb12
 have e12 : ¬ ((M9 : Nat) : Int) < 0 := by omega
 have e13 : ¬ ((M10 : Nat) : Int) < 0 := by omega
 go_wp2_with fail
 refine (heldM_any a5 (aM H5) (nM H5) (cM H5) ML.length n5 M9 w12a KM.out NL.out LY12a.out VM12a.out).mono ?_
 rintro e w12 ⟨rfl, hb12⟩
 rw [← HM10.out]
 have E12 := hid (ext_trans E12a.out hb12)
 have T12 := hid (ext_trans T11b.out E12.out)
 have L12 := hid (L11b.out.ext E12.out)
 have V12 := hid (marks_ext V11b.out (fun q hq => by have := (WG.out q hq).2.1; have := N11b.out; omega) E12.out)
 have LY12 := hid (LYb.out.ext E12.out)
 have VM12 := hid (marks_ext VMb.out (fun q hq => by have := (MM.out q hq).2.2; have := N11b.out; omega) E12.out)
 have K12 := hid (K11b.out.ext E12.out)
 have k12 := KL.out.ext T12.out
 clear T11b L11b V11b k11 K11b hb12 E12a LY12a VM12a LYb VMb E12
 go_wp2_with ((with_reducible refine wpList_load_lrec w.heap.size (rcV r p) rfl ?_ ?_ ?_); (· rfl); (· exact k12))
 refine (toRecO r p _ HS.out (a3.out.ext T12.out)).mono ?_
 rintro e w13 ⟨p13, rfl, o13, _, hb13, ow13, f13⟩
 obtain ⟨X13, col13, has13⟩ := ow13.has o13 f13
 have H13 := hid has13
 have B13 := hid hb13
 clear o13 hb13 ow13 f13 has13
 go_wp2_with fail
 refine (implRecTick w12.heap.size r p13 X13 col13 _ HS.out H13.out).mono ?_
 rw [← HR.out, ← HML.out]
 rintro e w14 ⟨p14, X14, col14, a14, H14, n14, rfl, hm14, has14, out14, hb14⟩
 have HM14 := hid hm14
 have LN14 := hid (show H14.length = ML.length by rw [← hm14, List.length_map])
 rw [LN14.out]
 obtain ⟨W14, hW14⟩ : ∃ v, v = w14.alloc (.cells (rcV RR p14) 41) := ⟨_, rfl⟩
 have D14 := hid (show Below w12.heap.size w12 W14 by rw [hW14]; exact ext_alloc (ext_trans B13.out hb14) _)
 have S14 := hid (show RcAt W14 RR p14 by rw [hW14]; exact (has14.ext (ext_alloc (Below.refl _ _) _)).at)
 have Q14 := hid (show MsgsAt W14 a14 ML by rw [hW14, ← HM14.out]; exact (out14.ext (ext_alloc (Below.refl _ _) _)).at)
 have K14 := hid (show Blk W14 w14.heap.size (rcV RR p14) 41 by rw [hW14]; exact Blk.new _ _ _)
 have T14 := hid (ext_trans T12.out D14.out)
 have L14 := hid (L12.out.ext D14.out)
 have LY14 := hid (LY12.out.ext D14.out)
 have V14 := hid (marks_ext V12.out (fun q hq => by have := (WG.out q hq).2.1; have := K12.out.lt; omega) D14.out)
 have VM14 := hid (marks_ext VM12.out (fun q hq => by have := (MM.out q hq).2.2; have := K12.out.lt; omega) D14.out)
 have K12b := hid (K12.out.ext D14.out)
 have k14 := K14.out
 have k6 := K6.out.ext T14.out
 rw [hW14] at k14 k6
 clear has14 out14 hm14 hb14 H13 B13 T12 L12 V12 LY12 VM12 D14 k12 K12
 go_wp2_with (first | ((with_reducible refine wpList_store_rec (rcV RR p14) rfl ?_ ?_ ?_ ?_ ?_); (· rfl); (· rfl); (· rfl); (· simp [Value.oneCell'])) | ((with_reducible refine wpList_load_rec w14.heap.size (rcV RR p14) rfl ?_ ?_ ?_); (· rfl); (· exact k14)) | ((with_reducible refine wpList_load_rec w3.heap.size (rcV RR p3) rfl ?_ ?_ ?_); (· rfl); (· exact k6)))
 rw [← hW14]
 clear hW14 k14 k6
 refine (eqRec_same RR p14 p3 _ S14.out (S3.out.ext T14.out)).mono ?_
 rintro e w15a ⟨rfl, hb15⟩
 have E15a := hid hb15
 clear hb15
 go_wp2_with fail
 refine (eqMsgs_same a14 m3 ML ML.length n14 n3 w15a rfl HSX.out (Q14.out.ext E15a.out) (Q3.out.ext (ext_trans T14.out E15a.out))).mono ?_
 rintro e w15 ⟨rfl, hb15⟩
 have E15 := hid (ext_trans E15a.out hb15)
 have T15 := hid (ext_trans T14.out E15.out)
 have L15 := hid (L14.out.ext E15.out)
 have LY15 := hid (LY14.out.ext E15.out)
 have V15 := hid (marks_ext V14.out (fun q hq => by have := (WG.out q hq).2.1; have := K12b.out.lt; omega) E15.out)
 have VM15 := hid (marks_ext VM14.out (fun q hq => by have := (MM.out q hq).2.2; have := K12b.out.lt; omega) E15.out)
 have k15 := K12b.out.ext E15.out
 have N15 := hid (show w5.heap.size < w15.heap.size from k15.lt)
 clear hb15 T14 L14 V14 LY14 VM14 S14 K14 E15 E15a
 go_wp2_with ((with_reducible refine wpList_load_rec w5.heap.size (rcV RR p5) rfl ?_ ?_ ?_); (· rfl); (· exact k15))
 refine (heldRec RR p5 _ _ _ _ _ _ 1 _ (cnt_le HSR.out) HSR.out L15.out V15.out).mono ?_
 rintro e w16a ⟨rfl, hb16⟩
 rw [← HM9.out]
 have E16a := hid hb16
 have LY16 := hid (LY15.out.ext hb16)
 have VM16 := hid (marks_ext VM15.out (fun q hq => by have := (MM.out q hq).2.2; have := N15.out; omega) hb16)
 clear hb16 k15
 go_wp2_with fail
 refine (heldM_any a5 (aM H5) (nM H5) (cM H5) ML.length n5 M9 w16a KM.out NL.out LY16.out VM16.out).mono ?_
 rintro e w16 ⟨rfl, hb16⟩
 rw [← HM10.out]
 have T16 := hid (ext_trans T15.out (ext_trans E16a.out hb16))
 clear hb16 T15 L15 V15 LY15 VM15 LY16 VM16 E16a
 go_wp2
 go_ret
 exact ⟨rfl, ext_trans B3.out T16.out⟩
theorem lifted (os : Os) (started : os.Started) (H : Type) (enc : TypeId × Value → H) :
  ReturnsInHanded {} Tryz.checked os 4 .any (Rows.fnExactRecTickSpec.pre6 enc Tryz.prog Tryz.f4 Rows.fnExactRecTickRow.domain false) (Rows.fnExactRecTickSpec.post enc Tryz.prog Tryz.f4 false true false false) := by
 refine returnsInHanded_of_change (C := Tryz.checked) own started (by kernel_rfl) Tryz.func4
  (ChangeSpec.witness6 (enc := enc) (C := Tryz.checked) false ⟨#[], #[.agg zRc], []⟩ 8 (by kernel_rfl) (by kernel_rfl) (by kernel_rfl) (by kernel_rfl)) ?_
 intro W base args ds gs before hval0 hW hcnd _
 have hval : ∀ (j : Nat) t v, Tryz.f4.params[j]? = some t → args[j]? = some v → Value.okWide Tryz.prog W .any base t v := hval0
 have hW' := hW
 obtain ⟨p, q, hA0, hV, rfl, hfz, hnd⟩ := hW
 have hA : DataW.TrodAll enc Tryz.prog W 0 (fun _ => true) true Tryz.f4.params.toList args.toList ds p := hA0
 rw [Tryz.params4] at hA hval
 obtain ⟨v0, vs0, d0, ds0, p0, q0, hargs, rfl, rfl, h0, r0⟩ := trodAll_cons hA
 obtain ⟨rfl, rfl, rfl⟩ := trodAll_nil r0
 obtain rfl : args = #[v0] := by cases args; simp_all
 obtain ⟨rfl, rfl⟩ := trodVars_none hV
 have k0 := h0
 have lt0 : ∀ x ∈ p0, x.block < W.heap.size := by obtain ⟨m, hm⟩ := k0; exact DataW.trod_lt m _ _ _ hm
 obtain ⟨r, rp, rfl, hs⟩ := rec_open (hval 0 30 v0 rfl rfl) h0
 clear hA0 hval0
 refine (walk r rp W hs).mono fun e W' ⟨he, bel⟩ => ?_
 subst he
 exact ⟨_, rfl, _, _, _, [], _, [], hW', trodAll_mk1 (shut_bool Tryz.underlying4 _), (trodAll_cons_mk (Below.trod laidOut (by kernel_rfl) (of_decide_eq_true (by kernel_rfl)) k0 bel lt0) trodAll_mk0), rfl, bel.frame _, fun h => by cases h⟩
theorem over : Rows.fnExactRecTickRow.holds Tryz.pinned (OpenSpec.ofChange Rows.fnExactRecTickSpec) :=
 OpenClaim.holds_of_wide 4 Tryz.f4 rfl rfl rfl rfl rfl rfl rfl ⟨rfl, rfl, rfl, rfl, rfl⟩ rfl rfl rfl rfl rfl (by kernel_rfl) Tryz.func4 (by kernel_rfl)
  (of_decide_eq_true (by kernel_rfl)) (by unfold Func.isWrapper; first | (rw [if_pos (by decide +kernel)]; kernel_rfl) | (rw [if_neg (by decide +kernel)]; exact ⟨rfl, rfl⟩))
  (fun os started H enc _ => lifted os started H enc)
theorem proved : Rows.FnExactRecTickSaid := over
#print axioms proved
end Go.Proofs.YtffklmlljekceaaGreat.fnExactRecTick
