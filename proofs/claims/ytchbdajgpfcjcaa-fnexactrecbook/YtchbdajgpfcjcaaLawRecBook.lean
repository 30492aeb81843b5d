/-
  FnExactRecBook, proved: for every recorder.
-/
import Derived.Test.YtchbdajgpfcjcaaBook
import Derived.Test.YtchbdajgpfcjcaaRecOpen
import Derived.Test.YtchbdajgpfcjcaaLawKit
namespace Go.Proofs.Ytchbdajgpfcjcaa.fnExactRecBook
open Go.ChangeShapes Go.WideShapes Go.ChangeAt Go.RowKit
set_option linter.unusedVariables false
set_option linter.unusedSimpArgs false

set_option maxHeartbeats 8000000 in
set_option maxRecDepth 20000 in
theorem walk (r : Rc) (p : RcP) (w : World) (h : RcAt w r p) :
    Calls Try.prog 9 #[.agg (rcV r p)] w fun e w' => e = .returned (.bool true) ∧ Below w.heap.size w w' := by
  have hB := hid (show Below w.heap.size w (w.alloc (.cells (rcV r p) 52)) from ext_alloc (Below.refl _ _) _)
  have hA := hid (h.ext hB.out)
  have b0 := Blk.new w (rcV r p) 52
  clear h
  go_enter Try.func9, Try.ntmps9
  go_wp2_with ((with_reducible refine wpList_load_lrec w.heap.size (rcV r p) rfl ?_ ?_ ?_); (· rfl); (· exact b0))
  refine (szRec r p _ _ (by omega) (by omega) hA.out).mono ?_
  rintro e w1 ⟨q, rfl, r1, r2, r3, hb1⟩
  have a1 := hid (hA.out.ext hb1)
  have k1 := b0.ext hb1
  have B1 := hid (ext_trans hB.out hb1)
  clear hA hB b0 hb1
  by_cases hr : q < 0
  · go_wp2_with fail
    go_ret
    exact ⟨rfl, B1.out⟩
  have HS : Hid (RcSmall r) := r3 (by omega)
  clear r3
  go_wp2_with ((with_reducible refine wpList_load_lrec w.heap.size (rcV r p) rfl ?_ ?_ ?_); (· rfl); (· exact k1))
  refine (toRec r p _ HS.out a1.out).mono ?_
  rintro e w2 ⟨p2, rfl, a2, hW2, hb2⟩
  go_wp2_with fail
  refine (specBook r p2 _ HS.out a2).mono ?_
  rintro e w3 ⟨A3, c3, rfl, s3, hb3⟩
  have S3 := hid s3
  have a3 := hid (a1.out.ext (ext_trans hb2 hb3))
  have k3 := k1.ext (ext_trans hb2 hb3)
  have B3 := hid (ext_trans B1.out (ext_trans hb2 hb3))
  clear a1 k1 B1 hb2 hb3 a2 hW2 s3
  -- from here on what stands is told of w3
  go_wp2_with ((with_reducible refine wpList_load_lrec w.heap.size (rcV r p) rfl ?_ ?_ ?_); (· rfl); (· exact k3))
  refine (toRecO r p _ HS.out a3.out).mono ?_
  rintro e w4 ⟨p4, rfl, o4, hW4, hb4, ow4, f4⟩
  obtain ⟨AH, AA, lay4, g4, eg4, zg4⟩ := ow4.lay
  have LAY := hid lay4
  have ZL := hid (show ∀ i x, zone r p4 AH (lenM r.held) AA (lenA r.acks) i x → w3.heap.size ≤ x.block ∧ x.block < w4.heap.size from fun i x hz => ⟨Nat.le_trans (f4 _ eg4) (zg4 i x hz), lay4.lt i x hz⟩)
  clear ow4 lay4 zg4 eg4 f4
  have HW4 : Hid (r.wish.length ≤ p4.cW) := hW4
  have T4 := hid hb4
  have X4 := hid o4
  have T5w := hid hb4.size
  clear hb4 hW4 o4
  have e5 : Below w4.heap.size w4 (w4.alloc (.cells (rcV r p4) 44)) := ext_alloc (Below.refl _ _) _
  have q5 := Blk.new w4 (rcV r p4) 44
  go_wp2_with (first
    | ((with_reducible refine wpList_store_rec (rcV r p4) rfl ?_ ?_ ?_ ?_ ?_); (· rfl); (· rfl); (· rfl); (· simp [Value.oneCell']))
    | ((with_reducible refine wpList_load_rec w4.heap.size (rcV r p4) rfl ?_ ?_ ?_); (· rfl); (· exact q5)))
  refine (implBook r p4 _ HW4 (X4.out.ext e5)).mono ?_
  rintro e w5 ⟨A5, c5, rfl, f5, s5, m5, hb5⟩
  have E5 := hid (ext_trans e5 hb5)
  have T5 := hid (ext_trans T4.out E5.out)
  have Q5 := hid (q5.ext hb5)
  have F5 := hid (show ∀ x, A5 = some x → w4.heap.size < x.block from fun x hx => by have := f5 x hx; simp at this; omega)
  have G5 := hid s5
  have M5 := hid m5
  have X5 := hid (X4.out.ext E5.out)
  have L5 := hid (LAY.out.ext E5.out)
  clear e5 q5 hb5 f5 s5 m5 X4 E5 T4 LAY
  obtain ⟨BK, hBK⟩ : ∃ l, l = bookR r := ⟨_, rfl⟩
  rw [← hBK]
  have HBK := hid (show bookR r = BK from hBK.symm)
  clear hBK
  have GK := hid (show GoodOnes okS BK by rw [← HBK.out]; exact S3.out.good)
  have LK := hid (show BK.length ≤ 60 by
    rw [← HBK.out]
    unfold bookR
    split
    · rename_i hv
      have := valid_known hv
      simp only [bookL, List.length_map, List.length_take]
      omega
    · simp)
  have S3' := hid (show StrsAt w3 A3 BK by rw [← HBK.out]; exact S3.out)
  have G5' := hid (show StrsAt w5 A5 BK by rw [← HBK.out]; exact G5.out)
  have M5' := hid (show Room w5 A5 BK.length by rw [← HBK.out]; exact M5.out)
  clear S3 G5 M5
  have lk : BK.length ≤ 60 := LK.out
  go_wp2_with fail
  refine (eqStrs_same A5 A3 BK BK.length c5 c3 _ rfl (by unfold maxLen; omega) G5'.out (S3'.out.ext T5.out)).mono ?_
  rintro e w6 ⟨rfl, hb6⟩
  have T6 := hid (ext_trans T5.out hb6)
  have Q6 := hid (Q5.out.ext hb6)
  have G6 := hid (G5'.out.ext hb6)
  have M6 := hid (M5'.out.ext hb6)
  have X6 := hid (X5.out.ext hb6)
  have L6 := hid (L5.out.ext hb6)
  clear T5 Q5 G5' M5' X5 L5 hb6
  have hK0 : LawS w6 w.heap.size w4.heap.size r p p4 w6 := ⟨k3.ext T6.out, Q6.out, Below.refl _ _⟩
  go_wp2_with fail
  refine wp_region_held_drew (S := LawS w6 w.heap.size w4.heap.size r p p4) (by kernel_rfl) hK0.drew (fun hHeld => ?_)
  clear hK0
  simp only [List.size_toArray, List.length_cons, List.length_nil, Nat.reduceAdd, Array.replicate_succ, Array.replicate_zero, List.push_toArray, List.append_toArray, List.nil_append, List.cons_append]
  refine wpAnyH_take (i := 0) (at_lit rfl) (by kernel_rfl) (by kernel_rfl) (by kernel_rfl) (fun _ _ _ h => h) (yields_own (by rfl) _ rfl rfl) hHeld ?_
  try simp only [Act.put, List.setIfInBounds_toArray, List.set_cons_zero, List.set_cons_succ]
  refine wpAnyH_take (i := 1) (at_lit rfl) (by kernel_rfl) (by kernel_rfl) (by kernel_rfl) (fun _ _ _ h => h) (yields_law (by rfl) _ rfl rfl) hHeld ?_
  try simp only [Act.put, List.setIfInBounds_toArray, List.set_cons_zero, List.set_cons_succ]
  refine wpAnyH_ready (rs := [2]) (by kernel_rfl) (by simp) ?_
  refine AllReadyH.cons (at_lit rfl) (fun K hK => ?_) AllReadyH.nil
  go_simp
  refine (toRec r p _ HS.out (a3.out.ext (ext_trans T6.out hHeld.bel))).mono ?_
  rintro e w7 ⟨p7, rfl, o7, hW7, hb7⟩
  go_wp2_with fail
  refine hK.out _ _ (hHeld.ext hb7) (fun hNew => ?_)
  clear hK K hHeld hb7 hW7
  have hHeld := hNew
  clear hNew
  try simp only [Act.put, List.setIfInBounds_toArray, List.set_cons_zero, List.set_cons_succ]
  refine wpAnyH_ready (rs := [3]) (by kernel_rfl) (by simp) ?_
  refine AllReadyH.cons (at_lit rfl) (fun K hK => ?_) AllReadyH.nil
  go_simp
  refine (eqRec_same r p4 p7 _ (X6.out.ext hHeld.bel) o7).mono ?_
  rintro e w8 ⟨rfl, hb8⟩
  go_wp2_with fail
  refine hK.out _ _ (hHeld.ext hb8) (fun hNew => ?_)
  clear hK K hHeld hb8 o7
  have hHeld := hNew
  clear hNew
  try simp only [Act.put, List.setIfInBounds_toArray, List.set_cons_zero, List.set_cons_succ]
  refine wpAnyH_take (i := 4) (v := ?_) (at_lit rfl) (by kernel_rfl) (by kernel_rfl) (by kernel_rfl) (fun _ _ _ h => h) (Or.inl ⟨by rfl, ?_⟩) hHeld ?_
  rotate_left
  · (intro w9 hSw; clear hSw; go_simp; try with_reducible rfl)
  try simp only [Act.put, List.setIfInBounds_toArray, List.set_cons_zero, List.set_cons_succ]
  refine wpAnyH_done (by kernel_rfl) ?_ _
  have T8 := hid (ext_trans T6.out hHeld.bel)
  have Q8 := hHeld.own
  have G8 := hid (G6.out.ext hHeld.bel)
  have M8 := hid (M6.out.ext hHeld.bel)
  have L8 := hid (L6.out.ext hHeld.bel)
  clear hHeld T6 Q6 G6 M6 X6 L6
  go_wp2_with ((with_reducible refine wpList_load_rec w4.heap.size (rcV r p4) rfl ?_ ?_ ?_); (· rfl); (· exact Q8))
  refine (markRec r p4 AH (lenM r.held) (lenM r.held) AA (lenA r.acks) (lenA r.acks) 1 _ (cnt_le HS.out) HS.out L8.out).mono ?_
  rintro e w9 ⟨rfl, wr9⟩
  have WB := hid (show ∀ q ∈ wsTo r p4 AH (lenM r.held) AA (lenA r.acks) 1 7, w3.heap.size ≤ q.1.block ∧ q.1.block < w4.heap.size from fun q hq => by obtain ⟨i, hz⟩ := wsTo_zone hq; exact ZL.out i _ hz)
  have T9 := hid (Wrote.below T8.out wr9 (Nat.le_refl _) (fun q hq => (WB.out q hq).1))
  have G9 := hid (G8.out.wrote wr9 (fun x hx q hq => by have := F5.out x hx; have := (WB.out q hq).2; omega))
  have M9 := hid (M8.out.wrote wr9)
  clear wr9 WB T8 Q8 G8 M8 L8 ZL
  obtain ⟨K9, hK9⟩ : ∃ k, k = cnt r (lenM r.held) (lenA r.acks) 1 7 := ⟨_, rfl⟩
  rw [← hK9]
  clear hK9
  have e9 : ¬ ((K9 : Nat) : Int) < 0 := by omega
  go_wp2_with fail
  refine (eqStrs_same A5 A3 BK BK.length c5 c3 _ rfl (by unfold maxLen; omega) G9.out (S3'.out.ext T9.out)).mono ?_
  rintro e w10 ⟨rfl, hb10⟩
  have T10 := hid (ext_trans T9.out hb10)
  have M10 := hid (M9.out.ext hb10)
  clear T9 G9 M9 hb10 e9
  go_wp2_with fail
  refine (markT_any A5 BK.length c5 1 _ (by omega) M10.out).mono ?_
  rintro e w11 ⟨rfl, wr11⟩
  have WL := hid (show ∀ q ∈ wsT A5 1 BK.length, q.1.block < w10.heap.size from fun q hq => by obtain ⟨j, hj, e⟩ := wsT_mem _ _ _ q hq; rw [e]; exact M10.out.lt hj)
  have T11 := hid (Wrote.below T10.out wr11 (Nat.le_refl _) (fun q hq => by
    obtain ⟨j, hj, e⟩ := wsT_mem _ _ _ q hq
    obtain ⟨b, off, ha, _⟩ := M10.out j hj
    have q1 := F5.out _ ha
    have q2 := T5w.out
    rw [e, ha, adr_some]
    dsimp only at q1 ⊢
    omega))
  have M11 := hid (M10.out.wrote wr11)
  have V11 := hid wr11.new
  have WL11 := hid (show ∀ q ∈ wsT A5 1 BK.length, q.1.block < w11.heap.size from fun q hq => Nat.lt_of_lt_of_le (WL.out q hq) wr11.size)
  clear T10 M10 wr11 WL
  go_wp2_with fail
  refine (heldT_any A5 BK.length c5 1 _ (by omega) M11.out V11.out).mono ?_
  rintro e w12 ⟨rfl, hb12⟩
  have T12 := hid (ext_trans T11.out hb12)
  have M12 := hid (M11.out.ext hb12)
  have V12 := hid (marks_ext V11.out WL11.out hb12)
  have WL12 := hid (show ∀ q ∈ wsT A5 1 BK.length, q.1.block < w12.heap.size from fun q hq => Nat.lt_of_lt_of_le (WL11.out q hq) hb12.size)
  have k12 := k3.ext T12.out
  clear T11 M11 V11 WL11 hb12
  have e12 : ¬ (((1 + BK.length : Nat) : Int)) < 0 := by omega
  go_wp2_with ((with_reducible refine wpList_load_lrec w.heap.size (rcV r p) rfl ?_ ?_ ?_); (· rfl); (· exact k12))
  refine (toRec r p _ HS.out (a3.out.ext T12.out)).mono ?_
  rintro e w13 ⟨p13, rfl, o13, hW13, hb13⟩
  have HW13 : Hid (r.wish.length ≤ p13.cW) := hW13
  go_wp2_with fail
  refine (implBook r p13 _ HW13 o13).mono ?_
  rintro e w14 ⟨A14, c14, rfl, f14, s14, m14, hb14⟩
  rw [HBK.out] at s14 ⊢
  have D14 := hid (ext_trans hb13 hb14)
  have T14 := hid (ext_trans T12.out D14.out)
  have M14 := hid (M12.out.ext D14.out)
  have V14 := hid (marks_ext V12.out WL12.out D14.out)
  have WL14 := hid (show ∀ q ∈ wsT A5 1 BK.length, q.1.block < w14.heap.size from fun q hq => Nat.lt_of_lt_of_le (WL12.out q hq) D14.out.size)
  have S14 := hid s14
  clear hb13 hb14 o13 hW13 f14 s14 m14 T12 M12 V12 WL12 D14 k12
  go_wp2_with fail
  refine (eqStrs_same A14 A3 BK BK.length c14 c3 _ rfl (by unfold maxLen; omega) S14.out (S3'.out.ext T14.out)).mono ?_
  rintro e w15 ⟨rfl, hb15⟩
  have T15 := hid (ext_trans T14.out hb15)
  have M15 := hid (M14.out.ext hb15)
  have V15 := hid (marks_ext V14.out WL14.out hb15)
  clear hb15 T14 M14 V14 WL14 S14
  go_wp2_with fail
  refine (heldT_any A5 BK.length c5 1 _ (by omega) M15.out V15.out).mono ?_
  rintro e w16 ⟨rfl, hb16⟩
  have T16 := hid (ext_trans T15.out hb16)
  clear hb16 T15 M15 V15
  go_wp2
  go_ret
  exact ⟨rfl, ext_trans B3.out T16.out⟩

set_option maxRecDepth 100000 in
theorem lifted (os : Os) (started : os.Started) (H : Type) (enc : TypeId × Value → H) :
    ReturnsInHanded {} Try.checked os 9 .any (Rows.fnExactRecBookSpec.pre6 enc Try.prog Try.f9 Rows.fnExactRecBookRow.domain false) (Rows.fnExactRecBookSpec.post enc Try.prog Try.f9 false true false false) := by
  refine returnsInHanded_of_change (C := Try.checked) own started (by kernel_rfl) Try.func9
    (ChangeSpec.witness6 (enc := enc) (C := Try.checked) false ⟨#[], #[.agg #[.int .i64 0, .int .i64 0, .bool false, .int .i64 0, .int .i64 0, .slice none 0 0, .int .i64 0, .int .i64 0, .slice none 0 0, .slice none 0 0, .slice none 0 0, .bool false, .bool false, .int .i64 0, .slice none 0 0, .slice none 0 0, .slice none 0 0, .int .i64 0]], []⟩ 8 (by kernel_rfl) (by kernel_rfl) (by kernel_rfl) (by kernel_rfl)) ?_
  intro W base args ds gs before hval0 hW hcnd _
  have hval : ∀ (j : Nat) t v, Try.f9.params[j]? = some t → args[j]? = some v → Value.okWide Try.prog W .any base t v := hval0
  have hW' := hW
  obtain ⟨p, q, hA0, hV, rfl, hfz, hnd⟩ := hW
  have hA : DataW.TrodAll enc Try.prog W 0 (fun _ => true) true Try.f9.params.toList args.toList ds p := hA0
  rw [Try.params9] at hA hval
  obtain ⟨v0, vs0, d0, ds0, p0, q0, hargs, rfl, rfl, h0, r0⟩ := trodAll_cons hA
  obtain ⟨rfl, rfl, rfl⟩ := trodAll_nil r0
  obtain rfl : args = #[v0] := by cases args; simp_all
  obtain ⟨rfl, rfl⟩ := trodVars_none hV
  have k0 := h0
  have lt0 : ∀ x ∈ p0, x.block < W.heap.size := by obtain ⟨m, hm⟩ := k0; exact DataW.trod_lt m _ _ _ hm
  obtain ⟨r, rp, rfl, hs⟩ := rec_open (hval 0 52 v0 rfl rfl) h0
  clear hA0 hval0
  refine (walk r rp W hs).mono fun e W' ⟨he, bel⟩ => ?_
  subst he
  exact ⟨_, rfl, _, _, _, [], _, [], hW', trodAll_mk1 (shut_bool Try.underlying4 _), (trodAll_cons_mk (Below.trod laidOut (by kernel_rfl) (of_decide_eq_true (by kernel_rfl)) k0 bel lt0) trodAll_mk0), rfl, bel.frame _, fun h => by cases h⟩

theorem over : Rows.fnExactRecBookRow.holds Try.pinned (OpenSpec.ofChange Rows.fnExactRecBookSpec) :=
  OpenClaim.holds_of_wide 9 Try.f9 rfl rfl rfl rfl rfl rfl rfl ⟨rfl, rfl, rfl, rfl, rfl⟩ rfl rfl rfl rfl rfl (by kernel_rfl) Try.func9 (by kernel_rfl)
    (of_decide_eq_true (by kernel_rfl)) (by unfold Func.isWrapper; first | (rw [if_pos (by decide +kernel)]; kernel_rfl) | (rw [if_neg (by decide +kernel)]; exact ⟨rfl, rfl⟩))
    (fun os started H enc _ => lifted os started H enc)

/-- THE STATEMENT -/
theorem proved : Rows.FnExactRecBookSaid := over
#print axioms proved
end Go.Proofs.Ytchbdajgpfcjcaa.fnExactRecBook
