/-
  FnExactRecMerge, proved: for every two lists of slots.
-/
import Derived.Test.YtkgljcgninfdoaaMarks
import Derived.Test.YtkgljcgninfdoaaSlotsEq
import Derived.Test.YtkgljcgninfdoaaSlotsOpen
namespace Go.Proofs.Ytkgljcgninfdoaa.fnExactRecMerge
open Go.ChangeShapes Go.WideShapes Go.ChangeAt Go.RowKit
set_option linter.unusedVariables false
set_option linter.unusedSimpArgs false

theorem owns_at {w : World} {B g n cap : Nat} {l : List Sl} (h : w.ownsRow B 69 2 (.slice (some ⟨g, 0, none⟩) n cap) n (flat l)) (hl : l.length = n) (hg : GoodSlots l) : SlotsAt w (some ⟨g, 0, none⟩) l := fun i s hs => by
  have hi : i < l.length := (List.getElem?_eq_some_iff.1 hs).1
  have hf := flat_at l i s hs
  have c0 := (h.cellAt (i * 2) (by omega)).trans hf.1
  exact ⟨g, 0, rfl, World.block_lt_of_cell? w _ c0, by rw [Nat.zero_add]; exact c0, by rw [Nat.zero_add]; exact (h.cellAt (i * 2 + 1) (by omega)).trans hf.2, (hg i s hs).1, (hg i s hs).2⟩
set_option maxRecDepth 100000 in
theorem slots_arg {H : Type} {enc : TypeId × Value → H} {W : World} {base : Nat} {v : Value} {d : DataW H} {p : List MemPlace}
    (hv : Value.okWide Try.prog W .any base 22 v) (h : DataW.Trod enc Try.prog W 0 (fun _ => true) true 22 v d p) :
    ∃ a n cap l, v = .slice a n cap ∧ List.length l = n ∧ n ≤ maxLen ∧ SlotsAt W a l := by
  obtain ⟨b0, n0, c0, rfl⟩ := okWide_slice Try.underlying22 hv
  obtain ⟨fuel, hf⟩ := h
  have hf' : DataW.trod enc Try.prog W 0 (fun _ => true) true fuel 22 [Value.slice b0 n0 c0] = some (d, p) := hf
  exact slots_open hf'
theorem le_max_len {n : Nat} (h : n ≤ 1048576) : n ≤ maxLen := by unfold maxLen; omega

set_option maxHeartbeats 8000000 in
theorem walk (a1 : Option Addr) (l1 : List Sl) (n1 c1 : Nat) (a2 : Option Addr) (l2 : List Sl) (n2 c2 : Nat) (w : World) (hn1 : l1.length = n1) (hm1 : n1 ≤ maxLen) (h1 : SlotsAt w a1 l1) (hn2 : l2.length = n2) (hm2 : n2 ≤ maxLen) (h2 : SlotsAt w a2 l2) :
    Calls Try.prog 4 #[.slice a1 n1 c1, .slice a2 n2 c2] w fun e w' => e = .returned (.bool true) ∧ Below w.heap.size w w' := by
  have HL := hid (show l1.length = n1 ∧ l2.length = n2 from ⟨hn1, hn2⟩)
  have H1 := hid h1
  have H2 := hid h2
  have GM := hid (mergeL_good h1.good h2.good)
  have ML := hid (show (mergeL l1 l2).length = max n1 n2 by rw [mergeL_len, hn1, hn2])
  have HM := hid (show n1 ≤ maxLen ∧ n2 ≤ maxLen from ⟨hm1, hm2⟩)
  clear hn1 hn2 h1 h2 hm1 hm2
  go_enter Try.func4, Try.ntmps4
  go_wp2_with fail
  refine (szSlots a1 l1 n1 c1 _ _ HL.out.1 (by omega) (by omega) HM.out.1 H1.out).mono ?_
  rintro e w1 ⟨r1, rfl, u1, v1, s1, hb1⟩
  have B1 := hid hb1
  clear hb1
  by_cases hr1 : r1 < 0
  · go_wp2_with fail
    go_ret
    exact ⟨rfl, B1.out⟩
  have N1 : n1 ≤ 1048576 := s1 (by omega)
  clear s1
  go_wp2_with fail
  refine (szSlots a2 l2 n2 c2 _ _ HL.out.2 (by omega) (by omega) HM.out.2 (H2.out.ext B1.out)).mono ?_
  rintro e w2 ⟨r2, rfl, u2, v2, s2, hb2⟩
  have B2 := hid (ext_trans B1.out hb2)
  clear hb2 B1
  by_cases hr2 : r2 < 0
  · go_wp2_with fail
    go_ret
    exact ⟨rfl, B2.out⟩
  have N2 : n2 ≤ 1048576 := s2 (by omega)
  clear s2 u1 v1 u2 v2 hr1
  obtain ⟨N, hN0⟩ : ∃ N, N = max n1 n2 := ⟨_, rfl⟩
  have hN := hid hN0
  have NB : N ≤ 1048576 := by omega
  have ML' := hid (show (mergeL l1 l2).length = N by rw [hN0]; exact ML.out)
  clear hN0 ML
  go_wp2_with fail
  refine (toSlots a1 l1 n1 c1 _ HL.out.1 N1 (H1.out.ext B2.out)).mono ?_
  rintro e w3 ⟨g1, rfl, hg1, o1, hb3⟩
  have B3 := hid (ext_trans B2.out hb3)
  have O1 := hid o1
  clear hb3 o1 B2 hg1
  go_wp2_with fail
  refine (toSlots a2 l2 n2 c2 _ HL.out.2 N2 (H2.out.ext B3.out)).mono ?_
  rintro e w4 ⟨g2, rfl, hg2, o2, hb4⟩
  have B4 := hid (ext_trans B3.out hb4)
  have O1' := hid (own_blk (O1.out.ext hb4))
  have O2 := hid (own_blk o2)
  clear hb4 o2 B3 hg2 O1
  go_wp2_with fail
  refine (specMerge g1 g2 l1 l2 n1 n2 _ HL.out.1 HL.out.2 N1 N2 O1'.out O2.out).mono ?_
  rintro e w5 ⟨g3, cap3, rfl, hg3, o3, hb5⟩
  rw [← hN.out] at o3 ⊢
  have B5 := hid (ext_trans B4.out hb5)
  have S3 := hid (owns_at o3 ML'.out GM.out)
  clear hb5 o3 B4 O1' O2 hg3
  -- from here on what stands is told of w5
  go_wp2_with fail
  refine (toSlots a1 l1 n1 c1 _ HL.out.1 N1 (H1.out.ext B5.out)).mono ?_
  rintro e w6 ⟨g4, rfl, hg4, o4, hb6⟩
  have T6 := hid hb6
  have X0 := hid o4
  have G4 := hid hg4
  clear hb6 o4 hg4
  go_wp2_with fail
  refine (toSlots a2 l2 n2 c2 _ HL.out.2 N2 (H2.out.ext (ext_trans B5.out T6.out))).mono ?_
  rintro e w7 ⟨g5, rfl, hg5, o5, hb7⟩
  have T7 := hid (ext_trans T6.out hb7)
  have X0' := hid (X0.out.ext hb7)
  have X1 := hid o5
  have G45 := hid (show g4 < g5 from Nat.lt_of_lt_of_le X0.out.lt hg5)
  clear hb7 o5 hg5 T6 X0
  go_wp2_with fail
  refine (implMerge g4 g5 l1 l2 n1 n2 _ HL.out.1 HL.out.2 N1 N2 (own_blk X0'.out) (own_blk X1.out)).mono ?_
  rintro e w8 ⟨g6, rfl, hg6, o6, hb8⟩
  rw [← hN.out]
  have T8 := hid (ext_trans T7.out hb8)
  have X0k := hid (X0'.out.ext hb8)
  have X1' := hid (X1.out.ext hb8)
  have G0 := hid o6
  have G56 := hid (show g5 < g6 from Nat.lt_of_lt_of_le X1.out.lt hg6)
  clear hb8 o6 hg6 T7 X0' X1
  go_wp2_with fail
  refine (eqSlots_same (some ⟨g6, 0, none⟩) (some ⟨g3, 0, none⟩) (mergeL l1 l2) N N cap3 _ ML'.out (le_max_len NB) (G0.out.at GM.out) (S3.out.ext T8.out)).mono ?_
  rintro e w9 ⟨rfl, hb9⟩
  have T9 := hid (ext_trans T8.out hb9)
  have X0a := hid (X0k.out.ext hb9)
  have X1a := hid (X1'.out.ext hb9)
  have G0a := hid (G0.out.ext hb9)
  clear hb9 T8 X0k X1' G0
  go_wp2_with fail
  refine (toSlots a1 l1 n1 c1 _ HL.out.1 N1 (H1.out.ext (ext_trans B5.out T9.out))).mono ?_
  rintro e w10 ⟨g7, rfl, hg7, o7, hb10⟩
  have T10 := hid (ext_trans T9.out hb10)
  have X0b := hid (X0a.out.ext hb10)
  have X1b := hid (X1a.out.ext hb10)
  have G0b := hid (G0a.out.ext hb10)
  have O7 := hid o7
  clear hb10 o7 hg7 T9 X0a X1a G0a
  go_wp2_with fail
  refine (eqSlots_same (some ⟨g4, 0, none⟩) (some ⟨g7, 0, none⟩) l1 n1 n1 n1 _ HL.out.1 HM.out.1 (X0b.out.at H1.out.good) (O7.out.at H1.out.good)).mono ?_
  rintro e w11 ⟨rfl, hb11⟩
  have T11 := hid (ext_trans T10.out hb11)
  have X0c := hid (X0b.out.ext hb11)
  have X1c := hid (X1b.out.ext hb11)
  have G0c := hid (G0b.out.ext hb11)
  clear hb11 T10 X0b X1b G0b O7
  go_wp2_with fail
  refine (toSlots a2 l2 n2 c2 _ HL.out.2 N2 (H2.out.ext (ext_trans B5.out T11.out))).mono ?_
  rintro e w12 ⟨g8, rfl, hg8, o8, hb12⟩
  have T12 := hid (ext_trans T11.out hb12)
  have X0d := hid (X0c.out.ext hb12)
  have X1d := hid (X1c.out.ext hb12)
  have G0d := hid (G0c.out.ext hb12)
  have O8 := hid o8
  clear hb12 o8 hg8 T11 X0c X1c G0c
  go_wp2_with fail
  refine (eqSlots_same (some ⟨g5, 0, none⟩) (some ⟨g8, 0, none⟩) l2 n2 n2 n2 _ HL.out.2 HM.out.2 (X1d.out.at H2.out.good) (O8.out.at H2.out.good)).mono ?_
  rintro e w13 ⟨rfl, hb13⟩
  have T13 := hid (ext_trans T12.out hb13)
  have X0e := hid (own_blk (X0d.out.ext hb13))
  have X1e := hid (own_blk (X1d.out.ext hb13))
  have G0e := hid (own_blk (G0d.out.ext hb13))
  clear hb13 T12 X0d X1d G0d O8
  go_wp2_with fail
  refine (markSlots g4 l1 n1 1 _ HL.out.1 (by omega) X0e.out).mono ?_
  rintro e w14 ⟨rfl, _, ho14⟩
  have T14 := hid (Only.below T13.out ho14 G4.out)
  have X1f := hid (ho14.blk X1e.out (by have := G45.out; omega))
  have G0f := hid (ho14.blk G0e.out (by have := G45.out; have := G56.out; omega))
  clear ho14 T13 X0e X1e G0e
  go_wp2_with fail
  refine (markSlots g5 l2 n2 (1 + 2 * n1) _ HL.out.2 (by omega) X1f.out).mono ?_
  rintro e w15 ⟨rfl, _, ho15⟩
  have T15 := hid (Only.below T14.out ho15 (by have := G45.out; have := G4.out; omega))
  have G0g := hid (ho15.blk G0f.out (by have := G56.out; omega))
  clear ho15 T14 X1f G0f
  have e1 : ¬ (((1 + 2 * n1 + 2 * n2 : Nat) : Int)) < 0 := by omega
  go_wp2_with fail
  refine (eqSlots_same (some ⟨g6, 0, none⟩) (some ⟨g3, 0, none⟩) (mergeL l1 l2) N N cap3 _ ML'.out (le_max_len NB) ((blk_own G0g.out).at GM.out) (S3.out.ext T15.out)).mono ?_
  rintro e w16 ⟨rfl, hb16⟩
  have T16 := hid (ext_trans T15.out hb16)
  have G0h := hid (G0g.out.ext hb16)
  clear hb16 T15 G0g e1
  go_wp2_with fail
  refine (markSlots g6 (mergeL l1 l2) N 1 _ ML'.out (by omega) G0h.out).mono ?_
  rintro e w17 ⟨rfl, m17, ho17⟩
  have T17 := hid (Only.below T16.out ho17 (by have := G45.out; have := G56.out; have := G4.out; omega))
  have M17 := hid m17
  clear ho17 m17 T16 G0h
  go_wp2_with fail
  refine (heldSlots g6 N 1 _ (by omega) M17.out).mono ?_
  rintro e w18 ⟨rfl, hb18⟩
  have T18 := hid (ext_trans T17.out hb18)
  have M18 := hid (M17.out.ext hb18)
  clear hb18 T17 M17
  have e2 : ¬ (((1 + 2 * N : Nat) : Int)) < 0 := by omega
  go_wp2_with fail
  refine (toSlots a1 l1 n1 c1 _ HL.out.1 N1 (H1.out.ext (ext_trans B5.out T18.out))).mono ?_
  rintro e w19 ⟨g9, rfl, hg9, o9, hb19⟩
  have T19 := hid (ext_trans T18.out hb19)
  have M19 := hid (M18.out.ext hb19)
  have O9 := hid o9
  clear hb19 o9 hg9 T18 M18
  go_wp2_with fail
  refine (toSlots a2 l2 n2 c2 _ HL.out.2 N2 (H2.out.ext (ext_trans B5.out T19.out))).mono ?_
  rintro e w20 ⟨g10, rfl, hg10, o10, hb20⟩
  have T20 := hid (ext_trans T19.out hb20)
  have M20 := hid (M19.out.ext hb20)
  have O9' := hid (own_blk (O9.out.ext hb20))
  have O10 := hid (own_blk o10)
  clear hb20 o10 hg10 T19 M19 O9
  go_wp2_with fail
  refine (implMerge g9 g10 l1 l2 n1 n2 _ HL.out.1 HL.out.2 N1 N2 O9'.out O10.out).mono ?_
  rintro e w21 ⟨g11, rfl, hg11, o11, hb21⟩
  rw [← hN.out]
  have T21 := hid (ext_trans T20.out hb21)
  have M21 := hid (M20.out.ext hb21)
  have O11 := hid o11
  clear hb21 o11 hg11 T20 M20 O9' O10
  go_wp2_with fail
  refine (eqSlots_same (some ⟨g11, 0, none⟩) (some ⟨g3, 0, none⟩) (mergeL l1 l2) N N cap3 _ ML'.out (le_max_len NB) (O11.out.at GM.out) (S3.out.ext T21.out)).mono ?_
  rintro e w22 ⟨rfl, hb22⟩
  have T22 := hid (ext_trans T21.out hb22)
  have M22 := hid (M21.out.ext hb22)
  clear hb22 T21 M21 O11
  go_wp2_with fail
  refine (heldSlots g6 N 1 _ (by omega) M22.out).mono ?_
  rintro e w23 ⟨rfl, hb23⟩
  have T23 := hid (ext_trans T22.out hb23)
  clear hb23 T22 M22
  go_wp2
  go_ret
  exact ⟨rfl, ext_trans B5.out T23.out⟩

set_option maxRecDepth 100000 in
theorem lifted (os : Os) (started : os.Started) (H : Type) (enc : TypeId × Value → H) :
    ReturnsInHanded {} Try.checked os 4 .any (Rows.fnExactRecMergeSpec.pre6 enc Try.prog Try.f4 Rows.fnExactRecMergeRow.domain false) (Rows.fnExactRecMergeSpec.post enc Try.prog Try.f4 false true false false) := by
  refine returnsInHanded_of_change (C := Try.checked) own started (by kernel_rfl) Try.func4
    (ChangeSpec.witness6 (enc := enc) (C := Try.checked) false ⟨#[], #[.slice none 0 0, .slice none 0 0], []⟩ 8 (by kernel_rfl) (by kernel_rfl) (by kernel_rfl) (by kernel_rfl)) ?_
  intro W base args ds gs before hval0 hW hcnd _
  have hval : ∀ (j : Nat) t v, Try.f4.params[j]? = some t → args[j]? = some v → Value.okWide Try.prog W .any base t v := hval0
  have hW' := hW
  obtain ⟨p, q, hA0, hV, rfl, hfz, hnd⟩ := hW
  have hA : DataW.TrodAll enc Try.prog W 0 (fun _ => true) true Try.f4.params.toList args.toList ds p := hA0
  rw [Try.params4] at hA hval
  obtain ⟨v0, vs0, d0, ds0, p0, q0, hargs, rfl, rfl, h0, r0⟩ := trodAll_cons hA
  obtain ⟨v1, vs1, d1, ds1, p1, q1, rfl, rfl, rfl, h1, r1⟩ := trodAll_cons r0
  obtain ⟨rfl, rfl, rfl⟩ := trodAll_nil r1
  obtain rfl : args = #[v0, v1] := by cases args; simp_all
  obtain ⟨rfl, rfl⟩ := trodVars_none hV
  have k0 := h0
  have lt0 : ∀ x ∈ p0, x.block < W.heap.size := by obtain ⟨m, hm⟩ := k0; exact DataW.trod_lt m _ _ _ hm
  have k1 := h1
  have lt1 : ∀ x ∈ p1, x.block < W.heap.size := by obtain ⟨m, hm⟩ := k1; exact DataW.trod_lt m _ _ _ hm
  obtain ⟨a1, n1, c1, l1, rfl, hn1, hm1, hs1⟩ := slots_arg (hval 0 22 v0 rfl rfl) h0
  obtain ⟨a2, n2, c2, l2, rfl, hn2, hm2, hs2⟩ := slots_arg (hval 1 22 v1 rfl rfl) h1
  clear hA0 hval0
  refine (walk a1 l1 n1 c1 a2 l2 n2 c2 W hn1 hm1 hs1 hn2 hm2 hs2).mono fun e W' ⟨he, bel⟩ => ?_
  subst he
  exact ⟨_, rfl, _, _, _, [], _, [], hW', trodAll_mk1 (shut_bool Try.underlying4 _), (trodAll_cons_mk (Below.trod laidOut (by kernel_rfl) (of_decide_eq_true (by kernel_rfl)) k0 bel lt0) (trodAll_cons_mk (Below.trod laidOut (by kernel_rfl) (of_decide_eq_true (by kernel_rfl)) k1 bel lt1) trodAll_mk0)), rfl, bel.frame _, fun h => by cases h⟩

theorem over : Rows.fnExactRecMergeRow.holds Try.pinned (OpenSpec.ofChange Rows.fnExactRecMergeSpec) :=
  OpenClaim.holds_of_wide 4 Try.f4 rfl rfl rfl rfl rfl rfl rfl ⟨rfl, rfl, rfl, rfl, rfl⟩ rfl rfl rfl rfl rfl (by kernel_rfl) Try.func4 (by kernel_rfl)
    (of_decide_eq_true (by kernel_rfl)) (by unfold Func.isWrapper; first | (rw [if_pos (by decide +kernel)]; kernel_rfl) | (rw [if_neg (by decide +kernel)]; exact ⟨rfl, rfl⟩))
    (fun os started H enc _ => lifted os started H enc)

/-- THE STATEMENT -/
theorem proved : Rows.FnExactRecMergeSaid := over
#print axioms proved
end Go.Proofs.Ytkgljcgninfdoaa.fnExactRecMerge
