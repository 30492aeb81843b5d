import Derived.Test.YtafolmhpdgpmaaaImplValidA
import Derived.Test.YtafolmhpdgpmaaaImplValidB
import Derived.Test.YtafolmhpdgpmaaaImplValidC
import Derived.Test.YtafolmhpdgpmaaaImplValidD
import Derived.Test.YtafolmhpdgpmaaaImplValidEImplValidF
import Derived.Test.YtafolmhpdgpmaaaDrawnRec
import Derived.Test.YtafolmhpdgpmaaaSpecWishImplWishAnswer
import Derived.Test.YtafolmhpdgpmaaaCopyRec
import Derived.Test.YtafolmhpdgpmaaaHasRec
import Derived.Test.YtafolmhpdgpmaaaRecLay
import Derived.Test.YtafolmhpdgpmaaaRec
import Derived.Deep.Strs
/-
  impl.RecValid: at every recorder.
-/
namespace Go.Proofs.Ytafolmhpdgpmaaa
open Go.ChangeShapes Go.WideShapes Go.ChangeAt Go.RowKit Go.Deep Go.Joins
set_option linter.unusedVariables false
set_option linter.unusedSimpArgs false

theorem implValid (r : Rc) (p : RcP) (w : World) (hW : Hid (r.wish.length ≤ p.cW)) (h : RcAt w r p) :
    Calls Try.prog 46 #[.agg (rcV r p)] w fun e w' => e = .returned (.bool (validB r)) ∧ Below w.heap.size w w' := by
  by_cases hN : ¬ ((inB r.of_ 1 5 && inB r.num 1 r.of_) = true ∧ diskOkB r.sp r.sk r.ss = true ∧ diskOkB r.dp r.dk r.ds = true)
  · exact iv_a r p w hW h  hN
  obtain ⟨g0, g1, g2⟩ := Classical.not_not.1 hN
  clear hN
  by_cases hN : ¬ (heldOkB r.num r.of_ r.held = true ∧ wishesOkB r.wish = true ∧ inB r.heard 0 1000000 = true)
  · exact iv_b r p w hW h g0 g1 g2 hN
  obtain ⟨g3, g4, g5⟩ := Classical.not_not.1 hN
  clear hN
  by_cases hN : ¬ (numsOkB r.of_ r.yes = true ∧ slotsOkB r.best = true ∧ acksOkB r.of_ r.acks = true)
  · exact iv_c r p w hW h g0 g1 g2 g3 g4 g5 hN
  obtain ⟨g6, g7, g8⟩ := Classical.not_not.1 hN
  clear hN
  cases hl : r.lead
  · cases ht : r.tr
    · exact iv_g r p w hW h g0 g1 g2 g3 g4 g5 g6 g7 g8 hl ht
    · exact iv_f r p w hW h g0 g1 g2 g3 g4 g5 g6 g7 g8 hl ht
  · cases ht : r.tr
    · exact iv_e r p w hW h g0 g1 g2 g3 g4 g5 g6 g7 g8 hl ht
    · exact iv_d r p w hW h g0 g1 g2 g3 g4 g5 g6 g7 g8 hl ht
end Go.Proofs.Ytafolmhpdgpmaaa

/-
  spec.RecValid: at every recorder.
-/
namespace Go.Proofs.Ytafolmhpdgpmaaa
open Go.ChangeShapes Go.WideShapes Go.ChangeAt Go.RowKit Go.Deep Go.Joins
set_option linter.unusedVariables false
set_option linter.unusedSimpArgs false

theorem sum_two {a b : Nat} (ha : a ≤ 1048576) (hb : b ≤ 1048576) : wrap64 ((a : Int) + (b : Int)) = (a : Int) + b := by go_arith
theorem sum_down {a b : Nat} {c : Int} (ha : a ≤ 1048576) (hb : b ≤ 1048576) (h0 : 0 ≤ c) (hc : c ≤ 1000000) : (wrap64 (wrap64 ((a : Int) + (b : Int)) + c) == 0) = (decide (a = 0) && decide (b = 0) && decide (c = 0)) := by
  have e : wrap64 (wrap64 ((a : Int) + (b : Int)) + c) = (a : Int) + b + c := by go_arith
  rw [e]
  by_cases h1 : a = 0 <;> by_cases h2 : b = 0 <;> by_cases h3 : c = 0 <;> simp [h1, h2, h3] <;> omega

set_option maxHeartbeats 40000000 in
set_option maxRecDepth 20000 in
theorem specValid (r : Rc) (p : RcP) (w : World) (hS : RcSmall r) (h : RcAt w r p) :
    Calls Try.prog 38 #[.agg (rcV r p)] w fun e w' => e = .returned (.bool (validB r)) ∧ Below w.heap.size w w' := by
  obtain ⟨aS, cS, aD, cD, aH, cH, aW, cW, aY, cY, aB, cB, aA, cA⟩ := p
  have hB : Below w.heap.size w (w.alloc (.cells (rcV r ⟨aS, cS, aD, cD, aH, cH, aW, cW, aY, cY, aB, cB, aA, cA⟩) 44)) := ext_alloc (Below.refl _ _) _
  have hR := h.ext hB
  have b0 := Blk.new w (rcV r ⟨aS, cS, aD, cD, aH, cH, aW, cW, aY, cY, aB, cB, aA, cA⟩) 44
  have HB0 := Below.refl (w.alloc (.cells (rcV r ⟨aS, cS, aD, cD, aH, cH, aW, cW, aY, cY, aB, cB, aA, cA⟩) 44)).heap.size (w.alloc (.cells (rcV r ⟨aS, cS, aD, cD, aH, cH, aW, cW, aY, cY, aB, cB, aA, cA⟩) 44))
  have HS : Hid (RcSmall r) := hS
  clear h hS
  go_enter Try.func38, Try.ntmps38
  go_wp2_with fail
  refine (l1In_any _ _ _ _).mono ?_
  rintro e w1 ⟨he, hw1⟩
  have hb1 := below_eq hw1
  clear hw1
  have HB1 := ext_trans HB0 hb1
  have cb1 := (b0.ext HB1).cell
  clear HB0 hb1
  by_cases g0a' : inB r.of_ 1 5 = false
  · rw [g0a'] at he
    subst he
    go_wp2_with fail
    go_ret
    exact ⟨by rw [nv_g0 (by rw [g0a', Bool.false_and])]; rfl, ext_trans hB HB1⟩
  have g0a : Hid (inB r.of_ 1 5 = true) := eq_true_of_ne_false g0a'
  clear g0a'
  rw [g0a.out] at he
  subst he
  go_wp2_with fail
  refine (l1In_any _ _ _ _).mono ?_
  rintro e w2 ⟨he, hw2⟩
  have hb2 := below_eq hw2
  clear hw2
  have HB2 := ext_trans HB1 hb2
  have cb2 := (b0.ext HB2).cell
  clear HB1 hb2 cb1
  by_cases g0b' : inB r.num 1 r.of_ = false
  · rw [g0b'] at he
    subst he
    go_wp2_with fail
    go_ret
    exact ⟨by rw [nv_g0 (by rw [g0b', Bool.and_false])]; rfl, ext_trans hB HB2⟩
  have g0b : Hid (inB r.num 1 r.of_ = true) := eq_true_of_ne_false g0b'
  clear g0b'
  rw [g0b.out] at he
  subst he
  go_wp2_with fail
  refine (specDiskOk_any r.sp r.sk aS r.ss _ cS _ rfl hR.lS (by exact (hR.ext HB2).hS)).mono ?_
  rintro e w3 ⟨he, hb3⟩
  have HB3 := ext_trans HB2 hb3
  have cb3 := (b0.ext HB3).cell
  clear HB2 hb3 cb2
  by_cases g1' : diskOkB r.sp r.sk r.ss = false
  · rw [g1'] at he
    subst he
    go_wp2_with fail
    go_ret
    exact ⟨by rw [nv_g1 g1']; rfl, ext_trans hB HB3⟩
  have g1 : Hid (diskOkB r.sp r.sk r.ss = true) := eq_true_of_ne_false g1'
  clear g1'
  rw [g1.out] at he
  subst he
  go_wp2_with fail
  refine (specDiskOk_any r.dp r.dk aD r.ds _ cD _ rfl hR.lD (by exact (hR.ext HB3).hD)).mono ?_
  rintro e w4 ⟨he, hb4⟩
  have HB4 := ext_trans HB3 hb4
  have cb4 := (b0.ext HB4).cell
  clear HB3 hb4 cb3
  by_cases g2' : diskOkB r.dp r.dk r.ds = false
  · rw [g2'] at he
    subst he
    go_wp2_with fail
    go_ret
    exact ⟨by rw [nv_g2 g2']; rfl, ext_trans hB HB4⟩
  have g2 : Hid (diskOkB r.dp r.dk r.ds = true) := eq_true_of_ne_false g2'
  clear g2'
  rw [g2.out] at he
  subst he
  by_cases hz : ¬ r.held.length ≤ 400
  · have HN : Hid (¬ r.held.length ≤ 400) := hz
    go_wp2_with fail
    go_ret
    exact ⟨by rw [nv_g3 (not_held_len rfl HN.out)]; rfl, ext_trans hB HB4⟩
  have hz4 : r.held.length ≤ 400 := Decidable.not_not.1 hz
  clear hz
  go_wp2_with fail
  refine (specWishesOk aW r.wish _ cW _ rfl hR.lW (by exact (hR.ext HB4).hW)).mono ?_
  rintro e w5 ⟨he, hb5⟩
  have HB5 := ext_trans HB4 hb5
  have cb5 := (b0.ext HB5).cell
  clear HB4 hb5 cb4
  by_cases g4' : wishesOkB r.wish = false
  · rw [g4'] at he
    subst he
    go_wp2_with fail
    go_ret
    exact ⟨by rw [nv_g4 g4']; rfl, ext_trans hB HB5⟩
  have g4 : Hid (wishesOkB r.wish = true) := eq_true_of_ne_false g4'
  clear g4'
  rw [g4.out] at he
  subst he
  go_wp2_with fail
  refine (l1In_any _ _ _ _).mono ?_
  rintro e w6 ⟨he, hw6⟩
  have hb6 := below_eq hw6
  clear hw6
  have HB6 := ext_trans HB5 hb6
  have cb6 := (b0.ext HB6).cell
  clear HB5 hb6 cb5
  by_cases g5' : inB r.heard 0 1000000 = false
  · rw [g5'] at he
    subst he
    go_wp2_with fail
    go_ret
    exact ⟨by rw [nv_g5 g5']; rfl, ext_trans hB HB6⟩
  have g5 : Hid (inB r.heard 0 1000000 = true) := eq_true_of_ne_false g5'
  clear g5'
  rw [g5.out] at he
  subst he
  go_wp2_with fail
  go_loopw [3] (fun i wr => ∃ (k : Nat), k ≤ r.held.length ∧ i = .int .i64 k ∧ (∀ (j : Nat) s, j < k → r.held[j]? = some s → holdB r.num r.of_ s = true) ∧ Below (w.alloc (.cells (rcV r ⟨aS, cS, aD, cD, aH, cH, aW, cW, aY, cY, aB, cB, aA, cA⟩) 44)).heap.size (w.alloc (.cells (rcV r ⟨aS, cS, aD, cD, aH, cH, aW, cW, aY, cY, aB, cB, aA, cA⟩) 44)) wr) (fun i _ => r.held.length - (intOf i).toNat)
  case atStart => exact ⟨0, Nat.zero_le _, rfl, fun j s hj => absurd hj (by omega), HB6⟩
  case round =>
    clear HB6 cb6
    obtain ⟨k, hk, rfl, hall0, hbel⟩ := hrel
    have hall : Hid (∀ (j : Nat) s, j < k → r.held[j]? = some s → holdB r.num r.of_ s = true) := hall0
    clear hall0
    by_cases hlt : k < r.held.length
    · obtain ⟨s, hs0⟩ : ∃ s, r.held[k]? = some s := ⟨_, List.getElem?_eq_getElem hlt⟩
      have hs : Hid (r.held[k]? = some s) := hs0
      have HBel : Hid (Below _ _ wr) := hbel
      have bk := b0.ext hbel
      have cb := bk.cell
      obtain ⟨b, off, sa, cp, ea, hb, c0, c1, c2, c3, c4, c5, c6, c7, q1, q2, q3⟩ := (hR.ext hbel).hH k s hs0
      clear hs0
      dsimp only at ea
      subst ea
      obtain ⟨⟨mk, mf, mt, mb, mi, mn, mx⟩, ml⟩ := s
      dsimp only at c0 c1 c2 c3 c4 c5 c6 c7 q1 q2 q3
      have KM : Hid (∀ w9, Below wr.heap.size wr w9 → w9.cell? ⟨b, off + k * 8, none⟩ = some (.int .i64 mk) ∧ w9.cell? ⟨b, off + k * 8 + 1, none⟩ = some (.int .i64 mf) ∧ w9.cell? ⟨b, off + k * 8 + 2, none⟩ = some (.int .i64 mt) ∧ w9.cell? ⟨b, off + k * 8 + 3, none⟩ = some (.int .i64 mb) ∧ w9.cell? ⟨b, off + k * 8 + 4, none⟩ = some (.int .i64 mi) ∧ w9.cell? ⟨b, off + k * 8 + 5, none⟩ = some (.int .i64 mn) ∧ w9.cell? ⟨b, off + k * 8 + 6, none⟩ = some (.string mx) ∧ w9.cell? ⟨b, off + k * 8 + 7, none⟩ = some (.slice sa ml.length cp)) := fun w9 h9 => ⟨(h9.cell (p := ⟨b, off + k * 8, none⟩) hb).trans c0, (h9.cell (p := ⟨b, off + k * 8 + 1, none⟩) hb).trans c1, (h9.cell (p := ⟨b, off + k * 8 + 2, none⟩) hb).trans c2, (h9.cell (p := ⟨b, off + k * 8 + 3, none⟩) hb).trans c3, (h9.cell (p := ⟨b, off + k * 8 + 4, none⟩) hb).trans c4, (h9.cell (p := ⟨b, off + k * 8 + 5, none⟩) hb).trans c5, (h9.cell (p := ⟨b, off + k * 8 + 6, none⟩) hb).trans c6, (h9.cell (p := ⟨b, off + k * 8 + 7, none⟩) hb).trans c7⟩
      have hK0 : RecS wr w.heap.size r ⟨aS, cS, aD, cD, some ⟨b, off, none⟩, cH, aW, cW, aY, cY, aB, cB, aA, cA⟩ wr := ⟨bk, Below.refl _ _⟩
      have HQ : Hid (ml.length ≤ maxLen ∧ mx.size ≤ maxLen ∧ SlotsAt wr sa ml) := ⟨q2, q1, q3⟩
      clear c0 c1 c2 c3 c4 c5 c6 c7 q1 q2 q3 bk hbel hR b0
      have e1 : (0 : Int) ≤ (k : Int) := by omega
      have e2 : (k : Int) < (r.held.length : Int) := by omega
      have HLT : Hid (k < r.held.length) := hlt
      go_wp2_with fail
      clear cb
      refine wp_region_held_drew (S := RecS wr w.heap.size r ⟨aS, cS, aD, cD, some ⟨b, off, none⟩, cH, aW, cW, aY, cY, aB, cB, aA, cA⟩) (by kernel_rfl) hK0.drew (fun hHeld => ?_)
      clear hK0
      simp only [List.size_toArray, List.length_cons, List.length_nil, Nat.reduceAdd, Array.replicate_succ, Array.replicate_zero, List.push_toArray, List.append_toArray, List.nil_append, List.cons_append]
      refine wpAnyH_take (i := 0) (v := ?_) (at_lit rfl) (by kernel_rfl) (by kernel_rfl) (by kernel_rfl) (fun _ _ _ h => h) (Or.inl ⟨by rfl, ?_⟩) hHeld ?_
      rotate_left
      · (intro w9 hSw; have hq := hSw.blk.cell; clear hSw; go_simp; try with_reducible rfl)
      try simp only [Act.put, List.setIfInBounds_toArray, List.set_cons_zero, List.set_cons_succ]
      refine wpAnyH_take (i := 1) (v := ?_) (at_lit rfl) (by kernel_rfl) (by kernel_rfl) (by kernel_rfl) (fun _ _ _ h => h) (Or.inl ⟨by rfl, ?_⟩) hHeld ?_
      rotate_left
      · (intro w9 hSw; have hq := hSw.blk.cell; clear hSw; go_simp; try with_reducible rfl)
      try simp only [Act.put, List.setIfInBounds_toArray, List.set_cons_zero, List.set_cons_succ]
      refine wpAnyH_take (i := 2) (v := ?_) (at_lit rfl) (by kernel_rfl) (by kernel_rfl) (by kernel_rfl) (fun _ _ _ h => h) (Or.inl ⟨by rfl, ?_⟩) hHeld ?_
      rotate_left
      · (intro w9 hSw; have hq := hSw.blk.cell; clear hSw; go_simp; try with_reducible rfl)
      try simp only [Act.put, List.setIfInBounds_toArray, List.set_cons_zero, List.set_cons_succ]
      refine wpAnyH_take (i := 3) (v := ?_) (at_lit rfl) (by kernel_rfl) (by kernel_rfl) (by kernel_rfl) (fun _ _ _ h => h) (Or.inl ⟨by rfl, ?_⟩) hHeld ?_
      rotate_left
      · (intro w9 hSw; have hq := hSw.blk.cell; clear hSw; go_simp; try with_reducible rfl)
      try simp only [Act.put, List.setIfInBounds_toArray, List.set_cons_zero, List.set_cons_succ]
      refine wpAnyH_take (i := 4) (v := ?_) (at_lit rfl) (by kernel_rfl) (by kernel_rfl) (by kernel_rfl) (fun _ _ _ h => h) (Or.inl ⟨by rfl, ?_⟩) hHeld ?_
      rotate_left
      · (intro w9 hSw; have hq := hSw.blk.cell; obtain ⟨d0, d1, d2, d3, d4, d5, d6, d7⟩ := KM.out w9 hSw.bel; clear hSw; go_simp; try with_reducible rfl)
      try simp only [Act.put, List.setIfInBounds_toArray, List.set_cons_zero, List.set_cons_succ]
      refine wpAnyH_take (i := 5) (v := ?_) (at_lit rfl) (by kernel_rfl) (by kernel_rfl) (by kernel_rfl) (fun _ _ _ h => h) (Or.inl ⟨by rfl, ?_⟩) hHeld ?_
      rotate_left
      · (intro w9 hSw; have hq := hSw.blk.cell; clear hSw; go_simp; try with_reducible rfl)
      try simp only [Act.put, List.setIfInBounds_toArray, List.set_cons_zero, List.set_cons_succ]
      refine wpAnyH_take (i := 6) (v := ?_) (at_lit rfl) (by kernel_rfl) (by kernel_rfl) (by kernel_rfl) (fun _ _ _ h => h) (Or.inl ⟨by rfl, ?_⟩) hHeld ?_
      rotate_left
      · (intro w9 hSw; have hq := hSw.blk.cell; clear hSw; go_simp; try with_reducible rfl)
      try simp only [Act.put, List.setIfInBounds_toArray, List.set_cons_zero, List.set_cons_succ]
      by_cases g : msgOkB ⟨mk, mf, mt, mb, mi, mn, mx⟩ r.of_ ml = false
      · skip
        refine wpAnyH_ready (rs := [7]) (by kernel_rfl) (by simp) ?_
        refine AllReadyH.cons (at_lit rfl) (fun K hK => ?_) AllReadyH.nil
        go_simp
        refine (specMsgOk ⟨mk, mf, mt, mb, mi, mn, mx⟩ _ sa ml _ cp _ rfl HQ.out.1 HQ.out.2.1 (by exact HQ.out.2.2.ext hHeld.bel)).mono ?_
        rintro e z1 ⟨he, hz1⟩
        rw [g] at he
        subst he
        go_wp2_with fail
        refine hK.out _ _ (hHeld.ext hz1) (fun hNew => ?_)
        clear hK K hHeld hz1
        have hHeld := hNew
        clear hNew
        try simp only [Act.put, List.setIfInBounds_toArray, List.set_cons_zero, List.set_cons_succ]
        refine wpAnyH_take (i := 8) (v := ?_) (at_lit rfl) (by kernel_rfl) (by kernel_rfl) (by kernel_rfl) (fun _ _ _ h => h) (Or.inl ⟨by rfl, ?_⟩) hHeld ?_
        rotate_left
        · (intro w9 hSw; have hq := hSw.blk.cell; clear hSw; go_simp; try with_reducible rfl)
        try simp only [Act.put, List.setIfInBounds_toArray, List.set_cons_zero, List.set_cons_succ]
        refine wpAnyH_take (i := 9) (v := ?_) (at_lit rfl) (by kernel_rfl) (by kernel_rfl) (by kernel_rfl) (fun _ _ _ h => h) (Or.inl ⟨by rfl, ?_⟩) hHeld ?_
        rotate_left
        · (intro w9 hSw; have hq := hSw.blk.cell; clear hSw; go_simp; try with_reducible rfl)
        try simp only [Act.put, List.setIfInBounds_toArray, List.set_cons_zero, List.set_cons_succ]
        refine wpAnyH_take (i := 10) (v := undef) (at_lit rfl) (by kernel_rfl) (by kernel_rfl) (by kernel_rfl) (fun _ _ _ h => h) (Or.inr ⟨by rfl, rfl⟩) hHeld ?_
        try simp only [Act.put, List.setIfInBounds_toArray, List.set_cons_zero, List.set_cons_succ]
        refine wpAnyH_take (i := 11) (v := undef) (at_lit rfl) (by kernel_rfl) (by kernel_rfl) (by kernel_rfl) (fun _ _ _ h => h) (Or.inr ⟨by rfl, rfl⟩) hHeld ?_
        try simp only [Act.put, List.setIfInBounds_toArray, List.set_cons_zero, List.set_cons_succ]
        refine wpAnyH_take (i := 12) (v := undef) (at_lit rfl) (by kernel_rfl) (by kernel_rfl) (by kernel_rfl) (fun _ _ _ h => h) (Or.inr ⟨by rfl, rfl⟩) hHeld ?_
        try simp only [Act.put, List.setIfInBounds_toArray, List.set_cons_zero, List.set_cons_succ]
        refine wpAnyH_take (i := 13) (v := undef) (at_lit rfl) (by kernel_rfl) (by kernel_rfl) (by kernel_rfl) (fun _ _ _ h => h) (Or.inr ⟨by rfl, rfl⟩) hHeld ?_
        try simp only [Act.put, List.setIfInBounds_toArray, List.set_cons_zero, List.set_cons_succ]
        refine wpAnyH_take (i := 14) (v := undef) (at_lit rfl) (by kernel_rfl) (by kernel_rfl) (by kernel_rfl) (fun _ _ _ h => h) (Or.inr ⟨by rfl, rfl⟩) hHeld ?_
        try simp only [Act.put, List.setIfInBounds_toArray, List.set_cons_zero, List.set_cons_succ]
        refine wpAnyH_take (i := 15) (v := undef) (at_lit rfl) (by kernel_rfl) (by kernel_rfl) (by kernel_rfl) (fun _ _ _ h => h) (Or.inr ⟨by rfl, rfl⟩) hHeld ?_
        try simp only [Act.put, List.setIfInBounds_toArray, List.set_cons_zero, List.set_cons_succ]
        refine wpAnyH_take (i := 16) (v := undef) (at_lit rfl) (by kernel_rfl) (by kernel_rfl) (by kernel_rfl) (fun _ _ _ h => h) (Or.inr ⟨by rfl, rfl⟩) hHeld ?_
        try simp only [Act.put, List.setIfInBounds_toArray, List.set_cons_zero, List.set_cons_succ]
        refine wpAnyH_take (i := 17) (v := undef) (at_lit rfl) (by kernel_rfl) (by kernel_rfl) (by kernel_rfl) (fun _ _ _ h => h) (Or.inr ⟨by rfl, rfl⟩) hHeld ?_
        try simp only [Act.put, List.setIfInBounds_toArray, List.set_cons_zero, List.set_cons_succ]
        refine wpAnyH_take (i := 18) (v := undef) (at_lit rfl) (by kernel_rfl) (by kernel_rfl) (by kernel_rfl) (fun _ _ _ h => h) (Or.inr ⟨by rfl, rfl⟩) hHeld ?_
        try simp only [Act.put, List.setIfInBounds_toArray, List.set_cons_zero, List.set_cons_succ]
        refine wpAnyH_take (i := 19) (v := ?_) (at_lit rfl) (by kernel_rfl) (by kernel_rfl) (by kernel_rfl) (fun _ _ _ h => h) (Or.inl ⟨by rfl, ?_⟩) hHeld ?_
        rotate_left
        · (intro w9 hSw; have hq := hSw.blk.cell; clear hSw; go_simp; try with_reducible rfl)
        try simp only [Act.put, List.setIfInBounds_toArray, List.set_cons_zero, List.set_cons_succ]
        refine wpAnyH_done (by kernel_rfl) ?_ _
        have HF := hHeld.bel
        clear hHeld
        go_wp2
        go_ret
        exact ⟨by rw [nv_g3 (not_held_of hs.out (by simp [holdB, g]))]; rfl, ext_trans hB (ext_trans HBel.out HF)⟩
      replace g := eq_true_of_ne_false g
      refine wpAnyH_ready (rs := [7]) (by kernel_rfl) (by simp) ?_
      refine AllReadyH.cons (at_lit rfl) (fun K hK => ?_) AllReadyH.nil
      go_simp
      refine (specMsgOk ⟨mk, mf, mt, mb, mi, mn, mx⟩ _ sa ml _ cp _ rfl HQ.out.1 HQ.out.2.1 (by exact HQ.out.2.2.ext hHeld.bel)).mono ?_
      rintro e z1 ⟨he, hz1⟩
      rw [g] at he
      subst he
      go_wp2_with fail
      refine hK.out _ _ (hHeld.ext hz1) (fun hNew => ?_)
      clear hK K hHeld hz1
      have hHeld := hNew
      clear hNew
      try simp only [Act.put, List.setIfInBounds_toArray, List.set_cons_zero, List.set_cons_succ]
      refine wpAnyH_take (i := 8) (v := ?_) (at_lit rfl) (by kernel_rfl) (by kernel_rfl) (by kernel_rfl) (fun _ _ _ h => h) (Or.inl ⟨by rfl, ?_⟩) hHeld ?_
      rotate_left
      · (intro w9 hSw; have hq := hSw.blk.cell; clear hSw; go_simp; try with_reducible rfl)
      try simp only [Act.put, List.setIfInBounds_toArray, List.set_cons_zero, List.set_cons_succ]
      refine wpAnyH_take (i := 9) (v := ?_) (at_lit rfl) (by kernel_rfl) (by kernel_rfl) (by kernel_rfl) (fun _ _ _ h => h) (Or.inl ⟨by rfl, ?_⟩) hHeld ?_
      rotate_left
      · (intro w9 hSw; have hq := hSw.blk.cell; clear hSw; go_simp; try with_reducible rfl)
      try simp only [Act.put, List.setIfInBounds_toArray, List.set_cons_zero, List.set_cons_succ]
      refine wpAnyH_take (i := 10) (v := ?_) (at_lit rfl) (by kernel_rfl) (by kernel_rfl) (by kernel_rfl) (fun _ _ _ h => h) (Or.inl ⟨by rfl, ?_⟩) hHeld ?_
      rotate_left
      · (intro w9 hSw; have hq := hSw.blk.cell; clear hSw; go_simp; try with_reducible rfl)
      try simp only [Act.put, List.setIfInBounds_toArray, List.set_cons_zero, List.set_cons_succ]
      refine wpAnyH_take (i := 11) (v := ?_) (at_lit rfl) (by kernel_rfl) (by kernel_rfl) (by kernel_rfl) (fun _ _ _ h => h) (Or.inl ⟨by rfl, ?_⟩) hHeld ?_
      rotate_left
      · (intro w9 hSw; have hq := hSw.blk.cell; clear hSw; go_simp; try with_reducible rfl)
      try simp only [Act.put, List.setIfInBounds_toArray, List.set_cons_zero, List.set_cons_succ]
      refine wpAnyH_take (i := 12) (v := ?_) (at_lit rfl) (by kernel_rfl) (by kernel_rfl) (by kernel_rfl) (fun _ _ _ h => h) (Or.inl ⟨by rfl, ?_⟩) hHeld ?_
      rotate_left
      · (intro w9 hSw; have hq := hSw.blk.cell; clear hSw; go_simp; try with_reducible rfl)
      try simp only [Act.put, List.setIfInBounds_toArray, List.set_cons_zero, List.set_cons_succ]
      refine wpAnyH_take (i := 13) (v := ?_) (at_lit rfl) (by kernel_rfl) (by kernel_rfl) (by kernel_rfl) (fun _ _ _ h => h) (Or.inl ⟨by rfl, ?_⟩) hHeld ?_
      rotate_left
      · (intro w9 hSw; have hq := hSw.blk.cell; clear hSw; go_simp; try with_reducible rfl)
      try simp only [Act.put, List.setIfInBounds_toArray, List.set_cons_zero, List.set_cons_succ]
      refine wpAnyH_take (i := 14) (v := ?_) (at_lit rfl) (by kernel_rfl) (by kernel_rfl) (by kernel_rfl) (fun _ _ _ h => h) (Or.inl ⟨by rfl, ?_⟩) hHeld ?_
      rotate_left
      · (intro w9 hSw; have hq := hSw.blk.cell; clear hSw; go_simp; try with_reducible rfl)
      try simp only [Act.put, List.setIfInBounds_toArray, List.set_cons_zero, List.set_cons_succ]
      refine wpAnyH_take (i := 15) (v := ?_) (at_lit rfl) (by kernel_rfl) (by kernel_rfl) (by kernel_rfl) (fun _ _ _ h => h) (Or.inl ⟨by rfl, ?_⟩) hHeld ?_
      rotate_left
      · (intro w9 hSw; have hq := hSw.blk.cell; obtain ⟨d0, d1, d2, d3, d4, d5, d6, d7⟩ := KM.out w9 hSw.bel; clear hSw; go_simp; try with_reducible rfl)
      try simp only [Act.put, List.setIfInBounds_toArray, List.set_cons_zero, List.set_cons_succ]
      refine wpAnyH_take (i := 16) (v := ?_) (at_lit rfl) (by kernel_rfl) (by kernel_rfl) (by kernel_rfl) (fun _ _ _ h => h) (Or.inl ⟨by rfl, ?_⟩) hHeld ?_
      rotate_left
      · (intro w9 hSw; have hq := hSw.blk.cell; clear hSw; go_simp; try with_reducible rfl)
      try simp only [Act.put, List.setIfInBounds_toArray, List.set_cons_zero, List.set_cons_succ]
      refine wpAnyH_take (i := 17) (v := ?_) (at_lit rfl) (by kernel_rfl) (by kernel_rfl) (by kernel_rfl) (fun _ _ _ h => h) (Or.inl ⟨by rfl, ?_⟩) hHeld ?_
      rotate_left
      · (intro w9 hSw; have hq := hSw.blk.cell; clear hSw; go_simp; try with_reducible rfl)
      try simp only [Act.put, List.setIfInBounds_toArray, List.set_cons_zero, List.set_cons_succ]
      by_cases hf : mf = r.num
      · subst hf
        refine wpAnyH_take (i := 18) (v := ?_) (at_lit rfl) (by kernel_rfl) (by kernel_rfl) (by kernel_rfl) (fun _ _ _ h => h) (Or.inl ⟨by rfl, ?_⟩) hHeld ?_
        rotate_left
        · (intro w9 hSw; have hq := hSw.blk.cell; clear hSw; go_simp; try with_reducible rfl)
        try simp only [Act.put, List.setIfInBounds_toArray, List.set_cons_zero, List.set_cons_succ]
        refine wpAnyH_take (i := 19) (v := ?_) (at_lit rfl) (by kernel_rfl) (by kernel_rfl) (by kernel_rfl) (fun _ _ _ h => h) (Or.inl ⟨by rfl, ?_⟩) hHeld ?_
        rotate_left
        · (intro w9 hSw; have hq := hSw.blk.cell; clear hSw; go_simp; try with_reducible rfl)
        try simp only [Act.put, List.setIfInBounds_toArray, List.set_cons_zero, List.set_cons_succ]
        refine wpAnyH_done (by kernel_rfl) ?_ _
        have HF := hHeld.bel
        clear hHeld
        go_wp2
        go_roundw
        case rel =>
          refine ⟨k + 1, HLT.out, by go_num, fun j t hj ht => ?_, ext_trans HBel.out HF⟩
          by_cases he : j = k
          · subst he; rw [hs.out] at ht; simp only [Option.some.injEq] at ht; rw [← ht]; simp [holdB, g]
          · exact hall.out j t (by omega) ht
        case measure => simp [intOf]; omega
      · skip
        refine wpAnyH_take (i := 18) (v := ?_) (at_lit rfl) (by kernel_rfl) (by kernel_rfl) (by kernel_rfl) (fun _ _ _ h => h) (Or.inl ⟨by rfl, ?_⟩) hHeld ?_
        rotate_left
        · (intro w9 hSw; have hq := hSw.blk.cell; clear hSw; go_simp; try with_reducible rfl)
        try simp only [Act.put, List.setIfInBounds_toArray, List.set_cons_zero, List.set_cons_succ]
        refine wpAnyH_take (i := 19) (v := ?_) (at_lit rfl) (by kernel_rfl) (by kernel_rfl) (by kernel_rfl) (fun _ _ _ h => h) (Or.inl ⟨by rfl, ?_⟩) hHeld ?_
        rotate_left
        · (intro w9 hSw; have hq := hSw.blk.cell; clear hSw; go_simp; try with_reducible rfl)
        try simp only [Act.put, List.setIfInBounds_toArray, List.set_cons_zero, List.set_cons_succ]
        refine wpAnyH_done (by kernel_rfl) ?_ _
        have HF := hHeld.bel
        clear hHeld
        go_wp2
        go_ret
        exact ⟨by rw [nv_g3 (not_held_of hs.out (by simp [holdB, hf]))]; rfl, ext_trans hB (ext_trans HBel.out HF)⟩
    · have HB7 := hbel
      have cb7 := (b0.ext HB7).cell
      clear hbel
      have g3 : Hid (heldOkB r.num r.of_ r.held = true) := held_of rfl hz4 (fun i s hi hs => hall.out i s (by omega) hs)
      clear hall
      go_wp2_with fail
      refine (specNumbers aY r.yes _ cY _ _ rfl hR.lY (by exact (hR.ext HB7).hY)).mono ?_
      rintro e w8 ⟨he, hw8⟩
      have hb8 := below_of_drewN hw8
      clear hw8
      have HB8 := ext_trans HB7 hb8
      have cb8 := (b0.ext HB8).cell
      clear HB7 hb8 cb7
      by_cases g6' : numsOkB r.of_ r.yes = false
      · rw [g6'] at he
        subst he
        go_wp2_with fail
        go_ret
        exact ⟨by rw [nv_g6 g6']; rfl, ext_trans hB HB8⟩
      have g6 : Hid (numsOkB r.of_ r.yes = true) := eq_true_of_ne_false g6'
      clear g6'
      rw [g6.out] at he
      subst he
      go_wp2_with fail
      refine (specSlotsOk aB r.best _ cB _ rfl hR.lB (by exact (hR.ext HB8).hB)).mono ?_
      rintro e w9 ⟨he, hw9⟩
      have hb9 := below_eq hw9
      clear hw9
      have HB9 := ext_trans HB8 hb9
      have cb9 := (b0.ext HB9).cell
      clear HB8 hb9 cb8
      by_cases g7' : slotsOkB r.best = false
      · rw [g7'] at he
        subst he
        go_wp2_with fail
        go_ret
        exact ⟨by rw [nv_g7 g7']; rfl, ext_trans hB HB9⟩
      have g7 : Hid (slotsOkB r.best = true) := eq_true_of_ne_false g7'
      clear g7'
      rw [g7.out] at he
      subst he
      go_wp2_with fail
      refine (specAcksOk aA r.acks _ cA _ _ rfl hR.lA (by exact (hR.ext HB9).hA)).mono ?_
      rintro e w10 ⟨he, hw10⟩
      have hb10 := below_of_drewN hw10
      clear hw10
      have HB10 := ext_trans HB9 hb10
      have cb10 := (b0.ext HB10).cell
      clear HB9 hb10 cb9
      by_cases g8' : acksOkB r.of_ r.acks = false
      · rw [g8'] at he
        subst he
        go_wp2_with fail
        go_ret
        exact ⟨by rw [nv_g8 g8']; rfl, ext_trans hB HB10⟩
      have g8 : Hid (acksOkB r.of_ r.acks = true) := eq_true_of_ne_false g8'
      clear g8'
      rw [g8.out] at he
      subst he
      have g0 : Hid ((inB r.of_ 1 5 && inB r.num 1 r.of_) = true) := by unfold Hid; rw [g0a.out, g0b.out]; rfl
      by_cases hl : r.lead = true
      · by_cases ht : r.tr = true
        · skip
          go_wp2_with fail
          go_ret
          exact ⟨by rw [nv_g9 (by simp [hl, ht])]; rfl, ext_trans hB HB10⟩
        · have HSM : Hid (wrap64 ((r.yes.length : Int) + (r.best.length : Int)) = (r.yes.length : Int) + r.best.length) := sum_two HS.out.lY HS.out.lB
          go_wp2_with fail
          refine (l1In_any _ _ _ _).mono ?_
          rintro e w11 ⟨he, hw11⟩
          have hb11 := below_eq hw11
          clear hw11
          have HB11 := ext_trans HB10 hb11
          have cb11 := (b0.ext HB11).cell
          clear HB10 hb11 cb10
          by_cases gb' : inB r.ball 1 r.dp = false
          · rw [gb'] at he
            subst he
            go_wp2_with fail
            go_ret
            exact ⟨by rw [nv_g10 (show roleB r = false by simp [roleB, leadB, hl, ht, gb'])]; rfl, ext_trans hB HB11⟩
          have gb : Hid (inB r.ball 1 r.dp = true) := eq_true_of_ne_false gb'
          clear gb'
          rw [gb.out] at he
          subst he
          have hsm := HSM.out
          by_cases hy0 : (0 : Int) < (r.yes.length : Int) + (r.best.length : Int)
          · have HY : Hid ((0 : Int) < (r.yes.length : Int) + (r.best.length : Int)) := hy0
            go_wp2_with fail
            go_ret
            exact ⟨by rw [nv_g10 (show roleB r = false by
              have h9 := HY.out
              have h8 : ¬ (r.yes.length = 0 ∧ r.best.length = 0) := by omega
              simp [roleB, leadB, hl, gb.out]
              simpa using h8)]; rfl, ext_trans hB HB11⟩
          · have HY : Hid (roleB r = true) := by
              have h8 : r.yes.length = 0 := by omega
              have h7 : r.best.length = 0 := by omega
              unfold Hid
              simp [roleB, leadB, hl, gb.out, h8, h7]
            have HV : Hid (validB r = (r.up || downB r)) := valid_last g0.out g1.out g2.out g3.out g4.out g5.out g6.out g7.out g8.out (by simp [hl, ht]) HY.out
            by_cases hu : r.up = true
            · skip
              go_wp2_with fail
              go_ret
              exact ⟨by rw [HV.out, hu]; rfl, ext_trans hB HB11⟩
            · skip
              go_wp2_with ((with_reducible refine wpList_load_rec_g w.heap.size (rcV r ⟨aS, cS, aD, cD, aH, cH, aW, cW, aY, cY, aB, cB, aA, cA⟩) rfl ?_ ?_ ?_ ?_); (· rfl); (· rfl); (· exact b0.ext HB11))
              refine (l2Quiet_any r ⟨aS, cS, aD, cD, aH, cH, aW, cW, aY, cY, aB, cB, aA, cA⟩ _ HS.out).mono ?_
              rintro e w12 ⟨he, hb12⟩
              have HB12 := ext_trans HB11 hb12
              have cb12 := (b0.ext HB12).cell
              clear HB11 hb12 cb11
              rw [show quietB r = false by simp [quietB, hl, ht]] at he
              subst he
              go_wp2_with fail
              go_ret
              exact ⟨by rw [HV.out, eq_false_of_ne_true hu, show downB r = false by simp [downB, hl, ht]]; rfl, ext_trans hB HB12⟩
      · by_cases ht : r.tr = true
        · skip
          go_wp2_with fail
          refine (l1In_any _ _ _ _).mono ?_
          rintro e w11 ⟨he, hw11⟩
          have hb11 := below_eq hw11
          clear hw11
          have HB11 := ext_trans HB10 hb11
          have cb11 := (b0.ext HB11).cell
          clear HB10 hb11 cb10
          by_cases gb' : inB r.ball 1 r.dp = false
          · rw [gb'] at he
            subst he
            go_wp2_with fail
            go_ret
            exact ⟨by rw [nv_g10 (show roleB r = false by simp [roleB, tryB, hl, ht, gb'])]; rfl, ext_trans hB HB11⟩
          have gb : Hid (inB r.ball 1 r.dp = true) := eq_true_of_ne_false gb'
          clear gb'
          rw [gb.out] at he
          subst he
          by_cases hy0 : r.acks.length = 0
          · have HV : Hid (validB r = (r.up || downB r)) := valid_last g0.out g1.out g2.out g3.out g4.out g5.out g6.out g7.out g8.out (by simp [hl, ht]) (show roleB r = true by simp [roleB, tryB, hl, ht, gb.out, hy0])
            by_cases hu : r.up = true
            · skip
              go_wp2_with fail
              go_ret
              exact ⟨by rw [HV.out, hu]; rfl, ext_trans hB HB11⟩
            · skip
              go_wp2_with ((with_reducible refine wpList_load_rec_g w.heap.size (rcV r ⟨aS, cS, aD, cD, aH, cH, aW, cW, aY, cY, aB, cB, aA, cA⟩) rfl ?_ ?_ ?_ ?_); (· rfl); (· rfl); (· exact b0.ext HB11))
              refine (l2Quiet_any r ⟨aS, cS, aD, cD, aH, cH, aW, cW, aY, cY, aB, cB, aA, cA⟩ _ HS.out).mono ?_
              rintro e w12 ⟨he, hb12⟩
              have HB12 := ext_trans HB11 hb12
              have cb12 := (b0.ext HB12).cell
              clear HB11 hb12 cb11
              rw [show quietB r = false by simp [quietB, hl, ht]] at he
              subst he
              go_wp2_with fail
              go_ret
              exact ⟨by rw [HV.out, eq_false_of_ne_true hu, show downB r = false by simp [downB, hl, ht]]; rfl, ext_trans hB HB12⟩
          · have HY : Hid (¬ r.acks.length = 0) := hy0
            have hy1 : (0 : Int) < (r.acks.length : Int) := by omega
            go_wp2_with fail
            go_ret
            exact ⟨by rw [nv_g10 (show roleB r = false by simpa [roleB, tryB, hl, ht] using fun _ => HY.out)]; rfl, ext_trans hB HB11⟩
        · skip
          go_wp2_with ((with_reducible refine wpList_load_rec_g w.heap.size (rcV r ⟨aS, cS, aD, cD, aH, cH, aW, cW, aY, cY, aB, cB, aA, cA⟩) rfl ?_ ?_ ?_ ?_); (· rfl); (· rfl); (· exact b0.ext HB10))
          refine (l2Quiet_any r ⟨aS, cS, aD, cD, aH, cH, aW, cW, aY, cY, aB, cB, aA, cA⟩ _ HS.out).mono ?_
          rintro e w11 ⟨he, hb11⟩
          have HB11 := ext_trans HB10 hb11
          have cb11 := (b0.ext HB11).cell
          clear HB10 hb11 cb10
          have hqc : quietB r = calmB r := by simp [quietB, calmB, hl, ht]
          rw [hqc] at he
          by_cases gc' : calmB r = false
          · rw [gc'] at he
            subst he
            go_wp2_with fail
            go_ret
            exact ⟨by rw [nv_g10 (show roleB r = false by simp [roleB, hl, ht, gc'])]; rfl, ext_trans hB HB11⟩
          have gc : Hid (calmB r = true) := eq_true_of_ne_false gc'
          clear gc'
          rw [gc.out] at he
          subst he
          have HV : Hid (validB r = (r.up || downB r)) := valid_last g0.out g1.out g2.out g3.out g4.out g5.out g6.out g7.out g8.out (by simp [hl, ht]) (show roleB r = true by simp [roleB, hl, ht, gc.out])
          have HD : Hid ((wrap64 (wrap64 ((r.held.length : Int) + (r.wish.length : Int)) + r.heard) == 0) = (decide (r.held.length = 0) && decide (r.wish.length = 0) && decide (r.heard = 0))) := by
            have h9 := inB_iff.1 g5.out
            exact sum_down HS.out.lH HS.out.lW (by omega) (by omega)
          have HQC : Hid (quietB r = true) := by unfold Hid; rw [hqc]; exact gc.out
          clear hqc
          by_cases hu : r.up = true
          · skip
            go_wp2_with fail
            go_ret
            exact ⟨by rw [HV.out, hu]; rfl, ext_trans hB HB11⟩
          · skip
            go_wp2_with ((with_reducible refine wpList_load_rec_g w.heap.size (rcV r ⟨aS, cS, aD, cD, aH, cH, aW, cW, aY, cY, aB, cB, aA, cA⟩) rfl ?_ ?_ ?_ ?_); (· rfl); (· rfl); (· exact b0.ext HB11))
            refine (l2Quiet_any r ⟨aS, cS, aD, cD, aH, cH, aW, cW, aY, cY, aB, cB, aA, cA⟩ _ HS.out).mono ?_
            rintro e w12 ⟨he, hb12⟩
            have HB12 := ext_trans HB11 hb12
            have cb12 := (b0.ext HB12).cell
            clear HB11 hb12 cb11
            rw [show quietB r = true by exact HQC.out] at he
            subst he
            go_wp2_with fail
            go_ret
            refine ⟨?_, ext_trans hB HB12⟩
            rw [HV.out, eq_false_of_ne_true hu, Bool.false_or]
            rw [HD.out]
            simp [downB, hl, ht]
end Go.Proofs.Ytafolmhpdgpmaaa

/-
  impl.RecWish, spec.RecWish.
-/
namespace Go.Proofs.Ytafolmhpdgpmaaa
open Go.ChangeShapes Go.WideShapes Go.ChangeAt Go.RowKit
set_option linter.unusedVariables false
set_option linter.unusedSimpArgs false

def recWish (r : Rc) (t : ByteArray) : Rc := if validB r = true then (if r.up = true then wishR r t else r) else rc0
theorem recWish_no {r : Rc} {t : ByteArray} (h : validB r = false) : recWish r t = rc0 := by simp [recWish, h]
theorem recWish_down {r : Rc} {t : ByteArray} (h : validB r = true) (hu : r.up = false) : recWish r t = r := by simp [recWish, h, hu]
theorem recWish_up {r : Rc} {t : ByteArray} (h : validB r = true) (hu : r.up = true) : recWish r t = wishR r t := by simp [recWish, h, hu]
theorem wish_small {r : Rc} {t : ByteArray} (h : RcSmall r) : RcSmall (wishR r t) := by
  unfold wishR
  split
  · rename_i hb
    refine ⟨h.lS, h.lD, h.lH, ?_, h.lY, h.lB, h.lA, h.nH, h.nA⟩
    simp only [wishB, Bool.and_eq_true, decide_eq_true_eq] at hb
    have := hb.1.1.2
    simp only [List.length_append, List.length_cons, List.length_nil]
    omega
  · exact h

set_option maxHeartbeats 16000000 in
set_option maxRecDepth 20000 in
theorem implRecWish (B : Nat) (r : Rc) (p : RcP) (X : RcX) (col : Nat → Nat) (t : ByteArray) (w : World) (hS : RcSmall r) (ht : t.size ≤ 1048576) (h : RcHas B w r p X col) :
    Calls Try.prog 17 #[.agg (rcV r p), .string t] w (APost w (recWish r t)) := by
  have RD := hid h
  have HS := hid hS
  clear h hS
  obtain ⟨V, hV⟩ : ∃ V, V = (w.alloc (.cells (rcV r p) 44)).alloc (.cells #[.int .i64 0, .int .i64 0, .bool false, .int .i64 0, .int .i64 0, .slice none 0 0, .int .i64 0, .int .i64 0, .slice none 0 0, .slice none 0 0, .slice none 0 0, .bool false, .bool false, .int .i64 0, .slice none 0 0, .slice none 0 0, .slice none 0 0, .int .i64 0] 44) := ⟨_, rfl⟩
  have BV := hid (show Below w.heap.size w V by rw [hV]; exact ext_alloc (ext_alloc (Below.refl _ _) _) _)
  have K1 := hid (show Blk V w.heap.size (rcV r p) 44 by rw [hV]; exact (Blk.new _ _ _).alloc _)
  have K2 := hid (show Blk V (w.heap.size + 1) #[.int .i64 0, .int .i64 0, .bool false, .int .i64 0, .int .i64 0, .slice none 0 0, .int .i64 0, .int .i64 0, .slice none 0 0, .slice none 0 0, .slice none 0 0, .bool false, .bool false, .int .i64 0, .slice none 0 0, .slice none 0 0, .slice none 0 0, .int .i64 0] 44 by rw [hV]; exact Blk.new' _ _ (by simp))
  have SZ := hid (show w.heap.size + 1 < V.heap.size from K2.out.lt)
  have k1 := K1.out
  rw [hV] at k1
  go_enter Try.func17, Try.ntmps17
  go_wp2_with ((with_reducible refine wpList_load_rec w.heap.size (rcV r p) rfl ?_ ?_ ?_); (· rfl); (· exact k1))
  rw [← hV]
  clear hV k1
  refine (implValid r p _ (hid RD.out.t.len.2) (RD.out.ext BV.out).at).mono ?_
  rintro e w1 ⟨rfl, hb1⟩
  have B1 := hid (ext_trans BV.out hb1)
  have k1 := K1.out.ext hb1
  have k2 := K2.out.ext hb1
  have K2b := hid k2
  have SZ1 := hid (show w.heap.size + 1 < w1.heap.size from k2.lt)
  clear hb1 K1 K2 BV SZ
  cases hv : validB r
  case false =>
    have HN := hid (recWish_no (t := t) hv)
    go_wp2_with (first
      | ((with_reducible refine wpList_build_to (ty := 44) #[.int .i64 0, .int .i64 0, .bool false, .int .i64 0, .int .i64 0, .slice none 0 0, .int .i64 0, .int .i64 0, .slice none 0 0, .slice none 0 0, .slice none 0 0, .bool false, .bool false, .int .i64 0, .slice none 0 0, .slice none 0 0, .slice none 0 0, .int .i64 0] ?_ ?_); (· kernel_rfl))
      | ((with_reducible refine wpList_store_rec_at (w.heap.size + 1) #[.int .i64 0, .int .i64 0, .bool false, .int .i64 0, .int .i64 0, .slice none 0 0, .int .i64 0, .int .i64 0, .slice none 0 0, .slice none 0 0, .slice none 0 0, .bool false, .bool false, .int .i64 0, .slice none 0 0, .slice none 0 0, .slice none 0 0, .int .i64 0] #[.int .i64 0, .int .i64 0, .bool false, .int .i64 0, .int .i64 0, .slice none 0 0, .int .i64 0, .int .i64 0, .slice none 0 0, .slice none 0 0, .slice none 0 0, .bool false, .bool false, .int .i64 0, .slice none 0 0, .slice none 0 0, .slice none 0 0, .int .i64 0] rfl rfl ?_ ?_ ?_ ?_ ?_); (· rfl); (· rfl); (· exact k2); (· simp [Value.oneCell'])))
    have hz := setRow_heap _ (w.heap.size + 1) _ #[.int .i64 0, .int .i64 0, .bool false, .int .i64 0, .int .i64 0, .slice none 0 0, .int .i64 0, .int .i64 0, .slice none 0 0, .slice none 0 0, .slice none 0 0, .bool false, .bool false, .int .i64 0, .slice none 0 0, .slice none 0 0, .slice none 0 0, .int .i64 0] _ _ k2
    refine ret_cell (ty := 44) Try.results17 (w.heap.size + 1) #[.int .i64 0, .int .i64 0, .bool false, .int .i64 0, .int .i64 0, .slice none 0 0, .int .i64 0, .int .i64 0, .slice none 0 0, .slice none 0 0, .slice none 0 0, .bool false, .bool false, .int .i64 0, .slice none 0 0, .slice none 0 0, .slice none 0 0, .int .i64 0] _ ?_ ?_ hz Try.underlying44 rfl (by kernel_rfl) ?_
    · rfl
    · rfl
    rw [HN.out]
    exact ⟨rp0, ⟨[], []⟩, fun _ => 0, rfl, rc0_has _ _ _, below_setRow' B1.out (by omega) _⟩
  go_wp2_with ((with_reducible refine wpList_load_rec w.heap.size (rcV r p) rfl ?_ ?_ ?_); (· rfl); (· exact k1))
  refine (copyRec B r p X col _ HS.out (RD.out.ext B1.out)).mono ?_
  rintro e w2 ⟨p2, X2, col2, rfl, has2, hb2⟩
  have HAS := hid has2.fresh
  have B2 := hid (ext_trans B1.out hb2)
  have K2c := hid (K2b.out.ext hb2)
  have SZ2 := hid hb2.size
  clear has2 hb2 k1 k2 K2b
  obtain ⟨W, hW⟩ : ∃ W, W = w2.alloc (.cells (rcV r p2) 44) := ⟨_, rfl⟩
  have EW := hid (show Below w2.heap.size w2 W by rw [hW]; exact ext_alloc (Below.refl _ _) _)
  have K5 := hid (show Blk W w2.heap.size (rcV r p2) 44 by rw [hW]; exact Blk.new _ _ _)
  have K2d := hid (K2c.out.ext EW.out)
  have k5 := K5.out
  have k2 := K2d.out
  rw [hW] at k5 k2
  have c2 := k5.cell 2
  cases hu : r.up
  case false =>
    have HN := hid (recWish_down (t := t) hv hu)
    have c2' : (w2.alloc (.cells (rcV r p2) 44)).cell? ⟨w2.heap.size, 2, none⟩ = some (.bool false) := by rw [c2]; simp [hu]
    clear c2
    have HU := hid hu
    clear hu
    go_wp2_with (first
      | ((with_reducible refine wpList_store_rec (rcV r p2) rfl ?_ ?_ ?_ ?_ ?_); (· rfl); (· rfl); (· rfl); (· simp [Value.oneCell']))
      | ((with_reducible refine wpList_load_rec w2.heap.size (rcV r p2) rfl ?_ ?_ ?_); (· rfl); (· exact k5))
      | ((with_reducible refine wpList_store_rec_at (w.heap.size + 1) #[.int .i64 0, .int .i64 0, .bool false, .int .i64 0, .int .i64 0, .slice none 0 0, .int .i64 0, .int .i64 0, .slice none 0 0, .slice none 0 0, .slice none 0 0, .bool false, .bool false, .int .i64 0, .slice none 0 0, .slice none 0 0, .slice none 0 0, .int .i64 0] (rcV r p2) rfl rfl ?_ ?_ ?_ ?_ ?_); (· rfl); (· rfl); (· exact k2); (· simp [Value.oneCell'])))
    have hz := setRow_heap _ (w.heap.size + 1) _ (rcV r p2) _ _ k2
    refine ret_cell (ty := 44) Try.results17 (w.heap.size + 1) (rcV r p2) _ ?_ ?_ hz Try.underlying44 rfl (by kernel_rfl) ?_
    · rfl
    · rfl
    rw [HN.out]
    exact ⟨p2, X2, _, rfl, (((HAS.out.ext (ext_alloc (Below.refl _ _) _)).far (by have := SZ1.out; omega) _).low (by have := SZ1.out; omega)), below_setRow' (ext_alloc B2.out _) (by omega) _⟩
  have HN := hid (recWish_up (t := t) hv hu)
  have c2' : (w2.alloc (.cells (rcV r p2) 44)).cell? ⟨w2.heap.size, 2, none⟩ = some (.bool true) := by rw [c2]; simp [hu]
  clear c2
  have HU := hid hu
  clear hu
  go_wp2_with ((with_reducible refine wpList_store_rec (rcV r p2) rfl ?_ ?_ ?_ ?_ ?_); (· rfl); (· rfl); (· rfl); (· simp [Value.oneCell']))
  rw [← hW]
  clear hW c2' k5 k2
  refine (implWish0 w1.heap.size w2.heap.size r p2 X2 _ t _ SZ2.out K5.out (by rw [colF_new (Nat.le_refl _)]; omega) hv ht (HAS.out.ext EW.out)).mono ?_
  rintro e w3 ⟨⟨v3, rfl⟩, p3, col3, k3, has3, _, hb3⟩
  have H3 := hid has3
  have B3 := hid (show Below w.heap.size w w3 from (ext_trans B2.out EW.out).trans (hb3.mono (by have := SZ1.out; omega)))
  have k2 := K2d.out.below hb3 SZ1.out
  clear has3 hb3
  go_wp2_with (first
    | ((with_reducible refine wpList_load_rec w2.heap.size (rcV (wishR r t) p3) rfl ?_ ?_ ?_); (· rfl); (· exact k3))
    | ((with_reducible refine wpList_store_rec_at (w.heap.size + 1) #[.int .i64 0, .int .i64 0, .bool false, .int .i64 0, .int .i64 0, .slice none 0 0, .int .i64 0, .int .i64 0, .slice none 0 0, .slice none 0 0, .slice none 0 0, .bool false, .bool false, .int .i64 0, .slice none 0 0, .slice none 0 0, .slice none 0 0, .int .i64 0] (rcV (wishR r t) p3) rfl rfl ?_ ?_ ?_ ?_ ?_); (· rfl); (· rfl); (· exact k2); (· simp [Value.oneCell'])))
  have hz := setRow_heap _ (w.heap.size + 1) _ (rcV (wishR r t) p3) _ _ k2
  refine ret_cell (ty := 44) Try.results17 (w.heap.size + 1) (rcV (wishR r t) p3) _ ?_ ?_ hz Try.underlying44 rfl (by kernel_rfl) ?_
  · rfl
  · rfl
  rw [HN.out]
  exact ⟨p3, X2, _, rfl, (H3.out.far SZ1.out _).low (by have := SZ1.out; omega), below_setRow' B3.out (by omega) _⟩

set_option maxHeartbeats 16000000 in
set_option maxRecDepth 20000 in
theorem specRecWish (B : Nat) (r : Rc) (p : RcP) (X : RcX) (col : Nat → Nat) (t : ByteArray) (w : World) (hS : RcSmall r) (ht : t.size ≤ 1048576) (h : RcHas B w r p X col) :
    Calls Try.prog 15 #[.agg (rcV r p), .string t] w (APost w (recWish r t)) := by
  have RD := hid h
  have HS := hid hS
  clear h hS
  obtain ⟨V, hV⟩ : ∃ V, V = (w.alloc (.cells (rcV r p) 44)).alloc (.cells #[.int .i64 0, .int .i64 0, .bool false, .int .i64 0, .int .i64 0, .slice none 0 0, .int .i64 0, .int .i64 0, .slice none 0 0, .slice none 0 0, .slice none 0 0, .bool false, .bool false, .int .i64 0, .slice none 0 0, .slice none 0 0, .slice none 0 0, .int .i64 0] 44) := ⟨_, rfl⟩
  have BV := hid (show Below w.heap.size w V by rw [hV]; exact ext_alloc (ext_alloc (Below.refl _ _) _) _)
  have K1 := hid (show Blk V w.heap.size (rcV r p) 44 by rw [hV]; exact (Blk.new _ _ _).alloc _)
  have K2 := hid (show Blk V (w.heap.size + 1) #[.int .i64 0, .int .i64 0, .bool false, .int .i64 0, .int .i64 0, .slice none 0 0, .int .i64 0, .int .i64 0, .slice none 0 0, .slice none 0 0, .slice none 0 0, .bool false, .bool false, .int .i64 0, .slice none 0 0, .slice none 0 0, .slice none 0 0, .int .i64 0] 44 by rw [hV]; exact Blk.new' _ _ (by simp))
  have SZ := hid (show w.heap.size + 1 < V.heap.size from K2.out.lt)
  have k1 := K1.out
  rw [hV] at k1
  go_enter Try.func15, Try.ntmps15
  go_wp2_with ((with_reducible refine wpList_load_rec w.heap.size (rcV r p) rfl ?_ ?_ ?_); (· rfl); (· exact k1))
  rw [← hV]
  clear hV k1
  refine (specValid r p _ HS.out (RD.out.ext BV.out).at).mono ?_
  rintro e w1 ⟨rfl, hb1⟩
  have B1 := hid (ext_trans BV.out hb1)
  have k1 := K1.out.ext hb1
  have k2 := K2.out.ext hb1
  have K2b := hid k2
  have SZ1 := hid (show w.heap.size + 1 < w1.heap.size from k2.lt)
  clear hb1 K1 K2 BV SZ
  cases hv : validB r
  case false =>
    have HN := hid (recWish_no (t := t) hv)
    go_wp2_with (first
      | ((with_reducible refine wpList_build_to (ty := 44) #[.int .i64 0, .int .i64 0, .bool false, .int .i64 0, .int .i64 0, .slice none 0 0, .int .i64 0, .int .i64 0, .slice none 0 0, .slice none 0 0, .slice none 0 0, .bool false, .bool false, .int .i64 0, .slice none 0 0, .slice none 0 0, .slice none 0 0, .int .i64 0] ?_ ?_); (· kernel_rfl))
      | ((with_reducible refine wpList_store_rec_at (w.heap.size + 1) #[.int .i64 0, .int .i64 0, .bool false, .int .i64 0, .int .i64 0, .slice none 0 0, .int .i64 0, .int .i64 0, .slice none 0 0, .slice none 0 0, .slice none 0 0, .bool false, .bool false, .int .i64 0, .slice none 0 0, .slice none 0 0, .slice none 0 0, .int .i64 0] #[.int .i64 0, .int .i64 0, .bool false, .int .i64 0, .int .i64 0, .slice none 0 0, .int .i64 0, .int .i64 0, .slice none 0 0, .slice none 0 0, .slice none 0 0, .bool false, .bool false, .int .i64 0, .slice none 0 0, .slice none 0 0, .slice none 0 0, .int .i64 0] rfl rfl ?_ ?_ ?_ ?_ ?_); (· rfl); (· rfl); (· exact k2); (· simp [Value.oneCell'])))
    have hz := setRow_heap _ (w.heap.size + 1) _ #[.int .i64 0, .int .i64 0, .bool false, .int .i64 0, .int .i64 0, .slice none 0 0, .int .i64 0, .int .i64 0, .slice none 0 0, .slice none 0 0, .slice none 0 0, .bool false, .bool false, .int .i64 0, .slice none 0 0, .slice none 0 0, .slice none 0 0, .int .i64 0] _ _ k2
    refine ret_cell (ty := 44) Try.results15 (w.heap.size + 1) #[.int .i64 0, .int .i64 0, .bool false, .int .i64 0, .int .i64 0, .slice none 0 0, .int .i64 0, .int .i64 0, .slice none 0 0, .slice none 0 0, .slice none 0 0, .bool false, .bool false, .int .i64 0, .slice none 0 0, .slice none 0 0, .slice none 0 0, .int .i64 0] _ ?_ ?_ hz Try.underlying44 rfl (by kernel_rfl) ?_
    · rfl
    · rfl
    rw [HN.out]
    exact ⟨rp0, ⟨[], []⟩, fun _ => 0, rfl, rc0_has _ _ _, below_setRow' B1.out (by omega) _⟩
  have c2 := k1.cell 2
  cases hu : r.up
  case false =>
    have HN := hid (recWish_down (t := t) hv hu)
    have c2' : w1.cell? ⟨w.heap.size, 2, none⟩ = some (.bool false) := by rw [c2]; simp [hu]
    clear c2
    have HU := hid hu
    clear hu
    go_wp2_with ((with_reducible refine wpList_load_rec w.heap.size (rcV r p) rfl ?_ ?_ ?_); (· rfl); (· exact k1))
    refine (specCopy B r p X col _ HS.out (RD.out.ext B1.out)).mono ?_
    rintro e w2 ⟨p2, X2, col2, rfl, has2, hb2⟩
    have HAS := hid has2
    have B2 := hid (ext_trans B1.out hb2)
    have k2 := K2b.out.ext hb2
    clear has2 hb2 k1 c2'
    go_wp2_with ((with_reducible refine wpList_store_rec_at (w.heap.size + 1) #[.int .i64 0, .int .i64 0, .bool false, .int .i64 0, .int .i64 0, .slice none 0 0, .int .i64 0, .int .i64 0, .slice none 0 0, .slice none 0 0, .slice none 0 0, .bool false, .bool false, .int .i64 0, .slice none 0 0, .slice none 0 0, .slice none 0 0, .int .i64 0] (rcV r p2) rfl rfl ?_ ?_ ?_ ?_ ?_); (· rfl); (· rfl); (· exact k2); (· simp [Value.oneCell']))
    have hz := setRow_heap _ (w.heap.size + 1) _ (rcV r p2) _ _ k2
    refine ret_cell (ty := 44) Try.results15 (w.heap.size + 1) (rcV r p2) _ ?_ ?_ hz Try.underlying44 rfl (by kernel_rfl) ?_
    · rfl
    · rfl
    rw [HN.out]
    exact ⟨p2, X2, _, rfl, (HAS.out.far SZ1.out _).low (by have := SZ1.out; omega), below_setRow' B2.out (by omega) _⟩
  have HN := hid (recWish_up (t := t) hv hu)
  have c2' : w1.cell? ⟨w.heap.size, 2, none⟩ = some (.bool true) := by rw [c2]; simp [hu]
  clear c2
  have HU := hid hu
  clear hu
  go_wp2_with ((with_reducible refine wpList_load_rec w.heap.size (rcV r p) rfl ?_ ?_ ?_); (· rfl); (· exact k1))
  refine (specCopy B r p X col _ HS.out (RD.out.ext B1.out)).mono ?_
  rintro e w2 ⟨p2, X2, col2, rfl, has2, hb2⟩
  have HAS := hid has2
  have B2 := hid (ext_trans B1.out hb2)
  have K2c := hid (K2b.out.ext hb2)
  have SZ2 := hid hb2.size
  clear has2 hb2 k1 k2 K2b c2'
  go_wp2_with fail
  refine (specWish0 w1.heap.size r p2 X2 _ t _ SZ2.out (valid_knows hv).1 (valid_knows hv).2.1 HS.out.lW ht HAS.out).mono ?_
  rintro e w3 ⟨p3, col3, rfl, has3, hb3⟩
  have H3 := hid has3
  have B3 := hid (show Below w.heap.size w w3 from B2.out.trans (hb3.mono (by have := SZ1.out; omega)))
  have K2d := hid (K2c.out.below hb3 SZ1.out)
  have SZ3 := hid (show w1.heap.size ≤ w3.heap.size from Nat.le_trans SZ2.out hb3.size)
  clear has3 hb3 K2c
  go_wp2_with fail
  refine (specCopy w1.heap.size (wishR r t) p3 X2 col3 _ (wish_small HS.out) H3.out).mono ?_
  rintro e w4 ⟨p4, X4, col4, rfl, has4, hb4⟩
  have H4 := hid has4
  have B4 := hid (ext_trans B3.out hb4)
  have k2 := K2d.out.ext hb4
  clear has4 hb4
  go_wp2_with ((with_reducible refine wpList_store_rec_at (w.heap.size + 1) #[.int .i64 0, .int .i64 0, .bool false, .int .i64 0, .int .i64 0, .slice none 0 0, .int .i64 0, .int .i64 0, .slice none 0 0, .slice none 0 0, .slice none 0 0, .bool false, .bool false, .int .i64 0, .slice none 0 0, .slice none 0 0, .slice none 0 0, .int .i64 0] (rcV (wishR r t) p4) rfl rfl ?_ ?_ ?_ ?_ ?_); (· rfl); (· rfl); (· exact k2); (· simp [Value.oneCell']))
  have hz := setRow_heap _ (w.heap.size + 1) _ (rcV (wishR r t) p4) _ _ k2
  refine ret_cell (ty := 44) Try.results15 (w.heap.size + 1) (rcV (wishR r t) p4) _ ?_ ?_ hz Try.underlying44 rfl (by kernel_rfl) ?_
  · rfl
  · rfl
  rw [HN.out]
  exact ⟨p4, X4, _, rfl, (H4.out.far (by have := SZ1.out; have := SZ3.out; omega) _).low (by have := SZ1.out; have := SZ3.out; omega), below_setRow' B4.out (by omega) _⟩
end Go.Proofs.Ytafolmhpdgpmaaa

/-
  What toRecorder gives: every list in blocks of its own.
-/
namespace Go.Proofs.Ytafolmhpdgpmaaa
open Go.ChangeShapes Go.WideShapes Go.ChangeAt Go.RowKit
set_option linter.unusedVariables false
set_option linter.unusedSimpArgs false

theorem own_row {w : World} {B g k n : Nat} {e : TypeId} {C : Array Value} {xs : List Value} (h : Blk w g C e) (hC : C.toList = xs) (hl : xs.length = n * k) (hB : B ≤ g) (hn : n ≤ maxLen) : w.ownsRow B e k (.slice (some ⟨g, 0, none⟩) n n) n xs :=
  ⟨hl, .inr ⟨g, n, C, rfl, hB, h, Nat.le_refl _, hn, by rw [← hl, ← hC, Array.length_toList], by rw [hC, ← hl, List.take_length]⟩⟩
theorem row_one {w : World} {B g k n t : Nat} {e : TypeId} {col : Nat → Nat} {xs : List Value} (h : w.ownsRow B e k (.slice (some ⟨g, 0, none⟩) n n) n xs) (hc : col g = t) : RowC B w col t e k (some ⟨g, 0, none⟩) n n xs :=
  ⟨h, fun x hx => by simp only [Option.some.injEq] at hx; rw [← hx]; exact hc⟩
theorem slots_row {w : World} {B g t : Nat} {col : Nat → Nat} {l : List Sl} (h : SlotsOwn w g l) (hB : B ≤ g) (hn : l.length ≤ maxLen) (hc : col g = t) : RowC B w col t 56 2 (some ⟨g, 0, none⟩) l.length l.length (flat l) :=
  row_one (own_row (own_blk h) (by simp) (flat_len l) hB hn) hc
theorem ones_list {α : Type} {enc : α → Value} {C : Array Value} {l : List α} (h : OnesTo enc C l l.length) : C.toList = l.map enc := by
  apply List.ext_getElem?
  intro i
  rcases Nat.lt_or_ge i l.length with hi | hi
  · have hs : l[i]? = some l[i] := List.getElem?_eq_getElem hi
    rw [Array.getElem?_toList, h.2 i _ hi hs, List.getElem?_map, hs]; rfl
  · rw [List.getElem?_eq_none (by rw [Array.length_toList, h.1]; exact hi), List.getElem?_eq_none (by rw [List.length_map]; exact hi)]
theorem ints_row {w : World} {B g t : Nat} {col : Nat → Nat} {l : List Int} (h : IntsOwn w g l) (hB : B ≤ g) (hn : l.length ≤ maxLen) (hc : col g = t) : RowC B w col t 3 1 (some ⟨g, 0, none⟩) l.length l.length (flatI l) := by
  obtain ⟨C, h1, h2⟩ := h
  exact row_one (own_row h1 (ones_list h2) (by simp [flatI]) hB hn) hc
theorem strs_row {w : World} {B g t : Nat} {col : Nat → Nat} {l : List ByteArray} (h : StrsOwn w g l) (hB : B ≤ g) (hn : l.length ≤ maxLen) (hc : col g = t) : RowC B w col t 9 1 (some ⟨g, 0, none⟩) l.length l.length (flatT l) := by
  obtain ⟨C, h1, h2⟩ := h
  exact row_one (own_row h1 (ones_list h2) (by simp [flatT]) hB hn) hc
def placeM (G : Nat → Nat) (l : List Ms) : List Mp := l.zipIdx.map fun x => (x.1, some ⟨G x.2, 0, none⟩, x.1.2.length)
def placeA (G : Nat → Nat) (l : List Ak) : List Ap := l.zipIdx.map fun x => (x.1, some ⟨G x.2, 0, none⟩, x.1.2.length)
theorem placeM_at {G : Nat → Nat} {l : List Ms} {i : Nat} {s : Ms} (h : l[i]? = some s) : (placeM G l)[i]? = some (s, some ⟨G i, 0, none⟩, s.2.length) := by simp [placeM, List.getElem?_zipIdx, h]
theorem placeA_at {G : Nat → Nat} {l : List Ak} {i : Nat} {s : Ak} (h : l[i]? = some s) : (placeA G l)[i]? = some (s, some ⟨G i, 0, none⟩, s.2.length) := by simp [placeA, List.getElem?_zipIdx, h]
theorem placeM_map (G : Nat → Nat) (l : List Ms) : (placeM G l).map (·.1) = l := by
  apply List.ext_getElem?
  intro i
  simp [placeM, List.getElem?_zipIdx]
  cases l[i]? <;> rfl
theorem placeA_map (G : Nat → Nat) (l : List Ak) : (placeA G l).map (·.1) = l := by
  apply List.ext_getElem?
  intro i
  simp [placeA, List.getElem?_zipIdx]
  cases l[i]? <;> rfl
theorem placeM_len (G : Nat → Nat) (l : List Ms) : (placeM G l).length = l.length := by simp [placeM]
theorem placeA_len (G : Nat → Nat) (l : List Ak) : (placeA G l).length = l.length := by simp [placeA]
theorem msgs_list {w : World} {g : Nat} {C : Array Value} {G : Nat → Nat} {l : List Ms} (h : MsgsTo w g C G l l.length) : C.toList = flatM (placeM G l) := by
  apply List.ext_getElem?
  intro j
  rcases Nat.lt_or_ge j (l.length * 8) with hj | hj
  · have hi : j / 8 < l.length := by omega
    have hs : l[j / 8]? = some l[j / 8] := List.getElem?_eq_getElem hi
    obtain ⟨c0, c1, c2, c3, c4, c5, c6, c7, _⟩ := h.2 _ _ hi hs
    have e : j = j / 8 * 8 + j % 8 := by omega
    have ht : j % 8 < 8 := Nat.mod_lt _ (by omega)
    rw [Array.getElem?_toList]
    generalize j / 8 = i at *
    generalize j % 8 = t at *
    subst e
    rw [flatM_at _ i t _ (placeM_at hs) ht]
    rcases (by omega : t = 0 ∨ t = 1 ∨ t = 2 ∨ t = 3 ∨ t = 4 ∨ t = 5 ∨ t = 6 ∨ t = 7) with rfl | rfl | rfl | rfl | rfl | rfl | rfl | rfl
    · exact c0
    · exact c1
    · exact c2
    · exact c3
    · exact c4
    · exact c5
    · exact c6
    · exact c7
  · rw [List.getElem?_eq_none (by rw [Array.length_toList, h.1]; exact hj), List.getElem?_eq_none (by rw [flatM_len, placeM_len]; exact hj)]
theorem acks_list {w : World} {g : Nat} {C : Array Value} {G : Nat → Nat} {l : List Ak} (h : AcksTo w g C G l l.length) : C.toList = flatA (placeA G l) := by
  apply List.ext_getElem?
  intro j
  rcases Nat.lt_or_ge j (l.length * 2) with hj | hj
  · have hi : j / 2 < l.length := by omega
    have hs : l[j / 2]? = some l[j / 2] := List.getElem?_eq_getElem hi
    obtain ⟨c0, c1, _⟩ := h.2 _ _ hi hs
    have e : j = j / 2 * 2 + j % 2 := by omega
    have ht : j % 2 < 2 := Nat.mod_lt _ (by omega)
    rw [Array.getElem?_toList]
    generalize j / 2 = i at *
    generalize j % 2 = t at *
    subst e
    rw [flatA_at _ i t _ (placeA_at hs) ht]
    rcases (by omega : t = 0 ∨ t = 1) with rfl | rfl
    · exact c0
    · exact c1
  · rw [List.getElem?_eq_none (by rw [Array.length_toList, h.1]; exact hj), List.getElem?_eq_none (by rw [flatA_len, placeA_len]; exact hj)]
def colO (gS gD gH BH gW gY gB gA b : Nat) : Nat := if b = gS then 0 else if b = gD then 1 else if b = gH then 2 else if b < BH then 7 else if b = gW then 3 else if b = gY then 4 else if b = gB then 5 else if b = gA then 6 else 8
theorem RcOwn.has {B : Nat} {w : World} {r : Rc} {p : RcP} (h : RcOwn w r p) (hg : RcAt w r p) (hB : ∀ x, p.aS = some x → B ≤ x.block) : ∃ X col, RcHas B w r p X col := by
  have good := hg.good
  have mS := hg.lS
  have mD := hg.lD
  have mH := hg.lH
  have mW := hg.lW
  have mY := hg.lY
  have mB := hg.lB
  have mA := hg.lA
  obtain ⟨gS, gD, gH, BH, gW, gY, gB, gA, rfl, ⟨l1, l2, l3, l4, l5, l6, l7⟩, oS, oD, ⟨CH, GH, kH, tH, bH⟩, oW, oY, oB, ⟨CA, GA, kA', tA⟩⟩ := h
  have b0 : B ≤ gS := hB _ rfl
  clear hB hg
  refine ⟨⟨placeM GH r.held, placeA GA r.acks⟩, colO gS gD gH BH gW gY gB gA, ?_⟩
  have inM : ∀ i s, r.held[i]? = some s → gH < GH i ∧ GH i < BH ∧ SlotsOwn w (GH i) s.2 ∧ ∀ j, j < i → GH j < GH i := fun i s hs => by
    have hi := (List.getElem?_eq_some_iff.1 hs).1
    obtain ⟨_, _, _, _, _, _, _, _, q1, q2, q3⟩ := tH.2 i s hi hs
    exact ⟨q2, bH i hi, q1, q3⟩
  have inA : ∀ i s, r.acks[i]? = some s → gA < GA i ∧ IntsOwn w (GA i) s.2 ∧ ∀ j, j < i → GA j < GA i := fun i s hs => by
    have hi := (List.getElem?_eq_some_iff.1 hs).1
    obtain ⟨_, _, q1, q2, q3⟩ := tA.2 i s hi hs
    exact ⟨q2, q1, q3⟩
  refine ⟨slots_row oS b0 mS (by simp [colO]), slots_row oD (by omega) mD ?_, row_one (own_row kH (msgs_list tH) (by rw [flatM_len, placeM_len]) (by omega) mH) ?_, placeM_map _ _, ⟨fun m hm => ?_, ?_⟩, strs_row oW (by omega) mW ?_, ints_row oY (by omega) mY ?_, slots_row oB (by omega) mB ?_, row_one (own_row kA' (acks_list tA) (by rw [flatA_len, placeA_len]) (by omega) mA) ?_, placeA_map _ _, ⟨fun m hm => ?_, ?_⟩, good⟩
  · unfold colO; rw [if_neg (by omega), if_pos rfl]
  · unfold colO; rw [if_neg (by omega), if_neg (by omega), if_pos rfl]
  · obtain ⟨i, hi⟩ := List.mem_iff_getElem?.1 hm
    have hl := (List.getElem?_eq_some_iff.1 hi).1
    rw [placeM_len] at hl
    have hs : r.held[i]? = some r.held[i] := List.getElem?_eq_getElem hl
    rw [placeM_at hs] at hi
    simp only [Option.some.injEq] at hi
    rw [← hi]
    obtain ⟨q1, q2, q3, _⟩ := inM i _ hs
    refine slots_row q3 (by omega) ((good.h i _ hs).2.1) ?_
    unfold colO
    rw [if_neg (by omega), if_neg (by omega), if_neg (by omega), if_pos q2]
  · rw [List.pairwise_iff_getElem]
    intro i j hi hj hij x x' hx hx'
    rw [placeM_len] at hi hj
    have h1 := placeM_at (G := GH) (List.getElem?_eq_getElem hi)
    have h2 := placeM_at (G := GH) (List.getElem?_eq_getElem hj)
    obtain ⟨_, e1⟩ := List.getElem?_eq_some_iff.1 h1
    obtain ⟨_, e2⟩ := List.getElem?_eq_some_iff.1 h2
    rw [e1] at hx
    rw [e2] at hx'
    simp only [Option.some.injEq] at hx hx'
    rw [← hx, ← hx']
    have := (inM j _ (List.getElem?_eq_getElem hj)).2.2.2 i hij
    dsimp only
    omega
  · unfold colO; rw [if_neg (by omega), if_neg (by omega), if_neg (by omega), if_neg (by omega), if_pos rfl]
  · unfold colO; rw [if_neg (by omega), if_neg (by omega), if_neg (by omega), if_neg (by omega), if_neg (by omega), if_pos rfl]
  · unfold colO; rw [if_neg (by omega), if_neg (by omega), if_neg (by omega), if_neg (by omega), if_neg (by omega), if_neg (by omega), if_pos rfl]
  · unfold colO; rw [if_neg (by omega), if_neg (by omega), if_neg (by omega), if_neg (by omega), if_neg (by omega), if_neg (by omega), if_neg (by omega), if_pos rfl]
  · obtain ⟨i, hi⟩ := List.mem_iff_getElem?.1 hm
    have hl := (List.getElem?_eq_some_iff.1 hi).1
    rw [placeA_len] at hl
    have hs : r.acks[i]? = some r.acks[i] := List.getElem?_eq_getElem hl
    rw [placeA_at hs] at hi
    simp only [Option.some.injEq] at hi
    rw [← hi]
    obtain ⟨q1, q3, _⟩ := inA i _ hs
    refine ints_row q3 (by omega) ((good.a i _ hs).2.1) ?_
    unfold colO
    rw [if_neg (by omega), if_neg (by omega), if_neg (by omega), if_neg (by omega), if_neg (by omega), if_neg (by omega), if_neg (by omega), if_neg (by omega)]
  · rw [List.pairwise_iff_getElem]
    intro i j hi hj hij x x' hx hx'
    rw [placeA_len] at hi hj
    have h1 := placeA_at (G := GA) (List.getElem?_eq_getElem hi)
    have h2 := placeA_at (G := GA) (List.getElem?_eq_getElem hj)
    obtain ⟨_, e1⟩ := List.getElem?_eq_some_iff.1 h1
    obtain ⟨_, e2⟩ := List.getElem?_eq_some_iff.1 h2
    rw [e1] at hx
    rw [e2] at hx'
    simp only [Option.some.injEq] at hx hx'
    rw [← hx, ← hx']
    have := (inA j _ (List.getElem?_eq_getElem hj)).2.2 i hij
    dsimp only
    omega
end Go.Proofs.Ytafolmhpdgpmaaa

/-
  The recorders that a law keeps in its own blocks, read.
-/
namespace Go.Proofs.Ytafolmhpdgpmaaa
open Go.ChangeShapes Go.WideShapes Go.ChangeAt Go.RowKit
set_option linter.unusedVariables false
set_option linter.unusedSimpArgs false

/-- a laws.Recorder out of its block -/
theorem wpList_load_lrec {ops : Array Oper} {rest : List Oper} {dst : Option Tmp} {x : Operand} {τ : TypeId} {pos : String} {after : Array Edge} {a : Act} {w : World} {Q : Exit → Act → World → Prop}
    (g : Nat) (cs : Array Value) (hs : cs.size = 18) (hx : a.eval x = .pointer (some ⟨g, 0, none⟩)) (hg : Blk w g cs 37)
    (h : wpList Try.prog ops Q rest (a.put dst (.agg cs)) w) :
    wpList Try.prog ops Q ({ dst := dst, op := .load 37 x, type := τ, pos := pos, after := after, guard := none } :: rest) a w :=
  wpList_load_blk g cs _ hx hg Try.underlying37 rfl (by rw [hs]; kernel_rfl) h
/-- the law's two recorders lie in their blocks; what was there at B is as it was -/
structure LawS (B : World) (g1 g2 : Nat) (r : Rc) (p q : RcP) (w' : World) : Prop where
  blk : Blk w' g1 (rcV r p) 37
  own : Blk w' g2 (rcV r q) 44
  bel : Below B.heap.size B w'
theorem LawS.ext {B : World} {g1 g2 : Nat} {r : Rc} {p q : RcP} {w' v' : World} (h : LawS B g1 g2 r p q w') (hb : Below w'.heap.size w' v') : LawS B g1 g2 r p q v' := ⟨h.blk.ext hb, h.own.ext hb, ext_trans h.bel hb⟩
theorem LawS.drew {B : World} {g1 g2 : Nat} {r : Rc} {p q : RcP} {w' : World} (h : LawS B g1 g2 r p q w') : LawS B g1 g2 r p q w'.drew := ⟨h.blk, h.own, h.bel.drew⟩
theorem yields_law {ops : Array Oper} {o : Oper} {a : Act} {B : World} {g1 g2 : Nat} {r : Rc} {p q : RcP} (hw : Region.wanted o (yielded ops a.tmps) = true) (x : Operand) (ho : o.op = .load 37 x) (hx : a.eval x = .pointer (some ⟨g1, 0, none⟩)) :
    YieldsIf Try.prog ops (LawS B g1 g2 r p q) o (.agg (rcV r p)) a :=
  .inl ⟨hw, fun w hS => by
    unfold execOp
    simp only [ho, hx, Instr.loadAt, Instr.sureAddr, Sem.run_bind, Sem.run_pure, Result.andThen_ok, run_loadVar_row w g1 37 37 (rcV r p) (0, 0) _ hS.blk Try.underlying37 rfl (by kernel_rfl)]⟩
theorem yields_own {ops : Array Oper} {o : Oper} {a : Act} {B : World} {g1 g2 : Nat} {r : Rc} {p q : RcP} (hw : Region.wanted o (yielded ops a.tmps) = true) (x : Operand) (ho : o.op = .load 44 x) (hx : a.eval x = .pointer (some ⟨g2, 0, none⟩)) :
    YieldsIf Try.prog ops (LawS B g1 g2 r p q) o (.agg (rcV r q)) a :=
  .inl ⟨hw, fun w hS => by
    unfold execOp
    simp only [ho, hx, Instr.loadAt, Instr.sureAddr, Sem.run_bind, Sem.run_pure, Result.andThen_ok, run_loadVar_row w g2 44 44 (rcV r q) (0, 0) _ hS.own Try.underlying44 rfl (by kernel_rfl)]⟩
end Go.Proofs.Ytafolmhpdgpmaaa

/-
  For the laws' walks: how far the marks count; what marks leave as it was.
-/
namespace Go.Proofs.Ytafolmhpdgpmaaa
open Go.ChangeShapes Go.WideShapes Go.ChangeAt Go.RowKit
set_option linter.unusedVariables false
set_option linter.unusedSimpArgs false

theorem kM_bound {N : Nat → Nat} {k : Nat} (hN : ∀ j, N j ≤ 1048576) : ∀ n, kM N k n ≤ k + n * 2097159
  | 0 => by simp [kM]
  | n + 1 => by
    have h1 := kM_bound (k := k) hN n
    have h2 := hN n
    rw [kM_step]
    omega
theorem kA_bound {N : Nat → Nat} {k : Nat} (hN : ∀ j, N j ≤ 1048576) : ∀ n, kA N k n ≤ k + n * 1048577
  | 0 => by simp [kA]
  | n + 1 => by
    have h1 := kA_bound (k := k) hN n
    have h2 := hN n
    rw [kA_step]
    omega
theorem lenM_small {l : List Ms} (h : MsgsSmall l) : ∀ i, lenM l i ≤ 1048576 := fun i => by
  unfold lenM
  cases h0 : l[i]? with
  | none => simp
  | some s => exact h i s h0
theorem lenA_small {l : List Ak} (h : AcksSmall l) : ∀ i, lenA l i ≤ 1048576 := fun i => by
  unfold lenA
  cases h0 : l[i]? with
  | none => simp
  | some s => exact h i s h0
theorem cnt_le {r : Rc} (h : RcSmall r) : cnt r (lenM r.held) (lenA r.acks) 1 7 ≤ 1152921504606846900 := by
  have h1 := kM_bound (k := 1 + 2 * r.ss.length + 2 * r.ds.length) (lenM_small h.nH) r.held.length
  have h2 := kA_bound (k := kM (lenM r.held) (1 + 2 * r.ss.length + 2 * r.ds.length) r.held.length + r.wish.length + r.yes.length + 2 * r.best.length) (lenA_small h.nA) r.acks.length
  have := h.lS
  have := h.lD
  have := h.lH
  have := h.lW
  have := h.lY
  have := h.lB
  have := h.lA
  simp only [cnt]
  omega
theorem Wrote.below {B : Nat} {a w w' : World} {ws : Ws} (h : Below B a w) (k : Wrote w w' ws) (ha : B ≤ a.heap.size) (hB : ∀ q ∈ ws, B ≤ q.1.block) : Below B a w' :=
  h.trans ⟨k.os, k.tape, k.output, k.size, fun i hi => k.block i (Nat.lt_of_lt_of_le hi (Nat.le_trans ha h.size)) (fun q hq => by have := hB q hq; omega)⟩
theorem OneAt.wrote {α : Type} {enc : α → Value} {good : α → Prop} {w w' : World} {a : Option Addr} {l : List α} {ws : Ws} (h : OneAt enc good w a l) (k : Wrote w w' ws) (hd : ∀ x, a = some x → ∀ q ∈ ws, q.1.block ≠ x.block) : OneAt enc good w' a l := fun i s hs => by
  obtain ⟨b, off, ha, hlt, c0, r⟩ := h i s hs
  refine ⟨b, off, ha, Nat.lt_of_lt_of_le hlt k.size, (k.keep _ hlt fun q hq e => ?_).trans c0, r⟩
  have := hd _ ha q hq
  rw [e] at this
  exact this rfl
/-- what marks wrote is still there -/
theorem marks_ext {w w' : World} {ws : Ws} (h : ∀ q ∈ ws, w.cell? q.1 = some q.2) (hl : ∀ q ∈ ws, q.1.block < w.heap.size) (k : Below w.heap.size w w') : ∀ q ∈ ws, w'.cell? q.1 = some q.2 := fun q hq => (k.cell (p := q.1) (hl q hq)).trans (h q hq)
theorem wsTo_zone {r : Rc} {p : RcP} {AH : Nat → Option Addr} {NH : Nat → Nat} {AA : Nat → Option Addr} {NA : Nat → Nat} {k m : Nat} {q : Addr × Value} (h : q ∈ wsTo r p AH NH AA NA k m) : ∃ i, zone r p AH NH AA NA i q.1 := by
  obtain ⟨i, _, hi⟩ := wsTo_mem r p AH NH AA NA k m q h
  exact ⟨i, wsL_zone r p AH NH AA NA k i q hi⟩
end Go.Proofs.Ytafolmhpdgpmaaa

/-
  Behind its own marks a recorder still lies as it lay.
-/
namespace Go.Proofs.Ytafolmhpdgpmaaa
open Go.ChangeShapes Go.WideShapes Go.ChangeAt Go.RowKit
set_option linter.unusedVariables false
set_option linter.unusedSimpArgs false

theorem Room.some {w : World} {a : Option Addr} {m j : Nat} (h : Room w a m) (hj : j < m) : ∃ b off, a = some ⟨b, off, none⟩ := by
  obtain ⟨b, off, e, _⟩ := h j hj
  exact ⟨b, off, e⟩
theorem Room.adr_inj {w : World} {a : Option Addr} {m j i : Nat} (h : Room w a m) (hj : j < m) (e : adr a i = adr a j) : i = j := by
  obtain ⟨b, off, rfl⟩ := h.some hj
  rw [adr_some, adr_some] at e
  simp only [Addr.mk.injEq, true_and, and_true] at e
  omega
theorem LayM.marked {w w' : World} {a : Option Addr} {A : Nat → Option Addr} {N cp : Nat → Nat} {n : Nat} {ws : Ws} (h : LayM w a A N cp n) (k : Wrote w w' ws) (hn : ∀ q ∈ ws, ∀ i, i < n → q.1 ≠ adr a (i * 8 + 7)) : LayM w' a A N cp n :=
  ⟨h.room.wrote k, fun i hi => (k.keep _ (h.room.lt (by omega)) (fun q hq => hn q hq i hi)).trans (h.hd i hi), fun i hi => (h.inner i hi).wrote k, h.far, h.apart⟩
theorem LayA.marked {w w' : World} {a : Option Addr} {A : Nat → Option Addr} {N cp : Nat → Nat} {n : Nat} {ws : Ws} (h : LayA w a A N cp n) (k : Wrote w w' ws) (hn : ∀ q ∈ ws, ∀ i, i < n → q.1 ≠ adr a (i * 2 + 1)) : LayA w' a A N cp n :=
  ⟨h.room.wrote k, fun i hi => (k.keep _ (h.room.lt (by omega)) (fun q hq => hn q hq i hi)).trans (h.hd i hi), fun i hi => (h.inner i hi).wrote k, h.far, h.apart⟩
theorem RcLay.marked {w w' : World} {r : Rc} {p : RcP} {AH : Nat → Option Addr} {NH cH : Nat → Nat} {AA : Nat → Option Addr} {NA cA : Nat → Nat} {k : Nat} (h : RcLay w r p AH NH cH AA NA cA) (hw : Wrote w w' (wsTo r p AH NH AA NA k 7)) : RcLay w' r p AH NH cH AA NA cA := by
  refine ⟨h.s.wrote hw, h.d.wrote hw, h.h.marked hw (fun q hq i hi e => ?_), h.t.wrote hw, h.y.wrote hw, h.b.wrote hw, h.a.marked hw (fun q hq i hi e => ?_), h.far⟩
  · obtain ⟨j, hj, hm⟩ := wsTo_mem r p AH NH AA NA k 7 q hq
    have z2 : zone r p AH NH AA NA 2 q.1 := .inl ⟨i * 8 + 7, by omega, e⟩
    by_cases h2 : j = 2
    · subst h2
      rcases wsM_mem _ _ _ _ _ q hm with ⟨i', t, h1, h2, h3⟩ | ⟨i', j', h1, h2, h3⟩
      · rw [h3] at e
        have := h.h.room.adr_inj (j := i * 8 + 7) (by omega) e
        omega
      · rw [h3] at e
        exact h.h.far i' j' (i * 8 + 7) h1 h2 (by omega) e
    · exact h.far j 2 q.1 h2 (wsL_zone r p AH NH AA NA k j q hm) z2
  · obtain ⟨j, hj, hm⟩ := wsTo_mem r p AH NH AA NA k 7 q hq
    have z2 : zone r p AH NH AA NA 6 q.1 := .inl ⟨i * 2 + 1, by omega, e⟩
    by_cases h2 : j = 6
    · subst h2
      rcases wsA_mem _ _ _ _ _ q hm with ⟨i', t, h1, h2, h3⟩ | ⟨i', j', h1, h2, h3⟩
      · rw [h3] at e
        have := h.a.room.adr_inj (j := i * 2 + 1) (by omega) e
        omega
      · rw [h3] at e
        exact h.a.far i' j' (i * 2 + 1) h1 h2 (by omega) e
    · exact h.far j 6 q.1 h2 (wsL_zone r p AH NH AA NA k j q hm) z2
end Go.Proofs.Ytafolmhpdgpmaaa

/-
  What the reading of an argument tells: numbers, texts, acks, messages, a recorder.
-/
namespace Go.Proofs.Ytafolmhpdgpmaaa
open Go.ChangeShapes Go.WideShapes Go.ChangeAt Go.RowKit Go.Deep Go.Joins
set_option linter.unusedVariables false
set_option linter.unusedSimpArgs false

theorem ints_open {H : Type} {enc : TypeId × Value → H} {W : World} {sp : Nat → Bool} {fuel : Nat} {v : Value} {y : DataW H × List MemPlace} (h : DataW.trod enc Try.prog W 0 sp true fuel 34 [v] = some y) :
    ∃ a n cap l, v = .slice a n cap ∧ List.length l = n ∧ n ≤ maxLen ∧ IntsAt W a l := by
  rcases open_ints Try.underlying34 Try.underlying3 (by kernel_rfl) h with ⟨hcs, _⟩ | ⟨x, len, cap, zs, hcs, _, hl, hm, hz, _, hx, hw⟩
  · simp only [List.cons.injEq, and_true] at hcs
    exact ⟨none, 0, 0, [], hcs, rfl, by unfold maxLen; omega, fun i s hs => by simp at hs⟩
  · simp only [List.cons.injEq, and_true] at hcs
    have hlm : len ≤ zs.length := by rw [hz]; split <;> omega
    refine ⟨some x, len, cap, zs.take len, hcs, by simp; omega, by omega, fun i s hs => ?_⟩
    have hi : i < len := by
      have := (List.getElem?_eq_some_iff.1 hs).1
      simp at this
      omega
    rw [List.getElem?_take_of_lt hi] at hs
    have c0 := hx i (by omega)
    rw [show zs.getD i 0 = s by simp [List.getD, hs]] at c0
    obtain ⟨b, off, spot⟩ := x
    have hspot : spot = none := by simpa [Addr.add] using World.cell?_spot (hx 0 (by omega))
    subst hspot
    rw [Addr.add_mid] at c0
    exact ⟨b, off, rfl, World.block_lt_of_cell? W _ c0, c0, hw s (List.mem_of_getElem? hs)⟩
theorem strs_open {H : Type} {enc : TypeId × Value → H} {W : World} {sp : Nat → Bool} {fuel : Nat} {v : Value} {y : DataW H × List MemPlace} (h : DataW.trod enc Try.prog W 0 sp true fuel 33 [v] = some y) :
    ∃ a n cap l, v = .slice a n cap ∧ List.length l = n ∧ n ≤ maxLen ∧ StrsAt W a l := by
  rcases open_strs Try.underlying33 Try.underlying9 (by kernel_rfl) h with ⟨hcs, _⟩ | ⟨x, len, cap, m, S, hcs, _, hl, hm, hmm, _, hx⟩
  · simp only [List.cons.injEq, and_true] at hcs
    exact ⟨none, 0, 0, [], hcs, rfl, by unfold maxLen; omega, fun i s hs => by simp at hs⟩
  · simp only [List.cons.injEq, and_true] at hcs
    have hlm : len ≤ m := by rw [hmm]; split <;> omega
    refine ⟨some x, len, cap, (List.range len).map S, hcs, by simp, by omega, fun i s hs => ?_⟩
    have hi : i < len := by
      have := (List.getElem?_eq_some_iff.1 hs).1
      simpa using this
    simp only [List.getElem?_map, List.getElem?_range hi, Option.map_some, Option.some.injEq] at hs
    subst hs
    obtain ⟨c0, ht⟩ := hx i (by omega)
    obtain ⟨b, off, spot⟩ := x
    have hspot : spot = none := by simpa [Addr.add] using World.cell?_spot (hx 0 (by omega)).1
    subst hspot
    rw [Addr.add_mid] at c0
    exact ⟨b, off, rfl, World.block_lt_of_cell? W _ c0, c0, ht⟩
theorem acks_open {H : Type} {enc : TypeId × Value → H} {W : World} {sp : Nat → Bool} {fuel : Nat} {v : Value} {y : DataW H × List MemPlace} (h : DataW.trod enc Try.prog W 0 sp true fuel 35 [v] = some y) :
    ∃ a n cap l, v = .slice a n cap ∧ List.length l = n ∧ n ≤ maxLen ∧ AcksAt W a l := by
  rcases open_slice_pairs Try.underlying35 Try.underlying103 (by kernel_rfl) rfl rfl (by kernel_rfl) (by kernel_rfl) h with ⟨hcs, _⟩ | ⟨x, len, cap, m, k, V0, V1, D0, D1, P0, P1, hcs, _, hl, hm, hmm, _, hx⟩
  · simp only [List.cons.injEq, and_true] at hcs
    exact ⟨none, 0, 0, [], hcs, rfl, by unfold maxLen; omega, fun i s hs => by simp at hs⟩
  · simp only [List.cons.injEq, and_true] at hcs
    have hlm : len ≤ m := by rw [hmm]; split <;> omega
    have each : ∀ i, i < len → ∃ q : (Int × List Int) × (Option Addr × Nat), V0 i = .int .i64 q.1.1 ∧ V1 i = .slice q.2.1 q.1.2.length q.2.2 ∧ wfI q.1.1 ∧ q.1.2.length ≤ maxLen ∧ IntsAt W q.2.1 q.1.2 := fun i hi => by
      obtain ⟨c0, c1, t0, t1⟩ := hx i (by omega)
      obtain ⟨z, e0, _, wz⟩ := DataW.trod_int Try.underlying3 t0
      obtain ⟨a, n, c, l, e1, hn, hmx, hI⟩ := ints_open t1
      simp only [List.cons.injEq, and_true] at e0
      subst hn
      exact ⟨((z, l), (a, c)), e0, e1, wz, hmx, hI⟩
    obtain ⟨q, hq⟩ := choose_lt each
    refine ⟨some x, len, cap, (List.range len).map fun i => (q i).1, hcs, by simp, by omega, fun i s hs => ?_⟩
    have hi : i < len := by
      have := (List.getElem?_eq_some_iff.1 hs).1
      simpa using this
    simp only [List.getElem?_map, List.getElem?_range hi, Option.map_some, Option.some.injEq] at hs
    subst hs
    obtain ⟨c0, c1, t0, t1⟩ := hx i (by omega)
    obtain ⟨e0, e1, r1, r2, r3⟩ := hq i hi
    obtain ⟨b, off, spot⟩ := x
    have hspot : spot = none := by simpa [Addr.add] using World.cell?_spot (hx 0 (by omega)).1
    subst hspot
    rw [Addr.add_mid] at c0 c1
    rw [e0] at c0
    rw [e1] at c1
    exact ⟨b, off, (q i).2.1, (q i).2.2, rfl, World.block_lt_of_cell? W _ c0, c0, by simpa [Nat.add_assoc] using c1, r1, r2, r3⟩
theorem msgs_open {H : Type} {enc : TypeId × Value → H} {W : World} {sp : Nat → Bool} {fuel : Nat} {v : Value} {y : DataW H × List MemPlace} (h : DataW.trod enc Try.prog W 0 sp true fuel 32 [v] = some y) :
    ∃ a n cap l, v = .slice a n cap ∧ List.length l = n ∧ n ≤ maxLen ∧ MsgsAt W a l := by
  rcases open_slice Try.underlying32 h with ⟨hcs, _⟩ | ⟨x, len, cap, m, k, D, Pl, hcs, _, hl, hm, hmm, _, hx⟩
  · simp only [List.cons.injEq, and_true] at hcs
    exact ⟨none, 0, 0, [], hcs, rfl, by unfold maxLen; omega, fun i s hs => by simp at hs⟩
  · simp only [List.cons.injEq, and_true] at hcs
    have hlm : len ≤ m := by rw [hmm]; split <;> omega
    rw [cellsLMsg] at hx
    have inh : Inhabited MsgH := ⟨⟨0, 0, 0, 0, 0, 0, ByteArray.empty⟩⟩
    have each : ∀ i, i < len → ∃ q : (MsgH × List Sl) × (Option Addr × Nat), (∀ j, j < 8 → W.cell? ((x.add (i * 8)).add j) = (msgV q.1.1 (.slice q.2.1 q.1.2.length q.2.2)).toList[j]?) ∧ q.1.1.x.size ≤ maxLen ∧ q.1.2.length ≤ maxLen ∧ SlotsAt W q.2.1 q.1.2 := fun i hi => by
      obtain ⟨cs, h1, h2⟩ := hx i (by omega)
      obtain ⟨_, _, hcell⟩ := World.cells?_some h1
      obtain ⟨mm, a, n, c, l, rfl, hmx, hn, hnm, hsl⟩ := msg_cells h2
      subst hn
      exact ⟨((mm, l), (a, c)), hcell, hmx, hnm, hsl⟩
    obtain ⟨q, hq⟩ := choose_lt each
    refine ⟨some x, len, cap, (List.range len).map fun i => (q i).1, hcs, by simp, by omega, fun i s hs => ?_⟩
    have hi : i < len := by
      have := (List.getElem?_eq_some_iff.1 hs).1
      simpa using this
    simp only [List.getElem?_map, List.getElem?_range hi, Option.map_some, Option.some.injEq] at hs
    subst hs
    obtain ⟨hc, r1, r2, r3⟩ := hq i hi
    obtain ⟨b, off, spot⟩ := x
    have hspot : spot = none := by simpa [Addr.add] using World.cell?_spot (((hq 0 (by omega)).1 0 (by omega)).trans rfl)
    subst hspot
    have c0 := hc 0 (by omega)
    have c1 := hc 1 (by omega)
    have c2 := hc 2 (by omega)
    have c3 := hc 3 (by omega)
    have c4 := hc 4 (by omega)
    have c5 := hc 5 (by omega)
    have c6 := hc 6 (by omega)
    have c7 := hc 7 (by omega)
    rw [Addr.add_mid, Addr.add_mid] at c0 c1 c2 c3 c4 c5 c6 c7
    exact ⟨b, off, (q i).2.1, (q i).2.2, rfl, World.block_lt_of_cell? W _ c0, c0, c1, c2, c3, c4, c5, c6, c7, r1, r2, r3⟩
theorem bool_of {H : Type} {enc : TypeId × Value → H} {W : World} {sp : Nat → Bool} {fuel : Nat} {c : Value} {o : Option (DataW H × List MemPlace)} (h : DataW.trod enc Try.prog W 0 sp true fuel 4 [c] = o) (ho : o.isSome = true) : ∃ b, c = .bool b := by
  obtain ⟨y, rfl⟩ := Option.isSome_iff_exists.1 ho
  obtain ⟨z, e, _⟩ := DataW.trod_bool Try.underlying4 h
  simp only [List.cons.injEq, and_true] at e
  exact ⟨z, e⟩
theorem ints_ofT {H : Type} {enc : TypeId × Value → H} {W : World} {sp : Nat → Bool} {fuel : Nat} {c : Value} {o : Option (DataW H × List MemPlace)} (h : DataW.trod enc Try.prog W 0 sp true fuel 34 [c] = o) (ho : o.isSome = true) : ∃ a n cap l, c = .slice a n cap ∧ List.length l = n ∧ n ≤ maxLen ∧ IntsAt W a l := by
  obtain ⟨y, rfl⟩ := Option.isSome_iff_exists.1 ho
  exact ints_open h
theorem strs_ofT {H : Type} {enc : TypeId × Value → H} {W : World} {sp : Nat → Bool} {fuel : Nat} {c : Value} {o : Option (DataW H × List MemPlace)} (h : DataW.trod enc Try.prog W 0 sp true fuel 33 [c] = o) (ho : o.isSome = true) : ∃ a n cap l, c = .slice a n cap ∧ List.length l = n ∧ n ≤ maxLen ∧ StrsAt W a l := by
  obtain ⟨y, rfl⟩ := Option.isSome_iff_exists.1 ho
  exact strs_open h
theorem acks_ofT {H : Type} {enc : TypeId × Value → H} {W : World} {sp : Nat → Bool} {fuel : Nat} {c : Value} {o : Option (DataW H × List MemPlace)} (h : DataW.trod enc Try.prog W 0 sp true fuel 35 [c] = o) (ho : o.isSome = true) : ∃ a n cap l, c = .slice a n cap ∧ List.length l = n ∧ n ≤ maxLen ∧ AcksAt W a l := by
  obtain ⟨y, rfl⟩ := Option.isSome_iff_exists.1 ho
  exact acks_open h
theorem msgs_ofT {H : Type} {enc : TypeId × Value → H} {W : World} {sp : Nat → Bool} {fuel : Nat} {c : Value} {o : Option (DataW H × List MemPlace)} (h : DataW.trod enc Try.prog W 0 sp true fuel 32 [c] = o) (ho : o.isSome = true) : ∃ a n cap l, c = .slice a n cap ∧ List.length l = n ∧ n ≤ maxLen ∧ MsgsAt W a l := by
  obtain ⟨y, rfl⟩ := Option.isSome_iff_exists.1 ho
  exact msgs_open h
theorem list3 {α : Type} {l : List α} (h : l.length = 3) : ∃ c0 c1 c2, l = [c0, c1, c2] := by
  match l, h with
  | [c0, c1, c2], _ => exact ⟨c0, c1, c2, rfl⟩
theorem cellsLDisk : Try.prog.cellsOf 31 = 3 := by kernel_rfl
theorem cellsInts : Try.prog.cellsOf 34 = 1 := by kernel_rfl
theorem cellsStrs : Try.prog.cellsOf 33 = 1 := by kernel_rfl
theorem cellsLAcks : Try.prog.cellsOf 35 = 1 := by kernel_rfl
theorem cellsLMsgs : Try.prog.cellsOf 32 = 1 := by kernel_rfl
theorem cellsLRec : Try.prog.cellsOf 37 = 18 := by kernel_rfl
set_option maxRecDepth 100000 in
theorem disk_cells {H : Type} {enc : TypeId × Value → H} {W : World} {sp : Nat → Bool} {fuel : Nat} {cs : List Value} {o : Option (DataW H × List MemPlace)} (h : DataW.trod enc Try.prog W 0 sp true fuel 31 cs = o) (ho : o.isSome = true) :
    ∃ x y a n cap l, cs = [.int .i64 x, .int .i64 y, .slice a n cap] ∧ List.length l = n ∧ n ≤ maxLen ∧ SlotsAt W a l := by
  obtain ⟨y, rfl⟩ := Option.isSome_iff_exists.1 ho
  obtain ⟨xs, k, _, _, hl, hlen, hf⟩ := DataW.trod_struct Try.underlying31 h
  rw [cellsLDisk] at hl
  obtain ⟨c0, c1, c2, rfl⟩ := list3 hl
  have hlen' : xs.length = 3 := hlen
  have f0 : DataW.trod enc Try.prog W 0 sp true k 3 (List.take (Try.prog.cellsOf 3) (List.drop 0 [c0, c1, c2])) = xs[0]? := hf 0 _ rfl
  have f1 : DataW.trod enc Try.prog W 0 sp true k 3 (List.take (Try.prog.cellsOf 3) (List.drop 1 [c0, c1, c2])) = xs[1]? := hf 1 _ rfl
  have f2 : DataW.trod enc Try.prog W 0 sp true k 22 (List.take (Try.prog.cellsOf 22) (List.drop 2 [c0, c1, c2])) = xs[2]? := hf 2 _ rfl
  simp only [cellsInt, cellsLSlots, List.drop_succ_cons, List.drop_zero, List.take_succ_cons, List.take_zero] at f0 f1 f2
  obtain ⟨z0, rfl, _⟩ := int_of f0 (some_of hlen' 0 (by omega))
  obtain ⟨z1, rfl, _⟩ := int_of f1 (some_of hlen' 1 (by omega))
  obtain ⟨a, n, cap, l, rfl, hn, hm, hs⟩ := slots_of f2 (some_of hlen' 2 (by omega))
  exact ⟨z0, z1, a, n, cap, l, rfl, hn, hm, hs⟩
theorem list18 {α : Type} {l : List α} (h : l.length = 18) : ∃ c0 c1 c2 c3 c4 c5 c6 c7 c8 c9 c10 c11 c12 c13 c14 c15 c16 c17, l = [c0, c1, c2, c3, c4, c5, c6, c7, c8, c9, c10, c11, c12, c13, c14, c15, c16, c17] := by
  match l, h with
  | [c0, c1, c2, c3, c4, c5, c6, c7, c8, c9, c10, c11, c12, c13, c14, c15, c16, c17], _ => exact ⟨c0, c1, c2, c3, c4, c5, c6, c7, c8, c9, c10, c11, c12, c13, c14, c15, c16, c17, rfl⟩
set_option maxRecDepth 100000 in
set_option maxHeartbeats 4000000 in
/-- a laws.Recorder that came in -/
theorem rec_open {H : Type} {enc : TypeId × Value → H} {W : World} {base : Nat} {v : Value} {d : DataW H} {p : List MemPlace}
    (hv : Value.okWide Try.prog W .any base 37 v) (h : DataW.Trod enc Try.prog W 0 (fun _ => true) true 37 v d p) :
    ∃ r p, v = .agg (rcV r p) ∧ RcAt W r p := by
  obtain ⟨cs, rfl, _⟩ := okWide_struct Try.underlying37 hv
  obtain ⟨fuel, hf0⟩ := h
  obtain ⟨xs, k, _, _, hl, hlen, hf⟩ := DataW.trod_struct Try.underlying37 hf0
  rw [cellsLRec] at hl
  have hl' : cs.toList.length = 18 := by simpa [Value.cells] using hl
  obtain ⟨c0, c1, c2, c3, c4, c5, c6, c7, c8, c9, c10, c11, c12, c13, c14, c15, c16, c17, hcs⟩ := list18 hl'
  have hvc : (Value.agg cs).cells.toList = [c0, c1, c2, c3, c4, c5, c6, c7, c8, c9, c10, c11, c12, c13, c14, c15, c16, c17] := by simpa [Value.cells] using hcs
  have hlen' : xs.length = 14 := hlen
  have f0 : DataW.trod enc Try.prog W 0 (fun _ => true) true k 3 (List.take (Try.prog.cellsOf 3) (List.drop 0 (Value.agg cs).cells.toList)) = xs[0]? := hf 0 _ rfl
  have f1 : DataW.trod enc Try.prog W 0 (fun _ => true) true k 3 (List.take (Try.prog.cellsOf 3) (List.drop 1 (Value.agg cs).cells.toList)) = xs[1]? := hf 1 _ rfl
  have f2 : DataW.trod enc Try.prog W 0 (fun _ => true) true k 4 (List.take (Try.prog.cellsOf 4) (List.drop 2 (Value.agg cs).cells.toList)) = xs[2]? := hf 2 _ rfl
  have f3 : DataW.trod enc Try.prog W 0 (fun _ => true) true k 31 (List.take (Try.prog.cellsOf 31) (List.drop 3 (Value.agg cs).cells.toList)) = xs[3]? := hf 3 _ rfl
  have f4 : DataW.trod enc Try.prog W 0 (fun _ => true) true k 31 (List.take (Try.prog.cellsOf 31) (List.drop 6 (Value.agg cs).cells.toList)) = xs[4]? := hf 4 _ rfl
  have f5 : DataW.trod enc Try.prog W 0 (fun _ => true) true k 32 (List.take (Try.prog.cellsOf 32) (List.drop 9 (Value.agg cs).cells.toList)) = xs[5]? := hf 5 _ rfl
  have f6 : DataW.trod enc Try.prog W 0 (fun _ => true) true k 33 (List.take (Try.prog.cellsOf 33) (List.drop 10 (Value.agg cs).cells.toList)) = xs[6]? := hf 6 _ rfl
  have f7 : DataW.trod enc Try.prog W 0 (fun _ => true) true k 4 (List.take (Try.prog.cellsOf 4) (List.drop 11 (Value.agg cs).cells.toList)) = xs[7]? := hf 7 _ rfl
  have f8 : DataW.trod enc Try.prog W 0 (fun _ => true) true k 4 (List.take (Try.prog.cellsOf 4) (List.drop 12 (Value.agg cs).cells.toList)) = xs[8]? := hf 8 _ rfl
  have f9 : DataW.trod enc Try.prog W 0 (fun _ => true) true k 3 (List.take (Try.prog.cellsOf 3) (List.drop 13 (Value.agg cs).cells.toList)) = xs[9]? := hf 9 _ rfl
  have f10 : DataW.trod enc Try.prog W 0 (fun _ => true) true k 34 (List.take (Try.prog.cellsOf 34) (List.drop 14 (Value.agg cs).cells.toList)) = xs[10]? := hf 10 _ rfl
  have f11 : DataW.trod enc Try.prog W 0 (fun _ => true) true k 22 (List.take (Try.prog.cellsOf 22) (List.drop 15 (Value.agg cs).cells.toList)) = xs[11]? := hf 11 _ rfl
  have f12 : DataW.trod enc Try.prog W 0 (fun _ => true) true k 35 (List.take (Try.prog.cellsOf 35) (List.drop 16 (Value.agg cs).cells.toList)) = xs[12]? := hf 12 _ rfl
  have f13 : DataW.trod enc Try.prog W 0 (fun _ => true) true k 3 (List.take (Try.prog.cellsOf 3) (List.drop 17 (Value.agg cs).cells.toList)) = xs[13]? := hf 13 _ rfl
  rw [hvc] at f0 f1 f2 f3 f4 f5 f6 f7 f8 f9 f10 f11 f12 f13
  simp only [cellsInt, cellsBool, cellsLDisk, cellsLMsgs, cellsStrs, cellsInts, cellsLSlots, cellsLAcks, List.drop_succ_cons, List.drop_zero, List.take_succ_cons, List.take_zero] at f0 f1 f2 f3 f4 f5 f6 f7 f8 f9 f10 f11 f12 f13
  obtain ⟨num, rfl, _⟩ := int_of f0 (some_of hlen' 0 (by omega))
  obtain ⟨of_, rfl, _⟩ := int_of f1 (some_of hlen' 1 (by omega))
  obtain ⟨up, rfl⟩ := bool_of f2 (some_of hlen' 2 (by omega))
  obtain ⟨sp, sk, aS, nS, cS, ss, eS, rfl, mS, hS⟩ := disk_cells f3 (some_of hlen' 3 (by omega))
  obtain ⟨dp, dk, aD, nD, cD, ds, eD, rfl, mD, hD⟩ := disk_cells f4 (some_of hlen' 4 (by omega))
  obtain ⟨aH, nH, cH, held, rfl, rfl, mH, hH⟩ := msgs_ofT f5 (some_of hlen' 5 (by omega))
  obtain ⟨aW, nW, cW, wish, rfl, rfl, mW, hW⟩ := strs_ofT f6 (some_of hlen' 6 (by omega))
  obtain ⟨lead, rfl⟩ := bool_of f7 (some_of hlen' 7 (by omega))
  obtain ⟨tr, rfl⟩ := bool_of f8 (some_of hlen' 8 (by omega))
  obtain ⟨ball, rfl, _⟩ := int_of f9 (some_of hlen' 9 (by omega))
  obtain ⟨aY, nY, cY, yes, rfl, rfl, mY, hY⟩ := ints_ofT f10 (some_of hlen' 10 (by omega))
  obtain ⟨aB, nB, cB, best, rfl, rfl, mB, hB⟩ := slots_of f11 (some_of hlen' 11 (by omega))
  obtain ⟨aA, nA, cA, acks, rfl, rfl, mA, hA⟩ := acks_ofT f12 (some_of hlen' 12 (by omega))
  obtain ⟨heard, rfl, _⟩ := int_of f13 (some_of hlen' 13 (by omega))
  simp only [List.cons.injEq, and_true] at eS eD
  obtain ⟨rfl, rfl, rfl⟩ := eS
  obtain ⟨rfl, rfl, rfl⟩ := eD
  refine ⟨⟨num, of_, up, sp, sk, ss, dp, dk, ds, held, wish, lead, tr, ball, yes, best, acks, heard⟩, ⟨aS, cS, aD, cD, aH, cH, aW, cW, aY, cY, aB, cB, aA, cA⟩, ?_, ⟨hS, mS, hD, mD, hH, mH, hW, mW, hY, mY, hB, mB, hA, mA⟩⟩
  exact congrArg Value.agg (Array.toList_inj.1 hcs)
end Go.Proofs.Ytafolmhpdgpmaaa
