import Derived.Test.YtafolmhpdgpmaaaImplValidA
import Derived.Test.YtafolmhpdgpmaaaImplValidB
import Derived.Test.YtafolmhpdgpmaaaImplValidC
import Derived.Test.YtafolmhpdgpmaaaImplValidD
import Derived.Test.YtafolmhpdgpmaaaImplValidE
import Derived.Test.YtafolmhpdgpmaaaImplValidF
import Derived.Test.YtafolmhpdgpmaaaFallDefFragile
/-
  impl.RecValid: at every recorder.
-/
namespace Go.Proofs.Ytafolmhpdgpmaaa
open Go.ChangeShapes Go.WideShapes Go.ChangeAt Go.RowKit Go.Deep Go.Joins
set_option linter.unusedVariables false
set_option linter.unusedSimpArgs false

theorem implValid (r : Rc) (p : RcP) (w : World) (hW : Hid (r.wish.length ≤ p.cW)) (h : RcAt w r p) :
    Calls Try.prog 46 #[.agg (rcV r p)] w fun e w' => e = .returned (.bool (validB r)) ∧ Below w.heap.size w w' := by
  by_cases hN : ¬ ((inB r.of_ 1 5 && inB r.num 1 r.of_) = true ∧ diskOkB r.sp r.sk r.ss = true ∧ diskOkB r.dp r.dk r.ds = true)
  · exact iv_a r p w hW h  hN
  obtain ⟨g0, g1, g2⟩ := Classical.not_not.1 hN
  clear hN
  by_cases hN : ¬ (heldOkB r.num r.of_ r.held = true ∧ wishesOkB r.wish = true ∧ inB r.heard 0 1000000 = true)
  · exact iv_b r p w hW h g0 g1 g2 hN
  obtain ⟨g3, g4, g5⟩ := Classical.not_not.1 hN
  clear hN
  by_cases hN : ¬ (numsOkB r.of_ r.yes = true ∧ slotsOkB r.best = true ∧ acksOkB r.of_ r.acks = true)
  · exact iv_c r p w hW h g0 g1 g2 g3 g4 g5 hN
  obtain ⟨g6, g7, g8⟩ := Classical.not_not.1 hN
  clear hN
  cases hl : r.lead
  · cases ht : r.tr
    · exact iv_g r p w hW h g0 g1 g2 g3 g4 g5 g6 g7 g8 hl ht
    · exact iv_f r p w hW h g0 g1 g2 g3 g4 g5 g6 g7 g8 hl ht
  · cases ht : r.tr
    · exact iv_e r p w hW h g0 g1 g2 g3 g4 g5 g6 g7 g8 hl ht
    · exact iv_d r p w hW h g0 g1 g2 g3 g4 g5 g6 g7 g8 hl ht
end Go.Proofs.Ytafolmhpdgpmaaa

/-
  impl.RecRise.
-/
namespace Go.Proofs.Ytafolmhpdgpmaaa
open Go.ChangeShapes Go.WideShapes Go.ChangeAt Go.RowKit
set_option linter.unusedVariables false
set_option linter.unusedSimpArgs false

set_option maxHeartbeats 16000000 in
set_option maxRecDepth 20000 in
theorem implRise (B : Nat) (r : Rc) (p : RcP) (X : RcX) (col : Nat → Nat) (w : World) (hS : RcSmall r) (h : RcHas B w r p X col) :
    Calls Try.prog 24 #[.agg (rcV r p)] w (APost w (recRise r)) := by
  have RD := hid h
  have HS := hid hS
  clear h hS
  obtain ⟨V, hV⟩ : ∃ V, V = (w.alloc (.cells (rcV r p) 44)).alloc (.cells #[.int .i64 0, .int .i64 0, .bool false, .int .i64 0, .int .i64 0, .slice none 0 0, .int .i64 0, .int .i64 0, .slice none 0 0, .slice none 0 0, .slice none 0 0, .bool false, .bool false, .int .i64 0, .slice none 0 0, .slice none 0 0, .slice none 0 0, .int .i64 0] 44) := ⟨_, rfl⟩
  have BV := hid (show Below w.heap.size w V by rw [hV]; exact ext_alloc (ext_alloc (Below.refl _ _) _) _)
  have K1 := hid (show Blk V w.heap.size (rcV r p) 44 by rw [hV]; exact (Blk.new _ _ _).alloc _)
  have K2 := hid (show Blk V (w.heap.size + 1) #[.int .i64 0, .int .i64 0, .bool false, .int .i64 0, .int .i64 0, .slice none 0 0, .int .i64 0, .int .i64 0, .slice none 0 0, .slice none 0 0, .slice none 0 0, .bool false, .bool false, .int .i64 0, .slice none 0 0, .slice none 0 0, .slice none 0 0, .int .i64 0] 44 by rw [hV]; exact Blk.new' _ _ (by simp))
  have SZ := hid (show w.heap.size + 1 < V.heap.size from K2.out.lt)
  have k1 := K1.out
  rw [hV] at k1
  go_enter Try.func24, Try.ntmps24
  go_wp2_with ((with_reducible refine wpList_load_rec w.heap.size (rcV r p) rfl ?_ ?_ ?_); (· rfl); (· exact k1))
  rw [← hV]
  clear hV k1
  refine (implValid r p _ (hid RD.out.t.len.2) (RD.out.ext BV.out).at).mono ?_
  rintro e w1 ⟨rfl, hb1⟩
  have B1 := hid (ext_trans BV.out hb1)
  have k1 := K1.out.ext hb1
  have k2 := K2.out.ext hb1
  have K2b := hid k2
  have SZ1 := hid (show w.heap.size + 1 < w1.heap.size from k2.lt)
  clear hb1 K1 K2 BV SZ
  cases hv : validB r
  case false =>
    have HN := hid (recRise_no hv)
    go_wp2_with (first
      | ((with_reducible refine wpList_build_to (ty := 44) #[.int .i64 0, .int .i64 0, .bool false, .int .i64 0, .int .i64 0, .slice none 0 0, .int .i64 0, .int .i64 0, .slice none 0 0, .slice none 0 0, .slice none 0 0, .bool false, .bool false, .int .i64 0, .slice none 0 0, .slice none 0 0, .slice none 0 0, .int .i64 0] ?_ ?_); (· kernel_rfl))
      | ((with_reducible refine wpList_store_rec_at (w.heap.size + 1) #[.int .i64 0, .int .i64 0, .bool false, .int .i64 0, .int .i64 0, .slice none 0 0, .int .i64 0, .int .i64 0, .slice none 0 0, .slice none 0 0, .slice none 0 0, .bool false, .bool false, .int .i64 0, .slice none 0 0, .slice none 0 0, .slice none 0 0, .int .i64 0] #[.int .i64 0, .int .i64 0, .bool false, .int .i64 0, .int .i64 0, .slice none 0 0, .int .i64 0, .int .i64 0, .slice none 0 0, .slice none 0 0, .slice none 0 0, .bool false, .bool false, .int .i64 0, .slice none 0 0, .slice none 0 0, .slice none 0 0, .int .i64 0] rfl rfl ?_ ?_ ?_ ?_ ?_); (· rfl); (· rfl); (· exact k2); (· simp [Value.oneCell'])))
    have hz := setRow_heap _ (w.heap.size + 1) _ #[.int .i64 0, .int .i64 0, .bool false, .int .i64 0, .int .i64 0, .slice none 0 0, .int .i64 0, .int .i64 0, .slice none 0 0, .slice none 0 0, .slice none 0 0, .bool false, .bool false, .int .i64 0, .slice none 0 0, .slice none 0 0, .slice none 0 0, .int .i64 0] _ _ k2
    refine ret_cell (ty := 44) Try.results24 (w.heap.size + 1) #[.int .i64 0, .int .i64 0, .bool false, .int .i64 0, .int .i64 0, .slice none 0 0, .int .i64 0, .int .i64 0, .slice none 0 0, .slice none 0 0, .slice none 0 0, .bool false, .bool false, .int .i64 0, .slice none 0 0, .slice none 0 0, .slice none 0 0, .int .i64 0] _ ?_ ?_ hz Try.underlying44 rfl (by kernel_rfl) ?_
    · rfl
    · rfl
    rw [HN.out]
    exact ⟨rp0, ⟨[], []⟩, fun _ => 0, rfl, rc0_has _ _ _, below_setRow' B1.out (by omega) _⟩
  have HN := hid (recRise_yes hv)
  go_wp2_with ((with_reducible refine wpList_load_rec w.heap.size (rcV r p) rfl ?_ ?_ ?_); (· rfl); (· exact k1))
  refine (fragileOf r p _).mono ?_
  rintro e w2 ⟨rfl, hb2⟩
  have B2 := hid (ext_trans B1.out hb2)
  have K2c := hid (K2b.out.ext hb2)
  clear hb2 k1 k2 K2b
  have kf := Blk.new w2 (fgV (riseU r) p) 93
  have cf := (Blk.new w2 (fgV r p) 93).cell
  go_wp2_with (first
    | ((with_reducible refine wpList_store_last (ty := 93) (fgV r p) ?_ ?_ ?_ ?_ ?_ ?_); (· rfl); (· rfl); (· kernel_rfl); (· rfl); (· simp [Value.oneCell']))
    | ((with_reducible refine wpList_load_blk w2.heap.size (fgV (riseU r) p) _ ?_ ?_ Try.underlying93 rfl ?_ ?_); (· rfl); (· exact kf); (· kernel_rfl)))
  clear cf kf
  have B3 := hid (show Below w.heap.size w (w2.alloc (.cells (fgV (riseU r) p) 93)) from ext_alloc B2.out _)
  have K2d := hid (show Blk (w2.alloc (.cells (fgV (riseU r) p) 93)) (w.heap.size + 1) #[.int .i64 0, .int .i64 0, .bool false, .int .i64 0, .int .i64 0, .slice none 0 0, .int .i64 0, .int .i64 0, .slice none 0 0, .slice none 0 0, .slice none 0 0, .bool false, .bool false, .int .i64 0, .slice none 0 0, .slice none 0 0, .slice none 0 0, .int .i64 0] 44 from K2c.out.alloc _)
  refine (fragileBack (riseU r) p _).mono ?_
  rintro e w4 ⟨rfl, hb4⟩
  have B4 := hid (ext_trans B3.out hb4)
  have K2e := hid (K2d.out.ext hb4)
  clear hb4
  go_wp2_with fail
  refine (copyRec0 (riseU r) p X _ (rise_small HS.out) ((RD.out.ext B4.out).reads.rise)).mono ?_
  rintro e w5 ⟨p5, X5, col5, rfl, has5, hb5⟩
  have H5 := hid has5
  have B5 := hid (ext_trans B4.out hb5)
  have k2 := K2e.out.ext hb5
  have SZ4 := hid (show w.heap.size + 1 < w4.heap.size from K2e.out.lt)
  clear has5 hb5
  go_wp2_with ((with_reducible refine wpList_store_rec_at (w.heap.size + 1) #[.int .i64 0, .int .i64 0, .bool false, .int .i64 0, .int .i64 0, .slice none 0 0, .int .i64 0, .int .i64 0, .slice none 0 0, .slice none 0 0, .slice none 0 0, .bool false, .bool false, .int .i64 0, .slice none 0 0, .slice none 0 0, .slice none 0 0, .int .i64 0] (rcV (riseU r) p5) rfl rfl ?_ ?_ ?_ ?_ ?_); (· rfl); (· rfl); (· exact k2); (· simp [Value.oneCell']))
  have hz := setRow_heap _ (w.heap.size + 1) _ (rcV (riseU r) p5) _ _ k2
  refine ret_cell (ty := 44) Try.results24 (w.heap.size + 1) (rcV (riseU r) p5) _ ?_ ?_ hz Try.underlying44 rfl (by kernel_rfl) ?_
  · rfl
  · rfl
  rw [HN.out]
  exact ⟨p5, X5, _, rfl, (H5.out.far SZ4.out _).lower (by have := SZ4.out; omega), below_setRow' B5.out (by omega) _⟩
end Go.Proofs.Ytafolmhpdgpmaaa
