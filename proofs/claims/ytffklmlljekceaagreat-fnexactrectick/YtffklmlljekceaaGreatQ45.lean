import Derived.Test.YtffklmlljekceaaGreatQ10
namespace Go.Proofs.YtffklmlljekceaaGreat
open Go.ChangeShapes Go.WideShapes Go.ChangeAt Go.RowKit Go.Deep Go.Joins
set_option linter.unusedSimpArgs false
set_option linter.unusedVariables false
set_option maxHeartbeats 40000000
set_option maxRecDepth 20000
theorem iv_b (r : Rc) (p : RcP) (w : World) (hW : Hid (r.wish.length ≤ p.cW)) (h : RcAt w r p) (g0 : Hid ((inB r.of_ 1 5 && inB r.num 1 r.of_) = true)) (g1 : Hid (diskOkB r.sp r.sk r.ss = true)) (g2 : Hid (diskOkB r.dp r.dk r.ds = true)) (hNot : Hid (¬ (heldOkB r.num r.of_ r.held = true ∧ wishesOkB r.wish = true ∧ inB r.heard 0 1000000 = true))) :
  Calls Tryz.prog 38 #[.agg (rcV r p)] w fun e w' => e = .returned (.bool (validB r)) ∧ Below w.heap.size w w' := by
 have hB : Below w.heap.size w (w.alloc (.cells (rcV r p) 41)) := ext_alloc (Below.refl _ _) _
 have hR := h.ext hB
 have hK0 : RecS (w.alloc (.cells (rcV r p) 41)) w.heap.size r p (w.alloc (.cells (rcV r p) 41)) := ⟨Blk.new w (rcV r p) 41, Below.refl _ _⟩
 clear h
 go_enter Tryz.func38, Tryz.ntmps38
 go_wp2_with fail
 simp only [List.append_eq, List.cons_append, List.nil_append]
 refine wp_region_held_drew (S := RecS (w.alloc (.cells (rcV r p) 41)) w.heap.size r p) (by kernel_rfl) hK0.drew (fun hHeld => ?_)
 clear hK0
 simp only [qz, Nat.reduceAdd]
 refine planH.go [0, 1, 2, 3] ?_
 iterate 4 (apply planH.take (at_lit rfl) (by kernel_rfl) (by rfl) (fun _ _ _ h => h) hHeld; (· intro w9 hSw; have hq := hSw.blk.cell; clear hSw; go_simp; try with_reducible rfl); try simp only [qq])
 refine planH.fin ?_
 have hof : Hid (r.of_ ≤ 1000000) := by
  have h9 := g0.out
  rw [Bool.and_eq_true] at h9
  have := inB_iff.1 h9.1
  unfold Hid
  omega
 refine rdH 4 (by kernel_rfl) (at_lit rfl) (fun K hK => ?_)
 go_simp
 refine (recorderIs_b _ _ _).mono ?_
 rintro e z6 ⟨he, hz6⟩
 rw [g0.out] at he
 subst he
 go_wp2_with fail
 refine hK.out _ _ (hHeld.ext hz6) (fun hNew => ?_)
 clear hK K hHeld hz6
 have hHeld := hNew
 clear hNew
 try simp only [qq]
 refine planH.go [5, 6, 7] ?_
 iterate 3 (apply planH.take (at_lit rfl) (by kernel_rfl) (by rfl) (fun _ _ _ h => h) hHeld; (· intro w9 hSw; have hq := hSw.blk.cell; clear hSw; go_simp; try with_reducible rfl); try simp only [qq])
 refine planH.fin ?_
 refine rdH 8 (by kernel_rfl) (at_lit rfl) (fun K hK => ?_)
 go_simp
 refine (implDiskOk_any r.sp r.sk p.aS r.ss _ p.cS _ rfl hR.lS (by exact (hR.ext hHeld.bel).hS)).mono ?_
 rintro e z7 ⟨he, hz7⟩
 rw [g1.out] at he
 subst he
 go_wp2_with fail
 refine hK.out _ _ (hHeld.ext hz7) (fun hNew => ?_)
 clear hK K hHeld hz7
 have hHeld := hNew
 clear hNew
 try simp only [qq]
 refine planH.go [9, 10, 11, 12] ?_
 iterate 4 (apply planH.take (at_lit rfl) (by kernel_rfl) (by rfl) (fun _ _ _ h => h) hHeld; (· intro w9 hSw; have hq := hSw.blk.cell; clear hSw; go_simp; try with_reducible rfl); try simp only [qq])
 refine planH.fin ?_
 refine rdH 13 (by kernel_rfl) (at_lit rfl) (fun K hK => ?_)
 go_simp
 refine (implDiskOk_any r.dp r.dk p.aD r.ds _ p.cD _ rfl hR.lD (by exact (hR.ext hHeld.bel).hD)).mono ?_
 rintro e z8 ⟨he, hz8⟩
 rw [g2.out] at he
 subst he
 go_wp2_with fail
 refine hK.out _ _ (hHeld.ext hz8) (fun hNew => ?_)
 clear hK K hHeld hz8
 have hHeld := hNew
 clear hNew
 try simp only [qq]
 refine planH.go [14, 15] ?_
 iterate 2 (apply planH.take (at_lit rfl) (by kernel_rfl) (by rfl) (fun _ _ _ h => h) hHeld; (· intro w9 hSw; have hq := hSw.blk.cell; clear hSw; go_simp; try with_reducible rfl); try simp only [qq])
 refine planH.fin ?_
 refine wpAnyH_take (i := 16) (at_lit rfl) (by kernel_rfl) (by kernel_rfl) (by kernel_rfl) (fun _ _ _ h => h) (yields_rec (by rfl) _ rfl rfl) hHeld ?_
 try simp only [qq]
 by_cases g3' : heldOkB r.num r.of_ r.held = false
 ·skip
  refine rdH 17 (by kernel_rfl) (at_lit rfl) (fun K hK => ?_)
  go_simp
  refine (implHeldOk r p _ (by exact hR.ext hHeld.bel)).mono ?_
  rintro e z9 ⟨he, hz9⟩
  rw [g3'] at he
  subst he
  go_wp2_with fail
  refine hK.out _ _ (hHeld.ext hz9) (fun hNew => ?_)
  clear hK K hHeld hz9
  have hHeld := hNew
  clear hNew
  try simp only [qq]
  refine planH.go [18, 19, 20, 21, 22, 23, 24, 25, 26, 27, 28, 29, 30, 31, 32, 33, 34, 35, 36, 37, 38, 39, 40, 41, 42, 43, 44, 45, 46, 47, 48, 49, 50, 51, 52, 53, 54, 55, 56, 57, 58, 59, 60, 61, 62, 63, 64, 65, 66, 67, 68, 69, 70, 71] ?_
  iterate 2 (apply planH.take (at_lit rfl) (by kernel_rfl) (by rfl) (fun _ _ _ h => h) hHeld; (· intro w9 hSw; have hq := hSw.blk.cell; clear hSw; go_simp; try with_reducible rfl); try simp only [qq])
  iterate 3 (refine planH.skip (at_lit rfl) (by kernel_rfl) (by rfl) (fun _ _ _ h => h) hHeld ?_; try simp only [qq])
  iterate 2 (apply planH.take (at_lit rfl) (by kernel_rfl) (by rfl) (fun _ _ _ h => h) hHeld; (· intro w9 hSw; have hq := hSw.blk.cell; clear hSw; go_simp; try with_reducible rfl); try simp only [qq])
  iterate 3 (refine planH.skip (at_lit rfl) (by kernel_rfl) (by rfl) (fun _ _ _ h => h) hHeld ?_; try simp only [qq])
  iterate 2 (apply planH.take (at_lit rfl) (by kernel_rfl) (by rfl) (fun _ _ _ h => h) hHeld; (· intro w9 hSw; have hq := hSw.blk.cell; clear hSw; go_simp; try with_reducible rfl); try simp only [qq])
  iterate 5 (refine planH.skip (at_lit rfl) (by kernel_rfl) (by rfl) (fun _ _ _ h => h) hHeld ?_; try simp only [qq])
  iterate 2 (apply planH.take (at_lit rfl) (by kernel_rfl) (by rfl) (fun _ _ _ h => h) hHeld; (· intro w9 hSw; have hq := hSw.blk.cell; clear hSw; go_simp; try with_reducible rfl); try simp only [qq])
  iterate 3 (refine planH.skip (at_lit rfl) (by kernel_rfl) (by rfl) (fun _ _ _ h => h) hHeld ?_; try simp only [qq])
  iterate 2 (apply planH.take (at_lit rfl) (by kernel_rfl) (by rfl) (fun _ _ _ h => h) hHeld; (· intro w9 hSw; have hq := hSw.blk.cell; clear hSw; go_simp; try with_reducible rfl); try simp only [qq])
  iterate 5 (refine planH.skip (at_lit rfl) (by kernel_rfl) (by rfl) (fun _ _ _ h => h) hHeld ?_; try simp only [qq])
  iterate 2 (apply planH.take (at_lit rfl) (by kernel_rfl) (by rfl) (fun _ _ _ h => h) hHeld; (· intro w9 hSw; have hq := hSw.blk.cell; clear hSw; go_simp; try with_reducible rfl); try simp only [qq])
  iterate 7 (refine planH.skip (at_lit rfl) (by kernel_rfl) (by rfl) (fun _ _ _ h => h) hHeld ?_; try simp only [qq])
  iterate 2 (apply planH.take (at_lit rfl) (by kernel_rfl) (by rfl) (fun _ _ _ h => h) hHeld; (· intro w9 hSw; have hq := hSw.blk.cell; clear hSw; go_simp; try with_reducible rfl); try simp only [qq])
  iterate 4 (refine planH.skip (at_lit rfl) (by kernel_rfl) (by rfl) (fun _ _ _ h => h) hHeld ?_; try simp only [qq])
  iterate 2 (apply planH.take (at_lit rfl) (by kernel_rfl) (by rfl) (fun _ _ _ h => h) hHeld; (· intro w9 hSw; have hq := hSw.blk.cell; clear hSw; go_simp; try with_reducible rfl); try simp only [qq])
  iterate 6 (refine planH.skip (at_lit rfl) (by kernel_rfl) (by rfl) (fun _ _ _ h => h) hHeld ?_; try simp only [qq])
  iterate 2 (apply planH.take (at_lit rfl) (by kernel_rfl) (by rfl) (fun _ _ _ h => h) hHeld; (· intro w9 hSw; have hq := hSw.blk.cell; clear hSw; go_simp; try with_reducible rfl); try simp only [qq])
  refine planH.fin ?_
  refine wpAnyH_done (by kernel_rfl) ?_ _
  go_wp2
  go_ret
  exact ⟨by rw [nv_g3 g3']; rfl, ext_trans hB hHeld.bel⟩
 have g3 : Hid (heldOkB r.num r.of_ r.held = true) := eq_true_of_ne_false g3'
 clear g3'
 refine rdH 17 (by kernel_rfl) (at_lit rfl) (fun K hK => ?_)
 go_simp
 refine (implHeldOk r p _ (by exact hR.ext hHeld.bel)).mono ?_
 rintro e z10 ⟨he, hz10⟩
 rw [g3.out] at he
 subst he
 go_wp2_with fail
 refine hK.out _ _ (hHeld.ext hz10) (fun hNew => ?_)
 clear hK K hHeld hz10
 have hHeld := hNew
 clear hNew
 try simp only [qq]
 refine planH.go [18, 19, 20, 21] ?_
 iterate 4 (apply planH.take (at_lit rfl) (by kernel_rfl) (by rfl) (fun _ _ _ h => h) hHeld; (· intro w9 hSw; have hq := hSw.blk.cell; clear hSw; go_simp; try with_reducible rfl); try simp only [qq])
 refine planH.fin ?_
 by_cases g4' : wishesOkB r.wish = false
 ·skip
  refine rdH 22 (by kernel_rfl) (at_lit rfl) (fun K hK => ?_)
  go_simp
  refine (implWishesOk p.aW r.wish _ p.cW _ rfl hW.out hR.lW (by exact (hR.ext hHeld.bel).hW)).mono ?_
  rintro e z11 ⟨he, hz11⟩
  rw [g4'] at he
  subst he
  go_wp2_with fail
  refine hK.out _ _ (hHeld.ext hz11) (fun hNew => ?_)
  clear hK K hHeld hz11
  have hHeld := hNew
  clear hNew
  try simp only [qq]
  refine planH.go [23, 24, 25, 26, 27, 28, 29, 30, 31, 32, 33, 34, 35, 36, 37, 38, 39, 40, 41, 42, 43, 44, 45, 46, 47, 48, 49, 50, 51, 52, 53, 54, 55, 56, 57, 58, 59, 60, 61, 62, 63, 64, 65, 66, 67, 68, 69, 70, 71] ?_
  iterate 2 (apply planH.take (at_lit rfl) (by kernel_rfl) (by rfl) (fun _ _ _ h => h) hHeld; (· intro w9 hSw; have hq := hSw.blk.cell; clear hSw; go_simp; try with_reducible rfl); try simp only [qq])
  iterate 3 (refine planH.skip (at_lit rfl) (by kernel_rfl) (by rfl) (fun _ _ _ h => h) hHeld ?_; try simp only [qq])
  iterate 2 (apply planH.take (at_lit rfl) (by kernel_rfl) (by rfl) (fun _ _ _ h => h) hHeld; (· intro w9 hSw; have hq := hSw.blk.cell; clear hSw; go_simp; try with_reducible rfl); try simp only [qq])
  iterate 5 (refine planH.skip (at_lit rfl) (by kernel_rfl) (by rfl) (fun _ _ _ h => h) hHeld ?_; try simp only [qq])
  iterate 2 (apply planH.take (at_lit rfl) (by kernel_rfl) (by rfl) (fun _ _ _ h => h) hHeld; (· intro w9 hSw; have hq := hSw.blk.cell; clear hSw; go_simp; try with_reducible rfl); try simp only [qq])
  iterate 3 (refine planH.skip (at_lit rfl) (by kernel_rfl) (by rfl) (fun _ _ _ h => h) hHeld ?_; try simp only [qq])
  iterate 2 (apply planH.take (at_lit rfl) (by kernel_rfl) (by rfl) (fun _ _ _ h => h) hHeld; (· intro w9 hSw; have hq := hSw.blk.cell; clear hSw; go_simp; try with_reducible rfl); try simp only [qq])
  iterate 5 (refine planH.skip (at_lit rfl) (by kernel_rfl) (by rfl) (fun _ _ _ h => h) hHeld ?_; try simp only [qq])
  iterate 2 (apply planH.take (at_lit rfl) (by kernel_rfl) (by rfl) (fun _ _ _ h => h) hHeld; (· intro w9 hSw; have hq := hSw.blk.cell; clear hSw; go_simp; try with_reducible rfl); try simp only [qq])
  iterate 7 (refine planH.skip (at_lit rfl) (by kernel_rfl) (by rfl) (fun _ _ _ h => h) hHeld ?_; try simp only [qq])
  iterate 2 (apply planH.take (at_lit rfl) (by kernel_rfl) (by rfl) (fun _ _ _ h => h) hHeld; (· intro w9 hSw; have hq := hSw.blk.cell; clear hSw; go_simp; try with_reducible rfl); try simp only [qq])
  iterate 4 (refine planH.skip (at_lit rfl) (by kernel_rfl) (by rfl) (fun _ _ _ h => h) hHeld ?_; try simp only [qq])
  iterate 2 (apply planH.take (at_lit rfl) (by kernel_rfl) (by rfl) (fun _ _ _ h => h) hHeld; (· intro w9 hSw; have hq := hSw.blk.cell; clear hSw; go_simp; try with_reducible rfl); try simp only [qq])
  iterate 6 (refine planH.skip (at_lit rfl) (by kernel_rfl) (by rfl) (fun _ _ _ h => h) hHeld ?_; try simp only [qq])
  iterate 2 (apply planH.take (at_lit rfl) (by kernel_rfl) (by rfl) (fun _ _ _ h => h) hHeld; (· intro w9 hSw; have hq := hSw.blk.cell; clear hSw; go_simp; try with_reducible rfl); try simp only [qq])
  refine planH.fin ?_
  refine wpAnyH_done (by kernel_rfl) ?_ _
  go_wp2
  go_ret
  exact ⟨by rw [nv_g4 g4']; rfl, ext_trans hB hHeld.bel⟩
 have g4 : Hid (wishesOkB r.wish = true) := eq_true_of_ne_false g4'
 clear g4'
 refine rdH 22 (by kernel_rfl) (at_lit rfl) (fun K hK => ?_)
 go_simp
 refine (implWishesOk p.aW r.wish _ p.cW _ rfl hW.out hR.lW (by exact (hR.ext hHeld.bel).hW)).mono ?_
 rintro e z12 ⟨he, hz12⟩
 rw [g4.out] at he
 subst he
 go_wp2_with fail
 refine hK.out _ _ (hHeld.ext hz12) (fun hNew => ?_)
 clear hK K hHeld hz12
 have hHeld := hNew
 clear hNew
 try simp only [qq]
 refine planH.go [23, 24, 25, 26] ?_
 iterate 4 (apply planH.take (at_lit rfl) (by kernel_rfl) (by rfl) (fun _ _ _ h => h) hHeld; (· intro w9 hSw; have hq := hSw.blk.cell; clear hSw; go_simp; try with_reducible rfl); try simp only [qq])
 refine planH.fin ?_
 by_cases g5' : inB r.heard 0 1000000 = false
 ·skip
  refine rdH 27 (by kernel_rfl) (at_lit rfl) (fun K hK => ?_)
  go_simp
  refine (within_b _ _ _ _).mono ?_
  rintro e z13 ⟨he, hz13⟩
  rw [g5'] at he
  subst he
  go_wp2_with fail
  refine hK.out _ _ (hHeld.ext hz13) (fun hNew => ?_)
  clear hK K hHeld hz13
  have hHeld := hNew
  clear hNew
  try simp only [qq]
  refine planH.go [28, 29, 30, 31, 32, 33, 34, 35, 36, 37, 38, 39, 40, 41, 42, 43, 44, 45, 46, 47, 48, 49, 50, 51, 52, 53, 54, 55, 56, 57, 58, 59, 60, 61, 62, 63, 64, 65, 66, 67, 68, 69, 70, 71] ?_
  iterate 2 (apply planH.take (at_lit rfl) (by kernel_rfl) (by rfl) (fun _ _ _ h => h) hHeld; (· intro w9 hSw; have hq := hSw.blk.cell; clear hSw; go_simp; try with_reducible rfl); try simp only [qq])
  iterate 5 (refine planH.skip (at_lit rfl) (by kernel_rfl) (by rfl) (fun _ _ _ h => h) hHeld ?_; try simp only [qq])
  iterate 2 (apply planH.take (at_lit rfl) (by kernel_rfl) (by rfl) (fun _ _ _ h => h) hHeld; (· intro w9 hSw; have hq := hSw.blk.cell; clear hSw; go_simp; try with_reducible rfl); try simp only [qq])
  iterate 3 (refine planH.skip (at_lit rfl) (by kernel_rfl) (by rfl) (fun _ _ _ h => h) hHeld ?_; try simp only [qq])
  iterate 2 (apply planH.take (at_lit rfl) (by kernel_rfl) (by rfl) (fun _ _ _ h => h) hHeld; (· intro w9 hSw; have hq := hSw.blk.cell; clear hSw; go_simp; try with_reducible rfl); try simp only [qq])
  iterate 5 (refine planH.skip (at_lit rfl) (by kernel_rfl) (by rfl) (fun _ _ _ h => h) hHeld ?_; try simp only [qq])
  iterate 2 (apply planH.take (at_lit rfl) (by kernel_rfl) (by rfl) (fun _ _ _ h => h) hHeld; (· intro w9 hSw; have hq := hSw.blk.cell; clear hSw; go_simp; try with_reducible rfl); try simp only [qq])
  iterate 7 (refine planH.skip (at_lit rfl) (by kernel_rfl) (by rfl) (fun _ _ _ h => h) hHeld ?_; try simp only [qq])
  iterate 2 (apply planH.take (at_lit rfl) (by kernel_rfl) (by rfl) (fun _ _ _ h => h) hHeld; (· intro w9 hSw; have hq := hSw.blk.cell; clear hSw; go_simp; try with_reducible rfl); try simp only [qq])
  iterate 4 (refine planH.skip (at_lit rfl) (by kernel_rfl) (by rfl) (fun _ _ _ h => h) hHeld ?_; try simp only [qq])
  iterate 2 (apply planH.take (at_lit rfl) (by kernel_rfl) (by rfl) (fun _ _ _ h => h) hHeld; (· intro w9 hSw; have hq := hSw.blk.cell; clear hSw; go_simp; try with_reducible rfl); try simp only [qq])
  iterate 6 (refine planH.skip (at_lit rfl) (by kernel_rfl) (by rfl) (fun _ _ _ h => h) hHeld ?_; try simp only [qq])
  iterate 2 (apply planH.take (at_lit rfl) (by kernel_rfl) (by rfl) (fun _ _ _ h => h) hHeld; (· intro w9 hSw; have hq := hSw.blk.cell; clear hSw; go_simp; try with_reducible rfl); try simp only [qq])
  refine planH.fin ?_
  refine wpAnyH_done (by kernel_rfl) ?_ _
  go_wp2
  go_ret
  exact ⟨by rw [nv_g5 g5']; rfl, ext_trans hB hHeld.bel⟩
 have g5 : Hid (inB r.heard 0 1000000 = true) := eq_true_of_ne_false g5'
 clear g5'
 exact absurd ⟨g3.out, g4.out, g5.out⟩ hNot.out
theorem iv_c (r : Rc) (p : RcP) (w : World) (hW : Hid (r.wish.length ≤ p.cW)) (h : RcAt w r p) (g0 : Hid ((inB r.of_ 1 5 && inB r.num 1 r.of_) = true)) (g1 : Hid (diskOkB r.sp r.sk r.ss = true)) (g2 : Hid (diskOkB r.dp r.dk r.ds = true)) (g3 : Hid (heldOkB r.num r.of_ r.held = true)) (g4 : Hid (wishesOkB r.wish = true)) (g5 : Hid (inB r.heard 0 1000000 = true)) (hNot : Hid (¬ (numsOkB r.of_ r.yes = true ∧ slotsOkB r.best = true ∧ acksOkB r.of_ r.acks = true))) :
  Calls Tryz.prog 38 #[.agg (rcV r p)] w fun e w' => e = .returned (.bool (validB r)) ∧ Below w.heap.size w w' := by
 have hB : Below w.heap.size w (w.alloc (.cells (rcV r p) 41)) := ext_alloc (Below.refl _ _) _
 have hR := h.ext hB
 have hK0 : RecS (w.alloc (.cells (rcV r p) 41)) w.heap.size r p (w.alloc (.cells (rcV r p) 41)) := ⟨Blk.new w (rcV r p) 41, Below.refl _ _⟩
 clear h
 go_enter Tryz.func38, Tryz.ntmps38
 go_wp2_with fail
 simp only [List.append_eq, List.cons_append, List.nil_append]
 refine wp_region_held_drew (S := RecS (w.alloc (.cells (rcV r p) 41)) w.heap.size r p) (by kernel_rfl) hK0.drew (fun hHeld => ?_)
 clear hK0
 simp only [qz, Nat.reduceAdd]
 refine planH.go [0, 1, 2, 3] ?_
 iterate 4 (apply planH.take (at_lit rfl) (by kernel_rfl) (by rfl) (fun _ _ _ h => h) hHeld; (· intro w9 hSw; have hq := hSw.blk.cell; clear hSw; go_simp; try with_reducible rfl); try simp only [qq])
 refine planH.fin ?_
 have hof : Hid (r.of_ ≤ 1000000) := by
  have h9 := g0.out
  rw [Bool.and_eq_true] at h9
  have := inB_iff.1 h9.1
  unfold Hid
  omega
 refine rdH 4 (by kernel_rfl) (at_lit rfl) (fun K hK => ?_)
 go_simp
 refine (recorderIs_b _ _ _).mono ?_
 rintro e z14 ⟨he, hz14⟩
 rw [g0.out] at he
 subst he
 go_wp2_with fail
 refine hK.out _ _ (hHeld.ext hz14) (fun hNew => ?_)
 clear hK K hHeld hz14
 have hHeld := hNew
 clear hNew
 try simp only [qq]
 refine planH.go [5, 6, 7] ?_
 iterate 3 (apply planH.take (at_lit rfl) (by kernel_rfl) (by rfl) (fun _ _ _ h => h) hHeld; (· intro w9 hSw; have hq := hSw.blk.cell; clear hSw; go_simp; try with_reducible rfl); try simp only [qq])
 refine planH.fin ?_
 refine rdH 8 (by kernel_rfl) (at_lit rfl) (fun K hK => ?_)
 go_simp
 refine (implDiskOk_any r.sp r.sk p.aS r.ss _ p.cS _ rfl hR.lS (by exact (hR.ext hHeld.bel).hS)).mono ?_
 rintro e z15 ⟨he, hz15⟩
 rw [g1.out] at he
 subst he
 go_wp2_with fail
 refine hK.out _ _ (hHeld.ext hz15) (fun hNew => ?_)
 clear hK K hHeld hz15
 have hHeld := hNew
 clear hNew
 try simp only [qq]
 refine planH.go [9, 10, 11, 12] ?_
 iterate 4 (apply planH.take (at_lit rfl) (by kernel_rfl) (by rfl) (fun _ _ _ h => h) hHeld; (· intro w9 hSw; have hq := hSw.blk.cell; clear hSw; go_simp; try with_reducible rfl); try simp only [qq])
 refine planH.fin ?_
 refine rdH 13 (by kernel_rfl) (at_lit rfl) (fun K hK => ?_)
 go_simp
 refine (implDiskOk_any r.dp r.dk p.aD r.ds _ p.cD _ rfl hR.lD (by exact (hR.ext hHeld.bel).hD)).mono ?_
 rintro e z16 ⟨he, hz16⟩
 rw [g2.out] at he
 subst he
 go_wp2_with fail
 refine hK.out _ _ (hHeld.ext hz16) (fun hNew => ?_)
 clear hK K hHeld hz16
 have hHeld := hNew
 clear hNew
 try simp only [qq]
 refine planH.go [14, 15] ?_
 iterate 2 (apply planH.take (at_lit rfl) (by kernel_rfl) (by rfl) (fun _ _ _ h => h) hHeld; (· intro w9 hSw; have hq := hSw.blk.cell; clear hSw; go_simp; try with_reducible rfl); try simp only [qq])
 refine planH.fin ?_
 refine wpAnyH_take (i := 16) (at_lit rfl) (by kernel_rfl) (by kernel_rfl) (by kernel_rfl) (fun _ _ _ h => h) (yields_rec (by rfl) _ rfl rfl) hHeld ?_
 try simp only [qq]
 refine rdH 17 (by kernel_rfl) (at_lit rfl) (fun K hK => ?_)
 go_simp
 refine (implHeldOk r p _ (by exact hR.ext hHeld.bel)).mono ?_
 rintro e z17 ⟨he, hz17⟩
 rw [g3.out] at he
 subst he
 go_wp2_with fail
 refine hK.out _ _ (hHeld.ext hz17) (fun hNew => ?_)
 clear hK K hHeld hz17
 have hHeld := hNew
 clear hNew
 try simp only [qq]
 refine planH.go [18, 19, 20, 21] ?_
 iterate 4 (apply planH.take (at_lit rfl) (by kernel_rfl) (by rfl) (fun _ _ _ h => h) hHeld; (· intro w9 hSw; have hq := hSw.blk.cell; clear hSw; go_simp; try with_reducible rfl); try simp only [qq])
 refine planH.fin ?_
 refine rdH 22 (by kernel_rfl) (at_lit rfl) (fun K hK => ?_)
 go_simp
 refine (implWishesOk p.aW r.wish _ p.cW _ rfl hW.out hR.lW (by exact (hR.ext hHeld.bel).hW)).mono ?_
 rintro e z18 ⟨he, hz18⟩
 rw [g4.out] at he
 subst he
 go_wp2_with fail
 refine hK.out _ _ (hHeld.ext hz18) (fun hNew => ?_)
 clear hK K hHeld hz18
 have hHeld := hNew
 clear hNew
 try simp only [qq]
 refine planH.go [23, 24, 25, 26] ?_
 iterate 4 (apply planH.take (at_lit rfl) (by kernel_rfl) (by rfl) (fun _ _ _ h => h) hHeld; (· intro w9 hSw; have hq := hSw.blk.cell; clear hSw; go_simp; try with_reducible rfl); try simp only [qq])
 refine planH.fin ?_
 refine rdH 27 (by kernel_rfl) (at_lit rfl) (fun K hK => ?_)
 go_simp
 refine (within_b _ _ _ _).mono ?_
 rintro e z19 ⟨he, hz19⟩
 rw [g5.out] at he
 subst he
 go_wp2_with fail
 refine hK.out _ _ (hHeld.ext hz19) (fun hNew => ?_)
 clear hK K hHeld hz19
 have hHeld := hNew
 clear hNew
 try simp only [qq]
 refine planH.go [28, 29, 30, 31, 32, 33] ?_
 iterate 6 (apply planH.take (at_lit rfl) (by kernel_rfl) (by rfl) (fun _ _ _ h => h) hHeld; (· intro w9 hSw; have hq := hSw.blk.cell; clear hSw; go_simp; try with_reducible rfl); try simp only [qq])
 refine planH.fin ?_
 by_cases g6' : numsOkB r.of_ r.yes = false
 ·skip
  refine rdH 34 (by kernel_rfl) (at_lit rfl) (fun K hK => ?_)
  go_simp
  refine (implNumbers_b p.aY r.yes _ p.cY _ _ rfl hR.lY hof.out (by exact (hR.ext hHeld.bel).hY)).mono ?_
  rintro e z20 ⟨he, hz20⟩
  rw [g6'] at he
  subst he
  go_wp2_with fail
  refine hK.out _ _ (hHeld.ext hz20) (fun hNew => ?_)
  clear hK K hHeld hz20
  have hHeld := hNew
  clear hNew
  try simp only [qq]
  refine planH.go [35, 36, 37, 38, 39, 40, 41, 42, 43, 44, 45, 46, 47, 48, 49, 50, 51, 52, 53, 54, 55, 56, 57, 58, 59, 60, 61, 62, 63, 64, 65, 66, 67, 68, 69, 70, 71] ?_
  iterate 2 (apply planH.take (at_lit rfl) (by kernel_rfl) (by rfl) (fun _ _ _ h => h) hHeld; (· intro w9 hSw; have hq := hSw.blk.cell; clear hSw; go_simp; try with_reducible rfl); try simp only [qq])
  iterate 3 (refine planH.skip (at_lit rfl) (by kernel_rfl) (by rfl) (fun _ _ _ h => h) hHeld ?_; try simp only [qq])
  iterate 2 (apply planH.take (at_lit rfl) (by kernel_rfl) (by rfl) (fun _ _ _ h => h) hHeld; (· intro w9 hSw; have hq := hSw.blk.cell; clear hSw; go_simp; try with_reducible rfl); try simp only [qq])
  iterate 5 (refine planH.skip (at_lit rfl) (by kernel_rfl) (by rfl) (fun _ _ _ h => h) hHeld ?_; try simp only [qq])
  iterate 2 (apply planH.take (at_lit rfl) (by kernel_rfl) (by rfl) (fun _ _ _ h => h) hHeld; (· intro w9 hSw; have hq := hSw.blk.cell; clear hSw; go_simp; try with_reducible rfl); try simp only [qq])
  iterate 7 (refine planH.skip (at_lit rfl) (by kernel_rfl) (by rfl) (fun _ _ _ h => h) hHeld ?_; try simp only [qq])
  iterate 2 (apply planH.take (at_lit rfl) (by kernel_rfl) (by rfl) (fun _ _ _ h => h) hHeld; (· intro w9 hSw; have hq := hSw.blk.cell; clear hSw; go_simp; try with_reducible rfl); try simp only [qq])
  iterate 4 (refine planH.skip (at_lit rfl) (by kernel_rfl) (by rfl) (fun _ _ _ h => h) hHeld ?_; try simp only [qq])
  iterate 2 (apply planH.take (at_lit rfl) (by kernel_rfl) (by rfl) (fun _ _ _ h => h) hHeld; (· intro w9 hSw; have hq := hSw.blk.cell; clear hSw; go_simp; try with_reducible rfl); try simp only [qq])
  iterate 6 (refine planH.skip (at_lit rfl) (by kernel_rfl) (by rfl) (fun _ _ _ h => h) hHeld ?_; try simp only [qq])
  iterate 2 (apply planH.take (at_lit rfl) (by kernel_rfl) (by rfl) (fun _ _ _ h => h) hHeld; (· intro w9 hSw; have hq := hSw.blk.cell; clear hSw; go_simp; try with_reducible rfl); try simp only [qq])
  refine planH.fin ?_
  refine wpAnyH_done (by kernel_rfl) ?_ _
  go_wp2
  go_ret
  exact ⟨by rw [nv_g6 g6']; rfl, ext_trans hB hHeld.bel⟩
 have g6 : Hid (numsOkB r.of_ r.yes = true) := eq_true_of_ne_false g6'
 clear g6'
 refine rdH 34 (by kernel_rfl) (at_lit rfl) (fun K hK => ?_)
 go_simp
 refine (implNumbers_b p.aY r.yes _ p.cY _ _ rfl hR.lY hof.out (by exact (hR.ext hHeld.bel).hY)).mono ?_
 rintro e z21 ⟨he, hz21⟩
 rw [g6.out] at he
 subst he
 go_wp2_with fail
 refine hK.out _ _ (hHeld.ext hz21) (fun hNew => ?_)
 clear hK K hHeld hz21
 have hHeld := hNew
 clear hNew
 try simp only [qq]
 refine planH.go [35, 36, 37, 38] ?_
 iterate 4 (apply planH.take (at_lit rfl) (by kernel_rfl) (by rfl) (fun _ _ _ h => h) hHeld; (· intro w9 hSw; have hq := hSw.blk.cell; clear hSw; go_simp; try with_reducible rfl); try simp only [qq])
 refine planH.fin ?_
 by_cases g7' : slotsOkB r.best = false
 ·skip
  refine rdH 39 (by kernel_rfl) (at_lit rfl) (fun K hK => ?_)
  go_simp
  refine (implSlotsOk p.aB r.best _ p.cB _ rfl hR.lB (by exact (hR.ext hHeld.bel).hB)).mono ?_
  rintro e z22 ⟨he, hz22⟩
  rw [g7'] at he
  subst he
  go_wp2_with fail
  refine hK.out _ _ (hHeld.ext hz22) (fun hNew => ?_)
  clear hK K hHeld hz22
  have hHeld := hNew
  clear hNew
  try simp only [qq]
  refine planH.go [40, 41, 42, 43, 44, 45, 46, 47, 48, 49, 50, 51, 52, 53, 54, 55, 56, 57, 58, 59, 60, 61, 62, 63, 64, 65, 66, 67, 68, 69, 70, 71] ?_
  iterate 2 (apply planH.take (at_lit rfl) (by kernel_rfl) (by rfl) (fun _ _ _ h => h) hHeld; (· intro w9 hSw; have hq := hSw.blk.cell; clear hSw; go_simp; try with_reducible rfl); try simp only [qq])
  iterate 5 (refine planH.skip (at_lit rfl) (by kernel_rfl) (by rfl) (fun _ _ _ h => h) hHeld ?_; try simp only [qq])
  iterate 2 (apply planH.take (at_lit rfl) (by kernel_rfl) (by rfl) (fun _ _ _ h => h) hHeld; (· intro w9 hSw; have hq := hSw.blk.cell; clear hSw; go_simp; try with_reducible rfl); try simp only [qq])
  iterate 7 (refine planH.skip (at_lit rfl) (by kernel_rfl) (by rfl) (fun _ _ _ h => h) hHeld ?_; try simp only [qq])
  iterate 2 (apply planH.take (at_lit rfl) (by kernel_rfl) (by rfl) (fun _ _ _ h => h) hHeld; (· intro w9 hSw; have hq := hSw.blk.cell; clear hSw; go_simp; try with_reducible rfl); try simp only [qq])
  iterate 4 (refine planH.skip (at_lit rfl) (by kernel_rfl) (by rfl) (fun _ _ _ h => h) hHeld ?_; try simp only [qq])
  iterate 2 (apply planH.take (at_lit rfl) (by kernel_rfl) (by rfl) (fun _ _ _ h => h) hHeld; (· intro w9 hSw; have hq := hSw.blk.cell; clear hSw; go_simp; try with_reducible rfl); try simp only [qq])
  iterate 6 (refine planH.skip (at_lit rfl) (by kernel_rfl) (by rfl) (fun _ _ _ h => h) hHeld ?_; try simp only [qq])
  iterate 2 (apply planH.take (at_lit rfl) (by kernel_rfl) (by rfl) (fun _ _ _ h => h) hHeld; (· intro w9 hSw; have hq := hSw.blk.cell; clear hSw; go_simp; try with_reducible rfl); try simp only [qq])
  refine planH.fin ?_
  refine wpAnyH_done (by kernel_rfl) ?_ _
  go_wp2
  go_ret
  exact ⟨by rw [nv_g7 g7']; rfl, ext_trans hB hHeld.bel⟩
 have g7 : Hid (slotsOkB r.best = true) := eq_true_of_ne_false g7'
 clear g7'
 refine rdH 39 (by kernel_rfl) (at_lit rfl) (fun K hK => ?_)
 go_simp
 refine (implSlotsOk p.aB r.best _ p.cB _ rfl hR.lB (by exact (hR.ext hHeld.bel).hB)).mono ?_
 rintro e z23 ⟨he, hz23⟩
 rw [g7.out] at he
 subst he
 go_wp2_with fail
 refine hK.out _ _ (hHeld.ext hz23) (fun hNew => ?_)
 clear hK K hHeld hz23
 have hHeld := hNew
 clear hNew
 try simp only [qq]
 refine planH.go [40, 41, 42, 43, 44, 45] ?_
 iterate 6 (apply planH.take (at_lit rfl) (by kernel_rfl) (by rfl) (fun _ _ _ h => h) hHeld; (· intro w9 hSw; have hq := hSw.blk.cell; clear hSw; go_simp; try with_reducible rfl); try simp only [qq])
 refine planH.fin ?_
 by_cases g8' : acksOkB r.of_ r.acks = false
 ·skip
  refine rdH 46 (by kernel_rfl) (at_lit rfl) (fun K hK => ?_)
  go_simp
  refine (implAcksOk p.aA r.acks _ p.cA _ _ rfl hR.lA hof.out (by exact (hR.ext hHeld.bel).hA)).mono ?_
  rintro e z24 ⟨he, hz24⟩
  rw [g8'] at he
  subst he
  go_wp2_with fail
  refine hK.out _ _ (hHeld.ext hz24) (fun hNew => ?_)
  clear hK K hHeld hz24
  have hHeld := hNew
  clear hNew
  try simp only [qq]
  refine planH.go [47, 48, 49, 50, 51, 52, 53, 54, 55, 56, 57, 58, 59, 60, 61, 62, 63, 64, 65, 66, 67, 68, 69, 70, 71] ?_
  iterate 2 (apply planH.take (at_lit rfl) (by kernel_rfl) (by rfl) (fun _ _ _ h => h) hHeld; (· intro w9 hSw; have hq := hSw.blk.cell; clear hSw; go_simp; try with_reducible rfl); try simp only [qq])
  iterate 7 (refine planH.skip (at_lit rfl) (by kernel_rfl) (by rfl) (fun _ _ _ h => h) hHeld ?_; try simp only [qq])
  iterate 2 (apply planH.take (at_lit rfl) (by kernel_rfl) (by rfl) (fun _ _ _ h => h) hHeld; (· intro w9 hSw; have hq := hSw.blk.cell; clear hSw; go_simp; try with_reducible rfl); try simp only [qq])
  iterate 4 (refine planH.skip (at_lit rfl) (by kernel_rfl) (by rfl) (fun _ _ _ h => h) hHeld ?_; try simp only [qq])
  iterate 2 (apply planH.take (at_lit rfl) (by kernel_rfl) (by rfl) (fun _ _ _ h => h) hHeld; (· intro w9 hSw; have hq := hSw.blk.cell; clear hSw; go_simp; try with_reducible rfl); try simp only [qq])
  iterate 6 (refine planH.skip (at_lit rfl) (by kernel_rfl) (by rfl) (fun _ _ _ h => h) hHeld ?_; try simp only [qq])
  iterate 2 (apply planH.take (at_lit rfl) (by kernel_rfl) (by rfl) (fun _ _ _ h => h) hHeld; (· intro w9 hSw; have hq := hSw.blk.cell; clear hSw; go_simp; try with_reducible rfl); try simp only [qq])
  refine planH.fin ?_
  refine wpAnyH_done (by kernel_rfl) ?_ _
  go_wp2
  go_ret
  exact ⟨by rw [nv_g8 g8']; rfl, ext_trans hB hHeld.bel⟩
 have g8 : Hid (acksOkB r.of_ r.acks = true) := eq_true_of_ne_false g8'
 clear g8'
 exact absurd ⟨g6.out, g7.out, g8.out⟩ hNot.out
end Go.Proofs.YtffklmlljekceaaGreat
