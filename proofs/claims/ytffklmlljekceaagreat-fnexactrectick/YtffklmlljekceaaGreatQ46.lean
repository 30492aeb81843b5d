import Derived.Test.YtffklmlljekceaaGreatQ10
namespace Go.Proofs.YtffklmlljekceaaGreat
open Go.ChangeShapes Go.WideShapes Go.ChangeAt Go.RowKit Go.Deep Go.Joins
set_option linter.unusedSimpArgs false
set_option linter.unusedVariables false
set_option maxHeartbeats 40000000
set_option maxRecDepth 20000
theorem iv_d (r : Rc) (p : RcP) (w : World) (hW : Hid (r.wish.length ≤ p.cW)) (h : RcAt w r p) (g0 : Hid ((inB r.of_ 1 5 && inB r.num 1 r.of_) = true)) (g1 : Hid (diskOkB r.sp r.sk r.ss = true)) (g2 : Hid (diskOkB r.dp r.dk r.ds = true)) (g3 : Hid (heldOkB r.num r.of_ r.held = true)) (g4 : Hid (wishesOkB r.wish = true)) (g5 : Hid (inB r.heard 0 1000000 = true)) (g6 : Hid (numsOkB r.of_ r.yes = true)) (g7 : Hid (slotsOkB r.best = true)) (g8 : Hid (acksOkB r.of_ r.acks = true)) (hl : r.lead = true) (ht : r.tr = true) :
  Calls Tryz.prog 38 #[.agg (rcV r p)] w fun e w' => e = .returned (.bool (validB r)) ∧ Below w.heap.size w w' := by
 have hB : Below w.heap.size w (w.alloc (.cells (rcV r p) 41)) := ext_alloc (Below.refl _ _) _
 have hR := h.ext hB
 have hK0 : RecS (w.alloc (.cells (rcV r p) 41)) w.heap.size r p (w.alloc (.cells (rcV r p) 41)) := ⟨Blk.new w (rcV r p) 41, Below.refl _ _⟩
 clear h
 go_enter Tryz.func38, Tryz.ntmps38
 go_wp2_with fail
 simp only [List.append_eq, List.cons_append, List.nil_append]
 refine wp_region_held_drew (S := RecS (w.alloc (.cells (rcV r p) 41)) w.heap.size r p) (by kernel_rfl) hK0.drew (fun hHeld => ?_)
 clear hK0
 simp only [qz, Nat.reduceAdd]
 refine planH.go [0, 1, 2, 3] ?_
 iterate 4 (apply planH.take (at_lit rfl) (by kernel_rfl) (by rfl) (fun _ _ _ h => h) hHeld; (· intro w9 hSw; have hq := hSw.blk.cell; clear hSw; go_simp; try with_reducible rfl); try simp only [qq])
 refine planH.fin ?_
 have hof : Hid (r.of_ ≤ 1000000) := by
  have h9 := g0.out
  rw [Bool.and_eq_true] at h9
  have := inB_iff.1 h9.1
  unfold Hid
  omega
 refine rdH 4 (by kernel_rfl) (at_lit rfl) (fun K hK => ?_)
 go_simp
 refine (recorderIs_b _ _ _).mono ?_
 rintro e z25 ⟨he, hz25⟩
 rw [g0.out] at he
 subst he
 go_wp2_with fail
 refine hK.out _ _ (hHeld.ext hz25) (fun hNew => ?_)
 clear hK K hHeld hz25
 have hHeld := hNew
 clear hNew
 try simp only [qq]
 refine planH.go [5, 6, 7] ?_
 iterate 3 (apply planH.take (at_lit rfl) (by kernel_rfl) (by rfl) (fun _ _ _ h => h) hHeld; (· intro w9 hSw; have hq := hSw.blk.cell; clear hSw; go_simp; try with_reducible rfl); try simp only [qq])
 refine planH.fin ?_
 refine rdH 8 (by kernel_rfl) (at_lit rfl) (fun K hK => ?_)
 go_simp
 refine (implDiskOk_any r.sp r.sk p.aS r.ss _ p.cS _ rfl hR.lS (by exact (hR.ext hHeld.bel).hS)).mono ?_
 rintro e z26 ⟨he, hz26⟩
 rw [g1.out] at he
 subst he
 go_wp2_with fail
 refine hK.out _ _ (hHeld.ext hz26) (fun hNew => ?_)
 clear hK K hHeld hz26
 have hHeld := hNew
 clear hNew
 try simp only [qq]
 refine planH.go [9, 10, 11, 12] ?_
 iterate 4 (apply planH.take (at_lit rfl) (by kernel_rfl) (by rfl) (fun _ _ _ h => h) hHeld; (· intro w9 hSw; have hq := hSw.blk.cell; clear hSw; go_simp; try with_reducible rfl); try simp only [qq])
 refine planH.fin ?_
 refine rdH 13 (by kernel_rfl) (at_lit rfl) (fun K hK => ?_)
 go_simp
 refine (implDiskOk_any r.dp r.dk p.aD r.ds _ p.cD _ rfl hR.lD (by exact (hR.ext hHeld.bel).hD)).mono ?_
 rintro e z27 ⟨he, hz27⟩
 rw [g2.out] at he
 subst he
 go_wp2_with fail
 refine hK.out _ _ (hHeld.ext hz27) (fun hNew => ?_)
 clear hK K hHeld hz27
 have hHeld := hNew
 clear hNew
 try simp only [qq]
 refine planH.go [14, 15] ?_
 iterate 2 (apply planH.take (at_lit rfl) (by kernel_rfl) (by rfl) (fun _ _ _ h => h) hHeld; (· intro w9 hSw; have hq := hSw.blk.cell; clear hSw; go_simp; try with_reducible rfl); try simp only [qq])
 refine planH.fin ?_
 refine wpAnyH_take (i := 16) (at_lit rfl) (by kernel_rfl) (by kernel_rfl) (by kernel_rfl) (fun _ _ _ h => h) (yields_rec (by rfl) _ rfl rfl) hHeld ?_
 try simp only [qq]
 refine rdH 17 (by kernel_rfl) (at_lit rfl) (fun K hK => ?_)
 go_simp
 refine (implHeldOk r p _ (by exact hR.ext hHeld.bel)).mono ?_
 rintro e z28 ⟨he, hz28⟩
 rw [g3.out] at he
 subst he
 go_wp2_with fail
 refine hK.out _ _ (hHeld.ext hz28) (fun hNew => ?_)
 clear hK K hHeld hz28
 have hHeld := hNew
 clear hNew
 try simp only [qq]
 refine planH.go [18, 19, 20, 21] ?_
 iterate 4 (apply planH.take (at_lit rfl) (by kernel_rfl) (by rfl) (fun _ _ _ h => h) hHeld; (· intro w9 hSw; have hq := hSw.blk.cell; clear hSw; go_simp; try with_reducible rfl); try simp only [qq])
 refine planH.fin ?_
 refine rdH 22 (by kernel_rfl) (at_lit rfl) (fun K hK => ?_)
 go_simp
 refine (implWishesOk p.aW r.wish _ p.cW _ rfl hW.out hR.lW (by exact (hR.ext hHeld.bel).hW)).mono ?_
 rintro e z29 ⟨he, hz29⟩
 rw [g4.out] at he
 subst he
 go_wp2_with fail
 refine hK.out _ _ (hHeld.ext hz29) (fun hNew => ?_)
 clear hK K hHeld hz29
 have hHeld := hNew
 clear hNew
 try simp only [qq]
 refine planH.go [23, 24, 25, 26] ?_
 iterate 4 (apply planH.take (at_lit rfl) (by kernel_rfl) (by rfl) (fun _ _ _ h => h) hHeld; (· intro w9 hSw; have hq := hSw.blk.cell; clear hSw; go_simp; try with_reducible rfl); try simp only [qq])
 refine planH.fin ?_
 refine rdH 27 (by kernel_rfl) (at_lit rfl) (fun K hK => ?_)
 go_simp
 refine (within_b _ _ _ _).mono ?_
 rintro e z30 ⟨he, hz30⟩
 rw [g5.out] at he
 subst he
 go_wp2_with fail
 refine hK.out _ _ (hHeld.ext hz30) (fun hNew => ?_)
 clear hK K hHeld hz30
 have hHeld := hNew
 clear hNew
 try simp only [qq]
 refine planH.go [28, 29, 30, 31, 32, 33] ?_
 iterate 6 (apply planH.take (at_lit rfl) (by kernel_rfl) (by rfl) (fun _ _ _ h => h) hHeld; (· intro w9 hSw; have hq := hSw.blk.cell; clear hSw; go_simp; try with_reducible rfl); try simp only [qq])
 refine planH.fin ?_
 refine rdH 34 (by kernel_rfl) (at_lit rfl) (fun K hK => ?_)
 go_simp
 refine (implNumbers_b p.aY r.yes _ p.cY _ _ rfl hR.lY hof.out (by exact (hR.ext hHeld.bel).hY)).mono ?_
 rintro e z31 ⟨he, hz31⟩
 rw [g6.out] at he
 subst he
 go_wp2_with fail
 refine hK.out _ _ (hHeld.ext hz31) (fun hNew => ?_)
 clear hK K hHeld hz31
 have hHeld := hNew
 clear hNew
 try simp only [qq]
 refine planH.go [35, 36, 37, 38] ?_
 iterate 4 (apply planH.take (at_lit rfl) (by kernel_rfl) (by rfl) (fun _ _ _ h => h) hHeld; (· intro w9 hSw; have hq := hSw.blk.cell; clear hSw; go_simp; try with_reducible rfl); try simp only [qq])
 refine planH.fin ?_
 refine rdH 39 (by kernel_rfl) (at_lit rfl) (fun K hK => ?_)
 go_simp
 refine (implSlotsOk p.aB r.best _ p.cB _ rfl hR.lB (by exact (hR.ext hHeld.bel).hB)).mono ?_
 rintro e z32 ⟨he, hz32⟩
 rw [g7.out] at he
 subst he
 go_wp2_with fail
 refine hK.out _ _ (hHeld.ext hz32) (fun hNew => ?_)
 clear hK K hHeld hz32
 have hHeld := hNew
 clear hNew
 try simp only [qq]
 refine planH.go [40, 41, 42, 43, 44, 45] ?_
 iterate 6 (apply planH.take (at_lit rfl) (by kernel_rfl) (by rfl) (fun _ _ _ h => h) hHeld; (· intro w9 hSw; have hq := hSw.blk.cell; clear hSw; go_simp; try with_reducible rfl); try simp only [qq])
 refine planH.fin ?_
 refine rdH 46 (by kernel_rfl) (at_lit rfl) (fun K hK => ?_)
 go_simp
 refine (implAcksOk p.aA r.acks _ p.cA _ _ rfl hR.lA hof.out (by exact (hR.ext hHeld.bel).hA)).mono ?_
 rintro e z33 ⟨he, hz33⟩
 rw [g8.out] at he
 subst he
 go_wp2_with fail
 refine hK.out _ _ (hHeld.ext hz33) (fun hNew => ?_)
 clear hK K hHeld hz33
 have hHeld := hNew
 clear hNew
 try simp only [qq]
 refine planH.go [47, 48, 49, 50, 51, 52, 53, 54, 55, 56, 57, 58, 59, 60, 61, 62, 63, 64, 65, 66, 67, 68, 69, 70, 71] ?_
 iterate 11 (apply planH.take (at_lit rfl) (by kernel_rfl) (by rfl) (fun _ _ _ h => h) hHeld; (· intro w9 hSw; have hq := hSw.blk.cell; clear hSw; go_simp; try with_reducible rfl); try simp only [qq])
 iterate 4 (refine planH.skip (at_lit rfl) (by kernel_rfl) (by rfl) (fun _ _ _ h => h) hHeld ?_; try simp only [qq])
 iterate 2 (apply planH.take (at_lit rfl) (by kernel_rfl) (by rfl) (fun _ _ _ h => h) hHeld; (· intro w9 hSw; have hq := hSw.blk.cell; clear hSw; go_simp; try with_reducible rfl); try simp only [qq])
 iterate 6 (refine planH.skip (at_lit rfl) (by kernel_rfl) (by rfl) (fun _ _ _ h => h) hHeld ?_; try simp only [qq])
 iterate 2 (apply planH.take (at_lit rfl) (by kernel_rfl) (by rfl) (fun _ _ _ h => h) hHeld; (· intro w9 hSw; have hq := hSw.blk.cell; clear hSw; go_simp; try with_reducible rfl); try simp only [qq])
 refine planH.fin ?_
 refine wpAnyH_done (by kernel_rfl) ?_ _
 go_wp2
 go_ret
 exact ⟨by rw [nv_g9 (by simp [hl, ht])]; rfl, ext_trans hB hHeld.bel⟩
theorem iv_e (r : Rc) (p : RcP) (w : World) (hW : Hid (r.wish.length ≤ p.cW)) (h : RcAt w r p) (g0 : Hid ((inB r.of_ 1 5 && inB r.num 1 r.of_) = true)) (g1 : Hid (diskOkB r.sp r.sk r.ss = true)) (g2 : Hid (diskOkB r.dp r.dk r.ds = true)) (g3 : Hid (heldOkB r.num r.of_ r.held = true)) (g4 : Hid (wishesOkB r.wish = true)) (g5 : Hid (inB r.heard 0 1000000 = true)) (g6 : Hid (numsOkB r.of_ r.yes = true)) (g7 : Hid (slotsOkB r.best = true)) (g8 : Hid (acksOkB r.of_ r.acks = true)) (hl : r.lead = true) (ht : r.tr = false) :
  Calls Tryz.prog 38 #[.agg (rcV r p)] w fun e w' => e = .returned (.bool (validB r)) ∧ Below w.heap.size w w' := by
 have hB : Below w.heap.size w (w.alloc (.cells (rcV r p) 41)) := ext_alloc (Below.refl _ _) _
 have hR := h.ext hB
 have hK0 : RecS (w.alloc (.cells (rcV r p) 41)) w.heap.size r p (w.alloc (.cells (rcV r p) 41)) := ⟨Blk.new w (rcV r p) 41, Below.refl _ _⟩
 clear h
 go_enter Tryz.func38, Tryz.ntmps38
 go_wp2_with fail
 simp only [List.append_eq, List.cons_append, List.nil_append]
 refine wp_region_held_drew (S := RecS (w.alloc (.cells (rcV r p) 41)) w.heap.size r p) (by kernel_rfl) hK0.drew (fun hHeld => ?_)
 clear hK0
 simp only [qz, Nat.reduceAdd]
 refine planH.go [0, 1, 2, 3] ?_
 iterate 4 (apply planH.take (at_lit rfl) (by kernel_rfl) (by rfl) (fun _ _ _ h => h) hHeld; (· intro w9 hSw; have hq := hSw.blk.cell; clear hSw; go_simp; try with_reducible rfl); try simp only [qq])
 refine planH.fin ?_
 have hof : Hid (r.of_ ≤ 1000000) := by
  have h9 := g0.out
  rw [Bool.and_eq_true] at h9
  have := inB_iff.1 h9.1
  unfold Hid
  omega
 refine rdH 4 (by kernel_rfl) (at_lit rfl) (fun K hK => ?_)
 go_simp
 refine (recorderIs_b _ _ _).mono ?_
 rintro e z34 ⟨he, hz34⟩
 rw [g0.out] at he
 subst he
 go_wp2_with fail
 refine hK.out _ _ (hHeld.ext hz34) (fun hNew => ?_)
 clear hK K hHeld hz34
 have hHeld := hNew
 clear hNew
 try simp only [qq]
 refine planH.go [5, 6, 7] ?_
 iterate 3 (apply planH.take (at_lit rfl) (by kernel_rfl) (by rfl) (fun _ _ _ h => h) hHeld; (· intro w9 hSw; have hq := hSw.blk.cell; clear hSw; go_simp; try with_reducible rfl); try simp only [qq])
 refine planH.fin ?_
 refine rdH 8 (by kernel_rfl) (at_lit rfl) (fun K hK => ?_)
 go_simp
 refine (implDiskOk_any r.sp r.sk p.aS r.ss _ p.cS _ rfl hR.lS (by exact (hR.ext hHeld.bel).hS)).mono ?_
 rintro e z35 ⟨he, hz35⟩
 rw [g1.out] at he
 subst he
 go_wp2_with fail
 refine hK.out _ _ (hHeld.ext hz35) (fun hNew => ?_)
 clear hK K hHeld hz35
 have hHeld := hNew
 clear hNew
 try simp only [qq]
 refine planH.go [9, 10, 11, 12] ?_
 iterate 4 (apply planH.take (at_lit rfl) (by kernel_rfl) (by rfl) (fun _ _ _ h => h) hHeld; (· intro w9 hSw; have hq := hSw.blk.cell; clear hSw; go_simp; try with_reducible rfl); try simp only [qq])
 refine planH.fin ?_
 refine rdH 13 (by kernel_rfl) (at_lit rfl) (fun K hK => ?_)
 go_simp
 refine (implDiskOk_any r.dp r.dk p.aD r.ds _ p.cD _ rfl hR.lD (by exact (hR.ext hHeld.bel).hD)).mono ?_
 rintro e z36 ⟨he, hz36⟩
 rw [g2.out] at he
 subst he
 go_wp2_with fail
 refine hK.out _ _ (hHeld.ext hz36) (fun hNew => ?_)
 clear hK K hHeld hz36
 have hHeld := hNew
 clear hNew
 try simp only [qq]
 refine planH.go [14, 15] ?_
 iterate 2 (apply planH.take (at_lit rfl) (by kernel_rfl) (by rfl) (fun _ _ _ h => h) hHeld; (· intro w9 hSw; have hq := hSw.blk.cell; clear hSw; go_simp; try with_reducible rfl); try simp only [qq])
 refine planH.fin ?_
 refine wpAnyH_take (i := 16) (at_lit rfl) (by kernel_rfl) (by kernel_rfl) (by kernel_rfl) (fun _ _ _ h => h) (yields_rec (by rfl) _ rfl rfl) hHeld ?_
 try simp only [qq]
 refine rdH 17 (by kernel_rfl) (at_lit rfl) (fun K hK => ?_)
 go_simp
 refine (implHeldOk r p _ (by exact hR.ext hHeld.bel)).mono ?_
 rintro e z37 ⟨he, hz37⟩
 rw [g3.out] at he
 subst he
 go_wp2_with fail
 refine hK.out _ _ (hHeld.ext hz37) (fun hNew => ?_)
 clear hK K hHeld hz37
 have hHeld := hNew
 clear hNew
 try simp only [qq]
 refine planH.go [18, 19, 20, 21] ?_
 iterate 4 (apply planH.take (at_lit rfl) (by kernel_rfl) (by rfl) (fun _ _ _ h => h) hHeld; (· intro w9 hSw; have hq := hSw.blk.cell; clear hSw; go_simp; try with_reducible rfl); try simp only [qq])
 refine planH.fin ?_
 refine rdH 22 (by kernel_rfl) (at_lit rfl) (fun K hK => ?_)
 go_simp
 refine (implWishesOk p.aW r.wish _ p.cW _ rfl hW.out hR.lW (by exact (hR.ext hHeld.bel).hW)).mono ?_
 rintro e z38 ⟨he, hz38⟩
 rw [g4.out] at he
 subst he
 go_wp2_with fail
 refine hK.out _ _ (hHeld.ext hz38) (fun hNew => ?_)
 clear hK K hHeld hz38
 have hHeld := hNew
 clear hNew
 try simp only [qq]
 refine planH.go [23, 24, 25, 26] ?_
 iterate 4 (apply planH.take (at_lit rfl) (by kernel_rfl) (by rfl) (fun _ _ _ h => h) hHeld; (· intro w9 hSw; have hq := hSw.blk.cell; clear hSw; go_simp; try with_reducible rfl); try simp only [qq])
 refine planH.fin ?_
 refine rdH 27 (by kernel_rfl) (at_lit rfl) (fun K hK => ?_)
 go_simp
 refine (within_b _ _ _ _).mono ?_
 rintro e z39 ⟨he, hz39⟩
 rw [g5.out] at he
 subst he
 go_wp2_with fail
 refine hK.out _ _ (hHeld.ext hz39) (fun hNew => ?_)
 clear hK K hHeld hz39
 have hHeld := hNew
 clear hNew
 try simp only [qq]
 refine planH.go [28, 29, 30, 31, 32, 33] ?_
 iterate 6 (apply planH.take (at_lit rfl) (by kernel_rfl) (by rfl) (fun _ _ _ h => h) hHeld; (· intro w9 hSw; have hq := hSw.blk.cell; clear hSw; go_simp; try with_reducible rfl); try simp only [qq])
 refine planH.fin ?_
 refine rdH 34 (by kernel_rfl) (at_lit rfl) (fun K hK => ?_)
 go_simp
 refine (implNumbers_b p.aY r.yes _ p.cY _ _ rfl hR.lY hof.out (by exact (hR.ext hHeld.bel).hY)).mono ?_
 rintro e z40 ⟨he, hz40⟩
 rw [g6.out] at he
 subst he
 go_wp2_with fail
 refine hK.out _ _ (hHeld.ext hz40) (fun hNew => ?_)
 clear hK K hHeld hz40
 have hHeld := hNew
 clear hNew
 try simp only [qq]
 refine planH.go [35, 36, 37, 38] ?_
 iterate 4 (apply planH.take (at_lit rfl) (by kernel_rfl) (by rfl) (fun _ _ _ h => h) hHeld; (· intro w9 hSw; have hq := hSw.blk.cell; clear hSw; go_simp; try with_reducible rfl); try simp only [qq])
 refine planH.fin ?_
 refine rdH 39 (by kernel_rfl) (at_lit rfl) (fun K hK => ?_)
 go_simp
 refine (implSlotsOk p.aB r.best _ p.cB _ rfl hR.lB (by exact (hR.ext hHeld.bel).hB)).mono ?_
 rintro e z41 ⟨he, hz41⟩
 rw [g7.out] at he
 subst he
 go_wp2_with fail
 refine hK.out _ _ (hHeld.ext hz41) (fun hNew => ?_)
 clear hK K hHeld hz41
 have hHeld := hNew
 clear hNew
 try simp only [qq]
 refine planH.go [40, 41, 42, 43, 44, 45] ?_
 iterate 6 (apply planH.take (at_lit rfl) (by kernel_rfl) (by rfl) (fun _ _ _ h => h) hHeld; (· intro w9 hSw; have hq := hSw.blk.cell; clear hSw; go_simp; try with_reducible rfl); try simp only [qq])
 refine planH.fin ?_
 refine rdH 46 (by kernel_rfl) (at_lit rfl) (fun K hK => ?_)
 go_simp
 refine (implAcksOk p.aA r.acks _ p.cA _ _ rfl hR.lA hof.out (by exact (hR.ext hHeld.bel).hA)).mono ?_
 rintro e z42 ⟨he, hz42⟩
 rw [g8.out] at he
 subst he
 go_wp2_with fail
 refine hK.out _ _ (hHeld.ext hz42) (fun hNew => ?_)
 clear hK K hHeld hz42
 have hHeld := hNew
 clear hNew
 try simp only [qq]
 refine planH.go [47, 48, 49, 50, 51, 52, 53, 54, 55, 56, 57] ?_
 iterate 11 (apply planH.take (at_lit rfl) (by kernel_rfl) (by rfl) (fun _ _ _ h => h) hHeld; (· intro w9 hSw; have hq := hSw.blk.cell; clear hSw; go_simp; try with_reducible rfl); try simp only [qq])
 refine planH.fin ?_
 refine wpAnyH_take (i := 58) (at_lit rfl) (by kernel_rfl) (by kernel_rfl) (by kernel_rfl) (fun _ _ _ h => h) (yields_rec (by rfl) _ rfl rfl) hHeld ?_
 try simp only [qq]
 refine wpAnyH_take (i := 60) (at_lit rfl) (by kernel_rfl) (by kernel_rfl) (by kernel_rfl) (fun _ _ _ h => h) (yields_rec (by rfl) _ rfl rfl) hHeld ?_
 try simp only [qq]
 refine rdH 59 (by kernel_rfl) (at_lit rfl) (fun K hK => ?_)
 go_simp
 refine (roleOf_any r p _).mono ?_
 rintro e z43 ⟨he, hz43⟩
 rw [show roleV r = .iface 140 (.agg #[]) by simp [roleV, hl, ht]] at he
 subst he
 go_wp2_with fail
 refine hK.out _ _ (hHeld.ext hz43) (fun hNew => ?_)
 clear hK K hHeld hz43
 have hHeld := hNew
 clear hNew
 try simp only [qq]
 by_cases g' : leadB r = false
 ·skip
  refine rdH 61 (by kernel_rfl) (at_lit rfl) (fun K hK => ?_)
  go_simp
  skip
  refine (lead_any r p _).mono ?_
  rintro e z44 ⟨he, hz44⟩
  rw [g'] at he
  subst he
  go_wp2_with fail
  refine hK.out _ _ (hHeld.ext hz44) (fun hNew => ?_)
  clear hK K hHeld hz44
  have hHeld := hNew
  clear hNew
  try simp only [qq]
  refine planH.go [62, 63, 64, 65, 66, 67, 68, 69, 70, 71] ?_
  iterate 2 (apply planH.take (at_lit rfl) (by kernel_rfl) (by rfl) (fun _ _ _ h => h) hHeld; (· intro w9 hSw; have hq := hSw.blk.cell; clear hSw; go_simp; try with_reducible rfl); try simp only [qq])
  iterate 6 (refine planH.skip (at_lit rfl) (by kernel_rfl) (by rfl) (fun _ _ _ h => h) hHeld ?_; try simp only [qq])
  iterate 2 (apply planH.take (at_lit rfl) (by kernel_rfl) (by rfl) (fun _ _ _ h => h) hHeld; (· intro w9 hSw; have hq := hSw.blk.cell; clear hSw; go_simp; try with_reducible rfl); try simp only [qq])
  refine planH.fin ?_
  refine wpAnyH_done (by kernel_rfl) ?_ _
  go_wp2
  go_ret
  exact ⟨by rw [nv_g10 (show roleB r = false by simp [roleB, hl, ht, g'])]; rfl, ext_trans hB hHeld.bel⟩
 have g10 : Hid (roleB r = true) := by unfold Hid; simp [roleB, hl, ht, eq_true_of_ne_false g']
 refine rdH 61 (by kernel_rfl) (at_lit rfl) (fun K hK => ?_)
 go_simp
 skip
 refine (lead_any r p _).mono ?_
 rintro e z45 ⟨he, hz45⟩
 rw [eq_true_of_ne_false g'] at he
 subst he
 go_wp2_with fail
 refine hK.out _ _ (hHeld.ext hz45) (fun hNew => ?_)
 clear hK K hHeld hz45
 have hHeld := hNew
 clear hNew
 try simp only [qq]
 clear g'
 have HV : Hid (validB r = (r.up || downB r)) := valid_last g0.out g1.out g2.out g3.out g4.out g5.out g6.out g7.out g8.out (by simp [hl, ht]) g10.out
 refine planH.go [62, 63, 64] ?_
 iterate 3 (apply planH.take (at_lit rfl) (by kernel_rfl) (by rfl) (fun _ _ _ h => h) hHeld; (· intro w9 hSw; have hq := hSw.blk.cell; clear hSw; go_simp; try with_reducible rfl); try simp only [qq])
 refine planH.fin ?_
 by_cases hu : r.up = true
 ·skip
  refine planH.go [65, 66, 67, 68, 69, 70, 71] ?_
  iterate 2 (apply planH.take (at_lit rfl) (by kernel_rfl) (by rfl) (fun _ _ _ h => h) hHeld; (· intro w9 hSw; have hq := hSw.blk.cell; clear hSw; go_simp; try with_reducible rfl); try simp only [qq])
  iterate 2 (refine planH.skip (at_lit rfl) (by kernel_rfl) (by rfl) (fun _ _ _ h => h) hHeld ?_; try simp only [qq])
  iterate 3 (apply planH.take (at_lit rfl) (by kernel_rfl) (by rfl) (fun _ _ _ h => h) hHeld; (· intro w9 hSw; have hq := hSw.blk.cell; clear hSw; go_simp; try with_reducible rfl); try simp only [qq])
  refine planH.fin ?_
  refine wpAnyH_done (by kernel_rfl) ?_ _
  go_wp2
  go_ret
  exact ⟨by rw [HV.out, hu]; rfl, ext_trans hB hHeld.bel⟩
 skip
 refine planH.go [65, 66] ?_
 iterate 2 (apply planH.take (at_lit rfl) (by kernel_rfl) (by rfl) (fun _ _ _ h => h) hHeld; (· intro w9 hSw; have hq := hSw.blk.cell; clear hSw; go_simp; try with_reducible rfl); try simp only [qq])
 refine planH.fin ?_
 refine wpAnyH_take (i := 67) (at_lit rfl) (by kernel_rfl) (by kernel_rfl) (by kernel_rfl) (fun _ _ _ h => h) (yields_rec (by rfl) _ rfl rfl) hHeld ?_
 try simp only [qq]
 refine rdH 68 (by kernel_rfl) (at_lit rfl) (fun K hK => ?_)
 go_simp
 refine (downOk_any r p _).mono ?_
 rintro e z46 ⟨he, hz46⟩
 skip
 subst he
 go_wp2_with fail
 refine hK.out _ _ (hHeld.ext hz46) (fun hNew => ?_)
 clear hK K hHeld hz46
 have hHeld := hNew
 clear hNew
 try simp only [qq]
 refine planH.go [69, 70, 71] ?_
 iterate 3 (apply planH.take (at_lit rfl) (by kernel_rfl) (by rfl) (fun _ _ _ h => h) hHeld; (· intro w9 hSw; have hq := hSw.blk.cell; clear hSw; go_simp; try with_reducible rfl); try simp only [qq])
 refine planH.fin ?_
 refine wpAnyH_done (by kernel_rfl) ?_ _
 go_wp2
 go_ret
 exact ⟨by rw [HV.out, eq_false_of_ne_true hu]; rfl, ext_trans hB hHeld.bel⟩
end Go.Proofs.YtffklmlljekceaaGreat
