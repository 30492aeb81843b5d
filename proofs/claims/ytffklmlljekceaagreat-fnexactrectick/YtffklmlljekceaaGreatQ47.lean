import Derived.Test.YtffklmlljekceaaGreatQ44
import Derived.Test.YtffklmlljekceaaGreatQ45
import Derived.Test.YtffklmlljekceaaGreatQ46
namespace Go.Proofs.YtffklmlljekceaaGreat
open Go.ChangeShapes Go.WideShapes Go.ChangeAt Go.RowKit Go.Deep Go.Joins
set_option linter.unusedSimpArgs false
set_option linter.unusedVariables false
set_option maxHeartbeats 40000000
set_option maxRecDepth 20000
theorem iv_f (r : Rc) (p : RcP) (w : World) (hW : Hid (r.wish.length ≤ p.cW)) (h : RcAt w r p) (g0 : Hid ((inB r.of_ 1 5 && inB r.num 1 r.of_) = true)) (g1 : Hid (diskOkB r.sp r.sk r.ss = true)) (g2 : Hid (diskOkB r.dp r.dk r.ds = true)) (g3 : Hid (heldOkB r.num r.of_ r.held = true)) (g4 : Hid (wishesOkB r.wish = true)) (g5 : Hid (inB r.heard 0 1000000 = true)) (g6 : Hid (numsOkB r.of_ r.yes = true)) (g7 : Hid (slotsOkB r.best = true)) (g8 : Hid (acksOkB r.of_ r.acks = true)) (hl : r.lead = false) (ht : r.tr = true) :
  Calls Tryz.prog 38 #[.agg (rcV r p)] w fun e w' => e = .returned (.bool (validB r)) ∧ Below w.heap.size w w' := by
 have hB : Below w.heap.size w (w.alloc (.cells (rcV r p) 41)) := ext_alloc (Below.refl _ _) _
 have hR := h.ext hB
 have hK0 : RecS (w.alloc (.cells (rcV r p) 41)) w.heap.size r p (w.alloc (.cells (rcV r p) 41)) := ⟨Blk.new w (rcV r p) 41, Below.refl _ _⟩
 clear h
 go_enter Tryz.func38, Tryz.ntmps38
 go_wp2_with fail
 simp only [List.append_eq, List.cons_append, List.nil_append]
 refine wp_region_held_drew (S := RecS (w.alloc (.cells (rcV r p) 41)) w.heap.size r p) (by kernel_rfl) hK0.drew (fun hHeld => ?_)
 clear hK0
 simp only [qz, Nat.reduceAdd]
 refine planH.go [0, 1, 2, 3] ?_
 iterate 4 (apply planH.take (at_lit rfl) (by kernel_rfl) (by rfl) (fun _ _ _ h => h) hHeld; (· intro w9 hSw; have hq := hSw.blk.cell; clear hSw; go_simp; try with_reducible rfl); try simp only [qq])
 refine planH.fin ?_
 have hof : Hid (r.of_ ≤ 1000000) := by
  have h9 := g0.out
  rw [Bool.and_eq_true] at h9
  have := inB_iff.1 h9.1
  unfold Hid
  omega
 refine rdH 4 (by kernel_rfl) (at_lit rfl) (fun K hK => ?_)
 go_simp
 refine (recorderIs_b _ _ _).mono ?_
 rintro e z47 ⟨he, hz47⟩
 rw [g0.out] at he
 subst he
 go_wp2_with fail
 refine hK.out _ _ (hHeld.ext hz47) (fun hNew => ?_)
 clear hK K hHeld hz47
 have hHeld := hNew
 clear hNew
 try simp only [qq]
 refine planH.go [5, 6, 7] ?_
 iterate 3 (apply planH.take (at_lit rfl) (by kernel_rfl) (by rfl) (fun _ _ _ h => h) hHeld; (· intro w9 hSw; have hq := hSw.blk.cell; clear hSw; go_simp; try with_reducible rfl); try simp only [qq])
 refine planH.fin ?_
 refine rdH 8 (by kernel_rfl) (at_lit rfl) (fun K hK => ?_)
 go_simp
 refine (implDiskOk_any r.sp r.sk p.aS r.ss _ p.cS _ rfl hR.lS (by exact (hR.ext hHeld.bel).hS)).mono ?_
 rintro e z48 ⟨he, hz48⟩
 rw [g1.out] at he
 subst he
 go_wp2_with fail
 refine hK.out _ _ (hHeld.ext hz48) (fun hNew => ?_)
 clear hK K hHeld hz48
 have hHeld := hNew
 clear hNew
 try simp only [qq]
 refine planH.go [9, 10, 11, 12] ?_
 iterate 4 (apply planH.take (at_lit rfl) (by kernel_rfl) (by rfl) (fun _ _ _ h => h) hHeld; (· intro w9 hSw; have hq := hSw.blk.cell; clear hSw; go_simp; try with_reducible rfl); try simp only [qq])
 refine planH.fin ?_
 refine rdH 13 (by kernel_rfl) (at_lit rfl) (fun K hK => ?_)
 go_simp
 refine (implDiskOk_any r.dp r.dk p.aD r.ds _ p.cD _ rfl hR.lD (by exact (hR.ext hHeld.bel).hD)).mono ?_
 rintro e z49 ⟨he, hz49⟩
 rw [g2.out] at he
 subst he
 go_wp2_with fail
 refine hK.out _ _ (hHeld.ext hz49) (fun hNew => ?_)
 clear hK K hHeld hz49
 have hHeld := hNew
 clear hNew
 try simp only [qq]
 refine planH.go [14, 15] ?_
 iterate 2 (apply planH.take (at_lit rfl) (by kernel_rfl) (by rfl) (fun _ _ _ h => h) hHeld; (· intro w9 hSw; have hq := hSw.blk.cell; clear hSw; go_simp; try with_reducible rfl); try simp only [qq])
 refine planH.fin ?_
 refine wpAnyH_take (i := 16) (at_lit rfl) (by kernel_rfl) (by kernel_rfl) (by kernel_rfl) (fun _ _ _ h => h) (yields_rec (by rfl) _ rfl rfl) hHeld ?_
 try simp only [qq]
 refine rdH 17 (by kernel_rfl) (at_lit rfl) (fun K hK => ?_)
 go_simp
 refine (implHeldOk r p _ (by exact hR.ext hHeld.bel)).mono ?_
 rintro e z50 ⟨he, hz50⟩
 rw [g3.out] at he
 subst he
 go_wp2_with fail
 refine hK.out _ _ (hHeld.ext hz50) (fun hNew => ?_)
 clear hK K hHeld hz50
 have hHeld := hNew
 clear hNew
 try simp only [qq]
 refine planH.go [18, 19, 20, 21] ?_
 iterate 4 (apply planH.take (at_lit rfl) (by kernel_rfl) (by rfl) (fun _ _ _ h => h) hHeld; (· intro w9 hSw; have hq := hSw.blk.cell; clear hSw; go_simp; try with_reducible rfl); try simp only [qq])
 refine planH.fin ?_
 refine rdH 22 (by kernel_rfl) (at_lit rfl) (fun K hK => ?_)
 go_simp
 refine (implWishesOk p.aW r.wish _ p.cW _ rfl hW.out hR.lW (by exact (hR.ext hHeld.bel).hW)).mono ?_
 rintro e z51 ⟨he, hz51⟩
 rw [g4.out] at he
 subst he
 go_wp2_with fail
 refine hK.out _ _ (hHeld.ext hz51) (fun hNew => ?_)
 clear hK K hHeld hz51
 have hHeld := hNew
 clear hNew
 try simp only [qq]
 refine planH.go [23, 24, 25, 26] ?_
 iterate 4 (apply planH.take (at_lit rfl) (by kernel_rfl) (by rfl) (fun _ _ _ h => h) hHeld; (· intro w9 hSw; have hq := hSw.blk.cell; clear hSw; go_simp; try with_reducible rfl); try simp only [qq])
 refine planH.fin ?_
 refine rdH 27 (by kernel_rfl) (at_lit rfl) (fun K hK => ?_)
 go_simp
 refine (within_b _ _ _ _).mono ?_
 rintro e z52 ⟨he, hz52⟩
 rw [g5.out] at he
 subst he
 go_wp2_with fail
 refine hK.out _ _ (hHeld.ext hz52) (fun hNew => ?_)
 clear hK K hHeld hz52
 have hHeld := hNew
 clear hNew
 try simp only [qq]
 refine planH.go [28, 29, 30, 31, 32, 33] ?_
 iterate 6 (apply planH.take (at_lit rfl) (by kernel_rfl) (by rfl) (fun _ _ _ h => h) hHeld; (· intro w9 hSw; have hq := hSw.blk.cell; clear hSw; go_simp; try with_reducible rfl); try simp only [qq])
 refine planH.fin ?_
 refine rdH 34 (by kernel_rfl) (at_lit rfl) (fun K hK => ?_)
 go_simp
 refine (implNumbers_b p.aY r.yes _ p.cY _ _ rfl hR.lY hof.out (by exact (hR.ext hHeld.bel).hY)).mono ?_
 rintro e z53 ⟨he, hz53⟩
 rw [g6.out] at he
 subst he
 go_wp2_with fail
 refine hK.out _ _ (hHeld.ext hz53) (fun hNew => ?_)
 clear hK K hHeld hz53
 have hHeld := hNew
 clear hNew
 try simp only [qq]
 refine planH.go [35, 36, 37, 38] ?_
 iterate 4 (apply planH.take (at_lit rfl) (by kernel_rfl) (by rfl) (fun _ _ _ h => h) hHeld; (· intro w9 hSw; have hq := hSw.blk.cell; clear hSw; go_simp; try with_reducible rfl); try simp only [qq])
 refine planH.fin ?_
 refine rdH 39 (by kernel_rfl) (at_lit rfl) (fun K hK => ?_)
 go_simp
 refine (implSlotsOk p.aB r.best _ p.cB _ rfl hR.lB (by exact (hR.ext hHeld.bel).hB)).mono ?_
 rintro e z54 ⟨he, hz54⟩
 rw [g7.out] at he
 subst he
 go_wp2_with fail
 refine hK.out _ _ (hHeld.ext hz54) (fun hNew => ?_)
 clear hK K hHeld hz54
 have hHeld := hNew
 clear hNew
 try simp only [qq]
 refine planH.go [40, 41, 42, 43, 44, 45] ?_
 iterate 6 (apply planH.take (at_lit rfl) (by kernel_rfl) (by rfl) (fun _ _ _ h => h) hHeld; (· intro w9 hSw; have hq := hSw.blk.cell; clear hSw; go_simp; try with_reducible rfl); try simp only [qq])
 refine planH.fin ?_
 refine rdH 46 (by kernel_rfl) (at_lit rfl) (fun K hK => ?_)
 go_simp
 refine (implAcksOk p.aA r.acks _ p.cA _ _ rfl hR.lA hof.out (by exact (hR.ext hHeld.bel).hA)).mono ?_
 rintro e z55 ⟨he, hz55⟩
 rw [g8.out] at he
 subst he
 go_wp2_with fail
 refine hK.out _ _ (hHeld.ext hz55) (fun hNew => ?_)
 clear hK K hHeld hz55
 have hHeld := hNew
 clear hNew
 try simp only [qq]
 refine planH.go [47, 48, 49, 50, 51, 52, 53, 54, 55, 56, 57] ?_
 iterate 5 (apply planH.take (at_lit rfl) (by kernel_rfl) (by rfl) (fun _ _ _ h => h) hHeld; (· intro w9 hSw; have hq := hSw.blk.cell; clear hSw; go_simp; try with_reducible rfl); try simp only [qq])
 iterate 2 (refine planH.skip (at_lit rfl) (by kernel_rfl) (by rfl) (fun _ _ _ h => h) hHeld ?_; try simp only [qq])
 iterate 4 (apply planH.take (at_lit rfl) (by kernel_rfl) (by rfl) (fun _ _ _ h => h) hHeld; (· intro w9 hSw; have hq := hSw.blk.cell; clear hSw; go_simp; try with_reducible rfl); try simp only [qq])
 refine planH.fin ?_
 refine wpAnyH_take (i := 58) (at_lit rfl) (by kernel_rfl) (by kernel_rfl) (by kernel_rfl) (fun _ _ _ h => h) (yields_rec (by rfl) _ rfl rfl) hHeld ?_
 try simp only [qq]
 refine wpAnyH_take (i := 60) (at_lit rfl) (by kernel_rfl) (by kernel_rfl) (by kernel_rfl) (fun _ _ _ h => h) (yields_rec (by rfl) _ rfl rfl) hHeld ?_
 try simp only [qq]
 refine rdH 59 (by kernel_rfl) (at_lit rfl) (fun K hK => ?_)
 go_simp
 refine (roleOf_any r p _).mono ?_
 rintro e z56 ⟨he, hz56⟩
 rw [show roleV r = .iface 141 (.agg #[]) by simp [roleV, hl, ht]] at he
 subst he
 go_wp2_with fail
 refine hK.out _ _ (hHeld.ext hz56) (fun hNew => ?_)
 clear hK K hHeld hz56
 have hHeld := hNew
 clear hNew
 try simp only [qq]
 by_cases g' : tryB r = false
 ·skip
  refine rdH 61 (by kernel_rfl) (at_lit rfl) (fun K hK => ?_)
  go_simp
  skip
  refine (try_any r p _).mono ?_
  rintro e z57 ⟨he, hz57⟩
  rw [g'] at he
  subst he
  go_wp2_with fail
  refine hK.out _ _ (hHeld.ext hz57) (fun hNew => ?_)
  clear hK K hHeld hz57
  have hHeld := hNew
  clear hNew
  try simp only [qq]
  refine planH.go [62, 63, 64, 65, 66, 67, 68, 69, 70, 71] ?_
  iterate 2 (apply planH.take (at_lit rfl) (by kernel_rfl) (by rfl) (fun _ _ _ h => h) hHeld; (· intro w9 hSw; have hq := hSw.blk.cell; clear hSw; go_simp; try with_reducible rfl); try simp only [qq])
  iterate 6 (refine planH.skip (at_lit rfl) (by kernel_rfl) (by rfl) (fun _ _ _ h => h) hHeld ?_; try simp only [qq])
  iterate 2 (apply planH.take (at_lit rfl) (by kernel_rfl) (by rfl) (fun _ _ _ h => h) hHeld; (· intro w9 hSw; have hq := hSw.blk.cell; clear hSw; go_simp; try with_reducible rfl); try simp only [qq])
  refine planH.fin ?_
  refine wpAnyH_done (by kernel_rfl) ?_ _
  go_wp2
  go_ret
  exact ⟨by rw [nv_g10 (show roleB r = false by simp [roleB, hl, ht, g'])]; rfl, ext_trans hB hHeld.bel⟩
 have g10 : Hid (roleB r = true) := by unfold Hid; simp [roleB, hl, ht, eq_true_of_ne_false g']
 refine rdH 61 (by kernel_rfl) (at_lit rfl) (fun K hK => ?_)
 go_simp
 skip
 refine (try_any r p _).mono ?_
 rintro e z58 ⟨he, hz58⟩
 rw [eq_true_of_ne_false g'] at he
 subst he
 go_wp2_with fail
 refine hK.out _ _ (hHeld.ext hz58) (fun hNew => ?_)
 clear hK K hHeld hz58
 have hHeld := hNew
 clear hNew
 try simp only [qq]
 clear g'
 have HV : Hid (validB r = (r.up || downB r)) := valid_last g0.out g1.out g2.out g3.out g4.out g5.out g6.out g7.out g8.out (by simp [hl, ht]) g10.out
 refine planH.go [62, 63, 64] ?_
 iterate 3 (apply planH.take (at_lit rfl) (by kernel_rfl) (by rfl) (fun _ _ _ h => h) hHeld; (· intro w9 hSw; have hq := hSw.blk.cell; clear hSw; go_simp; try with_reducible rfl); try simp only [qq])
 refine planH.fin ?_
 by_cases hu : r.up = true
 ·skip
  refine planH.go [65, 66, 67, 68, 69, 70, 71] ?_
  iterate 2 (apply planH.take (at_lit rfl) (by kernel_rfl) (by rfl) (fun _ _ _ h => h) hHeld; (· intro w9 hSw; have hq := hSw.blk.cell; clear hSw; go_simp; try with_reducible rfl); try simp only [qq])
  iterate 2 (refine planH.skip (at_lit rfl) (by kernel_rfl) (by rfl) (fun _ _ _ h => h) hHeld ?_; try simp only [qq])
  iterate 3 (apply planH.take (at_lit rfl) (by kernel_rfl) (by rfl) (fun _ _ _ h => h) hHeld; (· intro w9 hSw; have hq := hSw.blk.cell; clear hSw; go_simp; try with_reducible rfl); try simp only [qq])
  refine planH.fin ?_
  refine wpAnyH_done (by kernel_rfl) ?_ _
  go_wp2
  go_ret
  exact ⟨by rw [HV.out, hu]; rfl, ext_trans hB hHeld.bel⟩
 skip
 refine planH.go [65, 66] ?_
 iterate 2 (apply planH.take (at_lit rfl) (by kernel_rfl) (by rfl) (fun _ _ _ h => h) hHeld; (· intro w9 hSw; have hq := hSw.blk.cell; clear hSw; go_simp; try with_reducible rfl); try simp only [qq])
 refine planH.fin ?_
 refine wpAnyH_take (i := 67) (at_lit rfl) (by kernel_rfl) (by kernel_rfl) (by kernel_rfl) (fun _ _ _ h => h) (yields_rec (by rfl) _ rfl rfl) hHeld ?_
 try simp only [qq]
 refine rdH 68 (by kernel_rfl) (at_lit rfl) (fun K hK => ?_)
 go_simp
 refine (downOk_any r p _).mono ?_
 rintro e z59 ⟨he, hz59⟩
 skip
 subst he
 go_wp2_with fail
 refine hK.out _ _ (hHeld.ext hz59) (fun hNew => ?_)
 clear hK K hHeld hz59
 have hHeld := hNew
 clear hNew
 try simp only [qq]
 refine planH.go [69, 70, 71] ?_
 iterate 3 (apply planH.take (at_lit rfl) (by kernel_rfl) (by rfl) (fun _ _ _ h => h) hHeld; (· intro w9 hSw; have hq := hSw.blk.cell; clear hSw; go_simp; try with_reducible rfl); try simp only [qq])
 refine planH.fin ?_
 refine wpAnyH_done (by kernel_rfl) ?_ _
 go_wp2
 go_ret
 exact ⟨by rw [HV.out, eq_false_of_ne_true hu]; rfl, ext_trans hB hHeld.bel⟩
theorem iv_g (r : Rc) (p : RcP) (w : World) (hW : Hid (r.wish.length ≤ p.cW)) (h : RcAt w r p) (g0 : Hid ((inB r.of_ 1 5 && inB r.num 1 r.of_) = true)) (g1 : Hid (diskOkB r.sp r.sk r.ss = true)) (g2 : Hid (diskOkB r.dp r.dk r.ds = true)) (g3 : Hid (heldOkB r.num r.of_ r.held = true)) (g4 : Hid (wishesOkB r.wish = true)) (g5 : Hid (inB r.heard 0 1000000 = true)) (g6 : Hid (numsOkB r.of_ r.yes = true)) (g7 : Hid (slotsOkB r.best = true)) (g8 : Hid (acksOkB r.of_ r.acks = true)) (hl : r.lead = false) (ht : r.tr = false) :
  Calls Tryz.prog 38 #[.agg (rcV r p)] w fun e w' => e = .returned (.bool (validB r)) ∧ Below w.heap.size w w' := by
 have hB : Below w.heap.size w (w.alloc (.cells (rcV r p) 41)) := ext_alloc (Below.refl _ _) _
 have hR := h.ext hB
 have hK0 : RecS (w.alloc (.cells (rcV r p) 41)) w.heap.size r p (w.alloc (.cells (rcV r p) 41)) := ⟨Blk.new w (rcV r p) 41, Below.refl _ _⟩
 clear h
 go_enter Tryz.func38, Tryz.ntmps38
 go_wp2_with fail
 simp only [List.append_eq, List.cons_append, List.nil_append]
 refine wp_region_held_drew (S := RecS (w.alloc (.cells (rcV r p) 41)) w.heap.size r p) (by kernel_rfl) hK0.drew (fun hHeld => ?_)
 clear hK0
 simp only [qz, Nat.reduceAdd]
 refine planH.go [0, 1, 2, 3] ?_
 iterate 4 (apply planH.take (at_lit rfl) (by kernel_rfl) (by rfl) (fun _ _ _ h => h) hHeld; (· intro w9 hSw; have hq := hSw.blk.cell; clear hSw; go_simp; try with_reducible rfl); try simp only [qq])
 refine planH.fin ?_
 have hof : Hid (r.of_ ≤ 1000000) := by
  have h9 := g0.out
  rw [Bool.and_eq_true] at h9
  have := inB_iff.1 h9.1
  unfold Hid
  omega
 refine rdH 4 (by kernel_rfl) (at_lit rfl) (fun K hK => ?_)
 go_simp
 refine (recorderIs_b _ _ _).mono ?_
 rintro e z60 ⟨he, hz60⟩
 rw [g0.out] at he
 subst he
 go_wp2_with fail
 refine hK.out _ _ (hHeld.ext hz60) (fun hNew => ?_)
 clear hK K hHeld hz60
 have hHeld := hNew
 clear hNew
 try simp only [qq]
 refine planH.go [5, 6, 7] ?_
 iterate 3 (apply planH.take (at_lit rfl) (by kernel_rfl) (by rfl) (fun _ _ _ h => h) hHeld; (· intro w9 hSw; have hq := hSw.blk.cell; clear hSw; go_simp; try with_reducible rfl); try simp only [qq])
 refine planH.fin ?_
 refine rdH 8 (by kernel_rfl) (at_lit rfl) (fun K hK => ?_)
 go_simp
 refine (implDiskOk_any r.sp r.sk p.aS r.ss _ p.cS _ rfl hR.lS (by exact (hR.ext hHeld.bel).hS)).mono ?_
 rintro e z61 ⟨he, hz61⟩
 rw [g1.out] at he
 subst he
 go_wp2_with fail
 refine hK.out _ _ (hHeld.ext hz61) (fun hNew => ?_)
 clear hK K hHeld hz61
 have hHeld := hNew
 clear hNew
 try simp only [qq]
 refine planH.go [9, 10, 11, 12] ?_
 iterate 4 (apply planH.take (at_lit rfl) (by kernel_rfl) (by rfl) (fun _ _ _ h => h) hHeld; (· intro w9 hSw; have hq := hSw.blk.cell; clear hSw; go_simp; try with_reducible rfl); try simp only [qq])
 refine planH.fin ?_
 refine rdH 13 (by kernel_rfl) (at_lit rfl) (fun K hK => ?_)
 go_simp
 refine (implDiskOk_any r.dp r.dk p.aD r.ds _ p.cD _ rfl hR.lD (by exact (hR.ext hHeld.bel).hD)).mono ?_
 rintro e z62 ⟨he, hz62⟩
 rw [g2.out] at he
 subst he
 go_wp2_with fail
 refine hK.out _ _ (hHeld.ext hz62) (fun hNew => ?_)
 clear hK K hHeld hz62
 have hHeld := hNew
 clear hNew
 try simp only [qq]
 refine planH.go [14, 15] ?_
 iterate 2 (apply planH.take (at_lit rfl) (by kernel_rfl) (by rfl) (fun _ _ _ h => h) hHeld; (· intro w9 hSw; have hq := hSw.blk.cell; clear hSw; go_simp; try with_reducible rfl); try simp only [qq])
 refine planH.fin ?_
 refine wpAnyH_take (i := 16) (at_lit rfl) (by kernel_rfl) (by kernel_rfl) (by kernel_rfl) (fun _ _ _ h => h) (yields_rec (by rfl) _ rfl rfl) hHeld ?_
 try simp only [qq]
 refine rdH 17 (by kernel_rfl) (at_lit rfl) (fun K hK => ?_)
 go_simp
 refine (implHeldOk r p _ (by exact hR.ext hHeld.bel)).mono ?_
 rintro e z63 ⟨he, hz63⟩
 rw [g3.out] at he
 subst he
 go_wp2_with fail
 refine hK.out _ _ (hHeld.ext hz63) (fun hNew => ?_)
 clear hK K hHeld hz63
 have hHeld := hNew
 clear hNew
 try simp only [qq]
 refine planH.go [18, 19, 20, 21] ?_
 iterate 4 (apply planH.take (at_lit rfl) (by kernel_rfl) (by rfl) (fun _ _ _ h => h) hHeld; (· intro w9 hSw; have hq := hSw.blk.cell; clear hSw; go_simp; try with_reducible rfl); try simp only [qq])
 refine planH.fin ?_
 refine rdH 22 (by kernel_rfl) (at_lit rfl) (fun K hK => ?_)
 go_simp
 refine (implWishesOk p.aW r.wish _ p.cW _ rfl hW.out hR.lW (by exact (hR.ext hHeld.bel).hW)).mono ?_
 rintro e z64 ⟨he, hz64⟩
 rw [g4.out] at he
 subst he
 go_wp2_with fail
 refine hK.out _ _ (hHeld.ext hz64) (fun hNew => ?_)
 clear hK K hHeld hz64
 have hHeld := hNew
 clear hNew
 try simp only [qq]
 refine planH.go [23, 24, 25, 26] ?_
 iterate 4 (apply planH.take (at_lit rfl) (by kernel_rfl) (by rfl) (fun _ _ _ h => h) hHeld; (· intro w9 hSw; have hq := hSw.blk.cell; clear hSw; go_simp; try with_reducible rfl); try simp only [qq])
 refine planH.fin ?_
 refine rdH 27 (by kernel_rfl) (at_lit rfl) (fun K hK => ?_)
 go_simp
 refine (within_b _ _ _ _).mono ?_
 rintro e z65 ⟨he, hz65⟩
 rw [g5.out] at he
 subst he
 go_wp2_with fail
 refine hK.out _ _ (hHeld.ext hz65) (fun hNew => ?_)
 clear hK K hHeld hz65
 have hHeld := hNew
 clear hNew
 try simp only [qq]
 refine planH.go [28, 29, 30, 31, 32, 33] ?_
 iterate 6 (apply planH.take (at_lit rfl) (by kernel_rfl) (by rfl) (fun _ _ _ h => h) hHeld; (· intro w9 hSw; have hq := hSw.blk.cell; clear hSw; go_simp; try with_reducible rfl); try simp only [qq])
 refine planH.fin ?_
 refine rdH 34 (by kernel_rfl) (at_lit rfl) (fun K hK => ?_)
 go_simp
 refine (implNumbers_b p.aY r.yes _ p.cY _ _ rfl hR.lY hof.out (by exact (hR.ext hHeld.bel).hY)).mono ?_
 rintro e z66 ⟨he, hz66⟩
 rw [g6.out] at he
 subst he
 go_wp2_with fail
 refine hK.out _ _ (hHeld.ext hz66) (fun hNew => ?_)
 clear hK K hHeld hz66
 have hHeld := hNew
 clear hNew
 try simp only [qq]
 refine planH.go [35, 36, 37, 38] ?_
 iterate 4 (apply planH.take (at_lit rfl) (by kernel_rfl) (by rfl) (fun _ _ _ h => h) hHeld; (· intro w9 hSw; have hq := hSw.blk.cell; clear hSw; go_simp; try with_reducible rfl); try simp only [qq])
 refine planH.fin ?_
 refine rdH 39 (by kernel_rfl) (at_lit rfl) (fun K hK => ?_)
 go_simp
 refine (implSlotsOk p.aB r.best _ p.cB _ rfl hR.lB (by exact (hR.ext hHeld.bel).hB)).mono ?_
 rintro e z67 ⟨he, hz67⟩
 rw [g7.out] at he
 subst he
 go_wp2_with fail
 refine hK.out _ _ (hHeld.ext hz67) (fun hNew => ?_)
 clear hK K hHeld hz67
 have hHeld := hNew
 clear hNew
 try simp only [qq]
 refine planH.go [40, 41, 42, 43, 44, 45] ?_
 iterate 6 (apply planH.take (at_lit rfl) (by kernel_rfl) (by rfl) (fun _ _ _ h => h) hHeld; (· intro w9 hSw; have hq := hSw.blk.cell; clear hSw; go_simp; try with_reducible rfl); try simp only [qq])
 refine planH.fin ?_
 refine rdH 46 (by kernel_rfl) (at_lit rfl) (fun K hK => ?_)
 go_simp
 refine (implAcksOk p.aA r.acks _ p.cA _ _ rfl hR.lA hof.out (by exact (hR.ext hHeld.bel).hA)).mono ?_
 rintro e z68 ⟨he, hz68⟩
 rw [g8.out] at he
 subst he
 go_wp2_with fail
 refine hK.out _ _ (hHeld.ext hz68) (fun hNew => ?_)
 clear hK K hHeld hz68
 have hHeld := hNew
 clear hNew
 try simp only [qq]
 refine planH.go [47, 48, 49, 50, 51, 52, 53, 54, 55, 56, 57] ?_
 iterate 5 (apply planH.take (at_lit rfl) (by kernel_rfl) (by rfl) (fun _ _ _ h => h) hHeld; (· intro w9 hSw; have hq := hSw.blk.cell; clear hSw; go_simp; try with_reducible rfl); try simp only [qq])
 iterate 2 (refine planH.skip (at_lit rfl) (by kernel_rfl) (by rfl) (fun _ _ _ h => h) hHeld ?_; try simp only [qq])
 iterate 4 (apply planH.take (at_lit rfl) (by kernel_rfl) (by rfl) (fun _ _ _ h => h) hHeld; (· intro w9 hSw; have hq := hSw.blk.cell; clear hSw; go_simp; try with_reducible rfl); try simp only [qq])
 refine planH.fin ?_
 refine wpAnyH_take (i := 58) (at_lit rfl) (by kernel_rfl) (by kernel_rfl) (by kernel_rfl) (fun _ _ _ h => h) (yields_rec (by rfl) _ rfl rfl) hHeld ?_
 try simp only [qq]
 refine wpAnyH_take (i := 60) (at_lit rfl) (by kernel_rfl) (by kernel_rfl) (by kernel_rfl) (fun _ _ _ h => h) (yields_rec (by rfl) _ rfl rfl) hHeld ?_
 try simp only [qq]
 refine rdH 59 (by kernel_rfl) (at_lit rfl) (fun K hK => ?_)
 go_simp
 refine (roleOf_any r p _).mono ?_
 rintro e z69 ⟨he, hz69⟩
 rw [show roleV r = .iface 142 (.agg #[]) by simp [roleV, hl, ht]] at he
 subst he
 go_wp2_with fail
 refine hK.out _ _ (hHeld.ext hz69) (fun hNew => ?_)
 clear hK K hHeld hz69
 have hHeld := hNew
 clear hNew
 try simp only [qq]
 by_cases g' : calmB r = false
 ·skip
  refine rdH 61 (by kernel_rfl) (at_lit rfl) (fun K hK => ?_)
  go_simp
  skip
  refine (calm_any r p _).mono ?_
  rintro e z70 ⟨he, hz70⟩
  rw [g'] at he
  subst he
  go_wp2_with fail
  refine hK.out _ _ (hHeld.ext hz70) (fun hNew => ?_)
  clear hK K hHeld hz70
  have hHeld := hNew
  clear hNew
  try simp only [qq]
  refine planH.go [62, 63, 64, 65, 66, 67, 68, 69, 70, 71] ?_
  iterate 2 (apply planH.take (at_lit rfl) (by kernel_rfl) (by rfl) (fun _ _ _ h => h) hHeld; (· intro w9 hSw; have hq := hSw.blk.cell; clear hSw; go_simp; try with_reducible rfl); try simp only [qq])
  iterate 6 (refine planH.skip (at_lit rfl) (by kernel_rfl) (by rfl) (fun _ _ _ h => h) hHeld ?_; try simp only [qq])
  iterate 2 (apply planH.take (at_lit rfl) (by kernel_rfl) (by rfl) (fun _ _ _ h => h) hHeld; (· intro w9 hSw; have hq := hSw.blk.cell; clear hSw; go_simp; try with_reducible rfl); try simp only [qq])
  refine planH.fin ?_
  refine wpAnyH_done (by kernel_rfl) ?_ _
  go_wp2
  go_ret
  exact ⟨by rw [nv_g10 (show roleB r = false by simp [roleB, hl, ht, g'])]; rfl, ext_trans hB hHeld.bel⟩
 have g10 : Hid (roleB r = true) := by unfold Hid; simp [roleB, hl, ht, eq_true_of_ne_false g']
 refine rdH 61 (by kernel_rfl) (at_lit rfl) (fun K hK => ?_)
 go_simp
 skip
 refine (calm_any r p _).mono ?_
 rintro e z71 ⟨he, hz71⟩
 rw [eq_true_of_ne_false g'] at he
 subst he
 go_wp2_with fail
 refine hK.out _ _ (hHeld.ext hz71) (fun hNew => ?_)
 clear hK K hHeld hz71
 have hHeld := hNew
 clear hNew
 try simp only [qq]
 clear g'
 have HV : Hid (validB r = (r.up || downB r)) := valid_last g0.out g1.out g2.out g3.out g4.out g5.out g6.out g7.out g8.out (by simp [hl, ht]) g10.out
 refine planH.go [62, 63, 64] ?_
 iterate 3 (apply planH.take (at_lit rfl) (by kernel_rfl) (by rfl) (fun _ _ _ h => h) hHeld; (· intro w9 hSw; have hq := hSw.blk.cell; clear hSw; go_simp; try with_reducible rfl); try simp only [qq])
 refine planH.fin ?_
 by_cases hu : r.up = true
 ·skip
  refine planH.go [65, 66, 67, 68, 69, 70, 71] ?_
  iterate 2 (apply planH.take (at_lit rfl) (by kernel_rfl) (by rfl) (fun _ _ _ h => h) hHeld; (· intro w9 hSw; have hq := hSw.blk.cell; clear hSw; go_simp; try with_reducible rfl); try simp only [qq])
  iterate 2 (refine planH.skip (at_lit rfl) (by kernel_rfl) (by rfl) (fun _ _ _ h => h) hHeld ?_; try simp only [qq])
  iterate 3 (apply planH.take (at_lit rfl) (by kernel_rfl) (by rfl) (fun _ _ _ h => h) hHeld; (· intro w9 hSw; have hq := hSw.blk.cell; clear hSw; go_simp; try with_reducible rfl); try simp only [qq])
  refine planH.fin ?_
  refine wpAnyH_done (by kernel_rfl) ?_ _
  go_wp2
  go_ret
  exact ⟨by rw [HV.out, hu]; rfl, ext_trans hB hHeld.bel⟩
 skip
 refine planH.go [65, 66] ?_
 iterate 2 (apply planH.take (at_lit rfl) (by kernel_rfl) (by rfl) (fun _ _ _ h => h) hHeld; (· intro w9 hSw; have hq := hSw.blk.cell; clear hSw; go_simp; try with_reducible rfl); try simp only [qq])
 refine planH.fin ?_
 refine wpAnyH_take (i := 67) (at_lit rfl) (by kernel_rfl) (by kernel_rfl) (by kernel_rfl) (fun _ _ _ h => h) (yields_rec (by rfl) _ rfl rfl) hHeld ?_
 try simp only [qq]
 refine rdH 68 (by kernel_rfl) (at_lit rfl) (fun K hK => ?_)
 go_simp
 refine (downOk_any r p _).mono ?_
 rintro e z72 ⟨he, hz72⟩
 skip
 subst he
 go_wp2_with fail
 refine hK.out _ _ (hHeld.ext hz72) (fun hNew => ?_)
 clear hK K hHeld hz72
 have hHeld := hNew
 clear hNew
 try simp only [qq]
 refine planH.go [69, 70, 71] ?_
 iterate 3 (apply planH.take (at_lit rfl) (by kernel_rfl) (by rfl) (fun _ _ _ h => h) hHeld; (· intro w9 hSw; have hq := hSw.blk.cell; clear hSw; go_simp; try with_reducible rfl); try simp only [qq])
 refine planH.fin ?_
 refine wpAnyH_done (by kernel_rfl) ?_ _
 go_wp2
 go_ret
 exact ⟨by rw [HV.out, eq_false_of_ne_true hu]; rfl, ext_trans hB hHeld.bel⟩
theorem implValid (r : Rc) (p : RcP) (w : World) (hW : Hid (r.wish.length ≤ p.cW)) (h : RcAt w r p) :
  Calls Tryz.prog 38 #[.agg (rcV r p)] w fun e w' => e = .returned (.bool (validB r)) ∧ Below w.heap.size w w' := by
 by_cases hN : ¬ ((inB r.of_ 1 5 && inB r.num 1 r.of_) = true ∧ diskOkB r.sp r.sk r.ss = true ∧ diskOkB r.dp r.dk r.ds = true)
 ·exact iv_a r p w hW h  hN
 obtain ⟨g0, g1, g2⟩ := Classical.not_not.1 hN
 clear hN
 by_cases hN : ¬ (heldOkB r.num r.of_ r.held = true ∧ wishesOkB r.wish = true ∧ inB r.heard 0 1000000 = true)
 ·exact iv_b r p w hW h g0 g1 g2 hN
 obtain ⟨g3, g4, g5⟩ := Classical.not_not.1 hN
 clear hN
 by_cases hN : ¬ (numsOkB r.of_ r.yes = true ∧ slotsOkB r.best = true ∧ acksOkB r.of_ r.acks = true)
 ·exact iv_c r p w hW h g0 g1 g2 g3 g4 g5 hN
 obtain ⟨g6, g7, g8⟩ := Classical.not_not.1 hN
 clear hN
 cases hl : r.lead
 ·cases ht : r.tr
  ·exact iv_g r p w hW h g0 g1 g2 g3 g4 g5 g6 g7 g8 hl ht
  exact iv_f r p w hW h g0 g1 g2 g3 g4 g5 g6 g7 g8 hl ht
 cases ht : r.tr
 ·exact iv_e r p w hW h g0 g1 g2 g3 g4 g5 g6 g7 g8 hl ht
 exact iv_d r p w hW h g0 g1 g2 g3 g4 g5 g6 g7 g8 hl ht
end Go.Proofs.YtffklmlljekceaaGreat
