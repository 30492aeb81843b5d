import Derived.Test.YtffklmlljekceaaGreatQ48
import Derived.Test.YtffklmlljekceaaGreatQ49
import Derived.Test.YtffklmlljekceaaGreatQ50
import Derived.Test.YtffklmlljekceaaGreatQ47
namespace Go.Proofs.YtffklmlljekceaaGreat
open Go.ChangeShapes Go.WideShapes Go.ChangeAt Go.RowKit Go.Deep Go.Joins
set_option linter.unusedSimpArgs false
set_option linter.unusedVariables false
set_option maxHeartbeats 40000000
set_option maxRecDepth 20000
theorem iv_g (r : Rc) (p : RcP) (w : World) (hW : Hid (r.wish.length ≤ p.cW)) (h : RcAt w r p) (g0 : Hid ((inB r.of_ 1 5 && inB r.num 1 r.of_) = true)) (g1 : Hid (diskOkB r.sp r.sk r.ss = true)) (g2 : Hid (diskOkB r.dp r.dk r.ds = true)) (g3 : Hid (heldOkB r.num r.of_ r.held = true)) (g4 : Hid (wishesOkB r.wish = true)) (g5 : Hid (inB r.heard 0 1000000 = true)) (g6 : Hid (numsOkB r.of_ r.yes = true)) (g7 : Hid (slotsOkB r.best = true)) (g8 : Hid (acksOkB r.of_ r.acks = true)) (hl : r.lead = false) (ht : r.tr = false) :
  Calls Tryz.prog 38 #[.agg (rcV r p)] w fun e w' => e = .returned (.bool (validB r)) ∧ Below w.heap.size w w' := by
 have hB : Below w.heap.size w (w.alloc (.cells (rcV r p) 41)) := ext_alloc (Below.refl _ _) _
 have hR := h.ext hB
 have hK0 : RecS (w.alloc (.cells (rcV r p) 41)) w.heap.size r p (w.alloc (.cells (rcV r p) 41)) := ⟨Blk.new w (rcV r p) 41, Below.refl _ _⟩
 clear h
 go_enter Tryz.func38, Tryz.ntmps38
 go_wp2_with fail
 simp only [List.append_eq, List.cons_append, List.nil_append]
 refine wp_region_held_drew (S := RecS (w.alloc (.cells (rcV r p) 41)) w.heap.size r p) (by kernel_rfl) hK0.drew (fun hHeld => ?_)
 clear hK0
 simp only [qz, Nat.reduceAdd]
 refine planH.go [0, 1, 2, 3] ?_
 iterate 4 (apply planH.take (at_lit rfl) (by kernel_rfl) (by rfl) (fun _ _ _ h => h) hHeld; (· intro w9 hSw; have hq := hSw.blk.cell; clear hSw; go_simp; try with_reducible rfl); try simp only [qq])
 refine planH.fin ?_
 have hof : Hid (r.of_ ≤ 1000000) := by
  have h9 := g0.out
  rw [Bool.and_eq_true] at h9
  have := inB_iff.1 h9.1
  unfold Hid
  omega
 refine rdH 4 (by kernel_rfl) (at_lit rfl) (fun K hK => ?_)
 go_simp
 refine (recorderIs_b _ _ _).mono ?_
 rintro e z60 ⟨he, hz60⟩
 rw [g0.out] at he
 subst he
 go_wp2_with fail
 refine hK.out _ _ (hHeld.ext hz60) (fun hNew => ?_)
 clear hK K hHeld hz60
 have hHeld := hNew
 clear hNew
 try simp only [qq]
 refine planH.go [5, 6, 7] ?_
 iterate 3 (apply planH.take (at_lit rfl) (by kernel_rfl) (by rfl) (fun _ _ _ h => h) hHeld; (· intro w9 hSw; have hq := hSw.blk.cell; clear hSw; go_simp; try with_reducible rfl); try simp only [qq])
 refine planH.fin ?_
 refine rdH 8 (by kernel_rfl) (at_lit rfl) (fun K hK => ?_)
 go_simp
 refine (implDiskOk_any r.sp r.sk p.aS r.ss _ p.cS _ rfl hR.lS (by exact (hR.ext hHeld.bel).hS)).mono ?_
 rintro e z61 ⟨he, hz61⟩
 rw [g1.out] at he
 subst he
 go_wp2_with fail
 refine hK.out _ _ (hHeld.ext hz61) (fun hNew => ?_)
 clear hK K hHeld hz61
 have hHeld := hNew
 clear hNew
 try simp only [qq]
 refine planH.go [9, 10, 11, 12] ?_
 iterate 4 (apply planH.take (at_lit rfl) (by kernel_rfl) (by rfl) (fun _ _ _ h => h) hHeld; (· intro w9 hSw; have hq := hSw.blk.cell; clear hSw; go_simp; try with_reducible rfl); try simp only [qq])
 refine planH.fin ?_
 refine rdH 13 (by kernel_rfl) (at_lit rfl) (fun K hK => ?_)
 go_simp
 refine (implDiskOk_any r.dp r.dk p.aD r.ds _ p.cD _ rfl hR.lD (by exact (hR.ext hHeld.bel).hD)).mono ?_
 rintro e z62 ⟨he, hz62⟩
 rw [g2.out] at he
 subst he
 go_wp2_with fail
 refine hK.out _ _ (hHeld.ext hz62) (fun hNew => ?_)
 clear hK K hHeld hz62
 have hHeld := hNew
 clear hNew
 try simp only [qq]
 refine planH.go [14, 15] ?_
 iterate 2 (apply planH.take (at_lit rfl) (by kernel_rfl) (by rfl) (fun _ _ _ h => h) hHeld; (· intro w9 hSw; have hq := hSw.blk.cell; clear hSw; go_simp; try with_reducible rfl); try simp only [qq])
 refine planH.fin ?_
 refine wpAnyH_take (i := 16) (at_lit rfl) (by kernel_rfl) (by kernel_rfl) (by kernel_rfl) (fun _ _ _ h => h) (yields_rec (by rfl) _ rfl rfl) hHeld ?_
 try simp only [qq]
 refine rdH 17 (by kernel_rfl) (at_lit rfl) (fun K hK => ?_)
 go_simp
 refine (implHeldOk r p _ (by exact hR.ext hHeld.bel)).mono ?_
 rintro e z63 ⟨he, hz63⟩
 rw [g3.out] at he
 subst he
 go_wp2_with fail
 refine hK.out _ _ (hHeld.ext hz63) (fun hNew => ?_)
 clear hK K hHeld hz63
 have hHeld := hNew
 clear hNew
 try simp only [qq]
 refine planH.go [18, 19, 20, 21] ?_
 iterate 4 (apply planH.take (at_lit rfl) (by kernel_rfl) (by rfl) (fun _ _ _ h => h) hHeld; (· intro w9 hSw; have hq := hSw.blk.cell; clear hSw; go_simp; try with_reducible rfl); try simp only [qq])
 refine planH.fin ?_
 refine rdH 22 (by kernel_rfl) (at_lit rfl) (fun K hK => ?_)
 go_simp
 refine (implWishesOk p.aW r.wish _ p.cW _ rfl hW.out hR.lW (by exact (hR.ext hHeld.bel).hW)).mono ?_
 rintro e z64 ⟨he, hz64⟩
 rw [g4.out] at he
 subst he
 go_wp2_with fail
 refine hK.out _ _ (hHeld.ext hz64) (fun hNew => ?_)
 clear hK K hHeld hz64
 have hHeld := hNew
 clear hNew
 try simp only [qq]
 refine planH.go [23, 24, 25, 26] ?_
 iterate 4 (apply planH.take (at_lit rfl) (by kernel_rfl) (by rfl) (fun _ _ _ h => h) hHeld; (· intro w9 hSw; have hq := hSw.blk.cell; clear hSw; go_simp; try with_reducible rfl); try simp only [qq])
 refine planH.fin ?_
 refine rdH 27 (by kernel_rfl) (at_lit rfl) (fun K hK => ?_)
 go_simp
 refine (within_b _ _ _ _).mono ?_
 rintro e z65 ⟨he, hz65⟩
 rw [g5.out] at he
 subst he
 go_wp2_with fail
 refine hK.out _ _ (hHeld.ext hz65) (fun hNew => ?_)
 clear hK K hHeld hz65
 have hHeld := hNew
 clear hNew
 try simp only [qq]
 refine planH.go [28, 29, 30, 31, 32, 33] ?_
 iterate 6 (apply planH.take (at_lit rfl) (by kernel_rfl) (by rfl) (fun _ _ _ h => h) hHeld; (· intro w9 hSw; have hq := hSw.blk.cell; clear hSw; go_simp; try with_reducible rfl); try simp only [qq])
 refine planH.fin ?_
 refine rdH 34 (by kernel_rfl) (at_lit rfl) (fun K hK => ?_)
 go_simp
 refine (implNumbers_b p.aY r.yes _ p.cY _ _ rfl hR.lY hof.out (by exact (hR.ext hHeld.bel).hY)).mono ?_
 rintro e z66 ⟨he, hz66⟩
 rw [g6.out] at he
 subst he
 go_wp2_with fail
 refine hK.out _ _ (hHeld.ext hz66) (fun hNew => ?_)
 clear hK K hHeld hz66
 have hHeld := hNew
 clear hNew
 try simp only [qq]
 refine planH.go [35, 36, 37, 38] ?_
 iterate 4 (apply planH.take (at_lit rfl) (by kernel_rfl) (by rfl) (fun _ _ _ h => h) hHeld; (· intro w9 hSw; have hq := hSw.blk.cell; clear hSw; go_simp; try with_reducible rfl); try simp only [qq])
 refine planH.fin ?_
 refine rdH 39 (by kernel_rfl) (at_lit rfl) (fun K hK => ?_)
 go_simp
 refine (implSlotsOk p.aB r.best _ p.cB _ rfl hR.lB (by exact (hR.ext hHeld.bel).hB)).mono ?_
 rintro e z67 ⟨he, hz67⟩
 rw [g7.out] at he
 subst he
 go_wp2_with fail
 refine hK.out _ _ (hHeld.ext hz67) (fun hNew => ?_)
 clear hK K hHeld hz67
 have hHeld := hNew
 clear hNew
 try simp only [qq]
 refine planH.go [40, 41, 42, 43, 44, 45] ?_
 iterate 6 (apply planH.take (at_lit rfl) (by kernel_rfl) (by rfl) (fun _ _ _ h => h) hHeld; (· intro w9 hSw; have hq := hSw.blk.cell; clear hSw; go_simp; try with_reducible rfl); try simp only [qq])
 refine planH.fin ?_
 refine rdH 46 (by kernel_rfl) (at_lit rfl) (fun K hK => ?_)
 go_simp
 refine (implAcksOk p.aA r.acks _ p.cA _ _ rfl hR.lA hof.out (by exact (hR.ext hHeld.bel).hA)).mono ?_
 rintro e z68 ⟨he, hz68⟩
 rw [g8.out] at he
 subst he
 go_wp2_with fail
 refine hK.out _ _ (hHeld.ext hz68) (fun hNew => ?_)
 clear hK K hHeld hz68
 have hHeld := hNew
 clear hNew
 try simp only [qq]
 refine planH.go [47, 48, 49, 50, 51, 52, 53, 54, 55, 56, 57] ?_
 iterate 5 (apply planH.take (at_lit rfl) (by kernel_rfl) (by rfl) (fun _ _ _ h => h) hHeld; (· intro w9 hSw; have hq := hSw.blk.cell; clear hSw; go_simp; try with_reducible rfl); try simp only [qq])
 iterate 2 (refine planH.skip (at_lit rfl) (by kernel_rfl) (by rfl) (fun _ _ _ h => h) hHeld ?_; try simp only [qq])
 iterate 4 (apply planH.take (at_lit rfl) (by kernel_rfl) (by rfl) (fun _ _ _ h => h) hHeld; (· intro w9 hSw; have hq := hSw.blk.cell; clear hSw; go_simp; try with_reducible rfl); try simp only [qq])
 refine planH.fin ?_
 refine wpAnyH_take (i := 58) (at_lit rfl) (by kernel_rfl) (by kernel_rfl) (by kernel_rfl) (fun _ _ _ h => h) (yields_rec (by rfl) _ rfl rfl) hHeld ?_
 try simp only [qq]
 refine wpAnyH_take (i := 60) (at_lit rfl) (by kernel_rfl) (by kernel_rfl) (by kernel_rfl) (fun _ _ _ h => h) (yields_rec (by rfl) _ rfl rfl) hHeld ?_
 try simp only [qq]
 refine rdH 59 (by kernel_rfl) (at_lit rfl) (fun K hK => ?_)
 go_simp
 refine (roleOf_any r p _).mono ?_
 rintro e z69 ⟨he, hz69⟩
 rw [show roleV r = .iface 142 (.agg #[]) by simp [roleV, hl, ht]] at he
 subst he
 go_wp2_with fail
 refine hK.out _ _ (hHeld.ext hz69) (fun hNew => ?_)
 clear hK K hHeld hz69
 have hHeld := hNew
 clear hNew
 try simp only [qq]
 by_cases g' : calmB r = false
 ·skip
  refine rdH 61 (by kernel_rfl) (at_lit rfl) (fun K hK => ?_)
  go_simp
  skip
  refine (calm_any r p _).mono ?_
  rintro e z70 ⟨he, hz70⟩
  rw [g'] at he
  subst he
  go_wp2_with fail
  refine hK.out _ _ (hHeld.ext hz70) (fun hNew => ?_)
  clear hK K hHeld hz70
  have hHeld := hNew
  clear hNew
  try simp only [qq]
  refine planH.go [62, 63, 64, 65, 66, 67, 68, 69, 70, 71] ?_
  iterate 2 (apply planH.take (at_lit rfl) (by kernel_rfl) (by rfl) (fun _ _ _ h => h) hHeld; (· intro w9 hSw; have hq := hSw.blk.cell; clear hSw; go_simp; try with_reducible rfl); try simp only [qq])
  iterate 6 (refine planH.skip (at_lit rfl) (by kernel_rfl) (by rfl) (fun _ _ _ h => h) hHeld ?_; try simp only [qq])
  iterate 2 (apply planH.take (at_lit rfl) (by kernel_rfl) (by rfl) (fun _ _ _ h => h) hHeld; (· intro w9 hSw; have hq := hSw.blk.cell; clear hSw; go_simp; try with_reducible rfl); try simp only [qq])
  refine planH.fin ?_
  refine wpAnyH_done (by kernel_rfl) ?_ _
  go_wp2
  go_ret
  exact ⟨by rw [nv_g10 (show roleB r = false by simp [roleB, hl, ht, g'])]; rfl, ext_trans hB hHeld.bel⟩
 have g10 : Hid (roleB r = true) := by unfold Hid; simp [roleB, hl, ht, eq_true_of_ne_false g']
 refine rdH 61 (by kernel_rfl) (at_lit rfl) (fun K hK => ?_)
 go_simp
 skip
 refine (calm_any r p _).mono ?_
 rintro e z71 ⟨he, hz71⟩
 rw [eq_true_of_ne_false g'] at he
 subst he
 go_wp2_with fail
 refine hK.out _ _ (hHeld.ext hz71) (fun hNew => ?_)
 clear hK K hHeld hz71
 have hHeld := hNew
 clear hNew
 try simp only [qq]
 clear g'
 have HV : Hid (validB r = (r.up || downB r)) := valid_last g0.out g1.out g2.out g3.out g4.out g5.out g6.out g7.out g8.out (by simp [hl, ht]) g10.out
 refine planH.go [62, 63, 64] ?_
 iterate 3 (apply planH.take (at_lit rfl) (by kernel_rfl) (by rfl) (fun _ _ _ h => h) hHeld; (· intro w9 hSw; have hq := hSw.blk.cell; clear hSw; go_simp; try with_reducible rfl); try simp only [qq])
 refine planH.fin ?_
 by_cases hu : r.up = true
 ·skip
  refine planH.go [65, 66, 67, 68, 69, 70, 71] ?_
  iterate 2 (apply planH.take (at_lit rfl) (by kernel_rfl) (by rfl) (fun _ _ _ h => h) hHeld; (· intro w9 hSw; have hq := hSw.blk.cell; clear hSw; go_simp; try with_reducible rfl); try simp only [qq])
  iterate 2 (refine planH.skip (at_lit rfl) (by kernel_rfl) (by rfl) (fun _ _ _ h => h) hHeld ?_; try simp only [qq])
  iterate 3 (apply planH.take (at_lit rfl) (by kernel_rfl) (by rfl) (fun _ _ _ h => h) hHeld; (· intro w9 hSw; have hq := hSw.blk.cell; clear hSw; go_simp; try with_reducible rfl); try simp only [qq])
  refine planH.fin ?_
  refine wpAnyH_done (by kernel_rfl) ?_ _
  go_wp2
  go_ret
  exact ⟨by rw [HV.out, hu]; rfl, ext_trans hB hHeld.bel⟩
 skip
 refine planH.go [65, 66] ?_
 iterate 2 (apply planH.take (at_lit rfl) (by kernel_rfl) (by rfl) (fun _ _ _ h => h) hHeld; (· intro w9 hSw; have hq := hSw.blk.cell; clear hSw; go_simp; try with_reducible rfl); try simp only [qq])
 refine planH.fin ?_
 refine wpAnyH_take (i := 67) (at_lit rfl) (by kernel_rfl) (by kernel_rfl) (by kernel_rfl) (fun _ _ _ h => h) (yields_rec (by rfl) _ rfl rfl) hHeld ?_
 try simp only [qq]
 refine rdH 68 (by kernel_rfl) (at_lit rfl) (fun K hK => ?_)
 go_simp
 refine (downOk_any r p _).mono ?_
 rintro e z72 ⟨he, hz72⟩
 skip
 subst he
 go_wp2_with fail
 refine hK.out _ _ (hHeld.ext hz72) (fun hNew => ?_)
 clear hK K hHeld hz72
 have hHeld := hNew
 clear hNew
 try simp only [qq]
 refine planH.go [69, 70, 71] ?_
 iterate 3 (apply planH.take (at_lit rfl) (by kernel_rfl) (by rfl) (fun _ _ _ h => h) hHeld; (· intro w9 hSw; have hq := hSw.blk.cell; clear hSw; go_simp; try with_reducible rfl); try simp only [qq])
 refine planH.fin ?_
 refine wpAnyH_done (by kernel_rfl) ?_ _
 go_wp2
 go_ret
 exact ⟨by rw [HV.out, eq_false_of_ne_true hu]; rfl, ext_trans hB hHeld.bel⟩
theorem implValid (r : Rc) (p : RcP) (w : World) (hW : Hid (r.wish.length ≤ p.cW)) (h : RcAt w r p) :
  Calls Tryz.prog 38 #[.agg (rcV r p)] w fun e w' => e = .returned (.bool (validB r)) ∧ Below w.heap.size w w' := by
 by_cases hN : ¬ ((inB r.of_ 1 5 && inB r.num 1 r.of_) = true ∧ diskOkB r.sp r.sk r.ss = true ∧ diskOkB r.dp r.dk r.ds = true)
 ·exact iv_a r p w hW h  hN
 obtain ⟨g0, g1, g2⟩ := Classical.not_not.1 hN
 clear hN
 by_cases hN : ¬ (heldOkB r.num r.of_ r.held = true ∧ wishesOkB r.wish = true ∧ inB r.heard 0 1000000 = true)
 ·exact iv_b r p w hW h g0 g1 g2 hN
 obtain ⟨g3, g4, g5⟩ := Classical.not_not.1 hN
 clear hN
 by_cases hN : ¬ (numsOkB r.of_ r.yes = true ∧ slotsOkB r.best = true ∧ acksOkB r.of_ r.acks = true)
 ·exact iv_c r p w hW h g0 g1 g2 g3 g4 g5 hN
 obtain ⟨g6, g7, g8⟩ := Classical.not_not.1 hN
 clear hN
 cases hl : r.lead
 ·cases ht : r.tr
  ·exact iv_g r p w hW h g0 g1 g2 g3 g4 g5 g6 g7 g8 hl ht
  exact iv_f r p w hW h g0 g1 g2 g3 g4 g5 g6 g7 g8 hl ht
 cases ht : r.tr
 ·exact iv_e r p w hW h g0 g1 g2 g3 g4 g5 g6 g7 g8 hl ht
 exact iv_d r p w hW h g0 g1 g2 g3 g4 g5 g6 g7 g8 hl ht
end Go.Proofs.YtffklmlljekceaaGreat
namespace Go.Proofs.YtffklmlljekceaaGreat
open Go.ChangeShapes Go.WideShapes Go.ChangeAt Go.RowKit
set_option linter.unusedSimpArgs false
set_option linter.unusedVariables false
set_option maxHeartbeats 40000000
set_option maxRecDepth 20000
theorem implRecTake (B : Nat) (r : Rc) (p : RcP) (X : RcX) (col : Nat → Nat) (m : MsgH) (al : Option Addr) (l : List Sl) (cl : Nat) (w : World) (hS : RcSmall r) (hl : l.length ≤ 1048576) (hcl : l.length ≤ cl ∧ cl ≤ maxLen) (hx : m.x.size ≤ maxLen) (hsl : SlotsAt w al l) (hlt : ∀ x, al = some x → x.block < w.heap.size) (h : RcHas B w r p X col) :
  Calls Tryz.prog 10 #[.agg (rcV r p), .agg (msgV m (.slice al l.length cl))] w (APost w (recTake r m l)) := by
 have RD := hid h
 have HS := hid hS
 have ALL := hid (show l.length ≤ 1048576 ∧ (l.length ≤ cl ∧ cl ≤ maxLen) ∧ m.x.size ≤ maxLen ∧ SlotsAt w al l ∧ (∀ x, al = some x → x.block < w.heap.size) from ⟨hl, hcl, hx, hsl, hlt⟩)
 clear h hS hcl hx hsl hlt hl
 obtain ⟨V, hV⟩ : ∃ V, V = ((w.alloc (.cells (rcV r p) 41)).alloc (.cells (msgV m (.slice al l.length cl)) 45)).alloc (.cells zRc 41) := ⟨_, rfl⟩
 have BV := hid (show Below w.heap.size w V by rw [hV]; exact ext_alloc (ext_alloc (ext_alloc (Below.refl _ _) _) _) _)
 have K1 := hid (show Blk V w.heap.size (rcV r p) 41 by rw [hV]; exact ((Blk.new _ _ _).alloc _).alloc _)
 have KM := hid (show Blk V (w.heap.size + 1) (msgV m (.slice al l.length cl)) 45 by rw [hV]; exact (Blk.new' _ _ (by simp)).alloc _)
 have K2 := hid (show Blk V (w.heap.size + 1 + 1) zRc 41 by rw [hV]; exact Blk.new' _ _ (by simp))
 have k1 := K1.out
 rw [hV] at k1
 go_enter Tryz.func10, Tryz.ntmps10
 go_wp2_with ((with_reducible refine wpList_load_rec w.heap.size (rcV r p) rfl ?_ ?_ ?_); (· rfl); (· exact k1))
 rw [← hV]
 clear hV k1
 refine (implValid r p _ (hid RD.out.t.len.2) (RD.out.ext BV.out).at).mono ?_
 rintro e w1 ⟨rfl, hb1⟩
 have B1 := hid (ext_trans BV.out hb1)
 have k1 := K1.out.ext hb1
 have k2 := K2.out.ext hb1
 have K2b := hid k2
 have KMb := hid (KM.out.ext hb1)
 have SZ1 := hid (show (w.heap.size + 1 + 1) < w1.heap.size from k2.lt)
 clear hb1 K1 K2 BV KM
 cases hv : validB r
 case false =>
  have HN := hid (show recTake r m l = rc0 by unfold recTake; rw [hv]; simp)
  go_wp2_with (first
   | ((with_reducible refine wpList_build_to (ty := 41) zRc ?_ ?_); (· kernel_rfl))
   | ((with_reducible refine wpList_store_rec_at (w.heap.size + 1 + 1) zRc zRc rfl rfl ?_ ?_ ?_ ?_ ?_); (· rfl); (· rfl); (· exact k2); (· simp [Value.oneCell'])))
  have hz := setRow_heap _ (w.heap.size + 1 + 1) _ zRc _ _ k2
  refine ret_cell (ty := 41) Tryz.results10 (w.heap.size + 1 + 1) zRc _ ?_ ?_ hz Tryz.underlying41 rfl (by kernel_rfl) ?_
  ·rfl
  ·rfl
  rw [HN.out]
  exact ⟨rp0, ⟨[], []⟩, fun _ => 0, rfl, rc0_has _ _ _, below_setRow' B1.out (by omega) _⟩
 go_wp2_with ((with_reducible refine wpList_load_rec w.heap.size (rcV r p) rfl ?_ ?_ ?_); (· rfl); (· exact k1))
 refine (copyRec B r p X col _ HS.out (RD.out.ext B1.out)).mono ?_
 rintro e w2 ⟨p2, X2, col2, rfl, has2, hb2⟩
 have HAS := hid has2.fresh
 have B2 := hid (ext_trans B1.out hb2)
 have K2c := hid (K2b.out.ext hb2)
 have KMc := hid (KMb.out.ext hb2)
 have SZ2 := hid hb2.size
 clear has2 hb2 k1 k2 K2b KMb
 obtain ⟨W, hW⟩ : ∃ W, W = w2.alloc (.cells (rcV r p2) 41) := ⟨_, rfl⟩
 have EW := hid (show Below w2.heap.size w2 W by rw [hW]; exact ext_alloc (Below.refl _ _) _)
 have K5 := hid (show Blk W w2.heap.size (rcV r p2) 41 by rw [hW]; exact Blk.new _ _ _)
 have K2d := hid (K2c.out.ext EW.out)
 have KMd := hid (KMc.out.ext EW.out)
 have k5 := K5.out
 have k2 := K2d.out
 have KMB := KMd.out
 rw [hW] at k5 k2 KMB
 have c2 := k5.cell
 have cM := KMB.cell
 cases hu : r.up
 case false =>
  have HN := hid (show recTake r m l = r by unfold recTake; rw [hv, hu]; simp)
  have c2' : (w2.alloc (.cells (rcV r p2) 41)).cell? ⟨w2.heap.size, 2, none⟩ = some (.bool false) := by rw [c2]; simp [hu]
  clear c2
  have HU := hid hu
  clear hu
  go_wp2_with (first
   | ((with_reducible refine wpList_store_rec (rcV r p2) rfl ?_ ?_ ?_ ?_ ?_); (· rfl); (· rfl); (· rfl); (· simp [Value.oneCell']))
   | ((with_reducible refine wpList_load_rec w2.heap.size (rcV r p2) rfl ?_ ?_ ?_); (· rfl); (· exact k5))
   | ((with_reducible refine wpList_store_rec_at (w.heap.size + 1 + 1) zRc (rcV r p2) rfl rfl ?_ ?_ ?_ ?_ ?_); (· rfl); (· rfl); (· exact k2); (· simp [Value.oneCell'])))
  have hz := setRow_heap _ (w.heap.size + 1 + 1) _ (rcV r p2) _ _ k2
  refine ret_cell (ty := 41) Tryz.results10 (w.heap.size + 1 + 1) (rcV r p2) _ ?_ ?_ hz Tryz.underlying41 rfl (by kernel_rfl) ?_
  ·rfl
  ·rfl
  rw [HN.out]
  exact ⟨p2, X2, _, rfl, (((HAS.out.ext (ext_alloc (Below.refl _ _) _)).far (by have := SZ1.out; omega) _).low (by have := SZ1.out; omega)), below_setRow' (ext_alloc B2.out _) (by omega) _⟩
 have c2' : (w2.alloc (.cells (rcV r p2) 41)).cell? ⟨w2.heap.size, 2, none⟩ = some (.bool true) := by rw [c2]; simp [hu]
 have c0' : (w2.alloc (.cells (rcV r p2) 41)).cell? ⟨w2.heap.size, 0, none⟩ = some (.int .i64 r.num) := by rw [c2]; simp
 have c1' : (w2.alloc (.cells (rcV r p2) 41)).cell? ⟨w2.heap.size, 1, none⟩ = some (.int .i64 r.of_) := by rw [c2]; simp
 clear c2
 by_cases ht : m.t = r.num
 case neg =>
  have HN := hid (show recTake r m l = r by unfold recTake; rw [hv, hu, if_pos rfl, if_neg (fun q => ht q.2.2)])
  have u1 : (m.t == r.num) = false := beq_false_of_ne ht
  have HU := hid hu
  clear hu ht
  go_wp2_with (first
   | ((with_reducible refine wpList_store_rec (rcV r p2) rfl ?_ ?_ ?_ ?_ ?_); (· rfl); (· rfl); (· rfl); (· simp [Value.oneCell']))
   | ((with_reducible refine wpList_load_rec w2.heap.size (rcV r p2) rfl ?_ ?_ ?_); (· rfl); (· exact k5))
   | ((with_reducible refine wpList_store_rec_at (w.heap.size + 1 + 1) zRc (rcV r p2) rfl rfl ?_ ?_ ?_ ?_ ?_); (· rfl); (· rfl); (· exact k2); (· simp [Value.oneCell'])))
  have hz := setRow_heap _ (w.heap.size + 1 + 1) _ (rcV r p2) _ _ k2
  refine ret_cell (ty := 41) Tryz.results10 (w.heap.size + 1 + 1) (rcV r p2) _ ?_ ?_ hz Tryz.underlying41 rfl (by kernel_rfl) ?_
  ·rfl
  ·rfl
  rw [HN.out]
  exact ⟨p2, X2, _, rfl, (((HAS.out.ext (ext_alloc (Below.refl _ _) _)).far (by have := SZ1.out; omega) _).low (by have := SZ1.out; omega)), below_setRow' (ext_alloc B2.out _) (by omega) _⟩
 have u1 : (m.t == r.num) = true := by rw [ht]; exact beq_self_eq_true _
 have HU := hid hu
 have HT := hid ht
 clear hu ht
 go_wp2_with (first
  | ((with_reducible refine wpList_store_rec (rcV r p2) rfl ?_ ?_ ?_ ?_ ?_); (· rfl); (· rfl); (· rfl); (· simp [Value.oneCell']))
  | ((with_reducible refine wpList_load_blk (w.heap.size + 1) (msgV m (.slice al l.length cl)) 45 ?_ ?_ Tryz.underlying45 rfl (by kernel_rfl) ?_); (· rfl); (· exact KMB)))
 rw [← hW]
 clear hW k5 k2 KMB cM c2' c0' c1'
 have BW := hid (ext_trans B2.out EW.out)
 refine (implMsgOk m r.of_ al l _ cl _ rfl (by have := ALL.out.1; unfold maxLen; omega) ALL.out.2.2.1 (ALL.out.2.2.2.1.ext BW.out)).mono ?_
 rintro e w3 ⟨rfl, hb3⟩
 have E3 := hid hb3
 have K5e := hid (K5.out.ext hb3)
 have K2e := hid (K2d.out.ext hb3)
 have KMe := hid (KMd.out.ext hb3)
 have B3 := hid (ext_trans BW.out hb3)
 have H3 := hid (HAS.out.ext (ext_trans EW.out hb3))
 clear hb3 K5 K2d KMd
 have k5 := K5e.out
 have k2 := K2e.out
 have KMB := KMe.out
 cases hm : msgOkB m r.of_ l
 case false =>
  have HN := hid (show recTake r m l = r by unfold recTake; rw [hv, HU.out, if_pos rfl, if_neg (fun q => by rw [hm] at q; exact absurd q.2.1 (by simp))])
  go_wp2_with (first
   | ((with_reducible refine wpList_load_rec w2.heap.size (rcV r p2) rfl ?_ ?_ ?_); (· rfl); (· exact k5))
   | ((with_reducible refine wpList_store_rec_at (w.heap.size + 1 + 1) zRc (rcV r p2) rfl rfl ?_ ?_ ?_ ?_ ?_); (· rfl); (· rfl); (· exact k2); (· simp [Value.oneCell'])))
  have hz := setRow_heap _ (w.heap.size + 1 + 1) _ (rcV r p2) _ _ k2
  refine ret_cell (ty := 41) Tryz.results10 (w.heap.size + 1 + 1) (rcV r p2) _ ?_ ?_ hz Tryz.underlying41 rfl (by kernel_rfl) ?_
  ·rfl
  ·rfl
  rw [HN.out]
  exact ⟨p2, X2, _, rfl, ((H3.out.far (by have := SZ1.out; omega) _).low (by have := SZ1.out; omega)), below_setRow' B3.out (by omega) _⟩
 have HN := hid (show recTake r m l = takeR r m l by unfold recTake; rw [hv, HU.out, hm, if_pos rfl, if_pos ⟨rfl, rfl, HT.out⟩])
 have c2 := k5.cell
 have cM := KMB.cell
 go_wp2_with ((with_reducible refine wpList_load_blk (w.heap.size + 1) (msgV m (.slice al l.length cl)) 45 ?_ ?_ Tryz.underlying45 rfl (by kernel_rfl) ?_); (· rfl); (· exact KMB))
 clear c2 cM k5 k2 KMB
 refine (implTake w1.heap.size w2.heap.size r p2 X2 _ m al l cl w3 SZ2.out K5e.out (by rw [colF_new (Nat.le_refl _)]; omega) hv HS.out hm ALL.out.2.1 (ALL.out.2.2.2.1.ext B3.out) (fun x hx => by have := ALL.out.2.2.2.2 x hx; have := SZ1.out; omega) H3.out).mono ?_
 obtain ⟨r4, hr4⟩ : ∃ r4, r4 = takeR r m l := ⟨_, rfl⟩
 rw [← hr4]
 rw [← hr4] at HN
 clear hr4
 rintro e w4 ⟨⟨v4, rfl⟩, p4, X4, c4, k4, has4, _, hb4, _⟩
 have H4 := hid has4
 have B4 := hid (show Below w.heap.size w w4 from B3.out.trans (hb4.mono (by have := SZ1.out; omega)))
 have k2 := K2e.out.below hb4 SZ1.out
 clear has4 hb4
 go_wp2_with (first
  | ((with_reducible refine wpList_load_rec w2.heap.size (rcV r4 p4) rfl ?_ ?_ ?_); (· rfl); (· exact k4))
  | ((with_reducible refine wpList_store_rec_at (w.heap.size + 1 + 1) zRc (rcV r4 p4) rfl rfl ?_ ?_ ?_ ?_ ?_); (· rfl); (· rfl); (· exact k2); (· simp [Value.oneCell'])))
 have hz := setRow_heap _ (w.heap.size + 1 + 1) _ (rcV r4 p4) _ _ k2
 refine ret_cell (ty := 41) Tryz.results10 (w.heap.size + 1 + 1) (rcV r4 p4) _ ?_ ?_ hz Tryz.underlying41 rfl (by kernel_rfl) ?_
 ·rfl
 ·rfl
 rw [HN.out]
 exact ⟨p4, X4, _, rfl, (H4.out.far SZ1.out _).low (by have := SZ1.out; omega), below_setRow' B4.out (by omega) _⟩
end Go.Proofs.YtffklmlljekceaaGreat
