import Derived.Test.YtjdceoimignnpaaF06
namespace Go.Proofs.Ytjdceoimignnpaa
open Go.ChangeShapes Go.WideShapes Go.ChangeAt Go.RowKit Go.Deep Go.Joins
set_option linter.unusedVariables false
set_option linter.unusedSimpArgs false
set_option maxHeartbeats 40000000
set_option maxRecDepth 20000
theorem Nr (r : Rc) (p : fU) (w : World) (hW : Hid (r.wish.length ≤ p.cW)) (h : oL w r p) (g0 : Hid ((inB r.of_ 1 5 && inB r.num 1 r.of_) = true)) (g1 : Hid (bW r.sp r.sk r.ss = true)) (g2 : Hid (bW r.dp r.dk r.ds = true)) (g3 : Hid (fO r.num r.of_ r.held = true)) (g4 : Hid (dF r.wish = true)) (g5 : Hid (inB r.heard 0 1000000 = true)) (g6 : Hid (dh r.of_ r.yes = true)) (g7 : Hid (bM r.best = true)) (g8 : Hid (dZ r.of_ r.acks = true)) (hl : r.lead = true) (ht : r.tr = true) :
  Calls Try.prog 12 #[.agg (au r p)] w fun e w' => e = .returned (.bool (bf r)) ∧ Below w.heap.size w w' := by
 have hB : Below w.heap.size w (w.alloc (.cells (au r p) 31)) := ae (Below.refl _ _) _;have hR := h.ext hB;have hK0 : mG (w.alloc (.cells (au r p) 31)) w.heap.size r p (w.alloc (.cells (au r p) 31)) := ⟨aC.new w (au r p) 31, Below.refl _ _⟩
 clear h;go_enter Try.func12, Try.ntmps12;go_wp2_with fail;simp only [List.append_eq, List.cons_append, List.nil_append];refine wp_region_held_drew (S := mG (w.alloc (.cells (au r p) 31)) w.heap.size r p) (by kernel_rfl) hK0.drew (fun q9 => ?_);clear hK0;simp only [qz, Nat.reduceAdd];refine ag.go [0, 1, 2, 3] ?_;iterate 4 (refine ag.tb q9 ?_; try simp only [qq])
 refine ag.fin ?_;have hof : Hid (r.of_ ≤ 1000000) := by
  have h9 := g0.out;rw [Bool.and_eq_true] at h9;have := bK.1 h9.1;unfold Hid;omega
 refine bV 4 fun K hK => ?_
 go_simp;refine (iH _ _ _).mono ?_;rintro e z25 ⟨he, hz25⟩;rw [g0.out] at he;subst he;go_wp2_with fail;refine hK.out _ _ (q9.ext hz25) (fun hNew => ?_);clear hK K q9 hz25;have q9 := hNew;clear hNew;try simp only [qq]
 refine ag.go [5, 6, 7] ?_;iterate 3 (refine ag.tb q9 ?_; try simp only [qq])
 refine ag.fin ?_;refine bV 8 fun K hK => ?_
 go_simp;refine (dB r.sp r.sk p.aS r.ss _ p.cS _ rfl hR.lS (by exact (hR.ext q9.bel).hS)).mono ?_;rintro e z26 ⟨he, hz26⟩;rw [g1.out] at he;subst he;go_wp2_with fail;refine hK.out _ _ (q9.ext hz26) (fun hNew => ?_);clear hK K q9 hz26;have q9 := hNew;clear hNew;try simp only [qq]
 refine ag.go [9, 10, 11, 12] ?_;iterate 4 (refine ag.tb q9 ?_; try simp only [qq])
 refine ag.fin ?_;refine bV 13 fun K hK => ?_
 go_simp;refine (dB r.dp r.dk p.aD r.ds _ p.cD _ rfl hR.lD (by exact (hR.ext q9.bel).hD)).mono ?_;rintro e z27 ⟨he, hz27⟩;rw [g2.out] at he;subst he;go_wp2_with fail;refine hK.out _ _ (q9.ext hz27) (fun hNew => ?_);clear hK K q9 hz27;have q9 := hNew;clear hNew;try simp only [qq]
 refine ag.go [14, 15] ?_;iterate 2 (refine ag.tb q9 ?_; try simp only [qq])
 refine ag.fin ?_;refine wpAnyH_take (i := 16) (ax rfl) (by kernel_rfl) (by kernel_rfl) (by kernel_rfl) (fun _ _ _ h => h) (fC (by rfl) _ rfl rfl) q9 ?_;try simp only [qq]
 refine bV 17 fun K hK => ?_
 go_simp;refine (jK r p _ (by exact hR.ext q9.bel)).mono ?_;rintro e z28 ⟨he, hz28⟩;rw [g3.out] at he;subst he;go_wp2_with fail;refine hK.out _ _ (q9.ext hz28) (fun hNew => ?_);clear hK K q9 hz28;have q9 := hNew;clear hNew;try simp only [qq]
 refine ag.go [18, 19, 20, 21] ?_;iterate 4 (refine ag.tb q9 ?_; try simp only [qq])
 refine ag.fin ?_;refine bV 22 fun K hK => ?_
 go_simp;refine (iZ p.aW r.wish _ p.cW _ rfl hW.out hR.lW (by exact (hR.ext q9.bel).hW)).mono ?_;rintro e z29 ⟨he, hz29⟩;rw [g4.out] at he;subst he;go_wp2_with fail;refine hK.out _ _ (q9.ext hz29) (fun hNew => ?_);clear hK K q9 hz29;have q9 := hNew;clear hNew;try simp only [qq]
 refine ag.go [23, 24, 25, 26] ?_;iterate 4 (refine ag.tb q9 ?_; try simp only [qq])
 refine ag.fin ?_;refine bV 27 fun K hK => ?_
 go_simp;refine (nX _ _ _ _).mono ?_;rintro e z30 ⟨he, hz30⟩;rw [g5.out] at he;subst he;go_wp2_with fail;refine hK.out _ _ (q9.ext hz30) (fun hNew => ?_);clear hK K q9 hz30;have q9 := hNew;clear hNew;try simp only [qq]
 refine ag.go [28, 29, 30, 31, 32, 33] ?_;iterate 6 (refine ag.tb q9 ?_; try simp only [qq])
 refine ag.fin ?_;refine bV 34 fun K hK => ?_
 go_simp;refine (jg p.aY r.yes _ p.cY _ _ rfl hR.lY hof.out (by exact (hR.ext q9.bel).hY)).mono ?_;rintro e z31 ⟨he, hz31⟩;rw [g6.out] at he;subst he;go_wp2_with fail;refine hK.out _ _ (q9.ext hz31) (fun hNew => ?_);clear hK K q9 hz31;have q9 := hNew;clear hNew;try simp only [qq]
 refine ag.go [35, 36, 37, 38] ?_;iterate 4 (refine ag.tb q9 ?_; try simp only [qq])
 refine ag.fin ?_;refine bV 39 fun K hK => ?_
 go_simp;refine (dH p.aB r.best _ p.cB _ rfl hR.lB (by exact (hR.ext q9.bel).hB)).mono ?_;rintro e z32 ⟨he, hz32⟩;rw [g7.out] at he;subst he;go_wp2_with fail;refine hK.out _ _ (q9.ext hz32) (fun hNew => ?_);clear hK K q9 hz32;have q9 := hNew;clear hNew;try simp only [qq]
 refine ag.go [40, 41, 42, 43, 44, 45] ?_;iterate 6 (refine ag.tb q9 ?_; try simp only [qq])
 refine ag.fin ?_;refine bV 46 fun K hK => ?_
 go_simp;refine (mO p.aA r.acks _ p.cA _ _ rfl hR.lA hof.out (by exact (hR.ext q9.bel).hA)).mono ?_;rintro e z33 ⟨he, hz33⟩;rw [g8.out] at he;subst he;go_wp2_with fail;refine hK.out _ _ (q9.ext hz33) (fun hNew => ?_);clear hK K q9 hz33;have q9 := hNew;clear hNew;try simp only [qq]
 refine ag.go [47, 48, 49, 50, 51, 52, 53, 54, 55, 56, 57, 58, 59, 60, 61, 62, 63, 64, 65, 66, 67, 68, 69, 70, 71] ?_;iterate 11 (refine ag.tb q9 ?_; try simp only [qq])
 iterate 4 (refine ag.sk q9 ?_; try simp only [qq])
 iterate 2 (refine ag.tb q9 ?_; try simp only [qq])
 iterate 6 (refine ag.sk q9 ?_; try simp only [qq])
 iterate 2 (refine ag.tb q9 ?_; try simp only [qq])
 refine ag.fin ?_;refine wpAnyH_done (by kernel_rfl) ?_ _;go_wp2;go_ret;exact ⟨by rw [JP (by simp [hl, ht])]; rfl, aj hB q9.bel⟩
theorem Na (r : Rc) (p : fU) (w : World) (hW : Hid (r.wish.length ≤ p.cW)) (h : oL w r p) (g0 : Hid ((inB r.of_ 1 5 && inB r.num 1 r.of_) = true)) (g1 : Hid (bW r.sp r.sk r.ss = true)) (g2 : Hid (bW r.dp r.dk r.ds = true)) (g3 : Hid (fO r.num r.of_ r.held = true)) (g4 : Hid (dF r.wish = true)) (g5 : Hid (inB r.heard 0 1000000 = true)) (g6 : Hid (dh r.of_ r.yes = true)) (g7 : Hid (bM r.best = true)) (g8 : Hid (dZ r.of_ r.acks = true)) (hl : r.lead = true) (ht : r.tr = false) :
  Calls Try.prog 12 #[.agg (au r p)] w fun e w' => e = .returned (.bool (bf r)) ∧ Below w.heap.size w w' := by
 have hB : Below w.heap.size w (w.alloc (.cells (au r p) 31)) := ae (Below.refl _ _) _;have hR := h.ext hB;have hK0 : mG (w.alloc (.cells (au r p) 31)) w.heap.size r p (w.alloc (.cells (au r p) 31)) := ⟨aC.new w (au r p) 31, Below.refl _ _⟩
 clear h;go_enter Try.func12, Try.ntmps12;go_wp2_with fail;simp only [List.append_eq, List.cons_append, List.nil_append];refine wp_region_held_drew (S := mG (w.alloc (.cells (au r p) 31)) w.heap.size r p) (by kernel_rfl) hK0.drew (fun q9 => ?_);clear hK0;simp only [qz, Nat.reduceAdd];refine ag.go [0, 1, 2, 3] ?_;iterate 4 (refine ag.tb q9 ?_; try simp only [qq])
 refine ag.fin ?_;have hof : Hid (r.of_ ≤ 1000000) := by
  have h9 := g0.out;rw [Bool.and_eq_true] at h9;have := bK.1 h9.1;unfold Hid;omega
 refine bV 4 fun K hK => ?_
 go_simp;refine (iH _ _ _).mono ?_;rintro e z34 ⟨he, hz34⟩;rw [g0.out] at he;subst he;go_wp2_with fail;refine hK.out _ _ (q9.ext hz34) (fun hNew => ?_);clear hK K q9 hz34;have q9 := hNew;clear hNew;try simp only [qq]
 refine ag.go [5, 6, 7] ?_;iterate 3 (refine ag.tb q9 ?_; try simp only [qq])
 refine ag.fin ?_;refine bV 8 fun K hK => ?_
 go_simp;refine (dB r.sp r.sk p.aS r.ss _ p.cS _ rfl hR.lS (by exact (hR.ext q9.bel).hS)).mono ?_;rintro e z35 ⟨he, hz35⟩;rw [g1.out] at he;subst he;go_wp2_with fail;refine hK.out _ _ (q9.ext hz35) (fun hNew => ?_);clear hK K q9 hz35;have q9 := hNew;clear hNew;try simp only [qq]
 refine ag.go [9, 10, 11, 12] ?_;iterate 4 (refine ag.tb q9 ?_; try simp only [qq])
 refine ag.fin ?_;refine bV 13 fun K hK => ?_
 go_simp;refine (dB r.dp r.dk p.aD r.ds _ p.cD _ rfl hR.lD (by exact (hR.ext q9.bel).hD)).mono ?_;rintro e z36 ⟨he, hz36⟩;rw [g2.out] at he;subst he;go_wp2_with fail;refine hK.out _ _ (q9.ext hz36) (fun hNew => ?_);clear hK K q9 hz36;have q9 := hNew;clear hNew;try simp only [qq]
 refine ag.go [14, 15] ?_;iterate 2 (refine ag.tb q9 ?_; try simp only [qq])
 refine ag.fin ?_;refine wpAnyH_take (i := 16) (ax rfl) (by kernel_rfl) (by kernel_rfl) (by kernel_rfl) (fun _ _ _ h => h) (fC (by rfl) _ rfl rfl) q9 ?_;try simp only [qq]
 refine bV 17 fun K hK => ?_
 go_simp;refine (jK r p _ (by exact hR.ext q9.bel)).mono ?_;rintro e z37 ⟨he, hz37⟩;rw [g3.out] at he;subst he;go_wp2_with fail;refine hK.out _ _ (q9.ext hz37) (fun hNew => ?_);clear hK K q9 hz37;have q9 := hNew;clear hNew;try simp only [qq]
 refine ag.go [18, 19, 20, 21] ?_;iterate 4 (refine ag.tb q9 ?_; try simp only [qq])
 refine ag.fin ?_;refine bV 22 fun K hK => ?_
 go_simp;refine (iZ p.aW r.wish _ p.cW _ rfl hW.out hR.lW (by exact (hR.ext q9.bel).hW)).mono ?_;rintro e z38 ⟨he, hz38⟩;rw [g4.out] at he;subst he;go_wp2_with fail;refine hK.out _ _ (q9.ext hz38) (fun hNew => ?_);clear hK K q9 hz38;have q9 := hNew;clear hNew;try simp only [qq]
 refine ag.go [23, 24, 25, 26] ?_;iterate 4 (refine ag.tb q9 ?_; try simp only [qq])
 refine ag.fin ?_;refine bV 27 fun K hK => ?_
 go_simp;refine (nX _ _ _ _).mono ?_;rintro e z39 ⟨he, hz39⟩;rw [g5.out] at he;subst he;go_wp2_with fail;refine hK.out _ _ (q9.ext hz39) (fun hNew => ?_);clear hK K q9 hz39;have q9 := hNew;clear hNew;try simp only [qq]
 refine ag.go [28, 29, 30, 31, 32, 33] ?_;iterate 6 (refine ag.tb q9 ?_; try simp only [qq])
 refine ag.fin ?_;refine bV 34 fun K hK => ?_
 go_simp;refine (jg p.aY r.yes _ p.cY _ _ rfl hR.lY hof.out (by exact (hR.ext q9.bel).hY)).mono ?_;rintro e z40 ⟨he, hz40⟩;rw [g6.out] at he;subst he;go_wp2_with fail;refine hK.out _ _ (q9.ext hz40) (fun hNew => ?_);clear hK K q9 hz40;have q9 := hNew;clear hNew;try simp only [qq]
 refine ag.go [35, 36, 37, 38] ?_;iterate 4 (refine ag.tb q9 ?_; try simp only [qq])
 refine ag.fin ?_;refine bV 39 fun K hK => ?_
 go_simp;refine (dH p.aB r.best _ p.cB _ rfl hR.lB (by exact (hR.ext q9.bel).hB)).mono ?_;rintro e z41 ⟨he, hz41⟩;rw [g7.out] at he;subst he;go_wp2_with fail;refine hK.out _ _ (q9.ext hz41) (fun hNew => ?_);clear hK K q9 hz41;have q9 := hNew;clear hNew;try simp only [qq]
 refine ag.go [40, 41, 42, 43, 44, 45] ?_;iterate 6 (refine ag.tb q9 ?_; try simp only [qq])
 refine ag.fin ?_;refine bV 46 fun K hK => ?_
 go_simp;refine (mO p.aA r.acks _ p.cA _ _ rfl hR.lA hof.out (by exact (hR.ext q9.bel).hA)).mono ?_;rintro e z42 ⟨he, hz42⟩;rw [g8.out] at he;subst he;go_wp2_with fail;refine hK.out _ _ (q9.ext hz42) (fun hNew => ?_);clear hK K q9 hz42;have q9 := hNew;clear hNew;try simp only [qq]
 refine ag.go [47, 48, 49, 50, 51, 52, 53, 54, 55, 56, 57] ?_;iterate 11 (refine ag.tb q9 ?_; try simp only [qq])
 refine ag.fin ?_;refine wpAnyH_take (i := 58) (ax rfl) (by kernel_rfl) (by kernel_rfl) (by kernel_rfl) (fun _ _ _ h => h) (fC (by rfl) _ rfl rfl) q9 ?_;try simp only [qq]
 refine wpAnyH_take (i := 60) (ax rfl) (by kernel_rfl) (by kernel_rfl) (by kernel_rfl) (fun _ _ _ h => h) (fC (by rfl) _ rfl rfl) q9 ?_;try simp only [qq]
 refine bV 59 fun K hK => ?_
 go_simp;refine (sU r p _).mono ?_;rintro e z43 ⟨he, hz43⟩;rw [show vJ r = .iface 108 (.agg #[]) by simp [vJ, hl, ht]] at he;subst he;go_wp2_with fail;refine hK.out _ _ (q9.ext hz43) (fun hNew => ?_);clear hK K q9 hz43;have q9 := hNew;clear hNew;try simp only [qq]
 by_cases g' : uB r = false
 ·skip
  refine bV 61 fun K hK => ?_
  go_simp
  skip
  refine (lead_any r p _).mono ?_;rintro e z44 ⟨he, hz44⟩;rw [g'] at he;subst he;go_wp2_with fail;refine hK.out _ _ (q9.ext hz44) (fun hNew => ?_);clear hK K q9 hz44;have q9 := hNew;clear hNew;try simp only [qq]
  refine ag.go [62, 63, 64, 65, 66, 67, 68, 69, 70, 71] ?_;iterate 2 (refine ag.tb q9 ?_; try simp only [qq])
  iterate 6 (refine ag.sk q9 ?_; try simp only [qq])
  iterate 2 (refine ag.tb q9 ?_; try simp only [qq])
  refine ag.fin ?_;refine wpAnyH_done (by kernel_rfl) ?_ _;go_wp2;go_ret;exact ⟨by rw [qM (show gU r = false by simp [gU, hl, ht, g'])]; rfl, aj hB q9.bel⟩
 have g10 : Hid (gU r = true) := by unfold Hid; simp [gU, hl, ht, eq_true_of_ne_false g']
 refine bV 61 fun K hK => ?_
 go_simp
 skip
 refine (lead_any r p _).mono ?_;rintro e z45 ⟨he, hz45⟩;rw [eq_true_of_ne_false g'] at he;subst he;go_wp2_with fail;refine hK.out _ _ (q9.ext hz45) (fun hNew => ?_);clear hK K q9 hz45;have q9 := hNew;clear hNew;try simp only [qq]
 clear g';have HV : Hid (bf r = (r.up || lJ r)) := kP g0.out g1.out g2.out g3.out g4.out g5.out g6.out g7.out g8.out (by simp [hl, ht]) g10.out;refine ag.go [62, 63, 64] ?_;iterate 3 (refine ag.tb q9 ?_; try simp only [qq])
 refine ag.fin ?_;by_cases hu : r.up = true
 ·skip
  refine ag.go [65, 66, 67, 68, 69, 70, 71] ?_;iterate 2 (refine ag.tb q9 ?_; try simp only [qq])
  iterate 2 (refine ag.sk q9 ?_; try simp only [qq])
  iterate 3 (refine ag.tb q9 ?_; try simp only [qq])
  refine ag.fin ?_;refine wpAnyH_done (by kernel_rfl) ?_ _;go_wp2;go_ret;exact ⟨by rw [HV.out, hu]; rfl, aj hB q9.bel⟩
 skip
 refine ag.go [65, 66] ?_;iterate 2 (refine ag.tb q9 ?_; try simp only [qq])
 refine ag.fin ?_;refine wpAnyH_take (i := 67) (ax rfl) (by kernel_rfl) (by kernel_rfl) (by kernel_rfl) (fun _ _ _ h => h) (fC (by rfl) _ rfl rfl) q9 ?_;try simp only [qq]
 refine bV 68 fun K hK => ?_
 go_simp;refine (sW r p _).mono ?_;rintro e z46 ⟨he, hz46⟩
 skip
 subst he;go_wp2_with fail;refine hK.out _ _ (q9.ext hz46) (fun hNew => ?_);clear hK K q9 hz46;have q9 := hNew;clear hNew;try simp only [qq]
 refine ag.go [69, 70, 71] ?_;iterate 3 (refine ag.tb q9 ?_; try simp only [qq])
 refine ag.fin ?_;refine wpAnyH_done (by kernel_rfl) ?_ _;go_wp2;go_ret;exact ⟨by rw [HV.out, eq_false_of_ne_true hu]; rfl, aj hB q9.bel⟩
theorem Nv (r : Rc) (p : fU) (w : World) (hW : Hid (r.wish.length ≤ p.cW)) (h : oL w r p) (g0 : Hid ((inB r.of_ 1 5 && inB r.num 1 r.of_) = true)) (g1 : Hid (bW r.sp r.sk r.ss = true)) (g2 : Hid (bW r.dp r.dk r.ds = true)) (g3 : Hid (fO r.num r.of_ r.held = true)) (g4 : Hid (dF r.wish = true)) (g5 : Hid (inB r.heard 0 1000000 = true)) (g6 : Hid (dh r.of_ r.yes = true)) (g7 : Hid (bM r.best = true)) (g8 : Hid (dZ r.of_ r.acks = true)) (hl : r.lead = false) (ht : r.tr = true) :
  Calls Try.prog 12 #[.agg (au r p)] w fun e w' => e = .returned (.bool (bf r)) ∧ Below w.heap.size w w' := by
 have hB : Below w.heap.size w (w.alloc (.cells (au r p) 31)) := ae (Below.refl _ _) _;have hR := h.ext hB;have hK0 : mG (w.alloc (.cells (au r p) 31)) w.heap.size r p (w.alloc (.cells (au r p) 31)) := ⟨aC.new w (au r p) 31, Below.refl _ _⟩
 clear h;go_enter Try.func12, Try.ntmps12;go_wp2_with fail;simp only [List.append_eq, List.cons_append, List.nil_append];refine wp_region_held_drew (S := mG (w.alloc (.cells (au r p) 31)) w.heap.size r p) (by kernel_rfl) hK0.drew (fun q9 => ?_);clear hK0;simp only [qz, Nat.reduceAdd];refine ag.go [0, 1, 2, 3] ?_;iterate 4 (refine ag.tb q9 ?_; try simp only [qq])
 refine ag.fin ?_;have hof : Hid (r.of_ ≤ 1000000) := by
  have h9 := g0.out;rw [Bool.and_eq_true] at h9;have := bK.1 h9.1;unfold Hid;omega
 refine bV 4 fun K hK => ?_
 go_simp;refine (iH _ _ _).mono ?_;rintro e z47 ⟨he, hz47⟩;rw [g0.out] at he;subst he;go_wp2_with fail;refine hK.out _ _ (q9.ext hz47) (fun hNew => ?_);clear hK K q9 hz47;have q9 := hNew;clear hNew;try simp only [qq]
 refine ag.go [5, 6, 7] ?_;iterate 3 (refine ag.tb q9 ?_; try simp only [qq])
 refine ag.fin ?_;refine bV 8 fun K hK => ?_
 go_simp;refine (dB r.sp r.sk p.aS r.ss _ p.cS _ rfl hR.lS (by exact (hR.ext q9.bel).hS)).mono ?_;rintro e z48 ⟨he, hz48⟩;rw [g1.out] at he;subst he;go_wp2_with fail;refine hK.out _ _ (q9.ext hz48) (fun hNew => ?_);clear hK K q9 hz48;have q9 := hNew;clear hNew;try simp only [qq]
 refine ag.go [9, 10, 11, 12] ?_;iterate 4 (refine ag.tb q9 ?_; try simp only [qq])
 refine ag.fin ?_;refine bV 13 fun K hK => ?_
 go_simp;refine (dB r.dp r.dk p.aD r.ds _ p.cD _ rfl hR.lD (by exact (hR.ext q9.bel).hD)).mono ?_;rintro e z49 ⟨he, hz49⟩;rw [g2.out] at he;subst he;go_wp2_with fail;refine hK.out _ _ (q9.ext hz49) (fun hNew => ?_);clear hK K q9 hz49;have q9 := hNew;clear hNew;try simp only [qq]
 refine ag.go [14, 15] ?_;iterate 2 (refine ag.tb q9 ?_; try simp only [qq])
 refine ag.fin ?_;refine wpAnyH_take (i := 16) (ax rfl) (by kernel_rfl) (by kernel_rfl) (by kernel_rfl) (fun _ _ _ h => h) (fC (by rfl) _ rfl rfl) q9 ?_;try simp only [qq]
 refine bV 17 fun K hK => ?_
 go_simp;refine (jK r p _ (by exact hR.ext q9.bel)).mono ?_;rintro e z50 ⟨he, hz50⟩;rw [g3.out] at he;subst he;go_wp2_with fail;refine hK.out _ _ (q9.ext hz50) (fun hNew => ?_);clear hK K q9 hz50;have q9 := hNew;clear hNew;try simp only [qq]
 refine ag.go [18, 19, 20, 21] ?_;iterate 4 (refine ag.tb q9 ?_; try simp only [qq])
 refine ag.fin ?_;refine bV 22 fun K hK => ?_
 go_simp;refine (iZ p.aW r.wish _ p.cW _ rfl hW.out hR.lW (by exact (hR.ext q9.bel).hW)).mono ?_;rintro e z51 ⟨he, hz51⟩;rw [g4.out] at he;subst he;go_wp2_with fail;refine hK.out _ _ (q9.ext hz51) (fun hNew => ?_);clear hK K q9 hz51;have q9 := hNew;clear hNew;try simp only [qq]
 refine ag.go [23, 24, 25, 26] ?_;iterate 4 (refine ag.tb q9 ?_; try simp only [qq])
 refine ag.fin ?_;refine bV 27 fun K hK => ?_
 go_simp;refine (nX _ _ _ _).mono ?_;rintro e z52 ⟨he, hz52⟩;rw [g5.out] at he;subst he;go_wp2_with fail;refine hK.out _ _ (q9.ext hz52) (fun hNew => ?_);clear hK K q9 hz52;have q9 := hNew;clear hNew;try simp only [qq]
 refine ag.go [28, 29, 30, 31, 32, 33] ?_;iterate 6 (refine ag.tb q9 ?_; try simp only [qq])
 refine ag.fin ?_;refine bV 34 fun K hK => ?_
 go_simp;refine (jg p.aY r.yes _ p.cY _ _ rfl hR.lY hof.out (by exact (hR.ext q9.bel).hY)).mono ?_;rintro e z53 ⟨he, hz53⟩;rw [g6.out] at he;subst he;go_wp2_with fail;refine hK.out _ _ (q9.ext hz53) (fun hNew => ?_);clear hK K q9 hz53;have q9 := hNew;clear hNew;try simp only [qq]
 refine ag.go [35, 36, 37, 38] ?_;iterate 4 (refine ag.tb q9 ?_; try simp only [qq])
 refine ag.fin ?_;refine bV 39 fun K hK => ?_
 go_simp;refine (dH p.aB r.best _ p.cB _ rfl hR.lB (by exact (hR.ext q9.bel).hB)).mono ?_;rintro e z54 ⟨he, hz54⟩;rw [g7.out] at he;subst he;go_wp2_with fail;refine hK.out _ _ (q9.ext hz54) (fun hNew => ?_);clear hK K q9 hz54;have q9 := hNew;clear hNew;try simp only [qq]
 refine ag.go [40, 41, 42, 43, 44, 45] ?_;iterate 6 (refine ag.tb q9 ?_; try simp only [qq])
 refine ag.fin ?_;refine bV 46 fun K hK => ?_
 go_simp;refine (mO p.aA r.acks _ p.cA _ _ rfl hR.lA hof.out (by exact (hR.ext q9.bel).hA)).mono ?_;rintro e z55 ⟨he, hz55⟩;rw [g8.out] at he;subst he;go_wp2_with fail;refine hK.out _ _ (q9.ext hz55) (fun hNew => ?_);clear hK K q9 hz55;have q9 := hNew;clear hNew;try simp only [qq]
 refine ag.go [47, 48, 49, 50, 51, 52, 53, 54, 55, 56, 57] ?_;iterate 5 (refine ag.tb q9 ?_; try simp only [qq])
 iterate 2 (refine ag.sk q9 ?_; try simp only [qq])
 iterate 4 (refine ag.tb q9 ?_; try simp only [qq])
 refine ag.fin ?_;refine wpAnyH_take (i := 58) (ax rfl) (by kernel_rfl) (by kernel_rfl) (by kernel_rfl) (fun _ _ _ h => h) (fC (by rfl) _ rfl rfl) q9 ?_;try simp only [qq]
 refine wpAnyH_take (i := 60) (ax rfl) (by kernel_rfl) (by kernel_rfl) (by kernel_rfl) (fun _ _ _ h => h) (fC (by rfl) _ rfl rfl) q9 ?_;try simp only [qq]
 refine bV 59 fun K hK => ?_
 go_simp;refine (sU r p _).mono ?_;rintro e z56 ⟨he, hz56⟩;rw [show vJ r = .iface 109 (.agg #[]) by simp [vJ, hl, ht]] at he;subst he;go_wp2_with fail;refine hK.out _ _ (q9.ext hz56) (fun hNew => ?_);clear hK K q9 hz56;have q9 := hNew;clear hNew;try simp only [qq]
 by_cases g' : zD r = false
 ·skip
  refine bV 61 fun K hK => ?_
  go_simp
  skip
  refine (try_any r p _).mono ?_;rintro e z57 ⟨he, hz57⟩;rw [g'] at he;subst he;go_wp2_with fail;refine hK.out _ _ (q9.ext hz57) (fun hNew => ?_);clear hK K q9 hz57;have q9 := hNew;clear hNew;try simp only [qq]
  refine ag.go [62, 63, 64, 65, 66, 67, 68, 69, 70, 71] ?_;iterate 2 (refine ag.tb q9 ?_; try simp only [qq])
  iterate 6 (refine ag.sk q9 ?_; try simp only [qq])
  iterate 2 (refine ag.tb q9 ?_; try simp only [qq])
  refine ag.fin ?_;refine wpAnyH_done (by kernel_rfl) ?_ _;go_wp2;go_ret;exact ⟨by rw [qM (show gU r = false by simp [gU, hl, ht, g'])]; rfl, aj hB q9.bel⟩
 have g10 : Hid (gU r = true) := by unfold Hid; simp [gU, hl, ht, eq_true_of_ne_false g']
 refine bV 61 fun K hK => ?_
 go_simp
 skip
 refine (try_any r p _).mono ?_;rintro e z58 ⟨he, hz58⟩;rw [eq_true_of_ne_false g'] at he;subst he;go_wp2_with fail;refine hK.out _ _ (q9.ext hz58) (fun hNew => ?_);clear hK K q9 hz58;have q9 := hNew;clear hNew;try simp only [qq]
 clear g';have HV : Hid (bf r = (r.up || lJ r)) := kP g0.out g1.out g2.out g3.out g4.out g5.out g6.out g7.out g8.out (by simp [hl, ht]) g10.out;refine ag.go [62, 63, 64] ?_;iterate 3 (refine ag.tb q9 ?_; try simp only [qq])
 refine ag.fin ?_;by_cases hu : r.up = true
 ·skip
  refine ag.go [65, 66, 67, 68, 69, 70, 71] ?_;iterate 2 (refine ag.tb q9 ?_; try simp only [qq])
  iterate 2 (refine ag.sk q9 ?_; try simp only [qq])
  iterate 3 (refine ag.tb q9 ?_; try simp only [qq])
  refine ag.fin ?_;refine wpAnyH_done (by kernel_rfl) ?_ _;go_wp2;go_ret;exact ⟨by rw [HV.out, hu]; rfl, aj hB q9.bel⟩
 skip
 refine ag.go [65, 66] ?_;iterate 2 (refine ag.tb q9 ?_; try simp only [qq])
 refine ag.fin ?_;refine wpAnyH_take (i := 67) (ax rfl) (by kernel_rfl) (by kernel_rfl) (by kernel_rfl) (fun _ _ _ h => h) (fC (by rfl) _ rfl rfl) q9 ?_;try simp only [qq]
 refine bV 68 fun K hK => ?_
 go_simp;refine (sW r p _).mono ?_;rintro e z59 ⟨he, hz59⟩
 skip
 subst he;go_wp2_with fail;refine hK.out _ _ (q9.ext hz59) (fun hNew => ?_);clear hK K q9 hz59;have q9 := hNew;clear hNew;try simp only [qq]
 refine ag.go [69, 70, 71] ?_;iterate 3 (refine ag.tb q9 ?_; try simp only [qq])
 refine ag.fin ?_;refine wpAnyH_done (by kernel_rfl) ?_ _;go_wp2;go_ret;exact ⟨by rw [HV.out, eq_false_of_ne_true hu]; rfl, aj hB q9.bel⟩
theorem Nq (r : Rc) (p : fU) (w : World) (hW : Hid (r.wish.length ≤ p.cW)) (h : oL w r p) (g0 : Hid ((inB r.of_ 1 5 && inB r.num 1 r.of_) = true)) (g1 : Hid (bW r.sp r.sk r.ss = true)) (g2 : Hid (bW r.dp r.dk r.ds = true)) (g3 : Hid (fO r.num r.of_ r.held = true)) (g4 : Hid (dF r.wish = true)) (g5 : Hid (inB r.heard 0 1000000 = true)) (g6 : Hid (dh r.of_ r.yes = true)) (g7 : Hid (bM r.best = true)) (g8 : Hid (dZ r.of_ r.acks = true)) (hl : r.lead = false) (ht : r.tr = false) :
  Calls Try.prog 12 #[.agg (au r p)] w fun e w' => e = .returned (.bool (bf r)) ∧ Below w.heap.size w w' := by
 have hB : Below w.heap.size w (w.alloc (.cells (au r p) 31)) := ae (Below.refl _ _) _;have hR := h.ext hB;have hK0 : mG (w.alloc (.cells (au r p) 31)) w.heap.size r p (w.alloc (.cells (au r p) 31)) := ⟨aC.new w (au r p) 31, Below.refl _ _⟩
 clear h;go_enter Try.func12, Try.ntmps12;go_wp2_with fail;simp only [List.append_eq, List.cons_append, List.nil_append];refine wp_region_held_drew (S := mG (w.alloc (.cells (au r p) 31)) w.heap.size r p) (by kernel_rfl) hK0.drew (fun q9 => ?_);clear hK0;simp only [qz, Nat.reduceAdd];refine ag.go [0, 1, 2, 3] ?_;iterate 4 (refine ag.tb q9 ?_; try simp only [qq])
 refine ag.fin ?_;have hof : Hid (r.of_ ≤ 1000000) := by
  have h9 := g0.out;rw [Bool.and_eq_true] at h9;have := bK.1 h9.1;unfold Hid;omega
 refine bV 4 fun K hK => ?_
 go_simp;refine (iH _ _ _).mono ?_;rintro e z60 ⟨he, hz60⟩;rw [g0.out] at he;subst he;go_wp2_with fail;refine hK.out _ _ (q9.ext hz60) (fun hNew => ?_);clear hK K q9 hz60;have q9 := hNew;clear hNew;try simp only [qq]
 refine ag.go [5, 6, 7] ?_;iterate 3 (refine ag.tb q9 ?_; try simp only [qq])
 refine ag.fin ?_;refine bV 8 fun K hK => ?_
 go_simp;refine (dB r.sp r.sk p.aS r.ss _ p.cS _ rfl hR.lS (by exact (hR.ext q9.bel).hS)).mono ?_;rintro e z61 ⟨he, hz61⟩;rw [g1.out] at he;subst he;go_wp2_with fail;refine hK.out _ _ (q9.ext hz61) (fun hNew => ?_);clear hK K q9 hz61;have q9 := hNew;clear hNew;try simp only [qq]
 refine ag.go [9, 10, 11, 12] ?_;iterate 4 (refine ag.tb q9 ?_; try simp only [qq])
 refine ag.fin ?_;refine bV 13 fun K hK => ?_
 go_simp;refine (dB r.dp r.dk p.aD r.ds _ p.cD _ rfl hR.lD (by exact (hR.ext q9.bel).hD)).mono ?_;rintro e z62 ⟨he, hz62⟩;rw [g2.out] at he;subst he;go_wp2_with fail;refine hK.out _ _ (q9.ext hz62) (fun hNew => ?_);clear hK K q9 hz62;have q9 := hNew;clear hNew;try simp only [qq]
 refine ag.go [14, 15] ?_;iterate 2 (refine ag.tb q9 ?_; try simp only [qq])
 refine ag.fin ?_;refine wpAnyH_take (i := 16) (ax rfl) (by kernel_rfl) (by kernel_rfl) (by kernel_rfl) (fun _ _ _ h => h) (fC (by rfl) _ rfl rfl) q9 ?_;try simp only [qq]
 refine bV 17 fun K hK => ?_
 go_simp;refine (jK r p _ (by exact hR.ext q9.bel)).mono ?_;rintro e z63 ⟨he, hz63⟩;rw [g3.out] at he;subst he;go_wp2_with fail;refine hK.out _ _ (q9.ext hz63) (fun hNew => ?_);clear hK K q9 hz63;have q9 := hNew;clear hNew;try simp only [qq]
 refine ag.go [18, 19, 20, 21] ?_;iterate 4 (refine ag.tb q9 ?_; try simp only [qq])
 refine ag.fin ?_;refine bV 22 fun K hK => ?_
 go_simp;refine (iZ p.aW r.wish _ p.cW _ rfl hW.out hR.lW (by exact (hR.ext q9.bel).hW)).mono ?_;rintro e z64 ⟨he, hz64⟩;rw [g4.out] at he;subst he;go_wp2_with fail;refine hK.out _ _ (q9.ext hz64) (fun hNew => ?_);clear hK K q9 hz64;have q9 := hNew;clear hNew;try simp only [qq]
 refine ag.go [23, 24, 25, 26] ?_;iterate 4 (refine ag.tb q9 ?_; try simp only [qq])
 refine ag.fin ?_;refine bV 27 fun K hK => ?_
 go_simp;refine (nX _ _ _ _).mono ?_;rintro e z65 ⟨he, hz65⟩;rw [g5.out] at he;subst he;go_wp2_with fail;refine hK.out _ _ (q9.ext hz65) (fun hNew => ?_);clear hK K q9 hz65;have q9 := hNew;clear hNew;try simp only [qq]
 refine ag.go [28, 29, 30, 31, 32, 33] ?_;iterate 6 (refine ag.tb q9 ?_; try simp only [qq])
 refine ag.fin ?_;refine bV 34 fun K hK => ?_
 go_simp;refine (jg p.aY r.yes _ p.cY _ _ rfl hR.lY hof.out (by exact (hR.ext q9.bel).hY)).mono ?_;rintro e z66 ⟨he, hz66⟩;rw [g6.out] at he;subst he;go_wp2_with fail;refine hK.out _ _ (q9.ext hz66) (fun hNew => ?_);clear hK K q9 hz66;have q9 := hNew;clear hNew;try simp only [qq]
 refine ag.go [35, 36, 37, 38] ?_;iterate 4 (refine ag.tb q9 ?_; try simp only [qq])
 refine ag.fin ?_;refine bV 39 fun K hK => ?_
 go_simp;refine (dH p.aB r.best _ p.cB _ rfl hR.lB (by exact (hR.ext q9.bel).hB)).mono ?_;rintro e z67 ⟨he, hz67⟩;rw [g7.out] at he;subst he;go_wp2_with fail;refine hK.out _ _ (q9.ext hz67) (fun hNew => ?_);clear hK K q9 hz67;have q9 := hNew;clear hNew;try simp only [qq]
 refine ag.go [40, 41, 42, 43, 44, 45] ?_;iterate 6 (refine ag.tb q9 ?_; try simp only [qq])
 refine ag.fin ?_;refine bV 46 fun K hK => ?_
 go_simp;refine (mO p.aA r.acks _ p.cA _ _ rfl hR.lA hof.out (by exact (hR.ext q9.bel).hA)).mono ?_;rintro e z68 ⟨he, hz68⟩;rw [g8.out] at he;subst he;go_wp2_with fail;refine hK.out _ _ (q9.ext hz68) (fun hNew => ?_);clear hK K q9 hz68;have q9 := hNew;clear hNew;try simp only [qq]
 refine ag.go [47, 48, 49, 50, 51, 52, 53, 54, 55, 56, 57] ?_;iterate 5 (refine ag.tb q9 ?_; try simp only [qq])
 iterate 2 (refine ag.sk q9 ?_; try simp only [qq])
 iterate 4 (refine ag.tb q9 ?_; try simp only [qq])
 refine ag.fin ?_;refine wpAnyH_take (i := 58) (ax rfl) (by kernel_rfl) (by kernel_rfl) (by kernel_rfl) (fun _ _ _ h => h) (fC (by rfl) _ rfl rfl) q9 ?_;try simp only [qq]
 refine wpAnyH_take (i := 60) (ax rfl) (by kernel_rfl) (by kernel_rfl) (by kernel_rfl) (fun _ _ _ h => h) (fC (by rfl) _ rfl rfl) q9 ?_;try simp only [qq]
 refine bV 59 fun K hK => ?_
 go_simp;refine (sU r p _).mono ?_;rintro e z69 ⟨he, hz69⟩;rw [show vJ r = .iface 110 (.agg #[]) by simp [vJ, hl, ht]] at he;subst he;go_wp2_with fail;refine hK.out _ _ (q9.ext hz69) (fun hNew => ?_);clear hK K q9 hz69;have q9 := hNew;clear hNew;try simp only [qq]
 by_cases g' : rH r = false
 ·skip
  refine bV 61 fun K hK => ?_
  go_simp
  skip
  refine (Bg r p _).mono ?_;rintro e z70 ⟨he, hz70⟩;rw [g'] at he;subst he;go_wp2_with fail;refine hK.out _ _ (q9.ext hz70) (fun hNew => ?_);clear hK K q9 hz70;have q9 := hNew;clear hNew;try simp only [qq]
  refine ag.go [62, 63, 64, 65, 66, 67, 68, 69, 70, 71] ?_;iterate 2 (refine ag.tb q9 ?_; try simp only [qq])
  iterate 6 (refine ag.sk q9 ?_; try simp only [qq])
  iterate 2 (refine ag.tb q9 ?_; try simp only [qq])
  refine ag.fin ?_;refine wpAnyH_done (by kernel_rfl) ?_ _;go_wp2;go_ret;exact ⟨by rw [qM (show gU r = false by simp [gU, hl, ht, g'])]; rfl, aj hB q9.bel⟩
 have g10 : Hid (gU r = true) := by unfold Hid; simp [gU, hl, ht, eq_true_of_ne_false g']
 refine bV 61 fun K hK => ?_
 go_simp
 skip
 refine (Bg r p _).mono ?_;rintro e z71 ⟨he, hz71⟩;rw [eq_true_of_ne_false g'] at he;subst he;go_wp2_with fail;refine hK.out _ _ (q9.ext hz71) (fun hNew => ?_);clear hK K q9 hz71;have q9 := hNew;clear hNew;try simp only [qq]
 clear g';have HV : Hid (bf r = (r.up || lJ r)) := kP g0.out g1.out g2.out g3.out g4.out g5.out g6.out g7.out g8.out (by simp [hl, ht]) g10.out;refine ag.go [62, 63, 64] ?_;iterate 3 (refine ag.tb q9 ?_; try simp only [qq])
 refine ag.fin ?_;by_cases hu : r.up = true
 ·skip
  refine ag.go [65, 66, 67, 68, 69, 70, 71] ?_;iterate 2 (refine ag.tb q9 ?_; try simp only [qq])
  iterate 2 (refine ag.sk q9 ?_; try simp only [qq])
  iterate 3 (refine ag.tb q9 ?_; try simp only [qq])
  refine ag.fin ?_;refine wpAnyH_done (by kernel_rfl) ?_ _;go_wp2;go_ret;exact ⟨by rw [HV.out, hu]; rfl, aj hB q9.bel⟩
 skip
 refine ag.go [65, 66] ?_;iterate 2 (refine ag.tb q9 ?_; try simp only [qq])
 refine ag.fin ?_;refine wpAnyH_take (i := 67) (ax rfl) (by kernel_rfl) (by kernel_rfl) (by kernel_rfl) (fun _ _ _ h => h) (fC (by rfl) _ rfl rfl) q9 ?_;try simp only [qq]
 refine bV 68 fun K hK => ?_
 go_simp;refine (sW r p _).mono ?_;rintro e z72 ⟨he, hz72⟩
 skip
 subst he;go_wp2_with fail;refine hK.out _ _ (q9.ext hz72) (fun hNew => ?_);clear hK K q9 hz72;have q9 := hNew;clear hNew;try simp only [qq]
 refine ag.go [69, 70, 71] ?_;iterate 3 (refine ag.tb q9 ?_; try simp only [qq])
 refine ag.fin ?_;refine wpAnyH_done (by kernel_rfl) ?_ _;go_wp2;go_ret;exact ⟨by rw [HV.out, eq_false_of_ne_true hu]; rfl, aj hB q9.bel⟩
end Go.Proofs.Ytjdceoimignnpaa
