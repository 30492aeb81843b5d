import Derived.Test.YtjdceoimignnpaaF06
namespace Go.Proofs.Ytjdceoimignnpaa
open Go.ChangeShapes Go.WideShapes Go.ChangeAt Go.RowKit Go.Deep Go.Joins
set_option linter.unusedVariables false
set_option linter.unusedSimpArgs false
set_option maxHeartbeats 40000000
set_option maxRecDepth 20000
variable {a b : Nat}
theorem Jo (ha : a ≤ 1048576) (hb : b ≤ 1048576) : wrap64 ((a : Int) + (b : Int)) = (a : Int) + b := by go_arith
theorem FT {c : Int} (ha : a ≤ 1048576) (hb : b ≤ 1048576) (h0 : 0 ≤ c) (hc : c ≤ 1000000) : (wrap64 (wrap64 ((a : Int) + (b : Int)) + c) == 0) = (decide (a = 0) && decide (b = 0) && decide (c = 0)) := by
 have e : wrap64 (wrap64 ((a : Int) + (b : Int)) + c) = (a : Int) + b + c := by go_arith
 rw [e];by_cases h1 : a = 0 <;> by_cases h2 : b = 0 <;> by_cases h3 : c = 0 <;> simp [h1, h2, h3] <;> omega
theorem jf (r : Rc) (p : fU) (w : World) (hS : bD r) (h : oL w r p) :
  Calls Try.prog 11 #[.agg (au r p)] w fun e w' => e = .returned (.bool (bf r)) ∧ Below w.heap.size w w' := by
 obtain ⟨aS, cS, aD, cD, aH, cH, aW, cW, aY, cY, aB, cB, aA, cA⟩ := p;have hB : Below w.heap.size w (w.alloc (.cells (au r ⟨aS, cS, aD, cD, aH, cH, aW, cW, aY, cY, aB, cB, aA, cA⟩) 31)) := ae (Below.refl _ _) _;have hR := h.ext hB;have b0 := aC.new w (au r ⟨aS, cS, aD, cD, aH, cH, aW, cW, aY, cY, aB, cB, aA, cA⟩) 31;have HB0 := Below.refl (w.alloc (.cells (au r ⟨aS, cS, aD, cD, aH, cH, aW, cW, aY, cY, aB, cB, aA, cA⟩) 31)).heap.size (w.alloc (.cells (au r ⟨aS, cS, aD, cD, aH, cH, aW, cW, aY, cY, aB, cB, aA, cA⟩) 31));have HS : Hid (bD r) := hS;clear h hS;go_enter Try.func11, Try.ntmps11;go_wp2_with fail;refine (bF _ _ _ _).mono ?_;rintro e w1 ⟨he, hw1⟩;have hb1 := jY hw1;clear hw1;have HB1 := aj HB0 hb1;have cb1 := (b0.ext HB1).cell;clear HB0 hb1;by_cases g0a' : inB r.of_ 1 5 = false
 ·rw [g0a'] at he;subst he;go_wp2_with fail;go_ret;exact ⟨by rw [Ht (by rw [g0a', Bool.false_and])]; rfl, aj hB HB1⟩
 have g0a : Hid (inB r.of_ 1 5 = true) := eq_true_of_ne_false g0a';clear g0a';rw [g0a.out] at he;subst he;go_wp2_with fail;refine (bF _ _ _ _).mono ?_;rintro e w2 ⟨he, hw2⟩;have hb2 := jY hw2;clear hw2;have HB2 := aj HB1 hb2;have cb2 := (b0.ext HB2).cell;clear HB1 hb2 cb1;by_cases g0b' : inB r.num 1 r.of_ = false
 ·rw [g0b'] at he;subst he;go_wp2_with fail;go_ret;exact ⟨by rw [Ht (by rw [g0b', Bool.and_false])]; rfl, aj hB HB2⟩
 have g0b : Hid (inB r.num 1 r.of_ = true) := eq_true_of_ne_false g0b';clear g0b';rw [g0b.out] at he;subst he;go_wp2_with fail;refine (qp r.sp r.sk aS r.ss _ cS _ rfl hR.lS (by exact (hR.ext HB2).hS)).mono ?_;rintro e w3 ⟨he, hb3⟩;have HB3 := aj HB2 hb3;have cb3 := (b0.ext HB3).cell;clear HB2 hb3 cb2;by_cases g1' : bW r.sp r.sk r.ss = false
 ·rw [g1'] at he;subst he;go_wp2_with fail;go_ret;exact ⟨by rw [JJ g1']; rfl, aj hB HB3⟩
 have g1 : Hid (bW r.sp r.sk r.ss = true) := eq_true_of_ne_false g1';clear g1';rw [g1.out] at he;subst he;go_wp2_with fail;refine (qp r.dp r.dk aD r.ds _ cD _ rfl hR.lD (by exact (hR.ext HB3).hD)).mono ?_;rintro e w4 ⟨he, hb4⟩;have HB4 := aj HB3 hb4;have cb4 := (b0.ext HB4).cell;clear HB3 hb4 cb3;by_cases g2' : bW r.dp r.dk r.ds = false
 ·rw [g2'] at he;subst he;go_wp2_with fail;go_ret;exact ⟨by rw [GK g2']; rfl, aj hB HB4⟩
 have g2 : Hid (bW r.dp r.dk r.ds = true) := eq_true_of_ne_false g2';clear g2';rw [g2.out] at he;subst he;by_cases hz : ¬ r.held.length ≤ 400
 ·have HN : Hid (¬ r.held.length ≤ 400) := hz;go_wp2_with fail;go_ret;exact ⟨by rw [Dw (tN rfl HN.out)]; rfl, aj hB HB4⟩
 have hz4 : r.held.length ≤ 400 := Decidable.not_not.1 hz;clear hz;go_wp2_with fail;refine (zf aW r.wish _ cW _ rfl hR.lW (by exact (hR.ext HB4).hW)).mono ?_;rintro e w5 ⟨he, hb5⟩;have HB5 := aj HB4 hb5;have cb5 := (b0.ext HB5).cell;clear HB4 hb5 cb4;by_cases g4' : dF r.wish = false
 ·rw [g4'] at he;subst he;go_wp2_with fail;go_ret;exact ⟨by rw [JB g4']; rfl, aj hB HB5⟩
 have g4 : Hid (dF r.wish = true) := eq_true_of_ne_false g4';clear g4';rw [g4.out] at he;subst he;go_wp2_with fail;refine (bF _ _ _ _).mono ?_;rintro e w6 ⟨he, hw6⟩;have hb6 := jY hw6;clear hw6;have HB6 := aj HB5 hb6;have cb6 := (b0.ext HB6).cell;clear HB5 hb6 cb5;by_cases g5' : inB r.heard 0 1000000 = false
 ·rw [g5'] at he;subst he;go_wp2_with fail;go_ret;exact ⟨by rw [JO g5']; rfl, aj hB HB6⟩
 have g5 : Hid (inB r.heard 0 1000000 = true) := eq_true_of_ne_false g5';clear g5';rw [g5.out] at he;subst he;go_wp2_with fail;go_loopw [3] (fun i wr => ∃ (k : Nat), k ≤ r.held.length ∧ i = .int .i64 k ∧ (∀ (j : Nat) s, j < k → r.held[j]? = some s → holdB r.num r.of_ s = true) ∧ Below (w.alloc (.cells (au r ⟨aS, cS, aD, cD, aH, cH, aW, cW, aY, cY, aB, cB, aA, cA⟩) 31)).heap.size (w.alloc (.cells (au r ⟨aS, cS, aD, cD, aH, cH, aW, cW, aY, cY, aB, cB, aA, cA⟩) 31)) wr) (fun i _ => r.held.length - (intOf i).toNat);case atStart => exact ⟨0, Nat.zero_le _, rfl, fun j s hj => absurd hj (by omega), HB6⟩
 clear HB6 cb6;obtain ⟨k, hk, rfl, hall0, hbel⟩ := hrel;have hall : Hid (∀ (j : Nat) s, j < k → r.held[j]? = some s → holdB r.num r.of_ s = true) := hall0;clear hall0;by_cases hlt : k < r.held.length
 ·obtain ⟨s, hs0⟩ : ∃ s, r.held[k]? = some s := ⟨_, List.getElem?_eq_getElem hlt⟩
  have hs : Hid (r.held[k]? = some s) := hs0;have HBel : Hid (Below _ _ wr) := hbel;have bk := b0.ext hbel;have cb := bk.cell;obtain ⟨b, off, sa, cp, ea, hb, c0, c1, c2, c3, c4, c5, c6, c7, q1, q2, q3⟩ := (hR.ext hbel).hH k s hs0;clear hs0;dsimp only at ea;subst ea;obtain ⟨⟨mk, mf, mt, mb, mi, mn, mx⟩, ml⟩ := s;dsimp only at c0 c1 c2 c3 c4 c5 c6 c7 q1 q2 q3;have KM : Hid (∀ w9, Below wr.heap.size wr w9 → w9.cell? ⟨b, off + k * 8, none⟩ = some (.int .i64 mk) ∧ w9.cell? ⟨b, off + k * 8 + 1, none⟩ = some (.int .i64 mf) ∧ w9.cell? ⟨b, off + k * 8 + 2, none⟩ = some (.int .i64 mt) ∧ w9.cell? ⟨b, off + k * 8 + 3, none⟩ = some (.int .i64 mb) ∧ w9.cell? ⟨b, off + k * 8 + 4, none⟩ = some (.int .i64 mi) ∧ w9.cell? ⟨b, off + k * 8 + 5, none⟩ = some (.int .i64 mn) ∧ w9.cell? ⟨b, off + k * 8 + 6, none⟩ = some (.string mx) ∧ w9.cell? ⟨b, off + k * 8 + 7, none⟩ = some (.slice sa ml.length cp)) := fun w9 h9 => ⟨(h9.cell (p := ⟨b, off + k * 8, none⟩) hb).trans c0, (h9.cell (p := ⟨b, off + k * 8 + 1, none⟩) hb).trans c1, (h9.cell (p := ⟨b, off + k * 8 + 2, none⟩) hb).trans c2, (h9.cell (p := ⟨b, off + k * 8 + 3, none⟩) hb).trans c3, (h9.cell (p := ⟨b, off + k * 8 + 4, none⟩) hb).trans c4, (h9.cell (p := ⟨b, off + k * 8 + 5, none⟩) hb).trans c5, (h9.cell (p := ⟨b, off + k * 8 + 6, none⟩) hb).trans c6, (h9.cell (p := ⟨b, off + k * 8 + 7, none⟩) hb).trans c7⟩
  have hK0 : mG wr w.heap.size r ⟨aS, cS, aD, cD, some ⟨b, off, none⟩, cH, aW, cW, aY, cY, aB, cB, aA, cA⟩ wr := ⟨bk, Below.refl _ _⟩
  have HQ : Hid (ml.length ≤ maxLen ∧ mx.size ≤ maxLen ∧ cO wr sa ml) := ⟨q2, q1, q3⟩
  clear c0 c1 c2 c3 c4 c5 c6 c7 q1 q2 q3 bk hbel hR b0;have e1 : (0 : Int) ≤ (k : Int) := by omega
  have e2 : (k : Int) < (r.held.length : Int) := by omega
  have HLT : Hid (k < r.held.length) := hlt;go_wp2_with fail;clear cb;refine wp_region_held_drew (S := mG wr w.heap.size r ⟨aS, cS, aD, cD, some ⟨b, off, none⟩, cH, aW, cW, aY, cY, aB, cB, aA, cA⟩) (by kernel_rfl) hK0.drew (fun q9 => ?_);clear hK0;simp only [qz, Nat.reduceAdd];refine ag.go [0, 1, 2, 3] ?_;iterate 4 (refine ag.tb q9 ?_; try simp only [qq])
  refine ag.fin ?_;refine ag.go [4] ?_;iterate 1 (apply ag.take (ax rfl) (by kernel_rfl) (by rfl) (fun _ _ _ h => h) q9; (· intro w9 hSw; have hq := hSw.blk.cell; obtain ⟨d0, d1, d2, d3, d4, d5, d6, d7⟩ := KM.out w9 hSw.bel; clear hSw; go_simp; try with_reducible rfl); try simp only [qq])
  refine ag.fin ?_;refine ag.go [5, 6] ?_;iterate 2 (refine ag.tb q9 ?_; try simp only [qq])
  refine ag.fin ?_;by_cases g : bY ⟨mk, mf, mt, mb, mi, mn, mx⟩ r.of_ ml = false
  ·skip
   refine bV 7 fun K hK => ?_
   go_simp;refine (nY ⟨mk, mf, mt, mb, mi, mn, mx⟩ _ sa ml _ cp _ rfl HQ.out.1 HQ.out.2.1 (by exact HQ.out.2.2.ext q9.bel)).mono ?_;rintro e z1 ⟨he, hz1⟩;rw [g] at he;subst he;go_wp2_with fail;refine hK.out _ _ (q9.ext hz1) (fun hNew => ?_);clear hK K q9 hz1;have q9 := hNew;clear hNew;try simp only [qq]
   refine ag.go [8, 9, 10, 11, 12, 13, 14, 15, 16, 17, 18, 19] ?_;iterate 2 (refine ag.tb q9 ?_; try simp only [qq])
   iterate 9 (refine ag.sk q9 ?_; try simp only [qq])
   iterate 1 (refine ag.tb q9 ?_; try simp only [qq])
   refine ag.fin ?_;refine wpAnyH_done (by kernel_rfl) ?_ _;have HF := q9.bel;clear q9;go_wp2;go_ret;exact ⟨by rw [Dw (nN hs.out (by simp [holdB, g]))]; rfl, aj hB (aj HBel.out HF)⟩
  replace g := eq_true_of_ne_false g;refine bV 7 fun K hK => ?_
  go_simp;refine (nY ⟨mk, mf, mt, mb, mi, mn, mx⟩ _ sa ml _ cp _ rfl HQ.out.1 HQ.out.2.1 (by exact HQ.out.2.2.ext q9.bel)).mono ?_;rintro e z1 ⟨he, hz1⟩;rw [g] at he;subst he;go_wp2_with fail;refine hK.out _ _ (q9.ext hz1) (fun hNew => ?_);clear hK K q9 hz1;have q9 := hNew;clear hNew;try simp only [qq]
  refine ag.go [8, 9, 10, 11, 12, 13, 14] ?_;iterate 7 (refine ag.tb q9 ?_; try simp only [qq])
  refine ag.fin ?_;refine ag.go [15] ?_;iterate 1 (apply ag.take (ax rfl) (by kernel_rfl) (by rfl) (fun _ _ _ h => h) q9; (· intro w9 hSw; have hq := hSw.blk.cell; obtain ⟨d0, d1, d2, d3, d4, d5, d6, d7⟩ := KM.out w9 hSw.bel; clear hSw; go_simp; try with_reducible rfl); try simp only [qq])
  refine ag.fin ?_;refine ag.go [16, 17] ?_;iterate 2 (refine ag.tb q9 ?_; try simp only [qq])
  refine ag.fin ?_;by_cases hf : mf = r.num
  ·subst hf;refine ag.go [18, 19] ?_;iterate 2 (refine ag.tb q9 ?_; try simp only [qq])
   refine ag.fin ?_;refine wpAnyH_done (by kernel_rfl) ?_ _;have HF := q9.bel;clear q9;go_wp2;go_roundw;case rel =>
    refine ⟨k + 1, HLT.out, by go_num, fun j t hj ht => ?_, aj HBel.out HF⟩;by_cases he : j = k
    ·subst he; rw [hs.out] at ht; simp only [Option.some.injEq] at ht; rw [← ht]; simp [holdB, g]
    exact hall.out j t (by omega) ht
   case measure => simp [intOf]; omega
  skip
  refine ag.go [18, 19] ?_;iterate 2 (refine ag.tb q9 ?_; try simp only [qq])
  refine ag.fin ?_;refine wpAnyH_done (by kernel_rfl) ?_ _;have HF := q9.bel;clear q9;go_wp2;go_ret;exact ⟨by rw [Dw (nN hs.out (by simp [holdB, hf]))]; rfl, aj hB (aj HBel.out HF)⟩
 have HB7 := hbel;have cb7 := (b0.ext HB7).cell;clear hbel;have g3 : Hid (fO r.num r.of_ r.held = true) := Dn rfl hz4 (fun i s hi hs => hall.out i s (by omega) hs);clear hall;go_wp2_with fail;refine (jT aY r.yes _ cY _ _ rfl hR.lY (by exact (hR.ext HB7).hY)).mono ?_;rintro e w8 ⟨he, hw8⟩;have hb8 := iO hw8;clear hw8;have HB8 := aj HB7 hb8;have cb8 := (b0.ext HB8).cell;clear HB7 hb8 cb7;by_cases g6' : dh r.of_ r.yes = false
 ·rw [g6'] at he;subst he;go_wp2_with fail;go_ret;exact ⟨by rw [JI g6']; rfl, aj hB HB8⟩
 have g6 : Hid (dh r.of_ r.yes = true) := eq_true_of_ne_false g6';clear g6';rw [g6.out] at he;subst he;go_wp2_with fail;refine (fD aB r.best _ cB _ rfl hR.lB (by exact (hR.ext HB8).hB)).mono ?_;rintro e w9 ⟨he, hw9⟩;have hb9 := jY hw9;clear hw9;have HB9 := aj HB8 hb9;have cb9 := (b0.ext HB9).cell;clear HB8 hb9 cb8;by_cases g7' : bM r.best = false
 ·rw [g7'] at he;subst he;go_wp2_with fail;go_ret;exact ⟨by rw [Jy g7']; rfl, aj hB HB9⟩
 have g7 : Hid (bM r.best = true) := eq_true_of_ne_false g7';clear g7';rw [g7.out] at he;subst he;go_wp2_with fail;refine (BQ aA r.acks _ cA _ _ rfl hR.lA (by exact (hR.ext HB9).hA)).mono ?_;rintro e w10 ⟨he, hw10⟩;have hb10 := iO hw10;clear hw10;have HB10 := aj HB9 hb10;have cb10 := (b0.ext HB10).cell;clear HB9 hb10 cb9;by_cases g8' : dZ r.of_ r.acks = false
 ·rw [g8'] at he;subst he;go_wp2_with fail;go_ret;exact ⟨by rw [JH g8']; rfl, aj hB HB10⟩
 have g8 : Hid (dZ r.of_ r.acks = true) := eq_true_of_ne_false g8';clear g8';rw [g8.out] at he;subst he;have g0 : Hid ((inB r.of_ 1 5 && inB r.num 1 r.of_) = true) := by unfold Hid; rw [g0a.out, g0b.out]; rfl
 by_cases hl : r.lead = true
 ·by_cases ht : r.tr = true
  ·skip
   go_wp2_with fail;go_ret;exact ⟨by rw [JP (by simp [hl, ht])]; rfl, aj hB HB10⟩
  have HSM : Hid (wrap64 ((r.yes.length : Int) + (r.best.length : Int)) = (r.yes.length : Int) + r.best.length) := Jo HS.out.lY HS.out.lB;go_wp2_with fail;refine (bF _ _ _ _).mono ?_;rintro e w11 ⟨he, hw11⟩;have hb11 := jY hw11;clear hw11;have HB11 := aj HB10 hb11;have cb11 := (b0.ext HB11).cell;clear HB10 hb11 cb10;by_cases gb' : inB r.ball 1 r.dp = false
  ·rw [gb'] at he;subst he;go_wp2_with fail;go_ret;exact ⟨by rw [qM (show gU r = false by simp [gU, uB, hl, ht, gb'])]; rfl, aj hB HB11⟩
  have gb : Hid (inB r.ball 1 r.dp = true) := eq_true_of_ne_false gb';clear gb';rw [gb.out] at he;subst he;have hsm := HSM.out;by_cases hy0 : (0 : Int) < (r.yes.length : Int) + (r.best.length : Int)
  ·have HY : Hid ((0 : Int) < (r.yes.length : Int) + (r.best.length : Int)) := hy0;go_wp2_with fail;go_ret
   exact ⟨by rw [qM (show gU r = false by
    have h9 := HY.out;have h8 : ¬ (r.yes.length = 0 ∧ r.best.length = 0) := by omega
    simp [gU, uB, hl, gb.out]
    simpa using h8)]; rfl, aj hB HB11⟩
  have HY : Hid (gU r = true) := by
   have h8 : r.yes.length = 0 := by omega
   have h7 : r.best.length = 0 := by omega
   unfold Hid;simp [gU, uB, hl, gb.out, h8, h7]
  have HV : Hid (bf r = (r.up || lJ r)) := kP g0.out g1.out g2.out g3.out g4.out g5.out g6.out g7.out g8.out (by simp [hl, ht]) HY.out;by_cases hu : r.up = true
  ·skip
   go_wp2_with fail;go_ret;exact ⟨by rw [HV.out, hu]; rfl, aj hB HB11⟩
  skip
  go_wp2_with ((with_reducible refine jh w.heap.size (au r ⟨aS, cS, aD, cD, aH, cH, aW, cW, aY, cY, aB, cB, aA, cA⟩) rfl ?_ ?_ ?_ ?_); rfl; rfl; (· exact b0.ext HB11));refine (nJ r ⟨aS, cS, aD, cD, aH, cH, aW, cW, aY, cY, aB, cB, aA, cA⟩ _ HS.out).mono ?_;rintro e w12 ⟨he, hb12⟩;have HB12 := aj HB11 hb12;have cb12 := (b0.ext HB12).cell;clear HB11 hb12 cb11;rw [show kQ r = false by simp [kQ, hl, ht]] at he;subst he;go_wp2_with fail;go_ret;exact ⟨by rw [HV.out, eq_false_of_ne_true hu, show lJ r = false by simp [lJ, hl, ht]]; rfl, aj hB HB12⟩
 by_cases ht : r.tr = true
 ·skip
  go_wp2_with fail;refine (bF _ _ _ _).mono ?_;rintro e w11 ⟨he, hw11⟩;have hb11 := jY hw11;clear hw11;have HB11 := aj HB10 hb11;have cb11 := (b0.ext HB11).cell;clear HB10 hb11 cb10;by_cases gb' : inB r.ball 1 r.dp = false
  ·rw [gb'] at he;subst he;go_wp2_with fail;go_ret;exact ⟨by rw [qM (show gU r = false by simp [gU, zD, hl, ht, gb'])]; rfl, aj hB HB11⟩
  have gb : Hid (inB r.ball 1 r.dp = true) := eq_true_of_ne_false gb';clear gb';rw [gb.out] at he;subst he;by_cases hy0 : r.acks.length = 0
  ·have HV : Hid (bf r = (r.up || lJ r)) := kP g0.out g1.out g2.out g3.out g4.out g5.out g6.out g7.out g8.out (by simp [hl, ht]) (show gU r = true by simp [gU, zD, hl, ht, gb.out, hy0]);by_cases hu : r.up = true
   ·skip
    go_wp2_with fail;go_ret;exact ⟨by rw [HV.out, hu]; rfl, aj hB HB11⟩
   skip
   go_wp2_with ((with_reducible refine jh w.heap.size (au r ⟨aS, cS, aD, cD, aH, cH, aW, cW, aY, cY, aB, cB, aA, cA⟩) rfl ?_ ?_ ?_ ?_); rfl; rfl; (· exact b0.ext HB11));refine (nJ r ⟨aS, cS, aD, cD, aH, cH, aW, cW, aY, cY, aB, cB, aA, cA⟩ _ HS.out).mono ?_;rintro e w12 ⟨he, hb12⟩;have HB12 := aj HB11 hb12;have cb12 := (b0.ext HB12).cell;clear HB11 hb12 cb11;rw [show kQ r = false by simp [kQ, hl, ht]] at he;subst he;go_wp2_with fail;go_ret;exact ⟨by rw [HV.out, eq_false_of_ne_true hu, show lJ r = false by simp [lJ, hl, ht]]; rfl, aj hB HB12⟩
  have HY : Hid (¬ r.acks.length = 0) := hy0;have hy1 : (0 : Int) < (r.acks.length : Int) := by omega
  go_wp2_with fail;go_ret;exact ⟨by rw [qM (show gU r = false by simpa [gU, zD, hl, ht] using fun _ => HY.out)]; rfl, aj hB HB11⟩
 skip
 go_wp2_with ((with_reducible refine jh w.heap.size (au r ⟨aS, cS, aD, cD, aH, cH, aW, cW, aY, cY, aB, cB, aA, cA⟩) rfl ?_ ?_ ?_ ?_); rfl; rfl; (· exact b0.ext HB10));refine (nJ r ⟨aS, cS, aD, cD, aH, cH, aW, cW, aY, cY, aB, cB, aA, cA⟩ _ HS.out).mono ?_;rintro e w11 ⟨he, hb11⟩;have HB11 := aj HB10 hb11;have cb11 := (b0.ext HB11).cell;clear HB10 hb11 cb10;have hqc : kQ r = rH r := by simp [kQ, rH, hl, ht]
 rw [hqc] at he;by_cases gc' : rH r = false
 ·rw [gc'] at he;subst he;go_wp2_with fail;go_ret;exact ⟨by rw [qM (show gU r = false by simp [gU, hl, ht, gc'])]; rfl, aj hB HB11⟩
 have gc : Hid (rH r = true) := eq_true_of_ne_false gc';clear gc';rw [gc.out] at he;subst he;have HV : Hid (bf r = (r.up || lJ r)) := kP g0.out g1.out g2.out g3.out g4.out g5.out g6.out g7.out g8.out (by simp [hl, ht]) (show gU r = true by simp [gU, hl, ht, gc.out]);have HD : Hid ((wrap64 (wrap64 ((r.held.length : Int) + (r.wish.length : Int)) + r.heard) == 0) = (decide (r.held.length = 0) && decide (r.wish.length = 0) && decide (r.heard = 0))) := by
  have h9 := bK.1 g5.out;exact FT HS.out.lH HS.out.lW (by omega) (by omega)
 have HQC : Hid (kQ r = true) := by unfold Hid; rw [hqc]; exact gc.out
 clear hqc;by_cases hu : r.up = true
 ·skip
  go_wp2_with fail;go_ret;exact ⟨by rw [HV.out, hu]; rfl, aj hB HB11⟩
 skip
 go_wp2_with ((with_reducible refine jh w.heap.size (au r ⟨aS, cS, aD, cD, aH, cH, aW, cW, aY, cY, aB, cB, aA, cA⟩) rfl ?_ ?_ ?_ ?_); rfl; rfl; (· exact b0.ext HB11));refine (nJ r ⟨aS, cS, aD, cD, aH, cH, aW, cW, aY, cY, aB, cB, aA, cA⟩ _ HS.out).mono ?_;rintro e w12 ⟨he, hb12⟩;have HB12 := aj HB11 hb12;have cb12 := (b0.ext HB12).cell;clear HB11 hb12 cb11;rw [show kQ r = true by exact HQC.out] at he;subst he;go_wp2_with fail;go_ret;refine ⟨?_, aj hB HB12⟩;rw [HV.out, eq_false_of_ne_true hu, Bool.false_or];rw [HD.out];simp [lJ, hl, ht]
end Go.Proofs.Ytjdceoimignnpaa
