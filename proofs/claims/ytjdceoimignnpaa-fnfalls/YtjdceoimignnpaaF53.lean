import Derived.Test.YtjdceoimignnpaaF51
import Derived.Test.YtjdceoimignnpaaF52
import Derived.ChangeSlices
namespace Go.Proofs.Ytjdceoimignnpaa.fnFalls
open Go Go.ChangeShapes Go.WideShapes Go.ChangeAt Go.RowKit Go.Proofs.Ytjdceoimignnpaa.next
set_option linter.unusedVariables false
set_option linter.unusedSimpArgs false
set_option maxHeartbeats 32000000
set_option maxRecDepth 20000
variable {w : World}
theorem zN {B : Nat} {r : Rc} {p : fU} {X : iU} {c : Nat → Nat} (h : aG B w r p X c) : r.wish.length ≤ p.cW := by
 rcases h.t.form with ⟨_, h1, h2, _⟩ | ⟨g, cur, _, _, _, h1, _⟩
 ·omega
 exact h1
structure B3 (g3 : Nat) (c3 : Array Value) (g4 : Nat) (c4 : Array Value) (g5 : Nat) (c5 : Array Value) (w : World) : Prop where
 a : aC w g3 c3 31
 b : aC w g4 c4 31
 c : aC w g5 c5 31
theorem B3.ext {g3 : Nat} {c3 : Array Value} {g4 : Nat} {c4 : Array Value} {g5 : Nat} {c5 : Array Value} {w' : World} (h : B3 g3 c3 g4 c4 g5 c5 w) (hb : Below w.heap.size w w') : B3 g3 c3 g4 c4 g5 c5 w' := ⟨h.a.ext hb, h.b.ext hb, h.c.ext hb⟩
theorem walk (ca : Option Addr) (n cap : Nat) (w : World) (h : BytesAt w ca n) (hc : n ≤ cap) (hm : cap ≤ maxLen) (hl : ∀ x, ca = some x → x.block < w.heap.size) :
  Calls Try.prog 3 #[.slice ca n cap] w fun e w' => e = .returned (.bool true) ∧ Below w.heap.size w w' := by
 by_cases hn : 1048576 < n
 ·have e1 : (1048576 : Int) < (n : Int) := by omega
  have u1 : decide ((1048576 : Int) < (n : Int)) = true := decide_eq_true e1;go_enter Try.func3, Try.ntmps3;go_wp2_with fail;go_ret;exact ⟨rfl, Below.refl _ _⟩
 have e1 : ¬ (1048576 : Int) < (n : Int) := by omega
 have u1 : decide ((1048576 : Int) < (n : Int)) = false := decide_eq_false e1;have HY := hid h;have HL := hid hl;clear h hl;go_enter Try.func3, Try.ntmps3;go_wp2_with fail;refine (Ie w ca n cap HY.out hc hm HL.out).mono ?_;rintro e w1 ⟨r, q, rfl, hs, has, hb1⟩;have HS := hid hs;clear hs e1 u1 hn hc hm HY HL;obtain ⟨g3, hg3⟩ : ∃ u, u = w1.heap.size := ⟨_, rfl⟩
 obtain ⟨W1, hW1⟩ : ∃ u, u = w1.alloc (.cells (au r q.p) 31) := ⟨_, rfl⟩
 have X1 := hid (show Below w1.heap.size w1 W1 by rw [hW1]; exact ae (Below.refl _ _) _);have K3 := hid (show aC W1 g3 (au r q.p) 31 by rw [hW1, hg3]; exact aC.new _ _ _);have kx := aC.new w1 (au r q.p) 31;have B1 := hid (hb1.trans (X1.out.mono hb1.size));have R3 := hid (has.ext X1.out)
 go_wp2_with (first
  | ((with_reducible refine dI (au r q.p) rfl ?_ ?_ ?_ ?_ ?_); rfl; rfl; rfl; simp [Value.oneCell'])
  | ((with_reducible refine ah w1.heap.size (au r q.p) rfl ?_ ?_ ?_); rfl; exact kx))
 try rw [← hg3]
 rw [← hW1];clear hg3 hW1 kx X1 has hb1;refine (FP w.heap.size r q.p q.X q.c W1 HS.out R3.out).mono ?_;rintro e w2 ⟨pf, Xf, cf, rfl, hf, hb2⟩;obtain ⟨g4, hg4⟩ : ∃ u, u = w2.heap.size := ⟨_, rfl⟩
 obtain ⟨W2, hW2⟩ : ∃ u, u = w2.alloc (.cells (au (dn r) pf) 31) := ⟨_, rfl⟩
 have X2 := (show Below w2.heap.size w2 W2 by rw [hW2]; exact ae (Below.refl _ _) _)
 have XX := hid (hb2.trans (X2.mono hb2.size));have K4 := hid (show aC W2 g4 (au (dn r) pf) 31 by rw [hW2, hg4]; exact aC.new _ _ _);have kx := aC.new w2 (au (dn r) pf) 31;have B2 := hid (B1.out.trans (XX.out.mono B1.out.size));have R3 := hid (R3.out.ext XX.out);have K3 := hid (K3.out.ext XX.out);have R4 := hid (hf.ext X2)
 go_wp2_with (first
  | ((with_reducible refine dI (au (dn r) pf) rfl ?_ ?_ ?_ ?_ ?_); rfl; rfl; rfl; simp [Value.oneCell'])
  | ((with_reducible refine ah w2.heap.size (au (dn r) pf) rfl ?_ ?_ ?_); rfl; exact kx))
 try rw [← hg4]
 rw [← hW2];clear hg4 hW2 kx X2 XX hf hb2 B1;refine (FI W1.heap.size (dn r) pf Xf cf W2 (rG HS.out) R4.out).mono ?_;rintro e w3 ⟨pu, Xu, cu, rfl, hu, hb3⟩;obtain ⟨g5, hg5⟩ : ∃ u, u = w3.heap.size := ⟨_, rfl⟩
 obtain ⟨W3, hW3⟩ : ∃ u, u = w3.alloc (.cells (au (eu (dn r)) pu) 31) := ⟨_, rfl⟩
 have X3 := (show Below w3.heap.size w3 W3 by rw [hW3]; exact ae (Below.refl _ _) _)
 have XX := hid (hb3.trans (X3.mono hb3.size));have K5 := hid (show aC W3 g5 (au (eu (dn r)) pu) 31 by rw [hW3, hg5]; exact aC.new _ _ _);have BW := hid (B2.out.trans (XX.out.mono B2.out.size));have R3 := hid (R3.out.ext XX.out);have K3 := hid (K3.out.ext XX.out);have R4 := hid (R4.out.ext XX.out);have K4 := hid (K4.out.ext XX.out);have R5 := hid (hu.ext X3);go_wp2_with ((with_reducible refine dI (au (eu (dn r)) pu) rfl ?_ ?_ ?_ ?_ ?_); rfl; rfl; rfl; simp [Value.oneCell']);try rw [← hg5]
 rw [← hW3];clear hg5 hW3 X3 XX hu hb3 B2;have hK0 : B3 g3 (au r q.p) g4 (au (dn r) pf) g5 (au (eu (dn r)) pu) W3 := ⟨K3.out, K4.out, K5.out⟩
 refine wp_region_held_drew (S := B3 g3 (au r q.p) g4 (au (dn r) pf) g5 (au (eu (dn r)) pu)) (by kernel_rfl) ⟨aC.drew hK0.a, aC.drew hK0.b, aC.drew hK0.c⟩ (fun q9 => ?_);simp only [qz, Nat.reduceAdd];obtain ⟨wa, hwa⟩ : ∃ u, u = W3.drew := ⟨_, rfl⟩
 have EA := hid (show Below W3.heap.size W3 wa by rw [hwa]; exact (Below.refl _ _).drew);rw [← hwa] at q9 ⊢;clear hwa hK0;refine wpAnyH_take (i := 0) (v := .agg (au (dn r) pf)) (ax rfl) (by kernel_rfl) (by kernel_rfl) (by kernel_rfl) (fun _ _ _ h => h) (gG (fun w9 hS => hS.b) rfl (by rfl) _ rfl rfl) q9 ?_;try simp only [qq]
 refine wpAnyH_take (i := 1) (v := .agg (au r q.p)) (ax rfl) (by kernel_rfl) (by kernel_rfl) (by kernel_rfl) (fun _ _ _ h => h) (gG (fun w9 hS => hS.a) rfl (by rfl) _ rfl rfl) q9 ?_;try simp only [qq]
 refine bV 2 fun K hK => ?_
 go_simp;refine (xg w.heap.size r q.p q.X q.c wa HS.out (R3.out.ext EA.out)).mono ?_;rintro e wb ⟨p2, X2, c2, rfl, h2, b2⟩;have EB := hid (EA.out.trans (b2.mono EA.out.size));have H2 := hid h2;have KH := q9.ext b2;clear h2 b2;go_wp2_with fail;refine hK.out _ _ KH ?_;clear hK K q9;intro q9;try simp only [qq]
 clear KH;refine bV 3 fun K hK => ?_
 go_simp;refine (qE (dn r) pf p2 wb ((R4.out.ext EB.out).at) H2.out.at).mono ?_;rintro e wc ⟨rfl, b3⟩;have EC := hid (EB.out.trans (b3.mono EB.out.size));have KH := q9.ext b3;clear b3 H2;go_wp2_with fail;refine hK.out _ _ KH ?_;clear hK K q9;intro q9;try simp only [qq]
 clear KH;refine ag.go [4, 5] ?_;iterate 2 (refine ag.tn q9 ?_; try simp only [qq])
 refine ag.fin ?_;refine wpAnyH_take (i := 6) (v := .agg (au (eu (dn r)) pu)) (ax rfl) (by kernel_rfl) (by kernel_rfl) (by kernel_rfl) (fun _ _ _ h => h) (gG (fun w9 hS => hS.c) rfl (by rfl) _ rfl rfl) q9 ?_;try simp only [qq]
 refine wpAnyH_take (i := 7) (v := .agg (au r q.p)) (ax rfl) (by kernel_rfl) (by kernel_rfl) (by kernel_rfl) (fun _ _ _ h => h) (gG (fun w9 hS => hS.a) rfl (by rfl) _ rfl rfl) q9 ?_;try simp only [qq]
 refine bV 8 fun K hK => ?_
 go_simp;refine (xg w.heap.size r q.p q.X q.c wc HS.out (R3.out.ext EC.out)).mono ?_;rintro e wd ⟨p5, X5, c5, rfl, h5, b5⟩;have ED := hid (EC.out.trans (b5.mono EC.out.size));have H5 := hid h5;have KH := q9.ext b5;clear h5 b5;go_wp2_with fail;refine hK.out _ _ KH ?_;clear hK K q9;intro q9;try simp only [qq]
 clear KH;refine bV 9 fun K hK => ?_
 go_simp;refine (AP wc.heap.size (dn r) p5 X5 c5 wd (rG HS.out) H5.out).mono ?_;rintro e we ⟨p6, X6, c6, rfl, h6, b6⟩;have EE := hid (ED.out.trans (b6.mono ED.out.size));have H6 := hid h6;have KH := q9.ext b6;clear h6 b6 H5;go_wp2_with fail;refine hK.out _ _ KH ?_;clear hK K q9;intro q9;try simp only [qq]
 clear KH;refine bV 10 fun K hK => ?_
 go_simp;refine (qE (eu (dn r)) pu p6 we ((R5.out.ext EE.out).at) H6.out.at).mono ?_;rintro e wf ⟨rfl, b7⟩;have EF := hid (EE.out.trans (b7.mono EE.out.size));have KH := q9.ext b7;clear b7 H6;go_wp2_with fail;refine hK.out _ _ KH ?_;clear hK K q9;intro q9;try simp only [qq]
 clear KH;refine ag.go [11, 12] ?_;iterate 2 (refine ag.tn q9 ?_; try simp only [qq])
 refine ag.fin ?_;refine wpAnyH_done (by kernel_rfl) ?_ _;have KA := hid q9.a;have KB := hid q9.b;have KC := hid q9.c;clear q9 EA EB EC ED EE;have ka := KA.out;go_wp2_with ((with_reducible refine ah g3 (au r q.p) rfl ?_ ?_ ?_); rfl; exact ka);refine (jf r q.p wf HS.out (R3.out.ext EF.out).at).mono ?_;rintro e wg ⟨rfl, b8⟩;have KA := hid (KA.out.ext b8);have KB := hid (KB.out.ext b8);have KC := hid (KC.out.ext b8);have EG := hid (EF.out.trans (b8.mono EF.out.size));clear b8 ka EF K3 K4 K5;cases hv : bf r
 ·have f0 : dn r = pV := rW hv;have u0 : eu pV = pV := sD (by rfl);rw [f0, u0] at KC;rw [f0] at KB;have cB := KB.out.cell;have cC := KC.out.cell;rw [f0, u0];go_wp2_with fail;go_ret;exact ⟨rfl, BW.out.trans (EG.out.mono BW.out.size)⟩
 have f0 : dn r = gV r := nO hv;have v1 : bf (gV r) = true := fA.2 (Dp (fA.1 hv));have u0 : eu (gV r) = iK (gV r) := nK v1;have v2 : bf (iK (gV r)) = true := fA.2 (Dj (fA.1 v1));rw [f0] at KB R4 R5 KC;rw [u0] at R5 KC;rw [f0, u0];have V1 := hid v1;have V2 := hid v2;clear f0 u0 v1 v2 hv;have kb := KB.out;go_wp2_with ((with_reducible refine ah g4 (au (gV r) pf) rfl ?_ ?_ ?_); rfl; exact kb);refine (qY (gV r) pf wg (hid (zN R4.out)) (R4.out.ext EG.out).at).mono ?_;rintro e wh ⟨rfl, b9⟩;have KA := hid (KA.out.ext b9);have KB := hid (KB.out.ext b9);have KC := hid (KC.out.ext b9);have EH := hid (EG.out.trans (b9.mono EG.out.size));rw [V1.out];clear b9 kb EG;have kc := KC.out.cell;go_wp2_with fail;refine (qY (iK (gV r)) pu wh (hid (zN R5.out)) (R5.out.ext EH.out).at).mono ?_;rintro e wi ⟨rfl, b9⟩;have EI := hid (EH.out.trans (b9.mono EH.out.size));have cA := (KA.out.ext b9).cell;have cB := (KB.out.ext b9).cell;have cC := (KC.out.ext b9).cell;have KA := hid (KA.out.ext b9);have KB := hid (KB.out.ext b9);have KC := hid (KC.out.ext b9);rw [V2.out];clear b9 kc EH;go_wp2_with fail;refine (pM _ _ pf.aD q.p.aS r.ss _ pf.cD q.p.cS wi rfl (R3.out.ext EI.out).at.lS (R4.out.ext EI.out).at.hD (R3.out.ext EI.out).at.hS).mono ?_;rintro e wj ⟨rfl, b9⟩;have EJ := hid (EI.out.trans (b9.mono EI.out.size));have cA := (KA.out.ext b9).cell;have cC := (KC.out.ext b9).cell;have KC := hid (KC.out.ext b9);clear cB EI KB;go_wp2_with fail;refine (pM _ _ pu.aS q.p.aS r.ss _ pu.cS q.p.cS wj rfl (R3.out.ext EJ.out).at.lS (R5.out.ext EJ.out).at.hS (R3.out.ext EJ.out).at.hS).mono ?_;rintro e wk ⟨rfl, b10⟩;have EK := hid (EJ.out.trans (b10.mono EJ.out.size));have cC := (KC.out.ext b10).cell;clear EJ KC KA;have hz : (wrap64 (((iK (gV r)).held.length : Int) + ((iK (gV r)).wish.length : Int)) == 0) = true := by
  show (wrap64 (((0 : Nat) : Int) + ((0 : Nat) : Int)) == 0) = true;simp [wrap64]
 go_wp2_with fail;go_ret;exact ⟨by first | rfl | (show Ending.returned (.bool (wrap64 (((iK (gV r)).held.length : Int) + ((iK (gV r)).wish.length : Int)) == 0)) = _; rw [hz]), BW.out.trans (EK.out.mono BW.out.size)⟩
theorem Cf {H : Type} {enc : TypeId × Value → H} {W : World} {base fuel : Nat} {ca : Option Addr} {n cap : Nat} {y : DataW H × List MemPlace} (hval : Value.okWide Try.prog W .any base 22 (.slice ca n cap)) (h : DataW.trod enc Try.prog W 0 (fun _ => true) true fuel 22 [.slice ca n cap] = some y) :
  BytesAt W ca n ∧ n ≤ cap ∧ cap ≤ maxLen ∧ ∀ x, ca = some x → x.block < W.heap.size := by
 rcases open_ints Try.underlying22 Try.underlying5 (by kernel_rfl) h with ⟨hcs, _⟩ | ⟨x, len, cap', zs, hcs, _, hl, hm, hz, _, hx, hw⟩
 ·simp only [List.cons.injEq, Value.slice.injEq, and_true] at hcs;obtain ⟨rfl, rfl, rfl⟩ := hcs;exact ⟨fun i hi => absurd hi (by omega), Nat.le_refl _, Nat.zero_le _, fun x hx => by simp at hx⟩
 simp only [List.cons.injEq, Value.slice.injEq, and_true] at hcs;obtain ⟨rfl, rfl, rfl⟩ := hcs;have hlm : n ≤ zs.length := by rw [hz]; split <;> omega
 have hv : x.spot = none ∧ x.block < W.heap.size := by
  simp only [Value.okWide, Try.underlying22, Cell.okWide, Cell.ok] at hval;obtain ⟨_, _, _, hs, row, cells, hsh, _⟩ := hval;refine ⟨hs, ?_⟩;unfold World.shape? at hsh;rcases Nat.lt_or_ge x.block W.heap.size with h' | h'
  ·exact h'
  simp [Array.getElem?_eq_none h'] at hsh
 obtain ⟨b, off, spot⟩ := x;obtain ⟨hs, hb⟩ := hv;dsimp only at hs hb;subst hs;refine ⟨fun i hi => ?_, hl, hm, fun x hx => by simp only [Option.some.injEq] at hx; rw [← hx]; exact hb⟩;have c0 := hx i (by omega);rw [Addr.add_lit] at c0;have hr := range_u8 hw i;refine ⟨b, off, zs.getD i 0, rfl, hb, ?_, ?_, c0⟩
 ·rw [List.getD_eq_getElem?_getD]; exact hr.1
 rw [List.getD_eq_getElem?_getD]; omega
theorem lifted (os : Os) (started : os.Started) (H : Type) (enc : TypeId × Value → H) :
  ReturnsInHanded {} Try.checked os 3 .any (Rows.fnFallsSpec.pre6 enc Try.prog Try.f3 Rows.fnFallsRow.domain false) (Rows.fnFallsSpec.post enc Try.prog Try.f3 false true false false) := by
 refine returnsInHanded_of_change (C := Try.checked) own started (by kernel_rfl) Try.func3
  (ChangeSpec.witness6 (enc := enc) (C := Try.checked) false ⟨#[], #[.slice none 0 0], []⟩ 8 (by kernel_rfl) (by kernel_rfl) (by kernel_rfl) (by kernel_rfl)) ?_
 intro W base args ds gs before hval0 hW hcnd _;have hval : ∀ (j : Nat) t v, Try.f3.params[j]? = some t → args[j]? = some v → Value.okWide Try.prog W .any base t v := hval0
 have hW' := hW;obtain ⟨p, q, hA0, hV, rfl, hfz, hnd⟩ := hW;have hA : DataW.TrodAll enc Try.prog W 0 (fun _ => true) true Try.f3.params.toList args.toList ds p := hA0;rw [Try.params3] at hA hval;obtain ⟨v0, vs0, d0, ds0, p0, q0, hargs, rfl, rfl, h0, r0⟩ := trodAll_cons hA;obtain ⟨rfl, rfl, rfl⟩ := trodAll_nil r0;obtain rfl : args = #[v0] := by cases args; simp_all
 obtain ⟨rfl, rfl⟩ := trodVars_none hV;have k0 := h0;have lt0 : ∀ x ∈ p0, x.block < W.heap.size := by obtain ⟨m, hm⟩ := k0; exact DataW.trod_lt m _ _ _ hm
 obtain ⟨fuel, hf⟩ := h0;obtain ⟨ca, n, cap, rfl⟩ := okWide_slice Try.underlying22 (hval 0 22 v0 rfl rfl);obtain ⟨hby, hc, hm, hl⟩ := Cf (hval 0 22 _ rfl rfl) hf;clear hA0 hval0;refine (walk ca n cap W hby hc hm hl).mono fun e W' ⟨he, bel⟩ => ?_
 subst he;exact ⟨_, rfl, _, _, _, [], _, [], hW', trodAll_mk1 (shut_bool Try.underlying4 _), (trodAll_cons_mk (Below.trod laidOut (by kernel_rfl) (of_decide_eq_true (by kernel_rfl)) k0 bel lt0) trodAll_mk0), rfl, bel.frame _, fun h => by cases h⟩
theorem over : Rows.fnFallsRow.holds Try.pinned (OpenSpec.ofChange Rows.fnFallsSpec) :=
 OpenClaim.holds_of_wide 3 Try.f3 rfl rfl rfl rfl rfl rfl rfl ⟨rfl, rfl, rfl, rfl, rfl⟩ rfl rfl rfl rfl rfl (by kernel_rfl) Try.func3 (by kernel_rfl)
  (of_decide_eq_true (by kernel_rfl)) (by unfold Func.isWrapper; first | (rw [if_pos (by decide +kernel)]; kernel_rfl) | (rw [if_neg (by decide +kernel)]; exact ⟨rfl, rfl⟩))
  (fun os started H enc _ => lifted os started H enc)
theorem proved : Rows.FnFallsSaid := over
#print axioms proved
end Go.Proofs.Ytjdceoimignnpaa.fnFalls
