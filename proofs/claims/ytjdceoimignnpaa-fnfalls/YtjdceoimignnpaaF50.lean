import Derived.Test.YtjdceoimignnpaaF49
namespace Go.Proofs.Ytjdceoimignnpaa
open Go.ChangeShapes Go.WideShapes Go.ChangeAt Go.RowKit next
set_option linter.unusedVariables false
set_option linter.unusedSimpArgs false
set_option maxHeartbeats 32000000
set_option maxRecDepth 20000
def NZ (w : World) (g : Nat) (ca : Option Addr) (n cap k m : Nat) (e : Ending) (w' : World) : Prop :=
 ∃ (r' : Rc) (q : jF) (k' : Nat), e = .returned (.agg (au r' q.p)) ∧ bD r' ∧ aG w.heap.size w' r' q.p q.X q.c ∧ sZ g w w' ∧ pO w' g ca n cap k' ∧ k' ≤ k + m
theorem F5 (B0 : Nat) (w : World) (g : Nat) (ca : Option Addr) (n cap k : Nat) (r : Rc) (p0 : fU) (X0 : iU) (c0 : Nat → Nat) (h : pO w g ca n cap k) (hp : k ≤ 600000000) (hc : ∀ x, ca = some x → x.block < w.heap.size) (hv : VR r) (hr : aG B0 w r p0 X0 c0) :
  Calls Try.prog 63 #[.pointer (some ⟨g, 0, none⟩), .agg (au r p0)] w (NZ w g ca n cap k 50) := by
 have HP := hid hp;have HC := hid hc;have LM := hid (Iw hv);have HO := hid (show 1 ≤ r.of_ ∧ r.of_ ≤ 5 from ⟨hv.o1, hv.o5⟩);have HD := hid (show 0 ≤ r.dp ∧ r.dp ≤ 1000000 from ⟨hv.d.p0, hv.d.p1⟩)
 have OKS := hid (show (-1 ≤ r.sp ∧ r.sp ≤ 1000001) ∧ (-1 ≤ r.sk ∧ r.sk ≤ 1000001) ∧ r.ss.length ≤ 60 ∧ Cc r.ss by
  have := hv.s.p0; have := hv.s.p1; have := hv.s.k0; have := hv.s.k1; have := hv.s.lk.n
  exact ⟨⟨by omega, by omega⟩, ⟨by omega, by omega⟩, by omega, hv.s.lk.Lh⟩)
 have OKD := hid (show (-1 ≤ r.dp ∧ r.dp ≤ 1000001) ∧ (-1 ≤ r.dk ∧ r.dk ≤ 1000001) ∧ r.ds.length ≤ 60 ∧ Cc r.ds by
  have := hv.d.p0; have := hv.d.p1; have := hv.d.k0; have := hv.d.k1; have := hv.d.lk.n
  exact ⟨⟨by omega, by omega⟩, ⟨by omega, by omega⟩, by omega, hv.d.lk.Lh⟩)
 obtain ⟨V, hV⟩ : ∃ V, V = (w.alloc (.cells (au r p0) 31)).alloc (.cells bP 31) := ⟨_, rfl⟩
 have EV := hid (show Below w.heap.size w V by rw [hV]; exact ae (ae (Below.refl _ _) _) _);have S0 := hid ((RX.start h).ext EV.out);have R0 := hid (hr.ext EV.out);have k0 : aC ((w.alloc (.cells (au r p0) 31)).alloc (.cells bP 31)) w.heap.size (au r p0) 31 := (aC.new _ _ _).alloc _;have Z0 := hid (show aC V (w.heap.size + 1) bP 31 by rw [hV]; exact aC.new' _ _ (by simp));clear h hp hc hv hr;go_enter Try.func63, Try.ntmps63;go_wp2_with ((with_reducible refine ah w.heap.size (au r p0) rfl ?_ ?_ ?_); rfl; exact k0);rw [← hV];clear hV k0;refine (jm B0 r p0 X0 c0 V LM.out.sm R0.out).mono ?_;rintro e w1 ⟨p1, X1, c5, rfl, has1, hb1⟩;obtain ⟨W1, hW1⟩ : ∃ u, u = w1.alloc (.cells (au r p1) 31) := ⟨_, rfl⟩
 obtain ⟨gy, hgy⟩ : ∃ u, u = w1.heap.size := ⟨_, rfl⟩
 obtain ⟨c1, hc1⟩ : ∃ f, f = dm w1.heap.size c5 := ⟨_, rfl⟩
 have D1 := hid (show SK w g ca n cap V.heap.size gy (w.heap.size + 1) (au r p1) r p1 X1 c1 k W1 by
  have hb : Below w1.heap.size w1 W1 := by rw [hW1]; exact ae (Below.refl _ _) _
  have s1 := (S0.out.ext hb1).ext hb;have lt := Z0.out.lt;refine ⟨⟨s1.a, s1.w, fun u hu => ?_, s1.l⟩, by rw [hc1]; exact has1.fresh.ext hb, by rw [hc1, hgy]; exact bI (Nat.le_refl _), lt, by rw [hgy]; exact hb1.size⟩;simp only [List.mem_cons, List.not_mem_nil, or_false] at hu;rcases hu with rfl | rfl
  ·exact ⟨by rw [hW1, hgy]; exact aC.new _ _ _, by show w.heap.size ≤ gy; rw [hgy]; have := hb1.size; omega⟩
  exact ⟨(Z0.out.ext hb1).ext hb, by show w.heap.size ≤ w.heap.size + 1; omega⟩)
 go_wp2_with ((with_reducible refine dI (au r p1) rfl ?_ ?_ ?_ ?_ ?_); rfl; rfl; rfl; simp [Value.oneCell']);try rw [← hgy]
 rw [← hW1];clear hgy hW1 hc1 S0 R0 Z0 EV has1 hb1 c5;have HM1 := hid D1.out.h.hm;have AM1 := hid D1.out.h.am;refine (dD W1 g ca n cap k 14 D1.out.x.a (by have := HP.out; omega) (by omega) (by omega)).mono ?_;rintro e w2 ⟨v, rfl, hv, hu, ha⟩;have D2 := hid (D1.out.rd hu.w ha);clear hu ha D1
 go_upto_block 0 with fail
 go_cut [] from 10 to 152 (fun wx => ∃ (r9 : Rc) (p9 : fU) (X9 : iU) (c9 : Nat → Nat) (k9 : Nat), bD r9 ∧ k9 ≤ k + 50 ∧ SK w g ca n cap V.heap.size gy (w.heap.size + 1) (au r9 p9) r9 p9 X9 c9 k9 wx)
 case first =>
  have h7 : v = 0 ∨ v = 1 ∨ v = 2 ∨ v = 3 ∨ v = 4 ∨ v = 5 ∨ v = 6 ∨ v = 7 ∨ v = 8 ∨ v = 9 ∨ v = 10 ∨ v = 11 ∨ v = 12 ∨ v = 13 := by omega
  rcases h7 with rfl | rfl | rfl | rfl | rfl | rfl | rfl | rfl | rfl | rfl | rfl | rfl | rfl | rfl
  ·clear hv;go_wp2_with fail;have hK0 : Sy gy (au r p1) w2 := ⟨D2.out.box⟩
   refine aI (S := Sy gy (au r p1)) 11 (by kernel_rfl) ⟨aC.drew hK0.k⟩ (fun q9 => ?_);simp only [qz, Nat.reduceAdd];obtain ⟨w3, hw3⟩ : ∃ u, u = w2.drew := ⟨_, rfl⟩
   have D := hid (D2.out.ext (show Below w2.heap.size w2 w3 by rw [hw3]; exact (Below.refl _ _).drew));rw [← hw3] at q9 ⊢;clear hw3 hK0 D2;refine ak.go [0, 1, 2, 3] ?_;iterate 4 (refine ak.tk q9 ?_; try simp only [qq])
   refine ak.fin ?_;have e6 : IntKind.i64.wrap (r.of_ + 1) = r.of_ + 1 := by have := HO.out; go_arith
   refine ak.go [4] ?_;iterate 1 (refine ak.tk q9 ?_; try simp only [qq])
   refine ak.fin ?_;clear e6;refine ak.go [6] ?_;iterate 1 (refine ak.tk q9 ?_; try simp only [qq])
   refine ak.fin ?_;refine bu (rs := [5, 7]) (by kernel_rfl) (by simp) ?_;refine aK.cons (ax rfl) (fun K hK => ?_) (aK.cons (ax rfl) (fun K hK => ?_) aK.nil)
   ·go_simp;obtain ⟨wa1, ca1, hwa, da, ka, ni, gi, cc, ea⟩ := D.out.new #[.int .i64 0, .int .i64 r.of_, .int .i64 (r.of_ + 1)] 3;rw [← hwa];have DA1 := hid da;have NI := hid ni;have GI := hid gi;refine hK.out _ _ (show Sy gy (au r p1) wa1 from ⟨da.box⟩) (fun hNew => ?_);clear hK K q9 hNew;try simp only [qq]
    refine df (S' := Sz gy (au r p1) (w3.heap.size) #[.int .i64 0, .int .i64 r.of_, .int .i64 (r.of_ + 1)] 3) (fun _ h => ⟨h.k⟩) _ _ _ _ ?_;have q9 : Sz gy (au r p1) (w3.heap.size) #[.int .i64 0, .int .i64 r.of_, .int .i64 (r.of_ + 1)] 3 wa1 := ⟨da.box, ka⟩
    clear hwa da ka ni gi cc ea D;refine aT 7 fun K hK => ?_
    go_simp;refine (dD wa1 g ca n cap (k + 1) 3 DA1.out.x.a (by have := HP.out; omega) (by omega) (by omega)).mono ?_;rintro e wp2 ⟨b2, rfl, hb2, hu, ha⟩;have DP2 := hid (DA1.out.rd hu.w ha);have KH : Sz gy (au r p1) (w3.heap.size) #[.int .i64 0, .int .i64 r.of_, .int .i64 (r.of_ + 1)] 3 wp2 := ⟨DP2.out.box, (hu.block _ (by have := GI.out; omega)).trans q9.i⟩
    clear hu ha DA1;go_wp2_with fail;refine hK.out _ _ KH ?_;clear hK K q9;intro q9;try simp only [qq]
    clear KH;obtain ⟨y2, hy2⟩ := i3 0 r.of_ (r.of_ + 1) b2 (by omega);refine ak.go [8] ?_;iterate 1 (refine ak.tk q9 ?_; try simp only [qq])
    refine ak.fin ?_;refine ak.go [9] ?_;iterate 1 (apply ak.take (ax rfl) (by kernel_rfl) (by rfl) (fun _ _ _ h => h) q9; (· intro w9 hSw; have hq := hSw.i.cell; rw [← hq] at hy2; clear hSw; go_simp; try with_reducible rfl); try simp only [qq])
    refine ak.fin ?_;refine ak.go [10] ?_;iterate 1 (refine ak.tk q9 ?_; try simp only [qq])
    refine ak.fin ?_;refine aJ fun K hK => ?_
    have cB := q9.k.cell;have fB := q9.k.free;go_simp;refine hK.out _ _ ?_;clear hK K q9 cB fB;have G2 := hid (((DP2.out.put HC.out 0 (.int .i64 y2)).to (r' := { r with num := y2 }) ((DP2.out.put HC.out 0 (.int .i64 y2)).h.like rfl rfl rfl rfl rfl rfl rfl) DP2.out.c9).as (show _ = au { r with num := y2 } p1 by rfl));go_wp2_with fail
    go_meet
    case rel => exact ⟨{ r with num := y2 }, p1, X1, ca1, _, LM.out.small { r with num := y2 }, by omega, G2.out⟩
   go_simp;refine (dD w3 g ca n cap (k + 1) 3 D.out.x.a (by have := HP.out; omega) (by omega) (by omega)).mono ?_;rintro e wp3 ⟨b3, rfl, hb3, hu, ha⟩;have DP3 := hid (D.out.rd hu.w ha);have KH : Sy gy (au r p1) wp3 := ⟨DP3.out.box⟩
   clear hu ha D;go_wp2_with fail;refine hK.out _ _ KH ?_;clear hK K q9;intro q9;try simp only [qq]
   clear KH;refine aT 5 fun K hK => ?_
   go_simp;obtain ⟨wa4, ca4, hwa, da, ka, ni, gi, cc, ea⟩ := DP3.out.new #[.int .i64 0, .int .i64 r.of_, .int .i64 (r.of_ + 1)] 3;rw [← hwa];have DA4 := hid da;have NI := hid ni;have GI := hid gi;refine hK.out _ _ (show Sy gy (au r p1) wa4 from ⟨da.box⟩) (fun hNew => ?_);clear hK K q9 hNew;try simp only [qq]
   refine df (S' := Sz gy (au r p1) (wp3.heap.size) #[.int .i64 0, .int .i64 r.of_, .int .i64 (r.of_ + 1)] 3) (fun _ h => ⟨h.k⟩) _ _ _ _ ?_;have q9 : Sz gy (au r p1) (wp3.heap.size) #[.int .i64 0, .int .i64 r.of_, .int .i64 (r.of_ + 1)] 3 wa4 := ⟨da.box, ka⟩
   clear hwa da ka ni gi cc ea DP3;obtain ⟨y2, hy2⟩ := i3 0 r.of_ (r.of_ + 1) b3 (by omega);refine ak.go [8] ?_;iterate 1 (refine ak.tk q9 ?_; try simp only [qq])
   refine ak.fin ?_;refine ak.go [9] ?_;iterate 1 (apply ak.take (ax rfl) (by kernel_rfl) (by rfl) (fun _ _ _ h => h) q9; (· intro w9 hSw; have hq := hSw.i.cell; rw [← hq] at hy2; clear hSw; go_simp; try with_reducible rfl); try simp only [qq])
   refine ak.fin ?_;refine ak.go [10] ?_;iterate 1 (refine ak.tk q9 ?_; try simp only [qq])
   refine ak.fin ?_;refine aJ fun K hK => ?_
   have cB := q9.k.cell;have fB := q9.k.free;go_simp;refine hK.out _ _ ?_;clear hK K q9 cB fB;have G2 := hid (((DA4.out.put HC.out 0 (.int .i64 y2)).to (r' := { r with num := y2 }) ((DA4.out.put HC.out 0 (.int .i64 y2)).h.like rfl rfl rfl rfl rfl rfl rfl) DA4.out.c9).as (show _ = au { r with num := y2 } p1 by rfl));go_wp2_with fail
   go_meet
   case rel => exact ⟨{ r with num := y2 }, p1, X1, ca4, _, LM.out.small { r with num := y2 }, by omega, G2.out⟩
  ·clear hv;have kI := hid (aC.new w2 #[.int .i64 0, .int .i64 5, .int .i64 6] 3);have D3 := hid (D2.out.ext (ae (Below.refl w2.heap.size w2) (.cells #[.int .i64 0, .int .i64 5, .int .i64 6] 3)));have GI := hid (show g < w2.heap.size from D2.out.x.a.k.lt);clear D2;go_wp2_with fail;refine (dD _ g ca n cap (k + 1) 3 D3.out.x.a (by have := HP.out; omega) (by omega) (by omega)).mono ?_;rintro e w4 ⟨b, rfl, hb, hu, ha⟩;obtain ⟨y2, hy2⟩ := i3 0 5 6 b (by omega);have D4 := hid (D3.out.rd hu.w ha);have cI : w4.cell? ⟨w2.heap.size, b, none⟩ = some (.int .i64 y2) := (aC.cell ((hu.block _ (by have := GI.out; omega)).trans kI.out) b).trans hy2;have e0 : (0 : Int) ≤ (b : Int) := by omega
   have cB := D4.out.box.cell;have fB := D4.out.box.free;have G := hid (D4.out.put HC.out 1 (.int .i64 y2));have G2 := hid ((G.out.to (r' := { r with of_ := y2 }) (G.out.h.like rfl rfl rfl rfl rfl rfl rfl) G.out.c9).as (show _ = au { r with of_ := y2 } p1 by rfl));clear hu ha D3 kI hy2;go_wp2_with fail
   go_meet
   case rel => exact ⟨{ r with of_ := y2 }, p1, X1, c1, _, LM.out.small { r with of_ := y2 }, by omega, G2.out⟩
  ·clear hv;have cB := D2.out.box.cell;have CF := hid D2.out.fresh;go_wp2_with fail;refine (yJ V.heap.size w2 g ca n cap (k + 1) r.sp r.sk r.ss r.ss.length p1.aS p1.cS c1 0 D2.out.x.a (by have := HP.out; omega) (fun x hx => by have := HC.out x hx; have := D2.out.x.w.size; omega) OKS.out.1 OKS.out.2.1 rfl OKS.out.2.2.1 OKS.out.2.2.2 D2.out.h.s).mono ?_;rintro e w4 ⟨x9, y9, l9, n9, a9, c9, k9, rfl, dk, hx9, hy9, hn9, hk9⟩;have D4 := hid (CF.out.rd dk.r.w dk.r.a);have B2 := hid (show V.heap.size ≤ w2.heap.size from Nat.le_trans D2.out.up (Nat.le_of_lt D2.out.box.lt));have LN := dk.ln;subst LN;have R4 := hid ((D4.out.h.kG (a' := a9) (u := 0) (fun x hx => by rw [bI (dk.row.lt x hx).1]; omega)).JE (a' := a9) (c' := c9) (l := l9) ⟨(dk.row.low B2.out).own, fun x hx => iL hx⟩ dk.ok.good)
   have N4 := hid (show dM a9 0 (dm w2.heap.size c1) gy = 9 by
    rw [eQ]
    ·exact D4.out.c9
    intro x hx e;have := (dk.row.lt x hx).1;have := D2.out.box.lt
    omega)
   have D5 := hid (D4.out.to R4.out N4.out);have cB4 := D4.out.box.cell;have fB4 := D4.out.box.free;have G := hid (((D5.out.put HC.out 3 (.int .i64 x9)).put HC.out 4 (.int .i64 y9)).put HC.out 5 (.slice a9 l9.length c9));have G2 := hid ((G.out.to (r' := { r with sp := x9, sk := y9, ss := l9 }) (p' := { p1 with aS := a9, cS := c9 }) (G.out.h.like rfl rfl rfl rfl rfl rfl rfl) N4.out).as (show _ = au { r with sp := x9, sk := y9, ss := l9 } { p1 with aS := a9, cS := c9 } by rfl));clear dk cB D2 CF R4 G;go_wp2_with fail
   go_meet
   case rel => exact ⟨{ r with sp := x9, sk := y9, ss := l9 }, { p1 with aS := a9, cS := c9 }, X1, (dM a9 0 (dm w2.heap.size c1)), _, LM.out.small { r with sp := x9, sk := y9, ss := l9 } (e1 := by show l9.length ≤ _; omega), by omega, G2.out⟩
  ·clear hv;have cB := D2.out.box.cell;have CF := hid D2.out.fresh;go_wp2_with fail;refine (yJ V.heap.size w2 g ca n cap (k + 1) r.dp r.dk r.ds r.ds.length p1.aD p1.cD c1 1 D2.out.x.a (by have := HP.out; omega) (fun x hx => by have := HC.out x hx; have := D2.out.x.w.size; omega) OKD.out.1 OKD.out.2.1 rfl OKD.out.2.2.1 OKD.out.2.2.2 D2.out.h.d).mono ?_;rintro e w4 ⟨x9, y9, l9, n9, a9, c9, k9, rfl, dk, hx9, hy9, hn9, hk9⟩;have D4 := hid (CF.out.rd dk.r.w dk.r.a);have B2 := hid (show V.heap.size ≤ w2.heap.size from Nat.le_trans D2.out.up (Nat.le_of_lt D2.out.box.lt));have LN := dk.ln;subst LN;have R4 := hid ((D4.out.h.kG (a' := a9) (u := 1) (fun x hx => by rw [bI (dk.row.lt x hx).1]; omega)).LP (a' := a9) (c' := c9) (l := l9) ⟨(dk.row.low B2.out).own, fun x hx => iL hx⟩ dk.ok.good)
   have N4 := hid (show dM a9 1 (dm w2.heap.size c1) gy = 9 by
    rw [eQ]
    ·exact D4.out.c9
    intro x hx e;have := (dk.row.lt x hx).1;have := D2.out.box.lt
    omega)
   have D5 := hid (D4.out.to R4.out N4.out);have cB4 := D4.out.box.cell;have fB4 := D4.out.box.free;have G := hid (((D5.out.put HC.out 6 (.int .i64 x9)).put HC.out 7 (.int .i64 y9)).put HC.out 8 (.slice a9 l9.length c9));have G2 := hid ((G.out.to (r' := { r with dp := x9, dk := y9, ds := l9 }) (p' := { p1 with aD := a9, cD := c9 }) (G.out.h.like rfl rfl rfl rfl rfl rfl rfl) N4.out).as (show _ = au { r with dp := x9, dk := y9, ds := l9 } { p1 with aD := a9, cD := c9 } by rfl));clear dk cB D2 CF R4 G;go_wp2_with fail
   go_meet
   case rel => exact ⟨{ r with dp := x9, dk := y9, ds := l9 }, { p1 with aD := a9, cD := c9 }, X1, (dM a9 1 (dm w2.heap.size c1)), _, LM.out.small { r with dp := x9, dk := y9, ds := l9 } (e2 := by show l9.length ≤ _; omega), by omega, G2.out⟩
  ·clear hv;go_wp2_with fail;have hK0 : Sy gy (au r p1) w2 := ⟨D2.out.box⟩
   refine aI (S := Sy gy (au r p1)) 15 (by kernel_rfl) ⟨aC.drew hK0.k⟩ (fun q9 => ?_);simp only [qz, Nat.reduceAdd];obtain ⟨w3, hw3⟩ : ∃ u, u = w2.drew := ⟨_, rfl⟩
   have D := hid (D2.out.ext (show Below w2.heap.size w2 w3 by rw [hw3]; exact (Below.refl _ _).drew));rw [← hw3] at q9 ⊢;clear hw3 hK0 D2;refine ak.go [0, 1, 2, 4, 5, 7] ?_;iterate 6 (refine ak.tk q9 ?_; try simp only [qq])
   refine ak.fin ?_;refine bu (rs := [3, 6]) (by kernel_rfl) (by simp) ?_;refine aK.cons (ax rfl) (fun K hK => ?_) (aK.cons (ax rfl) (fun K hK => ?_) aK.nil)
   ·go_simp;refine (dD w3 g ca n cap (k + 1) 11 D.out.x.a (by have := HP.out; omega) (by omega) (by omega)).mono ?_;rintro e wp1 ⟨b1, rfl, hb1, hu, ha⟩;have DP1 := hid (D.out.rd hu.w ha);have KH : Sy gy (au r p1) wp1 := ⟨DP1.out.box⟩
    clear hu ha D;go_wp2_with fail;refine hK.out _ _ KH ?_;clear hK K q9;intro q9;try simp only [qq]
    clear KH;refine bu (rs := [6, 8]) (by kernel_rfl) (by simp) ?_;refine aK.cons (ax rfl) (fun K hK => ?_) (aK.cons (ax rfl) (fun K hK => ?_) aK.nil)
    ·go_simp;obtain ⟨wa2, ca2, hwa, da, ka, ni, gi, cc, ea⟩ := DP1.out.new #[.int .i64 r.num, .int .i64 0, .int .i64 1] 3;rw [← hwa];have DA2 := hid da;have NI := hid ni;have GI := hid gi;refine hK.out _ _ (show Sy gy (au r p1) wa2 from ⟨da.box⟩) (fun hNew => ?_);clear hK K q9 hNew;try simp only [qq]
     refine df (S' := Sz gy (au r p1) (wp1.heap.size) #[.int .i64 r.num, .int .i64 0, .int .i64 1] 3) (fun _ h => ⟨h.k⟩) _ _ _ _ ?_;have q9 : Sz gy (au r p1) (wp1.heap.size) #[.int .i64 r.num, .int .i64 0, .int .i64 1] 3 wa2 := ⟨da.box, ka⟩
     clear hwa da ka ni gi cc ea DP1;refine aT 8 fun K hK => ?_
     go_simp;refine (dD wa2 g ca n cap (k + 1 + 1) 3 DA2.out.x.a (by have := HP.out; omega) (by omega) (by omega)).mono ?_;rintro e wp3 ⟨b3, rfl, hb3, hu, ha⟩;have DP3 := hid (DA2.out.rd hu.w ha);have KH : Sz gy (au r p1) (wp1.heap.size) #[.int .i64 r.num, .int .i64 0, .int .i64 1] 3 wp3 := ⟨DP3.out.box, (hu.block _ (by have := GI.out; omega)).trans q9.i⟩
     clear hu ha DA2;go_wp2_with fail;refine hK.out _ _ KH ?_;clear hK K q9;intro q9;try simp only [qq]
     clear KH;obtain ⟨y2, hy2⟩ := i3 r.num 0 1 b3 (by omega);refine ak.go [9] ?_;iterate 1 (refine ak.tk q9 ?_; try simp only [qq])
     refine ak.fin ?_;refine ak.go [10] ?_;iterate 1 (apply ak.take (ax rfl) (by kernel_rfl) (by rfl) (fun _ _ _ h => h) q9; (· intro w9 hSw; have hq := hSw.i.cell; rw [← hq] at hy2; clear hSw; go_simp; try with_reducible rfl); try simp only [qq])
     refine ak.fin ?_;refine ak.go [11] ?_;iterate 1 (refine ak.tk q9 ?_; try simp only [qq])
     refine ak.fin ?_;refine aT 12 fun K hK => ?_
     go_simp;obtain ⟨y6, hy6⟩ : ∃ u, u = wp3.alloc (.cells (bU ⟨(b1 : Int), y2, 1, 0, 0, 0, ⟨#[]⟩⟩ (.slice none 0 0)) 49) := ⟨_, rfl⟩
     have X6 := hid (show Below wp3.heap.size wp3 y6 by rw [hy6]; exact ae (Below.refl _ _) _);have N6 := hid (show aN y6 (some ⟨wp3.heap.size, 0, none⟩) 1 1 8 (bU ⟨(b1 : Int), y2, 1, 0, 0, 0, ⟨#[]⟩⟩ (.slice none 0 0)).toList by rw [hy6]; exact jv rfl);rw [← hy6];clear hy6;have D6 := hid (DP3.out.ext X6.out);refine hK.out _ _ (q9.ext X6.out) ?_;clear hK K q9;intro q9;try simp only [qq]
     refine aT 13 fun K hK => ?_
     rw [if_pos (by rfl)];refine oQ V.heap.size p1.aH r.held.length p1.cH (bZ X1.H) (some ⟨wp3.heap.size, 0, none⟩) 1 1 (bU ⟨(b1 : Int), y2, 1, 0, 0, 0, ⟨#[]⟩⟩ (.slice none 0 0)).toList rfl rfl D6.out.h.h.own N6.out (by simp [Value.oneCell']) (by have := LM.out.h; omega) (Nat.le_trans D6.out.up (Nat.le_of_lt D6.out.box.lt)) ?_;intro a7 c7 w7 q1 q2 q3;have G := hid (D6.out.appH HC.out (m := ⟨(b1 : Int), y2, 1, 0, 0, 0, ⟨#[]⟩⟩) q1 q2 q3 (by show (0 : Nat) ≤ 1000; omega));have KH : Sz gy (au r p1) (wp1.heap.size) #[.int .i64 r.num, .int .i64 0, .int .i64 1] 3 w7 := ⟨G.out.box, D6.out.far D6.out.h.h q2 q9.i (by rw [NI.out]; decide)⟩
     clear q1 q2 q3;refine hK.out _ _ KH ?_;clear hK K q9;intro q9;try simp only [qq]
     clear KH;refine ak.go [14] ?_;iterate 1 (refine ak.tk q9 ?_; try simp only [qq])
     refine ak.fin ?_;refine aJ fun K hK => ?_
     have cB := q9.k.cell;have fB := q9.k.free;go_simp;refine hK.out _ _ ?_;clear hK K q9 cB fB;have G2 := hid ((G.out.put HC.out 9 (.slice a7 (r.held.length + 1) c7)).fin (by rw [← (Dt HM1.out)]; rfl));go_wp2_with fail
     go_meet
     case rel => exact ⟨_, _, _, _, _, LM.out.BH HM1.out (by show (0 : Nat) ≤ _; omega), by omega, G2.out⟩
    go_simp;refine (dD wp1 g ca n cap (k + 1 + 1) 3 DP1.out.x.a (by have := HP.out; omega) (by omega) (by omega)).mono ?_;rintro e wp4 ⟨b4, rfl, hb4, hu, ha⟩;have DP4 := hid (DP1.out.rd hu.w ha);have KH : Sy gy (au r p1) wp4 := ⟨DP4.out.box⟩
    clear hu ha DP1;go_wp2_with fail;refine hK.out _ _ KH ?_;clear hK K q9;intro q9;try simp only [qq]
    clear KH;refine aT 6 fun K hK => ?_
    go_simp;obtain ⟨wa5, ca5, hwa, da, ka, ni, gi, cc, ea⟩ := DP4.out.new #[.int .i64 r.num, .int .i64 0, .int .i64 1] 3;rw [← hwa];have DA5 := hid da;have NI := hid ni;have GI := hid gi;refine hK.out _ _ (show Sy gy (au r p1) wa5 from ⟨da.box⟩) (fun hNew => ?_);clear hK K q9 hNew;try simp only [qq]
    refine df (S' := Sz gy (au r p1) (wp4.heap.size) #[.int .i64 r.num, .int .i64 0, .int .i64 1] 3) (fun _ h => ⟨h.k⟩) _ _ _ _ ?_;have q9 : Sz gy (au r p1) (wp4.heap.size) #[.int .i64 r.num, .int .i64 0, .int .i64 1] 3 wa5 := ⟨da.box, ka⟩
    clear hwa da ka ni gi cc ea DP4;obtain ⟨y2, hy2⟩ := i3 r.num 0 1 b4 (by omega);refine ak.go [9] ?_;iterate 1 (refine ak.tk q9 ?_; try simp only [qq])
    refine ak.fin ?_;refine ak.go [10] ?_;iterate 1 (apply ak.take (ax rfl) (by kernel_rfl) (by rfl) (fun _ _ _ h => h) q9; (· intro w9 hSw; have hq := hSw.i.cell; rw [← hq] at hy2; clear hSw; go_simp; try with_reducible rfl); try simp only [qq])
    refine ak.fin ?_;refine ak.go [11] ?_;iterate 1 (refine ak.tk q9 ?_; try simp only [qq])
    refine ak.fin ?_;refine aT 12 fun K hK => ?_
    go_simp;obtain ⟨y6, hy6⟩ : ∃ u, u = wa5.alloc (.cells (bU ⟨(b1 : Int), y2, 1, 0, 0, 0, ⟨#[]⟩⟩ (.slice none 0 0)) 49) := ⟨_, rfl⟩
    have X6 := hid (show Below wa5.heap.size wa5 y6 by rw [hy6]; exact ae (Below.refl _ _) _);have N6 := hid (show aN y6 (some ⟨wa5.heap.size, 0, none⟩) 1 1 8 (bU ⟨(b1 : Int), y2, 1, 0, 0, 0, ⟨#[]⟩⟩ (.slice none 0 0)).toList by rw [hy6]; exact jv rfl);rw [← hy6];clear hy6;have D6 := hid (DA5.out.ext X6.out);refine hK.out _ _ (q9.ext X6.out) ?_;clear hK K q9;intro q9;try simp only [qq]
    refine aT 13 fun K hK => ?_
    rw [if_pos (by rfl)];refine oQ V.heap.size p1.aH r.held.length p1.cH (bZ X1.H) (some ⟨wa5.heap.size, 0, none⟩) 1 1 (bU ⟨(b1 : Int), y2, 1, 0, 0, 0, ⟨#[]⟩⟩ (.slice none 0 0)).toList rfl rfl D6.out.h.h.own N6.out (by simp [Value.oneCell']) (by have := LM.out.h; omega) (Nat.le_trans D6.out.up (Nat.le_of_lt D6.out.box.lt)) ?_;intro a7 c7 w7 q1 q2 q3;have G := hid (D6.out.appH HC.out (m := ⟨(b1 : Int), y2, 1, 0, 0, 0, ⟨#[]⟩⟩) q1 q2 q3 (by show (0 : Nat) ≤ 1000; omega));have KH : Sz gy (au r p1) (wp4.heap.size) #[.int .i64 r.num, .int .i64 0, .int .i64 1] 3 w7 := ⟨G.out.box, D6.out.far D6.out.h.h q2 q9.i (by rw [NI.out]; decide)⟩
    clear q1 q2 q3;refine hK.out _ _ KH ?_;clear hK K q9;intro q9;try simp only [qq]
    clear KH;refine ak.go [14] ?_;iterate 1 (refine ak.tk q9 ?_; try simp only [qq])
    refine ak.fin ?_;refine aJ fun K hK => ?_
    have cB := q9.k.cell;have fB := q9.k.free;go_simp;refine hK.out _ _ ?_;clear hK K q9 cB fB;have G2 := hid ((G.out.put HC.out 9 (.slice a7 (r.held.length + 1) c7)).fin (by rw [← (Dt HM1.out)]; rfl));go_wp2_with fail
    go_meet
    case rel => exact ⟨_, _, _, _, _, LM.out.BH HM1.out (by show (0 : Nat) ≤ _; omega), by omega, G2.out⟩
   go_simp;obtain ⟨wa6, ca6, hwa, da, ka, ni, gi, cc, ea⟩ := D.out.new #[.int .i64 r.num, .int .i64 0, .int .i64 1] 3;rw [← hwa];have DA6 := hid da;have NI := hid ni;have GI := hid gi;refine hK.out _ _ (show Sy gy (au r p1) wa6 from ⟨da.box⟩) (fun hNew => ?_);clear hK K q9 hNew;try simp only [qq]
   refine df (S' := Sz gy (au r p1) (w3.heap.size) #[.int .i64 r.num, .int .i64 0, .int .i64 1] 3) (fun _ h => ⟨h.k⟩) _ _ _ _ ?_;have q9 : Sz gy (au r p1) (w3.heap.size) #[.int .i64 r.num, .int .i64 0, .int .i64 1] 3 wa6 := ⟨da.box, ka⟩
   clear hwa da ka ni gi cc ea D;refine aT 3 fun K hK => ?_
   go_simp;refine (dD wa6 g ca n cap (k + 1) 11 DA6.out.x.a (by have := HP.out; omega) (by omega) (by omega)).mono ?_;rintro e wp7 ⟨b7, rfl, hb7, hu, ha⟩;have DP7 := hid (DA6.out.rd hu.w ha);have KH : Sz gy (au r p1) (w3.heap.size) #[.int .i64 r.num, .int .i64 0, .int .i64 1] 3 wp7 := ⟨DP7.out.box, (hu.block _ (by have := GI.out; omega)).trans q9.i⟩
   clear hu ha DA6;go_wp2_with fail;refine hK.out _ _ KH ?_;clear hK K q9;intro q9;try simp only [qq]
   clear KH;refine aT 8 fun K hK => ?_
   go_simp;refine (dD wp7 g ca n cap (k + 1 + 1) 3 DP7.out.x.a (by have := HP.out; omega) (by omega) (by omega)).mono ?_;rintro e wp8 ⟨b8, rfl, hb8, hu, ha⟩;have DP8 := hid (DP7.out.rd hu.w ha);have KH : Sz gy (au r p1) (w3.heap.size) #[.int .i64 r.num, .int .i64 0, .int .i64 1] 3 wp8 := ⟨DP8.out.box, (hu.block _ (by have := GI.out; omega)).trans q9.i⟩
   clear hu ha DP7;go_wp2_with fail;refine hK.out _ _ KH ?_;clear hK K q9;intro q9;try simp only [qq]
   clear KH;obtain ⟨y2, hy2⟩ := i3 r.num 0 1 b8 (by omega);refine ak.go [9] ?_;iterate 1 (refine ak.tk q9 ?_; try simp only [qq])
   refine ak.fin ?_;refine ak.go [10] ?_;iterate 1 (apply ak.take (ax rfl) (by kernel_rfl) (by rfl) (fun _ _ _ h => h) q9; (· intro w9 hSw; have hq := hSw.i.cell; rw [← hq] at hy2; clear hSw; go_simp; try with_reducible rfl); try simp only [qq])
   refine ak.fin ?_;refine ak.go [11] ?_;iterate 1 (refine ak.tk q9 ?_; try simp only [qq])
   refine ak.fin ?_;refine aT 12 fun K hK => ?_
   go_simp;obtain ⟨y6, hy6⟩ : ∃ u, u = wp8.alloc (.cells (bU ⟨(b7 : Int), y2, 1, 0, 0, 0, ⟨#[]⟩⟩ (.slice none 0 0)) 49) := ⟨_, rfl⟩
   have X6 := hid (show Below wp8.heap.size wp8 y6 by rw [hy6]; exact ae (Below.refl _ _) _);have N6 := hid (show aN y6 (some ⟨wp8.heap.size, 0, none⟩) 1 1 8 (bU ⟨(b7 : Int), y2, 1, 0, 0, 0, ⟨#[]⟩⟩ (.slice none 0 0)).toList by rw [hy6]; exact jv rfl);rw [← hy6];clear hy6;have D6 := hid (DP8.out.ext X6.out);refine hK.out _ _ (q9.ext X6.out) ?_;clear hK K q9;intro q9;try simp only [qq]
   refine aT 13 fun K hK => ?_
   rw [if_pos (by rfl)];refine oQ V.heap.size p1.aH r.held.length p1.cH (bZ X1.H) (some ⟨wp8.heap.size, 0, none⟩) 1 1 (bU ⟨(b7 : Int), y2, 1, 0, 0, 0, ⟨#[]⟩⟩ (.slice none 0 0)).toList rfl rfl D6.out.h.h.own N6.out (by simp [Value.oneCell']) (by have := LM.out.h; omega) (Nat.le_trans D6.out.up (Nat.le_of_lt D6.out.box.lt)) ?_;intro a7 c7 w7 q1 q2 q3;have G := hid (D6.out.appH HC.out (m := ⟨(b7 : Int), y2, 1, 0, 0, 0, ⟨#[]⟩⟩) q1 q2 q3 (by show (0 : Nat) ≤ 1000; omega));have KH : Sz gy (au r p1) (w3.heap.size) #[.int .i64 r.num, .int .i64 0, .int .i64 1] 3 w7 := ⟨G.out.box, D6.out.far D6.out.h.h q2 q9.i (by rw [NI.out]; decide)⟩
   clear q1 q2 q3;refine hK.out _ _ KH ?_;clear hK K q9;intro q9;try simp only [qq]
   clear KH;refine ak.go [14] ?_;iterate 1 (refine ak.tk q9 ?_; try simp only [qq])
   refine ak.fin ?_;refine aJ fun K hK => ?_
   have cB := q9.k.cell;have fB := q9.k.free;go_simp;refine hK.out _ _ ?_;clear hK K q9 cB fB;have G2 := hid ((G.out.put HC.out 9 (.slice a7 (r.held.length + 1) c7)).fin (by rw [← (Dt HM1.out)]; rfl));go_wp2_with fail
   go_meet
   case rel => exact ⟨_, _, _, _, _, LM.out.BH HM1.out (by show (0 : Nat) ≤ _; omega), by omega, G2.out⟩
  ·clear hv;go_wp2_with fail;have hK0 : Sy gy (au r p1) w2 := ⟨D2.out.box⟩
   refine aI (S := Sy gy (au r p1)) 10 (by kernel_rfl) ⟨aC.drew hK0.k⟩ (fun q9 => ?_);simp only [qz, Nat.reduceAdd];obtain ⟨w3, hw3⟩ : ∃ u, u = w2.drew := ⟨_, rfl⟩
   have D := hid (D2.out.ext (show Below w2.heap.size w2 w3 by rw [hw3]; exact (Below.refl _ _).drew));rw [← hw3] at q9 ⊢;clear hw3 hK0 D2;refine ak.go [0, 1, 3] ?_;iterate 3 (refine ak.tk q9 ?_; try simp only [qq])
   refine ak.fin ?_;refine bu (rs := [2, 4]) (by kernel_rfl) (by simp) ?_;refine aK.cons (ax rfl) (fun K hK => ?_) (aK.cons (ax rfl) (fun K hK => ?_) aK.nil)
   ·go_simp;obtain ⟨wa1, ca1, hwa, da, ka, ni, gi, cc, ea⟩ := D.out.new #[.string ⟨#[]⟩, .string ⟨#[116, 49]⟩, .string ⟨#[116, 50]⟩] 9;rw [← hwa];have DA1 := hid da;have NI := hid ni;have GI := hid gi;refine hK.out _ _ (show Sy gy (au r p1) wa1 from ⟨da.box⟩) (fun hNew => ?_);clear hK K q9 hNew;try simp only [qq]
    refine df (S' := Sz gy (au r p1) (w3.heap.size) #[.string ⟨#[]⟩, .string ⟨#[116, 49]⟩, .string ⟨#[116, 50]⟩] 9) (fun _ h => ⟨h.k⟩) _ _ _ _ ?_;have q9 : Sz gy (au r p1) (w3.heap.size) #[.string ⟨#[]⟩, .string ⟨#[116, 49]⟩, .string ⟨#[116, 50]⟩] 9 wa1 := ⟨da.box, ka⟩
    clear hwa da ka ni gi cc ea D;refine aT 4 fun K hK => ?_
    go_simp;refine (dD wa1 g ca n cap (k + 1) 3 DA1.out.x.a (by have := HP.out; omega) (by omega) (by omega)).mono ?_;rintro e wp2 ⟨b2, rfl, hb2, hu, ha⟩;have DP2 := hid (DA1.out.rd hu.w ha);have KH : Sz gy (au r p1) (w3.heap.size) #[.string ⟨#[]⟩, .string ⟨#[116, 49]⟩, .string ⟨#[116, 50]⟩] 9 wp2 := ⟨DP2.out.box, (hu.block _ (by have := GI.out; omega)).trans q9.i⟩
    clear hu ha DA1;go_wp2_with fail;refine hK.out _ _ KH ?_;clear hK K q9;intro q9;try simp only [qq]
    clear KH;obtain ⟨y2, hy2, y20⟩ := t3 b2 (by omega);refine ak.go [5] ?_;iterate 1 (refine ak.tk q9 ?_; try simp only [qq])
    refine ak.fin ?_;refine ak.go [6] ?_;iterate 1 (apply ak.take (ax rfl) (by kernel_rfl) (by rfl) (fun _ _ _ h => h) q9; (· intro w9 hSw; have hq := hSw.i.cell; rw [← hq] at hy2; clear hSw; go_simp; try with_reducible rfl); try simp only [qq])
    refine ak.fin ?_;refine aT 7 fun K hK => ?_
    go_simp;obtain ⟨y6, hy6⟩ : ∃ u, u = wp2.alloc (.cells #[Value.string y2] 9) := ⟨_, rfl⟩
    have X6 := hid (show Below wp2.heap.size wp2 y6 by rw [hy6]; exact ae (Below.refl _ _) _);have N6 := hid (show aN y6 (some ⟨wp2.heap.size, 0, none⟩) 1 1 1 #[Value.string y2].toList by rw [hy6]; exact jv rfl);rw [← hy6];clear hy6;have D6 := hid (DP2.out.ext X6.out);refine hK.out _ _ (q9.ext X6.out) ?_;clear hK K q9;intro q9;try simp only [qq]
    refine aT 8 fun K hK => ?_
    rw [if_pos (by rfl)];refine vU V.heap.size p1.aW r.wish.length p1.cW (fH r.wish) (some ⟨wp2.heap.size, 0, none⟩) 1 1 #[Value.string y2].toList rfl rfl D6.out.h.t.own N6.out (by simp [Value.oneCell']) (by have := LM.out.t; omega) (Nat.le_trans D6.out.up (Nat.le_of_lt D6.out.box.lt)) ?_;intro a7 c7 w7 q1 q2 q3;have G := hid (D6.out.MM HC.out (u := y2) q1 q2 q3 y20);have KH : Sz gy (au r p1) (w3.heap.size) #[.string ⟨#[]⟩, .string ⟨#[116, 49]⟩, .string ⟨#[116, 50]⟩] 9 w7 := ⟨G.out.box, D6.out.far D6.out.h.t q2 q9.i (by rw [NI.out]; decide)⟩
    clear q1 q2 q3;refine hK.out _ _ KH ?_;clear hK K q9;intro q9;try simp only [qq]
    clear KH;refine ak.go [9] ?_;iterate 1 (refine ak.tk q9 ?_; try simp only [qq])
    refine ak.fin ?_;refine aJ fun K hK => ?_
    have cB := q9.k.cell;have fB := q9.k.free;go_simp;refine hK.out _ _ ?_;clear hK K q9 cB fB;have G2 := hid ((G.out.put HC.out 10 (.slice a7 (r.wish.length + 1) c7)).fin (by rw [← (show (r.wish ++ [y2]).length = r.wish.length + 1 from List.length_append)]; rfl));go_wp2_with fail
    go_meet
    case rel => exact ⟨_, _, _, _, _, LM.out.small _ (e4 := by simp), by omega, G2.out⟩
   go_simp;refine (dD w3 g ca n cap (k + 1) 3 D.out.x.a (by have := HP.out; omega) (by omega) (by omega)).mono ?_;rintro e wp3 ⟨b3, rfl, hb3, hu, ha⟩;have DP3 := hid (D.out.rd hu.w ha);have KH : Sy gy (au r p1) wp3 := ⟨DP3.out.box⟩
   clear hu ha D;go_wp2_with fail;refine hK.out _ _ KH ?_;clear hK K q9;intro q9;try simp only [qq]
   clear KH;refine aT 2 fun K hK => ?_
   go_simp;obtain ⟨wa4, ca4, hwa, da, ka, ni, gi, cc, ea⟩ := DP3.out.new #[.string ⟨#[]⟩, .string ⟨#[116, 49]⟩, .string ⟨#[116, 50]⟩] 9;rw [← hwa];have DA4 := hid da;have NI := hid ni;have GI := hid gi;refine hK.out _ _ (show Sy gy (au r p1) wa4 from ⟨da.box⟩) (fun hNew => ?_);clear hK K q9 hNew;try simp only [qq]
   refine df (S' := Sz gy (au r p1) (wp3.heap.size) #[.string ⟨#[]⟩, .string ⟨#[116, 49]⟩, .string ⟨#[116, 50]⟩] 9) (fun _ h => ⟨h.k⟩) _ _ _ _ ?_;have q9 : Sz gy (au r p1) (wp3.heap.size) #[.string ⟨#[]⟩, .string ⟨#[116, 49]⟩, .string ⟨#[116, 50]⟩] 9 wa4 := ⟨da.box, ka⟩
   clear hwa da ka ni gi cc ea DP3;obtain ⟨y2, hy2, y20⟩ := t3 b3 (by omega);refine ak.go [5] ?_;iterate 1 (refine ak.tk q9 ?_; try simp only [qq])
   refine ak.fin ?_;refine ak.go [6] ?_;iterate 1 (apply ak.take (ax rfl) (by kernel_rfl) (by rfl) (fun _ _ _ h => h) q9; (· intro w9 hSw; have hq := hSw.i.cell; rw [← hq] at hy2; clear hSw; go_simp; try with_reducible rfl); try simp only [qq])
   refine ak.fin ?_;refine aT 7 fun K hK => ?_
   go_simp;obtain ⟨y6, hy6⟩ : ∃ u, u = wa4.alloc (.cells #[Value.string y2] 9) := ⟨_, rfl⟩
   have X6 := hid (show Below wa4.heap.size wa4 y6 by rw [hy6]; exact ae (Below.refl _ _) _);have N6 := hid (show aN y6 (some ⟨wa4.heap.size, 0, none⟩) 1 1 1 #[Value.string y2].toList by rw [hy6]; exact jv rfl);rw [← hy6];clear hy6;have D6 := hid (DA4.out.ext X6.out);refine hK.out _ _ (q9.ext X6.out) ?_;clear hK K q9;intro q9;try simp only [qq]
   refine aT 8 fun K hK => ?_
   rw [if_pos (by rfl)];refine vU V.heap.size p1.aW r.wish.length p1.cW (fH r.wish) (some ⟨wa4.heap.size, 0, none⟩) 1 1 #[Value.string y2].toList rfl rfl D6.out.h.t.own N6.out (by simp [Value.oneCell']) (by have := LM.out.t; omega) (Nat.le_trans D6.out.up (Nat.le_of_lt D6.out.box.lt)) ?_;intro a7 c7 w7 q1 q2 q3;have G := hid (D6.out.MM HC.out (u := y2) q1 q2 q3 y20);have KH : Sz gy (au r p1) (wp3.heap.size) #[.string ⟨#[]⟩, .string ⟨#[116, 49]⟩, .string ⟨#[116, 50]⟩] 9 w7 := ⟨G.out.box, D6.out.far D6.out.h.t q2 q9.i (by rw [NI.out]; decide)⟩
   clear q1 q2 q3;refine hK.out _ _ KH ?_;clear hK K q9;intro q9;try simp only [qq]
   clear KH;refine ak.go [9] ?_;iterate 1 (refine ak.tk q9 ?_; try simp only [qq])
   refine ak.fin ?_;refine aJ fun K hK => ?_
   have cB := q9.k.cell;have fB := q9.k.free;go_simp;refine hK.out _ _ ?_;clear hK K q9 cB fB;have G2 := hid ((G.out.put HC.out 10 (.slice a7 (r.wish.length + 1) c7)).fin (by rw [← (show (r.wish ++ [y2]).length = r.wish.length + 1 from List.length_append)]; rfl));go_wp2_with fail
   go_meet
   case rel => exact ⟨_, _, _, _, _, LM.out.small _ (e4 := by simp), by omega, G2.out⟩
  ·clear hv;have cB := D2.out.box.cell;have fB := D2.out.box.free;have G := hid (D2.out.put HC.out 11 (.bool (!r.lead)));have G2 := hid ((G.out.to (r' := { r with lead := !r.lead }) (G.out.h.like rfl rfl rfl rfl rfl rfl rfl) G.out.c9).as (show _ = au { r with lead := !r.lead } p1 by rfl));go_wp2_with fail
   go_meet
   case rel => exact ⟨{ r with lead := !r.lead }, p1, X1, c1, _, LM.out.small { r with lead := !r.lead }, by omega, G2.out⟩
  ·clear hv;have cB := D2.out.box.cell;have fB := D2.out.box.free;have G := hid (D2.out.put HC.out 12 (.bool (!r.tr)));have G2 := hid ((G.out.to (r' := { r with tr := !r.tr }) (G.out.h.like rfl rfl rfl rfl rfl rfl rfl) G.out.c9).as (show _ = au { r with tr := !r.tr } p1 by rfl));go_wp2_with fail
   go_meet
   case rel => exact ⟨{ r with tr := !r.tr }, p1, X1, c1, _, LM.out.small { r with tr := !r.tr }, by omega, G2.out⟩
  ·clear hv;go_wp2_with fail;have hK0 : Sy gy (au r p1) w2 := ⟨D2.out.box⟩
   refine aI (S := Sy gy (au r p1)) 13 (by kernel_rfl) ⟨aC.drew hK0.k⟩ (fun q9 => ?_);simp only [qz, Nat.reduceAdd];obtain ⟨w3, hw3⟩ : ∃ u, u = w2.drew := ⟨_, rfl⟩
   have D := hid (D2.out.ext (show Below w2.heap.size w2 w3 by rw [hw3]; exact (Below.refl _ _).drew));rw [← hw3] at q9 ⊢;clear hw3 hK0 D2;refine ak.go [0, 1, 2, 3, 4, 5] ?_;iterate 6 (refine ak.tk q9 ?_; try simp only [qq])
   refine ak.fin ?_;have e6 : IntKind.i64.wrap (r.dp + 1) = r.dp + 1 := by have := HD.out; go_arith
   refine ak.go [6] ?_;iterate 1 (refine ak.tk q9 ?_; try simp only [qq])
   refine ak.fin ?_;clear e6;refine ak.go [8] ?_;iterate 1 (refine ak.tk q9 ?_; try simp only [qq])
   refine ak.fin ?_;refine bu (rs := [7, 9]) (by kernel_rfl) (by simp) ?_;refine aK.cons (ax rfl) (fun K hK => ?_) (aK.cons (ax rfl) (fun K hK => ?_) aK.nil)
   ·go_simp;obtain ⟨wa1, ca1, hwa, da, ka, ni, gi, cc, ea⟩ := D.out.new #[.int .i64 0, .int .i64 r.dp, .int .i64 (r.dp + 1)] 3;rw [← hwa];have DA1 := hid da;have NI := hid ni;have GI := hid gi;refine hK.out _ _ (show Sy gy (au r p1) wa1 from ⟨da.box⟩) (fun hNew => ?_);clear hK K q9 hNew;try simp only [qq]
    refine df (S' := Sz gy (au r p1) (w3.heap.size) #[.int .i64 0, .int .i64 r.dp, .int .i64 (r.dp + 1)] 3) (fun _ h => ⟨h.k⟩) _ _ _ _ ?_;have q9 : Sz gy (au r p1) (w3.heap.size) #[.int .i64 0, .int .i64 r.dp, .int .i64 (r.dp + 1)] 3 wa1 := ⟨da.box, ka⟩
    clear hwa da ka ni gi cc ea D;refine aT 9 fun K hK => ?_
    go_simp;refine (dD wa1 g ca n cap (k + 1) 3 DA1.out.x.a (by have := HP.out; omega) (by omega) (by omega)).mono ?_;rintro e wp2 ⟨b2, rfl, hb2, hu, ha⟩;have DP2 := hid (DA1.out.rd hu.w ha);have KH : Sz gy (au r p1) (w3.heap.size) #[.int .i64 0, .int .i64 r.dp, .int .i64 (r.dp + 1)] 3 wp2 := ⟨DP2.out.box, (hu.block _ (by have := GI.out; omega)).trans q9.i⟩
    clear hu ha DA1;go_wp2_with fail;refine hK.out _ _ KH ?_;clear hK K q9;intro q9;try simp only [qq]
    clear KH;obtain ⟨y2, hy2⟩ := i3 0 r.dp (r.dp + 1) b2 (by omega);refine ak.go [10] ?_;iterate 1 (refine ak.tk q9 ?_; try simp only [qq])
    refine ak.fin ?_;refine ak.go [11] ?_;iterate 1 (apply ak.take (ax rfl) (by kernel_rfl) (by rfl) (fun _ _ _ h => h) q9; (· intro w9 hSw; have hq := hSw.i.cell; rw [← hq] at hy2; clear hSw; go_simp; try with_reducible rfl); try simp only [qq])
    refine ak.fin ?_;refine ak.go [12] ?_;iterate 1 (refine ak.tk q9 ?_; try simp only [qq])
    refine ak.fin ?_;refine aJ fun K hK => ?_
    have cB := q9.k.cell;have fB := q9.k.free;go_simp;refine hK.out _ _ ?_;clear hK K q9 cB fB;have G2 := hid (((DP2.out.put HC.out 13 (.int .i64 y2)).to (r' := { r with ball := y2 }) ((DP2.out.put HC.out 13 (.int .i64 y2)).h.like rfl rfl rfl rfl rfl rfl rfl) DP2.out.c9).as (show _ = au { r with ball := y2 } p1 by rfl));go_wp2_with fail
    go_meet
    case rel => exact ⟨{ r with ball := y2 }, p1, X1, ca1, _, LM.out.small { r with ball := y2 }, by omega, G2.out⟩
   go_simp;refine (dD w3 g ca n cap (k + 1) 3 D.out.x.a (by have := HP.out; omega) (by omega) (by omega)).mono ?_;rintro e wp3 ⟨b3, rfl, hb3, hu, ha⟩;have DP3 := hid (D.out.rd hu.w ha);have KH : Sy gy (au r p1) wp3 := ⟨DP3.out.box⟩
   clear hu ha D;go_wp2_with fail;refine hK.out _ _ KH ?_;clear hK K q9;intro q9;try simp only [qq]
   clear KH;refine aT 7 fun K hK => ?_
   go_simp;obtain ⟨wa4, ca4, hwa, da, ka, ni, gi, cc, ea⟩ := DP3.out.new #[.int .i64 0, .int .i64 r.dp, .int .i64 (r.dp + 1)] 3;rw [← hwa];have DA4 := hid da;have NI := hid ni;have GI := hid gi;refine hK.out _ _ (show Sy gy (au r p1) wa4 from ⟨da.box⟩) (fun hNew => ?_);clear hK K q9 hNew;try simp only [qq]
   refine df (S' := Sz gy (au r p1) (wp3.heap.size) #[.int .i64 0, .int .i64 r.dp, .int .i64 (r.dp + 1)] 3) (fun _ h => ⟨h.k⟩) _ _ _ _ ?_;have q9 : Sz gy (au r p1) (wp3.heap.size) #[.int .i64 0, .int .i64 r.dp, .int .i64 (r.dp + 1)] 3 wa4 := ⟨da.box, ka⟩
   clear hwa da ka ni gi cc ea DP3;obtain ⟨y2, hy2⟩ := i3 0 r.dp (r.dp + 1) b3 (by omega);refine ak.go [10] ?_;iterate 1 (refine ak.tk q9 ?_; try simp only [qq])
   refine ak.fin ?_;refine ak.go [11] ?_;iterate 1 (apply ak.take (ax rfl) (by kernel_rfl) (by rfl) (fun _ _ _ h => h) q9; (· intro w9 hSw; have hq := hSw.i.cell; rw [← hq] at hy2; clear hSw; go_simp; try with_reducible rfl); try simp only [qq])
   refine ak.fin ?_;refine ak.go [12] ?_;iterate 1 (refine ak.tk q9 ?_; try simp only [qq])
   refine ak.fin ?_;refine aJ fun K hK => ?_
   have cB := q9.k.cell;have fB := q9.k.free;go_simp;refine hK.out _ _ ?_;clear hK K q9 cB fB;have G2 := hid (((DA4.out.put HC.out 13 (.int .i64 y2)).to (r' := { r with ball := y2 }) ((DA4.out.put HC.out 13 (.int .i64 y2)).h.like rfl rfl rfl rfl rfl rfl rfl) DA4.out.c9).as (show _ = au { r with ball := y2 } p1 by rfl));go_wp2_with fail
   go_meet
   case rel => exact ⟨{ r with ball := y2 }, p1, X1, ca4, _, LM.out.small { r with ball := y2 }, by omega, G2.out⟩
  ·clear hv;go_wp2_with fail;have hK0 : Sy gy (au r p1) w2 := ⟨D2.out.box⟩
   refine aI (S := Sy gy (au r p1)) 7 (by kernel_rfl) ⟨aC.drew hK0.k⟩ (fun q9 => ?_);simp only [qz, Nat.reduceAdd];obtain ⟨w3, hw3⟩ : ∃ u, u = w2.drew := ⟨_, rfl⟩
   have D := hid (D2.out.ext (show Below w2.heap.size w2 w3 by rw [hw3]; exact (Below.refl _ _).drew));rw [← hw3] at q9 ⊢;clear hw3 hK0 D2;refine ak.go [0, 1, 2] ?_;iterate 3 (refine ak.tk q9 ?_; try simp only [qq])
   refine ak.fin ?_;refine aT 3 fun K hK => ?_
   go_simp;refine (dD w3 g ca n cap (k + 1) 7 D.out.x.a (by have := HP.out; omega) (by omega) (by omega)).mono ?_;rintro e wp1 ⟨b1, rfl, hb1, hu, ha⟩;have DP1 := hid (D.out.rd hu.w ha);have KH : Sy gy (au r p1) wp1 := ⟨DP1.out.box⟩
   clear hu ha D;go_wp2_with fail;refine hK.out _ _ KH ?_;clear hK K q9;intro q9;try simp only [qq]
   clear KH;refine aT 4 fun K hK => ?_
   go_simp;obtain ⟨y6, hy6⟩ : ∃ u, u = wp1.alloc (.cells #[Value.int .i64 (b1 : Int)] 3) := ⟨_, rfl⟩
   have X6 := hid (show Below wp1.heap.size wp1 y6 by rw [hy6]; exact ae (Below.refl _ _) _);have N6 := hid (show aN y6 (some ⟨wp1.heap.size, 0, none⟩) 1 1 1 #[Value.int .i64 (b1 : Int)].toList by rw [hy6]; exact jv rfl);rw [← hy6];clear hy6;have D6 := hid (DP1.out.ext X6.out);refine hK.out _ _ (q9.ext X6.out) ?_;clear hK K q9;intro q9;try simp only [qq]
   refine aT 5 fun K hK => ?_
   rw [if_pos (by rfl)];refine gu V.heap.size p1.aY r.yes.length p1.cY (aV r.yes) (some ⟨wp1.heap.size, 0, none⟩) 1 1 #[Value.int .i64 (b1 : Int)].toList rfl rfl D6.out.h.y.own N6.out (by simp [Value.oneCell']) (by have := LM.out.y; omega) (Nat.le_trans D6.out.up (Nat.le_of_lt D6.out.box.lt)) ?_;intro a7 c7 w7 q1 q2 q3;have G := hid (D6.out.Nl HC.out (u := (b1 : Int)) q1 q2 q3 (by omega) (by omega));have KH : Sy gy (au r p1) w7 := ⟨G.out.box⟩
   clear q1 q2 q3;refine hK.out _ _ KH ?_;clear hK K q9;intro q9;try simp only [qq]
   clear KH;refine ak.go [6] ?_;iterate 1 (refine ak.tk q9 ?_; try simp only [qq])
   refine ak.fin ?_;refine aJ fun K hK => ?_
   have cB := q9.k.cell;have fB := q9.k.free;go_simp;refine hK.out _ _ ?_;clear hK K q9 cB fB;have G2 := hid ((G.out.put HC.out 14 (.slice a7 (r.yes.length + 1) c7)).fin (by rw [← (show (r.yes ++ [(b1 : Int)]).length = r.yes.length + 1 from List.length_append)]; rfl));go_wp2_with fail
   go_meet
   case rel => exact ⟨_, _, _, _, _, LM.out.small _ (e5 := by simp), by omega, G2.out⟩
  ·clear hv;go_wp2_with fail;have hK0 : Sy gy (au r p1) w2 := ⟨D2.out.box⟩
   refine aI (S := Sy gy (au r p1)) 14 (by kernel_rfl) ⟨aC.drew hK0.k⟩ (fun q9 => ?_);simp only [qz, Nat.reduceAdd];obtain ⟨w3, hw3⟩ : ∃ u, u = w2.drew := ⟨_, rfl⟩
   have D := hid (D2.out.ext (show Below w2.heap.size w2 w3 by rw [hw3]; exact (Below.refl _ _).drew));rw [← hw3] at q9 ⊢;clear hw3 hK0 D2;refine ak.go [0, 1, 3, 7] ?_;iterate 4 (refine ak.tk q9 ?_; try simp only [qq])
   refine ak.fin ?_;refine bu (rs := [2, 4]) (by kernel_rfl) (by simp) ?_;refine aK.cons (ax rfl) (fun K hK => ?_) (aK.cons (ax rfl) (fun K hK => ?_) aK.nil)
   ·go_simp;obtain ⟨wa1, ca1, hwa, da, ka, ni, gi, cc, ea⟩ := D.out.new #[.int .i64 0, .int .i64 1, .int .i64 60, .int .i64 61] 3;rw [← hwa];have DA1 := hid da;have NI := hid ni;have GI := hid gi;refine hK.out _ _ (show Sy gy (au r p1) wa1 from ⟨da.box⟩) (fun hNew => ?_);clear hK K q9 hNew;try simp only [qq]
    refine df (S' := Sz gy (au r p1) (w3.heap.size) #[.int .i64 0, .int .i64 1, .int .i64 60, .int .i64 61] 3) (fun _ h => ⟨h.k⟩) _ _ _ _ ?_;have q9 : Sz gy (au r p1) (w3.heap.size) #[.int .i64 0, .int .i64 1, .int .i64 60, .int .i64 61] 3 wa1 := ⟨da.box, ka⟩
    clear hwa da ka ni gi cc ea D;refine aT 4 fun K hK => ?_
    go_simp;refine (dD wa1 g ca n cap (k + 1) 4 DA1.out.x.a (by have := HP.out; omega) (by omega) (by omega)).mono ?_;rintro e wp2 ⟨b2, rfl, hb2, hu, ha⟩;have DP2 := hid (DA1.out.rd hu.w ha);have KH : Sz gy (au r p1) (w3.heap.size) #[.int .i64 0, .int .i64 1, .int .i64 60, .int .i64 61] 3 wp2 := ⟨DP2.out.box, (hu.block _ (by have := GI.out; omega)).trans q9.i⟩
    clear hu ha DA1;go_wp2_with fail;refine hK.out _ _ KH ?_;clear hK K q9;intro q9;try simp only [qq]
    clear KH;obtain ⟨y2, hy2, y20⟩ := i4 0 1 60 61 b2 (by omega);refine ak.go [5] ?_;iterate 1 (refine ak.tk q9 ?_; try simp only [qq])
    refine ak.fin ?_;refine ak.go [6] ?_;iterate 1 (apply ak.take (ax rfl) (by kernel_rfl) (by rfl) (fun _ _ _ h => h) q9; (· intro w9 hSw; have hq := hSw.i.cell; rw [← hq] at hy2; clear hSw; go_simp; try with_reducible rfl); try simp only [qq])
    refine ak.fin ?_;refine aT 8 fun K hK => ?_
    go_simp;refine (dD wp2 g ca n cap (k + 1 + 1) 6 DP2.out.x.a (by have := HP.out; omega) (by omega) (by omega)).mono ?_;rintro e wp3 ⟨b3, rfl, hb3, hu, ha⟩;have DP3 := hid (DP2.out.rd hu.w ha);have KH : Sz gy (au r p1) (w3.heap.size) #[.int .i64 0, .int .i64 1, .int .i64 60, .int .i64 61] 3 wp3 := ⟨DP3.out.box, (hu.block _ (by have := GI.out; omega)).trans q9.i⟩
    clear hu ha DP2;go_wp2_with fail;refine hK.out _ _ KH ?_;clear hK K q9;intro q9;try simp only [qq]
    clear KH;refine aT 9 fun K hK => ?_
    go_simp;obtain ⟨wa4, ca4, hwa, da, ka, ni, gi, cc, ea⟩ := DP3.out.new #[.int .i64 (b3 : Int)] 3;rw [← hwa];have DA4 := hid da;have KF4 := hid ka;have NF4 := hid ni;have LF := hid (show V.heap.size ≤ wp3.heap.size from Nat.le_trans DP3.out.up (Nat.le_of_lt DP3.out.box.lt));have NEF := hid (show wp3.heap.size ≠ gy by have := DP3.out.box.lt; omega);have NI := hid ((cc _ q9.i.lt).trans NI.out);have NEI := hid (show wp3.heap.size ≠ w3.heap.size by have := q9.i.lt; omega);have KH := q9.ext ea;clear hwa da ka ni gi cc ea DP3;refine hK.out _ _ KH ?_;clear hK K q9;intro q9;try simp only [qq]
    clear KH;refine ak.go [10] ?_;iterate 1 (refine ak.tk q9 ?_; try simp only [qq])
    refine ak.fin ?_;refine aT 11 fun K hK => ?_
    go_simp;obtain ⟨y6, hy6⟩ : ∃ u, u = wa4.alloc (.cells #[Value.int .i64 y2, Value.slice (some ⟨wp3.heap.size, 0, none⟩) 1 1] 69) := ⟨_, rfl⟩
    have X6 := hid (show Below wa4.heap.size wa4 y6 by rw [hy6]; exact ae (Below.refl _ _) _);have N6 := hid (show aN y6 (some ⟨wa4.heap.size, 0, none⟩) 1 1 2 #[Value.int .i64 y2, Value.slice (some ⟨wp3.heap.size, 0, none⟩) 1 1].toList by rw [hy6]; exact jv rfl);rw [← hy6];clear hy6;have D6 := hid (DA4.out.ext X6.out);refine hK.out _ _ (q9.ext X6.out) ?_;clear hK K q9;intro q9;try simp only [qq]
    refine aT 12 fun K hK => ?_
    rw [if_pos (by rfl)];refine fF V.heap.size p1.aA r.acks.length p1.cA (bi X1.A) (some ⟨wa4.heap.size, 0, none⟩) 1 1 #[Value.int .i64 y2, Value.slice (some ⟨wp3.heap.size, 0, none⟩) 1 1].toList rfl rfl D6.out.h.a.own N6.out (by simp [Value.oneCell']) (by have := LM.out.a; omega) (Nat.le_trans D6.out.up (Nat.le_of_lt D6.out.box.lt)) ?_;intro a7 c7 w7 q1 q2 q3;have G := hid (D6.out.I4 HC.out (u := y2) (v := (b3 : Int)) (f := wp3.heap.size) (KF4.out.ext X6.out) LF.out NF4.out NEF.out q1 q2 q3 (by omega) (by omega) (by omega) (by omega));have KH : Sz gy (au r p1) (w3.heap.size) #[.int .i64 0, .int .i64 1, .int .i64 60, .int .i64 61] 3 w7 := ⟨G.out.box, D6.out.far D6.out.h.a q2 q9.i (by rw [NI.out]; decide)⟩
    clear q1 q2 q3;refine hK.out _ _ KH ?_;clear hK K q9;intro q9;try simp only [qq]
    clear KH;refine ak.go [13] ?_;iterate 1 (refine ak.tk q9 ?_; try simp only [qq])
    refine ak.fin ?_;refine aJ fun K hK => ?_
    have cB := q9.k.cell;have fB := q9.k.free;go_simp;refine hK.out _ _ ?_;clear hK K q9 cB fB;have G2 := hid ((G.out.put HC.out 16 (.slice a7 (r.acks.length + 1) c7)).fin (by rw [← (AZ AM1.out)]; rfl));go_wp2_with fail
    go_meet
    case rel => exact ⟨_, _, _, _, _, LM.out.zG AM1.out (by show (1 : Nat) ≤ _; omega), by omega, G2.out⟩
   go_simp;refine (dD w3 g ca n cap (k + 1) 4 D.out.x.a (by have := HP.out; omega) (by omega) (by omega)).mono ?_;rintro e wp5 ⟨b5, rfl, hb5, hu, ha⟩;have DP5 := hid (D.out.rd hu.w ha);have KH : Sy gy (au r p1) wp5 := ⟨DP5.out.box⟩
   clear hu ha D;go_wp2_with fail;refine hK.out _ _ KH ?_;clear hK K q9;intro q9;try simp only [qq]
   clear KH;refine bu (rs := [2, 8]) (by kernel_rfl) (by simp) ?_;refine aK.cons (ax rfl) (fun K hK => ?_) (aK.cons (ax rfl) (fun K hK => ?_) aK.nil)
   ·go_simp;obtain ⟨wa6, ca6, hwa, da, ka, ni, gi, cc, ea⟩ := DP5.out.new #[.int .i64 0, .int .i64 1, .int .i64 60, .int .i64 61] 3;rw [← hwa];have DA6 := hid da;have NI := hid ni;have GI := hid gi;refine hK.out _ _ (show Sy gy (au r p1) wa6 from ⟨da.box⟩) (fun hNew => ?_);clear hK K q9 hNew;try simp only [qq]
    refine df (S' := Sz gy (au r p1) (wp5.heap.size) #[.int .i64 0, .int .i64 1, .int .i64 60, .int .i64 61] 3) (fun _ h => ⟨h.k⟩) _ _ _ _ ?_;have q9 : Sz gy (au r p1) (wp5.heap.size) #[.int .i64 0, .int .i64 1, .int .i64 60, .int .i64 61] 3 wa6 := ⟨da.box, ka⟩
    clear hwa da ka ni gi cc ea DP5;obtain ⟨y2, hy2, y20⟩ := i4 0 1 60 61 b5 (by omega);refine ak.go [5] ?_;iterate 1 (refine ak.tk q9 ?_; try simp only [qq])
    refine ak.fin ?_;refine ak.go [6] ?_;iterate 1 (apply ak.take (ax rfl) (by kernel_rfl) (by rfl) (fun _ _ _ h => h) q9; (· intro w9 hSw; have hq := hSw.i.cell; rw [← hq] at hy2; clear hSw; go_simp; try with_reducible rfl); try simp only [qq])
    refine ak.fin ?_;refine aT 8 fun K hK => ?_
    go_simp;refine (dD wa6 g ca n cap (k + 1 + 1) 6 DA6.out.x.a (by have := HP.out; omega) (by omega) (by omega)).mono ?_;rintro e wp7 ⟨b7, rfl, hb7, hu, ha⟩;have DP7 := hid (DA6.out.rd hu.w ha);have KH : Sz gy (au r p1) (wp5.heap.size) #[.int .i64 0, .int .i64 1, .int .i64 60, .int .i64 61] 3 wp7 := ⟨DP7.out.box, (hu.block _ (by have := GI.out; omega)).trans q9.i⟩
    clear hu ha DA6;go_wp2_with fail;refine hK.out _ _ KH ?_;clear hK K q9;intro q9;try simp only [qq]
    clear KH;refine aT 9 fun K hK => ?_
    go_simp;obtain ⟨wa8, ca8, hwa, da, ka, ni, gi, cc, ea⟩ := DP7.out.new #[.int .i64 (b7 : Int)] 3;rw [← hwa];have DA8 := hid da;have KF8 := hid ka;have NF8 := hid ni;have LF := hid (show V.heap.size ≤ wp7.heap.size from Nat.le_trans DP7.out.up (Nat.le_of_lt DP7.out.box.lt));have NEF := hid (show wp7.heap.size ≠ gy by have := DP7.out.box.lt; omega);have NI := hid ((cc _ q9.i.lt).trans NI.out);have NEI := hid (show wp7.heap.size ≠ wp5.heap.size by have := q9.i.lt; omega);have KH := q9.ext ea;clear hwa da ka ni gi cc ea DP7;refine hK.out _ _ KH ?_;clear hK K q9;intro q9;try simp only [qq]
    clear KH;refine ak.go [10] ?_;iterate 1 (refine ak.tk q9 ?_; try simp only [qq])
    refine ak.fin ?_;refine aT 11 fun K hK => ?_
    go_simp;obtain ⟨y6, hy6⟩ : ∃ u, u = wa8.alloc (.cells #[Value.int .i64 y2, Value.slice (some ⟨wp7.heap.size, 0, none⟩) 1 1] 69) := ⟨_, rfl⟩
    have X6 := hid (show Below wa8.heap.size wa8 y6 by rw [hy6]; exact ae (Below.refl _ _) _);have N6 := hid (show aN y6 (some ⟨wa8.heap.size, 0, none⟩) 1 1 2 #[Value.int .i64 y2, Value.slice (some ⟨wp7.heap.size, 0, none⟩) 1 1].toList by rw [hy6]; exact jv rfl);rw [← hy6];clear hy6;have D6 := hid (DA8.out.ext X6.out);refine hK.out _ _ (q9.ext X6.out) ?_;clear hK K q9;intro q9;try simp only [qq]
    refine aT 12 fun K hK => ?_
    rw [if_pos (by rfl)];refine fF V.heap.size p1.aA r.acks.length p1.cA (bi X1.A) (some ⟨wa8.heap.size, 0, none⟩) 1 1 #[Value.int .i64 y2, Value.slice (some ⟨wp7.heap.size, 0, none⟩) 1 1].toList rfl rfl D6.out.h.a.own N6.out (by simp [Value.oneCell']) (by have := LM.out.a; omega) (Nat.le_trans D6.out.up (Nat.le_of_lt D6.out.box.lt)) ?_;intro a7 c7 w7 q1 q2 q3;have G := hid (D6.out.I4 HC.out (u := y2) (v := (b7 : Int)) (f := wp7.heap.size) (KF8.out.ext X6.out) LF.out NF8.out NEF.out q1 q2 q3 (by omega) (by omega) (by omega) (by omega));have KH : Sz gy (au r p1) (wp5.heap.size) #[.int .i64 0, .int .i64 1, .int .i64 60, .int .i64 61] 3 w7 := ⟨G.out.box, D6.out.far D6.out.h.a q2 q9.i (by rw [NI.out]; decide)⟩
    clear q1 q2 q3;refine hK.out _ _ KH ?_;clear hK K q9;intro q9;try simp only [qq]
    clear KH;refine ak.go [13] ?_;iterate 1 (refine ak.tk q9 ?_; try simp only [qq])
    refine ak.fin ?_;refine aJ fun K hK => ?_
    have cB := q9.k.cell;have fB := q9.k.free;go_simp;refine hK.out _ _ ?_;clear hK K q9 cB fB;have G2 := hid ((G.out.put HC.out 16 (.slice a7 (r.acks.length + 1) c7)).fin (by rw [← (AZ AM1.out)]; rfl));go_wp2_with fail
    go_meet
    case rel => exact ⟨_, _, _, _, _, LM.out.zG AM1.out (by show (1 : Nat) ≤ _; omega), by omega, G2.out⟩
   go_simp;refine (dD wp5 g ca n cap (k + 1 + 1) 6 DP5.out.x.a (by have := HP.out; omega) (by omega) (by omega)).mono ?_;rintro e wp9 ⟨b9, rfl, hb9, hu, ha⟩;have DP9 := hid (DP5.out.rd hu.w ha);have KH : Sy gy (au r p1) wp9 := ⟨DP9.out.box⟩
   clear hu ha DP5;go_wp2_with fail;refine hK.out _ _ KH ?_;clear hK K q9;intro q9;try simp only [qq]
   clear KH;refine bu (rs := [2, 9]) (by kernel_rfl) (by simp) ?_;refine aK.cons (ax rfl) (fun K hK => ?_) (aK.cons (ax rfl) (fun K hK => ?_) aK.nil)
   ·go_simp;obtain ⟨wa10, ca10, hwa, da, ka, ni, gi, cc, ea⟩ := DP9.out.new #[.int .i64 0, .int .i64 1, .int .i64 60, .int .i64 61] 3;rw [← hwa];have DA10 := hid da;have NI := hid ni;have GI := hid gi;refine hK.out _ _ (show Sy gy (au r p1) wa10 from ⟨da.box⟩) (fun hNew => ?_);clear hK K q9 hNew;try simp only [qq]
    refine df (S' := Sz gy (au r p1) (wp9.heap.size) #[.int .i64 0, .int .i64 1, .int .i64 60, .int .i64 61] 3) (fun _ h => ⟨h.k⟩) _ _ _ _ ?_;have q9 : Sz gy (au r p1) (wp9.heap.size) #[.int .i64 0, .int .i64 1, .int .i64 60, .int .i64 61] 3 wa10 := ⟨da.box, ka⟩
    clear hwa da ka ni gi cc ea DP9;obtain ⟨y2, hy2, y20⟩ := i4 0 1 60 61 b5 (by omega);refine ak.go [5] ?_;iterate 1 (refine ak.tk q9 ?_; try simp only [qq])
    refine ak.fin ?_;refine ak.go [6] ?_;iterate 1 (apply ak.take (ax rfl) (by kernel_rfl) (by rfl) (fun _ _ _ h => h) q9; (· intro w9 hSw; have hq := hSw.i.cell; rw [← hq] at hy2; clear hSw; go_simp; try with_reducible rfl); try simp only [qq])
    refine ak.fin ?_;refine aT 9 fun K hK => ?_
    go_simp;obtain ⟨wa11, ca11, hwa, da, ka, ni, gi, cc, ea⟩ := DA10.out.new #[.int .i64 (b9 : Int)] 3;rw [← hwa];have DA11 := hid da;have KF11 := hid ka;have NF11 := hid ni;have LF := hid (show V.heap.size ≤ wa10.heap.size from Nat.le_trans DA10.out.up (Nat.le_of_lt DA10.out.box.lt));have NEF := hid (show wa10.heap.size ≠ gy by have := DA10.out.box.lt; omega);have NI := hid ((cc _ q9.i.lt).trans NI.out);have NEI := hid (show wa10.heap.size ≠ wp9.heap.size by have := q9.i.lt; omega);have KH := q9.ext ea;clear hwa da ka ni gi cc ea DA10;refine hK.out _ _ KH ?_;clear hK K q9;intro q9;try simp only [qq]
    clear KH;refine ak.go [10] ?_;iterate 1 (refine ak.tk q9 ?_; try simp only [qq])
    refine ak.fin ?_;refine aT 11 fun K hK => ?_
    go_simp;obtain ⟨y6, hy6⟩ : ∃ u, u = wa11.alloc (.cells #[Value.int .i64 y2, Value.slice (some ⟨wa10.heap.size, 0, none⟩) 1 1] 69) := ⟨_, rfl⟩
    have X6 := hid (show Below wa11.heap.size wa11 y6 by rw [hy6]; exact ae (Below.refl _ _) _);have N6 := hid (show aN y6 (some ⟨wa11.heap.size, 0, none⟩) 1 1 2 #[Value.int .i64 y2, Value.slice (some ⟨wa10.heap.size, 0, none⟩) 1 1].toList by rw [hy6]; exact jv rfl);rw [← hy6];clear hy6;have D6 := hid (DA11.out.ext X6.out);refine hK.out _ _ (q9.ext X6.out) ?_;clear hK K q9;intro q9;try simp only [qq]
    refine aT 12 fun K hK => ?_
    rw [if_pos (by rfl)];refine fF V.heap.size p1.aA r.acks.length p1.cA (bi X1.A) (some ⟨wa11.heap.size, 0, none⟩) 1 1 #[Value.int .i64 y2, Value.slice (some ⟨wa10.heap.size, 0, none⟩) 1 1].toList rfl rfl D6.out.h.a.own N6.out (by simp [Value.oneCell']) (by have := LM.out.a; omega) (Nat.le_trans D6.out.up (Nat.le_of_lt D6.out.box.lt)) ?_;intro a7 c7 w7 q1 q2 q3;have G := hid (D6.out.I4 HC.out (u := y2) (v := (b9 : Int)) (f := wa10.heap.size) (KF11.out.ext X6.out) LF.out NF11.out NEF.out q1 q2 q3 (by omega) (by omega) (by omega) (by omega));have KH : Sz gy (au r p1) (wp9.heap.size) #[.int .i64 0, .int .i64 1, .int .i64 60, .int .i64 61] 3 w7 := ⟨G.out.box, D6.out.far D6.out.h.a q2 q9.i (by rw [NI.out]; decide)⟩
    clear q1 q2 q3;refine hK.out _ _ KH ?_;clear hK K q9;intro q9;try simp only [qq]
    clear KH;refine ak.go [13] ?_;iterate 1 (refine ak.tk q9 ?_; try simp only [qq])
    refine ak.fin ?_;refine aJ fun K hK => ?_
    have cB := q9.k.cell;have fB := q9.k.free;go_simp;refine hK.out _ _ ?_;clear hK K q9 cB fB;have G2 := hid ((G.out.put HC.out 16 (.slice a7 (r.acks.length + 1) c7)).fin (by rw [← (AZ AM1.out)]; rfl));go_wp2_with fail
    go_meet
    case rel => exact ⟨_, _, _, _, _, LM.out.zG AM1.out (by show (1 : Nat) ≤ _; omega), by omega, G2.out⟩
   go_simp;obtain ⟨wa12, ca12, hwa, da, ka, ni, gi, cc, ea⟩ := DP9.out.new #[.int .i64 (b9 : Int)] 3;rw [← hwa];have DA12 := hid da;have KF12 := hid ka;have NF12 := hid ni;have LF := hid (show V.heap.size ≤ wp9.heap.size from Nat.le_trans DP9.out.up (Nat.le_of_lt DP9.out.box.lt));have NEF := hid (show wp9.heap.size ≠ gy by have := DP9.out.box.lt; omega);have KH := q9.ext ea;clear hwa da ka ni gi cc ea DP9;refine hK.out _ _ KH ?_;clear hK K q9;intro q9;try simp only [qq]
   clear KH;refine aT 2 fun K hK => ?_
   go_simp;obtain ⟨wa13, ca13, hwa, da, ka, ni, gi, cc, ea⟩ := DA12.out.new #[.int .i64 0, .int .i64 1, .int .i64 60, .int .i64 61] 3;rw [← hwa];have DA13 := hid da;have NI := hid ni;have GI := hid gi;have KF13 := hid (KF12.out.ext ea);have NF13 := hid ((cc _ KF12.out.lt).trans NF12.out);have NEI := hid (show wp9.heap.size ≠ wa12.heap.size by have := KF12.out.lt; omega);refine hK.out _ _ (show Sy gy (au r p1) wa13 from ⟨da.box⟩) (fun hNew => ?_);clear hK K q9 hNew;try simp only [qq]
   refine df (S' := Sz gy (au r p1) (wa12.heap.size) #[.int .i64 0, .int .i64 1, .int .i64 60, .int .i64 61] 3) (fun _ h => ⟨h.k⟩) _ _ _ _ ?_;have q9 : Sz gy (au r p1) (wa12.heap.size) #[.int .i64 0, .int .i64 1, .int .i64 60, .int .i64 61] 3 wa13 := ⟨da.box, ka⟩
   clear hwa da ka ni gi cc ea DA12;obtain ⟨y2, hy2, y20⟩ := i4 0 1 60 61 b5 (by omega);refine ak.go [5] ?_;iterate 1 (refine ak.tk q9 ?_; try simp only [qq])
   refine ak.fin ?_;refine ak.go [6] ?_;iterate 1 (apply ak.take (ax rfl) (by kernel_rfl) (by rfl) (fun _ _ _ h => h) q9; (· intro w9 hSw; have hq := hSw.i.cell; rw [← hq] at hy2; clear hSw; go_simp; try with_reducible rfl); try simp only [qq])
   refine ak.fin ?_;refine ak.go [10] ?_;iterate 1 (refine ak.tk q9 ?_; try simp only [qq])
   refine ak.fin ?_;refine aT 11 fun K hK => ?_
   go_simp;obtain ⟨y6, hy6⟩ : ∃ u, u = wa13.alloc (.cells #[Value.int .i64 y2, Value.slice (some ⟨wp9.heap.size, 0, none⟩) 1 1] 69) := ⟨_, rfl⟩
   have X6 := hid (show Below wa13.heap.size wa13 y6 by rw [hy6]; exact ae (Below.refl _ _) _);have N6 := hid (show aN y6 (some ⟨wa13.heap.size, 0, none⟩) 1 1 2 #[Value.int .i64 y2, Value.slice (some ⟨wp9.heap.size, 0, none⟩) 1 1].toList by rw [hy6]; exact jv rfl);rw [← hy6];clear hy6;have D6 := hid (DA13.out.ext X6.out);refine hK.out _ _ (q9.ext X6.out) ?_;clear hK K q9;intro q9;try simp only [qq]
   refine aT 12 fun K hK => ?_
   rw [if_pos (by rfl)];refine fF V.heap.size p1.aA r.acks.length p1.cA (bi X1.A) (some ⟨wa13.heap.size, 0, none⟩) 1 1 #[Value.int .i64 y2, Value.slice (some ⟨wp9.heap.size, 0, none⟩) 1 1].toList rfl rfl D6.out.h.a.own N6.out (by simp [Value.oneCell']) (by have := LM.out.a; omega) (Nat.le_trans D6.out.up (Nat.le_of_lt D6.out.box.lt)) ?_;intro a7 c7 w7 q1 q2 q3;have G := hid (D6.out.I4 HC.out (u := y2) (v := (b9 : Int)) (f := wp9.heap.size) (KF13.out.ext X6.out) LF.out NF13.out NEF.out q1 q2 q3 (by omega) (by omega) (by omega) (by omega));have KH : Sz gy (au r p1) (wa12.heap.size) #[.int .i64 0, .int .i64 1, .int .i64 60, .int .i64 61] 3 w7 := ⟨G.out.box, D6.out.far D6.out.h.a q2 q9.i (by rw [NI.out]; decide)⟩
   clear q1 q2 q3;refine hK.out _ _ KH ?_;clear hK K q9;intro q9;try simp only [qq]
   clear KH;refine ak.go [13] ?_;iterate 1 (refine ak.tk q9 ?_; try simp only [qq])
   refine ak.fin ?_;refine aJ fun K hK => ?_
   have cB := q9.k.cell;have fB := q9.k.free;go_simp;refine hK.out _ _ ?_;clear hK K q9 cB fB;have G2 := hid ((G.out.put HC.out 16 (.slice a7 (r.acks.length + 1) c7)).fin (by rw [← (AZ AM1.out)]; rfl));go_wp2_with fail
   go_meet
   case rel => exact ⟨_, _, _, _, _, LM.out.zG AM1.out (by show (1 : Nat) ≤ _; omega), by omega, G2.out⟩
  ·clear hv;have kI := hid (aC.new w2 #[.int .i64 (-1), .int .i64 1, .int .i64 1000000, .int .i64 1000001] 3);have D3 := hid (D2.out.ext (ae (Below.refl w2.heap.size w2) (.cells #[.int .i64 (-1), .int .i64 1, .int .i64 1000000, .int .i64 1000001] 3)));have GI := hid (show g < w2.heap.size from D2.out.x.a.k.lt);clear D2;go_wp2_with fail;refine (dD _ g ca n cap (k + 1) 4 D3.out.x.a (by have := HP.out; omega) (by omega) (by omega)).mono ?_;rintro e w4 ⟨b, rfl, hb, hu, ha⟩;obtain ⟨y2, hy2, y20⟩ := i4 (-1) 1 1000000 1000001 b (by omega);have D4 := hid (D3.out.rd hu.w ha);have cI : w4.cell? ⟨w2.heap.size, b, none⟩ = some (.int .i64 y2) := (aC.cell ((hu.block _ (by have := GI.out; omega)).trans kI.out) b).trans hy2;have e0 : (0 : Int) ≤ (b : Int) := by omega
   have cB := D4.out.box.cell;have fB := D4.out.box.free;have G := hid (D4.out.put HC.out 17 (.int .i64 y2));have G2 := hid ((G.out.to (r' := { r with heard := y2 }) (G.out.h.like rfl rfl rfl rfl rfl rfl rfl) G.out.c9).as (show _ = au { r with heard := y2 } p1 by rfl));clear hu ha D3 kI hy2;go_wp2_with fail
   go_meet
   case rel => exact ⟨{ r with heard := y2 }, p1, X1, c1, _, LM.out.small { r with heard := y2 }, by omega, G2.out⟩
  ·clear hv;have cB := D2.out.box.cell;have fB := D2.out.box.free;have G := hid (D2.out.put HC.out 2 (.bool (!r.up)));have G2 := hid ((G.out.to (r' := { r with up := !r.up }) (G.out.h.like rfl rfl rfl rfl rfl rfl rfl) G.out.c9).as (show _ = au { r with up := !r.up } p1 by rfl));go_wp2_with fail
   go_meet
   case rel => exact ⟨{ r with up := !r.up }, p1, X1, c1, _, LM.out.small { r with up := !r.up }, by omega, G2.out⟩
  clear hv;go_wp2_with fail;have hK0 : Sy gy (au r p1) w2 := ⟨D2.out.box⟩
  refine aI (S := Sy gy (au r p1)) 13 (by kernel_rfl) ⟨aC.drew hK0.k⟩ (fun q9 => ?_);simp only [qz, Nat.reduceAdd];obtain ⟨w3, hw3⟩ : ∃ u, u = w2.drew := ⟨_, rfl⟩
  have D := hid (D2.out.ext (show Below w2.heap.size w2 w3 by rw [hw3]; exact (Below.refl _ _).drew));rw [← hw3] at q9 ⊢;clear hw3 hK0 D2;refine ak.go [0, 1, 2, 5] ?_;iterate 4 (refine ak.tk q9 ?_; try simp only [qq])
  refine ak.fin ?_;refine bu (rs := [3, 4]) (by kernel_rfl) (by simp) ?_;refine aK.cons (ax rfl) (fun K hK => ?_) (aK.cons (ax rfl) (fun K hK => ?_) aK.nil)
  ·go_simp;refine (dD w3 g ca n cap (k + 1) 3 D.out.x.a (by have := HP.out; omega) (by omega) (by omega)).mono ?_;rintro e wp1 ⟨b1, rfl, hb1, hu, ha⟩;have DP1 := hid (D.out.rd hu.w ha);have KH : Sy gy (au r p1) wp1 := ⟨DP1.out.box⟩
   clear hu ha D;go_wp2_with fail;refine hK.out _ _ KH ?_;clear hK K q9;intro q9;try simp only [qq]
   clear KH;refine bu (rs := [4, 6]) (by kernel_rfl) (by simp) ?_;refine aK.cons (ax rfl) (fun K hK => ?_) (aK.cons (ax rfl) (fun K hK => ?_) aK.nil)
   ·go_simp;obtain ⟨wa2, ca2, hwa, da, ka, ni, gi, cc, ea⟩ := DP1.out.new #[.string ⟨#[]⟩, .string ⟨#[116]⟩] 9;rw [← hwa];have DA2 := hid da;have NI := hid ni;have GI := hid gi;refine hK.out _ _ (show Sy gy (au r p1) wa2 from ⟨da.box⟩) (fun hNew => ?_);clear hK K q9 hNew;try simp only [qq]
    refine df (S' := Sz gy (au r p1) (wp1.heap.size) #[.string ⟨#[]⟩, .string ⟨#[116]⟩] 9) (fun _ h => ⟨h.k⟩) _ _ _ _ ?_;have q9 : Sz gy (au r p1) (wp1.heap.size) #[.string ⟨#[]⟩, .string ⟨#[116]⟩] 9 wa2 := ⟨da.box, ka⟩
    clear hwa da ka ni gi cc ea DP1;refine aT 6 fun K hK => ?_
    go_simp;refine (dD wa2 g ca n cap (k + 1 + 1) 2 DA2.out.x.a (by have := HP.out; omega) (by omega) (by omega)).mono ?_;rintro e wp3 ⟨b3, rfl, hb3, hu, ha⟩;have DP3 := hid (DA2.out.rd hu.w ha);have KH : Sz gy (au r p1) (wp1.heap.size) #[.string ⟨#[]⟩, .string ⟨#[116]⟩] 9 wp3 := ⟨DP3.out.box, (hu.block _ (by have := GI.out; omega)).trans q9.i⟩
    clear hu ha DA2;go_wp2_with fail;refine hK.out _ _ KH ?_;clear hK K q9;intro q9;try simp only [qq]
    clear KH;obtain ⟨y2, hy2, y20⟩ := t2 b3 (by omega);refine ak.go [7] ?_;iterate 1 (refine ak.tk q9 ?_; try simp only [qq])
    refine ak.fin ?_;refine ak.go [8] ?_;iterate 1 (apply ak.take (ax rfl) (by kernel_rfl) (by rfl) (fun _ _ _ h => h) q9; (· intro w9 hSw; have hq := hSw.i.cell; rw [← hq] at hy2; clear hSw; go_simp; try with_reducible rfl); try simp only [qq])
    refine ak.fin ?_;refine ak.go [9] ?_;iterate 1 (refine ak.tk q9 ?_; try simp only [qq])
    refine ak.fin ?_;refine aT 10 fun K hK => ?_
    go_simp;obtain ⟨y6, hy6⟩ : ∃ u, u = wp3.alloc (.cells #[Value.int .i64 (b1 : Int), Value.string y2] 43) := ⟨_, rfl⟩
    have X6 := hid (show Below wp3.heap.size wp3 y6 by rw [hy6]; exact ae (Below.refl _ _) _);have N6 := hid (show aN y6 (some ⟨wp3.heap.size, 0, none⟩) 1 1 2 #[Value.int .i64 (b1 : Int), Value.string y2].toList by rw [hy6]; exact jv rfl);rw [← hy6];clear hy6;have D6 := hid (DP3.out.ext X6.out);refine hK.out _ _ (q9.ext X6.out) ?_;clear hK K q9;intro q9;try simp only [qq]
    refine aT 11 fun K hK => ?_
    rw [if_pos (by rfl)];refine lh V.heap.size p1.aB r.best.length p1.cB (flat r.best) (some ⟨wp3.heap.size, 0, none⟩) 1 1 #[Value.int .i64 (b1 : Int), Value.string y2].toList rfl rfl D6.out.h.b.own N6.out (by simp [Value.oneCell']) (by have := LM.out.b; omega) (Nat.le_trans D6.out.up (Nat.le_of_lt D6.out.box.lt)) ?_;intro a7 c7 w7 q1 q2 q3;have G := hid (D6.out.Kr HC.out (u := ((b1 : Int), y2)) q1 q2 q3 (by show (-1 : Int) ≤ (b1 : Int); omega) (by show (b1 : Int) ≤ 2000000; omega) y20);have KH : Sz gy (au r p1) (wp1.heap.size) #[.string ⟨#[]⟩, .string ⟨#[116]⟩] 9 w7 := ⟨G.out.box, D6.out.far D6.out.h.b q2 q9.i (by rw [NI.out]; decide)⟩
    clear q1 q2 q3;refine hK.out _ _ KH ?_;clear hK K q9;intro q9;try simp only [qq]
    clear KH;refine ak.go [12] ?_;iterate 1 (refine ak.tk q9 ?_; try simp only [qq])
    refine ak.fin ?_;refine aJ fun K hK => ?_
    have cB := q9.k.cell;have fB := q9.k.free;go_simp;refine hK.out _ _ ?_;clear hK K q9 cB fB;have G2 := hid ((G.out.put HC.out 15 (.slice a7 (r.best.length + 1) c7)).fin (by rw [← (show (r.best ++ [((b1 : Int), y2)]).length = r.best.length + 1 from List.length_append)]; rfl));go_wp2_with fail
    go_meet
    case rel => exact ⟨_, _, _, _, _, LM.out.small _ (e6 := by simp), by omega, G2.out⟩
   go_simp;refine (dD wp1 g ca n cap (k + 1 + 1) 2 DP1.out.x.a (by have := HP.out; omega) (by omega) (by omega)).mono ?_;rintro e wp4 ⟨b4, rfl, hb4, hu, ha⟩;have DP4 := hid (DP1.out.rd hu.w ha);have KH : Sy gy (au r p1) wp4 := ⟨DP4.out.box⟩
   clear hu ha DP1;go_wp2_with fail;refine hK.out _ _ KH ?_;clear hK K q9;intro q9;try simp only [qq]
   clear KH;refine aT 4 fun K hK => ?_
   go_simp;obtain ⟨wa5, ca5, hwa, da, ka, ni, gi, cc, ea⟩ := DP4.out.new #[.string ⟨#[]⟩, .string ⟨#[116]⟩] 9;rw [← hwa];have DA5 := hid da;have NI := hid ni;have GI := hid gi;refine hK.out _ _ (show Sy gy (au r p1) wa5 from ⟨da.box⟩) (fun hNew => ?_);clear hK K q9 hNew;try simp only [qq]
   refine df (S' := Sz gy (au r p1) (wp4.heap.size) #[.string ⟨#[]⟩, .string ⟨#[116]⟩] 9) (fun _ h => ⟨h.k⟩) _ _ _ _ ?_;have q9 : Sz gy (au r p1) (wp4.heap.size) #[.string ⟨#[]⟩, .string ⟨#[116]⟩] 9 wa5 := ⟨da.box, ka⟩
   clear hwa da ka ni gi cc ea DP4;obtain ⟨y2, hy2, y20⟩ := t2 b4 (by omega);refine ak.go [7] ?_;iterate 1 (refine ak.tk q9 ?_; try simp only [qq])
   refine ak.fin ?_;refine ak.go [8] ?_;iterate 1 (apply ak.take (ax rfl) (by kernel_rfl) (by rfl) (fun _ _ _ h => h) q9; (· intro w9 hSw; have hq := hSw.i.cell; rw [← hq] at hy2; clear hSw; go_simp; try with_reducible rfl); try simp only [qq])
   refine ak.fin ?_;refine ak.go [9] ?_;iterate 1 (refine ak.tk q9 ?_; try simp only [qq])
   refine ak.fin ?_;refine aT 10 fun K hK => ?_
   go_simp;obtain ⟨y6, hy6⟩ : ∃ u, u = wa5.alloc (.cells #[Value.int .i64 (b1 : Int), Value.string y2] 43) := ⟨_, rfl⟩
   have X6 := hid (show Below wa5.heap.size wa5 y6 by rw [hy6]; exact ae (Below.refl _ _) _);have N6 := hid (show aN y6 (some ⟨wa5.heap.size, 0, none⟩) 1 1 2 #[Value.int .i64 (b1 : Int), Value.string y2].toList by rw [hy6]; exact jv rfl);rw [← hy6];clear hy6;have D6 := hid (DA5.out.ext X6.out);refine hK.out _ _ (q9.ext X6.out) ?_;clear hK K q9;intro q9;try simp only [qq]
   refine aT 11 fun K hK => ?_
   rw [if_pos (by rfl)];refine lh V.heap.size p1.aB r.best.length p1.cB (flat r.best) (some ⟨wa5.heap.size, 0, none⟩) 1 1 #[Value.int .i64 (b1 : Int), Value.string y2].toList rfl rfl D6.out.h.b.own N6.out (by simp [Value.oneCell']) (by have := LM.out.b; omega) (Nat.le_trans D6.out.up (Nat.le_of_lt D6.out.box.lt)) ?_;intro a7 c7 w7 q1 q2 q3;have G := hid (D6.out.Kr HC.out (u := ((b1 : Int), y2)) q1 q2 q3 (by show (-1 : Int) ≤ (b1 : Int); omega) (by show (b1 : Int) ≤ 2000000; omega) y20);have KH : Sz gy (au r p1) (wp4.heap.size) #[.string ⟨#[]⟩, .string ⟨#[116]⟩] 9 w7 := ⟨G.out.box, D6.out.far D6.out.h.b q2 q9.i (by rw [NI.out]; decide)⟩
   clear q1 q2 q3;refine hK.out _ _ KH ?_;clear hK K q9;intro q9;try simp only [qq]
   clear KH;refine ak.go [12] ?_;iterate 1 (refine ak.tk q9 ?_; try simp only [qq])
   refine ak.fin ?_;refine aJ fun K hK => ?_
   have cB := q9.k.cell;have fB := q9.k.free;go_simp;refine hK.out _ _ ?_;clear hK K q9 cB fB;have G2 := hid ((G.out.put HC.out 15 (.slice a7 (r.best.length + 1) c7)).fin (by rw [← (show (r.best ++ [((b1 : Int), y2)]).length = r.best.length + 1 from List.length_append)]; rfl));go_wp2_with fail
   go_meet
   case rel => exact ⟨_, _, _, _, _, LM.out.small _ (e6 := by simp), by omega, G2.out⟩
  go_simp;obtain ⟨wa6, ca6, hwa, da, ka, ni, gi, cc, ea⟩ := D.out.new #[.string ⟨#[]⟩, .string ⟨#[116]⟩] 9;rw [← hwa];have DA6 := hid da;have NI := hid ni;have GI := hid gi;refine hK.out _ _ (show Sy gy (au r p1) wa6 from ⟨da.box⟩) (fun hNew => ?_);clear hK K q9 hNew;try simp only [qq]
  refine df (S' := Sz gy (au r p1) (w3.heap.size) #[.string ⟨#[]⟩, .string ⟨#[116]⟩] 9) (fun _ h => ⟨h.k⟩) _ _ _ _ ?_;have q9 : Sz gy (au r p1) (w3.heap.size) #[.string ⟨#[]⟩, .string ⟨#[116]⟩] 9 wa6 := ⟨da.box, ka⟩
  clear hwa da ka ni gi cc ea D;refine aT 3 fun K hK => ?_
  go_simp;refine (dD wa6 g ca n cap (k + 1) 3 DA6.out.x.a (by have := HP.out; omega) (by omega) (by omega)).mono ?_;rintro e wp7 ⟨b7, rfl, hb7, hu, ha⟩;have DP7 := hid (DA6.out.rd hu.w ha);have KH : Sz gy (au r p1) (w3.heap.size) #[.string ⟨#[]⟩, .string ⟨#[116]⟩] 9 wp7 := ⟨DP7.out.box, (hu.block _ (by have := GI.out; omega)).trans q9.i⟩
  clear hu ha DA6;go_wp2_with fail;refine hK.out _ _ KH ?_;clear hK K q9;intro q9;try simp only [qq]
  clear KH;refine aT 6 fun K hK => ?_
  go_simp;refine (dD wp7 g ca n cap (k + 1 + 1) 2 DP7.out.x.a (by have := HP.out; omega) (by omega) (by omega)).mono ?_;rintro e wp8 ⟨b8, rfl, hb8, hu, ha⟩;have DP8 := hid (DP7.out.rd hu.w ha);have KH : Sz gy (au r p1) (w3.heap.size) #[.string ⟨#[]⟩, .string ⟨#[116]⟩] 9 wp8 := ⟨DP8.out.box, (hu.block _ (by have := GI.out; omega)).trans q9.i⟩
  clear hu ha DP7;go_wp2_with fail;refine hK.out _ _ KH ?_;clear hK K q9;intro q9;try simp only [qq]
  clear KH;obtain ⟨y2, hy2, y20⟩ := t2 b8 (by omega);refine ak.go [7] ?_;iterate 1 (refine ak.tk q9 ?_; try simp only [qq])
  refine ak.fin ?_;refine ak.go [8] ?_;iterate 1 (apply ak.take (ax rfl) (by kernel_rfl) (by rfl) (fun _ _ _ h => h) q9; (· intro w9 hSw; have hq := hSw.i.cell; rw [← hq] at hy2; clear hSw; go_simp; try with_reducible rfl); try simp only [qq])
  refine ak.fin ?_;refine ak.go [9] ?_;iterate 1 (refine ak.tk q9 ?_; try simp only [qq])
  refine ak.fin ?_;refine aT 10 fun K hK => ?_
  go_simp;obtain ⟨y6, hy6⟩ : ∃ u, u = wp8.alloc (.cells #[Value.int .i64 (b7 : Int), Value.string y2] 43) := ⟨_, rfl⟩
  have X6 := hid (show Below wp8.heap.size wp8 y6 by rw [hy6]; exact ae (Below.refl _ _) _);have N6 := hid (show aN y6 (some ⟨wp8.heap.size, 0, none⟩) 1 1 2 #[Value.int .i64 (b7 : Int), Value.string y2].toList by rw [hy6]; exact jv rfl);rw [← hy6];clear hy6;have D6 := hid (DP8.out.ext X6.out);refine hK.out _ _ (q9.ext X6.out) ?_;clear hK K q9;intro q9;try simp only [qq]
  refine aT 11 fun K hK => ?_
  rw [if_pos (by rfl)];refine lh V.heap.size p1.aB r.best.length p1.cB (flat r.best) (some ⟨wp8.heap.size, 0, none⟩) 1 1 #[Value.int .i64 (b7 : Int), Value.string y2].toList rfl rfl D6.out.h.b.own N6.out (by simp [Value.oneCell']) (by have := LM.out.b; omega) (Nat.le_trans D6.out.up (Nat.le_of_lt D6.out.box.lt)) ?_;intro a7 c7 w7 q1 q2 q3;have G := hid (D6.out.Kr HC.out (u := ((b7 : Int), y2)) q1 q2 q3 (by show (-1 : Int) ≤ (b7 : Int); omega) (by show (b7 : Int) ≤ 2000000; omega) y20);have KH : Sz gy (au r p1) (w3.heap.size) #[.string ⟨#[]⟩, .string ⟨#[116]⟩] 9 w7 := ⟨G.out.box, D6.out.far D6.out.h.b q2 q9.i (by rw [NI.out]; decide)⟩
  clear q1 q2 q3;refine hK.out _ _ KH ?_;clear hK K q9;intro q9;try simp only [qq]
  clear KH;refine ak.go [12] ?_;iterate 1 (refine ak.tk q9 ?_; try simp only [qq])
  refine ak.fin ?_;refine aJ fun K hK => ?_
  have cB := q9.k.cell;have fB := q9.k.free;go_simp;refine hK.out _ _ ?_;clear hK K q9 cB fB;have G2 := hid ((G.out.put HC.out 15 (.slice a7 (r.best.length + 1) c7)).fin (by rw [← (show (r.best ++ [((b7 : Int), y2)]).length = r.best.length + 1 from List.length_append)]; rfl));go_wp2_with fail
  go_meet
  case rel => exact ⟨_, _, _, _, _, LM.out.small _ (e6 := by simp), by omega, G2.out⟩
 case rest =>
 obtain ⟨r9, p9, X9, c9, k9, hs9, hk9, hd9⟩ := hcut;have D9 := hid hd9;obtain ⟨w9, hw9⟩ : ∃ v : World, v = wc := ⟨_, rfl⟩
 subst hw9;clear hd9 D2;have k6 := D9.out.box;have kz := (D9.out.x.x _ (.tail _ (.head _))).1;go_wp2_with (first | ((with_reducible refine ah gy (au r9 p9) rfl ?_ ?_ ?_); rfl; exact k6) | ((with_reducible refine af (w.heap.size + 1) bP (au r9 p9) rfl rfl ?_ ?_ ?_ ?_ ?_); rfl; rfl; exact kz; simp [Value.oneCell']));have hz := setRow_heap _ (w.heap.size + 1) _ (au r9 p9) _ _ kz;refine az (ty := 31) Try.results63 (w.heap.size + 1) (au r9 p9) _ ?_ ?_ hz Try.underlying31 rfl (by kernel_rfl) ?_
 ·rfl
 ·rfl
 have en := D9.out.x.ends (cs' := au r9 p9) (.tail _ (.head _)) HC.out;exact ⟨r9, ⟨p9, X9, c9⟩, k9, rfl, hs9, (D9.out.h.far D9.out.lo (au r9 p9)).lower (by have := D9.out.lo; omega), en.1, en.2, hk9⟩
end Go.Proofs.Ytjdceoimignnpaa
