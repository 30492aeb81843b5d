import Derived.Test.YtjdceoimignnpaaF24
namespace Go.Proofs.Ytjdceoimignnpaa
open Go.ChangeShapes Go.WideShapes Go.ChangeAt Go.RowKit
set_option linter.unusedVariables false
set_option linter.unusedSimpArgs false
set_option maxHeartbeats 32000000
set_option maxRecDepth 20000
structure Ia (g : Nat) (c : Array Value) (w' : World) : Prop where
 blk : aC w' g c 31
theorem Ia.drew {g : Nat} {c : Array Value} {w' : World} (h : Ia g c w') : Ia g c w'.drew := ⟨h.blk⟩
theorem oN {fn : Func} {p q : Tmp} {ty : TypeId} (hr : fn.results = #[.cell p ty, .tmp q]) {post : Ending → World → Prop} {a : Act} {w : World} (g : Nat) (cs : Array Value) (d : TypeDesc)
  (hp : a.tmps.getD p undef = .pointer (some ⟨g, 0, none⟩)) (hd : a.defers = []) (hg : aC w g cs ty)
  (hu : Try.prog.underlying ty = some d) (hrow : d.isRow = true) (hi : (Try.prog.info? ty).map (·.size) = some cs.size) (h : post (.returned (.tuple #[.agg cs, a.tmps.getD q undef])) w) :
  bodyPost Try.prog fn post .ret a w := by
 refine bodyPost_ret (v := .tuple #[.agg cs, a.tmps.getD q undef]) ?_ hd h;have hp' : a.tmps[p]?.getD undef = .pointer (some ⟨g, 0, none⟩) := by simpa using hp
 simp [results, hr, hp', asAddr, run_loadVar_row w g ty ty cs (0, 0) d hg hu (by cases d <;> simp_all [TypeDesc.isRow]) hi]
theorem Gn (B : Nat) (r : Rc) (p : fU) (X : iU) (col : Nat → Nat) (a : Option Addr) (H : List Mp) (c : Nat) (w : World) (hB : B ≤ w.heap.size) (ok : mX 0 r) (hss : r.ss.length ≤ 60) (hds : r.ds.length ≤ 60) (hof : 0 ≤ r.of_ ∧ r.of_ ≤ 5) (hH : H.length ≤ 1000000) (h : aG B w r p X col) (ho : iJ B w a H c) (hoc : ∀ x, a = some x → 8 < col x.block) :
  Calls Try.prog 104 #[.agg (au r p), .slice a H.length c] w (Lm B w col a (iD r) (H ++ qJ (iD r))) := by
 have HB := hid hB;have OK := hid ok;have HOF := hid hof;have ROW := hid ho;have OC := hid hoc;have HD := hid hds;have HSS := hid hss;have HLN := hid hH;obtain ⟨V, hV⟩ : ∃ V, V = (w.alloc (.cells (au r p) 31)).alloc (.cells bP 31) := ⟨_, rfl⟩
 have ST := hid (show LS B w col r p X (dm w.heap.size col) V by rw [hV]; exact LS.start h hB);clear h hB ok hof ho hoc;go_enter Try.func104, Try.ntmps104;go_wp2_with fail;rw [← hV];clear hV;go_loopw [6] (fun i wr => ∃ (k : Nat) (x : Rc) (p1 : fU) (X1 : iU) (c1 : Nat → Nat), k ≤ r.ss.length ∧ i = .int .i64 k ∧ x = kE r k ∧ LS B w col x p1 X1 c1 wr) (fun i _ => r.ss.length - (intOf i).toNat);case atStart => exact ⟨0, r, p, X, _, Nat.zero_le _, rfl, rfl, ST.out⟩
 obtain ⟨k, x, p1, X1, c1, hk, rfl, hx, hls⟩ := hrel;have SS := hid hls;have EX := hid hx;have XL := hid (show Dv r x by rw [hx]; exact kJ r k);have XO := hid (show mX k x by rw [hx]; have := zi OK.out k (by omega); simpa using this);have XS := hid (show x.ss = r.ss ∧ x.ball = r.ball ∧ x.num = r.num by obtain ⟨l, d, e⟩ := XL.out; rw [e]; exact ⟨rfl, rfl, rfl⟩);clear hls hx ST;have cK := SS.out.k.cell;have hxs : x.ss.length = r.ss.length := by rw [XS.out.1]
 by_cases hlt : k < r.ss.length
 ·obtain ⟨t, ht⟩ : ∃ t, x.ss[k]? = some t := ⟨_, List.getElem?_eq_getElem (by omega)⟩
  have TG := hid (show r.ss.getD k (0, ⟨#[]⟩) = t by rw [← XS.out.1, List.getD_eq_getElem?_getD, ht]; rfl);obtain ⟨gS, es, _, sc, _⟩ := SS.out.has.s.cell (iY x.ss k t ht).1;obtain ⟨aS1, cS1, aD1, cD1, aH1, cH1, aW1, cW1, aY1, cY1, aB1, cB1, aA1, cA1⟩ := p1;dsimp only at es;subst es;clear ht;have e6 : (0 : Int) ≤ (k : Int) := by omega
  have e7 : (k : Int) < (x.ss.length : Int) := by omega
  by_cases gb : t.1 = x.ball
  ·have u5 : (t.1 == x.ball) = true := by rw [gb]; exact beq_self_eq_true _
   have GB := hid (show (r.ss.getD k (0, ⟨#[]⟩)).1 = r.ball by rw [TG.out, gb, XS.out.2.1]);clear gb;have e8 : IntKind.i64.wrap ((k : Int) + 1) = (k : Int) + 1 := by go_arith
   go_wp2_with fail
   go_quiet (fail)
   have SQ := hid (SS.out.ext HB.out (below_drewN (Below.refl _ _) nq));have k3 := SQ.out.k;have cK3 := SQ.out.k.cell;clear cK sc;go_wp2_with ((with_reducible refine ah w.heap.size (au x ⟨some ⟨gS, 0, none⟩, cS1, aD1, cD1, aH1, cH1, aW1, cW1, aY1, cY1, aB1, cB1, aA1, cA1⟩) rfl ?_ ?_ ?_); rfl; exact k3);clear cK3;refine (Dq B x ⟨some ⟨gS, 0, none⟩, cS1, aD1, cD1, aH1, cH1, aW1, cW1, aY1, cY1, aB1, cB1, aA1, cA1⟩ X1 c1 ((k : Int) + 1) x.num _ (Nat.le_trans HB.out (by have := SQ.out.z.lt; omega)) XO.out.d0 XO.out.d1 XO.out.sm (by have := XO.out.a1; omega) (fun j a ha => by have := XO.out.a2 a (List.mem_of_getElem? ha); omega) (ku (by omega) (by omega)) XO.out.nu SQ.out.has).mono ?_;rintro e w3 ⟨p3, X3, c3, rfl, has3, hb3, ot3⟩;obtain ⟨kk3, _⟩ := SQ.out.call has3 hb3 ot3;have SN := hid (SQ.out.next HB.out has3 hb3 ot3);clear has3 hb3 ot3 SQ k3 SS;obtain ⟨x3, hx3⟩ : ∃ y, y = lI x ((k : Int) + 1) x.num := ⟨_, rfl⟩
   rw [← hx3] at SN ⊢;have E3 := hid (show x3 = kE r (k + 1) by rw [EM GB.out, ← EX.out, ← XS.out.2.2]; exact hx3);clear hx3;obtain ⟨W3, hW3⟩ : ∃ v, v = w3.setRow w.heap.size (au x3 p3) := ⟨_, rfl⟩
   rw [← hW3] at SN;go_wp2_with ((with_reducible refine af w.heap.size (au x ⟨some ⟨gS, 0, none⟩, cS1, aD1, cD1, aH1, cH1, aW1, cW1, aY1, cY1, aB1, cB1, aA1, cA1⟩) (au x3 p3) rfl rfl ?_ ?_ ?_ ?_ ?_); rfl; rfl; exact kk3; simp [Value.oneCell']);rw [← hW3];clear hW3 kk3;go_roundw;case rel => exact ⟨k + 1, x3, p3, X3, c3, by omega, by go_num, E3.out, SN.out⟩
   case measure => simp [intOf]; omega
  have u5 : (t.1 == x.ball) = false := beq_false_of_ne gb;have GB := hid (show ¬ (r.ss.getD k (0, ⟨#[]⟩)).1 = r.ball by rw [TG.out, ← XS.out.2.1]; exact gb);have e8 : IntKind.i64.wrap ((k : Int) + 1) = (k : Int) + 1 := by go_arith
  go_wp2_with fail
  go_quiet (fail)
  have SQ := hid (SS.out.ext HB.out (below_drewN (Below.refl _ _) nq));clear cK sc;go_wp2_with fail;go_roundw;case rel => exact ⟨k + 1, x, ⟨some ⟨gS, 0, none⟩, cS1, aD1, cD1, aH1, cH1, aW1, cW1, aY1, cY1, aB1, cB1, aA1, cA1⟩, X1, c1, by omega, by go_num, by rw [Ep GB.out]; exact EX.out, SQ.out⟩
  case measure => simp [intOf]; omega
 have hkk : k = r.ss.length := by omega
 subst hkk;go_wp2_with fail;clear cK;go_loopw [7] (fun i wr => ∃ (n : Nat) (z : Rc) (p2 : fU) (X2 : iU) (c2 : Nat → Nat), n ≤ x.wish.length ∧ i = .int .i64 n ∧ z = oC x (x.wish.take n) ∧ LS B w col z p2 X2 c2 wr) (fun i _ => x.wish.length - (intOf i).toNat);case atStart => exact ⟨0, x, p1, X1, c1, Nat.zero_le _, rfl, rfl, SS.out⟩
 obtain ⟨n, z, p2, X2, c2, hn, rfl, hz, hls⟩ := hrel;have S2 := hid hls;have EZ := hid hz;have ZL := hid (show xF x z by rw [hz]; exact oU x _);clear hls hz SS;have XD := hid (show x.ds.length ≤ 60 by obtain ⟨l, d, e⟩ := XL.out; rw [e]; exact HD.out);have ZF := hid (show z.wish = x.wish ∧ z.ball = x.ball ∧ z.num = x.num ∧ z.of_ = x.of_ ∧ z.dk = x.dk ∧ x.ds.length ≤ z.ds.length ∧ z.ds.length ≤ 60 by obtain ⟨l, e, h2, h3⟩ := ZL.out; have := XD.out; rw [e]; exact ⟨rfl, rfl, rfl, rfl, rfl, h2, by show l.length ≤ 60; omega⟩);have cK := S2.out.k.cell;have hzw : z.wish.length = x.wish.length := by rw [ZF.out.1]
 have lw := XO.out.sm.lW;by_cases hnl : n < x.wish.length
 ·obtain ⟨t, ht0⟩ : ∃ t, z.wish[n]? = some t := ⟨_, List.getElem?_eq_getElem (by omega)⟩
  have TK := hid (show x.wish.take (n + 1) = x.wish.take n ++ [t] by rw [← ZF.out.1]; rw [List.take_add_one, ht0]; rfl);have TG := hid (show t.size ≤ maxLen from S2.out.has.gd.t n t ht0);obtain ⟨gW, ew, gWl, ct, _⟩ := S2.out.has.t.cell (j := n) (u := .string t) (by simp [fH, ht0]);obtain ⟨aS2, cS2, aD2, cD2, aH2, cH2, aW2, cW2, aY2, cY2, aB2, cB2, aA2, cA2⟩ := p2;dsimp only at ew;subst ew;clear ht0;have e6 : (0 : Int) ≤ (n : Int) := by omega
  have e7 : (n : Int) < (z.wish.length : Int) := by omega
  have e8 : IntKind.i64.wrap ((n : Int) + 1) = (n : Int) + 1 := by go_arith
  have e9 : IntKind.i64.wrap ((z.ds.length : Int) + 1) = (z.ds.length : Int) + 1 := by have := ZF.out.2.2.2.2.2.2; go_arith
  have zd := ZF.out.2.2.2.2.2.2;have GWl := hid gWl;have CT := hid ct;clear ct gWl;go_wp2_with fail;have hK0 : nZ wr.heap.size wr wr := ⟨Below.refl _ _⟩
  refine wp_region_held_drew (S := nZ wr.heap.size wr) (by kernel_rfl) hK0.drew (fun q9 => ?_);simp only [qz, Nat.reduceAdd];clear hK0 cK;refine ag.go [0, 1, 2, 3, 4, 5] ?_;iterate 6 (apply ag.take (ax rfl) (by kernel_rfl) (by rfl) (fun _ _ _ h => h) q9; (· intro w9 hSw; have hq := (S2.out.k.ext hSw.bel).cell; have hc := (hSw.bel.cell (p := ⟨gW, n, none⟩) GWl.out).trans CT.out; clear hSw; go_simp; try with_reducible rfl); try simp only [qq])
  refine ag.fin ?_;refine bV 6 fun K hK => ?_
  go_simp;refine hK.out _ _ q9 (fun hNew => ?_);clear hK K hNew;try simp only [qq]
  refine ag.go [7] ?_;iterate 1 (apply ag.take (ax rfl) (by kernel_rfl) (by rfl) (fun _ _ _ h => h) q9; (· intro w9 hSw; have hq := (S2.out.k.ext hSw.bel).cell; have hc := (hSw.bel.cell (p := ⟨gW, n, none⟩) GWl.out).trans CT.out; clear hSw; go_simp; try with_reducible rfl); try simp only [qq])
  refine ag.fin ?_;refine bV 8 fun K hK => ?_
  go_simp;refine (oG aD2 z.ds z.ds.length cD2 t _ rfl (by unfold maxLen; omega) (S2.out.has.at.hD.ext q9.bel)).mono ?_;rintro e w4 ⟨rfl, hb4⟩;go_wp2_with fail;refine hK.out _ _ ⟨aj q9.bel hb4⟩ (fun hNew => ?_);clear hK K q9 hb4;have q9 := hNew;clear hNew;try simp only [qq]
  cases hh : iw z.ds t
  case true =>
   refine ag.go [9, 10, 11, 12, 13, 14, 15, 16] ?_;iterate 2 (apply ag.take (ax rfl) (by kernel_rfl) (by rfl) (fun _ _ _ h => h) q9; (· intro w9 hSw; have hq := (S2.out.k.ext hSw.bel).cell; have hc := (hSw.bel.cell (p := ⟨gW, n, none⟩) GWl.out).trans CT.out; clear hSw; go_simp; try with_reducible rfl); try simp only [qq])
   iterate 5 (refine ag.sk q9 ?_; try simp only [qq])
   iterate 1 (apply ag.take (ax rfl) (by kernel_rfl) (by rfl) (fun _ _ _ h => h) q9; (· intro w9 hSw; have hq := (S2.out.k.ext hSw.bel).cell; have hc := (hSw.bel.cell (p := ⟨gW, n, none⟩) GWl.out).trans CT.out; clear hSw; go_simp; try with_reducible rfl); try simp only [qq])
   refine ag.fin ?_;refine wpAnyH_done (by kernel_rfl) ?_ _;have SQ := hid (S2.out.ext HB.out q9.bel);clear q9;go_wp2_with fail;go_roundw;case rel => exact ⟨n + 1, z, ⟨aS2, cS2, aD2, cD2, aH2, cH2, some ⟨gW, 0, none⟩, cW2, aY2, cY2, aB2, cB2, aA2, cA2⟩, X2, c2, by omega, by go_num, by rw [TK.out, sF, ← EZ.out, Bj (by rw [hh]; simp)], SQ.out⟩
   case measure => simp [intOf]; omega
  case false =>
   refine ag.go [9, 10, 11, 12, 13, 14] ?_;iterate 6 (apply ag.take (ax rfl) (by kernel_rfl) (by rfl) (fun _ _ _ h => h) q9; (· intro w9 hSw; have hq := (S2.out.k.ext hSw.bel).cell; have hc := (hSw.bel.cell (p := ⟨gW, n, none⟩) GWl.out).trans CT.out; clear hSw; go_simp; try with_reducible rfl); try simp only [qq])
   refine ag.fin ?_;by_cases h60 : z.ds.length < 60
   ·have u6 : decide ((z.ds.length : Int) < 60) = true := decide_eq_true (by omega);refine ag.go [15, 16] ?_;iterate 2 (apply ag.take (ax rfl) (by kernel_rfl) (by rfl) (fun _ _ _ h => h) q9; (· intro w9 hSw; have hq := (S2.out.k.ext hSw.bel).cell; have hc := (hSw.bel.cell (p := ⟨gW, n, none⟩) GWl.out).trans CT.out; clear hSw; go_simp; try with_reducible rfl); try simp only [qq])
    refine ag.fin ?_;refine wpAnyH_done (by kernel_rfl) ?_ _;have SQ := hid (S2.out.ext HB.out q9.bel);have HB5 := hid q9.bel;clear q9;have k3 := SQ.out.k;have cK3 := SQ.out.k.cell;go_wp2_with fail;have ct4 := (HB5.out.cell (p := ⟨gW, n, none⟩) GWl.out).trans CT.out;have hK0 : Ia w.heap.size (au z ⟨aS2, cS2, aD2, cD2, aH2, cH2, some ⟨gW, 0, none⟩, cW2, aY2, cY2, aB2, cB2, aA2, cA2⟩) w4 := ⟨k3⟩
    refine aI (S := Ia w.heap.size (au z ⟨aS2, cS2, aD2, cD2, aH2, cH2, some ⟨gW, 0, none⟩, cW2, aY2, cY2, aB2, cB2, aA2, cA2⟩)) 15 (by kernel_rfl) hK0.drew (fun q9 => ?_);simp only [qz, Nat.reduceAdd];clear hK0 cK3 k3;refine dO (i := 0) (v := .agg (au z ⟨aS2, cS2, aD2, cD2, aH2, cH2, some ⟨gW, 0, none⟩, cW2, aY2, cY2, aB2, cB2, aA2, cA2⟩)) (ax rfl) (by kernel_rfl) (by kernel_rfl) (by kernel_rfl) (by kernel_rfl) (fun _ _ _ h => h) (gG (fun w9 hS => hS.blk) rfl (by rfl) _ rfl rfl) q9 ?_;try simp only [qq]
    refine bg.go [1, 2, 3, 4, 5, 6, 7, 8, 9, 10] ?_;iterate 10 (refine bg.tb q9 ?_; try simp only [qq])
    refine bg.fin ?_;refine aT 11 fun K hK => ?_
    go_simp;refine hK.out _ _ q9 (fun hNew => ?_);clear hK K hNew;try simp only [qq]
    refine aT 12 fun K hK => ?_
    go_simp;refine hK.out _ _ q9 (fun hNew => ?_);clear hK K hNew;try simp only [qq]
    clear ct4;refine bg.go [13] ?_;iterate 1 (refine bg.tb q9 ?_; try simp only [qq])
    refine bg.fin ?_;refine aT 14 fun K hK => ?_
    go_simp;have SD := hid (SQ.out.ext HB.out (show Below w4.heap.size w4 w4.drew from (Below.refl _ _).drew));rw [show ((z.ds.length : Int) + 1) = ((z.ds.length + 1 : Nat) : Int) from rfl];refine (vX B z ⟨aS2, cS2, aD2, cD2, aH2, cH2, some ⟨gW, 0, none⟩, cW2, aY2, cY2, aB2, cB2, aA2, cA2⟩ X2 c2 z.ds.length (z.ball, t) _ (Nat.le_trans HB.out (by have := SD.out.z.lt; omega)) (by omega) (by omega) ⟨TG.out, by have := XO.out.ba; rw [ZF.out.2.1]; exact this⟩ SD.out.has).mono ?_;rintro e w5 ⟨p5, X5, c5, rfl, has5, hb5, ot5⟩;obtain ⟨kk5, _⟩ := SD.out.call has5 hb5 ot5;have KK5 := hid kk5;have SN := hid (SD.out.next HB.out has5 hb5 ot5);clear has5 hb5 ot5 kk5;obtain ⟨z5, hz5⟩ : ∃ y, y = rC z (z.ds.length + 1) (z.ball, t) := ⟨_, rfl⟩
    rw [← hz5] at SN ⊢;have E5 := hid (show z5 = oC x (x.wish.take (n + 1)) by rw [TK.out, sF, ← EZ.out, DJ ⟨hh, h60⟩]; exact hz5);clear hz5;go_wp2_with fail;refine hK.out _ _ ⟨KK5.out⟩ (fun _ => ?_);clear hK K q9;try simp only [qq]
    refine aJ fun K hK => ?_
    rw [if_pos (by rfl)];refine wp_store_row 31 _ _ rfl w.heap.size (au z5 p5) rfl rfl 31 (au z ⟨aS2, cS2, aD2, cD2, aH2, cH2, some ⟨gW, 0, none⟩, cW2, aY2, cY2, aB2, cB2, aA2, cA2⟩) KK5.out (by kernel_rfl) rfl (by simp [Value.oneCell']) ?_;refine hK.out _ _ ?_;clear hK K;go_wp2_with fail;go_roundw;case rel => exact ⟨n + 1, z5, p5, X5, c5, by omega, by go_num, E5.out, SN.out⟩
    case measure => simp [intOf]; omega
   have u6 : decide ((z.ds.length : Int) < 60) = false := decide_eq_false (by omega);refine ag.go [15, 16] ?_;iterate 2 (apply ag.take (ax rfl) (by kernel_rfl) (by rfl) (fun _ _ _ h => h) q9; (· intro w9 hSw; have hq := (S2.out.k.ext hSw.bel).cell; have hc := (hSw.bel.cell (p := ⟨gW, n, none⟩) GWl.out).trans CT.out; clear hSw; go_simp; try with_reducible rfl); try simp only [qq])
   refine ag.fin ?_;refine wpAnyH_done (by kernel_rfl) ?_ _;have SQ := hid (S2.out.ext HB.out q9.bel);clear q9;go_wp2_with fail;go_roundw;case rel => exact ⟨n + 1, z, ⟨aS2, cS2, aD2, cD2, aH2, cH2, some ⟨gW, 0, none⟩, cW2, aY2, cY2, aB2, cB2, aA2, cA2⟩, X2, c2, by omega, by go_num, by rw [TK.out, sF, ← EZ.out, Bj (fun q => h60 q.2)], SQ.out⟩
   case measure => simp [intOf]; omega
 have hnn : n = x.wish.length := by omega
 subst hnn;obtain ⟨wq, hwq⟩ : ∃ v : World, v = wr := ⟨_, rfl⟩
 subst hwq
 have EL := hid (show z = iD r by
  have hw : x.wish = r.wish := by obtain ⟨l, d, e⟩ := XL.out; rw [e]
  rw [EZ.out, List.take_length]; unfold iD; rw [← EX.out, hw])
 have HS2 := hid (show wq.heap.size = wq.heap.size from rfl);have FAR := hid (show ∀ b, w.heap.size ≤ b → ∀ y, a = some y → y.block ≠ b from fun b hb y hy e => by have := (ROW.out.lt y hy).2; omega);have RW2 := hid (ROW.out.others OC.out S2.out.oth);have ZO := hid (show 0 ≤ z.of_ ∧ z.of_ ≤ 5 by rw [ZF.out.2.2.2.1]; obtain ⟨l, d, e⟩ := XL.out; rw [e]; exact HOF.out);obtain ⟨D, hD⟩ : ∃ D : Nat, z.dk = (D : Int) := ⟨z.dk.toNat, by rw [ZF.out.2.2.2.2.1]; have := XO.out.d0; omega⟩
 have HDD := hid hD;have dle : D ≤ z.ds.length := by
  have h1 := XO.out.d1;have h2 := ZF.out.2.2.2.2.1;have h3 := ZF.out.2.2.2.2.2.1;omega
 have zd := ZF.out.2.2.2.2.2.2;have hH2 := HLN.out;have k2 := S2.out.k;clear hD;go_wp2_with ((with_reducible refine ah w.heap.size (au z p2) rfl ?_ ?_ ?_); rfl; exact k2);clear cK k2;refine (rZ B z p2 (vH z) a H c _ (Nat.le_trans HB.out (by have := S2.out.z.lt; omega)) ZO.out.1 ZO.out.2 (by omega) RW2.out).mono ?_;rintro e w5 ⟨a5, c5, rfl, row5, gr5, nw5⟩;have LO := mZ z.num (vH z) z.of_.toNat;obtain ⟨L0, hL0⟩ : ∃ L, L = H ++ ji z.num (vH z) z.of_.toNat := ⟨_, rfl⟩
 have LL0 : L0.length ≤ H.length + 5 := by rw [hL0, List.length_append]; have := ZO.out; omega
 rw [← hL0] at row5 ⊢;have EL0 := hid hL0;have R5 := hid row5;have G5 := hid gr5;have N5 := hid nw5;have K5 := hid (show aC w5 w.heap.size (au z p2) 31 from (gr5.block _ S2.out.k.lt (dC (FAR.out _ (Nat.le_refl _)))).trans S2.out.k);have cK5 := K5.out.cell;have e0 := HDD.out;clear row5 gr5 nw5 hL0 LO;go_wp2_with fail;clear cK5;go_loopw [1, 8] (fun o i wr => ∃ (I m : Nat) (a' : Option Addr) (c' : Nat) (L : List Mp), I = D + m ∧ I ≤ z.ds.length ∧ i = .int .i64 (I : Int) ∧ L = L0 ++ rF z m ∧ o = .slice a' L.length c' ∧ iJ B wr a' L c' ∧ wq.grownBy wr (Value.slice a H.length c).ownBlock ∧ dP wq a a') (fun o i _ => z.ds.length - (intOf i).toNat);case atStart => exact ⟨D, 0, a5, c5, L0, rfl, by omega, rfl, by simp [rF], rfl, R5.out, G5.out, N5.out⟩
 obtain ⟨I, m, a6, c6, L, hI, hm, rfl, hL, rfl, row6, gr6, nw6⟩ := hrel;have HI := hid hI;have hmi : m ≤ I := by omega
 have LL : L.length ≤ L0.length + m * 5 := by
  rw [hL, List.length_append];have h1 := vZ z m;have h2 : z.of_.toNat ≤ 5 := by have := ZO.out; omega
  have h3 := Nat.mul_le_mul_left m h2;omega
 have EQL := hid hL;have R6 := hid row6;have G6 := hid gr6;have N6 := hid nw6
 have FAR6 := hid (show ∀ b, w.heap.size ≤ b → b < wq.heap.size → ∀ y, a6 = some y → y.block ≠ b from fun b hb hlt y hy e => by
  rcases nw6 y hy with ⟨u, hu, e2⟩ | h1
  ·exact FAR.out b hb u hu (e2.trans e)
  omega)
 have K6 := hid (show aC wr w.heap.size (au z p2) 31 from (gr6.block _ S2.out.k.lt (dC (FAR.out _ (Nat.le_refl _)))).trans S2.out.k);have Z6 := hid (show aC wr (w.heap.size + 1) bP 31 from (gr6.block _ S2.out.z.lt (dC (FAR.out _ (by omega)))).trans S2.out.z);clear hL row6 gr6 nw6 hI;have cK := K6.out.cell;have e8 : IntKind.i64.wrap ((I : Int) + 1) = (I : Int) + 1 := by go_arith
 by_cases hlt : I < z.ds.length
 ·obtain ⟨t, ht⟩ : ∃ t, z.ds[I]? = some t := ⟨_, List.getElem?_eq_getElem hlt⟩
  have AM := hid (show CB z (z.dk.toNat + m) = ⟨3, 0, 0, z.ball, (I : Int) + 1, 0, t.2⟩ by
   have h1 : z.dk.toNat + m = I := by have := HDD.out; have := HI.out; omega
   unfold CB;rw [h1, List.getD_eq_getElem?_getD, ht]
   rfl)
  obtain ⟨gD, ed, gDl, dc, _⟩ := S2.out.has.d.cell (iY z.ds I t ht).2;have CD := S2.out.has.d.col _ ed;obtain ⟨aS2, cS2, aD2, cD2, aH2, cH2, aW2, cW2, aY2, cY2, aB2, cB2, aA2, cA2⟩ := p2;dsimp only at ed;subst ed
  have dc6 : wr.cell? ⟨gD, I * 2 + 1, none⟩ = some (.string t.2) := (World.cell?_of_block (show wr.heap[(⟨gD, I * 2 + 1, none⟩ : Addr).block]? = wq.heap[(⟨gD, I * 2 + 1, none⟩ : Addr).block]? from G6.out.block gD gDl (dC (fun y hy e => by
   have h1 := S2.out.oth y.block (ROW.out.lt y hy).2 (OC.out y hy);have h2 : c2 gD = 1 := CD;rw [e] at h1
   omega)))).trans dc
  clear ht dc CD;have e6 : (0 : Int) ≤ (I : Int) := by omega
  have e7 : (I : Int) < (z.ds.length : Int) := by omega
  go_wp2_with fail;have hK0 : Ld wr (Value.slice a6 L.length c6).ownBlock wr := ⟨xf _ _⟩
  refine wp_region_held_drew (S := Ld wr (Value.slice a6 L.length c6).ownBlock) (by kernel_rfl) hK0.drew (fun q9 => ?_);simp only [qz, Nat.reduceAdd];clear hK0 cK;refine wpAnyH_take (i := 0) (v := .agg (au z ⟨aS2, cS2, some ⟨gD, 0, none⟩, cD2, aH2, cH2, aW2, cW2, aY2, cY2, aB2, cB2, aA2, cA2⟩)) (ax rfl) (by kernel_rfl) (by kernel_rfl) (by kernel_rfl) (fun _ _ _ h => h) (gG (fun w9 hS => (hS.gr.block _ K6.out.lt (dC (FAR6.out _ (Nat.le_refl _) S2.out.k.lt))).trans K6.out) rfl (by rfl) _ rfl rfl) q9 ?_;try simp only [qq]
  refine ag.go [1, 2, 3, 4, 5, 6, 7, 8, 9] ?_;iterate 9 (apply ag.take (ax rfl) (by kernel_rfl) (by rfl) (fun _ _ _ h => h) q9; (· intro w9 hSw; have hq := (show aC w9 w.heap.size (au z ⟨aS2, cS2, some ⟨gD, 0, none⟩, cD2, aH2, cH2, aW2, cW2, aY2, cY2, aB2, cB2, aA2, cA2⟩) 31 from (hSw.gr.block _ K6.out.lt (dC (FAR6.out _ (Nat.le_refl _) S2.out.k.lt))).trans K6.out).cell; clear hSw; go_simp; try with_reducible rfl); try simp only [qq])
  refine ag.fin ?_;refine bV 10 fun K hK => ?_
  go_simp;refine hK.out _ _ q9 (fun hNew => ?_);clear hK K hNew;try simp only [qq]
  refine ag.go [11] ?_;iterate 1 (apply ag.take (ax rfl) (by kernel_rfl) (by rfl) (fun _ _ _ h => h) q9; (· intro w9 hSw; have hq := (show aC w9 w.heap.size (au z ⟨aS2, cS2, some ⟨gD, 0, none⟩, cD2, aH2, cH2, aW2, cW2, aY2, cY2, aB2, cB2, aA2, cA2⟩) 31 from (hSw.gr.block _ K6.out.lt (dC (FAR6.out _ (Nat.le_refl _) S2.out.k.lt))).trans K6.out).cell; clear hSw; go_simp; try with_reducible rfl); try simp only [qq])
  refine ag.fin ?_;refine bV 12 fun K hK => ?_
  go_simp;refine hK.out _ _ q9 (fun hNew => ?_);clear hK K hNew;try simp only [qq]
  clear dc6;refine ag.go [13] ?_;iterate 1 (apply ag.take (ax rfl) (by kernel_rfl) (by rfl) (fun _ _ _ h => h) q9; (· intro w9 hSw; have hq := (show aC w9 w.heap.size (au z ⟨aS2, cS2, some ⟨gD, 0, none⟩, cD2, aH2, cH2, aW2, cW2, aY2, cY2, aB2, cB2, aA2, cA2⟩) 31 from (hSw.gr.block _ K6.out.lt (dC (FAR6.out _ (Nat.le_refl _) S2.out.k.lt))).trans K6.out).cell; clear hSw; go_simp; try with_reducible rfl); try simp only [qq])
  refine ag.fin ?_;refine bV 14 fun K hK => ?_
  go_simp;refine (rZ B z ⟨aS2, cS2, some ⟨gD, 0, none⟩, cD2, aH2, cH2, aW2, cW2, aY2, cY2, aB2, cB2, aA2, cA2⟩ ⟨3, 0, 0, z.ball, (I : Int) + 1, 0, t.2⟩ a6 L c6 wr.drew (Nat.le_trans HB.out (by have h1 := K6.out.lt; show w.heap.size ≤ wr.heap.size; omega)) ZO.out.1 ZO.out.2 (by omega) (show iJ B wr.drew a6 L c6 from R6.out.same (fun _ _ => rfl))).mono ?_;rintro e w7 ⟨a7, c7, rfl, row7, gr7, nw7⟩;have gr7' : wr.grownBy w7 (Value.slice a6 L.length c6).ownBlock := wu (show Below wr.heap.size wr wr.drew from (Below.refl _ _).drew) gr7;have nw7' : dP wr a6 a7 := nw7.base (Nat.le_refl _);have R7 := hid row7;have G7 := hid (vM G6.out N6.out gr7');have N7 := hid (N6.out.chain nw7' G6.out.size);have SS7 : Ld wr (Value.slice a6 L.length c6).ownBlock w7 := ⟨gr7'⟩
  clear row7 gr7 nw7 gr7' nw7';obtain ⟨L7, hL7⟩ : ∃ y, y = L ++ ji z.num ⟨3, 0, 0, z.ball, (I : Int) + 1, 0, t.2⟩ z.of_.toNat := ⟨_, rfl⟩
  rw [← hL7] at R7 ⊢;have E7 := hid (show L7 = L0 ++ rF z (m + 1) by rw [hL7, EQL.out, List.append_assoc, show rF z (m + 1) = rF z m ++ ji z.num (CB z (z.dk.toNat + m)) z.of_.toNat from rfl, AM.out]);clear hL7;go_wp2_with fail;refine hK.out _ _ SS7 (fun hNew => ?_);clear hK K q9 SS7;have q9 := hNew;clear hNew;try simp only [qq]
  refine ag.go [15] ?_;iterate 1 (apply ag.take (ax rfl) (by kernel_rfl) (by rfl) (fun _ _ _ h => h) q9; (· intro w9 hSw; have hq := (show aC w9 w.heap.size (au z ⟨aS2, cS2, some ⟨gD, 0, none⟩, cD2, aH2, cH2, aW2, cW2, aY2, cY2, aB2, cB2, aA2, cA2⟩) 31 from (hSw.gr.block _ K6.out.lt (dC (FAR6.out _ (Nat.le_refl _) S2.out.k.lt))).trans K6.out).cell; clear hSw; go_simp; try with_reducible rfl); try simp only [qq])
  refine ag.fin ?_;refine wpAnyH_done (by kernel_rfl) ?_ _;clear q9;go_wp2_with fail;go_roundw;case rel => exact ⟨I + 1, m + 1, a7, c7, L7, by have := HI.out; omega, by omega, by go_num, E7.out, rfl, R7.out, G7.out, N7.out⟩
  case measure => simp [intOf]; omega
 have hmm : I = z.ds.length := by omega
 have k6 := K6.out;have z6 := Z6.out
 have EFIN := hid (show L = H ++ qJ z by
  have h1 : z.dk.toNat = D := by have := HDD.out; omega
  rw [EQL.out, EL0.out, List.append_assoc];unfold qJ
  rw [h1, show z.ds.length - D = m by have := HI.out; omega])
 subst hmm;go_wp2_with (first | ((with_reducible refine ah w.heap.size (au z p2) rfl ?_ ?_ ?_); rfl; exact k6) | ((with_reducible refine af (w.heap.size + 1) bP (au z p2) rfl rfl ?_ ?_ ?_ ?_ ?_); rfl; rfl; exact z6; simp [Value.oneCell']));have hz := setRow_heap _ (w.heap.size + 1) _ (au z p2) _ _ z6;refine oN (ty := 31) Try.results104 (w.heap.size + 1) (au z p2) _ ?_ ?_ hz Try.underlying31 rfl (by kernel_rfl) ?_
 ·rfl
 ·rfl
 rw [← EL.out, ← EFIN.out];have BW : Below B w wr := S2.out.bel.trans ⟨G6.out.os, G6.out.tape, G6.out.output, G6.out.size, fun b hb => G6.out.block b (by have := S2.out.z.lt; have := HB.out; omega) (dC (fun y hy e => by have := (ROW.out.lt y hy).1; omega))⟩;refine ⟨p2, X2, dm wq.heap.size c2, a6, c6, rfl, ?_, (R6.out.same (fun y hy => setRow_other _ _ _ _ (fun e => FAR6.out (w.heap.size + 1) (by omega) S2.out.z.lt y hy e))), ?_, ay BW (by have := HB.out; omega) _, ?_⟩
 ·refine ((S2.out.has.fresh.same (w' := wr) (fun b hb hlt h8 => G6.out.block b hlt (dC (fun y hy e => by
   have h1 := S2.out.oth y.block (ROW.out.lt y hy).2 (OC.out y hy);rw [bn hlt] at h8;rw [e] at h1
   omega)))).setRow (g := w.heap.size + 1) (by rw [bn S2.out.z.lt]; exact S2.out.c1) _)
 ·intro y hy;rcases N6.out y hy with ⟨u, hu, e⟩ | h1
  ·have h2 := S2.out.oth u.block (ROW.out.lt u hu).2 (OC.out u hu);rw [← e, bn (by have := (ROW.out.lt u hu).2; have := S2.out.z.lt; omega)];exact h2.2
  rw [bI h1]; omega
 intro b hlt h8 hne;have h2 := S2.out.oth b hlt h8;have h3 := S2.out.z.lt;refine ⟨(setRow_other _ (w.heap.size + 1) b _ (by omega)).trans ((G6.out.block b (by omega) (dC hne)).trans h2.1), ?_⟩;rw [bn (by omega)];exact h2.2
end Go.Proofs.Ytjdceoimignnpaa
