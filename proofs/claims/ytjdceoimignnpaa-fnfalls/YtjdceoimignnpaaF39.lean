import Derived.Test.YtjdceoimignnpaaF32
import Derived.Test.YtjdceoimignnpaaF38
import Derived.Deep.Cut
namespace Go.Proofs.Ytjdceoimignnpaa
open Go.ChangeShapes Go.WideShapes Go.ChangeAt Go.RowKit next
set_option linter.unusedVariables false
set_option linter.unusedSimpArgs false
set_option maxHeartbeats 32000000
set_option maxRecDepth 20000
def Md (w : World) (r' : Rc) (l : List Ms) (e : Ending) (w' : World) : Prop := ∃ p' X' col' a' c', e = .returned (.tuple #[.agg (au r' p'), .slice a' l.length c']) ∧ aG w.heap.size w' r' p' X' col' ∧ jB w' a' l ∧ Below w.heap.size w w' ∧ ∃ H : List Mp, H.map (·.1) = l ∧ iJ w.heap.size w' a' H c' ∧ qg w.heap.size w' (fun _ => 0) 0 H
theorem zO (B : Nat) (w : World) (col : Nat → Nat) (t : Nat) : qg B w col t [] := ⟨fun m hm => absurd hm (by simp), List.Pairwise.nil⟩
theorem zV (B : Nat) (r : Rc) (p : fU) (X : iU) (col : Nat → Nat) (w : World) (hS : bD r) (h : aG B w r p X col) :
  Calls Try.prog 98 #[.agg (au r p)] w (Md w (iG r) (jc r)) := by
 have RD := hid h;have HS := hid hS;clear h hS;obtain ⟨V, hV⟩ : ∃ V, V = ((w.alloc (.cells (au r p) 31)).alloc (.cells bP 31)).alloc (.cells #[] 49) := ⟨_, rfl⟩
 have BV := hid (show Below w.heap.size w V by rw [hV]; exact ae (ae (ae (Below.refl _ _) _) _) _);have K1 := hid (show aC V w.heap.size (au r p) 31 by rw [hV]; exact ((aC.new _ _ _).alloc _).alloc _);have K2 := hid (show aC V (w.heap.size + 1) bP 31 by rw [hV]; exact (aC.new' _ _ (by simp)).alloc _);have KO := hid (show aC V (w.heap.size + 1 + 1) #[] 49 by rw [hV]; exact aC.new' _ _ (by simp));have k1 := K1.out;rw [hV] at k1;go_enter Try.func98, Try.ntmps98;go_wp2_with ((with_reducible refine ah w.heap.size (au r p) rfl ?_ ?_ ?_); rfl; exact k1);rw [← hV];clear hV k1;refine (jf r p _ HS.out (RD.out.ext BV.out).at).mono ?_;rintro e w1 ⟨rfl, hb1⟩;have B1 := hid (aj BV.out hb1);have k1 := K1.out.ext hb1;have k2 := K2.out.ext hb1;have K1b := hid k1;have K2b := hid k2;have KOb := hid (KO.out.ext hb1);have SZ1 := hid (show w.heap.size + 1 + 1 < w1.heap.size from KOb.out.lt);clear hb1 K1 K2 KO BV;cases hv : bf r
 case false =>
  have HN := hid (show iG r = pV ∧ jc r = [] from ⟨by unfold iG; rw [hv]; rfl, by unfold jc; rw [hv]; simp⟩)
  go_wp2_with (first
   | ((with_reducible refine bH (ty := 31) bP ?_ ?_); (· kernel_rfl))
   | ((with_reducible refine af (w.heap.size + 1) bP bP rfl rfl ?_ ?_ ?_ ?_ ?_); rfl; rfl; exact k2; simp [Value.oneCell']))
  have hz := setRow_heap _ (w.heap.size + 1) _ bP _ _ k2;refine oN (ty := 31) Try.results98 (w.heap.size + 1) bP _ ?_ ?_ hz Try.underlying31 rfl (by kernel_rfl) ?_
  ·rfl
  ·rfl
  rw [HN.out.1, HN.out.2];exact ⟨IX, ⟨[], []⟩, fun _ => 0, _, _, rfl, lT _ _ _, fun i s hs => by simp at hs, ay B1.out (by omega) _, [], rfl, gI (k := 8) ((setRow_other _ _ _ _ (by omega)).trans KOb.out) (by omega) rfl, zO _ _ _ _⟩
 go_wp2_with ((with_reducible refine ah w.heap.size (au r p) rfl ?_ ?_ ?_); rfl; exact k1);refine (jm B r p X col _ HS.out (RD.out.ext B1.out)).mono ?_;rintro e w2 ⟨p2, X2, col2, rfl, has2, hb2⟩;have B2 := hid (aj B1.out hb2);have SZ2 := hid (show w1.heap.size ≤ w2.heap.size from hb2.size);have K1c := hid (K1b.out.ext hb2);have K2c := hid (K2b.out.ext hb2);have KOc := hid (KOb.out.ext hb2);have HF2 := hid has2.fresh;clear has2 hb2 k1 k2 K1b K2b KOb;obtain ⟨W, hW⟩ : ∃ W, W = w2.alloc (.cells (au r p2) 31) := ⟨_, rfl⟩
 have EW := hid (show Below w2.heap.size w2 W by rw [hW]; exact ae (Below.refl _ _) _);have K5 := hid (show aC W w2.heap.size (au r p2) 31 by rw [hW]; exact aC.new _ _ _);have K2d := hid (K2c.out.ext EW.out);have K1d := hid (K1c.out.ext EW.out);have KOd := hid (KOc.out.ext EW.out);have HAW := hid (HF2.out.ext EW.out);have BW := hid (aj B2.out EW.out);clear K1c K2c KOc HF2;have k5 := K5.out;have k2 := K2d.out;have cK := K1d.out.cell;rw [hW] at k5 k2 cK;cases hu : r.up
 case false =>
  have HN := hid (show iG r = r ∧ jc r = [] from ⟨by unfold iG; rw [if_pos hv, hu]; rfl, by unfold jc; rw [hu]; simp⟩)
  go_wp2_with (first
   | ((with_reducible refine dI (au r p2) rfl ?_ ?_ ?_ ?_ ?_); rfl; rfl; rfl; simp [Value.oneCell'])
   | ((with_reducible refine ah w2.heap.size (au r p2) rfl ?_ ?_ ?_); rfl; exact k5)
   | ((with_reducible refine af (w.heap.size + 1) bP (au r p2) rfl rfl ?_ ?_ ?_ ?_ ?_); rfl; rfl; exact k2; simp [Value.oneCell']))
  have hz := setRow_heap _ (w.heap.size + 1) _ (au r p2) _ _ k2;refine oN (ty := 31) Try.results98 (w.heap.size + 1) (au r p2) _ ?_ ?_ hz Try.underlying31 rfl (by kernel_rfl) ?_
  ·rfl
  ·rfl
  rw [HN.out.1, HN.out.2, ← hW];exact ⟨p2, X2, _, _, _, rfl, (HAW.out.far (by have := SZ1.out; omega) _).lower (by have := SZ1.out; omega), fun i s hs => by simp at hs, ay BW.out (by omega) _, [], rfl, gI (k := 8) ((setRow_other _ _ _ _ (by omega)).trans KOd.out) (by omega) rfl, zO _ _ _ _⟩
 have HU := hid hu;have HV := hid hv;obtain ⟨c0, hc0⟩ : ∃ c : Nat → Nat, c = under w1.heap.size (dm w2.heap.size col2) := ⟨_, rfl⟩
 have S0 := hid (show ry w w2.heap.size r p2 X2 c0 (some ⟨(w.heap.size + 1 + 1), 0, none⟩) [] 0 W by
  have h1 := SZ1.out;have h2 := SZ2.out;rw [hc0]
  exact ⟨K5.out, K2d.out, HAW.out.down (by omega), by rw [o6 (by omega), bI (Nat.le_refl _)]; omega, by rw [iT (by omega)]; omega, BW.out, ⟨gI (k := 8) KOd.out (by omega) rfl, ⟨fun m hm => absurd hm (by simp), List.Pairwise.nil⟩, fun x hx => by simp only [Option.some.injEq] at hx; rw [← hx]; show 8 < under w1.heap.size (dm w2.heap.size col2) (w.heap.size + 1 + 1); rw [iT (by omega)]; omega, fun q hq => absurd hq (by simp), fun i s hs => by simp at hs⟩, by omega⟩)
 clear hc0 k5 k2 hv;have cX := K5.out.cell;rw [hW] at cX;clear K5 K2d K1d KOd HAW BW;go_wp2_with ((with_reducible refine dI (au r p2) rfl ?_ ?_ ?_ ?_ ?_); rfl; rfl; rfl; simp [Value.oneCell']);rw [← hW];clear hW cK cX hu;refine (lU r.dp r.dk p2.aD r.ds r.ds.length p2.cD _ rfl HS.out.lD S0.out.has.d.plain.1 S0.out.has.d.plain.2 S0.out.has.at.hD).mono ?_;rintro e w3 ⟨g3, cap3, rfl, hg3, ow3, hb3⟩;obtain ⟨Y, hY⟩ : ∃ v, v = ((w3.setCell ⟨w2.heap.size, 3, none⟩ (.int .i64 r.dp)).setCell ⟨w2.heap.size, 4, none⟩ (.int .i64 r.dk)).setCell ⟨w2.heap.size, 5, none⟩ (.slice (some ⟨g3, 0, none⟩) r.ds.length cap3) := ⟨_, rfl⟩
 obtain ⟨c1, hc1⟩ : ∃ c : Nat → Nat, c = dM (some ⟨g3, 0, none⟩) 0 (dm W.heap.size c0) := ⟨_, rfl⟩
 have S1 := hid (show ry w w2.heap.size { r with sp := r.dp, sk := r.dk, ss := r.ds } { p2 with aS := some ⟨g3, 0, none⟩, cS := cap3 } X2 c1 (some ⟨(w.heap.size + 1 + 1), 0, none⟩) [] 0 Y by
  have hx := S0.out.hx;have far : ∀ b, b < W.heap.size → dM (some ⟨g3, 0, none⟩) 0 (dm W.heap.size c0) b = c0 b := fun b hlt => by
   rw [eQ (fun y hy e => by simp only [Option.some.injEq] at hy; rw [← hy] at e; have : g3 = b := e; omega), bn hlt]
  rw [hY, hc1];refine S0.out.step hb3 (((((S0.out.has.jW far).ext hb3).JE (a' := some ⟨g3, 0, none⟩) (c' := cap3) (l := r.ds) (aO.mk (fE ow3 S0.out.lt) (fun x hx => by simp only [Option.some.injEq] at hx; rw [← hx]; exact if_pos rfl)) S0.out.has.gd.d)).like rfl rfl rfl rfl rfl rfl rfl) (fun b hlt h8 => by rw [far b hlt]; exact h8) ?_ (fun b hb => (heap_setCell_other _ ⟨w2.heap.size, 5, none⟩ b _ hb).trans ((heap_setCell_other _ ⟨w2.heap.size, 4, none⟩ b _ hb).trans (heap_setCell_other _ ⟨w2.heap.size, 3, none⟩ b _ hb))) (bG (bG (bG (aj S0.out.bel hb3) (show w.heap.size ≤ w2.heap.size by omega) _) (show w.heap.size ≤ w2.heap.size by omega) _) (show w.heap.size ≤ w2.heap.size by omega) _);have := (((S0.out.k.ext hb3).set (o := 3) (.int .i64 r.dp)).set (o := 4) (.int .i64 r.dk)).set (o := 5) (.slice (some ⟨g3, 0, none⟩) r.ds.length cap3)
  simpa [au] using this)
 have k3 := S0.out.k.ext hb3;have cK3 := k3.cell;have fK3 := k3.free;have cY := S1.out.k.cell;have OW := S1.out.out.row.own;have RDH := S1.out.has.h.read;have hHl := HS.out.lH;have BY := hid (show w.heap.size ≤ Y.heap.size from S1.out.lt);rw [hY] at cY OW RDH;clear hc1 k3 hg3 ow3 hb3 S0;go_wp2_with ((with_reducible refine nM w.heap.size (some ⟨(w.heap.size + 1 + 1), 0, none⟩) 0 0 [] p2.aH r.held.length p2.cH (bZ X2.H) ?_ ?_ ?_ ?_ ?_ ?_ ?_ ?_); rfl; rfl; exact OW; exact RDH; (· exact mD _); (· omega); (· rw [← hY]; exact BY.out); (intro a4 c4 w4 q1 q2 q3); (rw [← hY] at q2 q3); (have k4 := (show aC w4 w2.heap.size _ 31 from (q2.block _ S1.out.k.lt (dC (aO.ne S1.out.out.row S1.out.k (by decide)))).trans S1.out.k)); (have cK4 := (k4.alloc (.cells #[] 49)).cell); (have fK4 := (k4.alloc (.cells #[] 49)).free); (clear cK3 fK3 cY OW RDH k4));have XL := hid (show X2.H.length = r.held.length by have := S1.out.has.hm; rw [← List.length_map (f := (·.1)), this]);have H400 := hid (AV HV.out HS.out).h;have XM := hid (show X2.H.map (·.1) = r.held from S1.out.has.hm);have row4 : iJ w.heap.size w4 a4 X2.H c4 := aO.mk (by rw [XL.out]; simpa using q1) (fun _ _ => rfl);have S2' := hid (S1.out.Kq q2 row4 q3);obtain ⟨V3, hV3⟩ : ∃ v, v = (w4.alloc (.cells #[] 49)).setCell ⟨w2.heap.size, 9, none⟩ (.slice (some ⟨w4.heap.size, 0, none⟩) 0 0) := ⟨_, rfl⟩
 rw [← hV3] at S2' ⊢;have HZ := hid (show V3.heap.size = w4.heap.size + 1 by rw [hV3]; simp);clear hV3 q1 q2 q3 row4 cK4 fK4 S1 hY;obtain ⟨x2, hx2⟩ : ∃ x, x = { r with sp := r.dp, sk := r.dk, ss := r.ds, held := [] } := ⟨_, rfl⟩
 obtain ⟨p3, hp3⟩ : ∃ x, x = { p2 with aS := some ⟨g3, 0, none⟩, cS := cap3, aH := some ⟨w4.heap.size, 0, none⟩, cH := 0 } := ⟨_, rfl⟩
 obtain ⟨c2, hc2⟩ : ∃ x : Nat → Nat, x = dM (some ⟨w4.heap.size, 0, none⟩) 2 (dm Y.heap.size (jJ c1)) := ⟨_, rfl⟩
 have S2 := hid (show ry w w2.heap.size x2 p3 ⟨[], X2.A⟩ c2 a4 X2.H c4 V3 by rw [hx2, hp3, hc2]; exact S2'.out);have EX2 := hid hx2;have VT := hid (pJ HV.out HS.out);have DD := hid (show 0 ≤ x2.dk ∧ x2.dk ≤ x2.ds.length by rw [hx2]; exact ⟨VT.out.d0, VT.out.d1⟩);have HEA := hid (show 0 ≤ x2.heard ∧ x2.heard ≤ 1000000 by rw [hx2]; exact (show 0 ≤ r.heard ∧ r.heard ≤ 1000000 from vG HV.out));have SM2 := hid (show x2.ds.length ≤ 1048576 ∧ x2.wish.length ≤ 1048576 by rw [hx2]; exact ⟨HS.out.lD, HS.out.lW⟩);clear S2' hx2 hp3 hc2;obtain ⟨D, hD⟩ : ∃ D : Nat, x2.dk = (D : Int) := ⟨x2.dk.toNat, by have := DD.out; omega⟩
 have ED := hid hD;have hDl : D ≤ x2.ds.length := by have := DD.out; omega
 clear hD;try simp only [Nat.zero_add]
 go_loopw [6, 7] (fun o i wr => ∃ (n : Nat) (a6 : Option Addr) (c6 : Nat) (L : List ByteArray), n ≤ x2.wish.length ∧ i = .int .i64 n ∧ L = (x2.wish.take n).filter (fun t => !iw (x2.ds.take D) t) ∧ o = .slice a6 L.length c6 ∧ aO V3.heap.size wr (fun _ => 0) 0 9 1 a6 L.length c6 (fH L) ∧ Below V3.heap.size V3 wr) (fun o i _ => x2.wish.length - (intOf i).toNat);case atStart => exact ⟨0, some ⟨V3.heap.size, 0, none⟩, 0, [], Nat.zero_le _, rfl, by simp, by rw [HZ.out]; rfl, gI (k := 1) (aC.new _ _ _) (Nat.le_refl _) rfl, ae (Below.refl _ _) _⟩
 obtain ⟨n, a6, c6, L, hn, rfl, hL, rfl, row6, bel6⟩ := hrel;have EL := hid hL;have LL : L.length ≤ n := by rw [hL]; exact Nat.le_trans (List.length_filter_le _ _) (by simp; omega)
 have R6 := hid row6;have B6 := hid bel6;have S3 := hid (S2.out.ext bel6);clear hL row6 bel6;have cK := S3.out.k.cell;have sm1 := SM2.out.1;have sm2 := SM2.out.2;have e0 := ED.out;by_cases hnl : n < x2.wish.length
 ·obtain ⟨t, ht0⟩ : ∃ t, x2.wish[n]? = some t := ⟨_, List.getElem?_eq_getElem hnl⟩
  have TK := hid (show x2.wish.take (n + 1) = x2.wish.take n ++ [t] by rw [List.take_add_one, ht0]; rfl);have TG := hid (show t.size ≤ maxLen from S3.out.has.gd.t n t ht0);obtain ⟨gW, ew, gWl, ct, _⟩ := S3.out.has.t.cell (j := n) (u := .string t) (by simp [fH, ht0]);have hcap := S3.out.has.d.len.2;obtain ⟨aS3, cS3, aD3, cD3, aH3, cH3, aW3, cW3, aY3, cY3, aB3, cB3, aA3, cA3⟩ := p3;dsimp only at ew hcap;subst ew;clear ht0;have e6 : (0 : Int) ≤ (n : Int) := by omega
  have e7 : (n : Int) < (x2.wish.length : Int) := by omega
  have e8 : IntKind.i64.wrap ((n : Int) + 1) = (n : Int) + 1 := by go_arith
  have d6 : (0 : Int) ≤ (D : Int) := by omega
  have d7 : (D : Int) ≤ (cD3 : Int) := by omega
  have GWl := hid gWl;have CT := hid ct;clear ct gWl;go_wp2_with fail;have hK0 : nZ wr.heap.size wr wr := ⟨Below.refl _ _⟩
  refine wp_region_held_drew (S := nZ wr.heap.size wr) (by kernel_rfl) hK0.drew (fun q9 => ?_);simp only [qz, Nat.reduceAdd];clear hK0 cK;refine ag.go [0, 1, 2, 3, 4, 5, 7, 8, 9] ?_;iterate 9 (apply ag.take (ax rfl) (by kernel_rfl) (by rfl) (fun _ _ _ h => h) q9; (· intro w9 hSw; have hq := (S3.out.k.ext hSw.bel).cell; have hc := (hSw.bel.cell (p := ⟨gW, n, none⟩) GWl.out).trans CT.out; clear hSw; go_simp; try with_reducible rfl); try simp only [qq])
  refine ag.fin ?_;refine wpAnyH_ready (rs := [6, 10]) (by kernel_rfl) (by simp) ?_;refine AllReadyH.cons (ax rfl) (fun K hK => ?_) (AllReadyH.cons (ax rfl) (fun K hK => ?_) AllReadyH.nil)
  ·go_simp;refine hK.out _ _ q9 (fun hNew => ?_);clear hK K hNew;try simp only [qq]
   refine bV 10 fun K hK => ?_
   go_simp;refine hK.out _ _ q9 (fun hNew => ?_);clear hK K hNew;try simp only [qq]
   refine ag.go [11] ?_;iterate 1 (apply ag.take (ax rfl) (by kernel_rfl) (by rfl) (fun _ _ _ h => h) q9; (· intro w9 hSw; have hq := (S3.out.k.ext hSw.bel).cell; have hc := (hSw.bel.cell (p := ⟨gW, n, none⟩) GWl.out).trans CT.out; clear hSw; go_simp; try with_reducible rfl); try simp only [qq])
   refine ag.fin ?_;refine bV 12 fun K hK => ?_
   go_simp;have LT : (x2.ds.take D).length = D := by rw [List.length_take]; omega
   refine (oG aD3 (x2.ds.take D) D cD3 t _ LT (by unfold maxLen; omega) ((S3.out.has.at.hD.take D).ext q9.bel)).mono ?_;rintro e w5 ⟨rfl, hb5⟩;go_wp2_with fail;refine hK.out _ _ ⟨aj q9.bel hb5⟩ (fun hNew => ?_);clear hK K q9 hb5 LT;have q9 := hNew;clear hNew;try simp only [qq]
   cases hh : iw (x2.ds.take D) t
   case true =>
    refine ag.go [13] ?_;iterate 1 (apply ag.take (ax rfl) (by kernel_rfl) (by rfl) (fun _ _ _ h => h) q9; (· intro w9 hSw; have hq := (S3.out.k.ext hSw.bel).cell; have hc := (hSw.bel.cell (p := ⟨gW, n, none⟩) GWl.out).trans CT.out; clear hSw; go_simp; try with_reducible rfl); try simp only [qq])
    refine ag.fin ?_;refine wpAnyH_done (by kernel_rfl) ?_ _;have B7 := hid (aj B6.out (show Below wr.heap.size wr w5 from q9.bel));have R7 := hid (R6.out.ext q9.bel);have H57 := hid (show Below wr.heap.size wr w5 from q9.bel);clear q9;go_wp2_with fail;go_roundw;case rel => exact ⟨n + 1, a6, c6, L, by omega, by go_num, by rw [TK.out, List.filter_append, ← EL.out]; simp [hh], rfl, R7.out, B7.out⟩
    case measure => simp [intOf]; omega
   case false =>
    refine ag.go [13] ?_;iterate 1 (apply ag.take (ax rfl) (by kernel_rfl) (by rfl) (fun _ _ _ h => h) q9; (· intro w9 hSw; have hq := (S3.out.k.ext hSw.bel).cell; have hc := (hSw.bel.cell (p := ⟨gW, n, none⟩) GWl.out).trans CT.out; clear hSw; go_simp; try with_reducible rfl); try simp only [qq])
    refine ag.fin ?_;refine wpAnyH_done (by kernel_rfl) ?_ _;have B7 := hid (aj B6.out (show Below wr.heap.size wr w5 from q9.bel));have R7 := hid (R6.out.ext q9.bel);have H57 := hid (show Below wr.heap.size wr w5 from q9.bel);clear q9;have S7 := hid (S2.out.ext B7.out);have k7 := S7.out.k.cell;have ct7 := (H57.out.cell (p := ⟨gW, n, none⟩) GWl.out).trans CT.out;obtain ⟨Z7, hZ7⟩ : ∃ v, v = w5.alloc (.cells #[.string t] 9) := ⟨_, rfl⟩
    have E7 := hid (show Below w5.heap.size w5 Z7 by rw [hZ7]; exact ae (Below.refl _ _) _);have OW7 := (R7.out.ext E7.out).own;have NW7 : aN Z7 (some ⟨w5.heap.size, 0, none⟩) 1 1 1 [.string t] := by
     rw [hZ7]
     exact ⟨rfl, fun e => by simp at e, fun x hx => by
      simp only [Option.some.injEq] at hx;subst hx
      exact ⟨rfl, dG (cs := [.string t]) (aC.new _ _ _)⟩⟩
    have BZ7 := hid (show V3.heap.size ≤ Z7.heap.size from Nat.le_trans B7.out.size E7.out.size);rw [hZ7] at OW7 NW7;go_wp2_with ((with_reducible refine nI V3.heap.size a6 L.length c6 (fH L) (some ⟨w5.heap.size, 0, none⟩) 1 1 [.string t] ?_ ?_ ?_ ?_ ?_ ?_ ?_ ?_); rfl; rfl; exact OW7; exact NW7; (· intro u hu; simp at hu; rw [hu]; rfl); (· omega); (· rw [← hZ7]; exact BZ7.out); (intro a8 c8 w8 q1 q2 q3));rw [← hZ7] at q2;have bel8 : Below V3.heap.size V3 w8 := below_grow (aj B7.out E7.out) q2 (fun j hj => (R7.out.own.lt j hj).1) BZ7.out;have row8 : aO V3.heap.size w8 (fun _ => 0) 0 9 1 a8 (L ++ [t]).length c8 (fH (L ++ [t])) := aO.mk (by rw [List.length_append]; simpa [fH] using q1) (fun _ _ => rfl);clear OW7 NW7 q1 q2 q3 hZ7 k7 ct7;go_roundw;case rel => exact ⟨n + 1, a8, c8, L ++ [t], by omega, by go_num, by rw [TK.out, List.filter_append, ← EL.out]; simp [hh], by rw [List.length_append]; rfl, row8, bel8⟩
    case measure => simp [intOf]; omega
  go_simp;refine hK.out _ _ q9 (fun hNew => ?_);clear hK K hNew;try simp only [qq]
  refine ag.go [11] ?_;iterate 1 (apply ag.take (ax rfl) (by kernel_rfl) (by rfl) (fun _ _ _ h => h) q9; (· intro w9 hSw; have hq := (S3.out.k.ext hSw.bel).cell; have hc := (hSw.bel.cell (p := ⟨gW, n, none⟩) GWl.out).trans CT.out; clear hSw; go_simp; try with_reducible rfl); try simp only [qq])
  refine ag.fin ?_;refine bV 6 fun K hK => ?_
  go_simp;refine hK.out _ _ q9 (fun hNew => ?_);clear hK K hNew;try simp only [qq]
  refine bV 12 fun K hK => ?_
  go_simp;have LT : (x2.ds.take D).length = D := by rw [List.length_take]; omega
  refine (oG aD3 (x2.ds.take D) D cD3 t _ LT (by unfold maxLen; omega) ((S3.out.has.at.hD.take D).ext q9.bel)).mono ?_;rintro e w5 ⟨rfl, hb5⟩;go_wp2_with fail;refine hK.out _ _ ⟨aj q9.bel hb5⟩ (fun hNew => ?_);clear hK K q9 hb5 LT;have q9 := hNew;clear hNew;try simp only [qq]
  cases hh : iw (x2.ds.take D) t
  case true =>
   refine ag.go [13] ?_;iterate 1 (apply ag.take (ax rfl) (by kernel_rfl) (by rfl) (fun _ _ _ h => h) q9; (· intro w9 hSw; have hq := (S3.out.k.ext hSw.bel).cell; have hc := (hSw.bel.cell (p := ⟨gW, n, none⟩) GWl.out).trans CT.out; clear hSw; go_simp; try with_reducible rfl); try simp only [qq])
   refine ag.fin ?_;refine wpAnyH_done (by kernel_rfl) ?_ _;have B7 := hid (aj B6.out (show Below wr.heap.size wr w5 from q9.bel));have R7 := hid (R6.out.ext q9.bel);have H57 := hid (show Below wr.heap.size wr w5 from q9.bel);clear q9;go_wp2_with fail;go_roundw;case rel => exact ⟨n + 1, a6, c6, L, by omega, by go_num, by rw [TK.out, List.filter_append, ← EL.out]; simp [hh], rfl, R7.out, B7.out⟩
   case measure => simp [intOf]; omega
  case false =>
   refine ag.go [13] ?_;iterate 1 (apply ag.take (ax rfl) (by kernel_rfl) (by rfl) (fun _ _ _ h => h) q9; (· intro w9 hSw; have hq := (S3.out.k.ext hSw.bel).cell; have hc := (hSw.bel.cell (p := ⟨gW, n, none⟩) GWl.out).trans CT.out; clear hSw; go_simp; try with_reducible rfl); try simp only [qq])
   refine ag.fin ?_;refine wpAnyH_done (by kernel_rfl) ?_ _;have B7 := hid (aj B6.out (show Below wr.heap.size wr w5 from q9.bel));have R7 := hid (R6.out.ext q9.bel);have H57 := hid (show Below wr.heap.size wr w5 from q9.bel);clear q9;have S7 := hid (S2.out.ext B7.out);have k7 := S7.out.k.cell;have ct7 := (H57.out.cell (p := ⟨gW, n, none⟩) GWl.out).trans CT.out;obtain ⟨Z7, hZ7⟩ : ∃ v, v = w5.alloc (.cells #[.string t] 9) := ⟨_, rfl⟩
   have E7 := hid (show Below w5.heap.size w5 Z7 by rw [hZ7]; exact ae (Below.refl _ _) _);have OW7 := (R7.out.ext E7.out).own;have NW7 : aN Z7 (some ⟨w5.heap.size, 0, none⟩) 1 1 1 [.string t] := by
    rw [hZ7]
    exact ⟨rfl, fun e => by simp at e, fun x hx => by
     simp only [Option.some.injEq] at hx;subst hx
     exact ⟨rfl, dG (cs := [.string t]) (aC.new _ _ _)⟩⟩
   have BZ7 := hid (show V3.heap.size ≤ Z7.heap.size from Nat.le_trans B7.out.size E7.out.size);rw [hZ7] at OW7 NW7;go_wp2_with ((with_reducible refine nI V3.heap.size a6 L.length c6 (fH L) (some ⟨w5.heap.size, 0, none⟩) 1 1 [.string t] ?_ ?_ ?_ ?_ ?_ ?_ ?_ ?_); rfl; rfl; exact OW7; exact NW7; (· intro u hu; simp at hu; rw [hu]; rfl); (· omega); (· rw [← hZ7]; exact BZ7.out); (intro a8 c8 w8 q1 q2 q3));rw [← hZ7] at q2;have bel8 : Below V3.heap.size V3 w8 := below_grow (aj B7.out E7.out) q2 (fun j hj => (R7.out.own.lt j hj).1) BZ7.out;have row8 : aO V3.heap.size w8 (fun _ => 0) 0 9 1 a8 (L ++ [t]).length c8 (fH (L ++ [t])) := aO.mk (by rw [List.length_append]; simpa [fH] using q1) (fun _ _ => rfl);clear OW7 NW7 q1 q2 q3 hZ7 k7 ct7;go_roundw;case rel => exact ⟨n + 1, a8, c8, L ++ [t], by omega, by go_num, by rw [TK.out, List.filter_append, ← EL.out]; simp [hh], by rw [List.length_append]; rfl, row8, bel8⟩
   case measure => simp [intOf]; omega
 have hnn : n = x2.wish.length := by omega
 subst hnn;obtain ⟨wq, hwq⟩ : ∃ v : World, v = wr := ⟨_, rfl⟩
 subst hwq;obtain ⟨c3, hc3⟩ : ∃ c : Nat → Nat, c = dM a6 3 (dm V3.heap.size c2) := ⟨_, rfl⟩
 obtain ⟨Y4, hY4⟩ : ∃ v, v = wq.setCell ⟨w2.heap.size, 10, none⟩ (.slice a6 L.length c6) := ⟨_, rfl⟩
 have S4 := hid (show ry w w2.heap.size { x2 with wish := L } { p3 with aW := a6, cW := c6 } ⟨[], X2.A⟩ c3 a4 X2.H c4 Y4 by
  have hx := S2.out.hx;have far : ∀ b, b < V3.heap.size → dM a6 3 (dm V3.heap.size c2) b = c2 b := fun b hlt => by
   rw [eQ (fun y hy e => by have := (R6.out.lt y hy).1; omega), bn hlt]
  rw [hY4, hc3]
  refine S2.out.step B6.out (((((S2.out.has.jW far).ext B6.out).LX (a' := a6) (c' := c6) (l := L) ((R6.out.low S2.out.lt).tint (fun y hy => iL hy)) (fun i s hs => by
   have hm := List.mem_of_getElem? hs;rw [EL.out] at hm;obtain ⟨j, hj⟩ := List.getElem?_of_mem (List.mem_of_mem_take (List.mem_filter.1 hm).1)
   exact S2.out.has.gd.t j s hj))).like rfl rfl rfl rfl rfl rfl rfl) (fun b hlt h8 => by rw [far b hlt]; exact h8) ?_ (fun b hb => heap_setCell_other _ ⟨w2.heap.size, 10, none⟩ b _ hb) (bG (aj S2.out.bel B6.out) (show w.heap.size ≤ w2.heap.size by omega) _)
  have := (S2.out.k.ext B6.out).set (o := 10) (.slice a6 L.length c6)
  simpa [au] using this)
 have fK := S3.out.k.free;have cY4 := S4.out.k.cell;rw [hY4] at cY4;clear hc3 hnl
 go_upto_if 68 with fail
 rw [← hY4];clear hY4 fK cK cY4;go_cut [] from 11 (fun wx => ∃ h' : Int, h' = (if x2.heard < 1000000 then x2.heard + 1 else x2.heard) ∧ ry w w2.heap.size { x2 with wish := L, heard := h' } { p3 with aW := a6, cW := c6 } ⟨[], X2.A⟩ c3 a4 X2.H c4 wx)
 case first =>
  have cY4 := S4.out.k.cell;have fY4 := S4.out.k.free;by_cases hh : x2.heard < 1000000
  ·have u1 : decide (x2.heard < 1000000) = true := decide_eq_true hh;have u2 : IntKind.i64.wrap (x2.heard + 1) = x2.heard + 1 := by have := HEA.out; go_arith
   go_wp2_with fail
   go_meet
   case rel =>
    refine ⟨x2.heard + 1, by rw [if_pos hh], ?_⟩;exact S4.out.put _ 17 (.int .i64 (x2.heard + 1)) rfl (S4.out.has.like rfl rfl rfl rfl rfl rfl rfl)
  have u1 : decide (x2.heard < 1000000) = false := decide_eq_false hh;have HH := hid hh;go_wp2_with fail
  go_meet
  case rel => exact ⟨x2.heard, by rw [if_neg (by have := HH.out; omega)], S4.out⟩
 case rest =>
  obtain ⟨h', hh', hs5⟩ := hcut;obtain ⟨x4, hx4⟩ : ∃ x, x = { x2 with wish := L, heard := h' } := ⟨_, rfl⟩
  obtain ⟨p4, hp4⟩ : ∃ x, x = { p3 with aW := a6, cW := c6 } := ⟨_, rfl⟩
  rw [← hx4, ← hp4] at hs5;have S5 := hid hs5;have ET := hid (show x4 = iy r by rw [hx4, hh', EX2.out, EL.out, EX2.out, List.take_length]; unfold iy; have h1 : r.dk.toNat = D := (by have := ED.out; rw [EX2.out] at this; dsimp only at this; omega); rw [h1]);have LW4 := hid (show L.length ≤ 1048576 by have := SM2.out.2; omega);have SM4 := hid (show bD x4 by rw [hx4, EX2.out]; exact ⟨HS.out.lD, HS.out.lD, Nat.zero_le _, LW4.out, HS.out.lY, HS.out.lB, HS.out.lA, fun i s hs => by simp at hs, HS.out.nA⟩);have F4 := hid (show x4.dk = r.dk ∧ x4.ds = r.ds ∧ x4.yes = r.yes ∧ x4.ball = r.ball ∧ x4.num = r.num ∧ x4.of_ = r.of_ by rw [hx4, EX2.out]; exact ⟨rfl, rfl, rfl, rfl, rfl, rfl⟩);have VN := hid (uI HV.out);clear hs5 hx4 hp4 hh' S2 S3 S4 R6 B6
  go_upto_region 19 with fail
  go_cut [82] from 11 (fun s wx => s = .bool (x4.tr && (x4.sp == x4.ball)) ∧ wx = wc)
  case first =>
   have cK := S5.out.k.cell;cases hq : x4.tr
   ·have HQ := hid hq;go_wp2_with fail
    go_meet
    case rel => exact ⟨by rw [HQ.out]; rfl, rfl⟩
   have HQ := hid hq;go_wp2_with fail
   go_meet
   case rel => exact ⟨by rw [HQ.out]; rfl, rfl⟩
  obtain ⟨wz, hwz⟩ : ∃ v : World, v = wc := ⟨_, rfl⟩
  subst hwz;obtain ⟨rfl, hwc⟩ := hcut;subst hwc
  go_upto_if 82 with fail
  go_cut [] from 11 (fun wx => ∃ (p6 : fU) (X6 : iU) (c6 : Nat → Nat), ry w w2.heap.size (fV x4) p6 X6 c6 a4 X2.H c4 wx)
  case first =>
   cases hq : (x4.tr && (x4.sp == x4.ball))
   ·have HQ := hid (show fV x4 = x4 by unfold fV; rw [if_neg (fun q => by rw [q.1, q.2] at hq; simp at hq)]);go_wp2_with fail
    go_meet
    case rel => exact ⟨p4, _, c3, by rw [HQ.out]; exact S5.out⟩
   have HQ := hid (show fV x4 = jl x4 x4.num x4.ds by
    simp only [Bool.and_eq_true, beq_iff_eq] at hq
    unfold fV; rw [if_pos hq])
   have k5 := S5.out.k;have cK := S5.out.k.cell;go_wp2_with ((with_reducible refine ah w2.heap.size (au x4 p4) rfl ?_ ?_ ?_); rfl; exact k5);clear cK;refine (tZ w.heap.size x4 p4 _ c3 x4.num p4.aD x4.ds p4.cD _ S5.out.lt (by rw [F4.out.1]; exact VT.out.d0) SM4.out SM4.out.lD (by rw [F4.out.2.2.1]; exact VT.out.ye) (by rw [F4.out.2.2.2.1]; exact VT.out.ba) (by rw [F4.out.2.2.2.2.1]; have := VN.out; exact ku (by omega) (by omega)) S5.out.has.at.hD S5.out.has).mono ?_;rintro e w6 ⟨p6, X6, c6', rfl, has6, hb6, ot6⟩;obtain ⟨kk6, _⟩ := S5.out.call (x' := x4) (p' := p4) (X' := X6) ot6;have S6 := hid (S5.out.next has6 hb6 ot6);clear has6 hb6 ot6 k5;obtain ⟨x6, hx6⟩ : ∃ y, y = jl x4 x4.num x4.ds := ⟨_, rfl⟩
   rw [← hx6] at S6 HQ ⊢;clear hx6;obtain ⟨Y6, hY6⟩ : ∃ v, v = w6.setRow w2.heap.size (au x6 p6) := ⟨_, rfl⟩
   rw [← hY6] at S6;go_wp2_with ((with_reducible refine af w2.heap.size (au x4 p4) (au x6 p6) rfl rfl ?_ ?_ ?_ ?_ ?_); rfl; rfl; exact kk6; simp [Value.oneCell']);rw [← hY6];clear hY6 kk6
   go_meet
   case rel => exact ⟨p6, X6, c6', by rw [HQ.out]; exact S6.out⟩
  case rest =>
   obtain ⟨p6, X6, c6', hs6⟩ := hcut;rw [ET.out] at hs6;have S6 := hid hs6;clear hs6 S5;obtain ⟨T, hT⟩ : ∃ x, x = fV (iy r) := ⟨_, rfl⟩
   rw [← hT] at S6;have ETT := hid hT;have OKT := hid (show DV T by rw [hT]; exact Hz (Hf HV.out HS.out));clear hT;cases hl : T.lead
   case true =>
    have k6 := S6.out.k;have cK := S6.out.k.cell;go_wp2_with ((with_reducible refine ah w2.heap.size (au T p6) rfl ?_ ?_ ?_); rfl; exact k6);rw [← XL.out];clear cK k6;refine (Gn w.heap.size T p6 X6 c6' a4 X2.H c4 _ S6.out.lt OKT.out.lead OKT.out.ss OKT.out.ds ⟨by have := OKT.out.of_; omega, OKT.out.of_.2⟩ (by have := XL.out; have := H400.out; omega) S6.out.has S6.out.out.row S6.out.out.ca).mono ?_;have SM7 := hid (A7 OKT.out);have OF7 := hid (show (iD T).of_ ≤ 5 by obtain ⟨l, e, _⟩ := oU (kE T T.ss.length) T.wish; obtain ⟨l2, d2, e2⟩ := kJ T T.ss.length; unfold iD; rw [e]; show (kE T T.ss.length).of_ ≤ 5; rw [e2]; exact OKT.out.of_.2);have FIN := hid (show iG r = iD T ∧ jc r = (X2.H ++ qJ (iD T)).map (·.1) from ⟨by unfold iG A8; rw [if_pos HV.out, if_pos HU.out, ← ETT.out, if_pos hl], by unfold jc Dc; rw [if_pos ⟨HV.out, HU.out⟩, ← ETT.out, if_pos hl, List.map_append, XM.out]⟩);obtain ⟨T7, hT7⟩ : ∃ x, x = iD T := ⟨_, rfl⟩
    rw [← hT7] at SM7 FIN OF7 ⊢;clear hT7;obtain ⟨L7, hL7⟩ : ∃ x, x = X2.H ++ qJ T7 := ⟨_, rfl⟩
    have EL7 := hid hL7;rw [← hL7] at FIN ⊢;clear hL7;rintro e w7 ⟨p7, X7, c7, a7, n7, rfl, has7, row7, ca7, hb7, ot7⟩;have kk7 : aC w7 w2.heap.size (au T p6) 31 := (ot7 _ S6.out.k.lt S6.out.cx (aO.ne S6.out.out.row S6.out.k (by decide))).1.trans S6.out.k;have cx7 := (ot7 _ S6.out.k.lt S6.out.cx (aO.ne S6.out.out.row S6.out.k (by decide))).2;have z7 : aC w7 (w.heap.size + 1) bP 31 := (ot7 _ S6.out.z.lt S6.out.cz (aO.ne S6.out.out.row S6.out.z (by decide))).1.trans S6.out.z;have cz7 := (ot7 _ S6.out.z.lt S6.out.cz (aO.ne S6.out.out.row S6.out.z (by decide))).2;have O7 : jA w.heap.size w7 c7 a7 L7 n7 := by rw [EL7.out] at row7 ⊢; exact S6.out.out.led row7 ca7 ot7 (wQ has7.gd.d)
    obtain ⟨Y7, hY7⟩ : ∃ v, v = w7.setRow w2.heap.size (au T7 p7) := ⟨_, rfl⟩
    have S7 := hid (show ry w w2.heap.size T7 p7 X7 c7 a7 L7 n7 Y7 by
     have hx := S6.out.hx;rw [hY7]
     exact ⟨setRow_heap _ _ _ _ _ _ kk7, (setRow_other _ _ _ _ (by omega)).trans z7, has7.setRow cx7 _, cx7, cz7, ay (S6.out.bel.trans hb7) (by omega) _, O7.box kk7 _, hx⟩)
    clear has7 row7 ca7 hb7 ot7 cx7 z7 cz7 O7 S6;have k7 := S7.out.k;rw [hY7] at k7;go_wp2_with (first | ((with_reducible refine af w2.heap.size (au T p6) (au T7 p7) rfl rfl ?_ ?_ ?_ ?_ ?_); rfl; rfl; exact kk7; simp [Value.oneCell']) | ((with_reducible refine ah w2.heap.size (au T7 p7) rfl ?_ ?_ ?_); rfl; exact k7));rw [← hY7];clear hY7 kk7 k7;refine (jm w.heap.size T7 p7 X7 c7 _ SM7.out.1 S7.out.has).mono ?_;rintro e w8 ⟨p8, X8, col8, rfl, has8, hb8⟩;have S8 := hid (S7.out.ext hb8);have H8 := hid has8;have SZ8 := hid (show w.heap.size + 1 < Y7.heap.size from S7.out.z.lt);clear has8 hb8 S7;have LL7 := hid (show L7.length ≤ 1048576 by have h1 := Eu OF7.out SM7.out.2; have := XL.out; have := H400.out; rw [EL7.out, List.length_append]; omega)
    have MS7 := hid (show jw (L7.map (·.1)) from fun i s hs => by
     have hm := List.mem_of_getElem? hs;rw [EL7.out, List.map_append, XM.out] at hm;rcases List.mem_append.1 hm with hm | hm
     ·obtain ⟨j, hj⟩ := List.getElem?_of_mem hm;exact HS.out.nH j s hj
     rw [List.mem_map] at hm;obtain ⟨q, hq, rfl⟩ := hm;obtain ⟨m, rfl, _⟩ := wQ H8.out.gd.d q hq
     exact Nat.zero_le _)
    go_wp2_with fail;refine (nz a7 (L7.map (·.1)) L7.length n7 w8 (List.length_map _) LL7.out MS7.out S8.out.out.plain S8.out.out.at).mono ?_;rintro e w9 ⟨g9, cap9, H9, rfl, row9, hm9, inn9, hb9⟩;have k9 := S8.out.z.ext hb9;have H9h := hid (H8.out.ext hb9);have B9 := hid (aj S8.out.bel hb9);have rc9 : aO 0 w9 (fun _ => 0) 0 49 8 (some ⟨g9, 0, none⟩) L7.length cap9 (bZ H9) := row9.row (Nat.zero_le _) (fun _ _ _ => rfl);have ri9 : ∀ m ∈ H9, aO 0 w9 (fun _ => 0) 0 43 2 m.2.1 m.1.2.length m.2.2 (flat m.1.2) := fun m hm => (inn9.row m hm).row (Nat.zero_le _) (fun _ _ _ => rfl)
    have M9 := hid (show jB (w9.setRow (w.heap.size + 1) (au T7 p8)) (some ⟨g9, 0, none⟩) (L7.map (·.1)) from vT (rc9.same fun x hx => setRow_other _ _ _ _ (rc9.ne k9 (by decide) x hx)) hm9 ⟨fun m hm => (ri9 m hm).same fun x hx => setRow_other _ _ _ _ ((ri9 m hm).ne k9 (by decide) x hx), inn9.apart⟩ S8.out.out.gd);have LO9 := hid (show w.heap.size ≤ w8.heap.size from S8.out.bel.size)
    have N9 := hid (show iJ w.heap.size (w9.setRow (w.heap.size + 1) (au T7 p8)) (some ⟨g9, 0, none⟩) H9 cap9 ∧ qg w.heap.size (w9.setRow (w.heap.size + 1) (au T7 p8)) (fun _ => 0) 0 H9 ∧ H9.map (·.1) = L7.map (·.1) from ⟨by
     have e9 : H9.length = L7.length := by have := congrArg List.length hm9; simpa using this
     have := (row9.row (col := fun _ => 0) (t := 0) LO9.out (fun _ _ _ => rfl)).same (w' := w9.setRow (w.heap.size + 1) (au T7 p8)) fun x hx => setRow_other _ _ _ _ (rc9.ne k9 (by decide) x hx)
     rw [iJ, e9]; exact this, ⟨fun m hm => ((inn9.row m hm).row (col := fun _ => 0) (t := 0) LO9.out (fun _ _ _ => rfl)).same fun x hx => setRow_other _ _ _ _ ((ri9 m hm).ne k9 (by decide) x hx), inn9.apart⟩, hm9⟩)
    clear row9 hm9 inn9 hb9 S8 rc9 ri9;rename_i KA hA KB hB KC hC;refine hC _ _ ?_;clear hC hA;refine af (w.heap.size + 1) bP (au T7 p8) rfl rfl ?_ ?_ ?_ ?_ ?_
    ·rfl
    ·rfl
    ·exact k9
    ·simp [Value.oneCell']
    iterate 7 (first | go_skip | go_guarded | go_step)
    have hz := setRow_heap _ (w.heap.size + 1) _ (au T7 p8) _ _ k9;refine oN (ty := 31) Try.results98 (w.heap.size + 1) (au T7 p8) _ ?_ ?_ hz Try.underlying31 rfl (by kernel_rfl) ?_
    ·rfl
    ·rfl
    rw [FIN.out.1, FIN.out.2];have rl : (L7.map (·.1)).length = L7.length := List.length_map _;refine ⟨p8, X8, _, some ⟨g9, 0, none⟩, cap9, by rw [rl]; rfl, (H9h.out.far (by have := SZ8.out; omega) _).lower (by have := SZ8.out; omega), ?_, ay B9.out (by omega) _, H9, N9.out.2.2, N9.out.1, N9.out.2.1⟩;exact M9.out
   case false =>
    have e1 : IntKind.i64.wrap (3 * T.num) = 3 * T.num := by have := OKT.out.num; go_arith
    have e2 : IntKind.i64.wrap (4 + 3 * T.num) = 4 + 3 * T.num := by have := OKT.out.num; go_arith
    have HL0 := hid hl;have cK := S6.out.k.cell
    go_upto_if 108 with fail
    clear cK e1 e2 hl;go_cut [8, 9, 10] from 11 (fun _ _ _ wx => ∃ (p7 : fU) (X7 : iU) (c7 : Nat → Nat), ry w w2.heap.size (pq T) p7 X7 c7 a4 X2.H c4 wx)
    case first =>
     by_cases hh : 4 + 3 * T.num < T.heard
     ·have u1 : 4 + 3 * T.num < T.heard := hh;have u1b : ¬ T.heard ≤ 4 + 3 * T.num := by omega
      have HH := hid hh;clear hh;have cK := S6.out.k.cell;go_wp2_with fail;refine (Ig T.dp T.num T.of_ _).mono ?_;rintro e z ⟨rfl, hz⟩;subst z;obtain ⟨b, hb⟩ : ∃ b, b = jE T.dp T.num T.of_ := ⟨_, rfl⟩
      rw [← hb];have EB := hid hb;clear hb;have k6 := S6.out.k;go_wp2_with ((with_reducible refine ah w2.heap.size (au T p6) rfl ?_ ?_ ?_); rfl; exact k6);clear cK k6 u1 u1b;refine (qA w.heap.size T p6 X6 c6' _ S6.out.lt S6.out.has).mono ?_;rintro e w7 ⟨p7, X7, c7, rfl, has7, hb7, ot7⟩;obtain ⟨kk7, _⟩ := S6.out.call (x' := T) (p' := p6) (X' := X7) ot7;have S7 := hid (S6.out.next has7 hb7 ot7);clear has7 hb7 ot7;obtain ⟨T7, hT7⟩ : ∃ y, y = aU T := ⟨_, rfl⟩
      rw [← hT7] at S7 ⊢;have ET7 := hid hT7;have F7 := hid (show T7.num = T.num ∧ T7.of_ = T.of_ by rw [hT7]; exact ⟨rfl, rfl⟩);clear hT7;obtain ⟨Y7, hY7⟩ : ∃ v, v = w7.setRow w2.heap.size (au T7 p7) := ⟨_, rfl⟩
      rw [← hY7] at S7;obtain ⟨Y8, hY8⟩ : ∃ v, v = Y7.setCell ⟨w2.heap.size, 17, none⟩ (.int .i64 0) := ⟨_, rfl⟩
      have S8 := hid (show ry w w2.heap.size { T7 with heard := 0 } p7 X7 c7 a4 X2.H c4 Y8 by rw [hY8]; exact S7.out.put _ 17 (.int .i64 0) rfl (S7.out.has.like rfl rfl rfl rfl rfl rfl rfl));have cY := S7.out.k.cell;have fY := S7.out.k.free;rw [hY7] at cY fY;by_cases hb0 : 0 < b
      ·have u2 : decide (0 < b) = true := decide_eq_true hb0;obtain ⟨Y9, hY9⟩ : ∃ v, v = ((Y8.setCell ⟨w2.heap.size, 6, none⟩ (.int .i64 b)).setCell ⟨w2.heap.size, 13, none⟩ (.int .i64 b)).setCell ⟨w2.heap.size, 12, none⟩ (.bool true) := ⟨_, rfl⟩
       obtain ⟨T9, hT9⟩ : ∃ y, y = { T7 with heard := 0, dp := b, ball := b, tr := true } := ⟨_, rfl⟩
       have S9 := hid (show ry w w2.heap.size T9 p7 X7 c7 a4 X2.H c4 Y9 by
        rw [hY9, hT9];have q1 := S8.out.put { T7 with heard := 0, dp := b } 6 (.int .i64 b) rfl (S8.out.has.like rfl rfl rfl rfl rfl rfl rfl);have q2 := q1.put { T7 with heard := 0, dp := b, ball := b } 13 (.int .i64 b) rfl (q1.has.like rfl rfl rfl rfl rfl rfl rfl)
        exact q2.put _ 12 (.bool true) rfl (q2.has.like rfl rfl rfl rfl rfl rfl rfl))
       have F9 := hid (show T9.num = T.num ∧ T9.of_ = T.of_ by rw [hT9]; exact F7.out);have TRY := hid (show pq T = iW T9 (ji T9.num (qN b) T9.of_.toNat) by unfold pq; rw [if_pos HH.out, ← EB.out, if_pos hb0, F9.out.1, F9.out.2, hT9, ET7.out]);have HZ9 := hid (show Y9.heap.size = w7.heap.size by rw [hY9, hY8, hY7]; simp);have k9 := S9.out.k;rw [hY9, hY8, hY7] at k9;clear hb0 hT9;go_wp2_with (first | ((with_reducible refine af w2.heap.size (au T p6) (au T7 p7) rfl rfl ?_ ?_ ?_ ?_ ?_); rfl; rfl; exact kk7; simp [Value.oneCell']) | ((with_reducible refine ah w2.heap.size (au T9 p7) rfl ?_ ?_ ?_); rfl; exact k9) | ((with_reducible refine bH (ty := 49) (bU (qN b) (.slice none 0 0)) ?_ ?_); (· kernel_rfl)));rw [← hY7, ← hY8, ← hY9];clear k9 hY7 hY8 hY9 kk7 cY fY u2;try rw [← HZ9.out]
       obtain ⟨VA, hVA⟩ : ∃ v, v = Y9.alloc (.cells #[] 49) := ⟨_, rfl⟩
       have EA := hid (show Below Y9.heap.size Y9 VA by rw [hVA]; exact ae (Below.refl _ _) _);have RA := hid (show iJ Y9.heap.size VA (some ⟨Y9.heap.size, 0, none⟩) [] 0 by rw [hVA]; exact gI (k := 8) (aC.new _ _ _) (Nat.le_refl _) rfl);rw [← hVA];clear hVA;refine (rZ Y9.heap.size T9 p7 (qN b) (some ⟨Y9.heap.size, 0, none⟩) [] 0 VA EA.out.size (by rw [F9.out.2]; have := OKT.out.of_; omega) (by rw [F9.out.2]; exact OKT.out.of_.2) (Nat.zero_le _) RA.out).mono ?_;rw [List.nil_append];have LB := hid (lV (num := T9.num) (m := qN b) (Nat.zero_le _) T9.of_.toNat);have LN := hid (show (ji T9.num (qN b) T9.of_.toNat).length ≤ 5 by have := mZ T9.num (qN b) T9.of_.toNat; have := F9.out.2; have := OKT.out.of_.2; omega);obtain ⟨L, hL⟩ : ∃ L, L = ji T9.num (qN b) T9.of_.toNat := ⟨_, rfl⟩
       rw [← hL] at LB LN TRY ⊢;clear hL;rintro e w10 ⟨a10, c10, rfl, row10, gr10, nw10⟩;have B10 := hid (show Below Y9.heap.size Y9 w10 from below_grow EA.out gr10 (fun j hj => by simp only [Value.ownBlock, Option.some.injEq] at hj; omega) EA.out.size);have S10 := hid (S9.out.fresh.ext B10.out);have R10 := hid row10;have C10 := hid (show ∀ y, a10 = some y → 8 < dm Y9.heap.size c7 y.block from fun y hy => by rw [bI (row10.lt y hy).1]; omega);clear row10 gr10 nw10;go_wp2_with fail;go_loopw [10] (fun i wr => ∃ (k : Nat) (x : Rc) (p1 : fU) (X1 : iU) (c1 : Nat → Nat), k ≤ L.length ∧ i = .int .i64 k ∧ x = iW T9 (L.take k) ∧ ry w w2.heap.size x p1 X1 c1 a4 X2.H c4 wr ∧ iJ Y9.heap.size wr a10 L c10 ∧ ∀ y, a10 = some y → 8 < c1 y.block) (fun i _ => L.length - (intOf i).toNat);case atStart => exact ⟨0, T9, p7, X7, _, Nat.zero_le _, rfl, rfl, S10.out, R10.out, C10.out⟩
       obtain ⟨k, x, p1, X1, c1, hk, rfl, hx, hss, hrw, hcw⟩ := hrel;have SS := hid hss;have EX := hid hx;have RW := hid hrw;have CW := hid hcw;clear hss hx hrw hcw S10 R10 C10;have ln5 := LN.out;have cK := SS.out.k.cell;by_cases hlt : k < L.length
       ·obtain ⟨q, hq0⟩ : ∃ q, L[k]? = some q := ⟨_, List.getElem?_eq_getElem hlt⟩
        obtain ⟨m, rfl, hmx⟩ := LB.out q (List.mem_of_getElem? hq0);have MX := hid hmx;have TK := hid (show L.take (k + 1) = L.take k ++ [bare m] by rw [List.take_add_one, hq0]; rfl);obtain ⟨gL, cur, ea, hbl, hcu⟩ := Gl RW.out hq0;subst ea;have BL := hid hbl;have d0 : cur[k * 8]? = some (.int .i64 m.k) := hcu 0 (by omega);have d1 : cur[k * 8 + 1]? = some (.int .i64 m.f) := hcu 1 (by omega);have d2 : cur[k * 8 + 2]? = some (.int .i64 m.t) := hcu 2 (by omega);have d3 : cur[k * 8 + 3]? = some (.int .i64 m.b) := hcu 3 (by omega);have d4 : cur[k * 8 + 4]? = some (.int .i64 m.i) := hcu 4 (by omega);have d5 : cur[k * 8 + 5]? = some (.int .i64 m.n) := hcu 5 (by omega);have d6 : cur[k * 8 + 6]? = some (.string m.x) := hcu 6 (by omega);have d7 : cur[k * 8 + 7]? = some (.slice none 0 0) := hcu 7 (by omega);clear hq0 hmx hbl hcu;have e6 : (0 : Int) ≤ (k : Int) := by omega
        have e7 : (k : Int) < (L.length : Int) := by omega
        have e8 : IntKind.i64.wrap ((k : Int) + 1) = (k : Int) + 1 := by go_arith
        go_wp2_with fail;have hK0 : L6 w2.heap.size gL (au x p1) cur wr := ⟨SS.out.k, BL.out⟩
        refine aI (S := L6 w2.heap.size gL (au x p1) cur) 6 (by kernel_rfl) hK0.drew (fun q9 => ?_);simp only [qz, Nat.reduceAdd];obtain ⟨wd, hwd⟩ : ∃ u, u = wr.drew := ⟨_, rfl⟩
        have ED := hid (show Below wr.heap.size wr wd by rw [hwd]; exact (Below.refl _ _).drew);have SD := hid (SS.out.ext ED.out);rw [← hwd] at q9 ⊢;clear hwd hK0 cK;refine dO (i := 0) (v := .agg (au x p1)) (ax rfl) (by kernel_rfl) (by kernel_rfl) (by kernel_rfl) (by kernel_rfl) (fun _ _ _ h => h) (gG (fun w9 hS => hS.blk) rfl (by rfl) _ rfl rfl) q9 ?_;try simp only [qq]
        refine bg.go [1, 2, 3, 4] ?_;iterate 4 (apply bg.take (ax rfl) (by kernel_rfl) (by rfl) (fun _ _ _ h => h) q9; (· intro w9 hSw; have hq := hSw.blk.cell; have hl := hSw.bl.cell; clear hSw; go_simp; try with_reducible rfl); try simp only [qq])
        refine bg.fin ?_;refine aT 5 fun K hK => ?_
        go_simp;refine (iM w.heap.size x p1 X1 c1 m none [] 0 _ SD.out.lt SD.out.has (dV _ _ _ _ _ _) (fun q hq y y' _ hy' => by simp at hy') MX.out (fun i s hs => by simp at hs)).mono ?_;rintro e w5 ⟨p5, X5, c5, rfl, has5, hb5, ot5⟩;obtain ⟨kk5, _⟩ := SD.out.call (x' := x) (p' := p1) (X' := X5) ot5;have KK5 := hid kk5;have SN := hid (SD.out.next has5 hb5 ot5);have RN := hid (show iJ Y9.heap.size w5 (some ⟨gL, 0, none⟩) L c10 from iJ.others (RW.out.ext ED.out) CW.out ot5);have CN := hid (show ∀ y, (some ⟨gL, 0, none⟩ : Option Addr) = some y → 8 < c5 y.block from fun y hy => (ot5 _ ((RW.out.ext ED.out).lt y hy).2 (CW.out y hy)).2);have BLN := hid (show aC w5 gL cur 49 from (ot5 gL (BL.out.ext ED.out).lt (CW.out _ rfl)).1.trans (BL.out.ext ED.out));clear has5 hb5 ot5 kk5;obtain ⟨z5, hz5⟩ : ∃ y, y = dw x m [] := ⟨_, rfl⟩
        rw [← hz5] at SN ⊢;have E5 := hid (show z5 = iW T9 (L.take (k + 1)) by rw [TK.out, zB, ← EX.out]; exact hz5);clear hz5;go_wp2_with fail;refine hK.out _ _ ⟨KK5.out, BLN.out⟩ (fun _ => ?_);clear hK K q9;try simp only [qq]
        refine aJ fun K hK => ?_
        rw [if_pos (by rfl)];refine wp_store_row 31 _ _ rfl w2.heap.size (au z5 p5) rfl rfl 31 (au x p1) KK5.out (by kernel_rfl) rfl (by simp [Value.oneCell']) ?_;refine hK.out _ _ ?_;clear hK K;have RN2 := hid (show iJ Y9.heap.size (w5.setRow w2.heap.size (au z5 p5)) (some ⟨gL, 0, none⟩) L c10 from RN.out.same fun y hy => setRow_other _ _ _ _ (aO.ne RN.out KK5.out (by decide) y hy));obtain ⟨Y5, hY5⟩ : ∃ u, u = w5.setRow w2.heap.size (au z5 p5) := ⟨_, rfl⟩
        rw [← hY5] at SN RN2 ⊢;clear hY5;go_wp2_with fail;go_roundw;case rel => exact ⟨k + 1, z5, p5, X5, c5, by omega, by go_num, E5.out, SN.out, RN2.out, CN.out⟩
        case measure => simp [intOf]; omega
       have hkk : k = L.length := by omega
       subst hkk;have FX := hid (show pq T = x by rw [TRY.out, EX.out, List.take_length]);go_wp2_with fail
       go_meet
       case rel => exact ⟨p1, X1, c1, by rw [FX.out]; exact SS.out⟩
      have u2 : decide (0 < b) = false := decide_eq_false hb0;have TRY := hid (show pq T = { T7 with heard := 0 } by unfold pq; rw [if_pos HH.out, ← EB.out, if_neg hb0, ET7.out]);clear hb0;go_wp2_with ((with_reducible refine af w2.heap.size (au T p6) (au T7 p7) rfl rfl ?_ ?_ ?_ ?_ ?_); rfl; rfl; exact kk7; simp [Value.oneCell']);rw [← hY7, ← hY8]
      go_meet
      case rel => exact ⟨p7, X7, c7, by rw [TRY.out]; exact S8.out⟩
     have u1 : T.heard ≤ 4 + 3 * T.num := by omega
     have HH := hid (show pq T = T by unfold pq; rw [if_neg hh]);clear hh;go_wp2_with fail
     go_meet
     case rel => exact ⟨p6, X6, c6', by rw [HH.out]; exact S6.out⟩
    case rest =>
     obtain ⟨p7, X7, c7, hs7⟩ := hcut;have SM7 := hid (Bl OKT.out);have FIN := hid (show iG r = pq T ∧ jc r = X2.H.map (·.1) from ⟨by unfold iG A8; rw [if_pos HV.out, if_pos HU.out, ← ETT.out, if_neg (by rw [HL0.out]; simp)], by unfold jc Dc; rw [if_pos ⟨HV.out, HU.out⟩, ← ETT.out, if_neg (by rw [HL0.out]; simp), XM.out]; simp⟩);obtain ⟨T7, hT7⟩ : ∃ x, x = pq T := ⟨_, rfl⟩
     rw [← hT7] at hs7 SM7 FIN;have S7 := hid hs7;clear hs7 hT7 S6;have k7 := S7.out.k;go_wp2_with ((with_reducible refine ah w2.heap.size (au T7 p7) rfl ?_ ?_ ?_); rfl; exact k7);clear k7;refine (jm w.heap.size T7 p7 X7 c7 _ SM7.out S7.out.has).mono ?_;rintro e w8 ⟨p8, X8, col8, rfl, has8, hb8⟩;have S8 := hid (S7.out.ext hb8);have H8 := hid has8;have SZ8 := hid (show w.heap.size + 1 < wc.heap.size from S7.out.z.lt);clear has8 hb8;have LL7 := hid (show X2.H.length ≤ 1048576 by have := XL.out; have := H400.out; omega);have MS7 := hid (show jw (X2.H.map (·.1)) by rw [XM.out]; exact HS.out.nH);go_wp2_with fail;rw [← XL.out];refine (nz a4 (X2.H.map (·.1)) X2.H.length c4 w8 (List.length_map _) LL7.out MS7.out S8.out.out.plain S8.out.out.at).mono ?_;rintro e w9 ⟨g9, cap9, H9, rfl, row9, hm9, inn9, hb9⟩;have k9 := S8.out.z.ext hb9;have H9h := hid (H8.out.ext hb9);have B9 := hid (aj S8.out.bel hb9);have rc9 : aO 0 w9 (fun _ => 0) 0 49 8 (some ⟨g9, 0, none⟩) X2.H.length cap9 (bZ H9) := row9.row (Nat.zero_le _) (fun _ _ _ => rfl);have ri9 : ∀ m ∈ H9, aO 0 w9 (fun _ => 0) 0 43 2 m.2.1 m.1.2.length m.2.2 (flat m.1.2) := fun m hm => (inn9.row m hm).row (Nat.zero_le _) (fun _ _ _ => rfl)
     have M9 := hid (show jB (w9.setRow (w.heap.size + 1) (au T7 p8)) (some ⟨g9, 0, none⟩) (X2.H.map (·.1)) from vT (rc9.same fun x hx => setRow_other _ _ _ _ (rc9.ne k9 (by decide) x hx)) hm9 ⟨fun m hm => (ri9 m hm).same fun x hx => setRow_other _ _ _ _ ((ri9 m hm).ne k9 (by decide) x hx), inn9.apart⟩ S8.out.out.gd);have LO9 := hid (show w.heap.size ≤ w8.heap.size from S8.out.bel.size)
     have N9 := hid (show iJ w.heap.size (w9.setRow (w.heap.size + 1) (au T7 p8)) (some ⟨g9, 0, none⟩) H9 cap9 ∧ qg w.heap.size (w9.setRow (w.heap.size + 1) (au T7 p8)) (fun _ => 0) 0 H9 ∧ H9.map (·.1) = X2.H.map (·.1) from ⟨by
      have e9 : H9.length = X2.H.length := by have := congrArg List.length hm9; simpa using this
      have := (row9.row (col := fun _ => 0) (t := 0) LO9.out (fun _ _ _ => rfl)).same (w' := w9.setRow (w.heap.size + 1) (au T7 p8)) fun x hx => setRow_other _ _ _ _ (rc9.ne k9 (by decide) x hx)
      rw [iJ, e9]; exact this, ⟨fun m hm => ((inn9.row m hm).row (col := fun _ => 0) (t := 0) LO9.out (fun _ _ _ => rfl)).same fun x hx => setRow_other _ _ _ _ ((ri9 m hm).ne k9 (by decide) x hx), inn9.apart⟩, hm9⟩)
     clear row9 hm9 inn9 hb9 S8 rc9 ri9;rename_i KA hA KB hB KC hC;refine hC _ _ ?_;clear hC hA;refine af (w.heap.size + 1) bP (au T7 p8) rfl rfl ?_ ?_ ?_ ?_ ?_
     ·rfl
     ·rfl
     ·exact k9
     ·simp [Value.oneCell']
     iterate 7 (first | go_skip | go_guarded | go_step)
     have hz := setRow_heap _ (w.heap.size + 1) _ (au T7 p8) _ _ k9;refine oN (ty := 31) Try.results98 (w.heap.size + 1) (au T7 p8) _ ?_ ?_ hz Try.underlying31 rfl (by kernel_rfl) ?_
     ·rfl
     ·rfl
     rw [FIN.out.1, FIN.out.2];have rl : (X2.H.map (·.1)).length = X2.H.length := List.length_map _;refine ⟨p8, X8, _, some ⟨g9, 0, none⟩, cap9, by rw [rl]; rfl, (H9h.out.far (by have := SZ8.out; omega) _).lower (by have := SZ8.out; omega), ?_, ay B9.out (by omega) _, H9, N9.out.2.2, N9.out.1, N9.out.2.1⟩;exact M9.out
end Go.Proofs.Ytjdceoimignnpaa
