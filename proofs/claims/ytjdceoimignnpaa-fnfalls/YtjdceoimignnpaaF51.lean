import Derived.Test.YtjdceoimignnpaaF50
namespace Go.Proofs.Ytjdceoimignnpaa
open Go.ChangeShapes Go.WideShapes Go.ChangeAt Go.RowKit next
set_option linter.unusedVariables false
set_option linter.unusedSimpArgs false
set_option maxHeartbeats 32000000
set_option maxRecDepth 20000
theorem xu (w : World) (v : Int) (g : Nat) (h : aC w g #[.int .u8 v] 5) : (convert 22 9 (.slice (some ⟨g, 0, none⟩) 1 1)).run Try.prog w = .ok (.string (strOfNums [v])) w :=
 run_convert_bytes_arg (P := Try.prog) w 22 5 Try.underlying22 Try.underlying5 g 0 1 1 [v] rfl (fun i hi => by
  have : i = 0 := by omega
  subst this;rw [h.cell]
  rfl) 9 Try.underlying9
theorem Nk (n : Nat) (w : World) (hn : n < 100) : Calls Try.prog 64 #[.int .i64 (n : Int)] w fun e w' => ∃ t : ByteArray, e = .returned (.string t) ∧ t.size ≤ 2 ∧ Below w.heap.size w w' := by
 by_cases h1 : n < 10
 ·exact (Ja n w h1).mono (by rintro e w' ⟨t, rfl, ht, hb⟩; exact ⟨t, rfl, by omega, hb⟩)
 have u1 : decide ((n : Int) < 10) = false := decide_eq_false (by omega);have e1 : (n : Int).tdiv 10 = ((n / 10 : Nat) : Int) := by simp [Int.tdiv]
 have e4 : (n : Int).tmod 10 = (n : Int) % 10 := Int.tmod_eq_emod_of_nonneg (by omega);have e2 : IntKind.i64.wrap (48 + (n : Int) % 10) = (48 + (n : Int) % 10) := by go_arith
 have e3 : IntKind.u8.wrap (48 + (n : Int) % 10) = (48 + (n : Int) % 10) := by go_arith
 have e5 : IntKind.i64.wrap ((n : Int) / 10) = ((n / 10 : Nat) : Int) := by go_arith
 have e6 : IntKind.i64.wrap ((n : Int) % 10) = (n : Int) % 10 := by go_arith
 go_enter Try.func64, Try.ntmps64;go_wp2_with fail;refine wp_region_held_drew (S := fun _ => True) (by kernel_rfl) trivial (fun q9 => ?_);simp only [qz, Nat.reduceAdd];obtain ⟨w3, hw3⟩ : ∃ u, u = w.drew := ⟨_, rfl⟩
 have B3 := hid (show Below w.heap.size w w3 by rw [hw3]; exact (Below.refl _ _).drew);rw [← hw3];clear hw3;refine ag.go [0, 1, 3, 4, 5, 6] ?_;iterate 6 (refine ag.tn q9 ?_; try simp only [qq])
 refine ag.fin ?_;refine wpAnyH_ready (rs := [2, 7]) (by kernel_rfl) (by simp) ?_;refine AllReadyH.cons (ax rfl) (fun K hK => ?_) (AllReadyH.cons (ax rfl) (fun K hK => ?_) AllReadyH.nil)
 ·go_simp;refine (Ja (n / 10) w3 (by omega)).mono ?_;rintro e w4 ⟨t, rfl, ht, hb⟩;have B4 := hid (B3.out.trans (hb.mono B3.out.size));have KH : True := trivial;have HT := hid ht;have s1 : ¬ 9223372036854775807 < t.size + (strOfNums [(48 + (n : Int) % 10)]).size := by show ¬ 9223372036854775807 < t.size + 1; omega
  clear hb ht B3;go_wp2_with fail;refine hK.out _ _ KH ?_;clear hK K q9;intro q9;try simp only [qq]
  clear KH;refine bV 7 fun K hK => ?_
  go_simp;obtain ⟨w5, hw5⟩ : ∃ u, u = w4.alloc (.cells #[.int .u8 (48 + (n : Int) % 10)] 5) := ⟨_, rfl⟩
  have B5 := hid (show Below w.heap.size w w5 by rw [hw5]; exact B4.out.trans ((ae (Below.refl _ _) _ : Below w4.heap.size w4 _).mono B4.out.size));have KB := hid (show aC w5 w4.heap.size #[.int .u8 (48 + (n : Int) % 10)] 5 by rw [hw5]; exact aC.new _ _ _);rw [← hw5];clear hw5 B4;refine hK.out _ _ trivial (fun hNew => ?_);clear hK K q9 hNew;try simp only [qq]
  refine qH (S' := fun w' => aC w' w4.heap.size #[.int .u8 (48 + (n : Int) % 10)] 5) (fun _ _ => trivial) _ _ _ _ ?_;have q9 := KB.out;clear KB;refine ag.go [8] ?_;iterate 1 (apply ag.take (ax rfl) (by kernel_rfl) (by rfl) (fun _ _ _ h => h) q9; (· intro w9 hSw; have hq := xu w9 (48 + (n : Int) % 10) (w4.heap.size) hSw; clear hSw; go_simp; try with_reducible rfl); try simp only [qq])
  refine ag.fin ?_;refine ag.go [9, 10] ?_;iterate 2 (refine ag.tn q9 ?_; try simp only [qq])
  refine ag.fin ?_;refine wpAnyH_done (by kernel_rfl) ?_ _;go_wp2_with fail;go_ret;exact ⟨_, rfl, by rw [ByteArray.size_append, HT.out]; exact Nat.le_refl 2, B5.out⟩
 go_simp;obtain ⟨w4, hw4⟩ : ∃ u, u = w3.alloc (.cells #[.int .u8 (48 + (n : Int) % 10)] 5) := ⟨_, rfl⟩
 have B4 := hid (show Below w.heap.size w w4 by rw [hw4]; exact B3.out.trans ((ae (Below.refl _ _) _ : Below w3.heap.size w3 _).mono B3.out.size));have KB := hid (show aC w4 w3.heap.size #[.int .u8 (48 + (n : Int) % 10)] 5 by rw [hw4]; exact aC.new _ _ _);rw [← hw4];clear hw4 B3;refine hK.out _ _ trivial (fun hNew => ?_);clear hK K q9 hNew;try simp only [qq]
 refine qH (S' := fun w' => aC w' w3.heap.size #[.int .u8 (48 + (n : Int) % 10)] 5) (fun _ _ => trivial) _ _ _ _ ?_;have q9 := KB.out;clear KB;refine ag.go [8] ?_;iterate 1 (apply ag.take (ax rfl) (by kernel_rfl) (by rfl) (fun _ _ _ h => h) q9; (· intro w9 hSw; have hq := xu w9 (48 + (n : Int) % 10) (w3.heap.size) hSw; clear hSw; go_simp; try with_reducible rfl); try simp only [qq])
 refine ag.fin ?_;refine bV 2 fun K hK => ?_
 go_simp;refine (Ja (n / 10) w4 (by omega)).mono ?_;rintro e w5 ⟨t, rfl, ht, hb⟩;have B5 := hid (B4.out.trans (hb.mono B4.out.size));have KH : aC w5 w3.heap.size #[.int .u8 (48 + (n : Int) % 10)] 5 := q9.ext hb;have HT := hid ht;have s1 : ¬ 9223372036854775807 < t.size + (strOfNums [(48 + (n : Int) % 10)]).size := by show ¬ 9223372036854775807 < t.size + 1; omega
 clear hb ht B4;go_wp2_with fail;refine hK.out _ _ KH ?_;clear hK K q9;intro q9;try simp only [qq]
 clear KH;refine ag.go [9, 10] ?_;iterate 2 (refine ag.tn q9 ?_; try simp only [qq])
 refine ag.fin ?_;refine wpAnyH_done (by kernel_rfl) ?_ _;go_wp2_with fail;go_ret;exact ⟨_, rfl, by rw [ByteArray.size_append, HT.out]; exact Nat.le_refl 2, B5.out⟩
def lenD (w : World) (gy : Nat) : Nat := match w.cell? ⟨gy, 8, none⟩ with
 | some (.slice _ k _) => k
 | _ => 0
theorem JS (w : World) (g : Nat) (ca : Option Addr) (n cap k : Nat) (h : pO w g ca n cap k) (hp : k ≤ 500000000) (hc : ∀ x, ca = some x → x.block < w.heap.size) :
  Calls Try.prog 27 #[.pointer (some ⟨g, 0, none⟩)] w (NZ w g ca n cap k 1200) := by
 have HP := hid hp;have HC := hid hc;have GL := hid (show g < w.heap.size from h.k.lt);obtain ⟨V, hV⟩ : ∃ V, V = w.alloc (.cells bP 31) := ⟨_, rfl⟩
 have EV := hid (show Below w.heap.size w V by rw [hV]; exact ae (Below.refl _ _) _);have A0 := hid (h.ext EV.out);have Z0 := hid (show aC V w.heap.size bP 31 by rw [hV]; exact aC.new _ _ _);clear h hp hc;go_enter Try.func27, Try.ntmps27;go_wp2_with fail;rw [← hV];clear hV;refine (IQ V g ca n cap k A0.out (by have := HP.out; omega) (fun x hx => by have := HC.out x hx; have := Z0.out.lt; omega)).mono ?_;rintro e w1 ⟨r, q, k1, rfl, hv, has1, rw1, ra1, hk1⟩;have VRr := hid hv;have LM := hid (Iw hv);have K1 := hid hk1;obtain ⟨W1, hW1⟩ : ∃ u, u = w1.alloc (.cells (au r q.p) 31) := ⟨_, rfl⟩
 obtain ⟨gy, hgy⟩ : ∃ u, u = w1.heap.size := ⟨_, rfl⟩
 obtain ⟨c1, hc1⟩ : ∃ f, f = dm w1.heap.size q.c := ⟨_, rfl⟩
 have D1 := hid (show SK w g ca n cap V.heap.size gy w.heap.size (au r q.p) r q.p q.X c1 (k1) W1 by
  have hb : Below w1.heap.size w1 W1 := by rw [hW1]; exact ae (Below.refl _ _) _
  have lt := Z0.out.lt;have gl := GL.out;have z1 := rw1.size;refine ⟨⟨ra1.ext hb, (((sZ.refl g w).ext EV.out).trans rw1).ext hb, fun u hu => ?_, GL.out⟩, by rw [hc1]; exact has1.fresh.ext hb, by rw [hc1, hgy]; exact bI (Nat.le_refl _), lt, by rw [hgy]; exact z1⟩;simp only [List.mem_cons, List.not_mem_nil, or_false] at hu;rcases hu with rfl | rfl
  ·exact ⟨by rw [hW1, hgy]; exact aC.new _ _ _, by show w.heap.size ≤ gy; omega⟩
  exact ⟨aC.ext ((rw1.block _ lt (by show w.heap.size ≠ g; omega)).trans Z0.out) hb, Nat.le_refl _⟩)
 go_wp2_with ((with_reducible refine dI (au r q.p) rfl ?_ ?_ ?_ ?_ ?_); rfl; rfl; rfl; simp [Value.oneCell']);try rw [← hgy]
 rw [← hW1];clear hgy hW1 hc1 Z0 EV has1 rw1 ra1 hk1 A0 hv;refine (dD W1 g ca n cap k1 16 D1.out.x.a (by have := HP.out; have := K1.out; omega) (by omega) (by omega)).mono ?_;rintro e w2 ⟨v, rfl, hv, hu, ha⟩;have D2 := hid (D1.out.rd hu.w ha);clear hu ha D1;by_cases h0 : v = 0
 ·subst h0;clear hv;have k2 := D2.out.box;go_wp2_with ((with_reducible refine ah gy (au r q.p) rfl ?_ ?_ ?_); rfl; exact k2);refine (F5 V.heap.size w2 g ca n cap (k1 + 1) r q.p q.X c1 D2.out.x.a (by have := HP.out; have := K1.out; omega) (fun x hx => by have := HC.out x hx; have := D2.out.x.w.size; omega) VRr.out D2.out.h).mono ?_;rintro e w3 ⟨r3, q3, k3, rfl, hs3, has3, rw3, ra3, hk3⟩;have z2 := (D2.out.x.x _ (.tail _ (.head _))).1;have z3 : aC w3 w.heap.size bP 31 := (rw3.block _ z2.lt (by show w.heap.size ≠ g; have := GL.out; omega)).trans z2;go_wp2_with ((with_reducible refine af w.heap.size bP (au r3 q3.p) rfl rfl ?_ ?_ ?_ ?_ ?_); rfl; rfl; exact z3; simp [Value.oneCell']);have hz := setRow_heap _ w.heap.size _ (au r3 q3.p) _ _ z3;refine az (ty := 31) Try.results27 w.heap.size (au r3 q3.p) _ ?_ ?_ hz Try.underlying31 rfl (by kernel_rfl) ?_
  ·rfl
  ·rfl
  have hb := ay (Below.refl w.heap.size w3) (Nat.le_refl w.heap.size) (au r3 q3.p);exact ⟨r3, q3, k3, rfl, hs3, (has3.far z2.lt _).lower D2.out.x.w.size, (D2.out.x.w.trans rw3).below hb, ra3.low GL.out HC.out hb, by have := K1.out; omega⟩
 have n0 : ((v : Int) == 0) = false := by simp; omega
 go_upto_block 0 with fail
 go_cut [4] from 9 to 59 (fun _ wx => ∃ (r9 : Rc) (p9 : fU) (X9 : iU) (c9 : Nat → Nat) (k9 : Nat), bD r9 ∧ k9 ≤ k + 1200 ∧ SK w g ca n cap V.heap.size gy w.heap.size (au r9 p9) r9 p9 X9 c9 (k9) wx)
 case first =>
  have h7 : v = 1 ∨ v = 2 ∨ 2 < v := by omega
  rcases h7 with rfl | rfl | h7
  ·clear hv;have cB := D2.out.box.cell;cases hl : r.lead
   ·have hl2 : (au r q.p)[11]? = some (.bool false) := by rw [← hl]; rfl
    go_wp2_with fail
    go_meet
    case rel => exact ⟨r, q.p, q.X, c1, _, LM.out.sm, by have := K1.out; omega, D2.out⟩
   have hl2 : (au r q.p)[11]? = some (.bool true) := by rw [← hl]; rfl
   have BL := hid (show 0 ≤ r.ball ∧ r.ball ≤ 1000000 from ⟨by have := (VRr.out.ld hl).1.1; omega, by have := (VRr.out.ld hl).1.2; have := VRr.out.d.p1; omega⟩);go_wp2_with fail;refine (dD w2 g ca n cap (k1 + 1) 2 D2.out.x.a (by have := HP.out; have := K1.out; omega) (by omega) (by omega)).mono ?_;rintro e w3 ⟨b, rfl, hb, hu, ha⟩;have D3 := hid (D2.out.rd hu.w ha);have e6 : IntKind.i64.wrap (60 - (b : Int)) = 60 - (b : Int) := by go_arith
   clear hu ha D2 cB hl2;go_wp2_with fail;have BB := hid (show b ≤ 1 by omega);clear hb e6;go_loopw [21] (fun _ wr => ∃ (l2 : List Sl) (a2 : Option Addr) (c2 : Nat) (cc : Nat → Nat), l2.length ≤ 60 ∧ SK w g ca n cap V.heap.size gy w.heap.size (au { r with ds := l2 } { q.p with aD := a2, cD := c2 }) { r with ds := l2 } { q.p with aD := a2, cD := c2 } q.X cc (k1 + 1 + 1) wr) (fun _ wr => 100 - lenD wr gy);case atStart => exact ⟨r.ds, q.p.aD, q.p.cD, c1, LM.out.d, D3.out⟩
   obtain ⟨l2, a2, c2, cc, hn2, hss⟩ := hrel;have D := hid hss;obtain ⟨wn, hwn⟩ : ∃ v : World, v = wr := ⟨_, rfl⟩
   subst hwn;clear hss D3;have cB := D.out.box.cell;have fB := D.out.box.free;have L1 := hid (show lenD wn gy = l2.length by unfold lenD; rw [D.out.box.cell 8]; rfl);by_cases hlt : l2.length < 60 - b
   ·have e1 : (l2.length : Int) < 60 - (b : Int) := by omega
    have u1 : decide ((l2.length : Int) < 60 - (b : Int)) = true := decide_eq_true e1;go_wp2_with fail;have hK0 : Sy gy (au { r with ds := l2 } { q.p with aD := a2, cD := c2 }) wn := ⟨D.out.box⟩
    refine aI (S := Sy gy (au { r with ds := l2 } { q.p with aD := a2, cD := c2 })) 16 (by kernel_rfl) ⟨aC.drew hK0.k⟩ (fun q9 => ?_);simp only [qz, Nat.reduceAdd];obtain ⟨w4, hw4⟩ : ∃ u, u = wn.drew := ⟨_, rfl⟩
    have D4 := hid (D.out.ext (show Below wn.heap.size wn w4 by rw [hw4]; exact (Below.refl _ _).drew));rw [← hw4] at q9 ⊢;clear hw4 hK0;refine ak.go [0, 1, 2, 3, 4, 5, 6, 7, 8] ?_;iterate 9 (refine ak.tk q9 ?_; try simp only [qq])
    refine ak.fin ?_;refine aT 9 fun K hK => ?_
    go_simp;refine (Nk l2.length w4 (by omega)).mono ?_;rintro e w5 ⟨t2, rfl, ht2, hb5⟩;have D5 := hid (D4.out.ext hb5);have HT := hid ht2;have KH := q9.ext hb5;have s1 : ¬ 9223372036854775807 < 1 + t2.size := by omega
    clear hb5 ht2 D4;go_wp2_with fail;refine hK.out _ _ KH ?_;clear hK K q9;intro q9;try simp only [qq]
    clear KH;refine ak.go [10, 11] ?_;iterate 2 (refine ak.tk q9 ?_; try simp only [qq])
    refine ak.fin ?_;refine aT 12 fun K hK => ?_
    go_simp;obtain ⟨u2, hu2⟩ : ∃ u : ByteArray, u = ⟨#[102]⟩ ++ t2 := ⟨_, rfl⟩
    have U2 := hid (show u2.size ≤ 3 by rw [hu2, ByteArray.size_append]; have := HT.out; show 1 + t2.size ≤ 3; omega);try rw [← hu2]
    obtain ⟨y6, hy6⟩ : ∃ u, u = w5.alloc (.cells #[Value.int .i64 r.ball, Value.string u2] 43) := ⟨_, rfl⟩
    have X6 := hid (show Below w5.heap.size w5 y6 by rw [hy6]; exact ae (Below.refl _ _) _)
    have N6 := hid (show aN y6 (some ⟨w5.heap.size, 0, none⟩) 1 1 2 #[Value.int .i64 r.ball, Value.string u2].toList by
     rw [hy6]
     exact ⟨rfl, fun e => by simp at e, fun y hy => by
      simp only [Option.some.injEq] at hy;subst hy
      exact ⟨rfl, dG (cs := #[Value.int .i64 r.ball, Value.string u2].toList) (aC.new _ _ _)⟩⟩)
    try rw [← hu2]
    rw [← hy6];clear hy6 hu2;have D6 := hid (D5.out.ext X6.out);refine hK.out _ _ (q9.ext X6.out) ?_;clear hK K q9;intro q9;try simp only [qq]
    refine aT 13 fun K hK => ?_
    rw [if_pos (by rfl)];refine lh V.heap.size a2 l2.length c2 (flat l2) (some ⟨w5.heap.size, 0, none⟩) 1 1 #[Value.int .i64 r.ball, Value.string u2].toList rfl rfl D6.out.h.d.own N6.out (by simp [Value.oneCell']) (by omega) (Nat.le_trans D6.out.up (Nat.le_of_lt D6.out.box.lt)) ?_;intro a7 c7 w7 q1 q2 q3;have EL := hid (show (l2 ++ [(r.ball, u2)]).length = l2.length + 1 by simp);have R7 := D6.out.h.Gv (l := l2 ++ [(r.ball, u2)]) q2 (by rw [EL.out, lm]; exact q1) q3 (lC D6.out.h.gd.d ⟨by show u2.size ≤ maxLen; have := U2.out; unfold maxLen; omega, oz (by have := BL.out; show -1 ≤ r.ball; omega) (by have := BL.out; show r.ball ≤ 2000000; omega)⟩);have G := hid (D6.out.grown D6.out.h.d (by decide) q2 q3 HC.out R7);have KH : Sy gy (au { r with ds := l2 } { q.p with aD := a2, cD := c2 }) w7 := ⟨G.out.box⟩
    clear q1 q2 q3 R7;refine hK.out _ _ KH ?_;clear hK K q9;intro q9;try simp only [qq]
    clear KH;refine ak.go [14, 15] ?_;iterate 2 (refine ak.tk q9 ?_; try simp only [qq])
    refine ak.fin ?_;refine aJ fun K hK => ?_
    have cB := q9.k.cell;have fB := q9.k.free;go_simp;refine hK.out _ _ ?_;clear hK K q9 cB fB;have G2 := hid ((G.out.put HC.out 8 (.slice a7 (l2.length + 1) c7)).as (show _ = au { r with ds := l2 ++ [(r.ball, u2)] } { q.p with aD := a7, cD := c7 } by rw [← EL.out]; rfl));have L2 := hid (show lenD (w7.setCell ⟨gy, 8, none⟩ (.slice a7 (l2.length + 1) c7)) gy = l2.length + 1 by unfold lenD; rw [G2.out.box.cell 8]; show (l2 ++ [(r.ball, u2)]).length = _; exact EL.out);go_wp2_with fail;go_roundw;case rel => exact ⟨l2 ++ [(r.ball, u2)], a7, c7, _, by have := EL.out; omega, G2.out⟩
    case measure => rw [L2.out, L1.out]; omega
   have e1 : ¬ (l2.length : Int) < 60 - (b : Int) := by have := BB.out; omega
   have u1 : decide ((l2.length : Int) < 60 - (b : Int)) = false := decide_eq_false e1;go_wp2_with fail
   go_meet
   case rel => exact ⟨{ r with ds := l2 }, { q.p with aD := a2, cD := c2 }, q.X, cc, _, LM.out.small { r with ds := l2 } (e2 := by show l2.length ≤ _; omega), by have := K1.out; omega, D.out⟩
  ·clear hv;have cB := D2.out.box.cell;cases hp9 : r.up
   ·have hl1 : (au r q.p)[2]? = some (.bool false) := by rw [← hp9]; rfl
    go_wp2_with fail
    go_meet
    case rel => exact ⟨r, q.p, q.X, c1, _, LM.out.sm, by have := K1.out; omega, D2.out⟩
   cases hl : r.lead
   rotate_left
   ·have hl1 : (au r q.p)[2]? = some (.bool true) := by rw [← hp9]; rfl
    have hl2 : (au r q.p)[11]? = some (.bool true) := by rw [← hl]; rfl
    go_wp2_with fail
    go_meet
    case rel => exact ⟨r, q.p, q.X, c1, _, LM.out.sm, by have := K1.out; omega, D2.out⟩
   have hl1 : (au r q.p)[2]? = some (.bool true) := by rw [← hp9]; rfl
   have hl2 : (au r q.p)[11]? = some (.bool false) := by rw [← hl]; rfl
   have k2 := D2.out.box;go_wp2_with ((with_reducible refine ah gy (au r q.p) rfl ?_ ?_ ?_); rfl; exact k2);refine (yS V.heap.size r q.p q.X c1 w2 (Nat.le_trans D2.out.up (Nat.le_of_lt D2.out.box.lt)) D2.out.h).mono ?_;rintro e w5 ⟨p5, X5, c5, rfl, has5, hb5, hc5, _⟩;have D5 := hid (((D2.out.ext hb5).to has5 ((hc5 gy D2.out.box.lt).trans D2.out.c9)).row HC.out (au (aU r) p5));have k5 := k2.ext hb5;clear has5 hc5 cB hl1 hl2 k2 D2 hb5;go_wp2_with ((with_reducible refine af gy (au r q.p) (au (aU r) p5) rfl rfl ?_ ?_ ?_ ?_ ?_); rfl; rfl; exact k5; simp [Value.oneCell']);obtain ⟨w6, hw6⟩ : ∃ u, u = w5.setRow gy (au (aU r) p5) := ⟨_, rfl⟩
   rw [← hw6] at D5 ⊢;clear hw6 k5;refine (dD w6 g ca n cap (k1 + 1) 4 D5.out.x.a (by have := HP.out; have := K1.out; omega) (by omega) (by omega)).mono ?_;rintro e w7 ⟨b, rfl, hb, hu, ha⟩;have D7 := hid (D5.out.rd hu.w ha);have e6 : IntKind.i64.wrap (1000000 - (b : Int)) = 1000000 - (b : Int) := by go_arith
   have cB := D7.out.box.cell;have fB := D7.out.box.free;clear hu ha D5;have G := hid ((D7.out.put HC.out 6 (.int .i64 (1000000 - (b : Int)))).put HC.out 17 (.int .i64 30));have G2 := hid ((G.out.to (r' := { aU r with dp := 1000000 - (b : Int), heard := 30 }) (G.out.h.like rfl rfl rfl rfl rfl rfl rfl) G.out.c9).as (show _ = au { aU r with dp := 1000000 - (b : Int), heard := 30 } p5 by rfl));go_wp2_with fail
   go_meet
   case rel => exact ⟨{ aU r with dp := 1000000 - (b : Int), heard := 30 }, p5, X5, c5, _, LM.out.small { aU r with dp := 1000000 - (b : Int), heard := 30 } (e5 := by exact Nat.zero_le _) (e6 := by exact Nat.zero_le _) (e7 := by exact Nat.zero_le _) (e9 := fun _ i s hs => by simp [aU] at hs), by have := K1.out; omega, G2.out⟩
  have n1 : ((v : Int) == 1) = false := by simp; omega
  have n2 : ((v : Int) == 2) = false := by simp; omega
  go_wp2_with fail
  go_meet
  case rel => exact ⟨r, q.p, q.X, c1, _, LM.out.sm, by have := K1.out; omega, D2.out⟩
 case rest =>
 obtain ⟨r9, p9, X9, c9, k9, hs9, hk9, hd9⟩ := hcut;have D9 := hid hd9;obtain ⟨w9, hw9⟩ : ∃ v : World, v = wc := ⟨_, rfl⟩
 subst hw9;clear hd9 D2;have k6 := D9.out.box;have kz := (D9.out.x.x _ (.tail _ (.head _))).1;go_wp2_with (first | ((with_reducible refine ah gy (au r9 p9) rfl ?_ ?_ ?_); rfl; exact k6) | ((with_reducible refine af w.heap.size bP (au r9 p9) rfl rfl ?_ ?_ ?_ ?_ ?_); rfl; rfl; exact kz; simp [Value.oneCell']));have hz := setRow_heap _ w.heap.size _ (au r9 p9) _ _ kz;refine az (ty := 31) Try.results27 w.heap.size (au r9 p9) _ ?_ ?_ hz Try.underlying31 rfl (by kernel_rfl) ?_
 ·rfl
 ·rfl
 have en := D9.out.x.ends (cs' := au r9 p9) (.tail _ (.head _)) HC.out;exact ⟨r9, ⟨p9, X9, c9⟩, k9, rfl, hs9, (D9.out.h.far D9.out.lo (au r9 p9)).lower (by have := D9.out.lo; omega), en.1, en.2, hk9⟩
theorem Ie (w : World) (ca : Option Addr) (n cap : Nat) (h : BytesAt w ca n) (hc : n ≤ cap) (hm : cap ≤ maxLen) (hl : ∀ x, ca = some x → x.block < w.heap.size) :
  Calls Try.prog 5 #[.slice ca n cap] w fun e w' => ∃ (r : Rc) (q : jF), e = .returned (.agg (au r q.p)) ∧ bD r ∧ aG w.heap.size w' r q.p q.X q.c ∧ Below w.heap.size w w' := by
 have HL := hid hl;obtain ⟨V, hV⟩ : ∃ V, V = w.alloc (.cells bP 31) := ⟨_, rfl⟩
 have EV := hid (show Below w.heap.size w V by rw [hV]; exact ae (Below.refl _ _) _);have Z0 := hid (show aC V w.heap.size bP 31 by rw [hV]; exact aC.new _ _ _);have HO := hid (h.ext EV.out);have VS := hid (show V.heap.size = w.heap.size + 1 by rw [hV]; simp);clear hl h;go_enter Try.func5, Try.ntmps5;go_wp2_with fail;rw [← hV];clear hV;refine (Mc V ca n cap HO.out hc hm).mono ?_;rintro e w1 ⟨n', rfl, ra, hb, hz⟩;have A1 := hid ra;have B1 := hid hb;have S1 := hid (show w1.heap.size = w.heap.size + 1 + 1 by rw [hz, VS.out]);have Z1 := hid (Z0.out.ext B1.out);obtain ⟨g, hg⟩ : ∃ g, g = V.heap.size := ⟨_, rfl⟩
 have G1 := hid (show g = w.heap.size + 1 by rw [hg, VS.out]);rw [← hg] at A1 ⊢;clear ra hb hz hc hm hg HO Z0;go_wp2_with fail;refine (JS w1 g ca n' cap 0 A1.out (by omega) (fun x hx => by have := HL.out x hx; have := S1.out; omega)).mono ?_;rintro e w3 ⟨r3, q3, k3, rfl, hs3, has3, rw3, ra3, hk3⟩;have z1 := S1.out;have g1 := G1.out;have z3 : aC w3 w.heap.size bP 31 := (rw3.block _ Z1.out.lt (by omega)).trans Z1.out;go_wp2_with ((with_reducible refine af w.heap.size bP (au r3 q3.p) rfl rfl ?_ ?_ ?_ ?_ ?_); rfl; rfl; exact z3; simp [Value.oneCell']);have hz := setRow_heap _ w.heap.size _ (au r3 q3.p) _ _ z3;refine az (ty := 31) Try.results5 w.heap.size (au r3 q3.p) _ ?_ ?_ hz Try.underlying31 rfl (by kernel_rfl) ?_
 ·rfl
 ·rfl
 exact ⟨r3, q3, rfl, hs3, (has3.far (by omega) _).lower (by omega), ay (EV.out.trans ((B1.out.mono (by have := VS.out; omega)).trans (Gx rw3 (by omega) (by omega)))) (Nat.le_refl _) _⟩
end Go.Proofs.Ytjdceoimignnpaa
