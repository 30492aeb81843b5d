import Derived.Test.YtjdceoimignnpaaQ48
import Derived.Test.YtjdceoimignnpaaQ49
namespace Go.Proofs.Ytjdceoimignnpaa
open Go.ChangeShapes Go.WideShapes Go.ChangeAt Go.RowKit next
set_option linter.unusedVariables false
set_option linter.unusedSimpArgs false
set_option maxHeartbeats 32000000
set_option maxRecDepth 20000
structure BkM (B g3 : Nat) (d : Wd) (p : WdP) (J : List RcI) (H : List Mp) (w : World) : Prop where
 k : Blk w g3 (wdV d p) 116
 m : WM B w d p J H
theorem drawRec (w : World) (g : Nat) (ca : Option Addr) (n cap p : Nat) (h : RdA w g ca n cap p) (hp : p ≤ 700000000) (hc : ∀ x, ca = some x → x.block < w.heap.size) :
  Calls Try.prog 60 #[.pointer (some ⟨g, 0, none⟩)] w fun e w' => ∃ (r : Rc) (q : RcI) (k' : Nat), e = .returned (.agg (rcV r q.p)) ∧ VR r ∧ RcHas w.heap.size w' r q.p q.X q.c ∧ RdW g w w' ∧ RdA w' g ca n cap k' ∧ k' ≤ p + 1100 := by
 have HP := hid hp;have HC := hid hc;have GL := hid (show g < w.heap.size from h.k.lt);obtain ⟨V, hV⟩ : ∃ V, V = w.alloc (.cells zRc 31) := ⟨_, rfl⟩
 have EV := hid (show Below w.heap.size w V by rw [hV]; exact ext_alloc (Below.refl _ _) _);have A0 := hid (h.ext EV.out);have Z0 := hid (show Blk V w.heap.size zRc 31 by rw [hV]; exact Blk.new _ _ _);have VS := hid (show V.heap.size = w.heap.size + 1 by rw [hV]; simp);clear h hp hc;go_enter Try.func60, Try.ntmps60;go_wp2_with fail;rw [← hV];clear hV;refine (specReached V g ca n cap p A0.out (by have := HP.out; omega) (fun x hx => by have := HC.out x hx; have := VS.out; omega)).mono ?_;rintro e w1 ⟨d, pp, J, H, k, rfl, hs1, hk1⟩;obtain ⟨aR, cR, aF, cF, aX, cX⟩ := pp;obtain ⟨gR, curR, eR, hBR, hkR, _⟩ := hs1.t.m.cells;dsimp only at eR;subst eR;have S1 := hid hs1;have KB := hid hk1;have WKd := hid (wk_iff.1 hs1.t.m.ok);obtain ⟨g3, hg3⟩ : ∃ x, x = w1.heap.size := ⟨_, rfl⟩
 obtain ⟨W2, hW2⟩ : ∃ u, u = w1.alloc (.cells (wdV d ⟨some ⟨gR, 0, none⟩, cR, aF, cF, aX, cX⟩) 116) := ⟨_, rfl⟩
 obtain ⟨J0, hJ0⟩ : ∃ x, x = J.map (freshI w1.heap.size) := ⟨_, rfl⟩
 have S2 := hid (show RS V g ca n cap k d ⟨some ⟨gR, 0, none⟩, cR, aF, cF, aX, cX⟩ J0 H [(g3, 116, wdV d ⟨some ⟨gR, 0, none⟩, cR, aF, cF, aX, cX⟩)] W2 by
  rw [hJ0]
  exact S1.out.step (S1.out.t.boxes1 (show Below w1.heap.size w1 W2 by rw [hW2]; exact ext_alloc (Below.refl _ _) _) (by rw [hW2, hg3]; exact Blk.new _ _ _) (by rw [hg3]; exact Nat.le_refl _) oddW))
 clear hs1 hk1 hBR hkR hJ0 S1;go_wp2_with ((with_reducible refine wpList_store_w3b (wdV d ⟨some ⟨gR, 0, none⟩, cR, aF, cF, aX, cX⟩) rfl ?_ ?_ ?_ ?_ ?_); (· rfl); (· rfl); (· rfl); (· simp [Value.oneCell']));try rw [← hg3]
 rw [← hW2];clear hg3 hW2;have hK0 : BkM V.heap.size g3 d ⟨some ⟨gR, 0, none⟩, cR, aF, cF, aX, cX⟩ J0 H W2 := ⟨(S2.out.t.x _ (.head _)).1, S2.out.t.m⟩
 refine wp_region_last (S := BkM V.heap.size g3 d ⟨some ⟨gR, 0, none⟩, cR, aF, cF, aX, cX⟩ J0 H) 9 (by kernel_rfl) ⟨Blk.drew hK0.k, hK0.m.same fun _ _ _ => rfl⟩ (fun hHeld => ?_);simp only [qz, Nat.reduceAdd];obtain ⟨w3, hw3⟩ : ∃ u, u = W2.drew := ⟨_, rfl⟩
 have S3 := hid (S2.out.ext (show Below W2.heap.size W2 w3 by rw [hw3]; exact (Below.refl _ _).drew));rw [← hw3] at hHeld ⊢;clear hw3 hK0 S2;refine planR.go [0, 1, 2, 3, 4, 5] ?_;iterate 6 (apply planR.take (at_lit rfl) (by kernel_rfl) (by rfl) (fun _ _ _ h => h) hHeld; (· intro w9 hSw; have hq := hSw.k.cell; clear hSw; go_simp; try with_reducible rfl); try simp only [qq])
 refine planR.fin ?_;refine rdL 6 (by kernel_rfl) (at_lit rfl) (fun K hK => ?_);go_simp;refine (pickW w3 g ca n cap k (d.recs.length : Int) S3.out.a (by have := KB.out; have := HP.out; omega) (by have := WKd.out.n5; omega) (by have := WKd.out.n1; omega)).mono ?_;rintro e w4 ⟨v, rfl, hv, hu, ha⟩;have S4 := hid (S3.out.pick hu ha);clear hu ha S3;go_wp2_with fail;refine hK.out _ _ ⟨(S4.out.t.x _ (.head _)).1, S4.out.t.m⟩ ?_;clear hK K hHeld;intro hHeld;try simp only [qq]
 have VL := hid (show v < d.recs.length by omega);obtain ⟨r, hr⟩ : ∃ r, d.recs[v]? = some r := ⟨_, List.getElem?_eq_getElem VL.out⟩
 obtain ⟨q, hq⟩ : ∃ q, J0[v]? = some q := ⟨_, List.getElem?_eq_getElem (by rw [S4.out.t.m.li]; exact VL.out)⟩
 have HR := hid hr;have HQ := hid hq;clear hr hq;have e0 : (0 : Int) ≤ (v : Int) := by omega
 refine planR.go [7] ?_;iterate 1 (apply planR.take (at_lit rfl) (by kernel_rfl) (by rfl) (fun _ _ _ h => h) hHeld; (· intro w9 hSw; have hq := hSw.k.cell; clear hSw; go_simp; try with_reducible rfl); try simp only [qq])
 refine planR.fin ?_;refine wpLast_take2 (i := 8) (v := .agg (rcV r q.p)) (at_lit rfl) (by kernel_rfl) (by kernel_rfl) (by kernel_rfl) (by kernel_rfl) (fun _ _ _ h => h) (yieldsIf_load_mid (by rfl) 31 _ rfl gR (v * 18) rfl (rcV r q.p).toList _ (fun w9 hS => hS.m.range rfl HR.out HQ.out) Try.underlying31 rfl (by kernel_rfl)) hHeld ?_;try simp only [qq]
 refine wpLast_end (by kernel_rfl) (at_lit rfl) (by kernel_rfl) (fun K hK => ?_);have kz : Blk w4 w.heap.size zRc 31 := (S4.out.w.block _ (by have := VS.out; omega) (by have := GL.out; omega)).trans Z0.out;rw [if_pos (by rfl)];refine wp_store_row 31 _ _ rfl w.heap.size (rcV r q.p) rfl rfl 31 zRc kz (by kernel_rfl) rfl (by exact rcV_one _ _) ?_;refine hK.out _ _ ?_;clear hK K hHeld;go_wp2_with fail;have hz := setRow_heap _ w.heap.size _ (rcV r q.p) _ _ kz;refine ret_cell (ty := 31) Try.results60 w.heap.size (rcV r q.p) _ ?_ ?_ hz Try.underlying31 rfl (by kernel_rfl) ?_
 ·rfl
 ·rfl
 have hB : Below V.heap.size w4 w4 := Below.refl _ _;have vs := VS.out;have rc := (S4.out.t.m.rc v r q HR.out HQ.out).1;exact ⟨r, q, _, rfl, (WKd.out.r v r HR.out).1, (rc.far (by omega) _).lower (by omega), (show RdW g w w4 from ((RdW.refl g w).ext EV.out).trans S4.out.w).below (below_setRow' (Below.refl _ _) (Nat.le_refl _) _), S4.out.a.low (B := w.heap.size) GL.out HC.out (below_setRow' (Below.refl _ _) (Nat.le_refl _) _), by have := KB.out; omega⟩
theorem any2 (x y : Int) (v : Nat) (hv : v < 2) : ∃ u : Int, (#[.int .i64 x, .int .i64 y] : Array Value)[v]? = some (.int .i64 u) := by
 have h : v = 0 ∨ v = 1 := by omega
 rcases h with rfl | rfl
 ·exact ⟨_, rfl⟩
 exact ⟨_, rfl⟩
theorem any3 (x y z : Int) (v : Nat) (hv : v < 3) : ∃ u : Int, (#[.int .i64 x, .int .i64 y, .int .i64 z] : Array Value)[v]? = some (.int .i64 u) := by
 have h : v = 0 ∨ v = 1 ∨ v = 2 := by omega
 rcases h with rfl | rfl | rfl
 ·exact ⟨_, rfl⟩
 ·exact ⟨_, rfl⟩
 exact ⟨_, rfl⟩
theorem drawMsgOk (w : World) (ca : Option Addr) (n cap : Nat) (h : BytesAt w ca n) (hc : n ≤ cap) (hm : cap ≤ maxLen) (hl : ∀ x, ca = some x → x.block < w.heap.size) :
  Calls Try.prog 22 #[.slice ca n cap] w fun e w' => ∃ (h : MsgH) (l : List Sl) (nl : Nat) (a' : Option Addr) (c' : Nat) (o : Int), e = .returned (.tuple #[.agg (msgV h (.slice a' nl c')), .int .i64 o]) ∧ RowC w.heap.size w' (fun _ => 0) 0 43 2 a' nl c' (flat l) ∧ l.length = nl ∧ nl ≤ 10 ∧ h.x.size ≤ 1000 ∧ SlOk l ∧ Below w.heap.size w w' := by
 have HL := hid hl;obtain ⟨V, hV⟩ : ∃ V, V = w.alloc (.cells #[.int .i64 0, .int .i64 0, .int .i64 0, .int .i64 0, .int .i64 0, .int .i64 0, .string ⟨#[]⟩, .slice none 0 0] 49) := ⟨_, rfl⟩
 have EV := hid (show Below w.heap.size w V by rw [hV]; exact ext_alloc (Below.refl _ _) _);have Z0 := hid (show Blk V w.heap.size #[.int .i64 0, .int .i64 0, .int .i64 0, .int .i64 0, .int .i64 0, .int .i64 0, .string ⟨#[]⟩, .slice none 0 0] 49 by rw [hV]; exact Blk.new _ _ _);have HO := hid (h.ext EV.out);have VS := hid (show V.heap.size = w.heap.size + 1 by rw [hV]; simp);clear hl h;go_enter Try.func22, Try.ntmps22;go_wp2_with fail;rw [← hV];clear hV;refine (openW V ca n cap HO.out hc hm).mono ?_;rintro e w1 ⟨n', rfl, ra, hb, hz⟩;have A1 := hid ra;have B1 := hid hb;have S1 := hid (show w1.heap.size = w.heap.size + 1 + 1 by rw [hz, VS.out]);have Z1 := hid (Z0.out.ext B1.out);obtain ⟨g, hg⟩ : ∃ g, g = V.heap.size := ⟨_, rfl⟩
 have G1 := hid (show g = w.heap.size + 1 by rw [hg, VS.out]);rw [← hg] at A1 ⊢;clear ra hb hz hc hm hg HO Z0;have HC1 := hid (show ∀ x, ca = some x → x.block < w1.heap.size from fun x hx => by have := HL.out x hx; have := S1.out; omega);go_wp2_with fail;refine (drawRec w1 g ca n' cap 0 A1.out (by omega) HC1.out).mono ?_;rintro e w2 ⟨r, q, k2, rfl, hr, _, rw2, ra2, hk2⟩;have VRr := hid hr;have R2 := hid rw2;have A2 := hid ra2;have K2 := hid hk2;clear hr rw2 ra2 hk2 A1;obtain ⟨gx, hgx⟩ : ∃ x, x = w2.heap.size := ⟨_, rfl⟩
 obtain ⟨W3, hW3⟩ : ∃ u, u = w2.alloc (.cells (rcV r q.p) 31) := ⟨_, rfl⟩
 have E3 := hid (show Below w2.heap.size w2 W3 by rw [hW3]; exact ext_alloc (Below.refl _ _) _);have K3 := hid (show Blk W3 gx (rcV r q.p) 31 by rw [hW3, hgx]; exact Blk.new _ _ _);have Z3 := hid (show W3.heap.size = gx + 1 by rw [hW3, hgx]; simp);have GX := hid (show w1.heap.size ≤ gx by rw [hgx]; exact R2.out.size);have A3 := hid (A2.out.ext E3.out);have R3 := hid (R2.out.ext E3.out);have kx := (Blk.new w2 (rcV r q.p) 31)
 go_wp2_with (first
  | ((with_reducible refine wpList_store_rec (rcV r q.p) rfl ?_ ?_ ?_ ?_ ?_); (· rfl); (· rfl); (· rfl); (· simp [Value.oneCell']))
  | ((with_reducible refine wpList_load_rec w2.heap.size (rcV r q.p) rfl ?_ ?_ ?_); (· rfl); (· exact kx)))
 try rw [← hgx]
 rw [← hW3];clear hgx hW3 kx A2 R2 E3;refine (drawMsg W3 g ca n' cap k2 r q.p A3.out (by have := K2.out; omega) (fun x hx => Nat.lt_of_lt_of_le (HC1.out x hx) R3.out.size) VRr.out).mono ?_;rintro e w4 ⟨hm, l, nl, a1, c1, k5, rfl, dk4, hx4, hn4, hk4⟩;obtain ⟨gm, hgm⟩ : ∃ x, x = w4.heap.size := ⟨_, rfl⟩
 obtain ⟨W5, hW5⟩ : ∃ u, u = w4.alloc (.cells (msgV hm (.slice a1 nl c1)) 49) := ⟨_, rfl⟩
 have HH := hid (show hm.x.size ≤ 1000 by omega);have HN := hid hn4;have K5 := hid (show k5 ≤ 2000 by have := K2.out; omega);have GMX := hid (show gx < gm by have := dk4.r.w.size; have := Z3.out; omega)
 have NEX := hid (show ∀ u ∈ ([(gx, 31, rcV r q.p)] : List (Nat × TypeId × Array Value)), u.1 ≠ gm from fun u hu => by
  simp only [List.mem_cons, List.not_mem_nil, or_false] at hu;subst hu;have := GMX.out;show gx ≠ gm
  omega)
 have D5 := hid (show DK w1 g ca n' cap ((gm, 49, msgV hm (.slice a1 nl c1)) :: (gx, 31, rcV r q.p) :: []) l nl a1 c1 (k5) W5 by
  have hb : Below w4.heap.size w4 W5 := by rw [hW5]; exact ext_alloc (Below.refl _ _) _
  have k := dk4.ext hb;have z3 := Z3.out;have g0 := GX.out;have gl : g < w1.heap.size := by have := G1.out; have := S1.out; omega
  refine ⟨⟨k.r.a, R3.out.trans k.r.w, fun u hu => ?_, gl⟩, k.row.low (by omega), k.ln, fun u hu x hx => ?_, k.ok⟩
  ·simp only [List.mem_cons, List.not_mem_nil, or_false] at hu;rcases hu with rfl | rfl
   ·exact ⟨by rw [hW5, hgm]; exact Blk.new _ _ _, by show w1.heap.size ≤ gm; have := GMX.out; omega⟩
   exact ⟨(k.r.w.block _ (by show gx < W3.heap.size; omega) (by show gx ≠ g; omega)).trans K3.out, g0⟩
  have h1 := (dk4.row.lt x hx)
  simp only [List.mem_cons, List.not_mem_nil, or_false] at hu;rcases hu with rfl | rfl
  ·show x.block ≠ gm; omega
  show x.block ≠ gx; omega)
 clear dk4 hx4 hn4 hk4 K3 A3 R3;go_wp2_with ((with_reducible refine wpList_store_m8b (msgV hm (.slice a1 nl c1)) rfl ?_ ?_ ?_ ?_ ?_); (· rfl); (· rfl); (· rfl); (· simp [Value.oneCell']));try rw [← hgm]
 rw [← hW5];clear hgm hW5;refine (pickW W5 g ca n' cap k5 12 D5.out.r.a (by have := K5.out; omega) (by omega) (by omega)).mono ?_;rintro e w6 ⟨v, rfl, hv, hu, ha⟩;have D6 := hid (D5.out.rd hu.w ha);clear hu ha D5
 go_upto_block 0 with fail
 go_cut [15] from 16 to 70 (fun _ wx => ∃ (h9 : MsgH) (l9 : List Sl) (n9 : Nat) (a9 : Option Addr) (c9 k9 : Nat), h9.x.size ≤ 1000 ∧ n9 ≤ 10 ∧ DK w1 g ca n' cap ((gm, 49, msgV h9 (.slice a9 n9 c9)) :: (gx, 31, rcV r q.p) :: []) l9 n9 a9 c9 k9 wx)
 case first =>
  have h7 : v = 0 ∨ v = 1 ∨ v = 2 ∨ v = 3 ∨ v = 4 ∨ v = 5 ∨ v = 6 ∨ 6 < v := by omega
  rcases h7 with rfl | rfl | rfl | rfl | rfl | rfl | rfl | h7
  ·clear hv;have kI := hid (Blk.new w6 #[.int .i64 0, .int .i64 10] 3);have D3 := hid (D6.out.ext (ext_alloc (Below.refl w6.heap.size w6) (.cells #[.int .i64 0, .int .i64 10] 3)));have GI := hid (show w1.heap.size ≤ w6.heap.size from D6.out.r.w.size);clear D6;go_wp2_with fail;refine (pickW _ g ca n' cap (k5 + 1) 2 D3.out.r.a (by have := K5.out; omega) (by omega) (by omega)).mono ?_;rintro e w8 ⟨b, rfl, hb, hu, ha⟩;obtain ⟨y2, hy2⟩ := any2 0 10 b (by omega);have D4 := hid (D3.out.rd hu.w ha);have cI : w8.cell? ⟨w6.heap.size, b, none⟩ = some (.int .i64 y2) := (Blk.cell ((hu.block _ (by have := D4.out.r.l; have := GI.out; omega)).trans kI.out) b).trans hy2;have e0 : (0 : Int) ≤ (b : Int) := by omega
   have cB := (D4.out.r.x _ (.head _)).1.cell;have fB := (D4.out.r.x _ (.head _)).1.free;have G := hid (show DK w1 g ca n' cap ((gm, 49, msgV { hm with k := y2 } (.slice a1 nl c1)) :: (gx, 31, rcV r q.p) :: []) l nl a1 c1 (k5 + 1 + 1) (w8.setCell ⟨gm, 0, none⟩ (.int .i64 y2)) from D4.out.top HC1.out (fun c hc => heap_setCell_other _ _ _ _ hc) ((D4.out.r.x _ (.head _)).1.set (o := 0) (.int .i64 y2)) ((Below.refl _ _).setCell (D4.out.r.x _ (.head _)).2 _) NEX.out);clear hu ha D3 kI hy2;go_wp2_with fail
   go_meet
   case rel => exact ⟨{ hm with k := y2 }, l, nl, a1, c1, _, by show hm.x.size ≤ 1000; exact HH.out, by have := HN.out; omega, G.out⟩
  ·clear hv;have kI := hid (Blk.new w6 #[.int .i64 0, .int .i64 9] 3);have D3 := hid (D6.out.ext (ext_alloc (Below.refl w6.heap.size w6) (.cells #[.int .i64 0, .int .i64 9] 3)));have GI := hid (show w1.heap.size ≤ w6.heap.size from D6.out.r.w.size);clear D6;go_wp2_with fail;refine (pickW _ g ca n' cap (k5 + 1) 2 D3.out.r.a (by have := K5.out; omega) (by omega) (by omega)).mono ?_;rintro e w8 ⟨b, rfl, hb, hu, ha⟩;obtain ⟨y2, hy2⟩ := any2 0 9 b (by omega);have D4 := hid (D3.out.rd hu.w ha);have cI : w8.cell? ⟨w6.heap.size, b, none⟩ = some (.int .i64 y2) := (Blk.cell ((hu.block _ (by have := D4.out.r.l; have := GI.out; omega)).trans kI.out) b).trans hy2;have e0 : (0 : Int) ≤ (b : Int) := by omega
   have cB := (D4.out.r.x _ (.head _)).1.cell;have fB := (D4.out.r.x _ (.head _)).1.free;have G := hid (show DK w1 g ca n' cap ((gm, 49, msgV { hm with f := y2 } (.slice a1 nl c1)) :: (gx, 31, rcV r q.p) :: []) l nl a1 c1 (k5 + 1 + 1) (w8.setCell ⟨gm, 1, none⟩ (.int .i64 y2)) from D4.out.top HC1.out (fun c hc => heap_setCell_other _ _ _ _ hc) ((D4.out.r.x _ (.head _)).1.set (o := 1) (.int .i64 y2)) ((Below.refl _ _).setCell (D4.out.r.x _ (.head _)).2 _) NEX.out);clear hu ha D3 kI hy2;go_wp2_with fail
   go_meet
   case rel => exact ⟨{ hm with f := y2 }, l, nl, a1, c1, _, by show hm.x.size ≤ 1000; exact HH.out, by have := HN.out; omega, G.out⟩
  ·clear hv;have kI := hid (Blk.new w6 #[.int .i64 0, .int .i64 9] 3);have D3 := hid (D6.out.ext (ext_alloc (Below.refl w6.heap.size w6) (.cells #[.int .i64 0, .int .i64 9] 3)));have GI := hid (show w1.heap.size ≤ w6.heap.size from D6.out.r.w.size);clear D6;go_wp2_with fail;refine (pickW _ g ca n' cap (k5 + 1) 2 D3.out.r.a (by have := K5.out; omega) (by omega) (by omega)).mono ?_;rintro e w8 ⟨b, rfl, hb, hu, ha⟩;obtain ⟨y2, hy2⟩ := any2 0 9 b (by omega);have D4 := hid (D3.out.rd hu.w ha);have cI : w8.cell? ⟨w6.heap.size, b, none⟩ = some (.int .i64 y2) := (Blk.cell ((hu.block _ (by have := D4.out.r.l; have := GI.out; omega)).trans kI.out) b).trans hy2;have e0 : (0 : Int) ≤ (b : Int) := by omega
   have cB := (D4.out.r.x _ (.head _)).1.cell;have fB := (D4.out.r.x _ (.head _)).1.free;have G := hid (show DK w1 g ca n' cap ((gm, 49, msgV { hm with t := y2 } (.slice a1 nl c1)) :: (gx, 31, rcV r q.p) :: []) l nl a1 c1 (k5 + 1 + 1) (w8.setCell ⟨gm, 2, none⟩ (.int .i64 y2)) from D4.out.top HC1.out (fun c hc => heap_setCell_other _ _ _ _ hc) ((D4.out.r.x _ (.head _)).1.set (o := 2) (.int .i64 y2)) ((Below.refl _ _).setCell (D4.out.r.x _ (.head _)).2 _) NEX.out);clear hu ha D3 kI hy2;go_wp2_with fail
   go_meet
   case rel => exact ⟨{ hm with t := y2 }, l, nl, a1, c1, _, by show hm.x.size ≤ 1000; exact HH.out, by have := HN.out; omega, G.out⟩
  ·clear hv;have kI := hid (Blk.new w6 #[.int .i64 (-1), .int .i64 1000000, .int .i64 1000001] 3);have D3 := hid (D6.out.ext (ext_alloc (Below.refl w6.heap.size w6) (.cells #[.int .i64 (-1), .int .i64 1000000, .int .i64 1000001] 3)));have GI := hid (show w1.heap.size ≤ w6.heap.size from D6.out.r.w.size);clear D6;go_wp2_with fail;refine (pickW _ g ca n' cap (k5 + 1) 3 D3.out.r.a (by have := K5.out; omega) (by omega) (by omega)).mono ?_;rintro e w8 ⟨b, rfl, hb, hu, ha⟩;obtain ⟨y2, hy2⟩ := any3 (-1) 1000000 1000001 b (by omega);have D4 := hid (D3.out.rd hu.w ha);have cI : w8.cell? ⟨w6.heap.size, b, none⟩ = some (.int .i64 y2) := (Blk.cell ((hu.block _ (by have := D4.out.r.l; have := GI.out; omega)).trans kI.out) b).trans hy2;have e0 : (0 : Int) ≤ (b : Int) := by omega
   have cB := (D4.out.r.x _ (.head _)).1.cell;have fB := (D4.out.r.x _ (.head _)).1.free;have G := hid (show DK w1 g ca n' cap ((gm, 49, msgV { hm with b := y2 } (.slice a1 nl c1)) :: (gx, 31, rcV r q.p) :: []) l nl a1 c1 (k5 + 1 + 1) (w8.setCell ⟨gm, 3, none⟩ (.int .i64 y2)) from D4.out.top HC1.out (fun c hc => heap_setCell_other _ _ _ _ hc) ((D4.out.r.x _ (.head _)).1.set (o := 3) (.int .i64 y2)) ((Below.refl _ _).setCell (D4.out.r.x _ (.head _)).2 _) NEX.out);clear hu ha D3 kI hy2;go_wp2_with fail
   go_meet
   case rel => exact ⟨{ hm with b := y2 }, l, nl, a1, c1, _, by show hm.x.size ≤ 1000; exact HH.out, by have := HN.out; omega, G.out⟩
  ·clear hv;have kI := hid (Blk.new w6 #[.int .i64 (-1), .int .i64 60, .int .i64 61] 3);have D3 := hid (D6.out.ext (ext_alloc (Below.refl w6.heap.size w6) (.cells #[.int .i64 (-1), .int .i64 60, .int .i64 61] 3)));have GI := hid (show w1.heap.size ≤ w6.heap.size from D6.out.r.w.size);clear D6;go_wp2_with fail;refine (pickW _ g ca n' cap (k5 + 1) 3 D3.out.r.a (by have := K5.out; omega) (by omega) (by omega)).mono ?_;rintro e w8 ⟨b, rfl, hb, hu, ha⟩;obtain ⟨y2, hy2⟩ := any3 (-1) 60 61 b (by omega);have D4 := hid (D3.out.rd hu.w ha);have cI : w8.cell? ⟨w6.heap.size, b, none⟩ = some (.int .i64 y2) := (Blk.cell ((hu.block _ (by have := D4.out.r.l; have := GI.out; omega)).trans kI.out) b).trans hy2;have e0 : (0 : Int) ≤ (b : Int) := by omega
   have cB := (D4.out.r.x _ (.head _)).1.cell;have fB := (D4.out.r.x _ (.head _)).1.free;have G := hid (show DK w1 g ca n' cap ((gm, 49, msgV { hm with i := y2 } (.slice a1 nl c1)) :: (gx, 31, rcV r q.p) :: []) l nl a1 c1 (k5 + 1 + 1) (w8.setCell ⟨gm, 4, none⟩ (.int .i64 y2)) from D4.out.top HC1.out (fun c hc => heap_setCell_other _ _ _ _ hc) ((D4.out.r.x _ (.head _)).1.set (o := 4) (.int .i64 y2)) ((Below.refl _ _).setCell (D4.out.r.x _ (.head _)).2 _) NEX.out);clear hu ha D3 kI hy2;go_wp2_with fail
   go_meet
   case rel => exact ⟨{ hm with i := y2 }, l, nl, a1, c1, _, by show hm.x.size ≤ 1000; exact HH.out, by have := HN.out; omega, G.out⟩
  ·clear hv;go_wp2_with fail;refine (pickW w6 g ca n' cap (k5 + 1) 2 D6.out.r.a (by have := K5.out; omega) (by omega) (by omega)).mono ?_;rintro e w8 ⟨b, rfl, hb, hu, ha⟩;have D4 := hid (D6.out.rd hu.w ha);have e6 : IntKind.i64.wrap (100 + (b : Int)) = ((100 + b : Nat) : Int) := by go_arith
   clear hu ha D6;go_wp2_with fail;refine (manyW ⟨#[116]⟩ (100 + b) w8 rfl (by omega)).mono ?_;rintro e wM ⟨t2, rfl, t20, hwM⟩;subst wM;have cB := (D4.out.r.x _ (.head _)).1.cell;have fB := (D4.out.r.x _ (.head _)).1.free;have G := hid (show DK w1 g ca n' cap ((gm, 49, msgV { hm with x := t2 } (.slice a1 nl c1)) :: (gx, 31, rcV r q.p) :: []) l nl a1 c1 (k5 + 1 + 1) (w8.setCell ⟨gm, 6, none⟩ (.string t2)) from D4.out.top HC1.out (fun c hc => heap_setCell_other _ _ _ _ hc) ((D4.out.r.x _ (.head _)).1.set (o := 6) (.string t2)) ((Below.refl _ _).setCell (D4.out.r.x _ (.head _)).2 _) NEX.out);clear e6;go_wp2_with fail
   go_meet
   case rel => exact ⟨{ hm with x := t2 }, l, nl, a1, c1, _, t20, by have := HN.out; omega, G.out⟩
  ·clear hv;have X6 := hid (show Below w6.heap.size w6 (w6.alloc (.cells #[Value.int .i64 0, Value.string ⟨#[120]⟩] 43)) from ext_alloc (Below.refl _ _) _);have OW := (D6.out.ext X6.out).row.own;have LO := hid (D6.out.ext X6.out).r.w.size
   have NEWS : ReadAt (w6.alloc (.cells #[Value.int .i64 0, Value.string ⟨#[120]⟩] 43)) (some ⟨w6.heap.size, 0, none⟩) 1 1 2 #[Value.int .i64 0, Value.string ⟨#[120]⟩].toList := ⟨rfl, fun e => by simp at e, fun y hy => by
    simp only [Option.some.injEq] at hy;subst hy
    exact ⟨rfl, blk_news (cs := #[Value.int .i64 0, Value.string ⟨#[120]⟩].toList) (Blk.new _ _ _)⟩⟩
   have cB := (D6.out.r.x _ (.head _)).1.cell;have fB := (D6.out.r.x _ (.head _)).1.free;have nl5 := HN.out;go_wp2_with ((with_reducible refine wpList_appS w1.heap.size a1 nl c1 (flat l) (some ⟨w6.heap.size, 0, none⟩) 1 1 #[Value.int .i64 0, Value.string ⟨#[120]⟩].toList ?_ ?_ ?_ ?_ ?_ ?_ ?_ ?_); (· rfl); (· rfl); (· exact OW); (· exact NEWS); (· intro u hu; simp at hu; rcases hu with rfl | rfl <;> rfl); (· omega); (· exact LO.out); (intro a7 c7 w7 q1 q2 q3; have G := hid (D6.out.app (s := ((0 : Int), ⟨#[120]⟩)) X6.out HC1.out q1 q2 q3 ⟨by show (-1 : Int) ≤ 0; omega, by show (0 : Int) ≤ 2000000; omega, by show (1 : Nat) ≤ 1000; omega⟩); have cB7 := (G.out.r.x _ (.head _)).1.cell; have fB7 := (G.out.r.x _ (.head _)).1.free));have G2 := hid (show DK w1 g ca n' cap ((gm, 49, msgV hm (.slice a7 (nl + 1) c7)) :: (gx, 31, rcV r q.p) :: []) (l ++ [((0 : Int), ⟨#[120]⟩)]) (nl + 1) a7 c7 (k5 + 1) (w7.setCell ⟨gm, 7, none⟩ (.slice a7 (nl + 1) c7)) from G.out.top HC1.out (fun c hc => heap_setCell_other _ _ _ _ hc) ((G.out.r.x _ (.head _)).1.set (o := 7) (.slice a7 (nl + 1) c7)) ((Below.refl _ _).setCell (G.out.r.x _ (.head _)).2 _) NEX.out)
   go_meet
   case rel => exact ⟨hm, _, nl + 1, a7, c7, _, HH.out, by omega, G2.out⟩
  have n0 : ((v : Int) == 0) = false := by simp; omega
  have n1 : ((v : Int) == 1) = false := by simp; omega
  have n2 : ((v : Int) == 2) = false := by simp; omega
  have n3 : ((v : Int) == 3) = false := by simp; omega
  have n4 : ((v : Int) == 4) = false := by simp; omega
  have n5 : ((v : Int) == 5) = false := by simp; omega
  have n6 : ((v : Int) == 6) = false := by simp; omega
  go_wp2_with fail
  go_meet
  case rel => exact ⟨hm, l, nl, a1, c1, _, HH.out, by have := HN.out; omega, D6.out⟩
 case rest =>
 obtain ⟨h9, l9, n9, a9, c9, k9, hh9, hn9, hd9⟩ := hcut;have D9 := hid hd9;have H9 := hid hh9;have N9 := hid hn9;obtain ⟨w9, hw9⟩ : ∃ v : World, v = wc := ⟨_, rfl⟩
 subst hw9;clear hd9 hh9 hn9 D6;go_wp2_with fail;have hK0 : BkRM gx gm (rcV r q.p) (msgV h9 (.slice a9 n9 c9)) w9 := ⟨(D9.out.r.x _ (.tail _ (.head _))).1, (D9.out.r.x _ (.head _)).1⟩
 refine wp_region_held_drew (S := BkRM gx gm (rcV r q.p) (msgV h9 (.slice a9 n9 c9))) (by kernel_rfl) ⟨Blk.drew hK0.k, Blk.drew hK0.m⟩ (fun hHeld => ?_);simp only [qz, Nat.reduceAdd];obtain ⟨wa, hwa⟩ : ∃ u, u = w9.drew := ⟨_, rfl⟩
 have DA := hid (D9.out.ext (show Below w9.heap.size w9 wa by rw [hwa]; exact (Below.refl _ _).drew));rw [← hwa] at hHeld ⊢;clear hwa hK0 D9;refine wpAnyH_take (i := 0) (v := .agg (msgV h9 (.slice a9 n9 c9))) (at_lit rfl) (by kernel_rfl) (by kernel_rfl) (by kernel_rfl) (fun _ _ _ h => h) (yields_ms (fun w9 hS => hS.m) rfl (by rfl) _ rfl rfl) hHeld ?_;try simp only [qq]
 refine planH.go [1, 2] ?_;iterate 2 (apply planH.take (at_lit rfl) (by kernel_rfl) (by rfl) (fun _ _ _ h => h) hHeld; (· intro w9 hSw; have hq := hSw.k.cell; clear hSw; go_simp; try with_reducible rfl); try simp only [qq])
 refine planH.fin ?_;refine rdH 3 (by kernel_rfl) (at_lit rfl) (fun K hK => ?_);have z1 := S1.out;have gg := G1.out;have kz : Blk wa w.heap.size #[.int .i64 0, .int .i64 0, .int .i64 0, .int .i64 0, .int .i64 0, .int .i64 0, .string ⟨#[]⟩, .slice none 0 0] 49 := (DA.out.r.w.block _ (by omega) (by omega)).trans Z1.out;have gx1 := (DA.out.r.x _ (.tail _ (.head _))).2;have gm1 := (DA.out.r.x _ (.head _)).2;rw [if_pos (by rfl)];refine wp_store_row 49 _ _ rfl w.heap.size (msgV h9 (.slice a9 n9 c9)) rfl rfl 49 #[.int .i64 0, .int .i64 0, .int .i64 0, .int .i64 0, .int .i64 0, .int .i64 0, .string ⟨#[]⟩, .slice none 0 0] kz (by kernel_rfl) rfl (by simp [Value.oneCell']) ?_;refine hK.out _ _ ⟨(setRow_other _ _ _ _ (show gx ≠ w.heap.size by have : w1.heap.size ≤ gx := gx1; omega)).trans hHeld.k, (setRow_other _ _ _ _ (show gm ≠ w.heap.size by have : w1.heap.size ≤ gm := gm1; omega)).trans hHeld.m⟩ ?_;clear hK K hHeld;intro hHeld;try simp only [qq]
 refine planH.go [4] ?_;iterate 1 (apply planH.take (at_lit rfl) (by kernel_rfl) (by rfl) (fun _ _ _ h => h) hHeld; (· intro w9 hSw; have hq := hSw.k.cell; clear hSw; go_simp; try with_reducible rfl); try simp only [qq])
 refine planH.fin ?_;refine wpAnyH_done (by kernel_rfl) ?_ _;go_wp2_with fail;have hz := setRow_heap _ w.heap.size _ (msgV h9 (.slice a9 n9 c9)) _ _ kz;refine ret_cell2 (ty := 49) Try.results22 w.heap.size (msgV h9 (.slice a9 n9 c9)) _ ?_ ?_ hz Try.underlying49 rfl (by kernel_rfl) ?_
 ·rfl
 ·rfl
 exact ⟨h9, l9, n9, a9, c9, ⟨r.of_, rfl⟩, (DA.out.row.same fun z hz => setRow_other _ _ _ _ (by have := (DA.out.row.lt z hz).1; omega)).low (by omega), DA.out.ln, N9.out, H9.out, DA.out.ok, below_setRow' (EV.out.trans ((B1.out.mono (by have := VS.out; omega)).trans (rd_below DA.out.r.w (by omega) (by omega)))) (Nat.le_refl _) _⟩
end Go.Proofs.Ytjdceoimignnpaa
