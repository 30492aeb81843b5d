import Derived.Test.YtjdceoimignnpaaF25
namespace Go.Proofs.Ytjdceoimignnpaa
open Go.ChangeShapes Go.WideShapes Go.ChangeAt Go.RowKit next
set_option linter.unusedVariables false
set_option linter.unusedSimpArgs false
set_option maxHeartbeats 32000000
set_option maxRecDepth 20000
variable {cs : Array Value} {X : List (Nat × TypeId × Array Value)} {l : List Sl} {c' cap g gx n nl p : Nat} {a' ca : Option Addr} {w w' w0 w6 w7 : World}
theorem df {P : Program} {md : Region.Mode} {ops : Array Oper} {Q : Exit → Act → World → Prop} {S S' : World → Prop} {z : Nat} (hS : ∀ w, S' w → S w) : ∀ (f : Nat) (L : Array Bool) (a : Act) (w : World), dW P md ops Q S' z f L a w → dW P md ops Q S z f L a w
 | 0, _, _, _, h => h
 | f + 1, _, _, _, h => ⟨h.1, fun i hi => wpOp_mono (fun a' w' k => ⟨fun hz => hS w' (k.1 hz), df hS f _ a' w' k.2⟩) (h.2 i hi)⟩
structure vF (gx : Nat) (cs : Array Value) (w : World) : Prop where
 k : aC w gx cs 25
structure xP (gx : Nat) (cs : Array Value) (gi : Nat) (is : Array Value) (T : TypeId) (w : World) : Prop where
 k : aC w gx cs 25
 i : aC w gi is T
theorem vF.ext (h : vF gx cs w) (hb : Below w.heap.size w w') : vF gx cs w' := ⟨h.k.ext hb⟩
theorem xP.ext {gi : Nat} {is : Array Value} {T : TypeId} (h : xP gx cs gi is T w) (hb : Below w.heap.size w w') : xP gx cs gi is T w' := ⟨h.k.ext hb, h.i.ext hb⟩
theorem DK.grown (h : DK w0 g ca n cap X l nl a' c' p w6) (hg : w6.grownBy w7 (Value.slice a' nl c').ownBlock) {b : Nat} {cs : Array Value} {T : TypeId} (hk : aC w6 b cs T) (hT : 43 ≠ T) : aC w7 b cs T :=
 (hg.block b hk.lt (fun e => by
  cases ha : a' with
  | none => rw [ha] at e; simp [Value.ownBlock] at e
  | some x => rw [ha] at e; simp only [Value.ownBlock, Option.some.injEq] at e; exact h.row.ne hk hT x ha e.symm)).trans hk
theorem DK.app {wr : World} (h : DK w0 g ca n cap X l nl a' c' p wr) {s : Sl} (hb : Below wr.heap.size wr w6) (hc : ∀ x, ca = some x → x.block < w0.heap.size) {a2 : Option Addr} {c2 : Nat} (ho : w7.ownsRow w0.heap.size 43 2 (.slice a2 (nl + 1) c2) (nl + 1) (flat l ++ [.int .i64 s.1, .string s.2])) (hg : w6.grownBy w7 (Value.slice a' nl c').ownBlock) (hn : dP w6 a' a2) (hs : -1 ≤ s.1 ∧ s.1 ≤ 2000000 ∧ s.2.size ≤ 1000) : DK w0 g ca n cap X (l ++ [s]) (nl + 1) a2 c2 p w7 := by
 have h6 := h.ext hb;have own : ∀ b, (Value.slice a' nl c').ownBlock = some b → ∃ x, a' = some x ∧ x.block = b := fun b e => by
  cases ha : a' with
  | none => rw [ha] at e; simp [Value.ownBlock] at e
  | some x => rw [ha] at e; simp only [Value.ownBlock, Option.some.injEq] at e; exact ⟨x, rfl, e⟩
 have hB : Below w0.heap.size w6 w7 := below_grow (Below.refl _ _) hg (fun jj hjj => by
  obtain ⟨x, hx, e⟩ := own jj hjj;rw [← e]
  exact (h6.row.lt x hx).1) h6.r.w.size
 refine ⟨⟨h6.r.a.low h.r.l hc hB, h6.r.w.below hB, fun u hu => ⟨(hg.block _ (h6.r.x u hu).1.lt (fun e => ?_)).trans (h6.r.x u hu).1, (h6.r.x u hu).2⟩, h.r.l⟩, ⟨by rw [lm]; exact ho, fun _ _ => rfl⟩, by simp [h.ln], fun u hu x hx => ?_, fun u hu => ?_⟩
 ·obtain ⟨x, hx, e⟩ := own _ e.symm;exact h.ap u hu x hx e
 ·rcases hn x hx with ⟨y, hy, e⟩ | hnew
  ·rw [← e]; exact h.ap u hu y hy
  have := (h6.r.x u hu).1.lt; omega
 rcases List.mem_append.1 hu with hu | hu
 ·exact h.ok u hu
 simp only [List.mem_cons, List.not_mem_nil, or_false] at hu;subst hu;exact hs
theorem Dl (M x y z : Int) (v : Nat) (hv : v < 3) (h1 : -1 ≤ x ∧ x ≤ M) (h2 : -1 ≤ y ∧ y ≤ M) (h3 : -1 ≤ z ∧ z ≤ M) : ∃ u : Int, (#[.int .i64 x, .int .i64 y, .int .i64 z] : Array Value)[v]? = some (.int .i64 u) ∧ -1 ≤ u ∧ u ≤ M := by
 have h : v = 0 ∨ v = 1 ∨ v = 2 := by omega
 rcases h with rfl | rfl | rfl
 ·exact ⟨_, rfl, h1⟩
 ·exact ⟨_, rfl, h2⟩
 exact ⟨_, rfl, h3⟩
theorem MN (v : Nat) (hv : v < 4) : ∃ u : Int, (#[.int .i64 (-1), .int .i64 0, .int .i64 1000000, .int .i64 1000001] : Array Value)[v]? = some (.int .i64 u) ∧ -1 ≤ u ∧ u ≤ 1000001 := by
 have h : v = 0 ∨ v = 1 ∨ v = 2 ∨ v = 3 := by omega
 rcases h with rfl | rfl | rfl | rfl
 ·exact ⟨_, rfl, by omega, by omega⟩
 ·exact ⟨_, rfl, by omega, by omega⟩
 ·exact ⟨_, rfl, by omega, by omega⟩
 exact ⟨_, rfl, by omega, by omega⟩
def AU (w : World) (gx : Nat) : Nat := match w.cell? ⟨gx, 2, none⟩ with
 | some (.slice _ k _) => k
 | _ => 0
theorem JA (v : Nat) (hv : v < 2) : ∃ u : ByteArray, (#[.string ⟨#[120]⟩, .string ⟨#[]⟩] : Array Value)[v]? = some (.string u) ∧ u.size ≤ 1 := by
 have h : v = 0 ∨ v = 1 := by omega
 rcases h with rfl | rfl
 ·exact ⟨_, rfl, by show (1 : Nat) ≤ 1; omega⟩
 exact ⟨_, rfl, by show (0 : Nat) ≤ 1; omega⟩
theorem oz {z : Int} (h0 : -1 ≤ z) (h1 : z ≤ 2000000) : (Lit.int .i64 z).wf = true := by
 have a : IntKind.i64.min = -9223372036854775808 := by rfl
 have b : IntKind.i64.max = 9223372036854775807 := by rfl
 simp [Lit.wf, a, b];omega
theorem Cc.good (h : Cc l) : dE l := fun i s hs => by
 have h9 := h s (List.mem_of_getElem? hs);exact ⟨by unfold maxLen; omega, oz (by omega) (by omega)⟩
theorem yJ (B : Nat) (w : World) (g : Nat) (ca : Option Addr) (n cap p : Nat) (x y : Int) (l : List Sl) (nl : Nat) (a0 : Option Addr) (c0 : Nat) (col : Nat → Nat) (t0 : Nat) (h : pO w g ca n cap p) (hp : p ≤ 700000000) (hc : ∀ x, ca = some x → x.block < w.heap.size) (hx : -1 ≤ x ∧ x ≤ 1000001) (hy : -1 ≤ y ∧ y ≤ 1000001) (hl : l.length = nl) (hnl : nl ≤ 60) (hok : Cc l) (hr : aO B w col t0 43 2 a0 nl c0 (flat l)) :
  Calls Try.prog 59 #[.pointer (some ⟨g, 0, none⟩), .agg #[.int .i64 x, .int .i64 y, .slice a0 nl c0]] w (Oa w g ca n cap p 10 100) := by
 have HP := hid hp;have HC := hid hc;have HX := hid hx;have HY := hid hy;have NL := hid hnl;have LL := hid hl;have HOK := hid hok;obtain ⟨V, hV⟩ : ∃ V, V = (w.alloc (.cells #[.int .i64 x, .int .i64 y, .slice a0 nl c0] 25)).alloc (.cells #[.int .i64 0, .int .i64 0, .slice none 0 0] 25) := ⟨_, rfl⟩
 have EV := hid (show Below w.heap.size w V by rw [hV]; exact ae (ae (Below.refl _ _) _) _);have S0 := hid ((RX.start h).ext EV.out);have R0 := hid (hr.ext EV.out);have K0 := hid (show aC V w.heap.size #[.int .i64 x, .int .i64 y, .slice a0 nl c0] 25 by rw [hV]; exact (aC.new _ _ _).alloc _);have Z0 := hid (show aC V (w.heap.size + 1) #[.int .i64 0, .int .i64 0, .slice none 0 0] 25 by rw [hV]; exact aC.new' _ _ (by simp));clear h hp hc hx hy hnl hok hr hl;have k0 := K0.out;rw [hV] at k0;go_enter Try.func59, Try.ntmps59;go_wp2_with ((with_reducible refine eU w.heap.size #[.int .i64 x, .int .i64 y, .slice a0 nl c0] rfl ?_ ?_ ?_); rfl; exact k0);rw [← hV];clear hV k0 K0;refine (lU x y a0 l nl c0 V LL.out (by have := NL.out; omega) R0.out.plain.1 R0.out.plain.2 (R0.out.slots HOK.out.good)).mono ?_;rintro e w1 ⟨gS, c1, rfl, _, oR, hb1⟩;obtain ⟨a1, ha1⟩ : ∃ u : Option Addr, u = some ⟨gS, 0, none⟩ := ⟨_, rfl⟩
 rw [← ha1] at oR ⊢;clear ha1;obtain ⟨W1, hW1⟩ : ∃ u, u = w1.alloc (.cells #[.int .i64 x, .int .i64 y, .slice a1 nl c1] 25) := ⟨_, rfl⟩
 obtain ⟨gx, hgx⟩ : ∃ u, u = w1.heap.size := ⟨_, rfl⟩
 have VS : w.heap.size + 1 < V.heap.size := Z0.out.lt;have GX := hid (show w.heap.size ≤ gx by rw [hgx]; have := hb1.size; omega)
 have NEX := hid (show ∀ u ∈ [(w.heap.size + 1, 25, (#[.int .i64 0, .int .i64 0, .slice none 0 0] : Array Value))], u.1 ≠ gx from fun u hu => by
  simp only [List.mem_cons, List.not_mem_nil, or_false] at hu;subst hu;have := hb1.size;show w.heap.size + 1 ≠ gx
  omega)
 have D1 := hid (show DK w g ca n cap [(gx, 25, #[.int .i64 x, .int .i64 y, .slice a1 nl c1]), (w.heap.size + 1, 25, #[.int .i64 0, .int .i64 0, .slice none 0 0])] l nl a1 c1 (p) W1 by
  have hb : Below w1.heap.size w1 W1 := by rw [hW1]; exact ae (Below.refl _ _) _
  have r1 : aO V.heap.size W1 (fun _ => 0) 0 43 2 a1 nl c1 (flat l) := aO.ext (aO.mk oR (fun _ _ => rfl)) hb;have s1 := (S0.out.ext hb1).ext hb;refine ⟨⟨s1.a, s1.w, fun u hu => ?_, s1.l⟩, r1.low (by omega), LL.out, fun u hu z hz => ?_, HOK.out⟩
  ·simp only [List.mem_cons, List.not_mem_nil, or_false] at hu;rcases hu with rfl | rfl
   ·exact ⟨by rw [hW1, hgx]; exact aC.new _ _ _, GX.out⟩
   exact ⟨(Z0.out.ext hb1).ext hb, by show w.heap.size ≤ w.heap.size + 1; omega⟩
  have hl := ((aO.mk oR (fun _ _ => rfl) : aO V.heap.size w1 (fun _ => 0) 0 43 2 a1 nl c1 (flat l)).lt z hz)
  simp only [List.mem_cons, List.not_mem_nil, or_false] at hu;rcases hu with rfl | rfl
  ·show z.block ≠ gx; omega
  show z.block ≠ w.heap.size + 1; omega)
 go_wp2_with ((with_reducible refine uT #[.int .i64 x, .int .i64 y, .slice a1 nl c1] rfl ?_ ?_ ?_ ?_ ?_); rfl; rfl; rfl; simp [Value.oneCell']);try rw [← hgx]
 rw [← hW1];clear hgx hW1 S0 R0 Z0 EV VS oR hb1;refine (dD W1 g ca n cap p 6 D1.out.r.a (by have := HP.out; omega) (by omega) (by omega)).mono ?_;rintro e w2 ⟨v, rfl, hv, hu, ha⟩;have D2 := hid (D1.out.rd hu.w ha);clear hu ha D1;have h6 : v = 0 ∨ v = 1 ∨ v = 2 ∨ v = 3 ∨ v = 4 ∨ v = 5 := by omega
 rcases h6 with rfl | rfl | rfl | rfl | rfl | rfl
 ·clear hv;have kI := hid (aC.new w2 #[.int .i64 (-1), .int .i64 0, .int .i64 1000000, .int .i64 1000001] 3);have D3 := hid (D2.out.ext (ae (Below.refl w2.heap.size w2) (.cells #[.int .i64 (-1), .int .i64 0, .int .i64 1000000, .int .i64 1000001] 3)));have GI := hid (show w.heap.size ≤ w2.heap.size from D2.out.r.w.size);clear D2;go_wp2_with fail;refine (dD _ g ca n cap (p + 1) 4 D3.out.r.a (by have := HP.out; omega) (by omega) (by omega)).mono ?_;rintro e w4 ⟨b, rfl, hb, hu, ha⟩;obtain ⟨y2, hy2, y20, y21⟩ := MN b (by omega);have D4 := hid (D3.out.rd hu.w ha);have cI : w4.cell? ⟨w2.heap.size, b, none⟩ = some (.int .i64 y2) := (aC.cell ((hu.block _ (by have := D4.out.r.l; have := GI.out; omega)).trans kI.out) b).trans hy2;have e0 : (0 : Int) ≤ (b : Int) := by omega
  have cB := (D4.out.r.x _ (.head _)).1.cell;have fB := (D4.out.r.x _ (.head _)).1.free;have G := hid (show DK w g ca n cap [(gx, 25, #[.int .i64 y2, .int .i64 y, .slice a1 nl c1]), (w.heap.size + 1, 25, #[.int .i64 0, .int .i64 0, .slice none 0 0])] l nl a1 c1 (p + 1 + 1) (w4.setCell ⟨gx, 0, none⟩ (.int .i64 y2)) from D4.out.top HC.out (fun c hc => heap_setCell_other _ _ _ _ hc) ((D4.out.r.x _ (.head _)).1.set (o := 0) (.int .i64 y2)) ((Below.refl _ _).setCell GX.out _) NEX.out);clear hu ha D3 kI hy2;have k6 := (G.out.r.x _ (.head _)).1;have kz := (G.out.r.x _ (.tail _ (.head _))).1;go_wp2_with (first | ((with_reducible refine eU gx #[.int .i64 y2, .int .i64 y, .slice a1 nl c1] rfl ?_ ?_ ?_); rfl; exact k6) | ((with_reducible refine eY (w.heap.size + 1) #[.int .i64 0, .int .i64 0, .slice none 0 0] #[.int .i64 y2, .int .i64 y, .slice a1 nl c1] rfl rfl ?_ ?_ ?_ ?_ ?_); rfl; rfl; exact kz; simp [Value.oneCell']));have hz := setRow_heap _ (w.heap.size + 1) _ #[.int .i64 y2, .int .i64 y, .slice a1 nl c1] _ _ kz;refine az (ty := 25) Try.results59 (w.heap.size + 1) #[.int .i64 y2, .int .i64 y, .slice a1 nl c1] _ ?_ ?_ hz Try.underlying25 rfl (by kernel_rfl) ?_
  ·rfl
  ·rfl
  exact ⟨_, _, _, _, _, _, _, rfl, G.out.ends (.tail _ (.head _)) HC.out, by omega, HY.out, by have := NL.out; omega, by omega⟩
 ·clear hv;go_wp2_with fail;have hK0 : vF gx #[.int .i64 x, .int .i64 y, .slice a1 nl c1] w2 := ⟨(D2.out.r.x _ (.head _)).1⟩
  refine aI (S := vF gx #[.int .i64 x, .int .i64 y, .slice a1 nl c1]) 13 (by kernel_rfl) ⟨aC.drew hK0.k⟩ (fun q9 => ?_);simp only [qz, Nat.reduceAdd];obtain ⟨w3, hw3⟩ : ∃ u, u = w2.drew := ⟨_, rfl⟩
  have D := hid (D2.out.ext (show Below w2.heap.size w2 w3 by rw [hw3]; exact (Below.refl _ _).drew));rw [← hw3] at q9 ⊢;clear hw3 hK0 D2;refine ak.go [0, 1, 2, 3, 4, 5] ?_;iterate 6 (refine ak.tk q9 ?_; try simp only [qq])
  refine ak.fin ?_;have e6 : IntKind.i64.wrap ((nl : Int) + 1) = (nl : Int) + 1 := by have := NL.out; go_arith
  refine ak.go [6, 8] ?_;iterate 2 (refine ak.tk q9 ?_; try simp only [qq])
  refine ak.fin ?_;clear e6;refine bu (rs := [7, 9]) (by kernel_rfl) (by simp) ?_;refine aK.cons (ax rfl) (fun K hK => ?_) (aK.cons (ax rfl) (fun K hK => ?_) aK.nil)
  ·go_simp;obtain ⟨wA, hwA⟩ : ∃ u, u = w3.alloc (.cells #[.int .i64 (-1), .int .i64 (nl : Int), .int .i64 ((nl : Int) + 1)] 3) := ⟨_, rfl⟩
   have EwA := hid (show Below w3.heap.size w3 wA by rw [hwA]; exact ae (Below.refl _ _) _);have KwA := hid (show aC wA w3.heap.size #[.int .i64 (-1), .int .i64 (nl : Int), .int .i64 ((nl : Int) + 1)] 3 by rw [hwA]; exact aC.new _ _ _);have DA := hid (D.out.ext EwA.out);have GLA := hid (show w.heap.size ≤ w3.heap.size from D.out.r.w.size);rw [← hwA];clear hwA D;refine hK.out _ _ (show vF gx #[.int .i64 x, .int .i64 y, .slice a1 nl c1] wA from ⟨(DA.out.r.x _ (.head _)).1⟩) (fun hNew => ?_);clear hK K q9 hNew;try simp only [qq]
   refine df (S' := xP gx #[.int .i64 x, .int .i64 y, .slice a1 nl c1] w3.heap.size #[.int .i64 (-1), .int .i64 (nl : Int), .int .i64 ((nl : Int) + 1)] 3) (fun _ h => ⟨h.k⟩) _ _ _ _ ?_;have q9 : xP gx #[.int .i64 x, .int .i64 y, .slice a1 nl c1] w3.heap.size #[.int .i64 (-1), .int .i64 (nl : Int), .int .i64 ((nl : Int) + 1)] 3 wA := ⟨(DA.out.r.x _ (.head _)).1, KwA.out⟩
   clear KwA;refine aT 9 fun K hK => ?_
   go_simp;refine (dD wA g ca n cap (p + 1) 3 DA.out.r.a (by have := HP.out; omega) (by omega) (by omega)).mono ?_;rintro e wB ⟨bA, rfl, hbA, hu, ha⟩;have DB := hid (DA.out.rd hu.w ha);have KH : xP gx #[.int .i64 x, .int .i64 y, .slice a1 nl c1] w3.heap.size #[.int .i64 (-1), .int .i64 (nl : Int), .int .i64 ((nl : Int) + 1)] 3 wB := ⟨(DB.out.r.x _ (.head _)).1, (hu.block _ (by have := DB.out.r.l; have := GLA.out; omega)).trans q9.i⟩
   clear hu ha DA;go_wp2_with fail;refine hK.out _ _ KH ?_;clear hK K q9;intro q9;try simp only [qq]
   clear KH;obtain ⟨y2, hy2, y20, y21⟩ := Dl 1000001 (-1) (nl : Int) ((nl : Int) + 1) bA (by omega) ⟨by omega, by omega⟩ ⟨by have := NL.out; omega, by have := NL.out; omega⟩ ⟨by have := NL.out; omega, by have := NL.out; omega⟩;refine ak.go [10] ?_;iterate 1 (refine ak.tk q9 ?_; try simp only [qq])
   refine ak.fin ?_;refine ak.go [11] ?_;iterate 1 (apply ak.take (ax rfl) (by kernel_rfl) (by rfl) (fun _ _ _ h => h) q9; (· intro w9 hSw; have hq := hSw.i.cell; rw [← hq] at hy2; clear hSw; go_simp; try with_reducible rfl); try simp only [qq])
   refine ak.fin ?_;refine ak.go [12] ?_;iterate 1 (refine ak.tk q9 ?_; try simp only [qq])
   refine ak.fin ?_;refine aJ fun K hK => ?_
   have cB := q9.k.cell;have fB := q9.k.free;go_simp;refine hK.out _ _ ?_;clear hK K q9 cB fB;have G := hid (show DK w g ca n cap [(gx, 25, #[.int .i64 x, .int .i64 y2, .slice a1 nl c1]), (w.heap.size + 1, 25, #[.int .i64 0, .int .i64 0, .slice none 0 0])] l nl a1 c1 (p + 1 + 1) (wB.setCell ⟨gx, 1, none⟩ (.int .i64 y2)) from DB.out.top HC.out (fun c hc => heap_setCell_other _ _ _ _ hc) ((DB.out.r.x _ (.head _)).1.set (o := 1) (.int .i64 y2)) ((Below.refl _ _).setCell GX.out _) NEX.out);have k6 := (G.out.r.x _ (.head _)).1;have kz := (G.out.r.x _ (.tail _ (.head _))).1;go_wp2_with (first | ((with_reducible refine eU gx #[.int .i64 x, .int .i64 y2, .slice a1 nl c1] rfl ?_ ?_ ?_); rfl; exact k6) | ((with_reducible refine eY (w.heap.size + 1) #[.int .i64 0, .int .i64 0, .slice none 0 0] #[.int .i64 x, .int .i64 y2, .slice a1 nl c1] rfl rfl ?_ ?_ ?_ ?_ ?_); rfl; rfl; exact kz; simp [Value.oneCell']));have hz := setRow_heap _ (w.heap.size + 1) _ #[.int .i64 x, .int .i64 y2, .slice a1 nl c1] _ _ kz;refine az (ty := 25) Try.results59 (w.heap.size + 1) #[.int .i64 x, .int .i64 y2, .slice a1 nl c1] _ ?_ ?_ hz Try.underlying25 rfl (by kernel_rfl) ?_
   ·rfl
   ·rfl
   exact ⟨_, _, _, _, _, _, _, rfl, G.out.ends (.tail _ (.head _)) HC.out, HX.out, by omega, by have := NL.out; omega, by omega⟩
  go_simp;refine (dD w3 g ca n cap (p + 1) 3 D.out.r.a (by have := HP.out; omega) (by omega) (by omega)).mono ?_;rintro e wC ⟨bC, rfl, hbC, hu, ha⟩;have DC := hid (D.out.rd hu.w ha);have KH : vF gx #[.int .i64 x, .int .i64 y, .slice a1 nl c1] wC := ⟨(DC.out.r.x _ (.head _)).1⟩
  clear hu ha D;go_wp2_with fail;refine hK.out _ _ KH ?_;clear hK K q9;intro q9;try simp only [qq]
  clear KH;refine aT 7 fun K hK => ?_
  go_simp;obtain ⟨wE, hwE⟩ : ∃ u, u = wC.alloc (.cells #[.int .i64 (-1), .int .i64 (nl : Int), .int .i64 ((nl : Int) + 1)] 3) := ⟨_, rfl⟩
  have EwE := hid (show Below wC.heap.size wC wE by rw [hwE]; exact ae (Below.refl _ _) _);have KwE := hid (show aC wE wC.heap.size #[.int .i64 (-1), .int .i64 (nl : Int), .int .i64 ((nl : Int) + 1)] 3 by rw [hwE]; exact aC.new _ _ _);have DE := hid (DC.out.ext EwE.out);have GLC := hid (show w.heap.size ≤ wC.heap.size from DC.out.r.w.size);rw [← hwE];clear hwE DC;refine hK.out _ _ (show vF gx #[.int .i64 x, .int .i64 y, .slice a1 nl c1] wE from ⟨(DE.out.r.x _ (.head _)).1⟩) (fun hNew => ?_);clear hK K q9 hNew;try simp only [qq]
  refine df (S' := xP gx #[.int .i64 x, .int .i64 y, .slice a1 nl c1] wC.heap.size #[.int .i64 (-1), .int .i64 (nl : Int), .int .i64 ((nl : Int) + 1)] 3) (fun _ h => ⟨h.k⟩) _ _ _ _ ?_;have q9 : xP gx #[.int .i64 x, .int .i64 y, .slice a1 nl c1] wC.heap.size #[.int .i64 (-1), .int .i64 (nl : Int), .int .i64 ((nl : Int) + 1)] 3 wE := ⟨(DE.out.r.x _ (.head _)).1, KwE.out⟩
  clear KwE;obtain ⟨y2, hy2, y20, y21⟩ := Dl 1000001 (-1) (nl : Int) ((nl : Int) + 1) bC (by omega) ⟨by omega, by omega⟩ ⟨by have := NL.out; omega, by have := NL.out; omega⟩ ⟨by have := NL.out; omega, by have := NL.out; omega⟩;refine ak.go [10] ?_;iterate 1 (refine ak.tk q9 ?_; try simp only [qq])
  refine ak.fin ?_;refine ak.go [11] ?_;iterate 1 (apply ak.take (ax rfl) (by kernel_rfl) (by rfl) (fun _ _ _ h => h) q9; (· intro w9 hSw; have hq := hSw.i.cell; rw [← hq] at hy2; clear hSw; go_simp; try with_reducible rfl); try simp only [qq])
  refine ak.fin ?_;refine ak.go [12] ?_;iterate 1 (refine ak.tk q9 ?_; try simp only [qq])
  refine ak.fin ?_;refine aJ fun K hK => ?_
  have cB := q9.k.cell;have fB := q9.k.free;go_simp;refine hK.out _ _ ?_;clear hK K q9 cB fB;have G := hid (show DK w g ca n cap [(gx, 25, #[.int .i64 x, .int .i64 y2, .slice a1 nl c1]), (w.heap.size + 1, 25, #[.int .i64 0, .int .i64 0, .slice none 0 0])] l nl a1 c1 (p + 1 + 1) (wE.setCell ⟨gx, 1, none⟩ (.int .i64 y2)) from DE.out.top HC.out (fun c hc => heap_setCell_other _ _ _ _ hc) ((DE.out.r.x _ (.head _)).1.set (o := 1) (.int .i64 y2)) ((Below.refl _ _).setCell GX.out _) NEX.out);have k6 := (G.out.r.x _ (.head _)).1;have kz := (G.out.r.x _ (.tail _ (.head _))).1;go_wp2_with (first | ((with_reducible refine eU gx #[.int .i64 x, .int .i64 y2, .slice a1 nl c1] rfl ?_ ?_ ?_); rfl; exact k6) | ((with_reducible refine eY (w.heap.size + 1) #[.int .i64 0, .int .i64 0, .slice none 0 0] #[.int .i64 x, .int .i64 y2, .slice a1 nl c1] rfl rfl ?_ ?_ ?_ ?_ ?_); rfl; rfl; exact kz; simp [Value.oneCell']));have hz := setRow_heap _ (w.heap.size + 1) _ #[.int .i64 x, .int .i64 y2, .slice a1 nl c1] _ _ kz;refine az (ty := 25) Try.results59 (w.heap.size + 1) #[.int .i64 x, .int .i64 y2, .slice a1 nl c1] _ ?_ ?_ hz Try.underlying25 rfl (by kernel_rfl) ?_
  ·rfl
  ·rfl
  exact ⟨_, _, _, _, _, _, _, rfl, G.out.ends (.tail _ (.head _)) HC.out, HX.out, by omega, by have := NL.out; omega, by omega⟩
 ·clear hv;go_wp2_with fail;have hK0 : vF gx #[.int .i64 x, .int .i64 y, .slice a1 nl c1] w2 := ⟨(D2.out.r.x _ (.head _)).1⟩
  refine aI (S := vF gx #[.int .i64 x, .int .i64 y, .slice a1 nl c1]) 11 (by kernel_rfl) ⟨aC.drew hK0.k⟩ (fun q9 => ?_);simp only [qz, Nat.reduceAdd];obtain ⟨w3, hw3⟩ : ∃ u, u = w2.drew := ⟨_, rfl⟩
  have D := hid (D2.out.ext (show Below w2.heap.size w2 w3 by rw [hw3]; exact (Below.refl _ _).drew));rw [← hw3] at q9 ⊢;clear hw3 hK0 D2;refine ak.go [0, 1, 3] ?_;iterate 3 (refine ak.tk q9 ?_; try simp only [qq])
  refine ak.fin ?_;refine bu (rs := [2, 4]) (by kernel_rfl) (by simp) ?_;refine aK.cons (ax rfl) (fun K hK => ?_) (aK.cons (ax rfl) (fun K hK => ?_) aK.nil)
  ·go_simp;obtain ⟨wA, hwA⟩ : ∃ u, u = w3.alloc (.cells #[.string ⟨#[120]⟩, .string ⟨#[]⟩] 9) := ⟨_, rfl⟩
   have EwA := hid (show Below w3.heap.size w3 wA by rw [hwA]; exact ae (Below.refl _ _) _);have KwA := hid (show aC wA w3.heap.size #[.string ⟨#[120]⟩, .string ⟨#[]⟩] 9 by rw [hwA]; exact aC.new _ _ _);have DA := hid (D.out.ext EwA.out);have GLA := hid (show w.heap.size ≤ w3.heap.size from D.out.r.w.size);rw [← hwA];clear hwA D;refine hK.out _ _ (show vF gx #[.int .i64 x, .int .i64 y, .slice a1 nl c1] wA from ⟨(DA.out.r.x _ (.head _)).1⟩) (fun hNew => ?_);clear hK K q9 hNew;try simp only [qq]
   refine df (S' := xP gx #[.int .i64 x, .int .i64 y, .slice a1 nl c1] w3.heap.size #[.string ⟨#[120]⟩, .string ⟨#[]⟩] 9) (fun _ h => ⟨h.k⟩) _ _ _ _ ?_;have q9 : xP gx #[.int .i64 x, .int .i64 y, .slice a1 nl c1] w3.heap.size #[.string ⟨#[120]⟩, .string ⟨#[]⟩] 9 wA := ⟨(DA.out.r.x _ (.head _)).1, KwA.out⟩
   clear KwA;refine aT 4 fun K hK => ?_
   go_simp;refine (dD wA g ca n cap (p + 1) 2 DA.out.r.a (by have := HP.out; omega) (by omega) (by omega)).mono ?_;rintro e wB ⟨bA, rfl, hbA, hu, ha⟩;have DB := hid (DA.out.rd hu.w ha);have KH : xP gx #[.int .i64 x, .int .i64 y, .slice a1 nl c1] w3.heap.size #[.string ⟨#[120]⟩, .string ⟨#[]⟩] 9 wB := ⟨(DB.out.r.x _ (.head _)).1, (hu.block _ (by have := DB.out.r.l; have := GLA.out; omega)).trans q9.i⟩
   clear hu ha DA;go_wp2_with fail;refine hK.out _ _ KH ?_;clear hK K q9;intro q9;try simp only [qq]
   clear KH;obtain ⟨t2, ht2, t20⟩ := JA bA (by omega);refine ak.go [5] ?_;iterate 1 (refine ak.tk q9 ?_; try simp only [qq])
   refine ak.fin ?_;refine ak.go [6] ?_;iterate 1 (apply ak.take (ax rfl) (by kernel_rfl) (by rfl) (fun _ _ _ h => h) q9; (· intro w9 hSw; have hq := hSw.i.cell; rw [← hq] at ht2; clear hSw; go_simp; try with_reducible rfl); try simp only [qq])
   refine ak.fin ?_;refine ak.go [7] ?_;iterate 1 (refine ak.tk q9 ?_; try simp only [qq])
   refine ak.fin ?_;refine aT 8 fun K hK => ?_
   go_simp;obtain ⟨y6, hy6⟩ : ∃ u, u = wB.alloc (.cells #[Value.int .i64 0, Value.string t2] 43) := ⟨_, rfl⟩
   have X6 := hid (show Below wB.heap.size wB y6 by rw [hy6]; exact ae (Below.refl _ _) _)
   have N6 := hid (show aN y6 (some ⟨wB.heap.size, 0, none⟩) 1 1 2 #[Value.int .i64 0, Value.string t2].toList by
    rw [hy6]
    exact ⟨rfl, fun e => by simp at e, fun y hy => by
     simp only [Option.some.injEq] at hy;subst hy
     exact ⟨rfl, dG (cs := #[Value.int .i64 0, Value.string t2].toList) (aC.new _ _ _)⟩⟩)
   rw [← hy6];clear hy6;refine hK.out _ _ (q9.ext X6.out) ?_;clear hK K q9;intro q9;try simp only [qq]
   refine aT 9 fun K hK => ?_
   rw [if_pos (by rfl)];refine lh w.heap.size a1 nl c1 (flat l) (some ⟨wB.heap.size, 0, none⟩) 1 1 #[Value.int .i64 0, Value.string t2].toList rfl rfl (DB.out.ext X6.out).row.own N6.out (fun u hu => by simp at hu; rcases hu with rfl | rfl <;> rfl) (by have := NL.out; omega) (DB.out.ext X6.out).r.w.size ?_;intro a7 c7 w7 q1 q2 q3;have G := hid (DB.out.app (s := ((0 : Int), t2)) X6.out HC.out q1 q2 q3 ⟨by show (-1 : Int) ≤ 0; omega, by show (0 : Int) ≤ 2000000; omega, by show t2.size ≤ 1000; omega⟩);have KH : vF gx #[.int .i64 x, .int .i64 y, .slice a1 nl c1] w7 := ⟨(G.out.r.x _ (.head _)).1⟩
   have Q2 := q2;clear q1 q3;refine hK.out _ _ (show xP gx #[.int .i64 x, .int .i64 y, .slice a1 nl c1] (w3.heap.size) #[.string ⟨#[120]⟩, .string ⟨#[]⟩] 9 w7 from ⟨KH.k, (DB.out.ext X6.out).grown Q2 q9.i (by decide)⟩) ?_;clear hK K q9;intro q9;try simp only [qq]
   clear KH;refine ak.go [10] ?_;iterate 1 (refine ak.tk q9 ?_; try simp only [qq])
   refine ak.fin ?_;refine aJ fun K hK => ?_
   have cB := q9.k.cell;have fB := q9.k.free;go_simp;refine hK.out _ _ ?_;clear hK K q9 cB fB;have G2 := hid (show DK w g ca n cap [(gx, 25, #[.int .i64 x, .int .i64 y, .slice a7 (nl + 1) c7]), (w.heap.size + 1, 25, #[.int .i64 0, .int .i64 0, .slice none 0 0])] (l ++ [((0 : Int), t2)]) (nl + 1) a7 c7 (p + 1 + 1) (w7.setCell ⟨gx, 2, none⟩ (.slice a7 (nl + 1) c7)) from G.out.top HC.out (fun c hc => heap_setCell_other _ _ _ _ hc) ((G.out.r.x _ (.head _)).1.set (o := 2) (.slice a7 (nl + 1) c7)) ((Below.refl _ _).setCell GX.out _) NEX.out);have k6 := (G2.out.r.x _ (.head _)).1;have kz := (G2.out.r.x _ (.tail _ (.head _))).1;go_wp2_with (first | ((with_reducible refine eU gx #[.int .i64 x, .int .i64 y, .slice a7 (nl + 1) c7] rfl ?_ ?_ ?_); rfl; exact k6) | ((with_reducible refine eY (w.heap.size + 1) #[.int .i64 0, .int .i64 0, .slice none 0 0] #[.int .i64 x, .int .i64 y, .slice a7 (nl + 1) c7] rfl rfl ?_ ?_ ?_ ?_ ?_); rfl; rfl; exact kz; simp [Value.oneCell']));have hz := setRow_heap _ (w.heap.size + 1) _ #[.int .i64 x, .int .i64 y, .slice a7 (nl + 1) c7] _ _ kz;refine az (ty := 25) Try.results59 (w.heap.size + 1) #[.int .i64 x, .int .i64 y, .slice a7 (nl + 1) c7] _ ?_ ?_ hz Try.underlying25 rfl (by kernel_rfl) ?_
   ·rfl
   ·rfl
   exact ⟨_, _, _, _, _, _, _, rfl, G2.out.ends (.tail _ (.head _)) HC.out, HX.out, HY.out, by have := NL.out; omega, by omega⟩
  go_simp;refine (dD w3 g ca n cap (p + 1) 2 D.out.r.a (by have := HP.out; omega) (by omega) (by omega)).mono ?_;rintro e wC ⟨bC, rfl, hbC, hu, ha⟩;have DC := hid (D.out.rd hu.w ha);have KH : vF gx #[.int .i64 x, .int .i64 y, .slice a1 nl c1] wC := ⟨(DC.out.r.x _ (.head _)).1⟩
  clear hu ha D;go_wp2_with fail;refine hK.out _ _ KH ?_;clear hK K q9;intro q9;try simp only [qq]
  clear KH;refine aT 2 fun K hK => ?_
  go_simp;obtain ⟨wE, hwE⟩ : ∃ u, u = wC.alloc (.cells #[.string ⟨#[120]⟩, .string ⟨#[]⟩] 9) := ⟨_, rfl⟩
  have EwE := hid (show Below wC.heap.size wC wE by rw [hwE]; exact ae (Below.refl _ _) _);have KwE := hid (show aC wE wC.heap.size #[.string ⟨#[120]⟩, .string ⟨#[]⟩] 9 by rw [hwE]; exact aC.new _ _ _);have DE := hid (DC.out.ext EwE.out);have GLC := hid (show w.heap.size ≤ wC.heap.size from DC.out.r.w.size);rw [← hwE];clear hwE DC;refine hK.out _ _ (show vF gx #[.int .i64 x, .int .i64 y, .slice a1 nl c1] wE from ⟨(DE.out.r.x _ (.head _)).1⟩) (fun hNew => ?_);clear hK K q9 hNew;try simp only [qq]
  refine df (S' := xP gx #[.int .i64 x, .int .i64 y, .slice a1 nl c1] wC.heap.size #[.string ⟨#[120]⟩, .string ⟨#[]⟩] 9) (fun _ h => ⟨h.k⟩) _ _ _ _ ?_;have q9 : xP gx #[.int .i64 x, .int .i64 y, .slice a1 nl c1] wC.heap.size #[.string ⟨#[120]⟩, .string ⟨#[]⟩] 9 wE := ⟨(DE.out.r.x _ (.head _)).1, KwE.out⟩
  clear KwE;obtain ⟨t2, ht2, t20⟩ := JA bC (by omega);refine ak.go [5] ?_;iterate 1 (refine ak.tk q9 ?_; try simp only [qq])
  refine ak.fin ?_;refine ak.go [6] ?_;iterate 1 (apply ak.take (ax rfl) (by kernel_rfl) (by rfl) (fun _ _ _ h => h) q9; (· intro w9 hSw; have hq := hSw.i.cell; rw [← hq] at ht2; clear hSw; go_simp; try with_reducible rfl); try simp only [qq])
  refine ak.fin ?_;refine ak.go [7] ?_;iterate 1 (refine ak.tk q9 ?_; try simp only [qq])
  refine ak.fin ?_;refine aT 8 fun K hK => ?_
  go_simp;obtain ⟨y6, hy6⟩ : ∃ u, u = wE.alloc (.cells #[Value.int .i64 0, Value.string t2] 43) := ⟨_, rfl⟩
  have X6 := hid (show Below wE.heap.size wE y6 by rw [hy6]; exact ae (Below.refl _ _) _)
  have N6 := hid (show aN y6 (some ⟨wE.heap.size, 0, none⟩) 1 1 2 #[Value.int .i64 0, Value.string t2].toList by
   rw [hy6]
   exact ⟨rfl, fun e => by simp at e, fun y hy => by
    simp only [Option.some.injEq] at hy;subst hy
    exact ⟨rfl, dG (cs := #[Value.int .i64 0, Value.string t2].toList) (aC.new _ _ _)⟩⟩)
  rw [← hy6];clear hy6;refine hK.out _ _ (q9.ext X6.out) ?_;clear hK K q9;intro q9;try simp only [qq]
  refine aT 9 fun K hK => ?_
  rw [if_pos (by rfl)];refine lh w.heap.size a1 nl c1 (flat l) (some ⟨wE.heap.size, 0, none⟩) 1 1 #[Value.int .i64 0, Value.string t2].toList rfl rfl (DE.out.ext X6.out).row.own N6.out (fun u hu => by simp at hu; rcases hu with rfl | rfl <;> rfl) (by have := NL.out; omega) (DE.out.ext X6.out).r.w.size ?_;intro a7 c7 w7 q1 q2 q3;have G := hid (DE.out.app (s := ((0 : Int), t2)) X6.out HC.out q1 q2 q3 ⟨by show (-1 : Int) ≤ 0; omega, by show (0 : Int) ≤ 2000000; omega, by show t2.size ≤ 1000; omega⟩);have KH : vF gx #[.int .i64 x, .int .i64 y, .slice a1 nl c1] w7 := ⟨(G.out.r.x _ (.head _)).1⟩
  have Q2 := q2;clear q1 q3;refine hK.out _ _ (show xP gx #[.int .i64 x, .int .i64 y, .slice a1 nl c1] (wC.heap.size) #[.string ⟨#[120]⟩, .string ⟨#[]⟩] 9 w7 from ⟨KH.k, (DE.out.ext X6.out).grown Q2 q9.i (by decide)⟩) ?_;clear hK K q9;intro q9;try simp only [qq]
  clear KH;refine ak.go [10] ?_;iterate 1 (refine ak.tk q9 ?_; try simp only [qq])
  refine ak.fin ?_;refine aJ fun K hK => ?_
  have cB := q9.k.cell;have fB := q9.k.free;go_simp;refine hK.out _ _ ?_;clear hK K q9 cB fB;have G2 := hid (show DK w g ca n cap [(gx, 25, #[.int .i64 x, .int .i64 y, .slice a7 (nl + 1) c7]), (w.heap.size + 1, 25, #[.int .i64 0, .int .i64 0, .slice none 0 0])] (l ++ [((0 : Int), t2)]) (nl + 1) a7 c7 (p + 1 + 1) (w7.setCell ⟨gx, 2, none⟩ (.slice a7 (nl + 1) c7)) from G.out.top HC.out (fun c hc => heap_setCell_other _ _ _ _ hc) ((G.out.r.x _ (.head _)).1.set (o := 2) (.slice a7 (nl + 1) c7)) ((Below.refl _ _).setCell GX.out _) NEX.out);have k6 := (G2.out.r.x _ (.head _)).1;have kz := (G2.out.r.x _ (.tail _ (.head _))).1;go_wp2_with (first | ((with_reducible refine eU gx #[.int .i64 x, .int .i64 y, .slice a7 (nl + 1) c7] rfl ?_ ?_ ?_); rfl; exact k6) | ((with_reducible refine eY (w.heap.size + 1) #[.int .i64 0, .int .i64 0, .slice none 0 0] #[.int .i64 x, .int .i64 y, .slice a7 (nl + 1) c7] rfl rfl ?_ ?_ ?_ ?_ ?_); rfl; rfl; exact kz; simp [Value.oneCell']));have hz := setRow_heap _ (w.heap.size + 1) _ #[.int .i64 x, .int .i64 y, .slice a7 (nl + 1) c7] _ _ kz;refine az (ty := 25) Try.results59 (w.heap.size + 1) #[.int .i64 x, .int .i64 y, .slice a7 (nl + 1) c7] _ ?_ ?_ hz Try.underlying25 rfl (by kernel_rfl) ?_
  ·rfl
  ·rfl
  exact ⟨_, _, _, _, _, _, _, rfl, G2.out.ends (.tail _ (.head _)) HC.out, HX.out, HY.out, by have := NL.out; omega, by omega⟩
 ·clear hv;go_wp2_with fail;have hK0 : vF gx #[.int .i64 x, .int .i64 y, .slice a1 nl c1] w2 := ⟨(D2.out.r.x _ (.head _)).1⟩
  refine aI (S := vF gx #[.int .i64 x, .int .i64 y, .slice a1 nl c1]) 16 (by kernel_rfl) ⟨aC.drew hK0.k⟩ (fun q9 => ?_);simp only [qz, Nat.reduceAdd];obtain ⟨w3, hw3⟩ : ∃ u, u = w2.drew := ⟨_, rfl⟩
  have D := hid (D2.out.ext (show Below w2.heap.size w2 w3 by rw [hw3]; exact (Below.refl _ _).drew));rw [← hw3] at q9 ⊢;clear hw3 hK0 D2;refine ak.go [0, 1, 2, 3, 4, 5] ?_;iterate 6 (refine ak.tk q9 ?_; try simp only [qq])
  refine ak.fin ?_;have e6 : IntKind.i64.wrap (x + 1) = x + 1 := by have := HX.out; go_arith
  refine ak.go [6, 8] ?_;iterate 2 (refine ak.tk q9 ?_; try simp only [qq])
  refine ak.fin ?_;clear e6;refine bu (rs := [7, 9]) (by kernel_rfl) (by simp) ?_;refine aK.cons (ax rfl) (fun K hK => ?_) (aK.cons (ax rfl) (fun K hK => ?_) aK.nil)
  ·go_simp;obtain ⟨wA, hwA⟩ : ∃ u, u = w3.alloc (.cells #[.int .i64 (-1), .int .i64 x, .int .i64 (x + 1)] 3) := ⟨_, rfl⟩
   have EwA := hid (show Below w3.heap.size w3 wA by rw [hwA]; exact ae (Below.refl _ _) _);have KwA := hid (show aC wA w3.heap.size #[.int .i64 (-1), .int .i64 x, .int .i64 (x + 1)] 3 by rw [hwA]; exact aC.new _ _ _);have DA := hid (D.out.ext EwA.out);have GLA := hid (show w.heap.size ≤ w3.heap.size from D.out.r.w.size);rw [← hwA];clear hwA D;refine hK.out _ _ (show vF gx #[.int .i64 x, .int .i64 y, .slice a1 nl c1] wA from ⟨(DA.out.r.x _ (.head _)).1⟩) (fun hNew => ?_);clear hK K q9 hNew;try simp only [qq]
   refine df (S' := xP gx #[.int .i64 x, .int .i64 y, .slice a1 nl c1] w3.heap.size #[.int .i64 (-1), .int .i64 x, .int .i64 (x + 1)] 3) (fun _ h => ⟨h.k⟩) _ _ _ _ ?_;have q9 : xP gx #[.int .i64 x, .int .i64 y, .slice a1 nl c1] w3.heap.size #[.int .i64 (-1), .int .i64 x, .int .i64 (x + 1)] 3 wA := ⟨(DA.out.r.x _ (.head _)).1, KwA.out⟩
   clear KwA;refine aT 9 fun K hK => ?_
   go_simp;refine (dD wA g ca n cap (p + 1) 3 DA.out.r.a (by have := HP.out; omega) (by omega) (by omega)).mono ?_;rintro e wB ⟨bA, rfl, hbA, hu, ha⟩;have DB := hid (DA.out.rd hu.w ha);have KH : xP gx #[.int .i64 x, .int .i64 y, .slice a1 nl c1] w3.heap.size #[.int .i64 (-1), .int .i64 x, .int .i64 (x + 1)] 3 wB := ⟨(DB.out.r.x _ (.head _)).1, (hu.block _ (by have := DB.out.r.l; have := GLA.out; omega)).trans q9.i⟩
   clear hu ha DA;go_wp2_with fail;refine hK.out _ _ KH ?_;clear hK K q9;intro q9;try simp only [qq]
   clear KH;obtain ⟨y2, hy2, y20, y21⟩ := Dl 1000002 (-1) x (x + 1) bA (by omega) ⟨by omega, by omega⟩ ⟨by have := HX.out; omega, by have := HX.out; omega⟩ ⟨by have := HX.out; omega, by have := HX.out; omega⟩;refine ak.go [10] ?_;iterate 1 (refine ak.tk q9 ?_; try simp only [qq])
   refine ak.fin ?_;refine ak.go [11] ?_;iterate 1 (apply ak.take (ax rfl) (by kernel_rfl) (by rfl) (fun _ _ _ h => h) q9; (· intro w9 hSw; have hq := hSw.i.cell; rw [← hq] at hy2; clear hSw; go_simp; try with_reducible rfl); try simp only [qq])
   refine ak.fin ?_;refine ak.go [12] ?_;iterate 1 (refine ak.tk q9 ?_; try simp only [qq])
   refine ak.fin ?_;refine aT 13 fun K hK => ?_
   go_simp;obtain ⟨y6, hy6⟩ : ∃ u, u = wB.alloc (.cells #[Value.int .i64 y2, Value.string ⟨#[]⟩] 43) := ⟨_, rfl⟩
   have X6 := hid (show Below wB.heap.size wB y6 by rw [hy6]; exact ae (Below.refl _ _) _)
   have N6 := hid (show aN y6 (some ⟨wB.heap.size, 0, none⟩) 1 1 2 #[Value.int .i64 y2, Value.string ⟨#[]⟩].toList by
    rw [hy6]
    exact ⟨rfl, fun e => by simp at e, fun y hy => by
     simp only [Option.some.injEq] at hy;subst hy
     exact ⟨rfl, dG (cs := #[Value.int .i64 y2, Value.string ⟨#[]⟩].toList) (aC.new _ _ _)⟩⟩)
   rw [← hy6];clear hy6;refine hK.out _ _ (q9.ext X6.out) ?_;clear hK K q9;intro q9;try simp only [qq]
   refine aT 14 fun K hK => ?_
   rw [if_pos (by rfl)];refine lh w.heap.size a1 nl c1 (flat l) (some ⟨wB.heap.size, 0, none⟩) 1 1 #[Value.int .i64 y2, Value.string ⟨#[]⟩].toList rfl rfl (DB.out.ext X6.out).row.own N6.out (fun u hu => by simp at hu; rcases hu with rfl | rfl <;> rfl) (by have := NL.out; omega) (DB.out.ext X6.out).r.w.size ?_;intro a7 c7 w7 q1 q2 q3;have G := hid (DB.out.app (s := (y2, ⟨#[]⟩)) X6.out HC.out q1 q2 q3 ⟨by show -1 ≤ y2; omega, by show y2 ≤ 2000000; omega, by show (0 : Nat) ≤ 1000; omega⟩);have KH : vF gx #[.int .i64 x, .int .i64 y, .slice a1 nl c1] w7 := ⟨(G.out.r.x _ (.head _)).1⟩
   have Q2 := q2;clear q1 q3;refine hK.out _ _ (show xP gx #[.int .i64 x, .int .i64 y, .slice a1 nl c1] (w3.heap.size) #[.int .i64 (-1), .int .i64 x, .int .i64 (x + 1)] 3 w7 from ⟨KH.k, (DB.out.ext X6.out).grown Q2 q9.i (by decide)⟩) ?_;clear hK K q9;intro q9;try simp only [qq]
   clear KH;refine ak.go [15] ?_;iterate 1 (refine ak.tk q9 ?_; try simp only [qq])
   refine ak.fin ?_;refine aJ fun K hK => ?_
   have cB := q9.k.cell;have fB := q9.k.free;go_simp;refine hK.out _ _ ?_;clear hK K q9 cB fB;have G2 := hid (show DK w g ca n cap [(gx, 25, #[.int .i64 x, .int .i64 y, .slice a7 (nl + 1) c7]), (w.heap.size + 1, 25, #[.int .i64 0, .int .i64 0, .slice none 0 0])] (l ++ [(y2, ⟨#[]⟩)]) (nl + 1) a7 c7 (p + 1 + 1) (w7.setCell ⟨gx, 2, none⟩ (.slice a7 (nl + 1) c7)) from G.out.top HC.out (fun c hc => heap_setCell_other _ _ _ _ hc) ((G.out.r.x _ (.head _)).1.set (o := 2) (.slice a7 (nl + 1) c7)) ((Below.refl _ _).setCell GX.out _) NEX.out);have k6 := (G2.out.r.x _ (.head _)).1;have kz := (G2.out.r.x _ (.tail _ (.head _))).1;go_wp2_with (first | ((with_reducible refine eU gx #[.int .i64 x, .int .i64 y, .slice a7 (nl + 1) c7] rfl ?_ ?_ ?_); rfl; exact k6) | ((with_reducible refine eY (w.heap.size + 1) #[.int .i64 0, .int .i64 0, .slice none 0 0] #[.int .i64 x, .int .i64 y, .slice a7 (nl + 1) c7] rfl rfl ?_ ?_ ?_ ?_ ?_); rfl; rfl; exact kz; simp [Value.oneCell']));have hz := setRow_heap _ (w.heap.size + 1) _ #[.int .i64 x, .int .i64 y, .slice a7 (nl + 1) c7] _ _ kz;refine az (ty := 25) Try.results59 (w.heap.size + 1) #[.int .i64 x, .int .i64 y, .slice a7 (nl + 1) c7] _ ?_ ?_ hz Try.underlying25 rfl (by kernel_rfl) ?_
   ·rfl
   ·rfl
   exact ⟨_, _, _, _, _, _, _, rfl, G2.out.ends (.tail _ (.head _)) HC.out, HX.out, HY.out, by have := NL.out; omega, by omega⟩
  go_simp;refine (dD w3 g ca n cap (p + 1) 3 D.out.r.a (by have := HP.out; omega) (by omega) (by omega)).mono ?_;rintro e wC ⟨bC, rfl, hbC, hu, ha⟩;have DC := hid (D.out.rd hu.w ha);have KH : vF gx #[.int .i64 x, .int .i64 y, .slice a1 nl c1] wC := ⟨(DC.out.r.x _ (.head _)).1⟩
  clear hu ha D;go_wp2_with fail;refine hK.out _ _ KH ?_;clear hK K q9;intro q9;try simp only [qq]
  clear KH;refine aT 7 fun K hK => ?_
  go_simp;obtain ⟨wE, hwE⟩ : ∃ u, u = wC.alloc (.cells #[.int .i64 (-1), .int .i64 x, .int .i64 (x + 1)] 3) := ⟨_, rfl⟩
  have EwE := hid (show Below wC.heap.size wC wE by rw [hwE]; exact ae (Below.refl _ _) _);have KwE := hid (show aC wE wC.heap.size #[.int .i64 (-1), .int .i64 x, .int .i64 (x + 1)] 3 by rw [hwE]; exact aC.new _ _ _);have DE := hid (DC.out.ext EwE.out);have GLC := hid (show w.heap.size ≤ wC.heap.size from DC.out.r.w.size);rw [← hwE];clear hwE DC;refine hK.out _ _ (show vF gx #[.int .i64 x, .int .i64 y, .slice a1 nl c1] wE from ⟨(DE.out.r.x _ (.head _)).1⟩) (fun hNew => ?_);clear hK K q9 hNew;try simp only [qq]
  refine df (S' := xP gx #[.int .i64 x, .int .i64 y, .slice a1 nl c1] wC.heap.size #[.int .i64 (-1), .int .i64 x, .int .i64 (x + 1)] 3) (fun _ h => ⟨h.k⟩) _ _ _ _ ?_;have q9 : xP gx #[.int .i64 x, .int .i64 y, .slice a1 nl c1] wC.heap.size #[.int .i64 (-1), .int .i64 x, .int .i64 (x + 1)] 3 wE := ⟨(DE.out.r.x _ (.head _)).1, KwE.out⟩
  clear KwE;obtain ⟨y2, hy2, y20, y21⟩ := Dl 1000002 (-1) x (x + 1) bC (by omega) ⟨by omega, by omega⟩ ⟨by have := HX.out; omega, by have := HX.out; omega⟩ ⟨by have := HX.out; omega, by have := HX.out; omega⟩;refine ak.go [10] ?_;iterate 1 (refine ak.tk q9 ?_; try simp only [qq])
  refine ak.fin ?_;refine ak.go [11] ?_;iterate 1 (apply ak.take (ax rfl) (by kernel_rfl) (by rfl) (fun _ _ _ h => h) q9; (· intro w9 hSw; have hq := hSw.i.cell; rw [← hq] at hy2; clear hSw; go_simp; try with_reducible rfl); try simp only [qq])
  refine ak.fin ?_;refine ak.go [12] ?_;iterate 1 (refine ak.tk q9 ?_; try simp only [qq])
  refine ak.fin ?_;refine aT 13 fun K hK => ?_
  go_simp;obtain ⟨y6, hy6⟩ : ∃ u, u = wE.alloc (.cells #[Value.int .i64 y2, Value.string ⟨#[]⟩] 43) := ⟨_, rfl⟩
  have X6 := hid (show Below wE.heap.size wE y6 by rw [hy6]; exact ae (Below.refl _ _) _)
  have N6 := hid (show aN y6 (some ⟨wE.heap.size, 0, none⟩) 1 1 2 #[Value.int .i64 y2, Value.string ⟨#[]⟩].toList by
   rw [hy6]
   exact ⟨rfl, fun e => by simp at e, fun y hy => by
    simp only [Option.some.injEq] at hy;subst hy
    exact ⟨rfl, dG (cs := #[Value.int .i64 y2, Value.string ⟨#[]⟩].toList) (aC.new _ _ _)⟩⟩)
  rw [← hy6];clear hy6;refine hK.out _ _ (q9.ext X6.out) ?_;clear hK K q9;intro q9;try simp only [qq]
  refine aT 14 fun K hK => ?_
  rw [if_pos (by rfl)];refine lh w.heap.size a1 nl c1 (flat l) (some ⟨wE.heap.size, 0, none⟩) 1 1 #[Value.int .i64 y2, Value.string ⟨#[]⟩].toList rfl rfl (DE.out.ext X6.out).row.own N6.out (fun u hu => by simp at hu; rcases hu with rfl | rfl <;> rfl) (by have := NL.out; omega) (DE.out.ext X6.out).r.w.size ?_;intro a7 c7 w7 q1 q2 q3;have G := hid (DE.out.app (s := (y2, ⟨#[]⟩)) X6.out HC.out q1 q2 q3 ⟨by show -1 ≤ y2; omega, by show y2 ≤ 2000000; omega, by show (0 : Nat) ≤ 1000; omega⟩);have KH : vF gx #[.int .i64 x, .int .i64 y, .slice a1 nl c1] w7 := ⟨(G.out.r.x _ (.head _)).1⟩
  have Q2 := q2;clear q1 q3;refine hK.out _ _ (show xP gx #[.int .i64 x, .int .i64 y, .slice a1 nl c1] (wC.heap.size) #[.int .i64 (-1), .int .i64 x, .int .i64 (x + 1)] 3 w7 from ⟨KH.k, (DE.out.ext X6.out).grown Q2 q9.i (by decide)⟩) ?_;clear hK K q9;intro q9;try simp only [qq]
  clear KH;refine ak.go [15] ?_;iterate 1 (refine ak.tk q9 ?_; try simp only [qq])
  refine ak.fin ?_;refine aJ fun K hK => ?_
  have cB := q9.k.cell;have fB := q9.k.free;go_simp;refine hK.out _ _ ?_;clear hK K q9 cB fB;have G2 := hid (show DK w g ca n cap [(gx, 25, #[.int .i64 x, .int .i64 y, .slice a7 (nl + 1) c7]), (w.heap.size + 1, 25, #[.int .i64 0, .int .i64 0, .slice none 0 0])] (l ++ [(y2, ⟨#[]⟩)]) (nl + 1) a7 c7 (p + 1 + 1) (w7.setCell ⟨gx, 2, none⟩ (.slice a7 (nl + 1) c7)) from G.out.top HC.out (fun c hc => heap_setCell_other _ _ _ _ hc) ((G.out.r.x _ (.head _)).1.set (o := 2) (.slice a7 (nl + 1) c7)) ((Below.refl _ _).setCell GX.out _) NEX.out);have k6 := (G2.out.r.x _ (.head _)).1;have kz := (G2.out.r.x _ (.tail _ (.head _))).1;go_wp2_with (first | ((with_reducible refine eU gx #[.int .i64 x, .int .i64 y, .slice a7 (nl + 1) c7] rfl ?_ ?_ ?_); rfl; exact k6) | ((with_reducible refine eY (w.heap.size + 1) #[.int .i64 0, .int .i64 0, .slice none 0 0] #[.int .i64 x, .int .i64 y, .slice a7 (nl + 1) c7] rfl rfl ?_ ?_ ?_ ?_ ?_); rfl; rfl; exact kz; simp [Value.oneCell']));have hz := setRow_heap _ (w.heap.size + 1) _ #[.int .i64 x, .int .i64 y, .slice a7 (nl + 1) c7] _ _ kz;refine az (ty := 25) Try.results59 (w.heap.size + 1) #[.int .i64 x, .int .i64 y, .slice a7 (nl + 1) c7] _ ?_ ?_ hz Try.underlying25 rfl (by kernel_rfl) ?_
  ·rfl
  ·rfl
  exact ⟨_, _, _, _, _, _, _, rfl, G2.out.ends (.tail _ (.head _)) HC.out, HX.out, HY.out, by have := NL.out; omega, by omega⟩
 ·clear hv;go_wp2_with fail;refine (dD w2 g ca n cap (p + 1) 2 D2.out.r.a (by have := HP.out; omega) (by omega) (by omega)).mono ?_;rintro e w3 ⟨b, rfl, hb, hu, ha⟩;have D3 := hid (D2.out.rd hu.w ha);have e6 : IntKind.i64.wrap (60 + (b : Int)) = 60 + (b : Int) := by go_arith
  clear hu ha D2;go_wp2_with fail;have BB := hid (show b ≤ 1 by omega);clear hb e6;go_loopw [80] (fun _ wr => ∃ (l2 : List Sl) (n2 : Nat) (a2 : Option Addr) (c2 : Nat), n2 ≤ 61 ∧ DK w g ca n cap [(gx, 25, #[.int .i64 x, .int .i64 y, .slice a2 n2 c2]), (w.heap.size + 1, 25, #[.int .i64 0, .int .i64 0, .slice none 0 0])] l2 n2 a2 c2 (p + 1 + 1) wr) (fun _ wr => 100 - AU wr gx);case atStart => exact ⟨l, nl, a1, c1, by have := NL.out; omega, D3.out⟩
  obtain ⟨l2, n2, a2, c2, hn2, hss⟩ := hrel;have D := hid hss;obtain ⟨wn, hwn⟩ : ∃ v : World, v = wr := ⟨_, rfl⟩
  subst hwn;clear hss D3;have cB := (D.out.r.x _ (.head _)).1.cell;have fB := (D.out.r.x _ (.head _)).1.free;have L1 := hid (show AU wn gx = n2 by unfold AU; rw [(D.out.r.x _ (.head _)).1.cell 2]; rfl);by_cases hlt : n2 < 60 + b
  ·have e1 : (n2 : Int) < 60 + (b : Int) := by omega
   have u1 : decide ((n2 : Int) < 60 + (b : Int)) = true := decide_eq_true e1;have X6 := hid (show Below wn.heap.size wn (wn.alloc (.cells #[Value.int .i64 0, Value.string ⟨#[]⟩] 43)) from ae (Below.refl _ _) _);have OW := (D.out.ext X6.out).row.own;have LO := hid (D.out.ext X6.out).r.w.size
   have NEWS : aN (wn.alloc (.cells #[Value.int .i64 0, Value.string ⟨#[]⟩] 43)) (some ⟨wn.heap.size, 0, none⟩) 1 1 2 #[Value.int .i64 0, Value.string ⟨#[]⟩].toList := ⟨rfl, fun e => by simp at e, fun y hy => by
    simp only [Option.some.injEq] at hy;subst hy
    exact ⟨rfl, dG (cs := #[Value.int .i64 0, Value.string ⟨#[]⟩].toList) (aC.new _ _ _)⟩⟩
   have BBo := BB.out;go_wp2_with ((with_reducible refine vg w.heap.size a2 n2 c2 (flat l2) (some ⟨wn.heap.size, 0, none⟩) 1 1 #[Value.int .i64 0, Value.string ⟨#[]⟩].toList ?_ ?_ ?_ ?_ ?_ ?_ ?_ ?_); rfl; rfl; exact OW; exact NEWS; (· intro u hu; simp at hu; rcases hu with rfl | rfl <;> rfl); (· omega); exact LO.out; (intro a7 c7 w7 q1 q2 q3; have G := hid (D.out.app (s := ((0 : Int), ⟨#[]⟩)) X6.out HC.out q1 q2 q3 ⟨by show (-1 : Int) ≤ 0; omega, by show (0 : Int) ≤ 2000000; omega, by show (0 : Nat) ≤ 1000; omega⟩); have cB7 := (G.out.r.x _ (.head _)).1.cell; have fB7 := (G.out.r.x _ (.head _)).1.free));have G2 := hid (show DK w g ca n cap [(gx, 25, #[.int .i64 x, .int .i64 y, .slice a7 (n2 + 1) c7]), (w.heap.size + 1, 25, #[.int .i64 0, .int .i64 0, .slice none 0 0])] (l2 ++ [((0 : Int), ⟨#[]⟩)]) (n2 + 1) a7 c7 (p + 1 + 1) (w7.setCell ⟨gx, 2, none⟩ (.slice a7 (n2 + 1) c7)) from G.out.top HC.out (fun c hc => heap_setCell_other _ _ _ _ hc) ((G.out.r.x _ (.head _)).1.set (o := 2) (.slice a7 (n2 + 1) c7)) ((Below.refl _ _).setCell GX.out _) NEX.out);clear q1 q2 q3 OW NEWS cB fB D cB7 fB7;have L2 := hid (show AU (w7.setCell ⟨gx, 2, none⟩ (.slice a7 (n2 + 1) c7)) gx = n2 + 1 by unfold AU; rw [(G2.out.r.x _ (.head _)).1.cell 2]; rfl);go_roundw;case rel => exact ⟨_, n2 + 1, a7, c7, by omega, G2.out⟩
   case measure => rw [L2.out, L1.out]; omega
  have e1 : ¬ (n2 : Int) < 60 + (b : Int) := by omega
  have u1 : decide ((n2 : Int) < 60 + (b : Int)) = false := decide_eq_false e1;have k6 := (D.out.r.x _ (.head _)).1;have kz := (D.out.r.x _ (.tail _ (.head _))).1;go_wp2_with (first | ((with_reducible refine eU gx #[.int .i64 x, .int .i64 y, .slice a2 n2 c2] rfl ?_ ?_ ?_); rfl; exact k6) | ((with_reducible refine eY (w.heap.size + 1) #[.int .i64 0, .int .i64 0, .slice none 0 0] #[.int .i64 x, .int .i64 y, .slice a2 n2 c2] rfl rfl ?_ ?_ ?_ ?_ ?_); rfl; rfl; exact kz; simp [Value.oneCell']));have hz := setRow_heap _ (w.heap.size + 1) _ #[.int .i64 x, .int .i64 y, .slice a2 n2 c2] _ _ kz;refine az (ty := 25) Try.results59 (w.heap.size + 1) #[.int .i64 x, .int .i64 y, .slice a2 n2 c2] _ ?_ ?_ hz Try.underlying25 rfl (by kernel_rfl) ?_
  ·rfl
  ·rfl
  exact ⟨_, _, _, _, _, _, _, rfl, D.out.ends (.tail _ (.head _)) HC.out, HX.out, HY.out, by omega, by omega⟩
 clear hv;go_wp2_with fail;have hK0 : vF gx #[.int .i64 x, .int .i64 y, .slice a1 nl c1] w2 := ⟨(D2.out.r.x _ (.head _)).1⟩
 refine aI (S := vF gx #[.int .i64 x, .int .i64 y, .slice a1 nl c1]) 10 (by kernel_rfl) ⟨aC.drew hK0.k⟩ (fun q9 => ?_);simp only [qz, Nat.reduceAdd];obtain ⟨w3, hw3⟩ : ∃ u, u = w2.drew := ⟨_, rfl⟩
 have D := hid (D2.out.ext (show Below w2.heap.size w2 w3 by rw [hw3]; exact (Below.refl _ _).drew));rw [← hw3] at q9 ⊢;clear hw3 hK0 D2;refine ak.go [0, 1, 2] ?_;iterate 3 (refine ak.tk q9 ?_; try simp only [qq])
 refine ak.fin ?_;refine aT 3 fun K hK => ?_
 go_simp;refine (dD w3 g ca n cap (p + 1) 2 D.out.r.a (by have := HP.out; omega) (by omega) (by omega)).mono ?_;rintro e wB ⟨bA, rfl, hbA, hu, ha⟩;have DB := hid (D.out.rd hu.w ha);have KH : vF gx #[.int .i64 x, .int .i64 y, .slice a1 nl c1] wB := ⟨(DB.out.r.x _ (.head _)).1⟩
 clear hu ha D;go_wp2_with fail;refine hK.out _ _ KH ?_;clear hK K q9;intro q9;try simp only [qq]
 clear KH;have e6 : IntKind.i64.wrap (100 + (bA : Int)) = ((100 + bA : Nat) : Int) := by go_arith
 refine ak.go [4] ?_;iterate 1 (refine ak.tk q9 ?_; try simp only [qq])
 refine ak.fin ?_;clear e6;refine aT 5 fun K hK => ?_
 go_simp;refine (MK ⟨#[116]⟩ (100 + bA) wB rfl (by omega)).mono ?_;rintro e wM ⟨t2, rfl, t20, hwM⟩;subst wM;go_wp2_with fail;refine hK.out _ _ q9 ?_;clear hK K q9;intro q9;try simp only [qq]
 refine ak.go [6] ?_;iterate 1 (refine ak.tk q9 ?_; try simp only [qq])
 refine ak.fin ?_;refine aT 7 fun K hK => ?_
 go_simp;obtain ⟨y6, hy6⟩ : ∃ u, u = wB.alloc (.cells #[Value.int .i64 1, Value.string t2] 43) := ⟨_, rfl⟩
 have X6 := hid (show Below wB.heap.size wB y6 by rw [hy6]; exact ae (Below.refl _ _) _)
 have N6 := hid (show aN y6 (some ⟨wB.heap.size, 0, none⟩) 1 1 2 #[Value.int .i64 1, Value.string t2].toList by
  rw [hy6]
  exact ⟨rfl, fun e => by simp at e, fun y hy => by
   simp only [Option.some.injEq] at hy;subst hy
   exact ⟨rfl, dG (cs := #[Value.int .i64 1, Value.string t2].toList) (aC.new _ _ _)⟩⟩)
 rw [← hy6];clear hy6;refine hK.out _ _ (q9.ext X6.out) ?_;clear hK K q9;intro q9;try simp only [qq]
 refine aT 8 fun K hK => ?_
 rw [if_pos (by rfl)];refine lh w.heap.size a1 nl c1 (flat l) (some ⟨wB.heap.size, 0, none⟩) 1 1 #[Value.int .i64 1, Value.string t2].toList rfl rfl (DB.out.ext X6.out).row.own N6.out (fun u hu => by simp at hu; rcases hu with rfl | rfl <;> rfl) (by have := NL.out; omega) (DB.out.ext X6.out).r.w.size ?_;intro a7 c7 w7 q1 q2 q3;have G := hid (DB.out.app (s := ((1 : Int), t2)) X6.out HC.out q1 q2 q3 ⟨by show (-1 : Int) ≤ 1; omega, by show (1 : Int) ≤ 2000000; omega, t20⟩);have KH : vF gx #[.int .i64 x, .int .i64 y, .slice a1 nl c1] w7 := ⟨(G.out.r.x _ (.head _)).1⟩
 clear q1 q2 q3;refine hK.out _ _ KH ?_;clear hK K q9;intro q9;try simp only [qq]
 clear KH;refine ak.go [9] ?_;iterate 1 (refine ak.tk q9 ?_; try simp only [qq])
 refine ak.fin ?_;refine aJ fun K hK => ?_
 have cB := q9.k.cell;have fB := q9.k.free;go_simp;refine hK.out _ _ ?_;clear hK K q9 cB fB;have G2 := hid (show DK w g ca n cap [(gx, 25, #[.int .i64 x, .int .i64 y, .slice a7 (nl + 1) c7]), (w.heap.size + 1, 25, #[.int .i64 0, .int .i64 0, .slice none 0 0])] (l ++ [((1 : Int), t2)]) (nl + 1) a7 c7 (p + 1 + 1) (w7.setCell ⟨gx, 2, none⟩ (.slice a7 (nl + 1) c7)) from G.out.top HC.out (fun c hc => heap_setCell_other _ _ _ _ hc) ((G.out.r.x _ (.head _)).1.set (o := 2) (.slice a7 (nl + 1) c7)) ((Below.refl _ _).setCell GX.out _) NEX.out);have k6 := (G2.out.r.x _ (.head _)).1;have kz := (G2.out.r.x _ (.tail _ (.head _))).1;go_wp2_with (first | ((with_reducible refine eU gx #[.int .i64 x, .int .i64 y, .slice a7 (nl + 1) c7] rfl ?_ ?_ ?_); rfl; exact k6) | ((with_reducible refine eY (w.heap.size + 1) #[.int .i64 0, .int .i64 0, .slice none 0 0] #[.int .i64 x, .int .i64 y, .slice a7 (nl + 1) c7] rfl rfl ?_ ?_ ?_ ?_ ?_); rfl; rfl; exact kz; simp [Value.oneCell']));have hz := setRow_heap _ (w.heap.size + 1) _ #[.int .i64 x, .int .i64 y, .slice a7 (nl + 1) c7] _ _ kz;refine az (ty := 25) Try.results59 (w.heap.size + 1) #[.int .i64 x, .int .i64 y, .slice a7 (nl + 1) c7] _ ?_ ?_ hz Try.underlying25 rfl (by kernel_rfl) ?_
 ·rfl
 ·rfl
 exact ⟨_, _, _, _, _, _, _, rfl, G2.out.ends (.tail _ (.head _)) HC.out, HX.out, HY.out, by have := NL.out; omega, by omega⟩
end Go.Proofs.Ytjdceoimignnpaa
