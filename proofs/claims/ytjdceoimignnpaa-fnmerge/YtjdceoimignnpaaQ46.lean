import Derived.Test.YtjdceoimignnpaaQ38
namespace Go.Proofs.Ytjdceoimignnpaa
open Go.ChangeShapes Go.WideShapes Go.ChangeAt Go.RowKit next Go.Deep Go.Joins
set_option linter.unusedVariables false
set_option linter.unusedSimpArgs false
set_option maxHeartbeats 32000000
set_option maxRecDepth 20000
variable {X : List (Nat × TypeId × Array Value)} {H : List Mp} {J : List RcI} {cap g i k k' n : Nat} {ca : Option Addr} {v : Value} {d : Wd} {p : WdP} {B v' w' w0 wr : World}
theorem vr_heard {r : Rc} (v : VR r) (hu : r.up = true) : VR { r with heard := 30 } :=
 ⟨v.o1, v.o5, v.n1, v.nn, v.s, v.d, v.h, v.w, by show (0 : Int) ≤ 30; omega, by show (30 : Int) ≤ 1000000; omega, v.y, v.b, v.a, v.lt, v.ld, v.tr, v.cl, .inl hu⟩
theorem WM.heard {B : Nat} {w : World} {I : List RcI} (h : WM B w d p I H) {j gR : Nat} {r : Rc} {q : RcI} (hg : p.aR = some ⟨gR, 0, none⟩) (hr : d.recs[j]? = some r) (hq : I[j]? = some q) (hu : r.up = true) :
  WM B (w.setCell ⟨gR, j * 18 + 17, none⟩ (.int .i64 30)) (putD d j { r with heard := 30 }) p I H := by
 have hj := (List.getElem?_eq_some_iff.1 hr).1;obtain ⟨g0, cur, ea, hB, hk, hsz, hnc, hm, htk⟩ := h.cells;rw [hg] at ea;simp only [Option.some.injEq, Addr.mk.injEq, and_true] at ea;subst ea;have hs : ∀ b, b ≠ gR → (w.setCell ⟨gR, j * 18 + 17, none⟩ (.int .i64 30)).heap[b]? = w.heap[b]? := fun b hb => heap_setCell_other _ ⟨gR, j * 18 + 17, none⟩ _ _ hb
 have k1 := heap_setCell_same w gR (j * 18 + 17) cur 31 (.int .i64 30) hk;have hI : I.set j q = I := List.ext_getElem? fun i => by
  rw [List.getElem?_set];split
  ·rename_i e;subst e;have := (List.getElem?_eq_some_iff.1 hq).1;rw [if_pos this, hq]
  ·rfl
 have hl : (putD d j { r with heard := 30 }).recs.length = d.recs.length := by simp [putD]
 refine ⟨by rw [hl]; exact h.li, ⟨flatR_len _ _ (by rw [hl]; exact h.li), .inr ⟨gR, p.cR, _, by rw [hg], hB, k1, by rw [hl]; exact hnc, hm, by rw [Array.size_setIfInBounds, hsz], ?_⟩⟩, fun i s u hs2 hu2 => ?_, h.fm, h.fr.same fun x hx => hs _ (RowC.ne h.fr hk (by decide) x hx), fun u hu => (h.fi u hu).same fun x hx => hs _ ((h.fi u hu).ne hk (by decide) x hx), h.fx.same fun x hx => hs _ (h.fx.ne hk (by decide) x hx), wk_iff.2 (wk_put (wk_iff.1 h.ok) hr (vr_heard ((wk_iff.1 h.ok).r j r hr).1 hu) rfl rfl)⟩
 ·refine List.ext_getElem? fun i => ?_
  rw [hl, show flatR (putD d j { r with heard := 30 }).recs I = flatR (d.recs.set j { r with heard := 30 }) (I.set j q) by rw [hI]; rfl, flatR_set h.li hj, List.getElem?_take, Array.getElem?_toList, Array.getElem?_setIfInBounds];have ho : ∀ t, t < 18 → cur[j * 18 + t]? = (rcV r q.p)[t]? := fun t ht => cells_at htk hr hq ht
  by_cases e : j * 18 ≤ i ∧ i < j * 18 + 18
  ·rw [if_pos e, if_pos (by omega)];obtain ⟨t, rfl⟩ : ∃ t, i = j * 18 + t := ⟨i - j * 18, by omega⟩
   rw [Nat.add_sub_cancel_left, Array.getElem?_toList];by_cases e2 : t = 17
   ·subst e2;rw [if_pos rfl, if_pos (by rw [hsz]; omega)];rfl
   ·rw [if_neg (by omega), ho t (by omega)];have ht : t < 17 := by omega
    show (rcV r q.p)[t]? = (rcV { r with heard := 30 } q.p)[t]?;have h17 : t = 0 ∨ t = 1 ∨ t = 2 ∨ t = 3 ∨ t = 4 ∨ t = 5 ∨ t = 6 ∨ t = 7 ∨ t = 8 ∨ t = 9 ∨ t = 10 ∨ t = 11 ∨ t = 12 ∨ t = 13 ∨ t = 14 ∨ t = 15 ∨ t = 16 := by omega
    rcases h17 with rfl | rfl | rfl | rfl | rfl | rfl | rfl | rfl | rfl | rfl | rfl | rfl | rfl | rfl | rfl | rfl | rfl <;> rfl
  ·rw [if_neg e, ← htk, List.getElem?_take, Array.getElem?_toList, if_neg (show ¬ j * 18 + 17 = i by omega)]
 ·by_cases e : j = i
  ·subst e;rw [show (putD d j { r with heard := 30 }).recs[j]? = some { r with heard := 30 } by simp [putD, hj]] at hs2;rw [hq] at hu2;simp only [Option.some.injEq] at hs2 hu2;subst hs2 hu2;have k := h.rc j r q hr hq;exact ⟨(k.1.like (r' := { r with heard := 30 }) rfl rfl rfl rfl rfl rfl rfl).same fun b hB hlt h8 => hs b (fun e => by rw [e] at h8; have h9 : 8 < q.c gR := k.2.1 _ hg; omega), k.2⟩
  ·rw [show (putD d j { r with heard := 30 }).recs[i]? = d.recs[i]? from List.getElem?_set_ne e] at hs2;have k := h.rc i s u hs2 hu2;exact ⟨k.1.same fun b hB hlt h8 => hs b (fun e => by rw [e] at h8; have h9 : 8 < u.c gR := k.2.1 _ hg; omega), k.2⟩
theorem WB.heard {B : Nat} (h : WB B w0 d p J H X wr) {j gR : Nat} {r : Rc} {q : RcI} (hg : p.aR = some ⟨gR, 0, none⟩) (hr : d.recs[j]? = some r) (hq : J[j]? = some q) (hu : r.up = true) :
  WB B w0 (putD d j { r with heard := 30 }) p J H X (wr.setCell ⟨gR, j * 18 + 17, none⟩ (.int .i64 30)) := by
 obtain ⟨_, cur, eR, _, hkR, _⟩ := h.m.cells;rw [hg] at eR;simp only [Option.some.injEq, Addr.mk.injEq, and_true] at eR;subst eR;refine ⟨h.m.heard hg hr hq hu, h.b.setCell (show B ≤ (⟨gR, j * 18 + 17, none⟩ : Addr).block from (h.m.lt _ hg).1) _, h.s, fun u hu2 => ⟨(heap_setCell_other _ _ _ _ (fun e => ?_)).trans (h.x u hu2).1, (h.x u hu2).2⟩⟩;have h1 := (h.x u hu2).1;rw [e] at h1;have h2 := hkR.symm.trans h1;simp only [Option.some.injEq, Obj.cells.injEq] at h2;exact (h.x u hu2).2.2.1.1 h2.2.1
/-- the world that is drawn, and the reader -/
structure RS (w0 : World) (g : Nat) (ca : Option Addr) (n cap k : Nat) (d : Wd) (p : WdP) (J : List RcI) (H : List Mp) (X : List (Nat × TypeId × Array Value)) (wr : World) : Prop where
 t : WB w0.heap.size wr d p J H X wr
 a : RdA wr g ca n cap k
 w : RdW g w0 wr
 l : g < w0.heap.size
 c : ∀ x, ca = some x → x.block < w0.heap.size
theorem RS.rd (h : RS w0 g ca n cap k d p J H X wr) (hw : RdW g wr w') (ha : RdA w' g ca n cap k') : RS w0 g ca n cap k' d p J H X w' := by
 have hs : ∀ b, w0.heap.size ≤ b → b < wr.heap.size → w'.heap[b]? = wr.heap[b]? := fun b h1 h2 => hw.block b h2 (by have := h.l; omega)
 exact ⟨⟨h.t.m.same hs, Below.refl _ _, Nat.le_trans h.t.s hw.size, fun u hu => ⟨(hs _ (h.t.x u hu).2.1 (h.t.x u hu).1.lt).trans (h.t.x u hu).1, (h.t.x u hu).2⟩⟩, ha, h.w.trans hw, h.l, h.c⟩
theorem RS.pick (h : RS w0 g ca n cap k d p J H X wr) (hw : RdU g wr w') (ha : RdA w' g ca n cap k') : RS w0 g ca n cap k' d p J H X w' := h.rd hw.w ha
theorem RS.step {d' : Wd} {p' : WdP} {J' : List RcI} {H' : List Mp} {X' : List (Nat × TypeId × Array Value)} (h : RS w0 g ca n cap k d p J H X wr) (hs : WB w0.heap.size wr d' p' J' H' X' w') : RS w0 g ca n cap k d' p' J' H' X' w' :=
 ⟨hs.self, h.a.low h.l h.c hs.b, h.w.below hs.b, h.l, h.c⟩
theorem RS.ext (h : RS w0 g ca n cap k d p J H X wr) (hb : Below wr.heap.size wr w') : RS w0 g ca n cap k d p J H X w' := h.step (h.t.ext hb)
theorem specImp (w0 : World) (g : Nat) (ca : Option Addr) (n cap k : Nat) (d : Wd) (p : WdP) (I : List RcI) (H : List Mp) (X : List (Nat × TypeId × Array Value)) (w : World) (h : RS w0 g ca n cap k d p I H X w) (hk : k ≤ 900000000) :
  Calls Try.prog 90 #[.pointer (some ⟨g, 0, none⟩), .agg (wdV d p)] w fun e w' => ∃ d' p' J, e = .returned (.agg (wdV d' p')) ∧ RS w0 g ca n cap (k + 1) d' p' J H X w' ∧ d'.recs.length = d.recs.length := by
 have HK := hid hk;have WKd := hid (wk_iff.1 h.t.m.ok);have XL := hid (show ∀ u ∈ X, u.1 < w.heap.size from fun u hu => (h.t.x u hu).1.lt);obtain ⟨aR, cR, aF, cF, aX, cX⟩ := p;obtain ⟨gR, curR, eR, hBR, hkR, _⟩ := h.t.m.cells;dsimp only at eR;subst eR;clear hkR hBR;obtain ⟨I0, hI0⟩ : ∃ J, J = I.map (freshI w.heap.size) := ⟨_, rfl⟩
 obtain ⟨V, hV⟩ : ∃ V, V = (w.alloc (.cells (wdV d ⟨some ⟨gR, 0, none⟩, cR, aF, cF, aX, cX⟩) 116)).alloc (.cells zW 116) := ⟨_, rfl⟩
 have S0 := hid (show RS w0 g ca n cap k d ⟨some ⟨gR, 0, none⟩, cR, aF, cF, aX, cX⟩ I0 H ((w.heap.size, 116, wdV d ⟨some ⟨gR, 0, none⟩, cR, aF, cF, aX, cX⟩) :: (w.heap.size + 1, 116, zW) :: X) V by
  have hb : Below w.heap.size w V := by rw [hV]; exact ext_alloc (ext_alloc (Below.refl _ _) _) _
  have h1 : Blk V w.heap.size (wdV d ⟨some ⟨gR, 0, none⟩, cR, aF, cF, aX, cX⟩) 116 := by rw [hV]; exact (Blk.new _ _ _).alloc _
  have h2 : Blk V (w.heap.size + 1) zW 116 := by rw [hV]; exact Blk.new' _ _ (by simp)
  rw [hI0]
  exact h.step (h.t.boxes2 hb h1 (Nat.le_refl _) oddW h2 (by omega) oddW))
 clear h hI0 hk;go_enter Try.func90, Try.ntmps90;go_wp2_with fail;rw [← hV];clear hV;refine (pickW V g ca n cap k (d.recs.length : Int) S0.out.a (by have := HK.out; omega) (by have := WKd.out.n5; omega) (by have := WKd.out.n1; omega)).mono ?_;rintro e w1 ⟨v, rfl, hv, hu, ha⟩;have S1 := hid (S0.out.pick hu ha);clear hu ha S0;have VL := hid (show v < d.recs.length by omega);obtain ⟨r, hr⟩ : ∃ r, d.recs[v]? = some r := ⟨_, List.getElem?_eq_getElem VL.out⟩
 obtain ⟨q, hq⟩ : ∃ q, I0[v]? = some q := ⟨_, List.getElem?_eq_getElem (by rw [S1.out.t.m.li]; exact VL.out)⟩
 have HR := hid hr;have HQ := hid hq;clear hr hq;have e0 : (0 : Int) ≤ (v : Int) := by omega
 have rg := S1.out.t.m.range rfl HR.out HQ.out;have c2 : w1.cell? ⟨gR, v * 18 + 2, none⟩ = some (.bool r.up) := rg 2 _ rfl;have c11 : w1.cell? ⟨gR, v * 18 + 11, none⟩ = some (.bool r.lead) := rg 11 _ rfl;have c17 : w1.cell? ⟨gR, v * 18 + 17, none⟩ = some (.int .i64 r.heard) := rg 17 _ rfl;obtain ⟨_, cur, eR, _, hkR, _⟩ := S1.out.t.m.cells;simp only [Option.some.injEq, Addr.mk.injEq, and_true] at eR;subst eR;have fR := hkR.free;have cW := (S1.out.t.x _ (.head _)).1.cell;clear rg hkR;cases hu : r.up
 ·rw [hu] at c2;have kW := (S1.out.t.x _ (.head _)).1;have kz := (S1.out.t.x _ (.tail _ (.head _))).1;go_wp2_with (first | ((with_reducible refine wpList_load_w3 w.heap.size (wdV d ⟨some ⟨gR, 0, none⟩, cR, aF, cF, aX, cX⟩) rfl ?_ ?_ ?_); (· rfl); (· exact kW)) | ((with_reducible refine wpList_store_w3 (w.heap.size + 1) zW (wdV d ⟨some ⟨gR, 0, none⟩, cR, aF, cF, aX, cX⟩) rfl rfl ?_ ?_ ?_ ?_ ?_); (· rfl); (· rfl); (· exact kz); (· simp [Value.oneCell'])));have hz := setRow_heap _ (w.heap.size + 1) _ (wdV d ⟨some ⟨gR, 0, none⟩, cR, aF, cF, aX, cX⟩) _ _ kz;refine ret_cell (ty := 116) Try.results90 (w.heap.size + 1) (wdV d ⟨some ⟨gR, 0, none⟩, cR, aF, cF, aX, cX⟩) _ ?_ ?_ hz Try.underlying116 rfl (by kernel_rfl) ?_
  ·rfl
  ·rfl
  exact ⟨_, _, _, rfl, S1.out.step (S1.out.t.ends (.tail _ (.head _)) (fun u hu => ⟨.tail _ (.tail _ hu), by have := XL.out u hu; omega⟩)), rfl⟩
 ·have HU := hid hu;rw [hu] at c2;clear hu;cases hl : r.lead
  ·rw [hl] at c11
   have S2 := hid (show RS w0 g ca n cap (k + 1) (putD d v { r with heard := 30 }) ⟨some ⟨gR, 0, none⟩, cR, aF, cF, aX, cX⟩ I0 H ((w.heap.size, 116, wdV (putD d v { r with heard := 30 }) ⟨some ⟨gR, 0, none⟩, cR, aF, cF, aX, cX⟩) :: (w.heap.size + 1, 116, zW) :: X) (w1.setCell ⟨gR, v * 18 + 17, none⟩ (.int .i64 30)) by
    rw [wdV_put]
    exact S1.out.step (S1.out.t.heard rfl HR.out HQ.out HU.out))
   obtain ⟨d2, hd2⟩ : ∃ x, x = putD d v { r with heard := 30 } := ⟨_, rfl⟩
   have LEN := hid (show d2.recs.length = d.recs.length by rw [hd2]; simp [putD]);rw [← hd2] at S2;clear hd2;have kW := (S2.out.t.x _ (.head _)).1;have kz := (S2.out.t.x _ (.tail _ (.head _))).1;go_wp2_with (first | ((with_reducible refine wpList_load_w3 w.heap.size (wdV d2 ⟨some ⟨gR, 0, none⟩, cR, aF, cF, aX, cX⟩) rfl ?_ ?_ ?_); (· rfl); (· exact kW)) | ((with_reducible refine wpList_store_w3 (w.heap.size + 1) zW (wdV d2 ⟨some ⟨gR, 0, none⟩, cR, aF, cF, aX, cX⟩) rfl rfl ?_ ?_ ?_ ?_ ?_); (· rfl); (· rfl); (· exact kz); (· simp [Value.oneCell'])));have hz := setRow_heap _ (w.heap.size + 1) _ (wdV d2 ⟨some ⟨gR, 0, none⟩, cR, aF, cF, aX, cX⟩) _ _ kz;refine ret_cell (ty := 116) Try.results90 (w.heap.size + 1) (wdV d2 ⟨some ⟨gR, 0, none⟩, cR, aF, cF, aX, cX⟩) _ ?_ ?_ hz Try.underlying116 rfl (by kernel_rfl) ?_
   ·rfl
   ·rfl
   exact ⟨_, _, _, rfl, S2.out.step (S2.out.t.ends (.tail _ (.head _)) (fun u hu => ⟨.tail _ (.tail _ hu), by have := XL.out u hu; omega⟩)), LEN.out⟩
  ·rw [hl] at c11;have kW := (S1.out.t.x _ (.head _)).1;have kz := (S1.out.t.x _ (.tail _ (.head _))).1;go_wp2_with (first | ((with_reducible refine wpList_load_w3 w.heap.size (wdV d ⟨some ⟨gR, 0, none⟩, cR, aF, cF, aX, cX⟩) rfl ?_ ?_ ?_); (· rfl); (· exact kW)) | ((with_reducible refine wpList_store_w3 (w.heap.size + 1) zW (wdV d ⟨some ⟨gR, 0, none⟩, cR, aF, cF, aX, cX⟩) rfl rfl ?_ ?_ ?_ ?_ ?_); (· rfl); (· rfl); (· exact kz); (· simp [Value.oneCell'])));have hz := setRow_heap _ (w.heap.size + 1) _ (wdV d ⟨some ⟨gR, 0, none⟩, cR, aF, cF, aX, cX⟩) _ _ kz;refine ret_cell (ty := 116) Try.results90 (w.heap.size + 1) (wdV d ⟨some ⟨gR, 0, none⟩, cR, aF, cF, aX, cX⟩) _ ?_ ?_ hz Try.underlying116 rfl (by kernel_rfl) ?_
   ·rfl
   ·rfl
   exact ⟨_, _, _, rfl, S1.out.step (S1.out.t.ends (.tail _ (.head _)) (fun u hu => ⟨.tail _ (.tail _ hu), by have := XL.out u hu; omega⟩)), rfl⟩
def newR (i n : Int) : Rc := ⟨i, n, true, 0, 0, [], 0, 0, [], [], [], false, false, 0, [], [], [], 0⟩
def nilP : RcP := ⟨none, 0, none, 0, none, 0, none, 0, none, 0, none, 0, none, 0⟩
abbrev newV (i n : Int) : Array Value := #[.int .i64 i, .int .i64 n, .bool true, .int .i64 0, .int .i64 0, .slice none 0 0, .int .i64 0, .int .i64 0, .slice none 0 0, .slice none 0 0, .slice none 0 0, .bool false, .bool false, .int .i64 0, .slice none 0 0, .slice none 0 0, .slice none 0 0, .int .i64 0]
theorem newV_eq (i n : Int) : rcV (newR i n) nilP = newV i n := rfl
def newL (k : Nat) (n : Int) : List Rc := (List.range k).map fun (i : Nat) => newR ((i : Int) + 1) n
def newC (k : Nat) (n : Int) : List Value := (List.range k).flatMap fun (i : Nat) => (newV ((i : Int) + 1) n).toList
theorem newL_len (k : Nat) (n : Int) : (newL k n).length = k := by simp [newL]
theorem newC_succ (k : Nat) (n : Int) : newC (k + 1) n = newC k n ++ (newV ((k : Int) + 1) n).toList := by simp [newC, List.range_succ]
theorem newC_len (k : Nat) (n : Int) : (newC k n).length = k * 18 := by
 induction k with
 | zero => rfl
 | succ k ih => rw [newC_succ, List.length_append, ih]; simp; omega
theorem newC_at (k : Nat) (n : Int) : ∀ (i j : Nat), i < k → j < 18 → (newC k n)[i * 18 + j]? = (newV ((i : Int) + 1) n).toList[j]? := by
 induction k with
 | zero => intro i j hi; omega
 | succ k ih =>
  intro i j hi hj;rw [newC_succ];by_cases he : i = k
  ·subst he;rw [List.getElem?_append_right (by rw [newC_len]; omega), newC_len, Nat.add_sub_cancel_left]
  ·rw [List.getElem?_append_left (by rw [newC_len]; omega)];exact ih i j (by omega) hj
theorem new_at (w : World) (i n : Int) : RcAt w (newR i n) nilP := by
 refine ⟨?_, ?_, ?_, ?_, ?_, ?_, ?_, ?_, ?_, ?_, ?_, ?_, ?_, ?_⟩ <;> first | (intro i s hs; simp [newR] at hs) | (simp [newR])
theorem recInfo : ∃ i, Try.prog.info? 31 = some i ∧ i.zero = some (.agg zeroRec) ∧ i.size = 18 ∧ i.bytes = 248 := info_parts (by unfold zeroRec; exact infoRec)
theorem newV_one (i n : Int) : ∀ u ∈ (newV i n).toList, u.oneCell' = true := by simp [Value.oneCell']
/-- the box of the world that is made, the answer's place; what was there at B is as it was -/
structure NewS (B : World) (v : Value) (w' : World) : Prop where
 blk : Blk w' (B.heap.size + 1) #[v, .slice none 0 0, .slice none 0 0] 116
 res : Blk w' B.heap.size #[.slice none 0 0, .slice none 0 0, .slice none 0 0] 116
 bel : Below B.heap.size B w'
theorem NewS.ext (h : NewS B v w') (hb : Below w'.heap.size w' v') : NewS B v v' := ⟨h.blk.ext hb, h.res.ext hb, h.bel.trans (hb.mono h.bel.size)⟩
theorem NewS.drew (h : NewS B v w') : NewS B v w'.drew := ⟨h.blk, h.res, h.bel.drew⟩
theorem NewS.grown {row : Option Nat} (h : NewS B v w') (hg : w'.grownBy v' row) (hr : ∀ j, row = some j → B.heap.size + 2 ≤ j) : NewS B v v' :=
 ⟨(hg.block _ h.blk.lt (fun e => by have := hr _ e.symm; omega)).trans h.blk, (hg.block _ h.res.lt (fun e => by have := hr _ e.symm; omega)).trans h.res, h.bel.grown hg h.bel.size (fun j hj => by have := hr j hj; omega)⟩
theorem NewS.put {v1 : Value} (h : NewS B v w') : NewS B v1 (w'.setCell ⟨B.heap.size + 1, 0, none⟩ v1) :=
 ⟨heap_setCell_same _ _ _ _ _ _ h.blk, h.res.setCell (by simp) _, h.bel.setCell (by simp) _⟩
/-- what RecNewWorld gives -/
def NewPost (n : Int) (w : World) (e : Ending) (w' : World) : Prop :=
 Below w.heap.size w w' ∧ ((inB n 1 5 = false ∧ e = .returned (.agg #[.slice none 0 0, .slice none 0 0, .slice none 0 0])) ∨
  (inB n 1 5 = true ∧ ∃ (k g cap : Nat), n = (k : Int) ∧ 1 ≤ k ∧ k ≤ 5 ∧ e = .returned (.agg #[.slice (some ⟨g, 0, none⟩) k cap, .slice none 0 0, .slice none 0 0]) ∧ w'.ownsRow w.heap.size 31 18 (.slice (some ⟨g, 0, none⟩) k cap) k (newC k n)))
set_option maxHeartbeats 400000 in
theorem specNewY (n o : Int) (w : World) (g1 : inB o 1 5 = true) (g2 : inB n 1 o = true) :
  Calls Try.prog 92 #[.int .i64 n, .int .i64 o] w fun e w' => e = .returned (.agg (newV n o)) ∧ Below w.heap.size w w' := by
 go_enter Try.func92, Try.ntmps92
 go_wp2_with (first
  | (go_at_call 37; refine (l1In_any _ _ _ _).mono ?_; rintro e w' ⟨rfl, rfl⟩)
  | ((with_reducible refine wpList_build_to (ty := 31) (newV n o) ?_ ?_); (· kernel_rfl))
  | ((with_reducible refine wpList_store_last (ty := 31) (newV n o) ?_ ?_ ?_ ?_ ?_ ?_); (· rfl); (· rfl); (· kernel_rfl); (· rfl); (· simp [Value.oneCell'])))
 refine ret_cell (ty := 31) Try.results92 w.heap.size (newV n o) _ ?_ ?_ (Blk.new _ _ _) Try.underlying31 rfl (by kernel_rfl) ⟨rfl, (Below.refl _ _).alloc (Nat.le_refl _) _⟩
 ·rfl
 ·rfl
set_option maxHeartbeats 8000000 in
set_option maxRecDepth 20000 in
theorem specNewWorld (n : Int) (w : World) : Calls Try.prog 86 #[.int .i64 n] w (NewPost n w) := by
 cases hz : inB n 1 5
 ·go_enter Try.func86, Try.ntmps86;go_wp2_with (go_at_call 37; refine (l1In_any _ _ _ _).mono ?_; rintro e w' ⟨rfl, hw'⟩; subst w');refine bodyPost_ret (v := .agg #[.slice none 0 0, .slice none 0 0, .slice none 0 0]) (by simp [results, Try.results86, go_sem]) rfl ⟨ext_alloc (ext_alloc (Below.refl _ _) _) _, Or.inl ⟨hz, rfl⟩⟩
 have hz' := inB_iff.1 hz;obtain ⟨N, hN⟩ : ∃ N : Nat, n = (N : Int) := ⟨n.toNat, by omega⟩
 have HN : Hid (n = (N : Int)) := hN;have hN5 : N ≤ 5 := by omega
 have hN1 : 1 ≤ N := by omega
 have n1 : 1 ≤ n := by omega
 have n5 : n ≤ 5 := by omega
 clear hN hz';go_enter Try.func86, Try.ntmps86;go_wp2_with (go_at_call 37; refine (l1In_any _ _ _ _).mono ?_; rintro e w' ⟨rfl, hw'⟩; subst w');go_loopw [4] (fun i wr => ∃ (k : Nat) (a : Option Addr) (cap : Nat), k ≤ N ∧ i = .int .i64 ((k : Int) + 1) ∧ ((a = none ∧ k = 0 ∧ cap = 0) ∨ ∃ g, a = some ⟨g, 0, none⟩) ∧ NewS w (.slice a k cap) wr ∧ wr.ownsRow (w.heap.size + 2) 31 18 (.slice a k cap) k (newC k n)) (fun i _ => 6 - (intOf i).toNat);case atStart => exact ⟨0, none, 0, by omega, rfl, Or.inl ⟨rfl, rfl, rfl⟩, ⟨Blk.new' _ _ (by simp), (Blk.new w _ _).alloc _, ext_alloc (ext_alloc (Below.refl _ _) _) _⟩, World.ownsRow_nil _ _ _ _⟩
 case round =>
  obtain ⟨k, a, cap, hk, rfl, hform, hNS, hown⟩ := hrel;by_cases hlt : k < N
  ·have hkn : inB ((k : Int) + 1) 1 n = true := inB_yes (by omega) (by have := HN.out; omega);have hlt' : (k : Int) + 1 ≤ n := by have := HN.out; omega
   have HS0 := hNS.drew;clear hNS hform;go_wp2_with fail;refine wp_region_last (S := NewS w (.slice a k cap)) 8 (by kernel_rfl) HS0 (fun hHeld => ?_);simp only [List.size_toArray, List.length_cons, List.length_nil, Nat.reduceAdd, Array.replicate_succ, Array.replicate_zero, List.push_toArray, List.append_toArray, List.nil_append, List.cons_append];clear HS0;refine wpLast_take (i := 0) (v := ?_) (at_lit rfl) (by kernel_rfl) (by kernel_rfl) (by kernel_rfl) (by kernel_rfl) (fun _ _ _ h => h) (Or.inl ⟨by rfl, ?_⟩) hHeld ?_;rotate_left
   ·(intro w9 hSw; have hq := hSw.blk.cell; clear hSw; go_simp; try with_reducible rfl)
   try simp only [Act.put, List.setIfInBounds_toArray, List.set_cons_zero, List.set_cons_succ]
   refine wpLast_take (i := 1) (v := ?_) (at_lit rfl) (by kernel_rfl) (by kernel_rfl) (by kernel_rfl) (by kernel_rfl) (fun _ _ _ h => h) (Or.inl ⟨by rfl, ?_⟩) hHeld ?_;rotate_left
   ·(intro w9 hSw; have hq := hSw.blk.cell; clear hSw; go_simp; try with_reducible rfl)
   try simp only [Act.put, List.setIfInBounds_toArray, List.set_cons_zero, List.set_cons_succ]
   refine wpLast_take (i := 2) (v := ?_) (at_lit rfl) (by kernel_rfl) (by kernel_rfl) (by kernel_rfl) (by kernel_rfl) (fun _ _ _ h => h) (Or.inl ⟨by rfl, ?_⟩) hHeld ?_;rotate_left
   ·(intro w9 hSw; have hq := hSw.blk.cell; clear hSw; go_simp; try with_reducible rfl)
   try simp only [Act.put, List.setIfInBounds_toArray, List.set_cons_zero, List.set_cons_succ]
   refine wpLast_take (i := 3) (v := ?_) (at_lit rfl) (by kernel_rfl) (by kernel_rfl) (by kernel_rfl) (by kernel_rfl) (fun _ _ _ h => h) (Or.inl ⟨by rfl, ?_⟩) hHeld ?_;rotate_left
   ·(intro w9 hSw; have hq := hSw.blk.cell; clear hSw; go_simp; try with_reducible rfl)
   try simp only [Act.put, List.setIfInBounds_toArray, List.set_cons_zero, List.set_cons_succ]
   refine wpLast_ready (rs := [4]) (by kernel_rfl) (by simp) ?_;refine AllLast.cons (at_lit rfl) (fun K hK => ?_) AllLast.nil;go_simp;refine (specNewY _ _ _ hz hkn).mono ?_;rintro e w5 ⟨rfl, hb5⟩;go_wp2_with fail;have ho5 := own_ext' hown.drew hb5;refine hK.out _ _ (hHeld.ext hb5) (fun hNew => ?_);clear hK K hHeld hown;have hHeld := hNew;clear hNew;try simp only [Act.put, List.setIfInBounds_toArray, List.set_cons_zero, List.set_cons_succ]
   refine wpLast_ready (rs := [5]) (by kernel_rfl) (by simp) ?_;refine AllLast.cons (at_lit rfl) (fun K hK => ?_) AllLast.nil;go_simp;have E6 : Below w5.heap.size w5 (w5.alloc (.cells (newV ((k : Int) + 1) n) 31)) := ext_alloc (Below.refl _ _) _;have ho6 := ho5.alloc (.cells (newV ((k : Int) + 1) n) 31);have nb : Blk (w5.alloc (.cells (newV ((k : Int) + 1) n) 31)) w5.heap.size (newV ((k : Int) + 1) n).toList.toArray 31 := Blk.new _ _ _;refine hK.out _ _ (hHeld.ext E6) (fun hNew => ?_);clear hK K;have hHeld6 := hNew;clear hNew hHeld E6;try simp only [Act.put, List.setIfInBounds_toArray, List.set_cons_zero, List.set_cons_succ]
   refine wpLast_ready (rs := [6]) (by kernel_rfl) (by simp) ?_;refine AllLast.cons (at_lit rfl) (fun K hK => ?_) AllLast.nil;obtain ⟨i0, q1, q2, q3, q4⟩ := recInfo;rw [if_pos (by rfl)];have hsz6 := hHeld6.blk.lt;refine wp_append_own_wide (P := Try.prog) _ _ _ 113 rfl (w.heap.size + 2) 31 i0 (.agg zeroRec) 18 248 Try.underlying113 q1 q2 q3 q4 rfl (by omega) (.slice a k cap) k (newC k n) rfl ho6 ⟨w5.heap.size, 0, none⟩ 1 1 (newV ((k : Int) + 1) n).toList rfl rfl (blk_news nb) (newV_one _ _) (by unfold maxLen; omega) (by omega) (by omega) ?_;intro v' w7 ho7 hg7 hnil7;refine hK.out _ _ (hHeld6.grown hg7 (fun j hj => (ho6.lt j hj).1)) (fun hNew => ?_);clear hK K hHeld6 q1 q2 q3 q4 nb ho5 ho6;have hHeld := hNew;clear hNew;obtain ⟨g9, cap9, C9, rfl, hg9, _, _⟩ := own_formk ho7 (fun e => by have := (hnil7.1 e).2; omega);try simp only [Act.put, List.setIfInBounds_toArray, List.set_cons_zero, List.set_cons_succ]
   refine wpLast_take (i := 7) (v := ?_) (at_lit rfl) (by kernel_rfl) (by kernel_rfl) (by kernel_rfl) (by kernel_rfl) (fun _ _ _ h => h) (Or.inl ⟨by rfl, ?_⟩) hHeld ?_;rotate_left
   ·(intro w9 hSw; clear hSw; go_simp; try with_reducible rfl)
   try simp only [Act.put, List.setIfInBounds_toArray, List.set_cons_zero, List.set_cons_succ]
   refine wpLast_end (by kernel_rfl) (at_lit rfl) (by kernel_rfl) (fun K hK => ?_);have hq := hHeld.blk.cell;have hfq := hHeld.blk.free;go_simp;refine hK.out _ _ ?_;clear hK K hq hfq;have hS2 : NewS w (.slice (some ⟨g9, 0, none⟩) (k + 1) cap9) (w7.setCell ⟨w.heap.size + 1, 0, none⟩ (.slice (some ⟨g9, 0, none⟩) (k + 1) cap9)) := hHeld.put;have hgl := (ho7.lt g9 rfl).1;have ho9 : (w7.setCell ⟨w.heap.size + 1, 0, none⟩ (.slice (some ⟨g9, 0, none⟩) (k + 1) cap9)).ownsRow (w.heap.size + 2) 31 18 (.slice (some ⟨g9, 0, none⟩) (k + 1) cap9) (k + 1) (newC (k + 1) n) := by
    rw [newC_succ];obtain ⟨e1, e2⟩ := ho7;refine ⟨e1, e2.imp id ?_⟩;rintro ⟨g0, c0, cur, e3, e4, e5, e6⟩;simp only [Value.slice.injEq, Option.some.injEq, Addr.mk.injEq, and_true] at e3;obtain ⟨rfl, _, rfl⟩ := e3;exact ⟨g9, cap9, cur, rfl, e4, (heap_setCell_other _ _ _ _ (by simp; omega)).trans e5, e6⟩
   clear ho7 hg7 hHeld hnil7;go_wp2;go_roundw;case rel => exact ⟨k + 1, some ⟨g9, 0, none⟩, cap9, by omega, by go_num, Or.inr ⟨g9, rfl⟩, hS2, ho9⟩
   case measure => simp [intOf]; omega
  ·have hkN : k = N := by omega
   subst hkN;have hgt : ¬ ((k : Int) + 1 ≤ n) := by have := HN.out; omega
   obtain ⟨g, rfl⟩ : ∃ g, a = some ⟨g, 0, none⟩ := by
    rcases hform with ⟨_, h0, _⟩ | h
    ·omega
    ·exact h
   have c1 := hNS.blk.cell;have c2 := hNS.res.cell;have f2 := hNS.res.free;go_wp2;have hgl := (hown.lt g rfl).1;refine bodyPost_ret (v := .agg #[.slice (some ⟨g, 0, none⟩) k cap, .slice none 0 0, .slice none 0 0]) (by simp [results, Try.results86, go_sem, c1, c2]) rfl ⟨((hNS.bel.setCell (by simp) _).setCell (by simp) _).setCell (by simp) _, Or.inr ⟨hz, k, g, cap, HN.out, hN1, hN5, rfl, ?_⟩⟩;obtain ⟨e1, e2⟩ := hown;refine ⟨e1, e2.imp id ?_⟩;rintro ⟨g0, c0, cur, e3, e4, e5, e6⟩;simp only [Value.slice.injEq, Option.some.injEq, Addr.mk.injEq, and_true] at e3;obtain ⟨rfl, _, rfl⟩ := e3;exact ⟨g, cap, cur, rfl, by omega, (((heap_setCell_other _ _ _ _ (by simp; omega)).trans (heap_setCell_other _ _ _ _ (by simp; omega))).trans (heap_setCell_other _ _ _ _ (by simp; omega))).trans e5, e6⟩
theorem vr_new {i n : Int} (h1 : 1 ≤ i) (h2 : i ≤ n) (h5 : n ≤ 5) : VR (newR i n) :=
 ⟨by show 1 ≤ n; omega, h5, h1, h2, dok_iff.1 rfl, dok_iff.1 rfl, ⟨Nat.zero_le _, fun m hm => absurd hm (by simp [newR])⟩, ⟨Nat.zero_le _, fun m hm => absurd hm (by simp [newR]), List.Pairwise.nil⟩, Int.le_refl _, by show (0 : Int) ≤ 1000000; omega, nok_nil _, lok_nil, aok_nil _, fun q => by simp [newR] at q, fun q => by simp [newR] at q, fun _ q => by simp [newR] at q, fun _ _ => ⟨rfl, rfl, rfl, rfl⟩, .inl rfl⟩
theorem new_has (B : Nat) (w : World) (col : Nat → Nat) (i n : Int) : RcHas B w (newR i n) nilP ⟨[], []⟩ col :=
 ⟨rowC_nil0 _ _ _ _ _ _, rowC_nil0 _ _ _ _ _ _, rowC_nil0 _ _ _ _ _ _, rfl, ⟨fun m hm => absurd hm (by simp), List.Pairwise.nil⟩, rowC_nil0 _ _ _ _ _ _, rowC_nil0 _ _ _ _ _ _, rowC_nil0 _ _ _ _ _ _, rowC_nil0 _ _ _ _ _ _, rfl, ⟨fun m hm => absurd hm (by simp), List.Pairwise.nil⟩, (new_at w i n).good⟩
def newI (k : Nat) : List RcI := List.replicate k ⟨nilP, ⟨[], []⟩, fun _ => 9⟩
theorem newL_at {n : Int} (hi : i < k) : (newL k n)[i]? = some (newR ((i : Int) + 1) n) := by
 simp only [newL, List.getElem?_map, List.getElem?_range hi, Option.map_some]
theorem newI_at (hi : i < k) : (newI k)[i]? = some ⟨nilP, ⟨[], []⟩, fun _ => 9⟩ := by
 unfold newI;rw [List.getElem?_replicate, if_pos hi]
theorem newI_len (k : Nat) : (newI k).length = k := List.length_replicate
theorem flatR_new (k : Nat) (n : Int) : flatR (newL k n) (newI k) = newC k n := by
 have hl : (newI k).length = (newL k n).length := by rw [newI_len, newL_len]
 refine List.ext_getElem? fun j => ?_
 by_cases hj : j < k * 18
 ·obtain ⟨a, t, rfl, ht⟩ : ∃ a t, j = a * 18 + t ∧ t < 18 := ⟨j / 18, j % 18, by omega, Nat.mod_lt _ (by omega)⟩
  rw [flatR_at _ _ a _ _ (newL_at (by omega)) (newI_at (by omega)) t ht, newC_at k n a t (by omega) ht, newV_eq, Array.getElem?_toList]
 ·rw [List.getElem?_eq_none (by rw [flatR_len _ _ hl, newL_len]; omega), List.getElem?_eq_none (by rw [newC_len]; omega)]
theorem new_wm {B : Nat} {w : World} (h1 : 1 ≤ k) (h5 : k ≤ 5) (h : w.ownsRow B 31 18 (.slice (some ⟨g, 0, none⟩) k cap) k (newC k (k : Int))) :
  WM B w ⟨newL k (k : Int), [], []⟩ ⟨some ⟨g, 0, none⟩, cap, none, 0, none, 0⟩ (newI k) [] := by
 refine ⟨by rw [newI_len]; exact (newL_len _ _).symm, ?_, fun i r q hr hq => ?_, rfl, rowC_nil0 _ _ _ _ _ _, fun q hq => absurd hq (by simp), rowC_nil0 _ _ _ _ _ _, wk_iff.2 ⟨by show 1 ≤ (newL k (k : Int)).length; rw [newL_len]; exact h1, by show (newL k (k : Int)).length ≤ 5; rw [newL_len]; exact h5, fun i r hr => ?_, Nat.zero_le _, fun m hm => absurd hm (by simp), nok_nil _, fun s hs => absurd hs (by simp)⟩⟩
 ·show w.ownsRow B _ 18 (.slice (some ⟨g, 0, none⟩) (newL k (k : Int)).length cap) (newL k (k : Int)).length (flatR (newL k (k : Int)) (newI k));rw [newL_len, flatR_new];exact h
 ·have hi : i < k := by have := (List.getElem?_eq_some_iff.1 hr).1; rwa [newL_len] at this
  rw [newL_at hi] at hr;rw [newI_at hi] at hq;simp only [Option.some.injEq] at hr hq;subst hr hq;exact ⟨new_has _ _ _ _ _, fun _ _ => by show 8 < 9; omega, fun _ _ => by show 8 < 9; omega⟩
 ·have hi : i < k := by have := (List.getElem?_eq_some_iff.1 hr).1; rwa [newL_len] at this
  rw [newL_at hi] at hr;simp only [Option.some.injEq] at hr;subst hr;exact ⟨vr_new (by omega) (by omega) (by omega), rfl, by show (k : Int) = ((newL k (k : Int)).length : Int); rw [newL_len]⟩
end Go.Proofs.Ytjdceoimignnpaa
