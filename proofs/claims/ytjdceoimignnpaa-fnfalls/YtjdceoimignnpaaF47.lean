import Derived.Test.YtjdceoimignnpaaF40
namespace Go.Proofs.Ytjdceoimignnpaa
open Go.ChangeShapes Go.WideShapes Go.ChangeAt Go.RowKit next Go.Deep Go.Joins
set_option linter.unusedVariables false
set_option linter.unusedSimpArgs false
set_option maxHeartbeats 32000000
set_option maxRecDepth 20000
variable {X : List (Nat × TypeId × Array Value)} {H : List Mp} {J : List jF} {cap g i k k' n : Nat} {ca : Option Addr} {v : Value} {d : Wd} {p : kV} {B v' w' w0 wr : World}
theorem FC {r : Rc} (v : VR r) (hu : r.up = true) : VR { r with heard := 30 } :=
 ⟨v.o1, v.o5, v.n1, v.nn, v.s, v.d, v.h, v.w, by show (0 : Int) ≤ 30; omega, by show (30 : Int) ≤ 1000000; omega, v.y, v.b, v.a, v.lt, v.ld, v.tr, v.cl, .inl hu⟩
theorem WM.heard {B : Nat} {w : World} {I : List jF} (h : WM B w d p I H) {j gR : Nat} {r : Rc} {q : jF} (hg : p.aR = some ⟨gR, 0, none⟩) (hr : d.recs[j]? = some r) (hq : I[j]? = some q) (hu : r.up = true) :
  WM B (w.setCell ⟨gR, j * 18 + 17, none⟩ (.int .i64 30)) (gK d j { r with heard := 30 }) p I H := by
 have hj := (List.getElem?_eq_some_iff.1 hr).1;obtain ⟨g0, cur, ea, hB, hk, hsz, hnc, hm, htk⟩ := h.cells;rw [hg] at ea;simp only [Option.some.injEq, Addr.mk.injEq, and_true] at ea;subst ea;have hs : ∀ b, b ≠ gR → (w.setCell ⟨gR, j * 18 + 17, none⟩ (.int .i64 30)).heap[b]? = w.heap[b]? := fun b hb => heap_setCell_other _ ⟨gR, j * 18 + 17, none⟩ _ _ hb
 have k1 := heap_setCell_same w gR (j * 18 + 17) cur 31 (.int .i64 30) hk;have hI : I.set j q = I := List.ext_getElem? fun i => by
  rw [List.getElem?_set];split
  ·rename_i e;subst e;have := (List.getElem?_eq_some_iff.1 hq).1;rw [if_pos this, hq]
  ·rfl
 have hl : (gK d j { r with heard := 30 }).recs.length = d.recs.length := by simp [gK]
 refine ⟨by rw [hl]; exact h.li, ⟨lZ _ _ (by rw [hl]; exact h.li), .inr ⟨gR, p.cR, _, by rw [hg], hB, k1, by rw [hl]; exact hnc, hm, by rw [Array.size_setIfInBounds, hsz], ?_⟩⟩, fun i s u hs2 hu2 => ?_, h.fm, h.fr.same fun x hx => hs _ (aO.ne h.fr hk (by decide) x hx), fun u hu => (h.fi u hu).same fun x hx => hs _ ((h.fi u hu).ne hk (by decide) x hx), h.fx.same fun x hx => hs _ (h.fx.ne hk (by decide) x hx), fZ.2 (Ic (fZ.1 h.ok) hr (FC ((fZ.1 h.ok).r j r hr).1 hu) rfl rfl)⟩
 ·refine List.ext_getElem? fun i => ?_
  rw [hl, show fG (gK d j { r with heard := 30 }).recs I = fG (d.recs.set j { r with heard := 30 }) (I.set j q) by rw [hI]; rfl, yX h.li hj, List.getElem?_take, Array.getElem?_toList, Array.getElem?_setIfInBounds];have ho : ∀ t, t < 18 → cur[j * 18 + t]? = (au r q.p)[t]? := fun t ht => cells_at htk hr hq ht
  by_cases e : j * 18 ≤ i ∧ i < j * 18 + 18
  ·rw [if_pos e, if_pos (by omega)];obtain ⟨t, rfl⟩ : ∃ t, i = j * 18 + t := ⟨i - j * 18, by omega⟩
   rw [Nat.add_sub_cancel_left, Array.getElem?_toList];by_cases e2 : t = 17
   ·subst e2;rw [if_pos rfl, if_pos (by rw [hsz]; omega)];rfl
   ·rw [if_neg (by omega), ho t (by omega)];have ht : t < 17 := by omega
    show (au r q.p)[t]? = (au { r with heard := 30 } q.p)[t]?;have h17 : t = 0 ∨ t = 1 ∨ t = 2 ∨ t = 3 ∨ t = 4 ∨ t = 5 ∨ t = 6 ∨ t = 7 ∨ t = 8 ∨ t = 9 ∨ t = 10 ∨ t = 11 ∨ t = 12 ∨ t = 13 ∨ t = 14 ∨ t = 15 ∨ t = 16 := by omega
    rcases h17 with rfl | rfl | rfl | rfl | rfl | rfl | rfl | rfl | rfl | rfl | rfl | rfl | rfl | rfl | rfl | rfl | rfl <;> rfl
  ·rw [if_neg e, ← htk, List.getElem?_take, Array.getElem?_toList, if_neg (show ¬ j * 18 + 17 = i by omega)]
 ·by_cases e : j = i
  ·subst e;rw [show (gK d j { r with heard := 30 }).recs[j]? = some { r with heard := 30 } by simp [gK, hj]] at hs2;rw [hq] at hu2;simp only [Option.some.injEq] at hs2 hu2;subst hs2 hu2;have k := h.rc j r q hr hq;exact ⟨(k.1.like (r' := { r with heard := 30 }) rfl rfl rfl rfl rfl rfl rfl).same fun b hB hlt h8 => hs b (fun e => by rw [e] at h8; have h9 : 8 < q.c gR := k.2.1 _ hg; omega), k.2⟩
  ·rw [show (gK d j { r with heard := 30 }).recs[i]? = d.recs[i]? from List.getElem?_set_ne e] at hs2;have k := h.rc i s u hs2 hu2;exact ⟨k.1.same fun b hB hlt h8 => hs b (fun e => by rw [e] at h8; have h9 : 8 < u.c gR := k.2.1 _ hg; omega), k.2⟩
theorem WB.heard {B : Nat} (h : WB B w0 d p J H X wr) {j gR : Nat} {r : Rc} {q : jF} (hg : p.aR = some ⟨gR, 0, none⟩) (hr : d.recs[j]? = some r) (hq : J[j]? = some q) (hu : r.up = true) :
  WB B w0 (gK d j { r with heard := 30 }) p J H X (wr.setCell ⟨gR, j * 18 + 17, none⟩ (.int .i64 30)) := by
 obtain ⟨_, cur, eR, _, hkR, _⟩ := h.m.cells;rw [hg] at eR;simp only [Option.some.injEq, Addr.mk.injEq, and_true] at eR;subst eR;refine ⟨h.m.heard hg hr hq hu, h.b.setCell (show B ≤ (⟨gR, j * 18 + 17, none⟩ : Addr).block from (h.m.lt _ hg).1) _, h.s, fun u hu2 => ⟨(heap_setCell_other _ _ _ _ (fun e => ?_)).trans (h.x u hu2).1, (h.x u hu2).2⟩⟩;have h1 := (h.x u hu2).1;rw [e] at h1;have h2 := hkR.symm.trans h1;simp only [Option.some.injEq, Obj.cells.injEq] at h2;exact (h.x u hu2).2.2.1.1 h2.2.1
/-- the world that is drawn, and the reader -/
structure RS (w0 : World) (g : Nat) (ca : Option Addr) (n cap k : Nat) (d : Wd) (p : kV) (J : List jF) (H : List Mp) (X : List (Nat × TypeId × Array Value)) (wr : World) : Prop where
 t : WB w0.heap.size wr d p J H X wr
 a : pO wr g ca n cap k
 w : sZ g w0 wr
 l : g < w0.heap.size
 c : ∀ x, ca = some x → x.block < w0.heap.size
theorem RS.rd (h : RS w0 g ca n cap k d p J H X wr) (hw : sZ g wr w') (ha : pO w' g ca n cap k') : RS w0 g ca n cap k' d p J H X w' := by
 have hs : ∀ b, w0.heap.size ≤ b → b < wr.heap.size → w'.heap[b]? = wr.heap[b]? := fun b h1 h2 => hw.block b h2 (by have := h.l; omega)
 exact ⟨⟨h.t.m.same hs, Below.refl _ _, Nat.le_trans h.t.s hw.size, fun u hu => ⟨(hs _ (h.t.x u hu).2.1 (h.t.x u hu).1.lt).trans (h.t.x u hu).1, (h.t.x u hu).2⟩⟩, ha, h.w.trans hw, h.l, h.c⟩
theorem RS.pick (h : RS w0 g ca n cap k d p J H X wr) (hw : Jz g wr w') (ha : pO w' g ca n cap k') : RS w0 g ca n cap k' d p J H X w' := h.rd hw.w ha
theorem RS.step {d' : Wd} {p' : kV} {J' : List jF} {H' : List Mp} {X' : List (Nat × TypeId × Array Value)} (h : RS w0 g ca n cap k d p J H X wr) (hs : WB w0.heap.size wr d' p' J' H' X' w') : RS w0 g ca n cap k d' p' J' H' X' w' :=
 ⟨hs.self, h.a.low h.l h.c hs.b, h.w.below hs.b, h.l, h.c⟩
theorem RS.ext (h : RS w0 g ca n cap k d p J H X wr) (hb : Below wr.heap.size wr w') : RS w0 g ca n cap k d p J H X w' := h.step (h.t.ext hb)
theorem Dh (w0 : World) (g : Nat) (ca : Option Addr) (n cap k : Nat) (d : Wd) (p : kV) (I : List jF) (H : List Mp) (X : List (Nat × TypeId × Array Value)) (w : World) (h : RS w0 g ca n cap k d p I H X w) (hk : k ≤ 900000000) :
  Calls Try.prog 90 #[.pointer (some ⟨g, 0, none⟩), .agg (bQ d p)] w fun e w' => ∃ d' p' J, e = .returned (.agg (bQ d' p')) ∧ RS w0 g ca n cap (k + 1) d' p' J H X w' ∧ d'.recs.length = d.recs.length := by
 have HK := hid hk;have WKd := hid (fZ.1 h.t.m.ok);have XL := hid (show ∀ u ∈ X, u.1 < w.heap.size from fun u hu => (h.t.x u hu).1.lt);obtain ⟨aR, cR, aF, cF, aX, cX⟩ := p;obtain ⟨gR, curR, eR, hBR, hkR, _⟩ := h.t.m.cells;dsimp only at eR;subst eR;clear hkR hBR;obtain ⟨I0, hI0⟩ : ∃ J, J = I.map (gJ w.heap.size) := ⟨_, rfl⟩
 obtain ⟨V, hV⟩ : ∃ V, V = (w.alloc (.cells (bQ d ⟨some ⟨gR, 0, none⟩, cR, aF, cF, aX, cX⟩) 116)).alloc (.cells zW 116) := ⟨_, rfl⟩
 have S0 := hid (show RS w0 g ca n cap k d ⟨some ⟨gR, 0, none⟩, cR, aF, cF, aX, cX⟩ I0 H ((w.heap.size, 116, bQ d ⟨some ⟨gR, 0, none⟩, cR, aF, cF, aX, cX⟩) :: (w.heap.size + 1, 116, zW) :: X) V by
  have hb : Below w.heap.size w V := by rw [hV]; exact ae (ae (Below.refl _ _) _) _
  have h1 : aC V w.heap.size (bQ d ⟨some ⟨gR, 0, none⟩, cR, aF, cF, aX, cX⟩) 116 := by rw [hV]; exact (aC.new _ _ _).alloc _
  have h2 : aC V (w.heap.size + 1) zW 116 := by rw [hV]; exact aC.new' _ _ (by simp)
  rw [hI0]
  exact h.step (h.t.CU hb h1 (Nat.le_refl _) vN h2 (by omega) vN))
 clear h hI0 hk;go_enter Try.func90, Try.ntmps90;go_wp2_with fail;rw [← hV];clear hV;refine (dD V g ca n cap k (d.recs.length : Int) S0.out.a (by have := HK.out; omega) (by have := WKd.out.n5; omega) (by have := WKd.out.n1; omega)).mono ?_;rintro e w1 ⟨v, rfl, hv, hu, ha⟩;have S1 := hid (S0.out.pick hu ha);clear hu ha S0;have VL := hid (show v < d.recs.length by omega);obtain ⟨r, hr⟩ : ∃ r, d.recs[v]? = some r := ⟨_, List.getElem?_eq_getElem VL.out⟩
 obtain ⟨q, hq⟩ : ∃ q, I0[v]? = some q := ⟨_, List.getElem?_eq_getElem (by rw [S1.out.t.m.li]; exact VL.out)⟩
 have HR := hid hr;have HQ := hid hq;clear hr hq;have e0 : (0 : Int) ≤ (v : Int) := by omega
 have rg := S1.out.t.m.range rfl HR.out HQ.out;have c2 : w1.cell? ⟨gR, v * 18 + 2, none⟩ = some (.bool r.up) := rg 2 _ rfl;have c11 : w1.cell? ⟨gR, v * 18 + 11, none⟩ = some (.bool r.lead) := rg 11 _ rfl;have c17 : w1.cell? ⟨gR, v * 18 + 17, none⟩ = some (.int .i64 r.heard) := rg 17 _ rfl;obtain ⟨_, cur, eR, _, hkR, _⟩ := S1.out.t.m.cells;simp only [Option.some.injEq, Addr.mk.injEq, and_true] at eR;subst eR;have fR := hkR.free;have cW := (S1.out.t.x _ (.head _)).1.cell;clear rg hkR;cases hu : r.up
 ·rw [hu] at c2;have kW := (S1.out.t.x _ (.head _)).1;have kz := (S1.out.t.x _ (.tail _ (.head _))).1;go_wp2_with (first | ((with_reducible refine aP w.heap.size (bQ d ⟨some ⟨gR, 0, none⟩, cR, aF, cF, aX, cX⟩) rfl ?_ ?_ ?_); rfl; exact kW) | ((with_reducible refine aQ (w.heap.size + 1) zW (bQ d ⟨some ⟨gR, 0, none⟩, cR, aF, cF, aX, cX⟩) rfl rfl ?_ ?_ ?_ ?_ ?_); rfl; rfl; exact kz; simp [Value.oneCell']));have hz := setRow_heap _ (w.heap.size + 1) _ (bQ d ⟨some ⟨gR, 0, none⟩, cR, aF, cF, aX, cX⟩) _ _ kz;refine az (ty := 116) Try.results90 (w.heap.size + 1) (bQ d ⟨some ⟨gR, 0, none⟩, cR, aF, cF, aX, cX⟩) _ ?_ ?_ hz Try.underlying116 rfl (by kernel_rfl) ?_
  ·rfl
  ·rfl
  exact ⟨_, _, _, rfl, S1.out.step (S1.out.t.ends (.tail _ (.head _)) (fun u hu => ⟨.tail _ (.tail _ hu), by have := XL.out u hu; omega⟩)), rfl⟩
 ·have HU := hid hu;rw [hu] at c2;clear hu;cases hl : r.lead
  ·rw [hl] at c11
   have S2 := hid (show RS w0 g ca n cap (k + 1) (gK d v { r with heard := 30 }) ⟨some ⟨gR, 0, none⟩, cR, aF, cF, aX, cX⟩ I0 H ((w.heap.size, 116, bQ (gK d v { r with heard := 30 }) ⟨some ⟨gR, 0, none⟩, cR, aF, cF, aX, cX⟩) :: (w.heap.size + 1, 116, zW) :: X) (w1.setCell ⟨gR, v * 18 + 17, none⟩ (.int .i64 30)) by
    rw [rf]
    exact S1.out.step (S1.out.t.heard rfl HR.out HQ.out HU.out))
   obtain ⟨d2, hd2⟩ : ∃ x, x = gK d v { r with heard := 30 } := ⟨_, rfl⟩
   have LEN := hid (show d2.recs.length = d.recs.length by rw [hd2]; simp [gK]);rw [← hd2] at S2;clear hd2;have kW := (S2.out.t.x _ (.head _)).1;have kz := (S2.out.t.x _ (.tail _ (.head _))).1;go_wp2_with (first | ((with_reducible refine aP w.heap.size (bQ d2 ⟨some ⟨gR, 0, none⟩, cR, aF, cF, aX, cX⟩) rfl ?_ ?_ ?_); rfl; exact kW) | ((with_reducible refine aQ (w.heap.size + 1) zW (bQ d2 ⟨some ⟨gR, 0, none⟩, cR, aF, cF, aX, cX⟩) rfl rfl ?_ ?_ ?_ ?_ ?_); rfl; rfl; exact kz; simp [Value.oneCell']));have hz := setRow_heap _ (w.heap.size + 1) _ (bQ d2 ⟨some ⟨gR, 0, none⟩, cR, aF, cF, aX, cX⟩) _ _ kz;refine az (ty := 116) Try.results90 (w.heap.size + 1) (bQ d2 ⟨some ⟨gR, 0, none⟩, cR, aF, cF, aX, cX⟩) _ ?_ ?_ hz Try.underlying116 rfl (by kernel_rfl) ?_
   ·rfl
   ·rfl
   exact ⟨_, _, _, rfl, S2.out.step (S2.out.t.ends (.tail _ (.head _)) (fun u hu => ⟨.tail _ (.tail _ hu), by have := XL.out u hu; omega⟩)), LEN.out⟩
  ·rw [hl] at c11;have kW := (S1.out.t.x _ (.head _)).1;have kz := (S1.out.t.x _ (.tail _ (.head _))).1;go_wp2_with (first | ((with_reducible refine aP w.heap.size (bQ d ⟨some ⟨gR, 0, none⟩, cR, aF, cF, aX, cX⟩) rfl ?_ ?_ ?_); rfl; exact kW) | ((with_reducible refine aQ (w.heap.size + 1) zW (bQ d ⟨some ⟨gR, 0, none⟩, cR, aF, cF, aX, cX⟩) rfl rfl ?_ ?_ ?_ ?_ ?_); rfl; rfl; exact kz; simp [Value.oneCell']));have hz := setRow_heap _ (w.heap.size + 1) _ (bQ d ⟨some ⟨gR, 0, none⟩, cR, aF, cF, aX, cX⟩) _ _ kz;refine az (ty := 116) Try.results90 (w.heap.size + 1) (bQ d ⟨some ⟨gR, 0, none⟩, cR, aF, cF, aX, cX⟩) _ ?_ ?_ hz Try.underlying116 rfl (by kernel_rfl) ?_
   ·rfl
   ·rfl
   exact ⟨_, _, _, rfl, S1.out.step (S1.out.t.ends (.tail _ (.head _)) (fun u hu => ⟨.tail _ (.tail _ hu), by have := XL.out u hu; omega⟩)), rfl⟩
def uG (i n : Int) : Rc := ⟨i, n, true, 0, 0, [], 0, 0, [], [], [], false, false, 0, [], [], [], 0⟩
def Ii : fU := ⟨none, 0, none, 0, none, 0, none, 0, none, 0, none, 0, none, 0⟩
abbrev uA (i n : Int) : Array Value := #[.int .i64 i, .int .i64 n, .bool true, .int .i64 0, .int .i64 0, .slice none 0 0, .int .i64 0, .int .i64 0, .slice none 0 0, .slice none 0 0, .slice none 0 0, .bool false, .bool false, .int .i64 0, .slice none 0 0, .slice none 0 0, .slice none 0 0, .int .i64 0]
theorem II (i n : Int) : au (uG i n) Ii = uA i n := rfl
def uq (k : Nat) (n : Int) : List Rc := (List.range k).map fun (i : Nat) => uG ((i : Int) + 1) n
def wF (k : Nat) (n : Int) : List Value := (List.range k).flatMap fun (i : Nat) => (uA ((i : Int) + 1) n).toList
theorem jC (k : Nat) (n : Int) : (uq k n).length = k := by simp [uq]
theorem uX (k : Nat) (n : Int) : wF (k + 1) n = wF k n ++ (uA ((k : Int) + 1) n).toList := by simp [wF, List.range_succ]
theorem tH (k : Nat) (n : Int) : (wF k n).length = k * 18 := by
 induction k with
 | zero => rfl
 | succ k ih => rw [uX, List.length_append, ih]; simp; omega
theorem Jn (k : Nat) (n : Int) : ∀ (i j : Nat), i < k → j < 18 → (wF k n)[i * 18 + j]? = (uA ((i : Int) + 1) n).toList[j]? := by
 induction k with
 | zero => intro i j hi; omega
 | succ k ih =>
  intro i j hi hj;rw [uX];by_cases he : i = k
  ·subst he;rw [List.getElem?_append_right (by rw [tH]; omega), tH, Nat.add_sub_cancel_left]
  ·rw [List.getElem?_append_left (by rw [tH]; omega)];exact ih i j (by omega) hj
theorem JV (w : World) (i n : Int) : oL w (uG i n) Ii := by
 refine ⟨?_, ?_, ?_, ?_, ?_, ?_, ?_, ?_, ?_, ?_, ?_, ?_, ?_, ?_⟩ <;> first | (intro i s hs; simp [uG] at hs) | (simp [uG])
theorem Ji : ∃ i, Try.prog.info? 31 = some i ∧ i.zero = some (.agg zk) ∧ i.size = 18 ∧ i.bytes = 248 := info_parts (by unfold zk; exact Jd)
theorem Io (i n : Int) : ∀ u ∈ (uA i n).toList, u.oneCell' = true := by simp [Value.oneCell']
/-- the box of the world that is made, the answer's place; what was there at B is as it was -/
structure rY (B : World) (v : Value) (w' : World) : Prop where
 blk : aC w' (B.heap.size + 1) #[v, .slice none 0 0, .slice none 0 0] 116
 res : aC w' B.heap.size #[.slice none 0 0, .slice none 0 0, .slice none 0 0] 116
 bel : Below B.heap.size B w'
theorem rY.ext (h : rY B v w') (hb : Below w'.heap.size w' v') : rY B v v' := ⟨h.blk.ext hb, h.res.ext hb, h.bel.trans (hb.mono h.bel.size)⟩
theorem rY.drew (h : rY B v w') : rY B v w'.drew := ⟨h.blk, h.res, h.bel.drew⟩
theorem rY.grown {row : Option Nat} (h : rY B v w') (hg : w'.grownBy v' row) (hr : ∀ j, row = some j → B.heap.size + 2 ≤ j) : rY B v v' :=
 ⟨(hg.block _ h.blk.lt (fun e => by have := hr _ e.symm; omega)).trans h.blk, (hg.block _ h.res.lt (fun e => by have := hr _ e.symm; omega)).trans h.res, h.bel.grown hg h.bel.size (fun j hj => by have := hr j hj; omega)⟩
theorem rY.put {v1 : Value} (h : rY B v w') : rY B v1 (w'.setCell ⟨B.heap.size + 1, 0, none⟩ v1) :=
 ⟨heap_setCell_same _ _ _ _ _ _ h.blk, h.res.setCell (by simp) _, h.bel.setCell (by simp) _⟩
/-- what RecNewWorld gives -/
def IU (n : Int) (w : World) (e : Ending) (w' : World) : Prop :=
 Below w.heap.size w w' ∧ ((inB n 1 5 = false ∧ e = .returned (.agg #[.slice none 0 0, .slice none 0 0, .slice none 0 0])) ∨
  (inB n 1 5 = true ∧ ∃ (k g cap : Nat), n = (k : Int) ∧ 1 ≤ k ∧ k ≤ 5 ∧ e = .returned (.agg #[.slice (some ⟨g, 0, none⟩) k cap, .slice none 0 0, .slice none 0 0]) ∧ w'.ownsRow w.heap.size 31 18 (.slice (some ⟨g, 0, none⟩) k cap) k (wF k n)))
set_option maxHeartbeats 400000 in
theorem Gq (n o : Int) (w : World) (g1 : inB o 1 5 = true) (g2 : inB n 1 o = true) :
  Calls Try.prog 92 #[.int .i64 n, .int .i64 o] w fun e w' => e = .returned (.agg (uA n o)) ∧ Below w.heap.size w w' := by
 go_enter Try.func92, Try.ntmps92
 go_wp2_with (first
  | (go_at_call 37; refine (bF _ _ _ _).mono ?_; rintro e w' ⟨rfl, rfl⟩)
  | ((with_reducible refine bH (ty := 31) (uA n o) ?_ ?_); (· kernel_rfl))
  | ((with_reducible refine dU (ty := 31) (uA n o) ?_ ?_ ?_ ?_ ?_ ?_); rfl; rfl; (· kernel_rfl); rfl; simp [Value.oneCell']))
 refine az (ty := 31) Try.results92 w.heap.size (uA n o) _ ?_ ?_ (aC.new _ _ _) Try.underlying31 rfl (by kernel_rfl) ⟨rfl, (Below.refl _ _).alloc (Nat.le_refl _) _⟩
 ·rfl
 ·rfl
set_option maxHeartbeats 8000000 in
set_option maxRecDepth 20000 in
theorem zh (n : Int) (w : World) : Calls Try.prog 86 #[.int .i64 n] w (IU n w) := by
 cases hz : inB n 1 5
 ·go_enter Try.func86, Try.ntmps86;go_wp2_with (go_at_call 37; refine (bF _ _ _ _).mono ?_; rintro e w' ⟨rfl, hw'⟩; subst w');refine bodyPost_ret (v := .agg #[.slice none 0 0, .slice none 0 0, .slice none 0 0]) (by simp [results, Try.results86, go_sem]) rfl ⟨ae (ae (Below.refl _ _) _) _, Or.inl ⟨hz, rfl⟩⟩
 have hz' := bK.1 hz;obtain ⟨N, hN⟩ : ∃ N : Nat, n = (N : Int) := ⟨n.toNat, by omega⟩
 have HN : Hid (n = (N : Int)) := hN;have hN5 : N ≤ 5 := by omega
 have hN1 : 1 ≤ N := by omega
 have n1 : 1 ≤ n := by omega
 have n5 : n ≤ 5 := by omega
 clear hN hz';go_enter Try.func86, Try.ntmps86;go_wp2_with (go_at_call 37; refine (bF _ _ _ _).mono ?_; rintro e w' ⟨rfl, hw'⟩; subst w');go_loopw [4] (fun i wr => ∃ (k : Nat) (a : Option Addr) (cap : Nat), k ≤ N ∧ i = .int .i64 ((k : Int) + 1) ∧ ((a = none ∧ k = 0 ∧ cap = 0) ∨ ∃ g, a = some ⟨g, 0, none⟩) ∧ rY w (.slice a k cap) wr ∧ wr.ownsRow (w.heap.size + 2) 31 18 (.slice a k cap) k (wF k n)) (fun i _ => 6 - (intOf i).toNat);case atStart => exact ⟨0, none, 0, by omega, rfl, Or.inl ⟨rfl, rfl, rfl⟩, ⟨aC.new' _ _ (by simp), (aC.new w _ _).alloc _, ae (ae (Below.refl _ _) _) _⟩, World.ownsRow_nil _ _ _ _⟩
 case round =>
  obtain ⟨k, a, cap, hk, rfl, hform, hNS, hown⟩ := hrel;by_cases hlt : k < N
  ·have hkn : inB ((k : Int) + 1) 1 n = true := uz (by omega) (by have := HN.out; omega);have hlt' : (k : Int) + 1 ≤ n := by have := HN.out; omega
   have HS0 := hNS.drew;clear hNS hform;go_wp2_with fail;refine aI (S := rY w (.slice a k cap)) 8 (by kernel_rfl) HS0 (fun q9 => ?_);simp only [List.size_toArray, List.length_cons, List.length_nil, Nat.reduceAdd, Array.replicate_succ, Array.replicate_zero, List.push_toArray, List.append_toArray, List.nil_append, List.cons_append];clear HS0;refine dO (i := 0) (v := ?_) (ax rfl) (by kernel_rfl) (by kernel_rfl) (by kernel_rfl) (by kernel_rfl) (fun _ _ _ h => h) (Or.inl ⟨by rfl, ?_⟩) q9 ?_;rotate_left
   ·(intro w9 hSw; have hq := hSw.blk.cell; clear hSw; go_simp; try with_reducible rfl)
   try simp only [Act.put, List.setIfInBounds_toArray, List.set_cons_zero, List.set_cons_succ]
   refine dO (i := 1) (v := ?_) (ax rfl) (by kernel_rfl) (by kernel_rfl) (by kernel_rfl) (by kernel_rfl) (fun _ _ _ h => h) (Or.inl ⟨by rfl, ?_⟩) q9 ?_;rotate_left
   ·(intro w9 hSw; have hq := hSw.blk.cell; clear hSw; go_simp; try with_reducible rfl)
   try simp only [Act.put, List.setIfInBounds_toArray, List.set_cons_zero, List.set_cons_succ]
   refine dO (i := 2) (v := ?_) (ax rfl) (by kernel_rfl) (by kernel_rfl) (by kernel_rfl) (by kernel_rfl) (fun _ _ _ h => h) (Or.inl ⟨by rfl, ?_⟩) q9 ?_;rotate_left
   ·(intro w9 hSw; have hq := hSw.blk.cell; clear hSw; go_simp; try with_reducible rfl)
   try simp only [Act.put, List.setIfInBounds_toArray, List.set_cons_zero, List.set_cons_succ]
   refine dO (i := 3) (v := ?_) (ax rfl) (by kernel_rfl) (by kernel_rfl) (by kernel_rfl) (by kernel_rfl) (fun _ _ _ h => h) (Or.inl ⟨by rfl, ?_⟩) q9 ?_;rotate_left
   ·(intro w9 hSw; have hq := hSw.blk.cell; clear hSw; go_simp; try with_reducible rfl)
   try simp only [Act.put, List.setIfInBounds_toArray, List.set_cons_zero, List.set_cons_succ]
   refine bu (rs := [4]) (by kernel_rfl) (by simp) ?_;refine aK.cons (ax rfl) (fun K hK => ?_) aK.nil;go_simp;refine (Gq _ _ _ hz hkn).mono ?_;rintro e w5 ⟨rfl, hb5⟩;go_wp2_with fail;have ho5 := qc hown.drew hb5;refine hK.out _ _ (q9.ext hb5) (fun hNew => ?_);clear hK K q9 hown;have q9 := hNew;clear hNew;try simp only [Act.put, List.setIfInBounds_toArray, List.set_cons_zero, List.set_cons_succ]
   refine bu (rs := [5]) (by kernel_rfl) (by simp) ?_;refine aK.cons (ax rfl) (fun K hK => ?_) aK.nil;go_simp;have E6 : Below w5.heap.size w5 (w5.alloc (.cells (uA ((k : Int) + 1) n) 31)) := ae (Below.refl _ _) _;have ho6 := ho5.alloc (.cells (uA ((k : Int) + 1) n) 31);have nb : aC (w5.alloc (.cells (uA ((k : Int) + 1) n) 31)) w5.heap.size (uA ((k : Int) + 1) n).toList.toArray 31 := aC.new _ _ _;refine hK.out _ _ (q9.ext E6) (fun hNew => ?_);clear hK K;have hHeld6 := hNew;clear hNew q9 E6;try simp only [Act.put, List.setIfInBounds_toArray, List.set_cons_zero, List.set_cons_succ]
   refine bu (rs := [6]) (by kernel_rfl) (by simp) ?_;refine aK.cons (ax rfl) (fun K hK => ?_) aK.nil;obtain ⟨i0, q1, q2, q3, q4⟩ := Ji;rw [if_pos (by rfl)];have hsz6 := hHeld6.blk.lt;refine wp_append_own_wide (P := Try.prog) _ _ _ 113 rfl (w.heap.size + 2) 31 i0 (.agg zk) 18 248 Try.underlying113 q1 q2 q3 q4 rfl (by omega) (.slice a k cap) k (wF k n) rfl ho6 ⟨w5.heap.size, 0, none⟩ 1 1 (uA ((k : Int) + 1) n).toList rfl rfl (dG nb) (Io _ _) (by unfold maxLen; omega) (by omega) (by omega) ?_;intro v' w7 ho7 hg7 hnil7;refine hK.out _ _ (hHeld6.grown hg7 (fun j hj => (ho6.lt j hj).1)) (fun hNew => ?_);clear hK K hHeld6 q1 q2 q3 q4 nb ho5 ho6;have q9 := hNew;clear hNew;obtain ⟨g9, cap9, C9, rfl, hg9, _, _⟩ := oK ho7 (fun e => by have := (hnil7.1 e).2; omega);try simp only [Act.put, List.setIfInBounds_toArray, List.set_cons_zero, List.set_cons_succ]
   refine dO (i := 7) (v := ?_) (ax rfl) (by kernel_rfl) (by kernel_rfl) (by kernel_rfl) (by kernel_rfl) (fun _ _ _ h => h) (Or.inl ⟨by rfl, ?_⟩) q9 ?_;rotate_left
   ·(intro w9 hSw; clear hSw; go_simp; try with_reducible rfl)
   try simp only [Act.put, List.setIfInBounds_toArray, List.set_cons_zero, List.set_cons_succ]
   refine aJ fun K hK => ?_
   have hq := q9.blk.cell;have hfq := q9.blk.free;go_simp;refine hK.out _ _ ?_;clear hK K hq hfq;have hS2 : rY w (.slice (some ⟨g9, 0, none⟩) (k + 1) cap9) (w7.setCell ⟨w.heap.size + 1, 0, none⟩ (.slice (some ⟨g9, 0, none⟩) (k + 1) cap9)) := q9.put;have hgl := (ho7.lt g9 rfl).1;have ho9 : (w7.setCell ⟨w.heap.size + 1, 0, none⟩ (.slice (some ⟨g9, 0, none⟩) (k + 1) cap9)).ownsRow (w.heap.size + 2) 31 18 (.slice (some ⟨g9, 0, none⟩) (k + 1) cap9) (k + 1) (wF (k + 1) n) := by
    rw [uX];obtain ⟨e1, e2⟩ := ho7;refine ⟨e1, e2.imp id ?_⟩;rintro ⟨g0, c0, cur, e3, e4, e5, e6⟩;simp only [Value.slice.injEq, Option.some.injEq, Addr.mk.injEq, and_true] at e3;obtain ⟨rfl, _, rfl⟩ := e3;exact ⟨g9, cap9, cur, rfl, e4, (heap_setCell_other _ _ _ _ (by simp; omega)).trans e5, e6⟩
   clear ho7 hg7 q9 hnil7;go_wp2;go_roundw;case rel => exact ⟨k + 1, some ⟨g9, 0, none⟩, cap9, by omega, by go_num, Or.inr ⟨g9, rfl⟩, hS2, ho9⟩
   case measure => simp [intOf]; omega
  ·have hkN : k = N := by omega
   subst hkN;have hgt : ¬ ((k : Int) + 1 ≤ n) := by have := HN.out; omega
   obtain ⟨g, rfl⟩ : ∃ g, a = some ⟨g, 0, none⟩ := by
    rcases hform with ⟨_, h0, _⟩ | h
    ·omega
    ·exact h
   have c1 := hNS.blk.cell;have c2 := hNS.res.cell;have f2 := hNS.res.free;go_wp2;have hgl := (hown.lt g rfl).1;refine bodyPost_ret (v := .agg #[.slice (some ⟨g, 0, none⟩) k cap, .slice none 0 0, .slice none 0 0]) (by simp [results, Try.results86, go_sem, c1, c2]) rfl ⟨((hNS.bel.setCell (by simp) _).setCell (by simp) _).setCell (by simp) _, Or.inr ⟨hz, k, g, cap, HN.out, hN1, hN5, rfl, ?_⟩⟩;obtain ⟨e1, e2⟩ := hown;refine ⟨e1, e2.imp id ?_⟩;rintro ⟨g0, c0, cur, e3, e4, e5, e6⟩;simp only [Value.slice.injEq, Option.some.injEq, Addr.mk.injEq, and_true] at e3;obtain ⟨rfl, _, rfl⟩ := e3;exact ⟨g, cap, cur, rfl, by omega, (((heap_setCell_other _ _ _ _ (by simp; omega)).trans (heap_setCell_other _ _ _ _ (by simp; omega))).trans (heap_setCell_other _ _ _ _ (by simp; omega))).trans e5, e6⟩
theorem KN {i n : Int} (h1 : 1 ≤ i) (h2 : i ≤ n) (h5 : n ≤ 5) : VR (uG i n) :=
 ⟨by show 1 ≤ n; omega, h5, h1, h2, zA.1 rfl, zA.1 rfl, ⟨Nat.zero_le _, fun m hm => absurd hm (by simp [uG])⟩, ⟨Nat.zero_le _, fun m hm => absurd hm (by simp [uG]), List.Pairwise.nil⟩, Int.le_refl _, by show (0 : Int) ≤ 1000000; omega, uk _, jI, vV _, fun q => by simp [uG] at q, fun q => by simp [uG] at q, fun _ q => by simp [uG] at q, fun _ _ => ⟨rfl, rfl, rfl, rfl⟩, .inl rfl⟩
theorem Jq (B : Nat) (w : World) (col : Nat → Nat) (i n : Int) : aG B w (uG i n) Ii ⟨[], []⟩ col :=
 ⟨dV _ _ _ _ _ _, dV _ _ _ _ _ _, dV _ _ _ _ _ _, rfl, ⟨fun m hm => absurd hm (by simp), List.Pairwise.nil⟩, dV _ _ _ _ _ _, dV _ _ _ _ _ _, dV _ _ _ _ _ _, dV _ _ _ _ _ _, rfl, ⟨fun m hm => absurd hm (by simp), List.Pairwise.nil⟩, (JV w i n).good⟩
def xX (k : Nat) : List jF := List.replicate k ⟨Ii, ⟨[], []⟩, fun _ => 9⟩
theorem zu {n : Int} (hi : i < k) : (uq k n)[i]? = some (uG ((i : Int) + 1) n) := by
 simp only [uq, List.getElem?_map, List.getElem?_range hi, Option.map_some]
theorem Dx (hi : i < k) : (xX k)[i]? = some ⟨Ii, ⟨[], []⟩, fun _ => 9⟩ := by
 unfold xX;rw [List.getElem?_replicate, if_pos hi]
theorem zL (k : Nat) : (xX k).length = k := List.length_replicate
theorem Fe (k : Nat) (n : Int) : fG (uq k n) (xX k) = wF k n := by
 have hl : (xX k).length = (uq k n).length := by rw [zL, jC]
 refine List.ext_getElem? fun j => ?_
 by_cases hj : j < k * 18
 ·obtain ⟨a, t, rfl, ht⟩ : ∃ a t, j = a * 18 + t ∧ t < 18 := ⟨j / 18, j % 18, by omega, Nat.mod_lt _ (by omega)⟩
  rw [mW _ _ a _ _ (zu (by omega)) (Dx (by omega)) t ht, Jn k n a t (by omega) ht, II, Array.getElem?_toList]
 ·rw [List.getElem?_eq_none (by rw [lZ _ _ hl, jC]; omega), List.getElem?_eq_none (by rw [tH]; omega)]
theorem Kw {B : Nat} {w : World} (h1 : 1 ≤ k) (h5 : k ≤ 5) (h : w.ownsRow B 31 18 (.slice (some ⟨g, 0, none⟩) k cap) k (wF k (k : Int))) :
  WM B w ⟨uq k (k : Int), [], []⟩ ⟨some ⟨g, 0, none⟩, cap, none, 0, none, 0⟩ (xX k) [] := by
 refine ⟨by rw [zL]; exact (jC _ _).symm, ?_, fun i r q hr hq => ?_, rfl, dV _ _ _ _ _ _, fun q hq => absurd hq (by simp), dV _ _ _ _ _ _, fZ.2 ⟨by show 1 ≤ (uq k (k : Int)).length; rw [jC]; exact h1, by show (uq k (k : Int)).length ≤ 5; rw [jC]; exact h5, fun i r hr => ?_, Nat.zero_le _, fun m hm => absurd hm (by simp), uk _, fun s hs => absurd hs (by simp)⟩⟩
 ·show w.ownsRow B _ 18 (.slice (some ⟨g, 0, none⟩) (uq k (k : Int)).length cap) (uq k (k : Int)).length (fG (uq k (k : Int)) (xX k));rw [jC, Fe];exact h
 ·have hi : i < k := by have := (List.getElem?_eq_some_iff.1 hr).1; rwa [jC] at this
  rw [zu hi] at hr;rw [Dx hi] at hq;simp only [Option.some.injEq] at hr hq;subst hr hq;exact ⟨Jq _ _ _ _ _, fun _ _ => by show 8 < 9; omega, fun _ _ => by show 8 < 9; omega⟩
 ·have hi : i < k := by have := (List.getElem?_eq_some_iff.1 hr).1; rwa [jC] at this
  rw [zu hi] at hr;simp only [Option.some.injEq] at hr;subst hr;exact ⟨KN (by omega) (by omega) (by omega), rfl, by show (k : Int) = ((uq k (k : Int)).length : Int); rw [jC]⟩
end Go.Proofs.Ytjdceoimignnpaa
