import Derived.Test.YtjdceoimignnpaaF06
namespace Go.Proofs.Ytjdceoimignnpaa
open Go.ChangeShapes Go.WideShapes Go.ChangeAt Go.RowKit
set_option linter.unusedVariables false
set_option linter.unusedSimpArgs false
set_option maxHeartbeats 8000000
variable {xs : List Value} {B c g hi2 k lo2 n n1 n2 n3 n4 n5 n6 n7 n8 u z : Nat} {col col' : Nat → Nat} {r : Rc} {p : fU} {e : TypeId} {v : Value} {V w w' : World}
structure iU where
 H : List Mp
 A : List Ap
structure CY (r : Rc) : Prop where
 s : dE r.ss
 d : dE r.ds
 h : kC r.held
 t : fJ okS r.wish
 y : fJ ny r.yes
 b : dE r.best
 a : jG r.acks
theorem oL.good (h : oL w r p) : CY r := ⟨h.hS.good, h.hD.good, h.hH.good, h.hW.good, h.hY.good, h.hB.good, h.hA.good⟩
structure qg (B : Nat) (w : World) (col : Nat → Nat) (t : Nat) (H : List Mp) : Prop where
 row : ∀ m ∈ H, aO B w col t 43 2 m.2.1 m.1.2.length m.2.2 (flat m.1.2)
 apart : H.Pairwise (fun m m' => ∀ x x', m.2.1 = some x → m'.2.1 = some x' → x.block ≠ x'.block)
structure uj (B : Nat) (w : World) (col : Nat → Nat) (t : Nat) (H : List Ap) : Prop where
 row : ∀ m ∈ H, aO B w col t 3 1 m.2.1 m.1.2.length m.2.2 (aV m.1.2)
 apart : H.Pairwise (fun m m' => ∀ x x', m.2.1 = some x → m'.2.1 = some x' → x.block ≠ x'.block)
structure aG (B : Nat) (w : World) (r : Rc) (p : fU) (X : iU) (col : Nat → Nat) : Prop where
 s : aO B w col 0 43 2 p.aS r.ss.length p.cS (flat r.ss)
 d : aO B w col 1 43 2 p.aD r.ds.length p.cD (flat r.ds)
 h : aO B w col 2 49 8 p.aH r.held.length p.cH (bZ X.H)
 hm : X.H.map (·.1) = r.held
 hi : qg B w col 7 X.H
 t : aO B w col 3 9 1 p.aW r.wish.length p.cW (fH r.wish)
 y : aO B w col 4 3 1 p.aY r.yes.length p.cY (aV r.yes)
 b : aO B w col 5 43 2 p.aB r.best.length p.cB (flat r.best)
 a : aO B w col 6 69 2 p.aA r.acks.length p.cA (bi X.A)
 am : X.A.map (·.1) = r.acks
 ai : uj B w col 8 X.A
 gd : CY r
theorem qg.same {t : Nat} {H : List Mp} (h : qg B w col t H) (hs : ∀ b, b < w.heap.size → col b = t → w'.heap[b]? = w.heap[b]?) : qg B w' col t H :=
 ⟨fun m hm => (h.row m hm).same fun x hx => hs _ ((h.row m hm).lt x hx).2 ((h.row m hm).col x hx), h.apart⟩
theorem uj.same {t : Nat} {H : List Ap} (h : uj B w col t H) (hs : ∀ b, b < w.heap.size → col b = t → w'.heap[b]? = w.heap[b]?) : uj B w' col t H :=
 ⟨fun m hm => (h.row m hm).same fun x hx => hs _ ((h.row m hm).lt x hx).2 ((h.row m hm).col x hx), h.apart⟩
theorem qg.jW {t : Nat} {H : List Mp} (h : qg B w col t H) (hc : ∀ b, b < w.heap.size → col' b = col b) : qg B w col' t H :=
 ⟨fun m hm => (h.row m hm).jW hc, h.apart⟩
theorem uj.jW {t : Nat} {H : List Ap} (h : uj B w col t H) (hc : ∀ b, b < w.heap.size → col' b = col b) : uj B w col' t H :=
 ⟨fun m hm => (h.row m hm).jW hc, h.apart⟩
variable {X : iU}
theorem aG.ext (h : aG B w r p X col) (hb : Below w.heap.size w w') : aG B w' r p X col :=
 have k : ∀ t b, b < w.heap.size → col b = t → w'.heap[b]? = w.heap[b]? := fun t b hlt _ => hb.block b hlt
 ⟨h.s.ext hb, h.d.ext hb, h.h.ext hb, h.hm, h.hi.same (k 7), h.t.ext hb, h.y.ext hb, h.b.ext hb, h.a.ext hb, h.am, h.ai.same (k 8), h.gd⟩
theorem aG.same (h : aG B w r p X col) (hs : ∀ b, B ≤ b → b < w.heap.size → col b ≤ 8 → w'.heap[b]? = w.heap[b]?) : aG B w' r p X col := by
 have k : ∀ {t : Nat} {e : TypeId} {k : Nat} {a : Option Addr} {n c : Nat} {xs : List Value}, t ≤ 8 → aO B w col t e k a n c xs → aO B w' col t e k a n c xs := fun ht h => h.same fun x hx => hs _ (h.lt x hx).1 (h.lt x hx).2 (by rw [h.col x hx]; exact ht)
 exact ⟨k (by omega) h.s, k (by omega) h.d, k (by omega) h.h, h.hm, ⟨fun m hm => k (by omega) (h.hi.row m hm), h.hi.apart⟩, k (by omega) h.t, k (by omega) h.y, k (by omega) h.b, k (by omega) h.a, h.am, ⟨fun m hm => k (by omega) (h.ai.row m hm), h.ai.apart⟩, h.gd⟩
theorem aO.jV {t : Nat} {a : Option Addr} {H : List Mp} (h : aO B w col t 49 8 a n c (bZ H)) {i : Nat} {m : Mp} (hm : H[i]? = some m) {q : Nat} {u : Value} (hq : q < 8) (hu : (fP m)[q]? = some u) :
  ∃ g, a = some ⟨g, 0, none⟩ ∧ g < w.heap.size ∧ w.cell? ⟨g, i * 8 + q, none⟩ = some u ∧ w.frozen? ⟨g, i * 8 + q, none⟩ = false := h.cell ((tK H i q m hm hq).trans hu)
theorem aO.kH {t : Nat} {a : Option Addr} {H : List Ap} (h : aO B w col t 69 2 a n c (bi H)) {i : Nat} {m : Ap} (hm : H[i]? = some m) {q : Nat} {u : Value} (hq : q < 2) (hu : (cellsA m)[q]? = some u) :
  ∃ g, a = some ⟨g, 0, none⟩ ∧ g < w.heap.size ∧ w.cell? ⟨g, i * 2 + q, none⟩ = some u ∧ w.frozen? ⟨g, i * 2 + q, none⟩ = false := h.cell ((Gy H i q m hm hq).trans hu)
theorem di {a : Option Addr} {g' : Nat} (h : a = some ⟨g, 0, none⟩) (h' : a = some ⟨g', 0, none⟩) : g' = g := by
 rw [h] at h';simp only [Option.some.injEq, Addr.mk.injEq, and_true] at h';exact h'.symm
theorem vT {t : Nat} {a : Option Addr} {H : List Mp} {l : List Ms} (h : aO B w col t 49 8 a n c (bZ H)) (hm : H.map (·.1) = l) (hi : qg B w col u H) (hg : kC l) : jB w a l := fun i s hs => by
 rw [← hm, List.getElem?_map, Option.map_eq_some_iff] at hs;obtain ⟨m, h0, rfl⟩ := hs;have hs' : l[i]? = some m.1 := by rw [← hm, List.getElem?_map, h0]; rfl
 obtain ⟨g, e0, hg0, c0, _⟩ := h.jV h0 (q := 0) (by omega) rfl;obtain ⟨g1, e1, _, c1, _⟩ := h.jV h0 (q := 1) (by omega) rfl;obtain ⟨g2, e2, _, c2, _⟩ := h.jV h0 (q := 2) (by omega) rfl;obtain ⟨g3, e3, _, c3, _⟩ := h.jV h0 (q := 3) (by omega) rfl;obtain ⟨g4, e4, _, c4, _⟩ := h.jV h0 (q := 4) (by omega) rfl;obtain ⟨g5, e5, _, c5, _⟩ := h.jV h0 (q := 5) (by omega) rfl;obtain ⟨g6, e6, _, c6, _⟩ := h.jV h0 (q := 6) (by omega) rfl;obtain ⟨g7, e7, _, c7, _⟩ := h.jV h0 (q := 7) (by omega) rfl;have q1 := di e0 e1;have q2 := di e0 e2;have q3 := di e0 e3;have q4 := di e0 e4;have q5 := di e0 e5;have q6 := di e0 e6;have q7 := di e0 e7;subst q1 q2 q3 q4 q5 q6 q7;obtain ⟨k1, k2, k3⟩ := hg i _ hs';refine ⟨g7, 0, m.2.1, m.2.2, e0, hg0, ?_, ?_, ?_, ?_, ?_, ?_, ?_, ?_, k1, k2, (hi.row m (List.mem_of_getElem? h0)).slots k3⟩;all_goals rw [Nat.zero_add]
 all_goals assumption
theorem Iy {t : Nat} {a : Option Addr} {H : List Ap} {l : List Ak} (h : aO B w col t 69 2 a n c (bi H)) (hm : H.map (·.1) = l) (hi : uj B w col u H) (hg : jG l) : nP w a l := fun i s hs => by
 rw [← hm, List.getElem?_map, Option.map_eq_some_iff] at hs;obtain ⟨m, h0, rfl⟩ := hs;have hs' : l[i]? = some m.1 := by rw [← hm, List.getElem?_map, h0]; rfl
 obtain ⟨g, e0, hg0, c0, _⟩ := h.kH h0 (q := 0) (by omega) rfl;obtain ⟨g1, e1, _, c1, _⟩ := h.kH h0 (q := 1) (by omega) rfl;have q1 := di e0 e1;subst q1;obtain ⟨k1, k2, k3⟩ := hg i _ hs';refine ⟨g1, 0, m.2.1, m.2.2, e0, hg0, ?_, ?_, k1, k2, (hi.row m (List.mem_of_getElem? h0)).ints k3⟩;all_goals rw [Nat.zero_add]
 all_goals assumption
theorem aG.at (h : aG B w r p X col) : oL w r p :=
 ⟨h.s.slots h.gd.s, h.s.len.1, h.d.slots h.gd.d, h.d.len.1, vT h.h h.hm h.hi h.gd.h, h.h.len.1, h.t.strs h.gd.t, h.t.len.1, h.y.ints h.gd.y, h.y.len.1, h.b.slots h.gd.b, h.b.len.1, Iy h.a h.am h.ai h.gd.a, h.a.len.1⟩
theorem fE {B' size : Nat} (h : w.ownsRow B e size v n xs) (hb : B' ≤ B) : w.ownsRow B' e size v n xs := by
 refine ⟨h.1, ?_⟩;rcases h.2 with h0 | ⟨g, cap, cur, hv, hB, r⟩
 ·exact .inl h0
 exact .inr ⟨g, cap, cur, hv, Nat.le_trans hb hB, r⟩
theorem lU (x y : Int) (a : Option Addr) (l : List Sl) (n cap : Nat) (w : World) (hn : l.length = n) (hc : n ≤ 1048576) (ha : a = none → cap = 0) (hsp : ∀ x, a = some x → x.spot = none) (h : cO w a l) :
  Calls Try.prog 35 #[.agg #[.int .i64 x, .int .i64 y, .slice a n cap]] w fun e w' => ∃ g' cap', e = .returned (.agg #[.int .i64 x, .int .i64 y, .slice (some ⟨g', 0, none⟩) n cap']) ∧ w.heap.size ≤ g' ∧ w'.ownsRow w.heap.size 43 2 (.slice (some ⟨g', 0, none⟩) n cap') n (flat l) ∧ Below w.heap.size w w' := by
 have HL := hid hn;have hB := hid (show Below w.heap.size w ((w.alloc (.cells #[.int .i64 x, .int .i64 y, .slice a n cap] 25)).alloc (.cells #[.int .i64 0, .int .i64 0, .slice none 0 0] 25)) from ae (ae (Below.refl _ _) _) _);clear hn;go_enter Try.func35, Try.ntmps35;go_wp2_with fail;refine (mV a l n cap _ HL.out hc ha hsp (h.ext hB.out)).mono ?_;rintro e w1 ⟨g, cap', rfl, hg, hown, hb1⟩;have b0 : aC w1 w.heap.size #[.int .i64 x, .int .i64 y, .slice a n cap] 25 := ((aC.new w _ _).alloc _).ext hb1;have b1 : aC w1 (w.heap.size + 1) #[.int .i64 0, .int .i64 0, .slice none 0 0] 25 := (aC.new' _ _ (by simp)).ext hb1;have c0 := b0.cell;have c1 := b1.cell;have f0 := b0.free;have f1 := b1.free;have hg' : w.heap.size + 1 < g := by simp at hg; omega
 have OW := hid (fE hown (show w.heap.size + 1 + 1 ≤ _ by simp));have BB := hid (aj hB.out hb1);clear b0 b1 h hown hb1 hg ha hsp;go_wp2;refine bodyPost_ret (v := .agg #[.int .i64 x, .int .i64 y, .slice (some ⟨g, 0, none⟩) n cap']) (by simp [results, Try.results35, go_sem, c0, c1]) rfl ⟨g, cap', rfl, by omega, ?_, ?_⟩
 ·refine fE (B := w.heap.size + 1 + 1) ?_ (by omega);iterate 4 refine ownsRow_setCell_below ?_ (by simp; try omega) _
  exact OW.out
 iterate 4 refine Below.setCell ?_ (by simp; try omega) _
 exact BB.out
theorem uy (h : gq) (a : Option Addr) (l : List Sl) (n cap : Nat) (w : World) (hn : l.length = n) (hc : n ≤ 1048576) (ha : a = none → cap = 0) (hsp : ∀ x, a = some x → x.spot = none) (hs : cO w a l) :
  Calls Try.prog 83 #[.agg (bU h (.slice a n cap))] w fun e w' => ∃ g' cap', e = .returned (.agg (bU h (.slice (some ⟨g', 0, none⟩) n cap'))) ∧ w.heap.size ≤ g' ∧ w'.ownsRow w.heap.size 43 2 (.slice (some ⟨g', 0, none⟩) n cap') n (flat l) ∧ Below w.heap.size w w' := by
 have HL := hid hn;have hB := hid (show Below w.heap.size w ((w.alloc (.cells (bU h (.slice a n cap)) 49)).alloc (.cells (bU ⟨0, 0, 0, 0, 0, 0, ⟨#[]⟩⟩ (.slice none 0 0)) 49)) from ae (ae (Below.refl _ _) _) _);clear hn;go_enter Try.func83, Try.ntmps83;go_wp2_with fail;refine (mV a l n cap _ HL.out hc ha hsp (hs.ext hB.out)).mono ?_;rintro e w1 ⟨g, cap', rfl, hg, hown, hb1⟩;have b0 : aC w1 w.heap.size (bU h (.slice a n cap)) 49 := ((aC.new w _ _).alloc _).ext hb1;have b1 : aC w1 (w.heap.size + 1) (bU ⟨0, 0, 0, 0, 0, 0, ⟨#[]⟩⟩ (.slice none 0 0)) 49 := (aC.new' _ _ (by simp)).ext hb1;have c0 := b0.cell;have c1 := b1.cell;have f0 := b0.free;have f1 := b1.free;have hg' : w.heap.size + 1 < g := by simp at hg; omega
 have OW := hid (fE hown (show w.heap.size + 1 + 1 ≤ _ by simp));have BB := hid (aj hB.out hb1);clear b0 b1 hs hown hb1 hg ha hsp;go_wp2;refine bodyPost_ret (v := .agg (bU h (.slice (some ⟨g, 0, none⟩) n cap'))) (by simp [results, Try.results83, go_sem, c0, c1]) rfl ⟨g, cap', rfl, by omega, ?_, ?_⟩
 ·refine fE (B := w.heap.size + 1 + 1) ?_ (by omega);iterate 9 refine ownsRow_setCell_below ?_ (by simp; try omega) _
  exact OW.out
 iterate 9 refine Below.setCell ?_ (by simp; try omega) _
 exact BB.out
def qV (w : World) (a : Option Addr) (l : List Ms) : Prop := ∀ (i b off : Nat) (s : Ms) (sa : Option Addr) (m cap : Nat), l[i]? = some s → a = some ⟨b, off, none⟩ → w.cell? ⟨b, off + i * 8 + 7, none⟩ = some (.slice sa m cap) → (sa = none → cap = 0) ∧ ∀ x, sa = some x → x.spot = none
theorem qc (h : w.ownsRow B e k v n xs) (hb : Below w.heap.size w w') : w'.ownsRow B e k v n xs := by
 refine ⟨h.1, ?_⟩;rcases h.2 with h0 | ⟨g, cap, cur, hv, hB, hg, r⟩
 ·exact .inl h0
 exact .inr ⟨g, cap, cur, hv, hB, (hb.block g (Array.getElem?_eq_some_iff.1 hg).1).trans hg, r⟩
theorem yT (w : World) (e : TypeId) (size : Nat) : (w.alloc (.cells #[] e)).ownsRow w.heap.size e size (.slice (some ⟨w.heap.size, 0, none⟩) 0 0) 0 [] :=
 ⟨by simp, .inr ⟨w.heap.size, 0, #[], rfl, Nat.le_refl _, heap_alloc_new w _, Nat.le_refl _, by unfold maxLen; omega, by simp, by simp⟩⟩
theorem oK (h : w.ownsRow B e k v n xs) (hv : v ≠ .slice none 0 0) : ∃ g cap C, v = .slice (some ⟨g, 0, none⟩) n cap ∧ B ≤ g ∧ n ≤ cap ∧ aC w g C e := by
 rcases h.2 with ⟨h0, _⟩ | ⟨g, cap, cur, rfl, hb, hg, hn, _⟩
 ·exact absurd h0 hv
 exact ⟨g, cap, cur, rfl, hb, hn, hg⟩
structure aN (w : World) (a : Option Addr) (n c k : Nat) (xs : List Value) : Prop where
 len : xs.length = n * k
 nil : a = none → n = 0 ∧ c = 0
 cells : ∀ x, a = some x → x.spot = none ∧ ∀ j u, xs[j]? = some u → w.cell? (x.add j) = some u
theorem aO.read {t : Nat} {a : Option Addr} (h : aO B w col t e k a n c xs) : aN w a n c k xs := by
 refine ⟨h.own.1, fun ha => ?_, fun x hx => ⟨h.plain.2 x hx, fun j u hu => ?_⟩⟩
 ·rcases h.form with ⟨_, h1, h2, _⟩ | ⟨g, cur, h1, _⟩
  ·exact ⟨h1, h2⟩
  rw [ha] at h1; simp at h1
 obtain ⟨g, h1, _, h2, _⟩ := h.cell hu;rw [hx] at h1;simp only [Option.some.injEq] at h1;rw [h1, Addr.add_mid, Nat.zero_add];exact h2
theorem aN.ext {a : Option Addr} (h : aN w a n c k xs) (hb : Below w.heap.size w w') : aN w' a n c k xs :=
 ⟨h.len, h.nil, fun x hx => ⟨(h.cells x hx).1, fun j u hu => by
  have h0 := (h.cells x hx).2 j u hu
  exact (hb.cell (World.block_lt_of_cell? w _ h0)).trans h0⟩⟩
structure aZ (lo hi : Nat) (w : World) (e : TypeId) (k : Nat) (a : Option Addr) (n c : Nat) (xs : List Value) : Prop where
 own : w.ownsRow lo e k (.slice a n c) n xs
 hi : ∀ x, a = some x → x.block < hi
theorem aZ.lo {lo hi : Nat} {a : Option Addr} (h : aZ lo hi w e k a n c xs) : ∀ x, a = some x → lo ≤ x.block ∧ x.block < w.heap.size := fun x hx => by
 have := h.own.lt x.block (by rw [hx]; rfl);exact this
theorem aZ.mk' {lo : Nat} {a : Option Addr} (h : w.ownsRow lo e k (.slice a n c) n xs) : aZ lo w.heap.size w e k a n c xs :=
 ⟨h, fun x hx => (h.lt x.block (by rw [hx]; rfl)).2⟩
theorem aZ.same {lo hi : Nat} {a : Option Addr} (h : aZ lo hi w e k a n c xs) (hs : ∀ b, lo ≤ b → b < hi → b < w.heap.size → w'.heap[b]? = w.heap[b]?) : aZ lo hi w' e k a n c xs := by
 refine ⟨⟨h.own.1, ?_⟩, h.hi⟩;rcases h.own.2 with h0 | ⟨g, cap, cur, hv, hB, hg, r⟩
 ·exact .inl h0
 refine .inr ⟨g, cap, cur, hv, hB, ?_, r⟩;simp only [Value.slice.injEq] at hv;exact (hs g hB (h.hi _ hv.1) (Array.getElem?_eq_some_iff.1 hg).1).trans hg
theorem aZ.ext {lo hi : Nat} {a : Option Addr} (h : aZ lo hi w e k a n c xs) (hb : Below w.heap.size w w') : aZ lo hi w' e k a n c xs :=
 h.same fun b _ _ hlt => hb.block b hlt
theorem aZ.below {lo hi : Nat} {a : Option Addr} (h : aZ lo hi w e k a n c xs) (hb : Below B w w') (hB : hi ≤ B) : aZ lo hi w' e k a n c xs :=
 h.same fun b _ hlt _ => hb.block b (by omega)
theorem aZ.set {lo hi : Nat} {a : Option Addr} (h : aZ lo hi w e k a n c xs) {q : Addr} (hq : q.block < lo) (v : Value) : aZ lo hi (w.setCell q v) e k a n c xs :=
 h.same fun b h1 _ _ => heap_setCell_other w q b v (by omega)
theorem aZ.row {lo hi : Nat} {t : Nat} {a : Option Addr} (h : aZ lo hi w e k a n c xs) (hB : B ≤ lo) (hc : ∀ b, lo ≤ b → b < hi → col b = t) : aO B w col t e k a n c xs :=
 (aO.mk (B := lo) h.own (fun x hx => hc _ (h.lo x hx).1 (h.hi x hx))).low hB
theorem mg (h : w.ownsRow B e k v n xs) : ∃ a c, v = .slice a n c := by
 rcases h.2 with ⟨rfl, rfl⟩ | ⟨g, cap, _, rfl, _⟩
 ·exact ⟨_, _, rfl⟩
 exact ⟨_, _, rfl⟩
theorem uY {ops : Array Oper} {rest : List Oper} {dst : Option Tmp} {s x : Operand} {τ : TypeId} {pos : String} {after : Array Edge} {a : Act} {w : World} {Q : Exit → Act → World → Prop}
  (B : Nat) (v : Value) (xs news : List Value) (n m c : Nat) (ad : Addr) (hs : a.eval s = v) (hx : a.eval x = .slice (some ad) m c) (hown : w.ownsRow B 43 2 v n xs) (hl : news.length = m * 2)
  (hnews : ∀ j u, news[j]? = some u → w.cell? (ad.add j) = some u) (h1 : ∀ u ∈ news, u.oneCell' = true) (hN : n + m ≤ 4194304) (hB : B ≤ w.heap.size)
  (h : ∀ v' w', w'.ownsRow B 43 2 v' (n + m) (xs ++ news) → w.grownBy w' v.ownBlock → (v' = .slice none 0 0 ↔ v = .slice none 0 0 ∧ m = 0) → wpList Try.prog ops Q rest (a.put dst v') w') :
  wpList Try.prog ops Q ({ dst := dst, op := .call { callee := .builtin .append, args := #[s, x], argTypes := #[23, 23] }, type := τ, pos := pos, after := after, guard := none } :: rest) a w := by
 obtain ⟨i, q1, q2, q3, q4⟩ := wI;exact wpList_append_own_wide w rfl s x 23 rfl B 43 i (.agg #[.int .i64 0, .string ⟨#[]⟩]) 2 24 Try.underlying23 q1 q2 q3 q4 rfl (by omega) v n xs hs hown ad m c news hx hl hnews h1 (by unfold maxLen; omega) (by omega) hB h
theorem copyS (a : Option Addr) (n c : Nat) (xs : List Value) (w : World) (h : aN w a n c 2 xs) (hc : n ≤ 1048576) (h1 : ∀ u ∈ xs, u.oneCell' = true) :
  Calls Try.prog 66 #[.slice a n c] w fun e w' => ∃ a' c', e = .returned (.slice a' n c') ∧ aZ w.heap.size w'.heap.size w' 43 2 a' n c' xs ∧ Below w.heap.size w w' := by
 have HL := hid h.len;have H1 := hid h1;cases a with
 | some x =>
  have HC := hid (h.cells x rfl).2;have HO := hid (World.ownsRow_nil w w.heap.size 43 2);clear h h1;go_enter Try.func66, Try.ntmps66;go_wp2_with ((with_reducible refine uY w.heap.size (.slice none 0 0) [] xs 0 n c x ?_ ?_ ?_ ?_ ?_ ?_ ?_ ?_ ?_); rfl; rfl; exact HO.out; exact HL.out; exact HC.out; exact H1.out; (· omega); (· exact Nat.le_refl _); intro v' w' q1 q2 q3; have Q1 := hid q1; have Q2 := hid q2; clear q1 q2 q3);go_ret;have o := Q1.out;simp only [Nat.zero_add, List.nil_append] at o;obtain ⟨a', c', rfl⟩ := mg o;exact ⟨a', c', rfl, aZ.mk' o, jS (Below.refl _ _) Q2.out (fun j hj => by simp [Value.ownBlock] at hj)⟩
 | none =>
  obtain ⟨rfl, rfl⟩ := h.nil rfl;have e9 : xs = [] := by have := h.len; simpa using this
  subst e9;clear h h1;go_enter Try.func66, Try.ntmps66;go_wp2_with fail;go_ret;exact ⟨none, 0, rfl, aZ.mk' (World.ownsRow_nil _ _ _ _), Below.refl _ _⟩
theorem Ls (a : Option Addr) (n c : Nat) (xs : List Value) (w : World) (h : aN w a n c 8 xs) (hc : n ≤ 1048576) (h1 : ∀ u ∈ xs, u.oneCell' = true) :
  Calls Try.prog 82 #[.slice a n c] w fun e w' => ∃ a' c', e = .returned (.slice a' n c') ∧ aZ w.heap.size w'.heap.size w' 49 8 a' n c' xs ∧ Below w.heap.size w w' := by
 have HL := hid h.len;have H1 := hid h1;cases a with
 | some x =>
  have HC := hid (h.cells x rfl).2;have HO := hid (World.ownsRow_nil w w.heap.size 49 8);clear h h1;go_enter Try.func82, Try.ntmps82;go_wp2_with ((with_reducible refine sO w.heap.size (.slice none 0 0) [] xs 0 n c x ?_ ?_ ?_ ?_ ?_ ?_ ?_ ?_ ?_); rfl; rfl; exact HO.out; exact HL.out; exact HC.out; exact H1.out; (· omega); (· exact Nat.le_refl _); intro v' w' q1 q2 q3; have Q1 := hid q1; have Q2 := hid q2; clear q1 q2 q3);go_ret;have o := Q1.out;simp only [Nat.zero_add, List.nil_append] at o;obtain ⟨a', c', rfl⟩ := mg o;exact ⟨a', c', rfl, aZ.mk' o, jS (Below.refl _ _) Q2.out (fun j hj => by simp [Value.ownBlock] at hj)⟩
 | none =>
  obtain ⟨rfl, rfl⟩ := h.nil rfl;have e9 : xs = [] := by have := h.len; simpa using this
  subst e9;clear h h1;go_enter Try.func82, Try.ntmps82;go_wp2_with fail;go_ret;exact ⟨none, 0, rfl, aZ.mk' (World.ownsRow_nil _ _ _ _), Below.refl _ _⟩
theorem ML (a : Option Addr) (n c : Nat) (xs : List Value) (w : World) (h : aN w a n c 1 xs) (hc : n ≤ 1048576) (h1 : ∀ u ∈ xs, u.oneCell' = true) :
  Calls Try.prog 68 #[.slice a n c] w fun e w' => ∃ a' c', e = .returned (.slice a' n c') ∧ aZ w.heap.size w'.heap.size w' 9 1 a' n c' xs ∧ Below w.heap.size w w' := by
 have HL := hid h.len;have H1 := hid h1;cases a with
 | some x =>
  have HC := hid (h.cells x rfl).2;have HO := hid (World.ownsRow_nil w w.heap.size 9 1);clear h h1;go_enter Try.func68, Try.ntmps68;go_wp2_with ((with_reducible refine sN w.heap.size (.slice none 0 0) [] xs 0 n c x ?_ ?_ ?_ ?_ ?_ ?_ ?_ ?_ ?_); rfl; rfl; exact HO.out; exact HL.out; exact HC.out; exact H1.out; (· omega); (· exact Nat.le_refl _); intro v' w' q1 q2 q3; have Q1 := hid q1; have Q2 := hid q2; clear q1 q2 q3);go_ret;have o := Q1.out;simp only [Nat.zero_add, List.nil_append] at o;obtain ⟨a', c', rfl⟩ := mg o;exact ⟨a', c', rfl, aZ.mk' o, jS (Below.refl _ _) Q2.out (fun j hj => by simp [Value.ownBlock] at hj)⟩
 | none =>
  obtain ⟨rfl, rfl⟩ := h.nil rfl;have e9 : xs = [] := by have := h.len; simpa using this
  subst e9;clear h h1;go_enter Try.func68, Try.ntmps68;go_wp2_with fail;go_ret;exact ⟨none, 0, rfl, aZ.mk' (World.ownsRow_nil _ _ _ _), Below.refl _ _⟩
theorem Jv (a : Option Addr) (n c : Nat) (xs : List Value) (w : World) (h : aN w a n c 1 xs) (hc : n ≤ 1048576) (h1 : ∀ u ∈ xs, u.oneCell' = true) :
  Calls Try.prog 69 #[.slice a n c] w fun e w' => ∃ a' c', e = .returned (.slice a' n c') ∧ aZ w.heap.size w'.heap.size w' 3 1 a' n c' xs ∧ Below w.heap.size w w' := by
 have HL := hid h.len;have H1 := hid h1;cases a with
 | some x =>
  have HC := hid (h.cells x rfl).2;have HO := hid (World.ownsRow_nil w w.heap.size 3 1);clear h h1;go_enter Try.func69, Try.ntmps69;go_wp2_with ((with_reducible refine sV w.heap.size (.slice none 0 0) [] xs 0 n c x ?_ ?_ ?_ ?_ ?_ ?_ ?_ ?_ ?_); rfl; rfl; exact HO.out; exact HL.out; exact HC.out; exact H1.out; (· omega); (· exact Nat.le_refl _); intro v' w' q1 q2 q3; have Q1 := hid q1; have Q2 := hid q2; clear q1 q2 q3);go_ret;have o := Q1.out;simp only [Nat.zero_add, List.nil_append] at o;obtain ⟨a', c', rfl⟩ := mg o;exact ⟨a', c', rfl, aZ.mk' o, jS (Below.refl _ _) Q2.out (fun j hj => by simp [Value.ownBlock] at hj)⟩
 | none =>
  obtain ⟨rfl, rfl⟩ := h.nil rfl;have e9 : xs = [] := by have := h.len; simpa using this
  subst e9;clear h h1;go_enter Try.func69, Try.ntmps69;go_wp2_with fail;go_ret;exact ⟨none, 0, rfl, aZ.mk' (World.ownsRow_nil _ _ _ _), Below.refl _ _⟩
theorem MJ (a : Option Addr) (n c : Nat) (xs : List Value) (w : World) (h : aN w a n c 2 xs) (hc : n ≤ 1048576) (h1 : ∀ u ∈ xs, u.oneCell' = true) :
  Calls Try.prog 70 #[.slice a n c] w fun e w' => ∃ a' c', e = .returned (.slice a' n c') ∧ aZ w.heap.size w'.heap.size w' 69 2 a' n c' xs ∧ Below w.heap.size w w' := by
 have HL := hid h.len;have H1 := hid h1;cases a with
 | some x =>
  have HC := hid (h.cells x rfl).2;have HO := hid (World.ownsRow_nil w w.heap.size 69 2);clear h h1;go_enter Try.func70, Try.ntmps70;go_wp2_with ((with_reducible refine rV w.heap.size (.slice none 0 0) [] xs 0 n c x ?_ ?_ ?_ ?_ ?_ ?_ ?_ ?_ ?_); rfl; rfl; exact HO.out; exact HL.out; exact HC.out; exact H1.out; (· omega); (· exact Nat.le_refl _); intro v' w' q1 q2 q3; have Q1 := hid q1; have Q2 := hid q2; clear q1 q2 q3);go_ret;have o := Q1.out;simp only [Nat.zero_add, List.nil_append] at o;obtain ⟨a', c', rfl⟩ := mg o;exact ⟨a', c', rfl, aZ.mk' o, jS (Below.refl _ _) Q2.out (fun j hj => by simp [Value.ownBlock] at hj)⟩
 | none =>
  obtain ⟨rfl, rfl⟩ := h.nil rfl;have e9 : xs = [] := by have := h.len; simpa using this
  subst e9;clear h h1;go_enter Try.func70, Try.ntmps70;go_wp2_with fail;go_ret;exact ⟨none, 0, rfl, aZ.mk' (World.ownsRow_nil _ _ _ _), Below.refl _ _⟩
theorem aC.set {b o : Nat} {c : Array Value} {t : TypeId} (h : aC w b c t) (v : Value) : aC (w.setCell ⟨b, o, none⟩ v) b (c.setIfInBounds o v) t := heap_setCell_same _ _ o _ _ v h
def nT (n1 n2 n3 n4 n5 n6 n7 n8 b : Nat) : Nat := if b < n1 then 0 else if b < n2 then 1 else if b < n3 then 2 else if b < n4 then 7 else if b < n5 then 3 else if b < n6 then 4 else if b < n7 then 5 else if b < n8 then 6 else 8
structure GZ (n1 n2 n3 n4 n5 n6 n7 n8 : Nat) : Prop where
 h1 : n1 ≤ n2
 h2 : n2 ≤ n3
 h3 : n3 ≤ n4
 h4 : n4 ≤ n5
 h5 : n5 ≤ n6
 h6 : n6 ≤ n7
 h7 : n7 ≤ n8
theorem FU {b : Nat} (L : GZ n1 n2 n3 n4 n5 n6 n7 n8) (h2 : b < n1) : nT n1 n2 n3 n4 n5 n6 n7 n8 b = 0 := by
 obtain ⟨l1, l2, l3, l4, l5, l6, l7⟩ := L;unfold nT;rw [if_pos h2]
theorem Ir {b : Nat} (L : GZ n1 n2 n3 n4 n5 n6 n7 n8) (h : n1 ≤ b) (h2 : b < n2) : nT n1 n2 n3 n4 n5 n6 n7 n8 b = 1 := by
 obtain ⟨l1, l2, l3, l4, l5, l6, l7⟩ := L;unfold nT;rw [if_neg (by omega), if_pos h2]
theorem KJ {b : Nat} (L : GZ n1 n2 n3 n4 n5 n6 n7 n8) (h : n2 ≤ b) (h2 : b < n3) : nT n1 n2 n3 n4 n5 n6 n7 n8 b = 2 := by
 obtain ⟨l1, l2, l3, l4, l5, l6, l7⟩ := L;unfold nT;rw [if_neg (by omega), if_neg (by omega), if_pos h2]
theorem G9 {b : Nat} (L : GZ n1 n2 n3 n4 n5 n6 n7 n8) (h : n3 ≤ b) (h2 : b < n4) : nT n1 n2 n3 n4 n5 n6 n7 n8 b = 7 := by
 obtain ⟨l1, l2, l3, l4, l5, l6, l7⟩ := L;unfold nT;rw [if_neg (by omega), if_neg (by omega), if_neg (by omega), if_pos h2]
theorem FK {b : Nat} (L : GZ n1 n2 n3 n4 n5 n6 n7 n8) (h : n4 ≤ b) (h2 : b < n5) : nT n1 n2 n3 n4 n5 n6 n7 n8 b = 3 := by
 obtain ⟨l1, l2, l3, l4, l5, l6, l7⟩ := L;unfold nT;rw [if_neg (by omega), if_neg (by omega), if_neg (by omega), if_neg (by omega), if_pos h2]
theorem Gf {b : Nat} (L : GZ n1 n2 n3 n4 n5 n6 n7 n8) (h : n5 ≤ b) (h2 : b < n6) : nT n1 n2 n3 n4 n5 n6 n7 n8 b = 4 := by
 obtain ⟨l1, l2, l3, l4, l5, l6, l7⟩ := L;unfold nT;rw [if_neg (by omega), if_neg (by omega), if_neg (by omega), if_neg (by omega), if_neg (by omega), if_pos h2]
theorem Ha {b : Nat} (L : GZ n1 n2 n3 n4 n5 n6 n7 n8) (h : n6 ≤ b) (h2 : b < n7) : nT n1 n2 n3 n4 n5 n6 n7 n8 b = 5 := by
 obtain ⟨l1, l2, l3, l4, l5, l6, l7⟩ := L;unfold nT;rw [if_neg (by omega), if_neg (by omega), if_neg (by omega), if_neg (by omega), if_neg (by omega), if_neg (by omega), if_pos h2]
theorem Kz {b : Nat} (L : GZ n1 n2 n3 n4 n5 n6 n7 n8) (h : n7 ≤ b) (h2 : b < n8) : nT n1 n2 n3 n4 n5 n6 n7 n8 b = 6 := by
 obtain ⟨l1, l2, l3, l4, l5, l6, l7⟩ := L;unfold nT;rw [if_neg (by omega), if_neg (by omega), if_neg (by omega), if_neg (by omega), if_neg (by omega), if_neg (by omega), if_neg (by omega), if_pos h2]
theorem GY {b : Nat} (L : GZ n1 n2 n3 n4 n5 n6 n7 n8) (h : n8 ≤ b) : nT n1 n2 n3 n4 n5 n6 n7 n8 b = 8 := by
 obtain ⟨l1, l2, l3, l4, l5, l6, l7⟩ := L;unfold nT;rw [if_neg (by omega), if_neg (by omega), if_neg (by omega), if_neg (by omega), if_neg (by omega), if_neg (by omega), if_neg (by omega), if_neg (by omega)]
theorem bG {a : World} (h : Below B a w) {q : Addr} (hq : B ≤ q.block) (v : Value) : Below B a (w.setCell q v) := h.setCell hq v
theorem Ea (A D : List Mp) (m : Mp) (a : Option Addr) (c : Nat) : (bZ (A ++ m :: D)).set (A.length * 8 + 7) (.slice a m.1.2.length c) = bZ (A ++ (m.1, a, c) :: D) := by
 simp only [bZ, List.flatMap_append, List.flatMap_cons];have hl : (A.flatMap fP).length = A.length * 8 := qR A;rw [List.set_append_right _ _ (by omega), hl, show A.length * 8 + 7 - A.length * 8 = 7 by omega, List.set_append_left _ _ (by simp [rQ])];rfl
theorem DW (A D : List Ap) (m : Ap) (a : Option Addr) (c : Nat) : (bi (A ++ m :: D)).set (A.length * 2 + 1) (.slice a m.1.2.length c) = bi (A ++ (m.1, a, c) :: D) := by
 simp only [bi, List.flatMap_append, List.flatMap_cons];have hl : (A.flatMap cellsA).length = A.length * 2 := mr A;rw [List.set_append_right _ _ (by omega), hl, show A.length * 2 + 1 - A.length * 2 = 1 by omega, List.set_append_left _ _ (by simp [sS])];rfl
structure kS (z : Nat) (V : World) (g : Nat) (c : Array Value) (w' : World) : Prop where
 blk : aC w' g c 31
 bel : Below z V w'
theorem kS.drew {c : Array Value} (h : kS z V g c w') : kS z V g c w'.drew := ⟨h.blk, h.bel.drew⟩
theorem kS.ext {c : Array Value} {v' : World} (h : kS z V g c w') (hz : z ≤ V.heap.size) (hb : Below w'.heap.size w' v') : kS z V g c v' := ⟨h.blk.ext hb, h.bel.trans (hb.mono (Nat.le_trans hz h.bel.size))⟩
structure dR (lo hi : Nat) (w : World) (H : List Mp) : Prop where
 row : ∀ m ∈ H, aZ lo hi w 43 2 m.2.1 m.1.2.length m.2.2 (flat m.1.2)
 apart : H.Pairwise (fun m m' => ∀ x x', m.2.1 = some x → m'.2.1 = some x' → x.block ≠ x'.block)
theorem dR.ext {lo hi : Nat} {H : List Mp} (h : dR lo hi w H) (hb : Below w.heap.size w w') : dR lo hi w' H := ⟨fun m hm => (h.row m hm).ext hb, h.apart⟩
theorem dR.set {lo hi : Nat} {H : List Mp} (h : dR lo hi w H) {q : Addr} (hq : q.block < lo) (v : Value) : dR lo hi (w.setCell q v) H := ⟨fun m hm => (h.row m hm).set hq v, h.apart⟩
theorem dR.below {lo hi : Nat} {H : List Mp} (h : dR lo hi w H) (hb : Below B w w') (hB : hi ≤ B) : dR lo hi w' H := ⟨fun m hm => (h.row m hm).below hb hB, h.apart⟩
theorem dR.nil (lo hi : Nat) (w : World) : dR lo hi w [] := ⟨fun m hm => absurd hm (by simp), List.Pairwise.nil⟩
theorem dR.snoc {lo hi : Nat} {H : List Mp} {m : Mp} (h : dR lo hi w H) (hm : aZ lo2 hi2 w 43 2 m.2.1 m.1.2.length m.2.2 (flat m.1.2)) (h1 : lo ≤ lo2) (h2 : hi ≤ lo2) (h3 : lo2 ≤ hi2) : dR lo hi2 w (H ++ [m]) := by
 refine ⟨fun u hu => ?_, ?_⟩
 ·rcases List.mem_append.1 hu with hu | hu
  ·have := h.row u hu;exact ⟨this.own, fun x hx => by have := this.hi x hx; omega⟩
  simp only [List.mem_cons, List.not_mem_nil, or_false] at hu;subst hu;refine ⟨⟨hm.own.1, ?_⟩, hm.hi⟩;rcases hm.own.2 with h0 | ⟨g, cap, cur, hv, hB, r⟩
  ·exact .inl h0
  exact .inr ⟨g, cap, cur, hv, by omega, r⟩
 rw [List.pairwise_append];refine ⟨h.apart, List.pairwise_singleton _ _, fun u hu v hv x x' hx hx' => ?_⟩;simp only [List.mem_cons, List.not_mem_nil, or_false] at hv;subst hv;have q1 := (h.row u hu).hi x hx;have q2 := (hm.lo x' hx').1;omega
theorem dR.uP {lo hi : Nat} {H : List Mp} {t : Nat} (h : dR lo hi w H) (hB : B ≤ lo) (hc : ∀ b, lo ≤ b → b < hi → col b = t) : qg B w col t H :=
 ⟨fun m hm => (h.row m hm).row hB hc, h.apart⟩
structure iV (lo hi : Nat) (w : World) (H : List Ap) : Prop where
 row : ∀ m ∈ H, aZ lo hi w 3 1 m.2.1 m.1.2.length m.2.2 (aV m.1.2)
 apart : H.Pairwise (fun m m' => ∀ x x', m.2.1 = some x → m'.2.1 = some x' → x.block ≠ x'.block)
theorem iV.ext {lo hi : Nat} {H : List Ap} (h : iV lo hi w H) (hb : Below w.heap.size w w') : iV lo hi w' H := ⟨fun m hm => (h.row m hm).ext hb, h.apart⟩
theorem iV.set {lo hi : Nat} {H : List Ap} (h : iV lo hi w H) {q : Addr} (hq : q.block < lo) (v : Value) : iV lo hi (w.setCell q v) H := ⟨fun m hm => (h.row m hm).set hq v, h.apart⟩
theorem iV.nil (lo hi : Nat) (w : World) : iV lo hi w [] := ⟨fun m hm => absurd hm (by simp), List.Pairwise.nil⟩
theorem iV.snoc {lo hi : Nat} {H : List Ap} {m : Ap} (h : iV lo hi w H) (hm : aZ lo2 hi2 w 3 1 m.2.1 m.1.2.length m.2.2 (aV m.1.2)) (h1 : lo ≤ lo2) (h2 : hi ≤ lo2) (h3 : lo2 ≤ hi2) : iV lo hi2 w (H ++ [m]) := by
 refine ⟨fun u hu => ?_, ?_⟩
 ·rcases List.mem_append.1 hu with hu | hu
  ·have := h.row u hu;exact ⟨this.own, fun x hx => by have := this.hi x hx; omega⟩
  simp only [List.mem_cons, List.not_mem_nil, or_false] at hu;subst hu;refine ⟨⟨hm.own.1, ?_⟩, hm.hi⟩;rcases hm.own.2 with h0 | ⟨g, cap, cur, hv, hB, r⟩
  ·exact .inl h0
  exact .inr ⟨g, cap, cur, hv, by omega, r⟩
 rw [List.pairwise_append];refine ⟨h.apart, List.pairwise_singleton _ _, fun u hu v hv x x' hx hx' => ?_⟩;simp only [List.mem_cons, List.not_mem_nil, or_false] at hv;subst hv;have q1 := (h.row u hu).hi x hx;have q2 := (hm.lo x' hx').1;omega
theorem iV.uP {lo hi : Nat} {H : List Ap} {t : Nat} (h : iV lo hi w H) (hB : B ≤ lo) (hc : ∀ b, lo ≤ b → b < hi → col b = t) : uj B w col t H :=
 ⟨fun m hm => (h.row m hm).row hB hc, h.apart⟩
structure JF (w : World) (H : List Mp) : Prop where
 row : ∀ m ∈ H, aN w m.2.1 m.1.2.length m.2.2 2 (flat m.1.2)
structure LQ (w : World) (H : List Ap) : Prop where
 row : ∀ m ∈ H, aN w m.2.1 m.1.2.length m.2.2 1 (aV m.1.2)
structure mP (w : World) (r : Rc) (p : fU) (X : iU) : Prop where
 s : aN w p.aS r.ss.length p.cS 2 (flat r.ss)
 d : aN w p.aD r.ds.length p.cD 2 (flat r.ds)
 h : aN w p.aH r.held.length p.cH 8 (bZ X.H)
 hm : X.H.map (·.1) = r.held
 hi : JF w X.H
 t : aN w p.aW r.wish.length p.cW 1 (fH r.wish)
 y : aN w p.aY r.yes.length p.cY 1 (aV r.yes)
 b : aN w p.aB r.best.length p.cB 2 (flat r.best)
 a : aN w p.aA r.acks.length p.cA 2 (bi X.A)
 am : X.A.map (·.1) = r.acks
 ai : LQ w X.A
 gd : CY r
theorem aN.read {a : Option Addr} (h : aN w a n c k xs) : aN w a n c k xs := h
theorem mP.ext (h : mP w r p X) (hb : Below w.heap.size w w') : mP w' r p X :=
 ⟨h.s.ext hb, h.d.ext hb, h.h.ext hb, h.hm, ⟨fun m hm => (h.hi.row m hm).ext hb⟩, h.t.ext hb, h.y.ext hb, h.b.ext hb, h.a.ext hb, h.am, ⟨fun m hm => (h.ai.row m hm).ext hb⟩, h.gd⟩
theorem aG.reads (h : aG B w r p X col) : mP w r p X :=
 ⟨h.s.read, h.d.read, h.h.read, h.hm, ⟨fun m hm => (h.hi.row m hm).read⟩, h.t.read, h.y.read, h.b.read, h.a.read, h.am, ⟨fun m hm => (h.ai.row m hm).read⟩, h.gd⟩
end Go.Proofs.Ytjdceoimignnpaa
