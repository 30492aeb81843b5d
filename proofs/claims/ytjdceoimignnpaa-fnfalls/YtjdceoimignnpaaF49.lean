import Derived.Test.YtjdceoimignnpaaF48
import Derived.Test.YtjdceoimignnpaaF26
namespace Go.Proofs.Ytjdceoimignnpaa
open Go.ChangeShapes Go.WideShapes Go.ChangeAt Go.RowKit next
set_option linter.unusedVariables false
set_option linter.unusedSimpArgs false
set_option maxHeartbeats 32000000
set_option maxRecDepth 20000
variable {T : TypeId} {w : World}
structure NM (B g3 : Nat) (d : Wd) (p : kV) (J : List jF) (H : List Mp) (w : World) : Prop where
 k : aC w g3 (bQ d p) 116
 m : WM B w d p J H
theorem IQ (w : World) (g : Nat) (ca : Option Addr) (n cap p : Nat) (h : pO w g ca n cap p) (hp : p ≤ 700000000) (hc : ∀ x, ca = some x → x.block < w.heap.size) :
  Calls Try.prog 60 #[.pointer (some ⟨g, 0, none⟩)] w fun e w' => ∃ (r : Rc) (q : jF) (k' : Nat), e = .returned (.agg (au r q.p)) ∧ VR r ∧ aG w.heap.size w' r q.p q.X q.c ∧ sZ g w w' ∧ pO w' g ca n cap k' ∧ k' ≤ p + 1100 := by
 have HP := hid hp;have HC := hid hc;have GL := hid (show g < w.heap.size from h.k.lt);obtain ⟨V, hV⟩ : ∃ V, V = w.alloc (.cells bP 31) := ⟨_, rfl⟩
 have EV := hid (show Below w.heap.size w V by rw [hV]; exact ae (Below.refl _ _) _);have A0 := hid (h.ext EV.out);have Z0 := hid (show aC V w.heap.size bP 31 by rw [hV]; exact aC.new _ _ _);have VS := hid (show V.heap.size = w.heap.size + 1 by rw [hV]; simp);clear h hp hc;go_enter Try.func60, Try.ntmps60;go_wp2_with fail;rw [← hV];clear hV;refine (AX V g ca n cap p A0.out (by have := HP.out; omega) (fun x hx => by have := HC.out x hx; have := VS.out; omega)).mono ?_;rintro e w1 ⟨d, pp, J, H, k, rfl, hs1, hk1⟩;obtain ⟨aR, cR, aF, cF, aX, cX⟩ := pp;obtain ⟨gR, curR, eR, hBR, hkR, _⟩ := hs1.t.m.cells;dsimp only at eR;subst eR;have S1 := hid hs1;have KB := hid hk1;have WKd := hid (fZ.1 hs1.t.m.ok);obtain ⟨g3, hg3⟩ : ∃ x, x = w1.heap.size := ⟨_, rfl⟩
 obtain ⟨W2, hW2⟩ : ∃ u, u = w1.alloc (.cells (bQ d ⟨some ⟨gR, 0, none⟩, cR, aF, cF, aX, cX⟩) 116) := ⟨_, rfl⟩
 obtain ⟨J0, hJ0⟩ : ∃ x, x = J.map (gJ w1.heap.size) := ⟨_, rfl⟩
 have S2 := hid (show RS V g ca n cap k d ⟨some ⟨gR, 0, none⟩, cR, aF, cF, aX, cX⟩ J0 H [(g3, 116, bQ d ⟨some ⟨gR, 0, none⟩, cR, aF, cF, aX, cX⟩)] W2 by
  rw [hJ0]
  exact S1.out.step (S1.out.t.Ih (show Below w1.heap.size w1 W2 by rw [hW2]; exact ae (Below.refl _ _) _) (by rw [hW2, hg3]; exact aC.new _ _ _) (by rw [hg3]; exact Nat.le_refl _) vN))
 clear hs1 hk1 hBR hkR hJ0 S1;go_wp2_with ((with_reducible refine kR (bQ d ⟨some ⟨gR, 0, none⟩, cR, aF, cF, aX, cX⟩) rfl ?_ ?_ ?_ ?_ ?_); rfl; rfl; rfl; simp [Value.oneCell']);try rw [← hg3]
 rw [← hW2];clear hg3 hW2;have hK0 : NM V.heap.size g3 d ⟨some ⟨gR, 0, none⟩, cR, aF, cF, aX, cX⟩ J0 H W2 := ⟨(S2.out.t.x _ (.head _)).1, S2.out.t.m⟩
 refine aI (S := NM V.heap.size g3 d ⟨some ⟨gR, 0, none⟩, cR, aF, cF, aX, cX⟩ J0 H) 9 (by kernel_rfl) ⟨aC.drew hK0.k, hK0.m.same fun _ _ _ => rfl⟩ (fun q9 => ?_);simp only [qz, Nat.reduceAdd];obtain ⟨w3, hw3⟩ : ∃ u, u = W2.drew := ⟨_, rfl⟩
 have S3 := hid (S2.out.ext (show Below W2.heap.size W2 w3 by rw [hw3]; exact (Below.refl _ _).drew));rw [← hw3] at q9 ⊢;clear hw3 hK0 S2;refine ak.go [0, 1, 2, 3, 4, 5] ?_;iterate 6 (refine ak.tk q9 ?_; try simp only [qq])
 refine ak.fin ?_;refine aT 6 fun K hK => ?_
 go_simp;refine (dD w3 g ca n cap k (d.recs.length : Int) S3.out.a (by have := KB.out; have := HP.out; omega) (by have := WKd.out.n5; omega) (by have := WKd.out.n1; omega)).mono ?_;rintro e w4 ⟨v, rfl, hv, hu, ha⟩;have S4 := hid (S3.out.pick hu ha);clear hu ha S3;go_wp2_with fail;refine hK.out _ _ ⟨(S4.out.t.x _ (.head _)).1, S4.out.t.m⟩ ?_;clear hK K q9;intro q9;try simp only [qq]
 have VL := hid (show v < d.recs.length by omega);obtain ⟨r, hr⟩ : ∃ r, d.recs[v]? = some r := ⟨_, List.getElem?_eq_getElem VL.out⟩
 obtain ⟨q, hq⟩ : ∃ q, J0[v]? = some q := ⟨_, List.getElem?_eq_getElem (by rw [S4.out.t.m.li]; exact VL.out)⟩
 have HR := hid hr;have HQ := hid hq;clear hr hq;have e0 : (0 : Int) ≤ (v : Int) := by omega
 refine ak.go [7] ?_;iterate 1 (refine ak.tk q9 ?_; try simp only [qq])
 refine ak.fin ?_;refine bT (i := 8) (v := .agg (au r q.p)) (ax rfl) (by kernel_rfl) (by kernel_rfl) (by kernel_rfl) (by kernel_rfl) (fun _ _ _ h => h) (yieldsIf_load_mid (by rfl) 31 _ rfl gR (v * 18) rfl (au r q.p).toList _ (fun w9 hS => hS.m.range rfl HR.out HQ.out) Try.underlying31 rfl (by kernel_rfl)) q9 ?_;try simp only [qq]
 refine aJ fun K hK => ?_
 have kz : aC w4 w.heap.size bP 31 := (S4.out.w.block _ (by have := VS.out; omega) (by have := GL.out; omega)).trans Z0.out;rw [if_pos (by rfl)];refine wp_store_row 31 _ _ rfl w.heap.size (au r q.p) rfl rfl 31 bP kz (by kernel_rfl) rfl (by exact pI _ _) ?_;refine hK.out _ _ ?_;clear hK K q9;go_wp2_with fail;have hz := setRow_heap _ w.heap.size _ (au r q.p) _ _ kz;refine az (ty := 31) Try.results60 w.heap.size (au r q.p) _ ?_ ?_ hz Try.underlying31 rfl (by kernel_rfl) ?_
 ·rfl
 ·rfl
 have hB : Below V.heap.size w4 w4 := Below.refl _ _;have vs := VS.out;have rc := (S4.out.t.m.rc v r q HR.out HQ.out).1;exact ⟨r, q, _, rfl, (WKd.out.r v r HR.out).1, (rc.far (by omega) _).lower (by omega), (show sZ g w w4 from ((sZ.refl g w).ext EV.out).trans S4.out.w).below (ay (Below.refl _ _) (Nat.le_refl _) _), S4.out.a.low (B := w.heap.size) GL.out HC.out (ay (Below.refl _ _) (Nat.le_refl _) _), by have := KB.out; omega⟩
structure SK (w0 : World) (g : Nat) (ca : Option Addr) (n cap B gy gz : Nat) (cs : Array Value) (r : Rc) (p : fU) (X : iU) (c : Nat → Nat) (k : Nat) (wr : World) : Prop where
 x : RX w0 g ca n cap [(gy, 31, cs), (gz, 31, bP)] k wr
 h : aG B wr r p X c
 c9 : c gy = 9
 lo : gz < B
 up : B ≤ gy
variable {w0 wr w' w6 w7 : World} {g : Nat} {ca : Option Addr} {n cap B gy gz : Nat} {cs : Array Value} {r r' : Rc} {p p' : fU} {X X' : iU} {c c' : Nat → Nat} {k k' : Nat}
theorem SK.box (h : SK w0 g ca n cap B gy gz cs r p X c k wr) : aC wr gy cs 31 := (h.x.x _ (.head _)).1
theorem SK.lz (h : SK w0 g ca n cap B gy gz cs r p X c k wr) : w0.heap.size ≤ gz := (h.x.x _ (.tail _ (.head _))).2
theorem SK.rd (h : SK w0 g ca n cap B gy gz cs r p X c k wr) (hw : sZ g wr w') (ha : pO w' g ca n cap k') : SK w0 g ca n cap B gy gz cs r p X c k' w' :=
 ⟨h.x.rd hw ha, h.h.same fun b hb hlt _ => hw.block b hlt (by have := h.x.l; have := h.lo; have := h.lz; omega), h.c9, h.lo, h.up⟩
theorem SK.ext (h : SK w0 g ca n cap B gy gz cs r p X c k wr) (hb : Below wr.heap.size wr w') : SK w0 g ca n cap B gy gz cs r p X c k w' := ⟨h.x.ext hb, h.h.ext hb, h.c9, h.lo, h.up⟩
theorem SK.put (h : SK w0 g ca n cap B gy gz cs r p X c k wr) (hc : ∀ x, ca = some x → x.block < w0.heap.size) (o : Nat) (v : Value) : SK w0 g ca n cap B gy gz (cs.setIfInBounds o v) r p X c k (wr.setCell ⟨gy, o, none⟩ v) :=
 ⟨h.x.top hc (fun c hc => heap_setCell_other _ _ _ _ hc) (h.box.set v) ((Below.refl _ _).setCell (h.x.x _ (.head _)).2 _) (fun u hu => by
  simp only [List.mem_cons, List.not_mem_nil, or_false] at hu;subst hu;have := h.lo;have := h.up;show gz ≠ gy
  omega), h.h.same fun b hb hlt h8 => heap_setCell_other _ _ _ _ (fun e => by
   have e : b = gy := e;subst e;have := h.c9
   omega), h.c9, h.lo, h.up⟩
theorem SK.row (h : SK w0 g ca n cap B gy gz cs r p X c k wr) (hc : ∀ x, ca = some x → x.block < w0.heap.size) (cs' : Array Value) : SK w0 g ca n cap B gy gz cs' r p X c k (wr.setRow gy cs') :=
 ⟨h.x.top hc (fun c hc => setRow_other _ _ _ _ hc) (setRow_heap _ _ _ cs' _ _ h.box) (ay (Below.refl _ _) (h.x.x _ (.head _)).2 _) (fun u hu => by
  simp only [List.mem_cons, List.not_mem_nil, or_false] at hu;subst hu;have := h.lo;have := h.up;show gz ≠ gy
  omega), h.h.same fun b hb hlt h8 => setRow_other _ _ _ _ (fun e => by
   have e : b = gy := e;subst e;have := h.c9
   omega), h.c9, h.lo, h.up⟩
theorem SK.to (h : SK w0 g ca n cap B gy gz cs r p X c k wr) (h' : aG B wr r' p' X' c') (h9 : c' gy = 9) : SK w0 g ca n cap B gy gz cs r' p' X' c' k wr := ⟨h.x, h', h9, h.lo, h.up⟩
theorem SK.as (h : SK w0 g ca n cap B gy gz cs r p X c k wr) {cs' : Array Value} (e : cs = cs') : SK w0 g ca n cap B gy gz cs' r p X c k wr := e ▸ h
theorem SK.fin (h : SK w0 g ca n cap B gy gz cs r p X c k wr) (e : cs = au r p) : SK w0 g ca n cap B gy gz (au r p) r p X c k wr := e ▸ h
theorem SK.fresh (h : SK w0 g ca n cap B gy gz cs r p X c k wr) : SK w0 g ca n cap B gy gz cs r p X (dm wr.heap.size c) k wr := h.to h.h.fresh ((bn h.box.lt).trans h.c9)
/-- a list grows: the box stays -/
theorem SK.grown (h : SK w0 g ca n cap B gy gz cs r p X c k w6) {t : Nat} {e : TypeId} {kk : Nat} {a a' : Option Addr} {nn cc : Nat} {xs : List Value} (hr : aO B w6 c t e kk a nn cc xs) (ht : t ≠ 9) (hg : w6.grownBy w7 (Value.slice a nn cc).ownBlock) (hn : dP w6 a a') (hc : ∀ x, ca = some x → x.block < w0.heap.size) {u : Nat} (h' : aG B w7 r' p' X' (dM a' u c)) : SK w0 g ca n cap B gy gz cs r' p' X' (dM a' u c) k w7 := by
 have own : ∀ b, (Value.slice a nn cc).ownBlock = some b → ∃ x, a = some x ∧ x.block = b := fun b e => by
  cases ha : a with
  | none => rw [ha] at e; simp [Value.ownBlock] at e
  | some x => rw [ha] at e; simp only [Value.ownBlock, Option.some.injEq] at e; exact ⟨x, rfl, e⟩
 have lo := h.lo;have up := h.up;have lz := h.lz;have ne : ∀ x, a = some x → x.block ≠ gy := fun x hx e => by
  have := hr.col x hx;rw [e, h.c9] at this;exact ht this.symm
 have hB : Below w0.heap.size w6 w7 := below_grow (Below.refl _ _) hg (fun jj hjj => by
  obtain ⟨x, hx, e⟩ := own jj hjj;have := (hr.lt x hx).1
  omega) h.x.w.size
 refine ⟨⟨h.x.a.low h.x.l hc hB, h.x.w.below hB, fun u hu => ⟨(hg.block _ (h.x.x u hu).1.lt (fun e => ?_)).trans (h.x.x u hu).1, (h.x.x u hu).2⟩, h.x.l⟩, h', ?_, h.lo, h.up⟩
 ·obtain ⟨x, hx, e⟩ := own _ e.symm;have h1 := (hr.lt x hx).1;simp only [List.mem_cons, List.not_mem_nil, or_false] at hu;rcases hu with rfl | rfl
  ·exact ne x hx e
  ·have e : x.block = gz := e;omega
 ·rw [eQ, h.c9];intro x hx e;rcases hn x hx with ⟨y, hy, e2⟩ | hnew
  ·exact ne y hy (e2.trans e)
  ·have := h.box.lt;omega
theorem SK.far (h : SK w0 g ca n cap B gy gz cs r p X c k w6) {t : Nat} {e : TypeId} {kk : Nat} {a : Option Addr} {nn cc : Nat} {xs : List Value} (hr : aO B w6 c t e kk a nn cc xs) (hg : w6.grownBy w7 (Value.slice a nn cc).ownBlock) {b : Nat} {is : Array Value} {T : TypeId} (hb : aC w6 b is T) (hc : c b ≠ t) : aC w7 b is T :=
 (hg.block b hb.lt (fun e => by
  cases ha : a with
  | none => rw [ha] at e; simp [Value.ownBlock] at e
  | some x => rw [ha] at e; simp only [Value.ownBlock, Option.some.injEq] at e; exact hc (e ▸ hr.col x ha))).trans hb
theorem Jj {b : Nat} {v : Value} (h : aC w b #[v] 3) (hB : B ≤ b) : w.ownsRow B 3 1 (.slice (some ⟨b, 0, none⟩) 1 1) 1 [v] :=
 ⟨by simp, .inr ⟨b, 1, #[v], rfl, hB, h, Nat.le_refl _, by unfold maxLen; omega, by simp, by simp⟩⟩
theorem lC {α : Type} {P : α → Prop} {l : List α} {x : α} (h : ∀ (i : Nat) s, l[i]? = some s → P s) (hx : P x) : ∀ (i : Nat) s, (l ++ [x])[i]? = some s → P s := fun i s hs => by
 rcases List.mem_append.1 (List.mem_of_getElem? hs) with hm | hm
 ·obtain ⟨j, hj⟩ := List.getElem?_of_mem hm;exact h j s hj
 ·simp only [List.mem_cons, List.not_mem_nil, or_false] at hm;subst hm;exact hx
theorem aG.KG (h : aG B wr r p X c) {a' : Option Addr} {c' : Nat} {l : List ByteArray} (hg : wr.grownBy w' (Value.slice p.aW r.wish.length p.cW).ownBlock) (ho : w'.ownsRow B 9 1 (.slice a' l.length c') l.length (fH l)) (hn : dP wr p.aW a') (hl : fJ okS l) :
  aG B w' { r with wish := l } { p with aW := a', cW := c' } X (dM a' 3 c) :=
 ⟨h.s.grown h.t.col (by decide) hg hn, h.d.grown h.t.col (by decide) hg hn, h.h.grown h.t.col (by decide) hg hn, h.hm, ⟨fun m hm => (h.hi.row m hm).grown h.t.col (by decide) hg hn, h.hi.apart⟩, ⟨ho, fun x hx => iL hx⟩, h.y.grown h.t.col (by decide) hg hn, h.b.grown h.t.col (by decide) hg hn, h.a.grown h.t.col (by decide) hg hn, h.am, ⟨fun m hm => (h.ai.row m hm).grown h.t.col (by decide) hg hn, h.ai.apart⟩, ⟨h.gd.s, h.gd.d, h.gd.h, hl, h.gd.y, h.gd.b, h.gd.a⟩⟩
/-- how long the lists of a recorder that is spoilt are -/
structure KD (r : Rc) : Prop where
 s : r.ss.length ≤ 60
 d : r.ds.length ≤ 60
 h : r.held.length ≤ 1000
 t : r.wish.length ≤ 1000
 y : r.yes.length ≤ 1000
 b : r.best.length ≤ 1000
 a : r.acks.length ≤ 1000
 sm : bD r
theorem Iw (v : VR r) : KD r := by
 have hv := qf (fA.2 v);have s := v.s.lk.n;have d := v.d.lk.n;have h := v.h.n;have w := v.w.n;exact ⟨by omega, by omega, by omega, by omega, by omega, by omega, by omega, lu v⟩
theorem KD.small (h : KD r) (r' : Rc) (e1 : r'.ss.length ≤ r.ss.length + 100 := by exact Nat.le_add_right _ _) (e2 : r'.ds.length ≤ r.ds.length + 100 := by exact Nat.le_add_right _ _) (e3 : r'.held.length ≤ r.held.length + 1 := by exact Nat.le_add_right _ _) (e4 : r'.wish.length ≤ r.wish.length + 1 := by exact Nat.le_add_right _ _) (e5 : r'.yes.length ≤ r.yes.length + 1 := by exact Nat.le_add_right _ _) (e6 : r'.best.length ≤ r.best.length + 1 := by exact Nat.le_add_right _ _) (e7 : r'.acks.length ≤ r.acks.length + 1 := by exact Nat.le_add_right _ _) (e8 : jw r.held → jw r'.held := by exact id) (e9 : jL r.acks → jL r'.acks := by exact id) : bD r' := by
 have a1 := h.s;have a2 := h.d;have a3 := h.h;have a4 := h.t;have a5 := h.y;have a6 := h.b;have a7 := h.a;exact ⟨by omega, by omega, by omega, by omega, by omega, by omega, by omega, e8 h.sm.nH, e9 h.sm.nA⟩
theorem Fa (a b : List Int) : aV (a ++ b) = aV a ++ aV b := List.map_append
theorem Ff (a b : List ByteArray) : fH (a ++ b) = fH a ++ fH b := List.map_append
abbrev MR (m : gq) : Mp := ((m, []), none, 0)
abbrev Le (u v : Int) (f : Nat) : Ap := ((u, [v]), some ⟨f, 0, none⟩, 1)
theorem jv {cs : Array Value} {m : Nat} (h : cs.size = m) : aN (w.alloc (.cells cs T)) (some ⟨w.heap.size, 0, none⟩) 1 1 m cs.toList :=
 ⟨by simp [h], fun e => by simp at e, fun y hy => by
  simp only [Option.some.injEq] at hy;subst hy
  exact ⟨rfl, dG (cs := cs.toList) (aC.new _ _ _)⟩⟩
/-- a new row: its block has no colour -/
theorem SK.new (h : SK w0 g ca n cap B gy gz cs r p X c k wr) (es : Array Value) (T : TypeId) : ∃ v f, v = wr.alloc (.cells es T) ∧ SK w0 g ca n cap B gy gz cs r p X f k v ∧ aC v wr.heap.size es T ∧ f wr.heap.size = 9 ∧ g < wr.heap.size ∧ (∀ b, b < wr.heap.size → f b = c b) ∧ Below wr.heap.size wr v :=
 ⟨_, dm wr.heap.size c, rfl, h.fresh.ext (ae (Below.refl _ _) _), aC.new _ _ _, bI (Nat.le_refl _), h.x.a.k.lt, fun _ hb => bn hb, ae (Below.refl _ _) _⟩
section
variable {a7 : Option Addr} {c7 : Nat}
theorem SK.MM (h : SK w0 g ca n cap B gy gz cs r p X c k w6) (hc : ∀ x, ca = some x → x.block < w0.heap.size) {u : ByteArray} (q1 : w7.ownsRow B 9 1 (.slice a7 (r.wish.length + 1) c7) (r.wish.length + 1) (fH r.wish ++ [.string u])) (q2 : w6.grownBy w7 (Value.slice p.aW r.wish.length p.cW).ownBlock) (q3 : dP w6 p.aW a7) (hu : u.size ≤ 1000) : SK w0 g ca n cap B gy gz cs { r with wish := r.wish ++ [u] } { p with aW := a7, cW := c7 } X (dM a7 3 c) k w7 :=
 h.grown h.h.t (by decide) q2 q3 hc (h.h.KG q2 (by rw [List.length_append, Ff]; exact q1) q3 (lC h.h.gd.t (by show u.size ≤ maxLen; unfold maxLen; omega)))
theorem SK.Nl (h : SK w0 g ca n cap B gy gz cs r p X c k w6) (hc : ∀ x, ca = some x → x.block < w0.heap.size) {u : Int} (q1 : w7.ownsRow B 3 1 (.slice a7 (r.yes.length + 1) c7) (r.yes.length + 1) (aV r.yes ++ [.int .i64 u])) (q2 : w6.grownBy w7 (Value.slice p.aY r.yes.length p.cY).ownBlock) (q3 : dP w6 p.aY a7) (h0 : -1 ≤ u) (h1 : u ≤ 2000000) : SK w0 g ca n cap B gy gz cs { r with yes := r.yes ++ [u] } { p with aY := a7, cY := c7 } X (dM a7 4 c) k w7 :=
 h.grown h.h.y (by decide) q2 q3 hc (h.h.J4 q2 (by rw [List.length_append, Fa]; exact q1) q3 (lC h.h.gd.y (oz h0 h1)))
theorem SK.Kr (h : SK w0 g ca n cap B gy gz cs r p X c k w6) (hc : ∀ x, ca = some x → x.block < w0.heap.size) {u : Sl} (q1 : w7.ownsRow B 43 2 (.slice a7 (r.best.length + 1) c7) (r.best.length + 1) (flat r.best ++ [.int .i64 u.1, .string u.2])) (q2 : w6.grownBy w7 (Value.slice p.aB r.best.length p.cB).ownBlock) (q3 : dP w6 p.aB a7) (h0 : -1 ≤ u.1) (h1 : u.1 ≤ 2000000) (hu : u.2.size ≤ 1000) : SK w0 g ca n cap B gy gz cs { r with best := r.best ++ [u] } { p with aB := a7, cB := c7 } X (dM a7 5 c) k w7 :=
 h.grown h.h.b (by decide) q2 q3 hc (h.h.JX q2 (by rw [List.length_append, lm]; exact q1) q3 (lC h.h.gd.b ⟨by unfold maxLen; omega, oz h0 h1⟩))
theorem SK.appH (h : SK w0 g ca n cap B gy gz cs r p X c k w6) (hc : ∀ x, ca = some x → x.block < w0.heap.size) {m : gq} (q1 : w7.ownsRow B 49 8 (.slice a7 (r.held.length + 1) c7) (r.held.length + 1) (bZ X.H ++ (bU m (.slice none 0 0)).toList)) (q2 : w6.grownBy w7 (Value.slice p.aH r.held.length p.cH).ownBlock) (q3 : dP w6 p.aH a7) (hx : m.x.size ≤ 1000) : SK w0 g ca n cap B gy gz cs { r with held := (X.H ++ [MR m]).map (·.1) } { p with aH := a7, cH := c7 } ⟨X.H ++ [MR m], X.A⟩ (dM a7 2 c) k w7 :=
 h.grown h.h.h (by decide) q2 q3 hc (h.h.GV (l := X.H ++ [MR m]) q2 (by rw [show (X.H ++ [MR m]).length = r.held.length + 1 by rw [← h.h.hm]; simp, oh]; exact q1) q3 (fun m hm => by
  rcases List.mem_append.1 hm with hm | hm
  ·exact h.h.hi.row m hm
  ·simp only [List.mem_cons, List.not_mem_nil, or_false] at hm;subst hm
   exact dV _ _ _ _ _ _) (List.pairwise_append.2 ⟨h.h.hi.apart, by simp, fun a ha b hb x x' hx hx' => by simp only [List.mem_cons, List.not_mem_nil, or_false] at hb; subst hb; simp at hx'⟩) (by rw [List.map_append, h.h.hm]; exact lC h.h.gd.h ⟨by show m.x.size ≤ maxLen; unfold maxLen; omega, by show (0 : Nat) ≤ maxLen; omega, fun i s hs => by simp at hs⟩))
/-- one KI more: its row of one number lies in a block f without a colour -/
theorem SK.I4 (h : SK w0 g ca n cap B gy gz cs r p X c k w6) (hc : ∀ x, ca = some x → x.block < w0.heap.size) {u v : Int} {f : Nat} (hf : aC w6 f #[.int .i64 v] 3) (hB : B ≤ f) (h9 : c f = 9) (ng : f ≠ gy) (q1 : w7.ownsRow B 69 2 (.slice a7 (r.acks.length + 1) c7) (r.acks.length + 1) (bi X.A ++ [.int .i64 u, .slice (some ⟨f, 0, none⟩) 1 1])) (q2 : w6.grownBy w7 (Value.slice p.aA r.acks.length p.cA).ownBlock) (q3 : dP w6 p.aA a7) (h0 : -1 ≤ u) (h1 : u ≤ 2000000) (h2 : -1 ≤ v) (h3 : v ≤ 2000000) : SK w0 g ca n cap B gy gz cs { r with acks := (X.A ++ [Le u v f]).map (·.1) } { p with aA := a7, cA := c7 } ⟨X.H, X.A ++ [Le u v f]⟩ (dM a7 6 (dM (some ⟨f, 0, none⟩) 8 c)) k w7 := by
 have hp : aG B w6 r p X (dM (some ⟨f, 0, none⟩) 8 c) := h.h.kG (fun x hx => by simp only [Option.some.injEq] at hx; subst hx; rw [show c (⟨f, 0, none⟩ : Addr).block = 9 from h9]; omega);have h8 := h.to hp (by rw [eQ]; exact h.c9; intro x hx; simp only [Option.some.injEq] at hx; subst hx; exact ng);refine h8.grown h8.h.a (by decide) q2 q3 hc (h8.h.KR (l := X.A ++ [Le u v f]) q2 (by rw [show (X.A ++ [Le u v f]).length = r.acks.length + 1 by rw [← h.h.am]; simp, dJ]; exact q1) q3 (fun m hm => ?_) (List.pairwise_append.2 ⟨h.h.ai.apart, by simp, fun a ha b hb x x' hx hx' e => ?_⟩) (by rw [List.map_append, h.h.am]; exact lC h.h.gd.a ⟨oz h0 h1, by show (1 : Nat) ≤ maxLen; unfold maxLen; omega, fun i s hs => by have h7 := List.mem_of_getElem? hs; simp only [Le, List.mem_cons, List.not_mem_nil, or_false] at h7; subst h7; exact oz h2 h3⟩))
 ·rcases List.mem_append.1 hm with hm | hm
  ·exact h8.h.ai.row m hm
  ·simp only [List.mem_cons, List.not_mem_nil, or_false] at hm;subst hm;exact ⟨Jj hf hB, fun x hx => iL hx⟩
 ·simp only [List.mem_cons, List.not_mem_nil, or_false] at hb;subst hb;simp only [Option.some.injEq] at hx';subst hx';have h7 := (h.h.ai.row a ha).col x hx;rw [e, show c (⟨f, 0, none⟩ : Addr).block = 9 from h9] at h7;omega
end
theorem Dt {m : Mp} (hm : X.H.map (·.1) = r.held) : ((X.H ++ [m]).map (·.1)).length = r.held.length + 1 := by rw [← hm]; simp
theorem AZ {m : Ap} (hm : X.A.map (·.1) = r.acks) : ((X.A ++ [m]).map (·.1)).length = r.acks.length + 1 := by rw [← hm]; simp
theorem KD.BH {m : Mp} (h : KD r) (hm : X.H.map (·.1) = r.held) (hx : m.1.2.length ≤ 1048576) : bD { r with held := (X.H ++ [m]).map (·.1) } :=
 h.small _ (e3 := Nat.le_of_eq (Dt hm)) (e8 := fun h => by show jw ((X.H ++ [m]).map (·.1)); rw [List.map_append, hm]; exact lC h hx)
theorem KD.zG {m : Ap} (h : KD r) (hm : X.A.map (·.1) = r.acks) (hx : m.1.2.length ≤ 1048576) : bD { r with acks := (X.A ++ [m]).map (·.1) } :=
 h.small _ (e7 := Nat.le_of_eq (AZ hm)) (e9 := fun h => by show jL ((X.A ++ [m]).map (·.1)); rw [List.map_append, hm]; exact lC h hx)
theorem Fj.Lh {l : List Sl} (h : Fj l) : Cc l := fun s hs => by
 have k := h.s s hs;have := k.b0;have := k.b1;have := k.t;exact ⟨by omega, by omega, by omega⟩
theorem i3 (x y z : Int) (v : Nat) (hv : v < 3) : ∃ u : Int, (#[.int .i64 x, .int .i64 y, .int .i64 z] : Array Value)[v]? = some (.int .i64 u) := by
 have h : v = 0 ∨ v = 1 ∨ v = 2 := by omega
 rcases h with rfl | rfl | rfl
 ·exact ⟨_, rfl⟩
 ·exact ⟨_, rfl⟩
 ·exact ⟨_, rfl⟩
theorem i4 (x y z t : Int) (v : Nat) (hv : v < 4) : ∃ u : Int, (#[.int .i64 x, .int .i64 y, .int .i64 z, .int .i64 t] : Array Value)[v]? = some (.int .i64 u) ∧ (u = x ∨ u = y ∨ u = z ∨ u = t) := by
 have h : v = 0 ∨ v = 1 ∨ v = 2 ∨ v = 3 := by omega
 rcases h with rfl | rfl | rfl | rfl
 ·exact ⟨_, rfl, .inl rfl⟩
 ·exact ⟨_, rfl, .inr (.inl rfl)⟩
 ·exact ⟨_, rfl, .inr (.inr (.inl rfl))⟩
 ·exact ⟨_, rfl, .inr (.inr (.inr rfl))⟩
theorem t3 (v : Nat) (hv : v < 3) : ∃ u : ByteArray, (#[.string ⟨#[]⟩, .string ⟨#[116, 49]⟩, .string ⟨#[116, 50]⟩] : Array Value)[v]? = some (.string u) ∧ u.size ≤ 1000 := by
 have h : v = 0 ∨ v = 1 ∨ v = 2 := by omega
 rcases h with rfl | rfl | rfl
 ·exact ⟨_, rfl, by show (0 : Nat) ≤ 1000; omega⟩
 ·exact ⟨_, rfl, by show (2 : Nat) ≤ 1000; omega⟩
 ·exact ⟨_, rfl, by show (2 : Nat) ≤ 1000; omega⟩
theorem t2 (v : Nat) (hv : v < 2) : ∃ u : ByteArray, (#[.string ⟨#[]⟩, .string ⟨#[116]⟩] : Array Value)[v]? = some (.string u) ∧ u.size ≤ 1000 := by
 have h : v = 0 ∨ v = 1 := by omega
 rcases h with rfl | rfl
 ·exact ⟨_, rfl, by show (0 : Nat) ≤ 1000; omega⟩
 ·exact ⟨_, rfl, by show (1 : Nat) ≤ 1000; omega⟩
structure Sy (gy : Nat) (cs : Array Value) (w : World) : Prop where
 k : aC w gy cs 31
structure Sz (gy : Nat) (cs : Array Value) (gi : Nat) (is : Array Value) (T : TypeId) (w : World) : Prop where
 k : aC w gy cs 31
 i : aC w gi is T
theorem Sy.ext (h : Sy gy cs w) (hb : Below w.heap.size w w') : Sy gy cs w' := ⟨h.k.ext hb⟩
theorem Sz.ext {gi : Nat} {is : Array Value} (h : Sz gy cs gi is T w) (hb : Below w.heap.size w w') : Sz gy cs gi is T w' := ⟨h.k.ext hb, h.i.ext hb⟩
end Go.Proofs.Ytjdceoimignnpaa
