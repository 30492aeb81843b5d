import Derived.Test.YtjdceoimignnpaaF40
namespace Go.Proofs.Ytjdceoimignnpaa
open Go.ChangeShapes Go.WideShapes Go.ChangeAt Go.RowKit next
set_option linter.unusedVariables false
set_option linter.unusedSimpArgs false
variable {H H' : List Mp} {fl : List Ms} {rs : List Rc} {I J : List jF} {B g3 j : Nat} {d : Wd} {p p' : kV} {V w w' w2 w6 w7 wr : World}
/-- a world in memory that may be no ok world yet -/
structure Bq (B : Nat) (w : World) (rs : List Rc) (fl : List Ms) (fx : List Sl) (p : kV) (I : List jF) (H : List Mp) : Prop where
 li : I.length = rs.length
 row : w.ownsRow B 31 18 (.slice p.aR rs.length p.cR) rs.length (fG rs I)
 rc : ∀ (i : Nat) r q, rs[i]? = some r → I[i]? = some q → aG B w r q.p q.X q.c ∧ (∀ x, p.aR = some x → 8 < q.c x.block) ∧ (∀ x, p.aF = some x → 8 < q.c x.block)
 fm : H.map (·.1) = fl
 fr : iJ B w p.aF H p.cF
 fi : ∀ q ∈ H, aO B w (fun _ => 0) 0 43 2 q.2.1 q.1.2.length q.2.2 (flat q.1.2)
 fx : aO B w (fun _ => 0) 0 137 2 p.aX fx.length p.cX (flat fx)
theorem Bq.wm {fx : List Sl} (h : Bq B w rs fl fx p I H) (ok : gp ⟨rs, fl, fx⟩ = true) : WM B w ⟨rs, fl, fx⟩ p I H := ⟨h.li, h.row, h.rc, h.fm, h.fr, h.fi, h.fx, ok⟩
theorem WM.low {B' : Nat} (h : WM B w d p I H) (hB : B' ≤ B) : WM B' w d p I H :=
 ⟨h.li, ((aO.mk h.row (fun _ _ => rfl) : aO B w (fun _ => 0) 0 31 18 p.aR d.recs.length p.cR (fG d.recs I)).low hB).own, fun i r q hr hq => ⟨(h.rc i r q hr hq).1.lower hB, (h.rc i r q hr hq).2⟩, h.fm, aO.low h.fr hB, fun q hq => (h.fi q hq).low hB, h.fx.low hB, h.ok⟩
theorem Bq.ext {fx : List Sl} (h : Bq B w rs fl fx p I H) (hb : Below w.heap.size w w') : Bq B w' rs fl fx p I H :=
 ⟨h.li, zT h.row fun b _ hlt => hb.block b hlt, fun i r q hr hq => ⟨(h.rc i r q hr hq).1.ext hb, (h.rc i r q hr hq).2⟩, h.fm, aO.ext h.fr hb, fun q hq => (h.fi q hq).ext hb, h.fx.ext hb⟩
theorem Bq.lt {fx : List Sl} (h : Bq B w rs fl fx p I H) : ∀ x, p.aR = some x → B ≤ x.block ∧ x.block < w.heap.size := (aO.mk h.row (fun _ _ => rfl) : aO B w (fun _ => 0) 0 31 18 p.aR rs.length p.cR (fG rs I)).lt
theorem yw : ∀ (l : List Rc) (I : List jF) (r : Rc) (q : jF), I.length = l.length → fG (l ++ [r]) (I ++ [q]) = fG l I ++ (au r q.p).toList
 | [], [], r, q, _ => by simp [fG]
 | [], _ :: _, _, _, h => by simp at h
 | _ :: _, [], _, _, h => by simp at h
 | a :: l, b :: I, r, q, h => by
  simp only [List.cons_append, fG, yw l I r q (by simpa using h), List.append_assoc]
theorem Bq.box {fx : List Sl} (h : Bq B w rs fl fx p I H) {g : Nat} {cs : Array Value} (hk : aC w g cs 116) (hc : ∀ q ∈ I, 8 < q.c g) (hs : ∀ b, b ≠ g → w'.heap[b]? = w.heap[b]?) : Bq B w' rs fl fx p I H := by
 have rr : aO B w (fun _ => 0) 0 31 18 p.aR rs.length p.cR (fG rs I) := aO.mk h.row (fun _ _ => rfl);exact ⟨h.li, (rr.same fun x hx => hs _ (rr.ne hk (by decide) x hx)).own, fun i r q hr hq => ⟨(h.rc i r q hr hq).1.same fun b hB hlt h8 => hs b (fun e => by have := hc q (List.mem_of_getElem? hq); rw [e] at h8; omega), (h.rc i r q hr hq).2⟩, h.fm, h.fr.same fun x hx => hs _ (aO.ne h.fr hk (by decide) x hx), fun q hq => (h.fi q hq).same fun x hx => hs _ ((h.fi q hq).ne hk (by decide) x hx), h.fx.same fun x hx => hs _ (h.fx.ne hk (by decide) x hx)⟩
/-- a recorder more, made from block A on -/
theorem Bq.grow {A : Nat} {fx : List Sl} (h : Bq B w rs fl fx p I H) {r : Rc} {pr : fU} {Xr : iU} {cr : Nat → Nat} (hr : aG A w r pr Xr cr) (hBA : B ≤ A) (hR : ∀ x, p.aR = some x → x.block < A) (hF : ∀ x, p.aF = some x → x.block < A) {a' : Option Addr} {c' : Nat}
  (ho : w'.ownsRow B 31 18 (.slice a' (rs.length + 1) c') (rs.length + 1) (fG rs I ++ (au r pr).toList)) (hg : w.grownBy w' (Value.slice p.aR rs.length p.cR).ownBlock) (hn : dP w p.aR a') :
  Bq B w' (rs ++ [r]) fl fx { p with aR := a', cR := c' } (I.map (gJ w.heap.size) ++ [⟨pr, Xr, dm w.heap.size (under A cr)⟩]) H := by
 have hs : ∀ b, b < w.heap.size → (∀ x, p.aR = some x → b ≠ x.block) → w'.heap[b]? = w.heap[b]? := fun b hlt hne => hg.block b hlt (fun e => by
  cases ha : p.aR with
  | none => rw [ha] at e; simp [Value.ownBlock] at e
  | some x => rw [ha] at e; simp only [Value.ownBlock, Option.some.injEq] at e; exact hne x ha e)
 have rr : aO B w (fun _ => 0) 0 31 18 p.aR rs.length p.cR (fG rs I) := aO.mk h.row (fun _ _ => rfl);have ne : ∀ {T : TypeId} {g : Nat} {cs : Array Value}, aC w g cs T → 31 ≠ T → ∀ x, p.aR = some x → g ≠ x.block := fun hk t x hx e => rr.ne hk t x hx e.symm
 have rs' : ∀ {T : TypeId} {k : Nat} {a : Option Addr} {n c : Nat} {xs : List Value}, aO B w (fun _ => 0) 0 T k a n c xs → 31 ≠ T → aO B w' (fun _ => 0) 0 T k a n c xs := fun hr t => by
  refine hr.same fun x hx => hs _ (hr.lt x hx).2 ?_
  rcases hr.form with ⟨e, _⟩ | ⟨g, cur, e, _, hb, _⟩
  ·rw [hx] at e; simp at e
  ·rw [hx] at e;simp only [Option.some.injEq] at e;subst e;exact ne hb t
 have hli : (I.map (gJ w.heap.size)).length = rs.length := by rw [List.length_map]; exact h.li
 refine ⟨by simp [h.li], ?_, fun i s u hs2 hu => ?_, h.fm, rs' h.fr (by decide), fun u hu => rs' (h.fi u hu) (by decide), rs' h.fx (by decide)⟩
 ·rw [yw _ _ _ _ hli, qF, List.length_append];exact ho
 ·by_cases hi : i < rs.length
  ·rw [List.getElem?_append_left hi] at hs2;rw [List.getElem?_append_left (by omega), List.getElem?_map, Option.map_eq_some_iff] at hu;obtain ⟨u0, h0, rfl⟩ := hu;have k := h.rc i s u0 hs2 h0;refine ⟨k.1.fresh.same fun b hB hlt h8 => hs b hlt (fun x hx e => ?_), fun x hx => ?_, fun x hx => ?_⟩
   ·have h9 : dm w.heap.size u0.c b ≤ 8 := h8;rw [bn hlt, e] at h9;have := k.2.1 x hx;omega
   ·show 8 < dm w.heap.size u0.c x.block;rcases hn x hx with ⟨y, hy, e⟩ | hnew
    ·rw [← e, bn (rr.lt y hy).2];exact k.2.1 y hy
    ·rw [bI hnew]; omega
   ·show 8 < dm w.heap.size u0.c x.block;rw [bn (aO.lt h.fr x hx).2];exact k.2.2 x hx
  ·have hi2 : i = rs.length := by
    have := (List.getElem?_eq_some_iff.1 hs2).1;simp at this;omega
   subst hi2;rw [List.getElem?_append_right (Nat.le_refl _), Nat.sub_self, List.getElem?_cons_zero, Option.some.injEq] at hs2;rw [List.getElem?_append_right (by omega), hli, Nat.sub_self, List.getElem?_cons_zero, Option.some.injEq] at hu;subst hs2 hu;have k := (hr.down hBA).fresh;refine ⟨k.same fun b hB hlt h8 => hs b hlt (fun x hx e => ?_), fun x hx => ?_, fun x hx => ?_⟩
   ·have h9 : dm w.heap.size (under A cr) b ≤ 8 := h8;rw [bn hlt, e, iT (hR x hx)] at h9;omega
   ·show 8 < dm w.heap.size (under A cr) x.block;rcases hn x hx with ⟨y, hy, e⟩ | hnew
    ·rw [← e, bn (rr.lt y hy).2, iT (hR y hy)]; omega
    ·rw [bI hnew]; omega
   ·show 8 < dm w.heap.size (under A cr) x.block;rw [bn (aO.lt h.fr x hx).2, iT (hF x hx)]; omega
/-- the copy's loop: j recorders have been copied -/
structure Fh (V : World) (d : Wd) (j g3 : Nat) (p' : kV) (J : List jF) (H' : List Mp) (wr : World) : Prop where
 m : Bq V.heap.size wr (d.recs.take j) d.fl d.fx p' J H'
 o : aC wr g3 #[.slice p'.aR j p'.cR, .slice p'.aF d.fl.length p'.cF, .slice p'.aX d.fx.length p'.cX] 116
 l : (d.recs.take j).length = j
 g : V.heap.size ≤ g3
 c : ∀ q ∈ J, 8 < q.c g3
 b : Below V.heap.size V wr
theorem Fh.ext (h : Fh V d j g3 p' J H' wr) (hb : Below wr.heap.size wr w2) : Fh V d j g3 p' J H' w2 :=
 ⟨h.m.ext hb, h.o.ext hb, h.l, h.g, h.c, aj h.b hb⟩
theorem Fh.mid (h : Fh V d j g3 p' J H' w6) (hg : w6.grownBy w7 (Value.slice p'.aR j p'.cR).ownBlock) : aC w7 g3 #[.slice p'.aR j p'.cR, .slice p'.aF d.fl.length p'.cF, .slice p'.aX d.fx.length p'.cX] 116 ∧ Below V.heap.size V w7 := by
 have rr : aO V.heap.size w6 (fun _ => 0) 0 31 18 p'.aR (d.recs.take j).length p'.cR (fG (d.recs.take j) J) := aO.mk h.m.row (fun _ _ => rfl);refine ⟨(hg.block _ h.o.lt (fun e => ?_)).trans h.o, below_grow h.b hg (fun jj hjj => ?_) h.b.size⟩
 ·cases ha : p'.aR with
  | none => rw [ha] at e; simp [Value.ownBlock] at e
  | some x => rw [ha] at e; simp only [Value.ownBlock, Option.some.injEq] at e; exact rr.ne h.o (by decide) x ha e.symm
 ·cases ha : p'.aR with
  | none => rw [ha] at hjj; simp [Value.ownBlock] at hjj
  | some x => rw [ha] at hjj; simp only [Value.ownBlock, Option.some.injEq] at hjj; rw [← hjj]; exact (rr.lt x ha).1
theorem Fh.row (h : Fh V d j g3 p' J H' wr) : wr.ownsRow V.heap.size 31 18 (.slice p'.aR j p'.cR) j (fG (d.recs.take j) J) := by
 have := h.m.row;rw [h.l] at this;exact this
theorem take_succ' {α : Type} {l : List α} {j : Nat} {r : α} (h : l[j]? = some r) : l.take (j + 1) = l.take j ++ [r] := by rw [List.take_add_one, h]; rfl
theorem Fh.step {w5 : World} (h : Fh V d j g3 p' J H' wr) {r : Rc} (hr : d.recs[j]? = some r) (hb : Below wr.heap.size wr w5) {pr : fU} {Xr : iU} {cr : Nat → Nat} (h5 : aG wr.heap.size w5 r pr Xr cr) (h6 : Below w5.heap.size w5 w6) {a' : Option Addr} {c' : Nat}
  (ho : w7.ownsRow V.heap.size 31 18 (.slice a' (j + 1) c') (j + 1) (fG (d.recs.take j) J ++ (au r pr).toList)) (hg : w6.grownBy w7 (Value.slice p'.aR j p'.cR).ownBlock) (hn : dP w6 p'.aR a') :
  ∃ J2, Fh V d (j + 1) g3 { p' with aR := a', cR := c' } J2 H' (w7.setCell ⟨g3, 0, none⟩ (.slice a' (j + 1) c')) := by
 have k6 := h.ext (aj hb h6);have m7 := k6.m.grow (h5.ext h6) h.b.size (fun x hx => (h.m.lt x hx).2) (fun x hx => (aO.lt h.m.fr x hx).2) (by rw [h.l]; exact ho) (by rw [h.l]; exact hg) hn;obtain ⟨o7, b7⟩ := k6.mid hg;rw [← take_succ' hr] at m7;have g6 : g3 < w6.heap.size := k6.o.lt;have g0 : g3 < wr.heap.size := h.o.lt;have cc : ∀ q ∈ J.map (gJ w6.heap.size) ++ [⟨pr, Xr, dm w6.heap.size (under wr.heap.size cr)⟩], 8 < q.c g3 := fun q hq => by
  rcases List.mem_append.1 hq with hq | hq
  ·obtain ⟨u0, h0, rfl⟩ := List.mem_map.1 hq;show 8 < dm w6.heap.size u0.c g3;rw [bn g6];exact h.c u0 h0
  ·simp only [List.mem_cons, List.not_mem_nil, or_false] at hq;subst hq;show 8 < dm w6.heap.size (under wr.heap.size cr) g3;rw [bn g6, iT g0];omega
 refine ⟨_, m7.box o7 cc (fun b hb => heap_setCell_other _ _ _ _ hb), o7.set (o := 0) (.slice a' (j + 1) c'), ?_, h.g, cc, b7.setCell h.g _⟩;rw [take_succ' hr, List.length_append, h.l];rfl
/-- the copy's first lists, in any order -/
structure C1 (V : World) (d : Wd) (f : Option (Nat × Nat × List Mp)) (x : Option (Option Addr × Nat × List Sl)) (o : Option Nat) (wr : World) : Prop where
 b : Below V.heap.size V wr
 f : ∀ g c H', f = some (g, c, H') → iJ V.heap.size wr (some ⟨g, 0, none⟩) H' c ∧ H'.map (·.1) = d.fl ∧ ∀ q ∈ H', aO V.heap.size wr (fun _ => 0) 0 43 2 q.2.1 q.1.2.length q.2.2 (flat q.1.2)
 x : ∀ a c l, x = some (a, c, l) → aO V.heap.size wr (fun _ => 0) 0 137 2 a l.length c (flat l)
 o : ∀ g, o = some g → aC wr g zW 116 ∧ V.heap.size ≤ g
theorem C1.ext {f : Option (Nat × Nat × List Mp)} {x : Option (Option Addr × Nat × List Sl)} {o : Option Nat} (h : C1 V d f x o wr) (hb : Below wr.heap.size wr w2) : C1 V d f x o w2 :=
 ⟨aj h.b hb, fun g c H' e => ⟨aO.ext (h.f g c H' e).1 hb, (h.f g c H' e).2.1, fun q hq => ((h.f g c H' e).2.2 q hq).ext hb⟩, fun a c l e => (h.x a c l e).ext hb, fun g e => ⟨(h.o g e).1.ext hb, (h.o g e).2⟩⟩
theorem C1.FH {x : Option (Option Addr × Nat × List Sl)} {o : Option Nat} (h : C1 V d none x o wr) (hb : Below wr.heap.size wr w2) {g c n : Nat} {H' : List Mp} (hr : aZ wr.heap.size w2.heap.size w2 49 8 (some ⟨g, 0, none⟩) n c (bZ H')) (hn : n = d.fl.length) (hm : H'.map (·.1) = d.fl) (hi : dR wr.heap.size w2.heap.size w2 H') : C1 V d (some (g, c, H')) x o w2 := by
 have k := h.ext hb;refine ⟨k.b, fun g' c' L e => ?_, k.x, k.o⟩;simp only [Option.some.injEq, Prod.mk.injEq] at e;obtain ⟨rfl, rfl, rfl⟩ := e;have hl : n = H'.length := by rw [hn, ← hm, List.length_map]
 subst hl;exact ⟨aO.low (aO.mk hr.own (fun _ _ => rfl)) h.b.size, hm, fun q hq => aO.low (aO.mk (hi.row q hq).own (fun _ _ => rfl)) h.b.size⟩
theorem C1.nil {f : Option (Nat × Nat × List Mp)} {o : Option Nat} (h : C1 V d f none o wr) : C1 V d f (some (some ⟨wr.heap.size, 0, none⟩, 0, [])) o (wr.alloc (.cells #[] 137)) := by
 have k := h.ext (ae (Below.refl _ _) (.cells #[] 137));refine ⟨k.b, k.f, fun a c l e => ?_, k.o⟩;simp only [Option.some.injEq, Prod.mk.injEq] at e;obtain ⟨rfl, rfl, rfl⟩ := e;exact ⟨⟨rfl, .inr ⟨wr.heap.size, 0, #[], rfl, h.b.size, aC.new _ _ _, Nat.le_refl _, Nat.zero_le _, rfl, rfl⟩⟩, fun _ _ => rfl⟩
theorem C1.box {f : Option (Nat × Nat × List Mp)} {x : Option (Option Addr × Nat × List Sl)} (h : C1 V d f x none wr) : C1 V d f x (some wr.heap.size) (wr.alloc (.cells zW 116)) := by
 have k := h.ext (ae (Below.refl _ _) (.cells zW 116));refine ⟨k.b, k.f, k.x, fun g e => ?_⟩;simp only [Option.some.injEq] at e;subst e;exact ⟨aC.new _ _ _, h.b.size⟩
theorem C1.app {f : Option (Nat × Nat × List Mp)} {o : Option Nat} {g c0 : Nat} (h : C1 V d f (some (some ⟨g, 0, none⟩, c0, [])) o wr) {a' : Option Addr} {c' n : Nat} (hn : n = d.fx.length) (ho : w2.ownsRow V.heap.size 137 2 (.slice a' n c') n (flat d.fx)) (hg : wr.grownBy w2 (some g)) : C1 V d f (some (a', c', d.fx)) o w2 := by
 subst hn;have hx := h.x _ _ _ rfl;have ne : ∀ {T : TypeId} {b : Nat} {cs : Array Value}, aC wr b cs T → 137 ≠ T → b ≠ g := fun hk t e => hx.ne hk t _ rfl e.symm
 have hs : ∀ b, b < wr.heap.size → b ≠ g → w2.heap[b]? = wr.heap[b]? := fun b hlt hne => hg.block b hlt (fun e => by simp only [Option.some.injEq] at e; exact hne e)
 have rs : ∀ {T : TypeId} {k : Nat} {a : Option Addr} {n c : Nat} {xs : List Value}, aO V.heap.size wr (fun _ => 0) 0 T k a n c xs → 137 ≠ T → aO V.heap.size w2 (fun _ => 0) 0 T k a n c xs := fun hr t => by
  refine hr.same fun x hx => hs _ (hr.lt x hx).2 ?_
  rcases hr.form with ⟨e, _⟩ | ⟨g, cur, e, _, hb, _⟩
  ·rw [hx] at e; simp at e
  ·rw [hx] at e;simp only [Option.some.injEq] at e;subst e;exact ne hb t
 refine ⟨below_grow h.b hg (fun jj hjj => by simp only [Option.some.injEq] at hjj; rw [← hjj]; exact (hx.lt _ rfl).1) h.b.size, fun g' c L e => ⟨rs (h.f g' c L e).1 (by decide), (h.f g' c L e).2.1, fun q hq => rs ((h.f g' c L e).2.2 q hq) (by decide)⟩, fun a c l e => ?_, fun b e => ⟨(hs _ (h.o b e).1.lt (ne (h.o b e).1 (by decide))).trans (h.o b e).1, (h.o b e).2⟩⟩;simp only [Option.some.injEq, Prod.mk.injEq] at e;obtain ⟨rfl, rfl, rfl⟩ := e;exact ⟨ho, fun _ _ => rfl⟩
theorem C1.done {g c cX : Nat} {aX : Option Addr} (h : C1 V d (some (g, c, H')) (some (aX, cX, d.fx)) (some g3) wr) : Fh V d 0 g3 ⟨none, 0, some ⟨g, 0, none⟩, c, aX, cX⟩ [] H' (wr.setRow g3 #[.slice none 0 0, .slice (some ⟨g, 0, none⟩) d.fl.length c, .slice aX d.fx.length cX]) := by
 obtain ⟨h1, h2, h3⟩ := h.f _ _ _ rfl;have h4 := h.x _ _ _ rfl;obtain ⟨h5, h6⟩ := h.o _ rfl;have m : Bq V.heap.size wr [] d.fl d.fx ⟨none, 0, some ⟨g, 0, none⟩, c, aX, cX⟩ [] H' := ⟨rfl, World.ownsRow_nil _ _ _ _, fun i r q hr => by simp at hr, h2, h1, h3, h4⟩
 exact ⟨by rw [List.take_zero]; exact m.box h5 (fun q hq => absurd hq (by simp)) (fun b hb => setRow_other _ _ _ _ hb), setRow_heap _ g3 _ _ _ _ h5, rfl, h6, fun q hq => absurd hq (by simp), ay h.b h6 _⟩
def Nj (V : World) (d : Wd) (p : kV) (g : Nat) (a a' : Act) (w' : World) : Prop :=
 ∃ g3 gF cF H' g8 aX cX, a' = ((((((((a.put (some 5) (.pointer (some ⟨g, 1, none⟩))).put (some 6) (.slice p.aF d.fl.length p.cF)).put (some 9) (.pointer (some ⟨g, 2, none⟩))).put (some 10) (.slice p.aX d.fx.length p.cX)).put (some 7) (.slice (some ⟨gF, 0, none⟩) d.fl.length cF)).put (some 8) (.slice (some ⟨g8, 0, none⟩) 0 0)).put (some 11) (.slice aX d.fx.length cX)).put (some 12) (.agg #[.slice none 0 0, .slice (some ⟨gF, 0, none⟩) d.fl.length cF, .slice aX d.fx.length cX])).put (some 3) (.pointer (some ⟨g3, 0, none⟩)) ∧ Fh V d 0 g3 ⟨none, 0, some ⟨gF, 0, none⟩, cF, aX, cX⟩ [] H' w'
end Go.Proofs.Ytjdceoimignnpaa
