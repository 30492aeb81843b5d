import Derived.Test.YtjdceoimignnpaaF31
namespace Go.Proofs.Ytjdceoimignnpaa
open Go.ChangeShapes Go.WideShapes Go.ChangeAt Go.RowKit next
set_option linter.unusedVariables false
set_option linter.unusedSimpArgs false
variable {num o : Int} {H : List Mp} {m : gq} {B k' n' xb : Nat} {c c' : Nat → Nat} {a a' : Option Addr} {r : Rc} {p : fU} {X : iU} {v v' v2 w : World}
theorem jA.Lt {n : Nat} (h : jA B v c a H n) {g : Nat} {cs : Array Value} (hk : aC v g cs 31) (hne : ∀ b, b ≠ g → v'.heap[b]? = v.heap[b]?) : jA B v' c a H n :=
 ⟨h.row.same fun x hx => hne _ (aO.ne h.row hk (by decide) x hx), ⟨fun m hm => (h.uP.row m hm).same fun y hy => hne _ ((h.uP.row m hm).ne hk (by decide) y hy), h.uP.apart⟩, h.ca, h.ci, h.gd⟩
theorem ry.step {x x' : Rc} {p' : fU} {X' : iU} {n : Nat} {v1 : World} (h : ry w xb x p X c a H n v) (hb : Below v.heap.size v v1) (has' : aG w.heap.size v1 x' p' X' c') (hc : ∀ b, b < v.heap.size → 8 < c b → 8 < c' b)
  (hk : aC v2 xb (au x' p') 31) (hne : ∀ b, b ≠ xb → v2.heap[b]? = v1.heap[b]?) (hbel : Below w.heap.size w v2) : ry w xb x' p' X' c' a H n v2 := by
 have cx' : 8 < c' xb := hc _ h.k.lt h.cx;have hx := h.hx;refine ⟨hk, (hne _ (by omega)).trans (h.z.ext hb), has'.same (fun b hB hlt h8 => hne b (fun e => by rw [e] at h8; omega)), cx', hc _ h.z.lt h.cz, hbel, ?_, h.hx⟩;exact jA.Lt (v := v1) (h.out.same (fun b hlt h8 => ⟨hb.block b hlt, hc b hlt h8⟩)) (h.k.ext hb) hne
/-- what was held is sent, and nothing is held -/
theorem ry.Kq {x : Rc} (h : ry w xb x p X c a [] 0 v) (gr : v.grownBy v2 (Value.slice a 0 0).ownBlock) (row : iJ w.heap.size v2 a' X.H n') (nw : dP v a a') :
  ry w xb { x with held := [] } { p with aH := some ⟨v2.heap.size, 0, none⟩, cH := 0 } ⟨[], X.A⟩ (dM (some ⟨v2.heap.size, 0, none⟩) 2 (dm v.heap.size (jJ c))) a' X.H n' ((v2.alloc (.cells #[] 49)).setCell ⟨xb, 9, none⟩ (.slice (some ⟨v2.heap.size, 0, none⟩) 0 0)) := by
 have hx := h.hx;have kl := h.k.lt;have gs := gr.size;have S := h.has.sent;have keep : ∀ {g : Nat} {cs : Array Value}, aC v g cs 31 → aC v2 g cs 31 := fun hk => (gr.block _ hk.lt (dC (aO.ne h.out.row hk (by decide)))).trans hk
 have ex : Below v2.heap.size v2 (v2.alloc (.cells #[] 49)) := ae (Below.refl _ _) _;have kb : aC (v2.alloc (.cells #[] 49)) xb (au x p) 31 := (keep h.k).ext ex;have big : ∀ b, b < v.heap.size → 8 < c b → 8 < dM (some ⟨v2.heap.size, 0, none⟩) 2 (dm v.heap.size (jJ c)) b := fun b hlt h8 => by
  rw [eQ (fun y hy e => by simp only [Option.some.injEq] at hy; rw [← hy] at e; have : v2.heap.size = b := e; omega), bn hlt];exact wJ h8
 have nota : ∀ y, a = some y → 8 < jJ c y.block := fun y hy => wJ (h.out.ca y hy)
 have has2 : aG w.heap.size v2 { x with held := [] } { p with aH := none, cH := 0 } ⟨[], X.A⟩ (dm v.heap.size (jJ c)) := h.has.JU.fresh.same (fun b hB hlt h8 => gr.block b hlt (dC fun y hy e => by
  have := nota y hy;rw [bn hlt] at h8;rw [e] at this
  omega))
 have has3 := (has2.jW (col' := dM (some ⟨v2.heap.size, 0, none⟩) 2 (dm v.heap.size (jJ c))) (fun b hlt => eQ (fun y hy e => by simp only [Option.some.injEq] at hy; rw [← hy] at e; have : v2.heap.size = b := e; omega))).ext ex;have has4 := has3.MO (l := []) (a' := some ⟨v2.heap.size, 0, none⟩) (c' := 0) (gI (k := 8) (aC.new _ _ _) (by have := h.bel.size; omega) (if_pos rfl)) ⟨fun m hm => absurd hm (by simp), List.Pairwise.nil⟩ (fun i s hs => by simp at hs);have out2 : jA w.heap.size v2 (dM (some ⟨v2.heap.size, 0, none⟩) 2 (dm v.heap.size (jJ c))) a' X.H n' := by
  have ne0 : ∀ q ∈ X.H, ∀ y, q.2.1 = some y → ∀ u, a = some u → u.block ≠ y.block := fun q hq y hy u hu e => by
   have h1 := (h.has.hi.row q hq).col y hy;have h2 := h.out.ca u hu;rw [e] at h2;omega
  refine ⟨row, ⟨fun q hq => (S.uP.row q hq).same fun y hy => gr.block _ ((S.uP.row q hq).lt y hy).2 (dC fun u hu => ne0 q hq y hy u hu), S.uP.apart⟩, fun u hu => ?_, fun q hq y hy => ⟨?_, fun u hu e => ?_⟩, S.gd⟩
  ·have hl := (row.lt u hu).2;rw [eQ (fun y hy e => by simp only [Option.some.injEq] at hy; rw [← hy] at e; have : v2.heap.size = u.block := e; omega)];rcases nw u hu with ⟨t, ht, e⟩ | h1
   ·rw [← e, bn (h.out.row.lt t ht).2]; exact nota t ht
   ·rw [bI h1]; omega
  ·have hl := ((S.uP.row q hq).lt y hy).2;rw [eQ (fun u hu e => by simp only [Option.some.injEq] at hu; rw [← hu] at e; have : v2.heap.size = y.block := e; omega), bn hl];exact (S.ci q hq y hy).1
  ·have hl := ((S.uP.row q hq).lt y hy).2;rcases nw u hu with ⟨t, ht, e2⟩ | h1
   ·exact ne0 q hq y hy t ht (e2.trans e)
   ·omega
 have cx' := big _ h.k.lt h.cx;have b2 : Below w.heap.size w v2 := h.bel.trans ⟨gr.os, gr.tape, gr.output, gr.size, fun b hlt => gr.block b (by have := h.bel.size; omega) (dC fun y hy e => by have := (h.out.row.lt y hy).1; omega)⟩;refine ⟨?_, ((keep h.z).ext ex).setCell (by simp; omega) _, (has4.like rfl rfl rfl rfl rfl rfl rfl).setCell (q := ⟨xb, 9, none⟩) cx' _, cx', big _ h.z.lt h.cz, bG (aj b2 ex) (show w.heap.size ≤ xb by omega) _, (out2.ext ex).cell kb _, h.hx⟩;have := kb.set (o := 9) (.slice (some ⟨v2.heap.size, 0, none⟩) 0 0);simpa [au] using this
/-- own rows of two kinds lie in two blocks -/
theorem aO.apart {B' : Nat} {col col' : Nat → Nat} {t t' : Nat} {e e' : TypeId} {k : Nat} {n c c' : Nat} {xs xs' : List Value} (h : aO B w col t e k a n c xs) (h' : aO B' w col' t' e' k' a' n' c' xs') (hne : e ≠ e') : ∀ x y, a = some x → a' = some y → x.block ≠ y.block := fun x y hx hy eq => by
 rcases h.own.2 with ⟨h0, _⟩ | ⟨g1, cap, cur, hv, _, hh, _⟩
 ·rw [hx] at h0; simp at h0
 rcases h'.own.2 with ⟨h0, _⟩ | ⟨g2, cap2, cur2, hv2, _, hh2, _⟩
 ·rw [hy] at h0; simp at h0
 rw [hx] at hv;rw [hy] at hv2;simp only [Value.slice.injEq, Option.some.injEq] at hv hv2;have h1 : x.block = g1 := by rw [hv.1]
 have h2 : y.block = g2 := by rw [hv2.1]
 have e2 : g2 = g1 := by omega
 rw [e2] at hh2;have h9 := hh.symm.trans hh2;simp only [Option.some.injEq, Obj.cells.injEq] at h9;exact hne h9.2.1
theorem lV (hx : m.x.size ≤ maxLen) : ∀ k, ∀ q ∈ ji num m k, ∃ m', q = bare m' ∧ m'.x.size ≤ maxLen
 | 0, q, hq => by simp [ji] at hq
 | k + 1, q, hq => by
  unfold ji at hq;split at hq
  ·exact lV hx k q hq
  ·rcases List.mem_append.1 hq with hq | hq
   ·exact lV hx k q hq
   ·simp only [List.mem_cons, List.not_mem_nil, or_false] at hq;exact ⟨_, hq, hx⟩
theorem yZ (hg : dE r.ds) : ∀ n, ∀ q ∈ rF r n, ∃ m', q = bare m' ∧ m'.x.size ≤ maxLen
 | 0, q, hq => by simp [rF] at hq
 | n + 1, q, hq => by
  unfold rF at hq;rcases List.mem_append.1 hq with hq | hq
  ·exact yZ hg n q hq
  ·refine lV ?_ _ q hq;show (r.ds.getD (r.dk.toNat + n) (0, ⟨#[]⟩)).2.size ≤ maxLen;rw [List.getD_eq_getElem?_getD];cases h0 : r.ds[r.dk.toNat + n]? with
   | none => exact Nat.zero_le _
   | some s => exact (hg _ s h0).1
theorem wQ (hg : dE r.ds) : ∀ q ∈ qJ r, ∃ m', q = bare m' ∧ m'.x.size ≤ maxLen := fun q hq => by
 unfold qJ at hq;rcases List.mem_append.1 hq with hq | hq
 ·exact lV (show (vH r).x.size ≤ maxLen from Nat.zero_le _) _ q hq
 ·exact yZ hg _ q hq
/-- what a leader sends, beside what was sent -/
theorem jA.led {K : List Mp} {k : Nat} (h : jA B v c a H k) (row : iJ B v' a' (H ++ K) k') (ca : ∀ x, a' = some x → 8 < c' x.block) (ot : ∀ b, b < v.heap.size → 8 < c b → (∀ y, a = some y → y.block ≠ b) → v'.heap[b]? = v.heap[b]? ∧ 8 < c' b) (hK : ∀ q ∈ K, ∃ m, q = bare m ∧ m.x.size ≤ maxLen) : jA B v' c' a' (H ++ K) k' := by
 have keep : ∀ q ∈ H, ∀ y, q.2.1 = some y → v'.heap[y.block]? = v.heap[y.block]? ∧ 8 < c' y.block := fun q hq y hy => ot _ ((h.uP.row q hq).lt y hy).2 (h.ci q hq y hy).1 (fun x hx => (h.ci q hq y hy).2 x hx)
 have inr : ∀ q ∈ H, aO B v' (fun _ => 0) 0 43 2 q.2.1 q.1.2.length q.2.2 (flat q.1.2) := fun q hq => (h.uP.row q hq).same fun y hy => (keep q hq y hy).1
 refine ⟨row, ⟨fun q hq => ?_, ?_⟩, ca, fun q hq y hy => ?_, ?_⟩
 ·rcases List.mem_append.1 hq with hq | hq
  ·exact inr q hq
  ·obtain ⟨m, rfl, _⟩ := hK q hq;exact dV _ _ _ _ _ _
 ·rw [List.pairwise_append];refine ⟨h.uP.apart, ?_, fun q hq q' hq' x x' hx hx' => ?_⟩
  ·refine List.pairwise_of_forall_mem_list fun q hq q' hq' x x' hx hx' => ?_
   obtain ⟨m, rfl, _⟩ := hK q hq;simp [bare] at hx
  ·obtain ⟨m, rfl, _⟩ := hK q' hq';simp [bare] at hx'
 ·rcases List.mem_append.1 hq with hq | hq
  ·exact ⟨(keep q hq y hy).2, fun x hx => aO.apart row (inr q hq) (by decide) x y hx hy⟩
  ·obtain ⟨m, rfl, _⟩ := hK q hq;simp [bare] at hy
 ·rw [List.map_append];intro i s hs;rcases Nat.lt_or_ge i (H.map (·.1)).length with hi | hi
  ·rw [List.getElem?_append_left hi] at hs; exact h.gd i s hs
  ·rw [List.getElem?_append_right hi] at hs;have hm := List.mem_of_getElem? hs;rw [List.mem_map] at hm;obtain ⟨q, hq, rfl⟩ := hm;obtain ⟨m, rfl, hx⟩ := hK q hq;exact ⟨hx, Nat.zero_le _, fun i s hs => by simp [bare] at hs⟩
theorem A7 {x : Rc} (h : DV x) : bD (iD x) ∧ (iD x).ds.length ≤ 60 := by
 have h1 := zi h.lead x.ss.length (by have := h.ss; omega);obtain ⟨l, e, h2, h3⟩ := oU (kE x x.ss.length) x.wish;obtain ⟨l2, d2, e2⟩ := kJ x x.ss.length;have hd : (kE x x.ss.length).ds.length ≤ 60 := by rw [e2]; exact h.ds
 unfold iD;rw [e];have hl : l.length ≤ 60 := by omega
 exact ⟨⟨h1.sm.lS, (show l.length ≤ 1048576 by omega), h1.sm.lH, h1.sm.lW, h1.sm.lY, h1.sm.lB, h1.sm.lA, h1.sm.nH, h1.sm.nA⟩, hl⟩
theorem Eu (h : r.of_ ≤ 5) (hd : r.ds.length ≤ 60) : (qJ r).length ≤ 305 := by
 unfold qJ;rw [List.length_append];have h1 := mZ r.num (vH r) r.of_.toNat;have h2 := vZ r (r.ds.length - r.dk.toNat);have h3 : (r.ds.length - r.dk.toNat) * r.of_.toNat ≤ 60 * 5 := Nat.mul_le_mul (by omega) (by omega);omega
theorem BN (r : Rc) (m : gq) (l : List Sl) : ∃ h, dw r m l = { r with held := h } ∧ h.length ≤ r.held.length + 1 ∧ ∀ q ∈ h, q ∈ r.held ∨ q.2 = l := by
 by_cases h : (r.held.length : Int) < 400
 ·rw [y5 h];refine ⟨_, rfl, by simp, fun q hq => ?_⟩;rcases List.mem_append.1 hq with hq | hq
  ·exact .inl hq
  simp only [List.mem_cons, List.not_mem_nil, or_false] at hq;rw [hq]; exact .inr rfl
 rw [zZ h];exact ⟨r.held, rfl, by omega, fun q hq => .inl hq⟩
theorem uu : ∀ (l : List Mp) (r : Rc), ∃ h, iW r l = { r with held := h } ∧ h.length ≤ r.held.length + l.length ∧ ∀ q ∈ h, q ∈ r.held ∨ ∃ u ∈ l, q.2 = u.1.2
 | [], r => ⟨r.held, rfl, by simp, fun q hq => .inl hq⟩
 | u :: l, r => by
  obtain ⟨h1, e1, n1, m1⟩ := BN r u.1.1 u.1.2;obtain ⟨h2, e2, n2, m2⟩ := uu l (dw r u.1.1 u.1.2);rw [e1] at n2 m2;refine ⟨h2, ?_, ?_, fun q hq => ?_⟩
  ·show iW (dw r u.1.1 u.1.2) l = _;rw [e2, e1]
  ·simp only [List.length_cons] at n2 ⊢; omega
  rcases m2 q hq with hq | ⟨v, hv, e⟩
  ·rcases m1 q hq with hq | hq
   ·exact .inl hq
   exact .inr ⟨u, by simp, hq⟩
  exact .inr ⟨v, by simp [hv], e⟩
theorem zB (r : Rc) (l : List Mp) (u : Mp) : iW r (l ++ [u]) = dw (iW r l) u.1.1 u.1.2 := by unfold iW; rw [List.foldl_append]; rfl
theorem Bl {x : Rc} (h : DV x) : bD (pq x) := by
 have h1 := h.lead.sm;have h0 : bD { aU x with heard := 0 } := ⟨h1.lS, h1.lD, h1.lH, h1.lW, Nat.zero_le _, Nat.zero_le _, Nat.zero_le _, h1.nH, fun i s hs => by simp [aU] at hs⟩
 unfold pq;split
 ·split
  ·obtain ⟨hl, e, n, m⟩ := uu (ji x.num (qN (jE x.dp x.num x.of_)) x.of_.toNat) { aU x with heard := 0, dp := jE x.dp x.num x.of_, ball := jE x.dp x.num x.of_, tr := true };rw [e];have hn := mZ x.num (qN (jE x.dp x.num x.of_)) x.of_.toNat;have hz : (aU x).held.length = 0 := by show x.held.length = 0; rw [h.held]; rfl
   have h5 := h.of_.2;refine ⟨h1.lS, h1.lD, (show hl.length ≤ 1048576 by simp only [hz] at n; omega), h1.lW, Nat.zero_le _, Nat.zero_le _, Nat.zero_le _, fun i s hs => ?_, fun i s hs => by simp [aU] at hs⟩;rcases m s (List.mem_of_getElem? hs) with hq | ⟨u, hu, e2⟩
   ·have : s ∈ x.held := hq;rw [h.held] at this; simp at this
   obtain ⟨mm, rfl, _⟩ := lV (show (qN (jE x.dp x.num x.of_)).x.size ≤ maxLen from Nat.zero_le _) _ u hu;rw [e2]; exact Nat.zero_le _
  exact h0
 exact h1
theorem ry.fresh {x : Rc} {n : Nat} (h : ry w xb x p X c a H n v) : ry w xb x p X (dm v.heap.size c) a H n v :=
 ⟨h.k, h.z, h.has.fresh, by rw [bn h.k.lt]; exact h.cx, by rw [bn h.z.lt]; exact h.cz, h.bel, h.out.fresh, h.hx⟩
theorem Gl {L : List Mp} {c k : Nat} {m : Mp} (h : iJ B w a L c) (hm : L[k]? = some m) : ∃ gL cur, a = some ⟨gL, 0, none⟩ ∧ aC w gL cur 49 ∧ ∀ q, q < 8 → cur[k * 8 + q]? = (fP m)[q]? := by
 have hk := (List.getElem?_eq_some_iff.1 hm).1;rcases h.own.2 with ⟨_, h2⟩ | ⟨g, cap, cur, hv, _, hh, _, _, _, ht⟩
 ·omega
 simp only [Value.slice.injEq] at hv;refine ⟨g, cur, hv.1, hh, fun q hq => ?_⟩;rw [← tK L k q m hm hq, ← ht, List.getElem?_take_of_lt (by omega), Array.getElem?_toList]
structure L6 (xb gL : Nat) (cs cl : Array Value) (w : World) : Prop where
 blk : aC w xb cs 31
 bl : aC w gL cl 49
theorem L6.drew {gL : Nat} {cs cl : Array Value} (h : L6 xb gL cs cl w) : L6 xb gL cs cl w.drew := ⟨aC.drew h.blk, aC.drew h.bl⟩
structure Oj (h : gq) (o : Int) (l : List Sl) : Prop where
 k : 1 ≤ h.k ∧ h.k ≤ 9
 f : 1 ≤ h.f ∧ h.f ≤ o
 t : 1 ≤ h.t ∧ h.t ≤ o
 b : 0 ≤ h.b ∧ h.b ≤ 1000000
 i : 0 ≤ h.i ∧ h.i ≤ 60
 n : 0 ≤ h.n ∧ h.n ≤ 60
 x : h.x.size ≤ 100
 l : Fj l
theorem pg {h : gq} {l : List Sl} : bY h o l = true ↔ Oj h o l := by
 unfold bY;simp only [Bool.and_eq_true, bK, decide_eq_true_eq, zC];constructor
 ·rintro ⟨⟨⟨⟨⟨⟨⟨h1, h2⟩, h3⟩, h4⟩, h5⟩, h6⟩, h7⟩, h8⟩;exact ⟨h1, h2, h3, h4, h5, h6, by omega, h8⟩
 ·intro m;exact ⟨⟨⟨⟨⟨⟨⟨m.k, m.f⟩, m.t⟩, m.b⟩, m.i⟩, m.n⟩, by have := m.x; omega⟩, m.l⟩
theorem VR.hold' (v : VR r) (hu : r.up = true) {m : gq} {l : List Sl} (k : 1 ≤ m.k ∧ m.k ≤ 9) (t : 1 ≤ m.t ∧ m.t ≤ r.of_) (b : 0 ≤ m.b ∧ m.b ≤ 1000000) (i : 0 ≤ m.i ∧ m.i ≤ 60) (n : 0 ≤ m.n ∧ m.n ≤ 60) (x : m.x.size ≤ 100) (hl : Fj l) : VR (dw r m l) :=
 v.hold hu (pg.2 ⟨k, ⟨v.n1, v.nn⟩, t, b, i, n, x, hl⟩)
theorem JD {b n : Int} (hb : 1 ≤ b) : ∀ (t : List Sl) (l : List Sl) (d : Nat), l.drop d = t → GG l d → GG l (DU b n t d)
 | [], l, d, _, h => h
 | s :: t, l, d, hd, h => by
  unfold DU;split
  ·rename_i hc;have hs : l[d]? = some s := by
    have := congrArg (fun x => x[0]?) hd;simpa using this
   have hlt := (List.getElem?_eq_some_iff.1 hs).1;have h2 : l.drop (d + 1) = t := by
    have := congrArg (fun x => x.drop 1) hd;simpa [List.drop_drop] using this
   have := JD (n := n) hb t l (d + 1) h2 ⟨by omega, by omega, fun i x hx hi => by
    by_cases hi2 : (i : Int) < (d : Int)
    ·exact h.2.2 i x hx hi2
    ·have e : i = d := by omega
     rw [e, hs] at hx;simp only [Option.some.injEq] at hx
     rw [← hx, hc.2]; omega⟩
   simpa using this
  ·exact h
theorem VR.JR (v : VR r) {m : gq} (hb : 1 ≤ m.b) : VR (lG r m) := by
 have h0 := v.d.k0;obtain ⟨d, hd⟩ : ∃ d : Nat, r.dk = (d : Int) := ⟨r.dk.toNat, by omega⟩
 have hz := JD (n := m.n) hb (r.ds.drop d) r.ds d rfl ⟨by omega, by have := v.d.k1; omega, fun i s hs hi => v.d.z i s hs (by omega)⟩;unfold lG;have e : r.dk.toNat = d := by omega
 rw [e, hd];exact v.MQ (v.d.at hz.1 hz.2.1 hz.2.2)
theorem VR.tell {f : Int} : ∀ (l : List ByteArray) {r : Rc}, VR r → r.up = true → 1 ≤ f → f ≤ r.of_ → (∀ t ∈ l, t.size ≤ 100) → VR (jO r f l)
 | [], r, v, _, _, _, _ => v
 | t :: l, r, v, hu, f1, f2, ht => by
  have k := kN r ⟨8, 0, f, 0, 0, 0, t⟩ [];show VR (jO (dw r ⟨8, 0, f, 0, 0, 0, t⟩ []) f l);exact VR.tell l (v.hold' hu (by simp) ⟨f1, f2⟩ (by simp) (by simp) (by simp) (ht t (by simp)) jI) (by rw [k.2.2.1]; exact hu) f1 (by rw [k.2.1]; exact f2) (fun x hx => ht x (by simp [hx]))
theorem VR.Iq {f : Int} : ∀ (n : Nat) (i : Int) {r : Rc}, VR r → r.up = true → 1 ≤ f → f ≤ r.of_ → VR (jP f n i r)
 | 0, i, r, v, _, _, _ => v
 | n + 1, i, r, v, hu, f1, f2 => by
  unfold jP;split
  ·rename_i hc;have k := kN r ⟨6, 0, f, r.ball, i, 0, Eg r i⟩ [];have hb := (v.ld hc.1).1;have hp := v.d.p1;have hk := v.d.k1;have hn := v.d.lk.n;have hx : (Eg r i).size ≤ 100 := by
    unfold Eg;split
    ·rename_i s hs;exact (v.d.lk.s s (List.mem_of_getElem? hs)).t
    ·exact Nat.zero_le _
   exact VR.Iq n (i + 1) (v.hold' hu (by simp) ⟨f1, f2⟩ ⟨by show 0 ≤ r.ball; omega, by show r.ball ≤ 1000000; omega⟩ ⟨by show 0 ≤ i; omega, by show i ≤ 60; omega⟩ (by simp) hx jI) (by rw [k.2.2.1]; exact hu) f1 (by rw [k.2.1]; exact f2)
  ·exact v
theorem VR.no (v : VR r) (hu : r.up = true) {f : Int} (f1 : 1 ≤ f) (f2 : f ≤ r.of_) : VR (dw r ⟨9, 0, f, r.dp, 0, 0, ⟨#[]⟩⟩ []) :=
 v.hold' hu (by simp) ⟨f1, f2⟩ ⟨v.d.p0, v.d.p1⟩ (by simp) (by simp) (Nat.zero_le _) jI
theorem VR.take (v : VR r) (hu : r.up = true) {m : gq} {l : List Sl} (hm : bY m r.of_ l = true) : VR (tV r m l) := by
 have q := pg.1 hm;have fk := qj r m.b;have vf := v.follow (b := m.b) q.b.2;have huf : (bJ r m.b).up = true := by rw [fk.2.2.1]; exact hu
 unfold tV;split
 ·unfold rO;split
  ·exact v.no hu q.f.1 q.f.2
  ·exact vf.hold' huf (by simp) ⟨q.f.1, by rw [fk.2.1]; exact q.f.2⟩ q.b (by simp) (by simp) (Nat.zero_le _) vf.d.lk
 split
 ·unfold qB;split
  ·rename_i hc;exact v.IB hu hc.1 q.f.1 q.f.2 q.l
  ·exact v
 split
 ·unfold iE;split
  ·exact v.no hu q.f.1 q.f.2
  split
  ·exact v
  ·rename_i h1 h2;have hb : 1 ≤ m.b := by omega
   have hi : 1 ≤ m.i := by omega
   have hi6 := q.i.2;split
   ·rename_i h3;exact (vf.set (by omega) (by omega) ⟨by show 0 ≤ m.b; omega, q.b.2, q.x, fun e => by have : m.b = 0 := e; omega⟩ fk.2.2.2.2.2.2.2).hold' huf (by simp) ⟨q.f.1, by show m.f ≤ (bJ r m.b).of_; rw [fk.2.1]; exact q.f.2⟩ q.b q.i (by simp) (Nat.zero_le _) jI
   ·exact vf.hold' huf (by simp) ⟨q.f.1, by rw [fk.2.1]; exact q.f.2⟩ q.b q.i (by simp) (Nat.zero_le _) jI
 split
 ·unfold uN;split
  ·rename_i hc;exact v.KI hc.1 (by omega) q.i.2 q.f.1 q.f.2
  ·exact v
 split
 ·unfold tX;split
  ·exact v.no hu q.f.1 q.f.2
  ·unfold jU;split
   ·exact v
   ·rename_i h1;have hb : 1 ≤ m.b := by omega
    have vk := vf.JR (m := m) hb;have hn6 := q.n.2;have huk : (lG (bJ r m.b) m).up = true := huf;have hof : (lG (bJ r m.b) m).of_ = r.of_ := fk.2.1;have vn : VR (qL (lG (bJ r m.b) m) m) ∧ (qL (lG (bJ r m.b) m) m).up = true ∧ (qL (lG (bJ r m.b) m) m).of_ = r.of_ := by
     unfold qL;split
     ·rename_i h2;have k := kN (lG (bJ r m.b) m) ⟨7, 0, m.f, m.b, (lG (bJ r m.b) m).dk + 1, 0, ⟨#[]⟩⟩ [];have h0 := vk.d.k0;exact ⟨vk.hold' huk (by simp) ⟨q.f.1, by rw [hof]; exact q.f.2⟩ q.b ⟨by show 0 ≤ (lG (bJ r m.b) m).dk + 1; omega, by show (lG (bJ r m.b) m).dk + 1 ≤ 60; omega⟩ (by simp) (Nat.zero_le _) jI, by rw [k.2.2.1]; exact huk, by rw [k.2.1]; exact hof⟩
     ·exact ⟨vk, huk, hof⟩
    exact VR.tell r.wish vn.1 vn.2.1 q.f.1 (by rw [vn.2.2]; exact q.f.2) (fun t ht => (v.w.t t ht).2)
 split
 ·unfold jr;split
  ·rename_i hc;have h0 := v.d.k0;have h1 := v.d.k1;have hi6 := q.i.2;have hd := v.d.set (i := m.i.toNat) (s := (m.b, m.x)) (by omega) (by omega) ⟨by show 0 ≤ m.b; omega, q.b.2, q.x, fun e => by have : m.b = 0 := e; omega⟩ hc.2.2;have hl := oP r.ds m.i.toNat (m.b, m.x)
   have vd : VR { r with dk := m.i, ds := nU r.ds m.i.toNat (m.b, m.x) } := v.MQ (hd.at (by omega) (by rw [hl]; omega) (fun i s hs hi => by
    by_cases e : i + 1 = m.i.toNat
    ·have := Hm (l := r.ds) (i := m.i.toNat) (s := (m.b, m.x)) (by omega);rw [show m.i.toNat - 1 = i by omega, hs] at this;simp only [Option.some.injEq] at this;rw [this]; show m.b ≠ 0; omega
    ·rw [zI (by omega) e (by omega)] at hs
     exact v.d.z i s hs (by omega)))
   exact vd
  ·exact v
 split
 ·exact VR.Iq 5 m.i v hu q.f.1 q.f.2
 split
 ·exact v.wish hu m.x
 ·unfold iI;split
  ·exact v.calm.rise q.b.2
  ·exact v
theorem Au {l : List Sl} (h : bf r = true) : bf (iq r m l) = true := by
 unfold iq;rw [if_pos h];split
 ·rename_i hc;exact fA.2 ((fA.1 h).take hc.1 hc.2.1)
 ·exact h
theorem VR.iy (v : VR r) (hu : r.up = true) : VR (iy r) := by
 have h0 := v.e0;have h1 := v.e1;refine ⟨v.o1, v.o5, v.n1, v.nn, v.d, v.d, ⟨by simp [Go.Proofs.Ytjdceoimignnpaa.iy], fun m hm => by simp [Go.Proofs.Ytjdceoimignnpaa.iy] at hm⟩, ⟨Nat.le_trans (List.length_filter_le _ _) v.w.n, fun t ht => v.w.t t (List.mem_filter.1 ht).1, v.w.p.sublist List.filter_sublist⟩, ?_, ?_, v.y, v.b, v.a, v.lt, v.ld, v.tr, v.cl, .inl hu⟩
 ·show 0 ≤ (if r.heard < 1000000 then r.heard + 1 else r.heard);split <;> omega
 ·show (if r.heard < 1000000 then r.heard + 1 else r.heard) ≤ 1000000;split <;> omega
theorem VR.fV (v : VR r) (hu : r.up = true) : VR (fV r) := by
 unfold Go.Proofs.Ytjdceoimignnpaa.fV;split
 ·rename_i hc;exact v.IB hu hc.1 v.n1 v.nn v.d.lk
 ·exact v
theorem uV (r : Rc) (f : Int) (l : List Sl) : (jl r f l).num = r.num ∧ (jl r f l).of_ = r.of_ ∧ (jl r f l).up = r.up ∧ (jl r f l).dp = r.dp ∧ (jl r f l).ss = r.ss := by
 unfold jl;split <;> simp [aU]
theorem pz (r : Rc) : (fV r).num = r.num ∧ (fV r).of_ = r.of_ ∧ (fV r).up = r.up ∧ (fV r).dp = r.dp ∧ (fV r).ss = r.ss := by
 unfold fV;split
 ·exact uV r _ _
 ·exact ⟨rfl, rfl, rfl, rfl, rfl⟩
theorem VR.kE (v : VR r) (hl : r.lead = true) (hs : r.ss.length ≤ 60) : ∀ k, k ≤ r.ss.length → VR (kE r k)
 | 0, _ => v
 | k + 1, hk => by
  have ih := VR.kE v hl hs k (by omega);obtain ⟨l, d, e⟩ := kJ r k;unfold Go.Proofs.Ytjdceoimignnpaa.kE;split
  ·refine ih.KI (by rw [e]; exact hl) (by omega) (by omega) v.n1 (by rw [e]; exact v.nn)
  ·exact ih
theorem VR.mJ (v : VR r) (hl : r.lead = true) {t : ByteArray} (ht : t.size ≤ 100) : VR (mJ r t) := by
 unfold Go.Proofs.Ytjdceoimignnpaa.mJ;split
 ·rename_i hc;have hb := (v.ld hl).1;have hp := v.d.p1;refine v.MQ (l := r.ds ++ [(r.ball, t)]) (d := r.dk) ⟨v.d.p0, v.d.p1, v.d.k0, by have := v.d.k1; simp; omega, ⟨by simp; omega, fun s hs => ?_⟩, fun s hs => ?_, fun i s hs hi => ?_⟩
  ·rcases List.mem_append.1 hs with hs | hs
   ·exact v.d.lk.s s hs
   ·simp only [List.mem_cons, List.not_mem_nil, or_false] at hs;rw [hs]; exact ⟨by show 0 ≤ r.ball; omega, by show r.ball ≤ 1000000; omega, ht, fun e => by have : r.ball = 0 := e; omega⟩
  ·rcases List.mem_append.1 hs with hs | hs
   ·exact v.d.b s hs
   ·simp only [List.mem_cons, List.not_mem_nil, or_false] at hs;rw [hs]; exact hb.2
  ·have := v.d.k1;rw [List.getElem?_append_left (by omega)] at hs;exact v.d.z i s hs hi
 ·exact v
theorem VR.oC : ∀ (l : List ByteArray) {r : Rc}, VR r → r.lead = true → (∀ t ∈ l, t.size ≤ 100) → VR (oC r l)
 | [], r, v, _, _ => v
 | t :: l, r, v, hl, ht => by
  show VR (Go.Proofs.Ytjdceoimignnpaa.oC (Go.Proofs.Ytjdceoimignnpaa.mJ r t) l);refine VR.oC l (v.mJ hl (ht t (by simp))) ?_ (fun x hx => ht x (by simp [hx]));unfold Go.Proofs.Ytjdceoimignnpaa.mJ;split <;> exact hl
theorem VR.iD (v : VR r) (hl : r.lead = true) : VR (iD r) := by
 obtain ⟨l, d, e⟩ := kJ r r.ss.length;unfold Go.Proofs.Ytjdceoimignnpaa.iD;exact VR.oC r.wish (v.kE hl v.s.lk.n r.ss.length (Nat.le_refl _)) (by rw [e]; exact hl) (fun t ht => (v.w.t t ht).2)
theorem Hl {a n : Int} (h : 0 < jE a n o) : a < jE a n o ∧ jE a n o ≤ 1000000 := by
 unfold jE at *;split at h
 ·rename_i hq;rw [if_pos hq];split at h
  ·omega
  ·rename_i h2;rw [if_neg h2];refine ⟨?_, by omega⟩;unfold BM at hq;simp only [Bool.and_eq_true, bK] at hq;obtain ⟨⟨o1, o5⟩, ⟨n1, n2⟩, a0, a1⟩ := hq;have e1 : a.tdiv o = a / o := Int.tdiv_eq_ediv_of_nonneg a0;have e2 := Int.emod_add_mul_ediv a o;have e3 := Int.emod_nonneg a (show o ≠ 0 by omega);have e4 := Int.emod_lt_of_pos a (show 0 < o by omega);have e5 : o * (a / o) = a / o * o := Int.mul_comm _ _;unfold yI;rw [e1];split <;> omega
 ·omega
theorem VR.iW {b : Int} (b0 : 0 ≤ b) (b1 : b ≤ 1000000) : ∀ (l : List Mp) {r : Rc}, VR r → r.up = true → (∀ q ∈ l, ∃ t, 1 ≤ t ∧ t ≤ r.of_ ∧ ∃ f, q = bare ⟨1, f, t, b, 0, 0, ⟨#[]⟩⟩) → VR (iW r l)
 | [], r, v, _, _ => v
 | q :: l, r, v, hu, h => by
  obtain ⟨t, t1, t2, f, rfl⟩ := h q (by simp);show VR (Go.Proofs.Ytjdceoimignnpaa.iW (dw r ⟨1, f, t, b, 0, 0, ⟨#[]⟩⟩ []) l);have k := kN r ⟨1, f, t, b, 0, 0, ⟨#[]⟩⟩ [];exact VR.iW b0 b1 l (v.hold' hu (by simp) ⟨t1, t2⟩ ⟨b0, b1⟩ (by simp) (by simp) (Nat.zero_le _) jI) (by rw [k.2.2.1]; exact hu) (fun q hq => by rw [k.2.1]; exact h q (by simp [hq]))
theorem vS : ∀ (k : Nat) (q : Mp), q ∈ ji num m k → ∃ t : Int, 1 ≤ t ∧ t ≤ k ∧ q = bare { m with f := num, t := t }
 | 0, q, hq => by simp [ji] at hq
 | k + 1, q, hq => by
  unfold ji at hq;split at hq
  ·obtain ⟨t, h1, h2, e⟩ := vS k q hq;exact ⟨t, h1, by omega, e⟩
  ·rcases List.mem_append.1 hq with hq | hq
   ·obtain ⟨t, h1, h2, e⟩ := vS k q hq;exact ⟨t, h1, by omega, e⟩
   ·simp only [List.mem_cons, List.not_mem_nil, or_false] at hq;exact ⟨(k : Int) + 1, by omega, by omega, hq⟩
theorem VR.pq (v : VR r) (hu : r.up = true) : VR (pq r) := by
 unfold Go.Proofs.Ytjdceoimignnpaa.pq;split
 ·have v0 : VR { aU r with heard := 0 } := v.calm.hush;split
  ·rename_i hb;have hg := Hl hb;obtain ⟨b, eb⟩ : ∃ b, b = jE r.dp r.num r.of_ := ⟨_, rfl⟩
   rw [← eb] at hb hg ⊢;have v1 : VR { aU r with heard := 0, dp := b } := v0.JL (b := b) (by show r.dp ≤ b; omega) hg.2;have v2 : VR { aU r with heard := 0, dp := b, ball := b, tr := true } :=
    ⟨v1.o1, v1.o5, v1.n1, v1.nn, v1.s, v1.d, v1.h, v1.w, v1.e0, v1.e1, v1.y, v1.b, v1.a, fun q => by simp [aU] at q, fun q => by simp [aU] at q, fun _ _ => ⟨⟨by show 1 ≤ b; omega, Int.le_refl _⟩, rfl⟩, fun _ q => by simp at q, .inl hu⟩
   have o5 := v.o5;have o1 := v.o1;refine VR.iW (b := b) (by omega) hg.2 _ v2 hu (fun q hq => ?_);obtain ⟨t, t1, t2, e⟩ := vS _ q hq;exact ⟨t, t1, by show t ≤ r.of_; omega, _, e⟩
  ·exact v0
 ·exact v
theorem IG (h : bf r = true) : bf (iG r) = true := by
 have v := fA.1 h;unfold iG;rw [if_pos h];split
 ·rename_i hu;have v1 := v.iy hu;have v2 := v1.fV hu;have hu2 : (fV (iy r)).up = true := by rw [(pz (iy r)).2.2.1]; exact hu
  unfold A8;split
  ·rename_i hl;exact fA.2 (v2.iD hl)
  ·exact fA.2 (v2.pq hu2)
 ·exact h
theorem sG (r : Rc) : (iD r).num = r.num ∧ (iD r).of_ = r.of_ ∧ (iD r).lead = r.lead := by
 obtain ⟨l, e, _⟩ := oU (kE r r.ss.length) r.wish;obtain ⟨l2, d2, e2⟩ := kJ r r.ss.length;unfold iD;rw [e];show (kE r r.ss.length).num = _ ∧ (kE r r.ss.length).of_ = _ ∧ (kE r r.ss.length).lead = _;rw [e2];exact ⟨rfl, rfl, rfl⟩
theorem FD (n1 : 1 ≤ num) (nn : num ≤ o) (k : 1 ≤ m.k ∧ m.k ≤ 9) (b : 0 ≤ m.b ∧ m.b ≤ 1000000) (i : 0 ≤ m.i ∧ m.i ≤ 60) (n : 0 ≤ m.n ∧ m.n ≤ 60) (x : m.x.size ≤ 100) : ∀ q ∈ ji num m o.toNat, q.1.1.f = num ∧ bY q.1.1 o q.1.2 = true := fun q hq => by
 obtain ⟨t, t1, t2, rfl⟩ := vS _ q hq;exact ⟨rfl, pg.2 ⟨k, ⟨n1, nn⟩, ⟨t1, by show t ≤ o; omega⟩, b, i, n, x, jI⟩⟩
theorem FQ (v : VR r) (hl : r.lead = true) : ∀ n, n ≤ r.ds.length - r.dk.toNat → ∀ q ∈ rF r n, q.1.1.f = r.num ∧ bY q.1.1 r.of_ q.1.2 = true
 | 0, _, q, hq => by simp [rF] at hq
 | n + 1, hn, q, hq => by
  unfold rF at hq;rcases List.mem_append.1 hq with hq | hq
  ·exact FQ v hl n (by omega) q hq
  ·have hb := (v.ld hl).1;have hp := v.d.p1;have h6 := v.d.lk.n;refine FD v.n1 v.nn (by simp [CB]) ⟨by show 0 ≤ r.ball; omega, by show r.ball ≤ 1000000; omega⟩ ⟨by show 0 ≤ ((r.dk.toNat + n : Nat) : Int) + 1; omega, by show ((r.dk.toNat + n : Nat) : Int) + 1 ≤ 60; omega⟩ (by simp [CB]) ?_ q hq;show (r.ds.getD (r.dk.toNat + n) (0, ⟨#[]⟩)).2.size ≤ 100;rw [List.getD_eq_getElem?_getD];cases h0 : r.ds[r.dk.toNat + n]? with
   | none => exact Nat.zero_le _
   | some s => exact (v.d.lk.s s (List.mem_of_getElem? h0)).t
/-- what a valid recorder's tick sends -/
theorem Jr (h : bf r = true) : ∀ m ∈ jc r, m.1.f = r.num ∧ bY m.1 r.of_ m.2 = true := fun m hm => by
 have v := fA.1 h;unfold jc at hm;split at hm
 ·rename_i hc;rcases List.mem_append.1 hm with hm | hm
  ·exact v.h.m m hm
  ·obtain ⟨q, hq, rfl⟩ := List.mem_map.1 hm;have v2 := (v.iy hc.2).fV hc.2;have k2 := pz (iy r);unfold Dc at hq;split at hq
   ·rename_i hl;have v3 := v2.iD hl;have k3 := sG (fV (iy r));have hl3 : (iD (fV (iy r))).lead = true := by rw [k3.2.2]; exact hl
    have en : (iD (fV (iy r))).num = r.num := by rw [k3.1, k2.1]; rfl
    have eo : (iD (fV (iy r))).of_ = r.of_ := by rw [k3.2.1, k2.2.1]; rfl
    rw [← en, ← eo];have hb := (v3.ld hl3).1;have hp := v3.d.p1;have h0 := v3.d.k0;have h1 := v3.d.k1;have h6 := v3.d.lk.n;unfold qJ at hq;rcases List.mem_append.1 hq with hq | hq
    ·exact FD v3.n1 v3.nn (by simp [vH]) ⟨by show 0 ≤ (iD (fV (iy r))).ball; omega, by show (iD (fV (iy r))).ball ≤ 1000000; omega⟩ (by simp [vH]) ⟨h0, by show (iD (fV (iy r))).dk ≤ 60; omega⟩ (Nat.zero_le _) q hq
    ·exact FQ v3 hl3 _ (Nat.le_refl _) q hq
   ·simp at hq
 ·simp at hm
end Go.Proofs.Ytjdceoimignnpaa
