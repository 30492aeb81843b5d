import Derived.Test.YtjdceoimignnpaaQ29
namespace Go.Proofs.Ytjdceoimignnpaa
open Go.ChangeShapes Go.WideShapes Go.ChangeAt Go.RowKit next
set_option linter.unusedVariables false
set_option linter.unusedSimpArgs false
variable {num o : Int} {H : List Mp} {m : MsgH} {B k' n' xb : Nat} {c c' : Nat → Nat} {a a' : Option Addr} {r : Rc} {p : RcP} {X : RcX} {v v' v2 w : World}
theorem OutS.else_ {n : Nat} (h : OutS B v c a H n) {g : Nat} {cs : Array Value} (hk : Blk v g cs 31) (hne : ∀ b, b ≠ g → v'.heap[b]? = v.heap[b]?) : OutS B v' c a H n :=
 ⟨h.row.same fun x hx => hne _ (RowC.ne h.row hk (by decide) x hx), ⟨fun m hm => (h.inn.row m hm).same fun y hy => hne _ ((h.inn.row m hm).ne hk (by decide) y hy), h.inn.apart⟩, h.ca, h.ci, h.gd⟩
theorem TKS.step {x x' : Rc} {p' : RcP} {X' : RcX} {n : Nat} {v1 : World} (h : TKS w xb x p X c a H n v) (hb : Below v.heap.size v v1) (has' : RcHas w.heap.size v1 x' p' X' c') (hc : ∀ b, b < v.heap.size → 8 < c b → 8 < c' b)
  (hk : Blk v2 xb (rcV x' p') 31) (hne : ∀ b, b ≠ xb → v2.heap[b]? = v1.heap[b]?) (hbel : Below w.heap.size w v2) : TKS w xb x' p' X' c' a H n v2 := by
 have cx' : 8 < c' xb := hc _ h.k.lt h.cx;have hx := h.hx;refine ⟨hk, (hne _ (by omega)).trans (h.z.ext hb), has'.same (fun b hB hlt h8 => hne b (fun e => by rw [e] at h8; omega)), cx', hc _ h.z.lt h.cz, hbel, ?_, h.hx⟩;exact OutS.else_ (v := v1) (h.out.same (fun b hlt h8 => ⟨hb.block b hlt, hc b hlt h8⟩)) (h.k.ext hb) hne
/-- what was held is sent, and nothing is held -/
theorem TKS.unhold {x : Rc} (h : TKS w xb x p X c a [] 0 v) (gr : v.grownBy v2 (Value.slice a 0 0).ownBlock) (row : RowM w.heap.size v2 a' X.H n') (nw : NewOr v a a') :
  TKS w xb { x with held := [] } { p with aH := some ⟨v2.heap.size, 0, none⟩, cH := 0 } ⟨[], X.A⟩ (colN (some ⟨v2.heap.size, 0, none⟩) 2 (colF v.heap.size (unheld c))) a' X.H n' ((v2.alloc (.cells #[] 49)).setCell ⟨xb, 9, none⟩ (.slice (some ⟨v2.heap.size, 0, none⟩) 0 0)) := by
 have hx := h.hx;have kl := h.k.lt;have gs := gr.size;have S := h.has.sent;have keep : ∀ {g : Nat} {cs : Array Value}, Blk v g cs 31 → Blk v2 g cs 31 := fun hk => (gr.block _ hk.lt (ownBlock_far (RowC.ne h.out.row hk (by decide)))).trans hk
 have ex : Below v2.heap.size v2 (v2.alloc (.cells #[] 49)) := ext_alloc (Below.refl _ _) _;have kb : Blk (v2.alloc (.cells #[] 49)) xb (rcV x p) 31 := (keep h.k).ext ex;have big : ∀ b, b < v.heap.size → 8 < c b → 8 < colN (some ⟨v2.heap.size, 0, none⟩) 2 (colF v.heap.size (unheld c)) b := fun b hlt h8 => by
  rw [colN_else (fun y hy e => by simp only [Option.some.injEq] at hy; rw [← hy] at e; have : v2.heap.size = b := e; omega), colF_old hlt];exact unheld_big h8
 have nota : ∀ y, a = some y → 8 < unheld c y.block := fun y hy => unheld_big (h.out.ca y hy)
 have has2 : RcHas w.heap.size v2 { x with held := [] } { p with aH := none, cH := 0 } ⟨[], X.A⟩ (colF v.heap.size (unheld c)) := h.has.drop_h.fresh.same (fun b hB hlt h8 => gr.block b hlt (ownBlock_far fun y hy e => by
  have := nota y hy;rw [colF_old hlt] at h8;rw [e] at this
  omega))
 have has3 := (has2.recol (col' := colN (some ⟨v2.heap.size, 0, none⟩) 2 (colF v.heap.size (unheld c))) (fun b hlt => colN_else (fun y hy e => by simp only [Option.some.injEq] at hy; rw [← hy] at e; have : v2.heap.size = b := e; omega))).ext ex;have has4 := has3.set_h (l := []) (a' := some ⟨v2.heap.size, 0, none⟩) (c' := 0) (rowC_none (k := 8) (Blk.new _ _ _) (by have := h.bel.size; omega) (if_pos rfl)) ⟨fun m hm => absurd hm (by simp), List.Pairwise.nil⟩ (fun i s hs => by simp at hs);have out2 : OutS w.heap.size v2 (colN (some ⟨v2.heap.size, 0, none⟩) 2 (colF v.heap.size (unheld c))) a' X.H n' := by
  have ne0 : ∀ q ∈ X.H, ∀ y, q.2.1 = some y → ∀ u, a = some u → u.block ≠ y.block := fun q hq y hy u hu e => by
   have h1 := (h.has.hi.row q hq).col y hy;have h2 := h.out.ca u hu;rw [e] at h2;omega
  refine ⟨row, ⟨fun q hq => (S.inn.row q hq).same fun y hy => gr.block _ ((S.inn.row q hq).lt y hy).2 (ownBlock_far fun u hu => ne0 q hq y hy u hu), S.inn.apart⟩, fun u hu => ?_, fun q hq y hy => ⟨?_, fun u hu e => ?_⟩, S.gd⟩
  ·have hl := (row.lt u hu).2;rw [colN_else (fun y hy e => by simp only [Option.some.injEq] at hy; rw [← hy] at e; have : v2.heap.size = u.block := e; omega)];rcases nw u hu with ⟨t, ht, e⟩ | h1
   ·rw [← e, colF_old (h.out.row.lt t ht).2]; exact nota t ht
   ·rw [colF_new h1]; omega
  ·have hl := ((S.inn.row q hq).lt y hy).2;rw [colN_else (fun u hu e => by simp only [Option.some.injEq] at hu; rw [← hu] at e; have : v2.heap.size = y.block := e; omega), colF_old hl];exact (S.ci q hq y hy).1
  ·have hl := ((S.inn.row q hq).lt y hy).2;rcases nw u hu with ⟨t, ht, e2⟩ | h1
   ·exact ne0 q hq y hy t ht (e2.trans e)
   ·omega
 have cx' := big _ h.k.lt h.cx;have b2 : Below w.heap.size w v2 := h.bel.trans ⟨gr.os, gr.tape, gr.output, gr.size, fun b hlt => gr.block b (by have := h.bel.size; omega) (ownBlock_far fun y hy e => by have := (h.out.row.lt y hy).1; omega)⟩;refine ⟨?_, ((keep h.z).ext ex).setCell (by simp; omega) _, (has4.like rfl rfl rfl rfl rfl rfl rfl).setCell (q := ⟨xb, 9, none⟩) cx' _, cx', big _ h.z.lt h.cz, below_set (ext_trans b2 ex) (show w.heap.size ≤ xb by omega) _, (out2.ext ex).cell kb _, h.hx⟩;have := kb.set (o := 9) (.slice (some ⟨v2.heap.size, 0, none⟩) 0 0);simpa [rcV] using this
/-- own rows of two kinds lie in two blocks -/
theorem RowC.apart {B' : Nat} {col col' : Nat → Nat} {t t' : Nat} {e e' : TypeId} {k : Nat} {n c c' : Nat} {xs xs' : List Value} (h : RowC B w col t e k a n c xs) (h' : RowC B' w col' t' e' k' a' n' c' xs') (hne : e ≠ e') : ∀ x y, a = some x → a' = some y → x.block ≠ y.block := fun x y hx hy eq => by
 rcases h.own.2 with ⟨h0, _⟩ | ⟨g1, cap, cur, hv, _, hh, _⟩
 ·rw [hx] at h0; simp at h0
 rcases h'.own.2 with ⟨h0, _⟩ | ⟨g2, cap2, cur2, hv2, _, hh2, _⟩
 ·rw [hy] at h0; simp at h0
 rw [hx] at hv;rw [hy] at hv2;simp only [Value.slice.injEq, Option.some.injEq] at hv hv2;have h1 : x.block = g1 := by rw [hv.1]
 have h2 : y.block = g2 := by rw [hv2.1]
 have e2 : g2 = g1 := by omega
 rw [e2] at hh2;have h9 := hh.symm.trans hh2;simp only [Option.some.injEq, Obj.cells.injEq] at h9;exact hne h9.2.1
theorem othP_bare (hx : m.x.size ≤ maxLen) : ∀ k, ∀ q ∈ othP num m k, ∃ m', q = bare m' ∧ m'.x.size ≤ maxLen
 | 0, q, hq => by simp [othP] at hq
 | k + 1, q, hq => by
  unfold othP at hq;split at hq
  ·exact othP_bare hx k q hq
  ·rcases List.mem_append.1 hq with hq | hq
   ·exact othP_bare hx k q hq
   ·simp only [List.mem_cons, List.not_mem_nil, or_false] at hq;exact ⟨_, hq, hx⟩
theorem accP_bare (hg : GoodSlots r.ds) : ∀ n, ∀ q ∈ accP r n, ∃ m', q = bare m' ∧ m'.x.size ≤ maxLen
 | 0, q, hq => by simp [accP] at hq
 | n + 1, q, hq => by
  unfold accP at hq;rcases List.mem_append.1 hq with hq | hq
  ·exact accP_bare hg n q hq
  ·refine othP_bare ?_ _ q hq;show (r.ds.getD (r.dk.toNat + n) (0, ⟨#[]⟩)).2.size ≤ maxLen;rw [List.getD_eq_getElem?_getD];cases h0 : r.ds[r.dk.toNat + n]? with
   | none => exact Nat.zero_le _
   | some s => exact (hg _ s h0).1
theorem leadP_bare (hg : GoodSlots r.ds) : ∀ q ∈ leadP r, ∃ m', q = bare m' ∧ m'.x.size ≤ maxLen := fun q hq => by
 unfold leadP at hq;rcases List.mem_append.1 hq with hq | hq
 ·exact othP_bare (show (beatM r).x.size ≤ maxLen from Nat.zero_le _) _ q hq
 ·exact accP_bare hg _ q hq
/-- what a leader sends, beside what was sent -/
theorem OutS.led {K : List Mp} {k : Nat} (h : OutS B v c a H k) (row : RowM B v' a' (H ++ K) k') (ca : ∀ x, a' = some x → 8 < c' x.block) (ot : ∀ b, b < v.heap.size → 8 < c b → (∀ y, a = some y → y.block ≠ b) → v'.heap[b]? = v.heap[b]? ∧ 8 < c' b) (hK : ∀ q ∈ K, ∃ m, q = bare m ∧ m.x.size ≤ maxLen) : OutS B v' c' a' (H ++ K) k' := by
 have keep : ∀ q ∈ H, ∀ y, q.2.1 = some y → v'.heap[y.block]? = v.heap[y.block]? ∧ 8 < c' y.block := fun q hq y hy => ot _ ((h.inn.row q hq).lt y hy).2 (h.ci q hq y hy).1 (fun x hx => (h.ci q hq y hy).2 x hx)
 have inr : ∀ q ∈ H, RowC B v' (fun _ => 0) 0 43 2 q.2.1 q.1.2.length q.2.2 (flat q.1.2) := fun q hq => (h.inn.row q hq).same fun y hy => (keep q hq y hy).1
 refine ⟨row, ⟨fun q hq => ?_, ?_⟩, ca, fun q hq y hy => ?_, ?_⟩
 ·rcases List.mem_append.1 hq with hq | hq
  ·exact inr q hq
  ·obtain ⟨m, rfl, _⟩ := hK q hq;exact rowC_nil0 _ _ _ _ _ _
 ·rw [List.pairwise_append];refine ⟨h.inn.apart, ?_, fun q hq q' hq' x x' hx hx' => ?_⟩
  ·refine List.pairwise_of_forall_mem_list fun q hq q' hq' x x' hx hx' => ?_
   obtain ⟨m, rfl, _⟩ := hK q hq;simp [bare] at hx
  ·obtain ⟨m, rfl, _⟩ := hK q' hq';simp [bare] at hx'
 ·rcases List.mem_append.1 hq with hq | hq
  ·exact ⟨(keep q hq y hy).2, fun x hx => RowC.apart row (inr q hq) (by decide) x y hx hy⟩
  ·obtain ⟨m, rfl, _⟩ := hK q hq;simp [bare] at hy
 ·rw [List.map_append];intro i s hs;rcases Nat.lt_or_ge i (H.map (·.1)).length with hi | hi
  ·rw [List.getElem?_append_left hi] at hs; exact h.gd i s hs
  ·rw [List.getElem?_append_right hi] at hs;have hm := List.mem_of_getElem? hs;rw [List.mem_map] at hm;obtain ⟨q, hq, rfl⟩ := hm;obtain ⟨m, rfl, hx⟩ := hK q hq;exact ⟨hx, Nat.zero_le _, fun i s hs => by simp [bare] at hs⟩
theorem leadT_small {x : Rc} (h : T2Ok x) : RcSmall (leadT x) ∧ (leadT x).ds.length ≤ 60 := by
 have h1 := ackN_ok h.lead x.ss.length (by have := h.ss; omega);obtain ⟨l, e, h2, h3⟩ := openN_like (ackN x x.ss.length) x.wish;obtain ⟨l2, d2, e2⟩ := ackN_like x x.ss.length;have hd : (ackN x x.ss.length).ds.length ≤ 60 := by rw [e2]; exact h.ds
 unfold leadT;rw [e];have hl : l.length ≤ 60 := by omega
 exact ⟨⟨h1.sm.lS, (show l.length ≤ 1048576 by omega), h1.sm.lH, h1.sm.lW, h1.sm.lY, h1.sm.lB, h1.sm.lA, h1.sm.nH, h1.sm.nA⟩, hl⟩
theorem leadP_len (h : r.of_ ≤ 5) (hd : r.ds.length ≤ 60) : (leadP r).length ≤ 305 := by
 unfold leadP;rw [List.length_append];have h1 := othP_len r.num (beatM r) r.of_.toNat;have h2 := accP_len r (r.ds.length - r.dk.toNat);have h3 : (r.ds.length - r.dk.toNat) * r.of_.toNat ≤ 60 * 5 := Nat.mul_le_mul (by omega) (by omega);omega
theorem holdR_like (r : Rc) (m : MsgH) (l : List Sl) : ∃ h, holdR r m l = { r with held := h } ∧ h.length ≤ r.held.length + 1 ∧ ∀ q ∈ h, q ∈ r.held ∨ q.2 = l := by
 by_cases h : (r.held.length : Int) < 400
 ·rw [holdR_yes h];refine ⟨_, rfl, by simp, fun q hq => ?_⟩;rcases List.mem_append.1 hq with hq | hq
  ·exact .inl hq
  simp only [List.mem_cons, List.not_mem_nil, or_false] at hq;rw [hq]; exact .inr rfl
 rw [holdR_no h];exact ⟨r.held, rfl, by omega, fun q hq => .inl hq⟩
theorem holdAll_like : ∀ (l : List Mp) (r : Rc), ∃ h, holdAll r l = { r with held := h } ∧ h.length ≤ r.held.length + l.length ∧ ∀ q ∈ h, q ∈ r.held ∨ ∃ u ∈ l, q.2 = u.1.2
 | [], r => ⟨r.held, rfl, by simp, fun q hq => .inl hq⟩
 | u :: l, r => by
  obtain ⟨h1, e1, n1, m1⟩ := holdR_like r u.1.1 u.1.2;obtain ⟨h2, e2, n2, m2⟩ := holdAll_like l (holdR r u.1.1 u.1.2);rw [e1] at n2 m2;refine ⟨h2, ?_, ?_, fun q hq => ?_⟩
  ·show holdAll (holdR r u.1.1 u.1.2) l = _;rw [e2, e1]
  ·simp only [List.length_cons] at n2 ⊢; omega
  rcases m2 q hq with hq | ⟨v, hv, e⟩
  ·rcases m1 q hq with hq | hq
   ·exact .inl hq
   exact .inr ⟨u, by simp, hq⟩
  exact .inr ⟨v, by simp [hv], e⟩
theorem holdAll_snoc (r : Rc) (l : List Mp) (u : Mp) : holdAll r (l ++ [u]) = holdR (holdAll r l) u.1.1 u.1.2 := by unfold holdAll; rw [List.foldl_append]; rfl
theorem tryR_small {x : Rc} (h : T2Ok x) : RcSmall (tryR x) := by
 have h1 := h.lead.sm;have h0 : RcSmall { calmR x with heard := 0 } := ⟨h1.lS, h1.lD, h1.lH, h1.lW, Nat.zero_le _, Nat.zero_le _, Nat.zero_le _, h1.nH, fun i s hs => by simp [calmR] at hs⟩
 unfold tryR;split
 ·split
  ·obtain ⟨hl, e, n, m⟩ := holdAll_like (othP x.num (prepM (nextB x.dp x.num x.of_)) x.of_.toNat) { calmR x with heard := 0, dp := nextB x.dp x.num x.of_, ball := nextB x.dp x.num x.of_, tr := true };rw [e];have hn := othP_len x.num (prepM (nextB x.dp x.num x.of_)) x.of_.toNat;have hz : (calmR x).held.length = 0 := by show x.held.length = 0; rw [h.held]; rfl
   have h5 := h.of_.2;refine ⟨h1.lS, h1.lD, (show hl.length ≤ 1048576 by simp only [hz] at n; omega), h1.lW, Nat.zero_le _, Nat.zero_le _, Nat.zero_le _, fun i s hs => ?_, fun i s hs => by simp [calmR] at hs⟩;rcases m s (List.mem_of_getElem? hs) with hq | ⟨u, hu, e2⟩
   ·have : s ∈ x.held := hq;rw [h.held] at this; simp at this
   obtain ⟨mm, rfl, _⟩ := othP_bare (show (prepM (nextB x.dp x.num x.of_)).x.size ≤ maxLen from Nat.zero_le _) _ u hu;rw [e2]; exact Nat.zero_le _
  exact h0
 exact h1
theorem TKS.fresh {x : Rc} {n : Nat} (h : TKS w xb x p X c a H n v) : TKS w xb x p X (colF v.heap.size c) a H n v :=
 ⟨h.k, h.z, h.has.fresh, by rw [colF_old h.k.lt]; exact h.cx, by rw [colF_old h.z.lt]; exact h.cz, h.bel, h.out.fresh, h.hx⟩
theorem rowM_blk {L : List Mp} {c k : Nat} {m : Mp} (h : RowM B w a L c) (hm : L[k]? = some m) : ∃ gL cur, a = some ⟨gL, 0, none⟩ ∧ Blk w gL cur 49 ∧ ∀ q, q < 8 → cur[k * 8 + q]? = (cellsM m)[q]? := by
 have hk := (List.getElem?_eq_some_iff.1 hm).1;rcases h.own.2 with ⟨_, h2⟩ | ⟨g, cap, cur, hv, _, hh, _, _, _, ht⟩
 ·omega
 simp only [Value.slice.injEq] at hv;refine ⟨g, cur, hv.1, hh, fun q hq => ?_⟩;rw [← flatM_at L k q m hm hq, ← ht, List.getElem?_take_of_lt (by omega), Array.getElem?_toList]
structure HlS (xb gL : Nat) (cs cl : Array Value) (w : World) : Prop where
 blk : Blk w xb cs 31
 bl : Blk w gL cl 49
theorem HlS.drew {gL : Nat} {cs cl : Array Value} (h : HlS xb gL cs cl w) : HlS xb gL cs cl w.drew := ⟨Blk.drew h.blk, Blk.drew h.bl⟩
structure MOk (h : MsgH) (o : Int) (l : List Sl) : Prop where
 k : 1 ≤ h.k ∧ h.k ≤ 9
 f : 1 ≤ h.f ∧ h.f ≤ o
 t : 1 ≤ h.t ∧ h.t ≤ o
 b : 0 ≤ h.b ∧ h.b ≤ 1000000
 i : 0 ≤ h.i ∧ h.i ≤ 60
 n : 0 ≤ h.n ∧ h.n ≤ 60
 x : h.x.size ≤ 100
 l : LOk l
theorem mok_iff {h : MsgH} {l : List Sl} : msgOkB h o l = true ↔ MOk h o l := by
 unfold msgOkB;simp only [Bool.and_eq_true, inB_iff, decide_eq_true_eq, lok_iff];constructor
 ·rintro ⟨⟨⟨⟨⟨⟨⟨h1, h2⟩, h3⟩, h4⟩, h5⟩, h6⟩, h7⟩, h8⟩;exact ⟨h1, h2, h3, h4, h5, h6, by omega, h8⟩
 ·intro m;exact ⟨⟨⟨⟨⟨⟨⟨m.k, m.f⟩, m.t⟩, m.b⟩, m.i⟩, m.n⟩, by have := m.x; omega⟩, m.l⟩
theorem VR.hold' (v : VR r) (hu : r.up = true) {m : MsgH} {l : List Sl} (k : 1 ≤ m.k ∧ m.k ≤ 9) (t : 1 ≤ m.t ∧ m.t ≤ r.of_) (b : 0 ≤ m.b ∧ m.b ≤ 1000000) (i : 0 ≤ m.i ∧ m.i ≤ 60) (n : 0 ≤ m.n ∧ m.n ≤ 60) (x : m.x.size ≤ 100) (hl : LOk l) : VR (holdR r m l) :=
 v.hold hu (mok_iff.2 ⟨k, ⟨v.n1, v.nn⟩, t, b, i, n, x, hl⟩)
theorem upK_z {b n : Int} (hb : 1 ≤ b) : ∀ (t : List Sl) (l : List Sl) (d : Nat), l.drop d = t → AdvZ l d → AdvZ l (upK b n t d)
 | [], l, d, _, h => h
 | s :: t, l, d, hd, h => by
  unfold upK;split
  ·rename_i hc;have hs : l[d]? = some s := by
    have := congrArg (fun x => x[0]?) hd;simpa using this
   have hlt := (List.getElem?_eq_some_iff.1 hs).1;have h2 : l.drop (d + 1) = t := by
    have := congrArg (fun x => x.drop 1) hd;simpa [List.drop_drop] using this
   have := upK_z (n := n) hb t l (d + 1) h2 ⟨by omega, by omega, fun i x hx hi => by
    by_cases hi2 : (i : Int) < (d : Int)
    ·exact h.2.2 i x hx hi2
    ·have e : i = d := by omega
     rw [e, hs] at hx;simp only [Option.some.injEq] at hx
     rw [← hx, hc.2]; omega⟩
   simpa using this
  ·exact h
theorem VR.beatOk (v : VR r) {m : MsgH} (hb : 1 ≤ m.b) : VR (beatK r m) := by
 have h0 := v.d.k0;obtain ⟨d, hd⟩ : ∃ d : Nat, r.dk = (d : Int) := ⟨r.dk.toNat, by omega⟩
 have hz := upK_z (n := m.n) hb (r.ds.drop d) r.ds d rfl ⟨by omega, by have := v.d.k1; omega, fun i s hs hi => v.d.z i s hs (by omega)⟩;unfold beatK;have e : r.dk.toNat = d := by omega
 rw [e, hd];exact v.ds_ (v.d.at hz.1 hz.2.1 hz.2.2)
theorem VR.tell {f : Int} : ∀ (l : List ByteArray) {r : Rc}, VR r → r.up = true → 1 ≤ f → f ≤ r.of_ → (∀ t ∈ l, t.size ≤ 100) → VR (tellR r f l)
 | [], r, v, _, _, _, _ => v
 | t :: l, r, v, hu, f1, f2, ht => by
  have k := hold_keep2 r ⟨8, 0, f, 0, 0, 0, t⟩ [];show VR (tellR (holdR r ⟨8, 0, f, 0, 0, 0, t⟩ []) f l);exact VR.tell l (v.hold' hu (by simp) ⟨f1, f2⟩ (by simp) (by simp) (by simp) (ht t (by simp)) lok_nil) (by rw [k.2.2.1]; exact hu) f1 (by rw [k.2.1]; exact f2) (fun x hx => ht x (by simp [hx]))
theorem VR.needOk {f : Int} : ∀ (n : Nat) (i : Int) {r : Rc}, VR r → r.up = true → 1 ≤ f → f ≤ r.of_ → VR (need7 f n i r)
 | 0, i, r, v, _, _, _ => v
 | n + 1, i, r, v, hu, f1, f2 => by
  unfold need7;split
  ·rename_i hc;have k := hold_keep2 r ⟨6, 0, f, r.ball, i, 0, txt7 r i⟩ [];have hb := (v.ld hc.1).1;have hp := v.d.p1;have hk := v.d.k1;have hn := v.d.lk.n;have hx : (txt7 r i).size ≤ 100 := by
    unfold txt7;split
    ·rename_i s hs;exact (v.d.lk.s s (List.mem_of_getElem? hs)).t
    ·exact Nat.zero_le _
   exact VR.needOk n (i + 1) (v.hold' hu (by simp) ⟨f1, f2⟩ ⟨by show 0 ≤ r.ball; omega, by show r.ball ≤ 1000000; omega⟩ ⟨by show 0 ≤ i; omega, by show i ≤ 60; omega⟩ (by simp) hx lok_nil) (by rw [k.2.2.1]; exact hu) f1 (by rw [k.2.1]; exact f2)
  ·exact v
theorem VR.no (v : VR r) (hu : r.up = true) {f : Int} (f1 : 1 ≤ f) (f2 : f ≤ r.of_) : VR (holdR r ⟨9, 0, f, r.dp, 0, 0, ⟨#[]⟩⟩ []) :=
 v.hold' hu (by simp) ⟨f1, f2⟩ ⟨v.d.p0, v.d.p1⟩ (by simp) (by simp) (Nat.zero_le _) lok_nil
theorem VR.take (v : VR r) (hu : r.up = true) {m : MsgH} {l : List Sl} (hm : msgOkB m r.of_ l = true) : VR (takeR r m l) := by
 have q := mok_iff.1 hm;have fk := follow_keep r m.b;have vf := v.follow (b := m.b) q.b.2;have huf : (followR r m.b).up = true := by rw [fk.2.2.1]; exact hu
 unfold takeR;split
 ·unfold prep1;split
  ·exact v.no hu q.f.1 q.f.2
  ·exact vf.hold' huf (by simp) ⟨q.f.1, by rw [fk.2.1]; exact q.f.2⟩ q.b (by simp) (by simp) (Nat.zero_le _) vf.d.lk
 split
 ·unfold prom2;split
  ·rename_i hc;exact v.prom hu hc.1 q.f.1 q.f.2 q.l
  ·exact v
 split
 ·unfold accept3;split
  ·exact v.no hu q.f.1 q.f.2
  split
  ·exact v
  ·rename_i h1 h2;have hb : 1 ≤ m.b := by omega
   have hi : 1 ≤ m.i := by omega
   have hi6 := q.i.2;split
   ·rename_i h3;exact (vf.set (by omega) (by omega) ⟨by show 0 ≤ m.b; omega, q.b.2, q.x, fun e => by have : m.b = 0 := e; omega⟩ fk.2.2.2.2.2.2.2).hold' huf (by simp) ⟨q.f.1, by show m.f ≤ (followR r m.b).of_; rw [fk.2.1]; exact q.f.2⟩ q.b q.i (by simp) (Nat.zero_le _) lok_nil
   ·exact vf.hold' huf (by simp) ⟨q.f.1, by rw [fk.2.1]; exact q.f.2⟩ q.b q.i (by simp) (Nat.zero_le _) lok_nil
 split
 ·unfold ack4;split
  ·rename_i hc;exact v.ack hc.1 (by omega) q.i.2 q.f.1 q.f.2
  ·exact v
 split
 ·unfold beat5;split
  ·exact v.no hu q.f.1 q.f.2
  ·unfold beatR;split
   ·exact v
   ·rename_i h1;have hb : 1 ≤ m.b := by omega
    have vk := vf.beatOk (m := m) hb;have hn6 := q.n.2;have huk : (beatK (followR r m.b) m).up = true := huf;have hof : (beatK (followR r m.b) m).of_ = r.of_ := fk.2.1;have vn : VR (needR (beatK (followR r m.b) m) m) ∧ (needR (beatK (followR r m.b) m) m).up = true ∧ (needR (beatK (followR r m.b) m) m).of_ = r.of_ := by
     unfold needR;split
     ·rename_i h2;have k := hold_keep2 (beatK (followR r m.b) m) ⟨7, 0, m.f, m.b, (beatK (followR r m.b) m).dk + 1, 0, ⟨#[]⟩⟩ [];have h0 := vk.d.k0;exact ⟨vk.hold' huk (by simp) ⟨q.f.1, by rw [hof]; exact q.f.2⟩ q.b ⟨by show 0 ≤ (beatK (followR r m.b) m).dk + 1; omega, by show (beatK (followR r m.b) m).dk + 1 ≤ 60; omega⟩ (by simp) (Nat.zero_le _) lok_nil, by rw [k.2.2.1]; exact huk, by rw [k.2.1]; exact hof⟩
     ·exact ⟨vk, huk, hof⟩
    exact VR.tell r.wish vn.1 vn.2.1 q.f.1 (by rw [vn.2.2]; exact q.f.2) (fun t ht => (v.w.t t ht).2)
 split
 ·unfold chosen6;split
  ·rename_i hc;have h0 := v.d.k0;have h1 := v.d.k1;have hi6 := q.i.2;have hd := v.d.set (i := m.i.toNat) (s := (m.b, m.x)) (by omega) (by omega) ⟨by show 0 ≤ m.b; omega, q.b.2, q.x, fun e => by have : m.b = 0 := e; omega⟩ hc.2.2;have hl := setL_len r.ds m.i.toNat (m.b, m.x)
   have vd : VR { r with dk := m.i, ds := setL r.ds m.i.toNat (m.b, m.x) } := v.ds_ (hd.at (by omega) (by rw [hl]; omega) (fun i s hs hi => by
    by_cases e : i + 1 = m.i.toNat
    ·have := setL_new (l := r.ds) (i := m.i.toNat) (s := (m.b, m.x)) (by omega);rw [show m.i.toNat - 1 = i by omega, hs] at this;simp only [Option.some.injEq] at this;rw [this]; show m.b ≠ 0; omega
    ·rw [setL_old (by omega) e (by omega)] at hs
     exact v.d.z i s hs (by omega)))
   exact vd
  ·exact v
 split
 ·exact VR.needOk 5 m.i v hu q.f.1 q.f.2
 split
 ·exact v.wish hu m.x
 ·unfold refuse9;split
  ·exact v.calm.rise q.b.2
  ·exact v
theorem rec_take_ok {l : List Sl} (h : validB r = true) : validB (recTake r m l) = true := by
 unfold recTake;rw [if_pos h];split
 ·rename_i hc;exact vr_iff.2 ((vr_iff.1 h).take hc.1 hc.2.1)
 ·exact h
theorem VR.tick1 (v : VR r) (hu : r.up = true) : VR (tick1 r) := by
 have h0 := v.e0;have h1 := v.e1;refine ⟨v.o1, v.o5, v.n1, v.nn, v.d, v.d, ⟨by simp [Go.Proofs.Ytjdceoimignnpaa.tick1], fun m hm => by simp [Go.Proofs.Ytjdceoimignnpaa.tick1] at hm⟩, ⟨Nat.le_trans (List.length_filter_le _ _) v.w.n, fun t ht => v.w.t t (List.mem_filter.1 ht).1, v.w.p.sublist List.filter_sublist⟩, ?_, ?_, v.y, v.b, v.a, v.lt, v.ld, v.tr, v.cl, .inl hu⟩
 ·show 0 ≤ (if r.heard < 1000000 then r.heard + 1 else r.heard);split <;> omega
 ·show (if r.heard < 1000000 then r.heard + 1 else r.heard) ≤ 1000000;split <;> omega
theorem VR.tick2 (v : VR r) (hu : r.up = true) : VR (tick2 r) := by
 unfold Go.Proofs.Ytjdceoimignnpaa.tick2;split
 ·rename_i hc;exact v.prom hu hc.1 v.n1 v.nn v.d.lk
 ·exact v
theorem prom_keep (r : Rc) (f : Int) (l : List Sl) : (promR r f l).num = r.num ∧ (promR r f l).of_ = r.of_ ∧ (promR r f l).up = r.up ∧ (promR r f l).dp = r.dp ∧ (promR r f l).ss = r.ss := by
 unfold promR;split <;> simp [calmR]
theorem tick2_keep (r : Rc) : (tick2 r).num = r.num ∧ (tick2 r).of_ = r.of_ ∧ (tick2 r).up = r.up ∧ (tick2 r).dp = r.dp ∧ (tick2 r).ss = r.ss := by
 unfold tick2;split
 ·exact prom_keep r _ _
 ·exact ⟨rfl, rfl, rfl, rfl, rfl⟩
theorem VR.ackN (v : VR r) (hl : r.lead = true) (hs : r.ss.length ≤ 60) : ∀ k, k ≤ r.ss.length → VR (ackN r k)
 | 0, _ => v
 | k + 1, hk => by
  have ih := VR.ackN v hl hs k (by omega);obtain ⟨l, d, e⟩ := ackN_like r k;unfold Go.Proofs.Ytjdceoimignnpaa.ackN;split
  ·refine ih.ack (by rw [e]; exact hl) (by omega) (by omega) v.n1 (by rw [e]; exact v.nn)
  ·exact ih
theorem VR.openR (v : VR r) (hl : r.lead = true) {t : ByteArray} (ht : t.size ≤ 100) : VR (openR r t) := by
 unfold Go.Proofs.Ytjdceoimignnpaa.openR;split
 ·rename_i hc;have hb := (v.ld hl).1;have hp := v.d.p1;refine v.ds_ (l := r.ds ++ [(r.ball, t)]) (d := r.dk) ⟨v.d.p0, v.d.p1, v.d.k0, by have := v.d.k1; simp; omega, ⟨by simp; omega, fun s hs => ?_⟩, fun s hs => ?_, fun i s hs hi => ?_⟩
  ·rcases List.mem_append.1 hs with hs | hs
   ·exact v.d.lk.s s hs
   ·simp only [List.mem_cons, List.not_mem_nil, or_false] at hs;rw [hs]; exact ⟨by show 0 ≤ r.ball; omega, by show r.ball ≤ 1000000; omega, ht, fun e => by have : r.ball = 0 := e; omega⟩
  ·rcases List.mem_append.1 hs with hs | hs
   ·exact v.d.b s hs
   ·simp only [List.mem_cons, List.not_mem_nil, or_false] at hs;rw [hs]; exact hb.2
  ·have := v.d.k1;rw [List.getElem?_append_left (by omega)] at hs;exact v.d.z i s hs hi
 ·exact v
theorem VR.openN : ∀ (l : List ByteArray) {r : Rc}, VR r → r.lead = true → (∀ t ∈ l, t.size ≤ 100) → VR (openN r l)
 | [], r, v, _, _ => v
 | t :: l, r, v, hl, ht => by
  show VR (Go.Proofs.Ytjdceoimignnpaa.openN (Go.Proofs.Ytjdceoimignnpaa.openR r t) l);refine VR.openN l (v.openR hl (ht t (by simp))) ?_ (fun x hx => ht x (by simp [hx]));unfold Go.Proofs.Ytjdceoimignnpaa.openR;split <;> exact hl
theorem VR.leadT (v : VR r) (hl : r.lead = true) : VR (leadT r) := by
 obtain ⟨l, d, e⟩ := ackN_like r r.ss.length;unfold Go.Proofs.Ytjdceoimignnpaa.leadT;exact VR.openN r.wish (v.ackN hl v.s.lk.n r.ss.length (Nat.le_refl _)) (by rw [e]; exact hl) (fun t ht => (v.w.t t ht).2)
theorem nextB_gt {a n : Int} (h : 0 < nextB a n o) : a < nextB a n o ∧ nextB a n o ≤ 1000000 := by
 unfold nextB at *;split at h
 ·rename_i hq;rw [if_pos hq];split at h
  ·omega
  ·rename_i h2;rw [if_neg h2];refine ⟨?_, by omega⟩;unfold askB at hq;simp only [Bool.and_eq_true, inB_iff] at hq;obtain ⟨⟨o1, o5⟩, ⟨n1, n2⟩, a0, a1⟩ := hq;have e1 : a.tdiv o = a / o := Int.tdiv_eq_ediv_of_nonneg a0;have e2 := Int.emod_add_mul_ediv a o;have e3 := Int.emod_nonneg a (show o ≠ 0 by omega);have e4 := Int.emod_lt_of_pos a (show 0 < o by omega);have e5 : o * (a / o) = a / o * o := Int.mul_comm _ _;unfold nextN;rw [e1];split <;> omega
 ·omega
theorem VR.holdAll {b : Int} (b0 : 0 ≤ b) (b1 : b ≤ 1000000) : ∀ (l : List Mp) {r : Rc}, VR r → r.up = true → (∀ q ∈ l, ∃ t, 1 ≤ t ∧ t ≤ r.of_ ∧ ∃ f, q = bare ⟨1, f, t, b, 0, 0, ⟨#[]⟩⟩) → VR (holdAll r l)
 | [], r, v, _, _ => v
 | q :: l, r, v, hu, h => by
  obtain ⟨t, t1, t2, f, rfl⟩ := h q (by simp);show VR (Go.Proofs.Ytjdceoimignnpaa.holdAll (holdR r ⟨1, f, t, b, 0, 0, ⟨#[]⟩⟩ []) l);have k := hold_keep2 r ⟨1, f, t, b, 0, 0, ⟨#[]⟩⟩ [];exact VR.holdAll b0 b1 l (v.hold' hu (by simp) ⟨t1, t2⟩ ⟨b0, b1⟩ (by simp) (by simp) (Nat.zero_le _) lok_nil) (by rw [k.2.2.1]; exact hu) (fun q hq => by rw [k.2.1]; exact h q (by simp [hq]))
theorem othP_is : ∀ (k : Nat) (q : Mp), q ∈ othP num m k → ∃ t : Int, 1 ≤ t ∧ t ≤ k ∧ q = bare { m with f := num, t := t }
 | 0, q, hq => by simp [othP] at hq
 | k + 1, q, hq => by
  unfold othP at hq;split at hq
  ·obtain ⟨t, h1, h2, e⟩ := othP_is k q hq;exact ⟨t, h1, by omega, e⟩
  ·rcases List.mem_append.1 hq with hq | hq
   ·obtain ⟨t, h1, h2, e⟩ := othP_is k q hq;exact ⟨t, h1, by omega, e⟩
   ·simp only [List.mem_cons, List.not_mem_nil, or_false] at hq;exact ⟨(k : Int) + 1, by omega, by omega, hq⟩
theorem VR.tryR (v : VR r) (hu : r.up = true) : VR (tryR r) := by
 unfold Go.Proofs.Ytjdceoimignnpaa.tryR;split
 ·have v0 : VR { calmR r with heard := 0 } := v.calm.hush;split
  ·rename_i hb;have hg := nextB_gt hb;obtain ⟨b, eb⟩ : ∃ b, b = nextB r.dp r.num r.of_ := ⟨_, rfl⟩
   rw [← eb] at hb hg ⊢;have v1 : VR { calmR r with heard := 0, dp := b } := v0.prom_ (b := b) (by show r.dp ≤ b; omega) hg.2;have v2 : VR { calmR r with heard := 0, dp := b, ball := b, tr := true } :=
    ⟨v1.o1, v1.o5, v1.n1, v1.nn, v1.s, v1.d, v1.h, v1.w, v1.e0, v1.e1, v1.y, v1.b, v1.a, fun q => by simp [calmR] at q, fun q => by simp [calmR] at q, fun _ _ => ⟨⟨by show 1 ≤ b; omega, Int.le_refl _⟩, rfl⟩, fun _ q => by simp at q, .inl hu⟩
   have o5 := v.o5;have o1 := v.o1;refine VR.holdAll (b := b) (by omega) hg.2 _ v2 hu (fun q hq => ?_);obtain ⟨t, t1, t2, e⟩ := othP_is _ q hq;exact ⟨t, t1, by show t ≤ r.of_; omega, _, e⟩
  ·exact v0
 ·exact v
theorem tick_ok (h : validB r = true) : validB (recTickR r) = true := by
 have v := vr_iff.1 h;unfold recTickR;rw [if_pos h];split
 ·rename_i hu;have v1 := v.tick1 hu;have v2 := v1.tick2 hu;have hu2 : (tick2 (tick1 r)).up = true := by rw [(tick2_keep (tick1 r)).2.2.1]; exact hu
  unfold tickR;split
  ·rename_i hl;exact vr_iff.2 (v2.leadT hl)
  ·exact vr_iff.2 (v2.tryR hu2)
 ·exact h
theorem leadT_keep (r : Rc) : (leadT r).num = r.num ∧ (leadT r).of_ = r.of_ ∧ (leadT r).lead = r.lead := by
 obtain ⟨l, e, _⟩ := openN_like (ackN r r.ss.length) r.wish;obtain ⟨l2, d2, e2⟩ := ackN_like r r.ss.length;unfold leadT;rw [e];show (ackN r r.ss.length).num = _ ∧ (ackN r r.ss.length).of_ = _ ∧ (ackN r r.ss.length).lead = _;rw [e2];exact ⟨rfl, rfl, rfl⟩
theorem oth_ok (n1 : 1 ≤ num) (nn : num ≤ o) (k : 1 ≤ m.k ∧ m.k ≤ 9) (b : 0 ≤ m.b ∧ m.b ≤ 1000000) (i : 0 ≤ m.i ∧ m.i ≤ 60) (n : 0 ≤ m.n ∧ m.n ≤ 60) (x : m.x.size ≤ 100) : ∀ q ∈ othP num m o.toNat, q.1.1.f = num ∧ msgOkB q.1.1 o q.1.2 = true := fun q hq => by
 obtain ⟨t, t1, t2, rfl⟩ := othP_is _ q hq;exact ⟨rfl, mok_iff.2 ⟨k, ⟨n1, nn⟩, ⟨t1, by show t ≤ o; omega⟩, b, i, n, x, lok_nil⟩⟩
theorem acc_ok (v : VR r) (hl : r.lead = true) : ∀ n, n ≤ r.ds.length - r.dk.toNat → ∀ q ∈ accP r n, q.1.1.f = r.num ∧ msgOkB q.1.1 r.of_ q.1.2 = true
 | 0, _, q, hq => by simp [accP] at hq
 | n + 1, hn, q, hq => by
  unfold accP at hq;rcases List.mem_append.1 hq with hq | hq
  ·exact acc_ok v hl n (by omega) q hq
  ·have hb := (v.ld hl).1;have hp := v.d.p1;have h6 := v.d.lk.n;refine oth_ok v.n1 v.nn (by simp [accM]) ⟨by show 0 ≤ r.ball; omega, by show r.ball ≤ 1000000; omega⟩ ⟨by show 0 ≤ ((r.dk.toNat + n : Nat) : Int) + 1; omega, by show ((r.dk.toNat + n : Nat) : Int) + 1 ≤ 60; omega⟩ (by simp [accM]) ?_ q hq;show (r.ds.getD (r.dk.toNat + n) (0, ⟨#[]⟩)).2.size ≤ 100;rw [List.getD_eq_getElem?_getD];cases h0 : r.ds[r.dk.toNat + n]? with
   | none => exact Nat.zero_le _
   | some s => exact (v.d.lk.s s (List.mem_of_getElem? h0)).t
/-- what a valid recorder's tick sends -/
theorem sent_ok (h : validB r = true) : ∀ m ∈ recTickM r, m.1.f = r.num ∧ msgOkB m.1 r.of_ m.2 = true := fun m hm => by
 have v := vr_iff.1 h;unfold recTickM at hm;split at hm
 ·rename_i hc;rcases List.mem_append.1 hm with hm | hm
  ·exact v.h.m m hm
  ·obtain ⟨q, hq, rfl⟩ := List.mem_map.1 hm;have v2 := (v.tick1 hc.2).tick2 hc.2;have k2 := tick2_keep (tick1 r);unfold tickP at hq;split at hq
   ·rename_i hl;have v3 := v2.leadT hl;have k3 := leadT_keep (tick2 (tick1 r));have hl3 : (leadT (tick2 (tick1 r))).lead = true := by rw [k3.2.2]; exact hl
    have en : (leadT (tick2 (tick1 r))).num = r.num := by rw [k3.1, k2.1]; rfl
    have eo : (leadT (tick2 (tick1 r))).of_ = r.of_ := by rw [k3.2.1, k2.2.1]; rfl
    rw [← en, ← eo];have hb := (v3.ld hl3).1;have hp := v3.d.p1;have h0 := v3.d.k0;have h1 := v3.d.k1;have h6 := v3.d.lk.n;unfold leadP at hq;rcases List.mem_append.1 hq with hq | hq
    ·exact oth_ok v3.n1 v3.nn (by simp [beatM]) ⟨by show 0 ≤ (leadT (tick2 (tick1 r))).ball; omega, by show (leadT (tick2 (tick1 r))).ball ≤ 1000000; omega⟩ (by simp [beatM]) ⟨h0, by show (leadT (tick2 (tick1 r))).dk ≤ 60; omega⟩ (Nat.zero_le _) q hq
    ·exact acc_ok v3 hl3 _ (Nat.le_refl _) q hq
   ·simp at hq
 ·simp at hm
end Go.Proofs.Ytjdceoimignnpaa
