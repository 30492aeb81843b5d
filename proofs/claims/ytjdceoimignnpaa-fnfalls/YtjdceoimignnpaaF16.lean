import Derived.Test.YtjdceoimignnpaaF15
import Derived.Test.YtjdceoimignnpaaF14
namespace Go.Proofs.Ytjdceoimignnpaa
open Go.ChangeShapes Go.WideShapes Go.ChangeAt Go.RowKit
set_option linter.unusedVariables false
set_option linter.unusedSimpArgs false
set_option maxHeartbeats 16000000
set_option maxRecDepth 20000
variable {x : Ap} {d i : Int} {l : List Ak} {fl : List Int} {xs : List Value} {B c c2 g hi lo n t : Nat} {col : Nat → Nat} {a a2 : Option Addr} {r : Rc} {p : fU} {X : iU} {e : TypeId} {w wr : World}
theorem aG.low {B' : Nat} (h : aG B w r p X col) (hB : B' ≤ B) : aG B' w r p X col :=
 ⟨h.s.low hB, h.d.low hB, h.h.low hB, h.hm, ⟨fun m hm => (h.hi.row m hm).low hB, h.hi.apart⟩, h.t.low hB, h.y.low hB, h.b.low hB, h.a.low hB, h.am, ⟨fun m hm => (h.ai.row m hm).low hB, h.ai.apart⟩, h.gd⟩
theorem qG (h : bf r = true) : 0 ≤ r.dk ∧ r.dk ≤ r.ds.length ∧ r.ds.length ≤ 60 := by
 have hd : bW r.dp r.dk r.ds = true := by
  cases hc : bW r.dp r.dk r.ds
  ·rw [GK hc] at h; cases h
  rfl
 simp only [bW, bM, Bool.and_eq_true, decide_eq_true_eq] at hd;obtain ⟨⟨⟨_, ⟨h1, _⟩⟩, h2⟩, _⟩ := hd;exact ⟨(bK.1 h2).1, (bK.1 h2).2, h1⟩
def xN (l : List Sl) (q : Nat) (b : Int) : Bool := match l[q]? with | some s => decide (s.1 = b) | none => false
abbrev pX (r : Rc) (d : Int) : Rc := { r with dk := d }
def vO (r : Rc) (d : Int) (a : Ak) : Bool := decide (a.1 = d + 1) && (decide (r.of_ < 2 * (a.2.length : Int)) && xN r.ds d.toNat r.ball)
def rE (r : Rc) (l : List Ak) (d : Int) : Int := l.foldl (fun d a => if vO r d a = true then a.1 else d) d
def pK (r : Rc) : Rc := pX r (rE r r.acks r.dk)
theorem ES (r : Rc) (l : List Ak) (a : Ak) (d : Int) : rE r (l ++ [a]) d = if vO r (rE r l d) a = true then a.1 else rE r l d := by rw [rE, List.foldl_append]; rfl
theorem Ba {l : List Sl} {q : Nat} {b : Int} (h : xN l q b = true) : q < l.length := by
 unfold xN at h;split at h
 ·rename_i s hs; exact (List.getElem?_eq_some_iff.1 hs).1
 cases h
theorem vY (r : Rc) : ∀ (l : List Ak) (d : Int), 0 ≤ d → d ≤ r.ds.length → 0 ≤ rE r l d ∧ rE r l d ≤ r.ds.length
 | [], d, h1, h2 => ⟨h1, h2⟩
 | a :: l, d, h1, h2 => by
  simp only [rE, List.foldl_cons];by_cases hb : vO r d a = true
  ·rw [if_pos hb];simp only [vO, Bool.and_eq_true, decide_eq_true_eq] at hb;have := Ba hb.2.2;exact vY r l a.1 (by omega) (by omega)
  rw [if_neg hb];exact vY r l d h1 h2
structure xw (B : Nat) (w : World) (col : Nat → Nat) (r : Rc) (p : fU) (X : iU) (d : Int) (wr : World) : Prop where
 k : aC wr w.heap.size (au (pX r d) p) 31
 z : aC wr (w.heap.size + 1) bP 31
 has : aG B wr r p X (dm w.heap.size col)
 bel : Below w.heap.size w wr
theorem xw.alloc (h : xw B w col r p X d wr) (o : Obj) : xw B w col r p X d (wr.alloc o) :=
 ⟨h.k.alloc _, h.z.alloc _, h.has.ext (ae (Below.refl _ _) _), ae h.bel _⟩
theorem xw.ext {wr' : World} (h : xw B w col r p X d wr) (hb : Below wr.heap.size wr wr') : xw B w col r p X d wr' :=
 ⟨h.k.ext hb, h.z.ext hb, h.has.ext hb, aj h.bel hb⟩
theorem xw.put (h : xw B w col r p X d wr) (d' : Int) : xw B w col r p X d' (wr.setCell ⟨w.heap.size, 7, none⟩ (.int .i64 d')) :=
 ⟨by have := h.k.set (o := 7) (.int .i64 d'); simpa using this, h.z.setCell (by simp) _, h.has.setCell (q := ⟨w.heap.size, 7, none⟩) (by rw [bI (Nat.le_refl _)]; omega) _, bG h.bel (Nat.le_refl _) _⟩
theorem nD (B : Nat) (r : Rc) (p : fU) (X : iU) (col : Nat → Nat) (w : World) (hB : B ≤ w.heap.size) (hd0 : 0 ≤ r.dk) (hd1 : r.dk ≤ r.ds.length) (hS : bD r) (h : aG B w r p X col) :
  Calls Try.prog 115 #[.agg (au r p)] w (jH B w col (pK r)) := by
 have HB := hid hB;have HS := hid hS;have HM := hid h.am;have HD := hid (And.intro hd0 hd1);have BV := hid (show Below w.heap.size w ((w.alloc (.cells (au r p) 31)).alloc (.cells bP 31)) from ae (ae (Below.refl _ _) _) _)
 have S0 := hid (show xw B w col r p X r.dk ((w.alloc (.cells (au r p) 31)).alloc (.cells bP 31)) from
  ⟨(aC.new _ _ _).alloc _, aC.new' _ _ (by simp), h.fresh.ext BV.out, BV.out⟩)
 clear h hS hB hd0 hd1;go_enter Try.func115, Try.ntmps115;go_wp2_with fail;go_loopw [3] (fun i wr => ∃ (k : Nat), k ≤ r.acks.length ∧ i = .int .i64 k ∧ xw B w col r p X (rE r (r.acks.take k) r.dk) wr) (fun i _ => r.acks.length - (intOf i).toNat);case atStart => exact ⟨0, Nat.zero_le _, rfl, S0.out⟩
 obtain ⟨k, hk, rfl, hss⟩ := hrel;have SS := hid hss;have LA := hid HS.out.lA;have ED := hid (vY r (r.acks.take k) r.dk HD.out.1 HD.out.2)
 have SN := hid (show ∀ a, r.acks[k]? = some a → rE r (r.acks.take (k + 1)) r.dk = if vO r (rE r (r.acks.take k) r.dk) a = true then a.1 else rE r (r.acks.take k) r.dk from fun a ha => by
  rw [List.take_add_one, ha]
  exact ES r (r.acks.take k) a r.dk)
 obtain ⟨d, hd⟩ : ∃ d, d = rE r (r.acks.take k) r.dk := ⟨_, rfl⟩
 have HDK := hid hd;rw [← hd] at hss SS ED SN;have d0 : 0 ≤ d := ED.out.1;have d1 : d ≤ r.ds.length := ED.out.2;have dS := HS.out.lD;have aS := LA.out;clear hd hss S0;have cK := SS.out.k.cell;have fK := SS.out.k.free;have k1 := SS.out.k;have k2 := SS.out.z;by_cases hlt : k < r.acks.length
 ·obtain ⟨x, hx0⟩ : ∃ x, X.A[k]? = some x := ⟨_, List.getElem?_eq_getElem (by rw [← List.length_map (f := (·.1)), HM.out]; exact hlt)⟩
  have hx : Hid (r.acks[k]? = some x.1) := by
   show r.acks[k]? = some x.1;rw [← HM.out, List.getElem?_map, hx0]; rfl
  obtain ⟨gA, ea, _, c0, _⟩ := SS.out.has.a.kH hx0 (q := 0) (by omega) rfl;obtain ⟨gA', ea', _, c1, _⟩ := SS.out.has.a.kH hx0 (q := 1) (by omega) rfl;have e9 := di ea ea';subst e9;clear ea' hx0;obtain ⟨aS1, cS1, aD, cD, aH, cH, aW, cW, aY, cY, aB, cB, aA, cA⟩ := p;dsimp only at ea;subst ea;simp only [Nat.add_zero] at c0;have e1 : (0 : Int) ≤ (k : Int) := by omega
  have e2 : (k : Int) < (r.acks.length : Int) := by omega
  have XS : x.1.2.length ≤ 1048576 := HS.out.nA k _ hx.out;have e5 : IntKind.i64.wrap (2 * (x.1.2.length : Int)) = 2 * (x.1.2.length : Int) := by go_arith
  obtain ⟨q, rfl⟩ : ∃ q : Nat, d = (q : Int) := ⟨d.toNat, by omega⟩
  obtain ⟨⟨v, fl⟩, xa, xc⟩ := x;dsimp only at c0 c1 hx XS e5;have S1 := hid (SS.out.alloc (.cells #[.int .i64 v, .slice xa fl.length xc] 69));have cB := S1.out.k.cell;have fB := S1.out.k.free;have cN := (aC.new wr #[.int .i64 v, .slice xa fl.length xc] 69).cell;go_wp2_with fail;clear cK fK c0 c1 k1 k2;by_cases g1 : v = (q : Int) + 1
  ·subst g1;have u1 : decide ((q : Int) + 1 = (q : Int) + 1) = true := by simp
   by_cases g2 : r.of_ < 2 * (fl.length : Int)
   ·have u2 : decide (r.of_ < 2 * (fl.length : Int)) = true := decide_eq_true g2;by_cases g3 : q < r.ds.length
    ·have u3 : decide ((q : Int) + 1 ≤ (r.ds.length : Int)) = true := decide_eq_true (by omega);obtain ⟨t, ht⟩ : ∃ t, r.ds[q]? = some t := ⟨_, List.getElem?_eq_getElem g3⟩
     have HT := hid ht;obtain ⟨gD, ed, _, dc, _⟩ := S1.out.has.d.cell (iY r.ds q t ht).1;dsimp only at ed;subst ed;clear ht;have e6 : (0 : Int) ≤ (q : Int) := by omega
     have e7 : (q : Int) < (r.ds.length : Int) := by omega
     by_cases g4 : t.1 = r.ball
     ·have u4 : decide (t.1 = r.ball) = true := decide_eq_true g4
      go_quiet (fail)
      go_wp2_with fail;go_roundw;case rel => exact ⟨k + 1, by omega, by go_num, by rw [SN.out _ hx.out, if_pos (by simp [vO, g2, xN, HT.out, g4])]; exact (S1.out.ext (below_drewN (Below.refl _ _) _)).put _⟩
      case measure => simp [intOf]; omega
     have u4 : decide (t.1 = r.ball) = false := decide_eq_false g4
     go_quiet (fail)
     go_wp2_with fail;go_roundw;case rel => exact ⟨k + 1, by omega, by go_num, by rw [SN.out _ hx.out, if_neg (by simp [vO, xN, HT.out, g4])]; exact S1.out.ext (below_drewN (Below.refl _ _) _)⟩
     case measure => simp [intOf]; omega
    have u3 : decide ((q : Int) + 1 ≤ (r.ds.length : Int)) = false := decide_eq_false (by omega)
    go_quiet (fail)
    go_wp2_with fail;go_roundw;case rel => exact ⟨k + 1, by omega, by go_num, by rw [SN.out _ hx.out, if_neg (by simp [vO, xN, List.getElem?_eq_none (show r.ds.length ≤ q by omega)])]; exact S1.out.ext (below_drewN (Below.refl _ _) _)⟩
    case measure => simp [intOf]; omega
   have u2 : decide (r.of_ < 2 * (fl.length : Int)) = false := decide_eq_false g2
   go_quiet (fail)
   go_wp2_with fail;go_roundw;case rel => exact ⟨k + 1, by omega, by go_num, by rw [SN.out _ hx.out, if_neg (by simp [vO, u2])]; exact S1.out.ext (below_drewN (Below.refl _ _) _)⟩
   case measure => simp [intOf]; omega
  have e3 : IntKind.i64.wrap ((q : Int) + 1) = (q : Int) + 1 := by go_arith
  have u1 : (v == (q : Int) + 1) = false := beq_false_of_ne g1;have G1 := hid g1;clear g1
  go_quiet (fail)
  go_wp2_with fail;go_roundw;case rel => exact ⟨k + 1, by omega, by go_num, by rw [SN.out _ hx.out, if_neg (by simp [vO, G1.out])]; exact S1.out.ext (below_drewN (Below.refl _ _) _)⟩
  case measure => simp [intOf]; omega
 have e2 : ¬ (k : Int) < (r.acks.length : Int) := by omega
 obtain rfl : k = r.acks.length := by omega
 go_wp2_with (first
  | ((with_reducible refine ah w.heap.size (au (pX r d) p) rfl ?_ ?_ ?_); rfl; exact k1)
  | ((with_reducible refine af (w.heap.size + 1) bP (au (pX r d) p) rfl rfl ?_ ?_ ?_ ?_ ?_); rfl; rfl; exact k2; simp [Value.oneCell']))
 have hz := setRow_heap _ (w.heap.size + 1) _ (au (pX r d) p) _ _ k2;refine az (ty := 31) Try.results115 (w.heap.size + 1) (au (pX r d) p) _ ?_ ?_ hz Try.underlying31 rfl (by kernel_rfl) ?_
 ·rfl
 ·rfl
 have HR : pK r = pX r d := by rw [HDK.out, List.take_length]; rfl
 rw [HR];refine ⟨p, X, dm w.heap.size col, rfl, (SS.out.has.like (r' := pX r d) rfl rfl rfl rfl rfl rfl rfl).setRow (g := w.heap.size + 1) (by rw [bI (by omega)]; omega) _, ay (SS.out.bel.mono HB.out) (by have := HB.out; omega) _, fun b hb h8 => ⟨(setRow_other _ _ b _ (by omega)).trans (SS.out.bel.block b hb), by rw [bn hb]; exact h8⟩⟩
def jy : List Ak → Int → Int → List Ak
 | [], i, f => [(i, [f])]
 | x :: l, i, f => if x.1 < i then x :: jy l i f else if x.1 = i then (x.1, dN x.2 f) :: l else (i, [f]) :: x :: l
def lI (r : Rc) (i f : Int) : Rc := pK { r with acks := jy r.acks i f }
def insL (l : List Ak) (k : Nat) (i : Int) : List Ak := l.take k ++ [(i, [])] ++ l.drop k
theorem oO {k : Nat} (hk : k ≤ l.length) : (insL l k i).length = l.length + 1 := by
 unfold insL;simp;omega
theorem yY : ∀ {l : List Ak} {i f : Int} {k : Nat} {x : Ak}, (∀ (j : Nat) y, j < k → l[j]? = some y → y.1 < i) → l[k]? = some x → x.1 = i → jy l i f = l.set k (x.1, dN x.2 f)
 | [], i, f, k, x, _, h, _ => by simp at h
 | y :: l, i, f, 0, x, _, h, e => by
  simp only [List.getElem?_cons_zero, Option.some.injEq] at h;subst h;simp only [jy, if_neg (show ¬ y.1 < i by omega), if_pos e, List.set_cons_zero]
 | y :: l, i, f, k + 1, x, ha, h, e => by
  have h0 := ha 0 y (by omega) rfl;simp only [jy, if_pos h0, List.set_cons_succ, List.cons.injEq, true_and];exact yY (fun j z hj hz => ha (j + 1) z (by omega) (by simpa using hz)) (by simpa using h) e
theorem xq : ∀ {l : List Ak} {i f : Int} {k : Nat}, (∀ (j : Nat) y, j < k → l[j]? = some y → y.1 < i) → k ≤ l.length → (∀ y, l[k]? = some y → i < y.1) → jy l i f = (insL l k i).set k (i, [f])
 | [], i, f, k, _, hk, _ => by
  obtain rfl : k = 0 := by simpa using hk
  rfl
 | y :: l, i, f, 0, _, _, h => by
  have h0 := h y rfl;simp only [jy, if_neg (show ¬ y.1 < i by omega), if_neg (show ¬ y.1 = i by omega)];rfl
 | y :: l, i, f, k + 1, ha, hk, h => by
  have h0 := ha 0 y (by omega) rfl;have := xq (l := l) (i := i) (f := f) (k := k) (fun j z hj hz => ha (j + 1) z (by omega) (by simpa using hz)) (by simpa using hk) (fun z hz => h z (by simpa using hz));simp only [jy, if_pos h0, this];rfl
theorem rq {α : Type} {l : List α} {k : Nat} {x : α} (h : l[k]? = some x) (y : α) : l = l.take k ++ x :: l.drop (k + 1) ∧ l.set k y = l.take k ++ y :: l.drop (k + 1) ∧ (l.take k).length = k := by
 obtain ⟨hk, rfl⟩ := List.getElem?_eq_some_iff.1 h;refine ⟨?_, ?_, by simp; omega⟩
 ·conv => lhs; rw [← List.take_append_drop k l]
  rw [List.drop_eq_getElem_cons hk]
 rw [List.set_eq_take_append_cons_drop, if_pos hk]
theorem dJ (l m : List Ap) : bi (l ++ m) = bi l ++ bi m := by simp [bi]
theorem yt {H : List Ap} {k : Nat} (h : H[k]? = some x) (fl : List Int) (a : Option Addr) (c : Nat) : (bi H).set (k * 2 + 1) (.slice a fl.length c) = bi (H.set k ((x.1.1, fl), a, c)) := by
 obtain ⟨h1, h2, h3⟩ := rq h ((x.1.1, fl), a, c);have hl : (bi (H.take k)).length = k * 2 := by rw [mr, h3]
 rw [h2]
 conv => lhs; rw [h1]
 rw [dJ, dJ, List.set_append_right _ _ (by rw [hl]; omega), hl, show k * 2 + 1 - k * 2 = 1 by omega];rfl
theorem Hw {α : Type} {R : α → α → Prop} {l : List α} {k : Nat} {x y : α} (h : l[k]? = some x) (hp : l.Pairwise R) (h1 : ∀ z ∈ l, R z y) (h2 : ∀ z ∈ l, R y z) : (l.set k y).Pairwise R := by
 obtain ⟨e1, e2, _⟩ := rq h y;rw [e2];rw [e1] at hp;rw [List.pairwise_append, List.pairwise_cons] at hp ⊢;refine ⟨hp.1, ⟨fun z hz => h2 z ?_, hp.2.1.2⟩, fun u hu v hv => ?_⟩
 ·rw [e1]; simp [hz]
 rcases List.mem_cons.1 hv with rfl | hv
 ·exact h1 u (by rw [e1]; simp [hu])
 exact hp.2.2 u hu v (List.mem_cons_of_mem _ hv)
theorem IW {α : Type} {l : List α} {k : Nat} {y z : α} (h : z ∈ l.set k y) : z = y ∨ z ∈ l := by
 obtain ⟨i, hi⟩ := List.getElem?_of_mem h;rw [List.getElem?_set] at hi;split at hi
 ·split at hi
  ·simp only [Option.some.injEq] at hi; exact .inl hi.symm
  simp at hi
 exact .inr (List.mem_of_getElem? hi)
theorem FW {k : Nat} (h : jG l) (hi : ny i) (hl : fl.length ≤ maxLen) (hf : fJ ny fl) : jG (l.set k (i, fl)) := fun j s hs => by
 rw [List.getElem?_set] at hs;split at hs
 ·split at hs
  ·simp only [Option.some.injEq] at hs; subst hs; exact ⟨hi, hl, hf⟩
  simp at hs
 exact h j s hs
theorem Gm {k : Nat} (h : jG l) (hi : ny i) : jG (insL l k i) := fun j s hs => by
 have hm := List.mem_of_getElem? hs;unfold insL at hm;simp only [List.mem_append, List.mem_singleton] at hm;rcases hm with (hm | rfl) | hm
 ·obtain ⟨n, hn⟩ := List.getElem?_of_mem (List.mem_of_mem_take hm); exact h n s hn
 ·exact ⟨hi, Nat.zero_le _, fun n u hu => by simp at hu⟩
 obtain ⟨n, hn⟩ := List.getElem?_of_mem (List.mem_of_mem_drop hm); exact h n s hn
theorem nV : ∀ {l : List Int} {n : Int}, fJ ny l → ny n → fJ ny (dN l n) := by
 have key : ∀ (l : List Int) (n : Int), (∀ z ∈ l, ny z) → ny n → ∀ z ∈ dN l n, ny z := by
  intro l n;induction l with
  | nil => intro _ hn z hz; simp only [dN, List.mem_singleton] at hz; subst hz; exact hn
  | cons x l ih =>
   intro h hn z hz;unfold dN at hz;split at hz
   ·rcases List.mem_cons.1 hz with rfl | hz
    ·exact h _ (by simp)
    exact ih (fun y hy => h y (by simp [hy])) hn z hz
   split at hz
   ·exact h z hz
   rcases List.mem_cons.1 hz with rfl | hz
   ·exact hn
   exact h z hz
 intro l n h hn i s hs;refine key l n (fun z hz => ?_) hn s (List.mem_of_getElem? hs);obtain ⟨j, hj⟩ := List.getElem?_of_mem hz;exact h j z hj
theorem iP (l : List Int) (n : Int) : (dN l n).length ≤ l.length + 1 := by
 induction l with
 | nil => simp [dN]
 | cons x l ih =>
  unfold dN;split
  ·simp; omega
  split <;> simp
def eP (X : List Ap) (k : Nat) (i : Int) : List Ap := X.take k ++ [((i, []), none, 0)] ++ X.drop k
theorem wK {X : List Ap} {k : Nat} (h : X.map (·.1) = l) : (eP X k i).map (·.1) = insL l k i := by
 subst h;simp [eP, insL, List.map_take, List.map_drop]
theorem aG.Gp {a' : Option Addr} {c' k : Nat} (h : aG B w r p X col) (hr : aZ lo hi w 69 2 a' (eP X.A k i).length c' (bi (eP X.A k i))) (hB : B ≤ lo) (hf : ∀ x, a' = some x → 8 < col x.block) (hi0 : ny i) :
  aG B w { r with acks := insL r.acks k i } { p with aA := a', cA := c' } ⟨X.H, eP X.A k i⟩ (dM a' 6 col) := by
 have h1 := h.kG (u := 6) hf;have hrow : aO B w (dM a' 6 col) 6 69 2 a' (eP X.A k i).length c' (bi (eP X.A k i)) := (aO.mk (B := lo) hr.own (fun x hx => iL hx)).low hB;have hin : uj B w (dM a' 6 col) 8 (eP X.A k i) := by
  refine ⟨fun m hm => ?_, ?_⟩
  ·unfold eP at hm;simp only [List.mem_append, List.mem_singleton] at hm;rcases hm with (hm | rfl) | hm
   ·exact h1.ai.row m (List.mem_of_mem_take hm)
   ·exact jb _ _ _ _ _ _
   exact h1.ai.row m (List.mem_of_mem_drop hm)
  have hp := h1.ai.apart
  conv at hp => rw [← List.take_append_drop k X.A]
  unfold eP;rw [List.append_assoc, List.pairwise_append] at *;refine ⟨hp.1, ?_, fun u hu v hv => ?_⟩
  ·rw [List.singleton_append, List.pairwise_cons];exact ⟨fun v hv x x' hx => by simp at hx, hp.2.1⟩
  rw [List.singleton_append] at hv;rcases List.mem_cons.1 hv with rfl | hv
  ·intro x x' _ hx'; simp at hx'
  exact hp.2.2 u hu v hv
 have h2 := h1.JG hrow hin (by rw [wK h.am]; exact Gm h.gd.a hi0);rw [wK h.am] at h2;exact h2
theorem aG.Gu {k : Nat} (h : aG B w r p X col) (hx : X.A[k]? = some x) (hg : p.aA = some ⟨g, 0, none⟩) (hr : aZ lo hi w 3 1 a2 fl.length c2 (aV fl)) (hB : B ≤ lo) (hf : ∀ x, a2 = some x → 8 < col x.block) (hgl : fl.length ≤ maxLen) (hgf : fJ ny fl) :
  aG B (w.setCell ⟨g, k * 2 + 1, none⟩ (.slice a2 fl.length c2)) { r with acks := r.acks.set k (x.1.1, fl) } p ⟨X.H, X.A.set k ((x.1.1, fl), a2, c2)⟩ (dM a2 8 col) := by
 have h1 := h.kG (u := 8) hf;have hxm : r.acks[k]? = some x.1 := by rw [← h.am, List.getElem?_map, hx]; rfl
 have hnew : aO B w (dM a2 8 col) 8 3 1 a2 fl.length c2 (aV fl) := (aO.mk (B := lo) hr.own (fun x hx => iL hx)).low hB;have hmap : (X.A.set k ((x.1.1, fl), a2, c2)).map (·.1) = r.acks.set k (x.1.1, fl) := by rw [List.map_set, h.am]
 have hin : uj B w (dM a2 8 col) 8 (X.A.set k ((x.1.1, fl), a2, c2)) := by
  refine ⟨fun m hm => ?_, ?_⟩
  ·rcases IW hm with rfl | hm
   ·exact hnew
   exact h1.ai.row m hm
  have ne : ∀ z ∈ X.A, ∀ y y', z.2.1 = some y → a2 = some y' → y.block ≠ y'.block := fun z hz y y' hy hy' e => by
   have q1 := (h.ai.row z hz).col y hy;have q2 := hf y' hy';rw [← e] at q2;omega
  exact Hw hx h1.ai.apart (fun z hz y y' hy hy' => ne z hz y y' hy hy') (fun z hz y y' hy hy' e => ne z hz y' y hy' hy e.symm)
 have ho := h1.a.own;rw [hg] at ho;have hst := ho.stored (k * 2 + 1) (.slice a2 fl.length c2);rw [yt hx] at hst;have hc6 : ∀ b, b ≠ g → (w.setCell ⟨g, k * 2 + 1, none⟩ (.slice a2 fl.length c2)).heap[b]? = w.heap[b]? := fun b hb => heap_setCell_other w ⟨g, k * 2 + 1, none⟩ b _ (fun e => hb e)
 have hcg : dM a2 8 col g = 6 := h1.a.col _ hg;have h2 := h1.Ju (w' := w.setCell ⟨g, k * 2 + 1, none⟩ (.slice a2 fl.length c2)) (l := X.A.set k ((x.1.1, fl), a2, c2)) (by rw [List.length_set, ← h.am, List.length_map]) (fun b hb hne => hc6 b (fun e => hne (by rw [e]; exact hcg))) (by rw [hg]; exact hst.1) hin (by rw [hmap]; exact FW h.gd.a (h.gd.a k _ hxm).1 hgl hgf);rw [hmap] at h2;exact h2
theorem CE (a1 a2 : Option Addr) (l1 l2 : List Sl) (n1 n2 c1 c2 : Nat) (w : World) (hn1 : l1.length = n1) (hn2 : l2.length = n2) (hc1 : n1 ≤ 1048576) (hc2 : n2 ≤ 1048576) (ha1 : a1 = none → c1 = 0) (hs1 : ∀ x, a1 = some x → x.spot = none) (h1 : cO w a1 l1) (h2 : cO w a2 l2) :
  Calls Try.prog 17 #[.slice a1 n1 c1, .slice a2 n2 c2] w fun e w' => ∃ g cap, e = .returned (.slice (some ⟨g, 0, none⟩) (max n1 n2) cap) ∧ w.heap.size ≤ g ∧ w'.ownsRow w.heap.size 43 2 (.slice (some ⟨g, 0, none⟩) (max n1 n2) cap) (max n1 n2) (flat (dY l1 l2)) ∧ Below w.heap.size w w' := by
 have HL : Hid (l1.length = n1 ∧ l2.length = n2) := ⟨hn1, hn2⟩
 have HB2 := hid h2;clear hn1 hn2 h2;go_enter Try.func17, Try.ntmps17;go_wp2_with fail;refine (mV a1 l1 n1 c1 _ HL.out.1 hc1 ha1 hs1 h1).mono ?_;rintro e w1 ⟨g0, cap0, rfl, hg0, hown0, hb0⟩;have HO := hid hown0;have HBel := hid hb0;clear hown0 hb0 h1 ha1 hs1;go_wp2_with fail;go_loopw [5, 6] (fun v i wr => ∃ (k g cap : Nat), k ≤ n2 ∧ i = .int .i64 k ∧ v = .slice (some ⟨g, 0, none⟩) (max n1 k : Nat) cap ∧ w.heap.size ≤ g ∧ wr.ownsRow w.heap.size 43 2 (.slice (some ⟨g, 0, none⟩) (max n1 k : Nat) cap) (max n1 k : Nat) (flat (dY l1 (l2.take k))) ∧ Below w.heap.size w wr) (fun _ i _ => n2 - (intOf i).toNat);case atStart => exact ⟨0, g0, cap0, Nat.zero_le _, rfl, by rw [Nat.max_eq_left (Nat.zero_le _)], hg0, by rw [Nat.max_eq_left (Nat.zero_le _), List.take_zero, BI]; exact HO.out, HBel.out⟩
 obtain ⟨k, g, cap, hk, rfl, rfl, hg, hown, hbel⟩ := hrel;have HW := hid hown;have HBe := hid hbel;clear hown hbel HO HBel;by_cases hlt : k < n2
 ·obtain ⟨y, hy0⟩ : ∃ s, l2[k]? = some s := ⟨_, List.getElem?_eq_getElem (by rw [HL.out.2]; exact hlt)⟩
  have hy := hid hy0;obtain ⟨b2, o2, rfl, _, c0, c1, _⟩ := (HB2.out.ext HBe.out) k y hy0;clear hy0;have e1 : (0 : Int) ≤ (k : Int) := by omega
  have e2 : (k : Int) < (n2 : Int) := by omega
  by_cases hkn : n1 ≤ k
  ·have hm : max n1 k = k := Nat.max_eq_right hkn;rw [hm] at HW ⊢;have NEWS := hid (dG (show aC (wr.alloc (.cells #[.int .i64 y.1, .string y.2] 43)) wr.heap.size (flat [y]).toArray 43 from aC.new wr _ _));have HSZ := hid (show w.heap.size ≤ (wr.alloc (.cells #[.int .i64 y.1, .string y.2] 43)).heap.size from Nat.le_trans HBe.out.size (by simp));go_wp2_with ((with_reducible refine lK w.heap.size (.slice (some ⟨g, 0, none⟩) k cap) (dY l1 (l2.take k)) [y] k 1 1 ⟨wr.heap.size, 0, none⟩ ?_ ?_ ?_ ?_ ?_ ?_ ?_ ?_); rfl; rfl; (· exact HW.out.alloc _); rfl; exact NEWS.out; (· omega); exact HSZ.out; intro v' w' q1 q2 q3; have Q1 := hid q1; have Q2 := hid q2; have Q3 := hid q3; clear q1 q2 q3);obtain ⟨g', cap', rfl, hb, _⟩ := Ai Q1.out (fun e => by have := (Q3.out.1 e).1; simp at this);go_roundw;case rel =>
    refine ⟨k + 1, g', cap', by omega, by go_num, by rw [Nat.max_eq_right (by omega)], hb, ?_, jS (ae HBe.out _) Q2.out (fun j hj => by simp [Value.ownBlock] at hj; omega)⟩;rw [Nat.max_eq_right (by omega), BX (by rw [HL.out.1]; exact hkn) hy.out];exact Q1.out
   case measure => simp [intOf]; omega
  have hm : max n1 k = n1 := Nat.max_eq_left (by omega);rw [hm] at HW ⊢;obtain ⟨x, hx0⟩ : ∃ s, l1[k]? = some s := ⟨_, List.getElem?_eq_getElem (by rw [HL.out.1]; omega)⟩
  have hx := hid hx0;have hf := iY _ k x (BJ (b := l2) hx0);have d0 : wr.cell? ⟨g, k * 2, none⟩ = some (.int .i64 x.1) := (HW.out.cellAt (k * 2) (by omega)).trans hf.1;have d1 : wr.cell? ⟨g, k * 2 + 1, none⟩ = some (.string x.2) := (HW.out.cellAt (k * 2 + 1) (by omega)).trans hf.2;have ff := HW.out.frozenAt;have e3 : (k : Int) < (n1 : Int) := by omega
  have e4 : ¬ (k : Int) = (n1 : Int) := by omega
  have e5 : ¬ k = n1 := by omega
  clear hx0 hf;by_cases hxy : x.1 < y.1
  ·go_wp2_with fail
   go_quiet (fail)
   go_wp2;go_roundw;case rel =>
    refine ⟨k + 1, g, cap, by omega, by go_num, by rw [Nat.max_eq_left (by omega)], hg, ?_, (((below_drewN HBe.out _).setCell hg _).setCell hg _)⟩;rw [Nat.max_eq_left (by omega), Bv hx.out hy.out hxy, wR];exact (World.ownsRow.stored (World.ownsRow.stored (show (wr.drewN _).ownsRow _ _ _ _ _ _ from HW.out) (k * 2) _).1 (k * 2 + 1) _).1
   case measure => simp [intOf]; omega
  go_wp2_with fail
  go_quiet (fail)
  go_wp2;go_roundw;case rel =>
   refine ⟨k + 1, g, cap, by omega, by go_num, by rw [Nat.max_eq_left (by omega)], hg, ?_, below_drewN HBe.out _⟩;rw [Nat.max_eq_left (by omega), Ag hx.out hy.out (by omega)];exact HW.out
  case measure => simp [intOf]; omega
 go_wp2;go_ret;have hkk : k = n2 := by omega
 subst hkk;refine ⟨g, cap, rfl, hg, ?_, HBe.out⟩;have := HW.out;rw [Az l1 l2 (by rw [HL.out.2]; omega)] at this;exact this
def L8 (B : Nat) (w : World) (col : Nat → Nat) (r' : Rc) (e : Ending) (w' : World) : Prop := ∃ p' X' col', e = .returned (.agg (au r' p')) ∧ aG B w' r' p' X' col' ∧ Below w.heap.size w w' ∧ (∀ b, b < w.heap.size → col' b = col b) ∧ ∀ x, p'.aB = some x → w.heap.size ≤ x.block
theorem yS (B : Nat) (r : Rc) (p : fU) (X : iU) (col : Nat → Nat) (w : World) (hB : B ≤ w.heap.size) (h : aG B w r p X col) :
  Calls Try.prog 65 #[.agg (au r p)] w (L8 B w col (aU r)) := by
 obtain ⟨aS, cS, aD, cD, aH, cH, aW, cW, aY, cY, aB, cB, aA, cA⟩ := p;have RD := hid h;have HB := hid hB;clear h hB;have k1 : aC (((((w.alloc (.cells (au (aU r) ⟨aS, cS, aD, cD, aH, cH, aW, cW, some ⟨w.heap.size + 1 + 1, 0, none⟩, 0, some ⟨w.heap.size + 1 + 1 + 1, 0, none⟩, 0, some ⟨w.heap.size + 1 + 1 + 1 + 1, 0, none⟩, 0⟩) 31)).alloc (.cells bP 31)).alloc (.cells #[] 3)).alloc (.cells #[] 43)).alloc (.cells #[] 69)) w.heap.size (au (aU r) ⟨aS, cS, aD, cD, aH, cH, aW, cW, some ⟨w.heap.size + 1 + 1, 0, none⟩, 0, some ⟨w.heap.size + 1 + 1 + 1, 0, none⟩, 0, some ⟨w.heap.size + 1 + 1 + 1 + 1, 0, none⟩, 0⟩) 31 := ((((aC.new _ _ _).alloc _).alloc _).alloc _).alloc _;have k2 : aC (((((w.alloc (.cells (au (aU r) ⟨aS, cS, aD, cD, aH, cH, aW, cW, some ⟨w.heap.size + 1 + 1, 0, none⟩, 0, some ⟨w.heap.size + 1 + 1 + 1, 0, none⟩, 0, some ⟨w.heap.size + 1 + 1 + 1 + 1, 0, none⟩, 0⟩) 31)).alloc (.cells bP 31)).alloc (.cells #[] 3)).alloc (.cells #[] 43)).alloc (.cells #[] 69)) (w.heap.size + 1) bP 31 := (((aC.new' _ _ (by simp)).alloc _).alloc _).alloc _;have kY := hid (show aC (((((w.alloc (.cells (au (aU r) ⟨aS, cS, aD, cD, aH, cH, aW, cW, some ⟨w.heap.size + 1 + 1, 0, none⟩, 0, some ⟨w.heap.size + 1 + 1 + 1, 0, none⟩, 0, some ⟨w.heap.size + 1 + 1 + 1 + 1, 0, none⟩, 0⟩) 31)).alloc (.cells bP 31)).alloc (.cells #[] 3)).alloc (.cells #[] 43)).alloc (.cells #[] 69)) (w.heap.size + 1 + 1) #[] 3 from ((aC.new' _ _ (by simp)).alloc _).alloc _);have kB := hid (show aC (((((w.alloc (.cells (au (aU r) ⟨aS, cS, aD, cD, aH, cH, aW, cW, some ⟨w.heap.size + 1 + 1, 0, none⟩, 0, some ⟨w.heap.size + 1 + 1 + 1, 0, none⟩, 0, some ⟨w.heap.size + 1 + 1 + 1 + 1, 0, none⟩, 0⟩) 31)).alloc (.cells bP 31)).alloc (.cells #[] 3)).alloc (.cells #[] 43)).alloc (.cells #[] 69)) (w.heap.size + 1 + 1 + 1) #[] 43 from (aC.new' _ _ (by simp)).alloc _);have kA := hid (show aC (((((w.alloc (.cells (au (aU r) ⟨aS, cS, aD, cD, aH, cH, aW, cW, some ⟨w.heap.size + 1 + 1, 0, none⟩, 0, some ⟨w.heap.size + 1 + 1 + 1, 0, none⟩, 0, some ⟨w.heap.size + 1 + 1 + 1 + 1, 0, none⟩, 0⟩) 31)).alloc (.cells bP 31)).alloc (.cells #[] 3)).alloc (.cells #[] 43)).alloc (.cells #[] 69)) (w.heap.size + 1 + 1 + 1 + 1) #[] 69 from aC.new' _ _ (by simp));have BV := hid (show Below w.heap.size w (((((w.alloc (.cells (au (aU r) ⟨aS, cS, aD, cD, aH, cH, aW, cW, some ⟨w.heap.size + 1 + 1, 0, none⟩, 0, some ⟨w.heap.size + 1 + 1 + 1, 0, none⟩, 0, some ⟨w.heap.size + 1 + 1 + 1 + 1, 0, none⟩, 0⟩) 31)).alloc (.cells bP 31)).alloc (.cells #[] 3)).alloc (.cells #[] 43)).alloc (.cells #[] 69)) from ae (ae (ae (ae (ae (Below.refl _ _) _) _) _) _) _);go_enter Try.func65, Try.ntmps65
 go_wp2_with (first
  | ((with_reducible refine ah w.heap.size (au (aU r) ⟨aS, cS, aD, cD, aH, cH, aW, cW, some ⟨w.heap.size + 1 + 1, 0, none⟩, 0, some ⟨w.heap.size + 1 + 1 + 1, 0, none⟩, 0, some ⟨w.heap.size + 1 + 1 + 1 + 1, 0, none⟩, 0⟩) rfl ?_ ?_ ?_); rfl; exact k1)
  | ((with_reducible refine af (w.heap.size + 1) bP (au (aU r) ⟨aS, cS, aD, cD, aH, cH, aW, cW, some ⟨w.heap.size + 1 + 1, 0, none⟩, 0, some ⟨w.heap.size + 1 + 1 + 1, 0, none⟩, 0, some ⟨w.heap.size + 1 + 1 + 1 + 1, 0, none⟩, 0⟩) rfl rfl ?_ ?_ ?_ ?_ ?_); rfl; rfl; exact k2; simp [Value.oneCell']))
 have hz := setRow_heap _ (w.heap.size + 1) _ (au (aU r) ⟨aS, cS, aD, cD, aH, cH, aW, cW, some ⟨w.heap.size + 1 + 1, 0, none⟩, 0, some ⟨w.heap.size + 1 + 1 + 1, 0, none⟩, 0, some ⟨w.heap.size + 1 + 1 + 1 + 1, 0, none⟩, 0⟩) _ _ k2;refine az (ty := 31) Try.results65 (w.heap.size + 1) (au (aU r) ⟨aS, cS, aD, cD, aH, cH, aW, cW, some ⟨w.heap.size + 1 + 1, 0, none⟩, 0, some ⟨w.heap.size + 1 + 1 + 1, 0, none⟩, 0, some ⟨w.heap.size + 1 + 1 + 1 + 1, 0, none⟩, 0⟩) _ ?_ ?_ hz Try.underlying31 rfl (by kernel_rfl) ?_
 ·rfl
 ·rfl
 have SO := fun (b : Nat) (hb : b ≠ w.heap.size + 1) => setRow_other (((((w.alloc (.cells (au (aU r) ⟨aS, cS, aD, cD, aH, cH, aW, cW, some ⟨w.heap.size + 1 + 1, 0, none⟩, 0, some ⟨w.heap.size + 1 + 1 + 1, 0, none⟩, 0, some ⟨w.heap.size + 1 + 1 + 1 + 1, 0, none⟩, 0⟩) 31)).alloc (.cells bP 31)).alloc (.cells #[] 3)).alloc (.cells #[] 43)).alloc (.cells #[] 69)) (w.heap.size + 1) b (au (aU r) ⟨aS, cS, aD, cD, aH, cH, aW, cW, some ⟨w.heap.size + 1 + 1, 0, none⟩, 0, some ⟨w.heap.size + 1 + 1 + 1, 0, none⟩, 0, some ⟨w.heap.size + 1 + 1 + 1 + 1, 0, none⟩, 0⟩) hb
 exact ⟨_, _, _, rfl, aG.calm (gY := w.heap.size + 1 + 1) (gB := w.heap.size + 1 + 1 + 1) (gA := w.heap.size + 1 + 1 + 1 + 1) RD.out (ay BV.out (by omega) _) HB.out ((SO _ (by omega)).trans kY.out) ((SO _ (by omega)).trans kB.out) ((SO _ (by omega)).trans kA.out) (by omega) (by omega) (by omega), ay BV.out (by omega) _, fun b hb => if_pos hb, fun x hx => by simp only [Option.some.injEq] at hx; rw [← hx]; show w.heap.size ≤ w.heap.size + 1 + 1 + 1; omega⟩
def wipe (g : Nat) (col : Nat → Nat) (b : Nat) : Nat := if b = g then 9 else col b
theorem aO.wipe {k : Nat} (h : aO B w col t e k a n c xs) (hg : ∀ x, a = some x → x.block ≠ g) : aO B w (wipe g col) t e k a n c xs :=
 ⟨h.own, fun x hx => by unfold Go.Proofs.Ytjdceoimignnpaa.wipe; rw [if_neg (hg x hx)]; exact h.col x hx⟩
theorem aO.far {u : Nat} {k : Nat} (h : aO B w col t e k a n c xs) (hg : col g = u) (hne : t ≠ u) : ∀ x, a = some x → x.block ≠ g := fun x hx q => by
 have := h.col x hx;rw [q, hg] at this;exact hne this.symm
theorem aG.LG (h : aG B w r p X col) (hg : col g = 5) (hb : ∀ x, p.aB = some x → x.block ≠ g) : aG B w r p X (wipe g col) :=
 ⟨h.s.wipe (h.s.far hg (by decide)), h.d.wipe (h.d.far hg (by decide)), h.h.wipe (h.h.far hg (by decide)), h.hm, ⟨fun m hm => (h.hi.row m hm).wipe ((h.hi.row m hm).far hg (by decide)), h.hi.apart⟩, h.t.wipe (h.t.far hg (by decide)), h.y.wipe (h.y.far hg (by decide)), h.b.wipe hb, h.a.wipe (h.a.far hg (by decide)), h.am, ⟨fun m hm => (h.ai.row m hm).wipe ((h.ai.row m hm).far hg (by decide)), h.ai.apart⟩, h.gd⟩
theorem IV {b : Nat} (h : b ≠ g) : wipe g col b = col b := if_neg h
theorem IE (g : Nat) (col : Nat → Nat) : 8 < wipe g col g := by unfold wipe; rw [if_pos rfl]; omega
theorem aG.IZ (h : aG B w r p X col) (hr : (a2 = p.aY ∧ c2 = p.cY ∧ fl = r.yes) ∨ aZ lo hi w 3 1 a2 fl.length c2 (aV fl)) (hB : B ≤ lo) (hf : ∀ b, lo ≤ b → 8 < col b) (hgf : fJ ny fl) :
  ∃ col', aG B w { r with yes := fl } { p with aY := a2, cY := c2 } X col' ∧ (∀ b, b < lo → col' b = col b) ∧ ∀ b, hi ≤ b → col' b = col b := by
 rcases hr with ⟨rfl, rfl, rfl⟩ | hr
 ·exact ⟨col, h, fun b _ => rfl, fun b _ => rfl⟩
 refine ⟨dM a2 4 col, (h.kG (u := 4) (fun x hx => hf _ (hr.lo x hx).1)).JK ((aO.mk (B := lo) hr.own (fun x hx => iL hx)).low hB) hgf, fun b hb => ?_, fun b hb => ?_⟩
 ·unfold dM;split
  ·rename_i e;rw [Option.map_eq_some_iff] at e;obtain ⟨y, hy, rfl⟩ := e;have := (hr.lo y hy).1;omega
  rfl
 unfold dM;split
 ·rename_i e;rw [Option.map_eq_some_iff] at e;obtain ⟨y, hy, rfl⟩ := e;have := hr.hi y hy;omega
 rfl
end Go.Proofs.Ytjdceoimignnpaa
