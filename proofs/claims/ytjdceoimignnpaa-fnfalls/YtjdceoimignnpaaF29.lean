import Derived.Test.YtjdceoimignnpaaF27
import Derived.Test.YtjdceoimignnpaaF28
import Derived.Test.YtjdceoimignnpaaF24
import Derived.Lib.AppendZerosOnto
import Derived.Lib.Overlaps
import Derived.Laws.Externs
import Derived.Shelf.RegionOpenPlain
import Derived.WalkArith
namespace Go.Proofs.Ytjdceoimignnpaa
open Go.ChangeShapes Go.WideShapes Go.ChangeAt Go.RowKit Go.Deep Go.Joins next Go.Shelf Go.Lib
set_option linter.unusedVariables false
set_option linter.unusedSimpArgs false
set_option maxHeartbeats 8000000
set_option maxRecDepth 100000
variable {l : List Sl} {k : Nat}
theorem qY (r : Rc) (p : fU) (w : World) (hW : Hid (r.wish.length ≤ p.cW)) (h : oL w r p) :
  Calls Try.prog 12 #[.agg (au r p)] w fun e w' => e = .returned (.bool (bf r)) ∧ Below w.heap.size w w' := by
 by_cases hN : ¬ ((inB r.of_ 1 5 && inB r.num 1 r.of_) = true ∧ bW r.sp r.sk r.ss = true ∧ bW r.dp r.dk r.ds = true)
 ·exact Nh r p w hW h  hN
 obtain ⟨g0, g1, g2⟩ := Classical.not_not.1 hN;clear hN;by_cases hN : ¬ (fO r.num r.of_ r.held = true ∧ dF r.wish = true ∧ inB r.heard 0 1000000 = true)
 ·exact Nw r p w hW h g0 g1 g2 hN
 obtain ⟨g3, g4, g5⟩ := Classical.not_not.1 hN;clear hN;by_cases hN : ¬ (dh r.of_ r.yes = true ∧ bM r.best = true ∧ dZ r.of_ r.acks = true)
 ·exact Nc r p w hW h g0 g1 g2 g3 g4 g5 hN
 obtain ⟨g6, g7, g8⟩ := Classical.not_not.1 hN;clear hN;cases hl : r.lead
 ·cases ht : r.tr
  ·exact Nq r p w hW h g0 g1 g2 g3 g4 g5 g6 g7 g8 hl ht
  exact Nv r p w hW h g0 g1 g2 g3 g4 g5 g6 g7 g8 hl ht
 cases ht : r.tr
 ·exact Na r p w hW h g0 g1 g2 g3 g4 g5 g6 g7 g8 hl ht
 exact Nr r p w hW h g0 g1 g2 g3 g4 g5 g6 g7 g8 hl ht
def mY (l : List Sl) : List Int := l.map fun s => s.1
theorem oJ {s : Sl} (h : l[k]? = some s) : (mY l)[k]? = some s.1 := by simp [mY, h]
theorem qX (l : List Sl) : (mY l).length = l.length := by simp [mY]
def qC (l : List Sl) : Bool := dh 60 (mY l) && l.all fun s => decide (s.2.size ≤ 100)
def xQ (n : Nat) (i : Nat) (r : Rc) : Bool := bf r && decide (r.num = (i : Int) + 1) && decide (r.of_ = (n : Int))
def xK (l : List Rc) : Bool := (List.range l.length).all fun i => match l[i]? with | some r => xQ l.length i r | none => true
def La (of_ : Nat) (l : List Ms) : Bool := decide (l.length ≤ 600) && l.all fun m => bY m.1 of_ m.2
def gp (d : Wd) : Bool := inB d.recs.length 1 5 && xK d.recs && La d.recs.length d.fl && qC d.fx
theorem Jp {l : List Rc} {n : Nat} (hn : l.length = n) (h : ∀ (i : Nat) r, i < n → l[i]? = some r → xQ n i r = true) : xK l = true := by
 subst hn;unfold xK;rw [List.all_eq_true];intro i hi;have hi' : i < l.length := by simpa using hi
 rw [List.getElem?_eq_getElem hi'];exact h i _ hi' (List.getElem?_eq_getElem hi')
theorem wW {l : List Rc} {n : Nat} {r : Rc} (hn : l.length = n) (hs : l[k]? = some r) (h : xQ n k r = false) : xK l = false := by
 subst hn;unfold xK;rw [List.all_eq_false];exact ⟨k, by simpa using (List.getElem?_eq_some_iff.1 hs).1, by rw [hs]; simp [h]⟩
theorem Dz {α : Type} {f : α → Bool} {l : List α} {n : Nat} (hn : l.length = n) (h : ∀ (i : Nat) s, i < n → l[i]? = some s → f s = true) : l.all f = true := by
 rw [List.all_eq_true];intro s hs;obtain ⟨i, hi, rfl⟩ := List.getElem_of_mem hs;exact h i _ (by omega) (List.getElem?_eq_getElem hi)
theorem Dy {α : Type} {f : α → Bool} {l : List α} {k : Nat} {s : α} (hs : l[k]? = some s) (h : f s = false) : l.all f = false := by
 rw [List.all_eq_false];exact ⟨s, List.mem_of_getElem? hs, by simp [h]⟩
theorem yF (h : bM l = true) : l.length ≤ 60 := by
 unfold bM at h;simp only [Bool.and_eq_true, decide_eq_true_eq] at h;omega
theorem zK {x y : Int} (h : bW x y l = true) : l.length ≤ 60 := by
 simp only [bW, Bool.and_eq_true] at h;exact yF h.1.1.2
theorem uI {r : Rc} (h : bf r = true) : 1 ≤ r.num ∧ r.num ≤ r.of_ ∧ r.of_ ≤ 5 := by
 unfold bf at h;simp only [Bool.and_eq_true] at h;have h1 := bK.1 h.1.1.1.1.1.1.1.1.1.1.1.1;have h2 := bK.1 h.1.1.1.1.1.1.1.1.1.1.1.2;exact ⟨h2.1, h2.2, h1.2⟩
theorem vG {r : Rc} (h : bf r = true) : 0 ≤ r.heard ∧ r.heard ≤ 1000000 := by
 unfold bf at h;simp only [Bool.and_eq_true] at h;exact bK.1 h.1.1.1.1.1.1.2
theorem qf {r : Rc} (h : bf r = true) : r.acks.length ≤ 60 ∧ (∀ a ∈ r.acks, a.2.length ≤ 5) ∧ r.ss.length ≤ 60 ∧ r.ds.length ≤ 60 ∧ r.best.length ≤ 60 ∧ r.yes.length ≤ 5 := by
 have hn := uI h;unfold bf at h;simp only [Bool.and_eq_true] at h;obtain ⟨⟨⟨⟨⟨⟨⟨⟨⟨⟨⟨⟨h1, h2⟩, h3⟩, h4⟩, h5⟩, h6⟩, h7⟩, h8⟩, h9⟩, h10⟩, h11⟩, h12⟩, h13⟩ := h;have hac := h10;simp only [dZ, Bool.and_eq_true] at hac;have ha := lq hac.1 (by omega);rw [oq] at ha;have hy := lq h8 (by omega);refine ⟨by omega, fun a hm => ?_, zK h3, zK h4, yF h9, by omega⟩;have := lq (List.all_eq_true.1 hac.2 a hm) (by omega);omega
structure DV (x : Rc) : Prop where
 lead : mX 0 x
 ss : x.ss.length ≤ 60
 ds : x.ds.length ≤ 60
 of_ : 1 ≤ x.of_ ∧ x.of_ ≤ 5
 num : 1 ≤ x.num ∧ x.num ≤ 5
 best : x.best.length ≤ 60
 yes : x.yes.length ≤ 6
 held : x.held = []
 heard : 0 ≤ x.heard ∧ x.heard ≤ 1000000
theorem Hf {r : Rc} (h : bf r = true) (hS : bD r) : DV (iy r) := by
 have hn := uI h;have hl := qf h;have ht := pJ h hS;have hh := vG h;refine ⟨⟨ht.d0, ht.d1, ⟨hS.lD, hS.lD, Nat.zero_le _, Nat.le_trans (List.length_filter_le _ _) hS.lW, hS.lY, hS.lB, hS.lA, fun i s hs => by simp [iy] at hs, hS.nA⟩, (show r.acks.length ≤ 1000 + 0 by have := hl.1; omega), fun a ha => by have := hl.2.1 a ha; omega, ht.ba, ku (show 0 ≤ r.num by omega) (show r.num ≤ 1000000 by omega)⟩, hl.2.2.2.1, hl.2.2.2.1, ⟨(show 1 ≤ r.of_ by omega), hn.2.2⟩, ⟨hn.1, (show r.num ≤ 5 by omega)⟩, hl.2.2.2.2.1, (show r.yes.length ≤ 6 by have := hl.2.2.2.2.2; omega), rfl, ?_⟩;show 0 ≤ (if r.heard < 1000000 then r.heard + 1 else r.heard) ∧ (if r.heard < 1000000 then r.heard + 1 else r.heard) ≤ 1000000;split <;> omega
theorem xh (b : Int) : ∀ (t : List Sl) (i : Nat) (ds : List Sl), ds.length ≤ (rJ b t i ds).length
 | [], _, ds => Nat.le_refl _
 | s :: t, i, ds => by
  have h1 := xh b t (i + 1) (nU ds (i + 1) (b, s.2));rw [oP] at h1;unfold rJ;omega
theorem Hz {x : Rc} (h : DV x) : DV (fV x) := by
 unfold fV;split
 ·unfold jl;have hm : (dY x.best x.ds).length ≤ 60 := by rw [kT]; have := h.best; have := h.ds; omega
  split
  ·rename_i hq;have hy := iP x.yes x.num;have h1 := h.lead.sm;exact ⟨⟨h.lead.d0, h.lead.d1, ⟨h1.lS, h1.lD, h1.lH, h1.lW, (show (dN x.yes x.num).length ≤ 1048576 by have := h.yes; omega), (show (dY x.best x.ds).length ≤ 1048576 by omega), h1.lA, h1.nH, h1.nA⟩, h.lead.a1, h.lead.a2, h.lead.ba, h.lead.nu⟩, h.ss, h.ds, h.of_, h.num, hm, (show (dN x.yes x.num).length ≤ 6 by have := h.of_.2; omega), h.held, h.heard⟩
  ·have hd : (jk x (dY x.best x.ds)).length ≤ 60 ∧ x.ds.length ≤ (jk x (dY x.best x.ds)).length := by
    unfold jk;have h1 := uK x.ball ((dY x.best x.ds).drop x.dk.toNat) x.dk.toNat x.ds;have h2 := xh x.ball ((dY x.best x.ds).drop x.dk.toNat) x.dk.toNat x.ds;rw [List.length_drop] at h1;have := h.ds;have := h.lead.d0;have := h.lead.d1;exact ⟨by omega, h2⟩
   have h1 := h.lead.sm;exact ⟨⟨h.lead.d0, (show x.dk ≤ ((jk x (dY x.best x.ds)).length : Int) by have := h.lead.d1; have := hd.2; omega), ⟨h1.lS, (show (jk x (dY x.best x.ds)).length ≤ 1048576 by have := hd.1; omega), h1.lH, h1.lW, Nat.zero_le _, Nat.zero_le _, Nat.zero_le _, h1.nH, fun i s hs => by simp [aU] at hs⟩, Nat.zero_le _, fun a ha => by simp [aU] at ha, h.lead.ba, h.lead.nu⟩, h.ss, hd.1, h.of_, h.num, Nat.zero_le _, Nat.zero_le _, h.held, h.heard⟩
 ·exact h


def Lu (l : List Int) : Prop := ∀ (i j : Nat) s t, l[i]? = some s → l[j]? = some t → i < j → s < t
theorem zM {B : Nat} {w w' : World} {e : TypeId} {a : Option Addr} {n c : Nat} {xs : List Value} (h : w.ownsRow B e k (.slice a n c) n xs) (hb : Below w.heap.size w w') : w'.ownsRow B e k (.slice a n c) n xs := by
 refine ⟨h.1, ?_⟩;rcases h.2 with h0 | ⟨g, cap, cur, hv, hB, hg, r⟩
 ·exact .inl h0
 exact .inr ⟨g, cap, cur, hv, hB, (hb.block g (aC.lt hg)).trans hg, r⟩
theorem Dk {ks : List Int} (h : ∀ i, 0 < i → i < ks.length → ks.getD (i - 1) 0 < ks.getD i 0) : ∀ (d i : Nat), i + d + 1 < ks.length → ks.getD i 0 < ks.getD (i + d + 1) 0
 | 0, i, hl => by have := h (i + 1) (by omega) (by omega); simpa using this
 | d + 1, i, hl => by
  have h1 := Dk h d i (by omega);have h2 := h (i + (d + 1) + 1) (by omega) hl;have e : i + (d + 1) + 1 - 1 = i + d + 1 := by omega
  rw [e] at h2;omega
theorem I7 {high : Int} {l : List Int} (h : dh high l = true) : Lu l := fun i j s t hs ht hij => by
 unfold dh at h;rw [List.all_eq_true] at h;have hj : j < l.length := (List.getElem?_eq_some_iff.1 ht).1;have adj : ∀ i, 0 < i → i < l.length → l.getD (i - 1) 0 < l.getD i 0 := fun i hi hl => by
  have := h i (by simpa using hl);unfold dX at this;simp only [Bool.and_eq_true, Bool.or_eq_true, decide_eq_true_eq] at this;rcases this.2 with h0 | h0
  ·omega
  exact h0
 obtain ⟨d, rfl⟩ : ∃ d, j = i + d + 1 := ⟨j - i - 1, by omega⟩
 have := Dk adj d i hj;simpa [List.getD, hs, ht] using this
theorem yG {l : List Int} : Lu l ↔ l.Pairwise (· < ·) := by
 rw [List.pairwise_iff_getElem];constructor
 ·intro h i j hi hj hij;exact h i j _ _ (List.getElem?_eq_getElem hi) (List.getElem?_eq_getElem hj) hij
 ·intro h i j s t hs ht hij;obtain ⟨hi, rfl⟩ := List.getElem?_eq_some_iff.1 hs;obtain ⟨hj, rfl⟩ := List.getElem?_eq_some_iff.1 ht;exact h i j hi hj hij
theorem xA : ∀ (l : List Int) (n y : Int), y ∈ dN l n → y ∈ l ∨ y = n
 | [], n, y, h => by simp only [dN, List.mem_singleton] at h; exact .inr h
 | x :: l, n, y, h => by
  unfold dN at h;split at h
  ·rcases List.mem_cons.1 h with h | h
   ·exact .inl (by simp [h])
   ·rcases xA l n y h with h | h
    ·exact .inl (by simp [h])
    ·exact .inr h
  split at h
  ·exact .inl h
  ·rcases List.mem_cons.1 h with h | h
   ·exact .inr h
   ·exact .inl h
theorem yK : ∀ (l : List Int) (n : Int), l.Pairwise (· < ·) → (dN l n).Pairwise (· < ·)
 | [], n, _ => by simp [dN]
 | x :: l, n, h => by
  rw [List.pairwise_cons] at h;unfold dN;split
  ·rename_i hx;rw [List.pairwise_cons];refine ⟨fun y hy => ?_, yK l n h.2⟩;rcases xA l n y hy with hy | rfl
   ·exact h.1 y hy
   ·exact hx
  split
  ·rw [List.pairwise_cons]; exact h
  ·rename_i h1 h2;rw [List.pairwise_cons, List.pairwise_cons];refine ⟨fun y hy => ?_, h⟩;rcases List.mem_cons.1 hy with rfl | hy
   ·omega
   ·have := h.1 y hy; omega
theorem uf : ∀ (l : List Ak) (i f : Int) (y : Ak), y ∈ jy l i f → y ∈ l ∨ (∃ x ∈ l, x.1 = i ∧ y = (x.1, dN x.2 f)) ∨ y = (i, [f])
 | [], i, f, y, h => by simp only [jy, List.mem_singleton] at h; exact .inr (.inr h)
 | x :: l, i, f, y, h => by
  unfold jy at h;split at h
  ·rcases List.mem_cons.1 h with h | h
   ·exact .inl (by simp [h])
   ·rcases uf l i f y h with h | ⟨z, hz, e⟩ | h
    ·exact .inl (by simp [h])
    ·exact .inr (.inl ⟨z, by simp [hz], e⟩)
    ·exact .inr (.inr h)
  split at h
  ·rename_i h2;rcases List.mem_cons.1 h with h | h
   ·exact .inr (.inl ⟨x, by simp, h2, h⟩)
   ·exact .inl (by simp [h])
  ·rcases List.mem_cons.1 h with h | h
   ·exact .inr (.inr h)
   ·exact .inl h
theorem yM : ∀ (l : List Ak) (i f : Int), l.Pairwise (fun a b => a.1 < b.1) → (jy l i f).Pairwise (fun a b => a.1 < b.1)
 | [], i, f, _ => by simp [jy]
 | x :: l, i, f, h => by
  rw [List.pairwise_cons] at h;unfold jy;split
  ·rename_i hx;rw [List.pairwise_cons];refine ⟨fun y hy => ?_, yM l i f h.2⟩;rcases uf l i f y hy with hy | ⟨z, hz, e1, rfl⟩ | rfl
   ·exact h.1 y hy
   ·exact h.1 z hz
   ·exact hx
  split
  ·rw [List.pairwise_cons]; exact ⟨fun y hy => h.1 y hy, h.2⟩
  ·rename_i h1 h2;rw [List.pairwise_cons, List.pairwise_cons];refine ⟨fun y hy => ?_, h⟩;rcases List.mem_cons.1 hy with rfl | hy
   ·show i < y.1; omega
   ·have := h.1 y hy; show i < y.1; omega
structure JC (s : Sl) : Prop where
 b0 : 0 ≤ s.1
 b1 : s.1 ≤ 1000000
 t : s.2.size ≤ 100
 e : s.1 = 0 → s.2.toList.isEmpty = true
theorem Df {s : Sl} : dL s = true ↔ JC s := by
 unfold dL;simp only [Bool.and_eq_true, bK, decide_eq_true_eq, Bool.or_eq_true, Bool.not_eq_true', decide_eq_false_iff_not];constructor
 ·rintro ⟨⟨⟨h1, h2⟩, h3⟩, h4⟩;exact ⟨h1, h2, by omega, fun h => h4.resolve_left (fun k => k h)⟩
 ·intro h;refine ⟨⟨⟨h.b0, h.b1⟩, by have := h.t; omega⟩, ?_⟩;by_cases h0 : s.1 = 0
  ·exact .inr (h.e h0)
  ·exact .inl h0
structure Fj (l : List Sl) : Prop where
 n : l.length ≤ 60
 s : ∀ s ∈ l, JC s
theorem zC : bM l = true ↔ Fj l := by
 unfold bM;simp only [Bool.and_eq_true, decide_eq_true_eq, List.all_eq_true];constructor
 ·rintro ⟨h1, h2⟩;exact ⟨h1, fun s hs => Df.1 (h2 s hs)⟩
 ·intro h;exact ⟨h.n, fun s hs => Df.2 (h.s s hs)⟩
structure AL (p k : Int) (l : List Sl) : Prop where
 p0 : 0 ≤ p
 p1 : p ≤ 1000000
 k0 : 0 ≤ k
 k1 : k ≤ l.length
 lk : Fj l
 b : ∀ s ∈ l, s.1 ≤ p
 z : ∀ (i : Nat) s, l[i]? = some s → (i : Int) < k → s.1 ≠ 0
theorem zA {p k : Int} : bW p k l = true ↔ AL p k l := by
 unfold bW je dQ;simp only [Bool.and_eq_true, bK, List.all_eq_true, zC, Bool.not_eq_true', decide_eq_false_iff_not, Bool.and_eq_false_iff];constructor
 ·rintro ⟨⟨⟨⟨h1, h2⟩, h3⟩, h4, h5⟩, h6⟩
  have at_ : ∀ (i : Nat) s, l[i]? = some s → ¬ p < s.1 ∧ (¬ (i : Int) < k ∨ ¬ s.1 = 0) := fun i s hs => h6 (s, i) (by
   rw [List.mem_zipIdx_iff_getElem?]; simpa using hs)
  refine ⟨h1, h2, h4, h5, h3, fun s hs => ?_, fun i s hs hi h0 => ?_⟩
  ·obtain ⟨i, hi⟩ := List.getElem?_of_mem hs;have := (at_ i s hi).1;omega
  ·rcases (at_ i s hs).2 with h | h
   ·exact h hi
   ·exact h h0
 ·intro h;refine ⟨⟨⟨⟨h.p0, h.p1⟩, h.lk⟩, h.k0, h.k1⟩, fun x hx => ?_⟩;rw [List.mem_zipIdx_iff_getElem?] at hx;have hx' : l[x.2]? = some x.1 := by simpa using hx
  refine ⟨by have := h.b x.1 (List.mem_of_getElem? hx'); omega, ?_⟩;by_cases hk : (x.2 : Int) < k
  ·exact .inr (h.z x.2 x.1 hx' hk)
  ·exact .inl hk
structure I8 (hi : Int) (l : List Int) : Prop where
 r : ∀ x ∈ l, 1 ≤ x ∧ x ≤ hi
 p : l.Pairwise (· < ·)
theorem uD {hi : Int} {l : List Int} : dh hi l = true ↔ I8 hi l := by
 constructor
 ·intro h;refine ⟨fun x hx => ?_, yG.1 (I7 h)⟩;obtain ⟨i, hi⟩ := List.getElem?_of_mem hx;unfold dh at h;have h1 := List.all_eq_true.1 h i (List.mem_range.2 (List.getElem?_eq_some_iff.1 hi).1);unfold dX at h1;simp only [Bool.and_eq_true, bK] at h1;rw [List.getD_eq_getElem?_getD, hi] at h1;exact h1.1
 ·intro h;refine qP rfl (fun i hi => ?_);unfold dX;have e : ∀ j, j < l.length → l.getD j 0 = l[j]! := fun j hj => by simp [List.getD_eq_getElem?_getD, hj]
  simp only [Bool.and_eq_true, bK, Bool.or_eq_true, decide_eq_true_eq];obtain ⟨x, hx⟩ : ∃ x, l[i]? = some x := ⟨_, List.getElem?_eq_getElem hi⟩
  have e1 : l.getD i 0 = x := by rw [List.getD_eq_getElem?_getD, hx]; rfl
  refine ⟨by rw [e1]; exact h.r x (List.mem_of_getElem? hx), ?_⟩;by_cases h0 : i = 0
  ·exact .inl h0
  ·obtain ⟨y, hy⟩ : ∃ y, l[i - 1]? = some y := ⟨_, List.getElem?_eq_getElem (by omega)⟩
   have e2 : l.getD (i - 1) 0 = y := by rw [List.getD_eq_getElem?_getD, hy]; rfl
   rw [e1, e2];exact .inr (yG.2 h.p (i - 1) i y x hy hx (by omega))
structure Lj (of_ : Int) (l : List Ak) : Prop where
 r : ∀ a ∈ l, 1 ≤ a.1 ∧ a.1 ≤ 60
 p : l.Pairwise (fun a b => a.1 < b.1)
 f : ∀ a ∈ l, I8 of_ a.2
theorem Js {of_ : Int} {l : List Ak} : dZ of_ l = true ↔ Lj of_ l := by
 unfold dZ;simp only [Bool.and_eq_true, uD, List.all_eq_true];constructor
 ·rintro ⟨h1, h2⟩;refine ⟨fun a ha => h1.r a.1 (List.mem_map.2 ⟨a, ha, rfl⟩), ?_, h2⟩;have := h1.p;unfold keysOf at this;exact List.pairwise_map.1 this
 ·intro h;refine ⟨⟨fun x hx => ?_, ?_⟩, h.f⟩
  ·obtain ⟨a, ha, rfl⟩ := List.mem_map.1 hx;exact h.r a ha
  ·unfold keysOf;exact List.pairwise_map.2 h.p
structure NT (num of_ : Int) (l : List Ms) : Prop where
 n : l.length ≤ 400
 m : ∀ m ∈ l, m.1.f = num ∧ bY m.1 of_ m.2 = true
theorem IC {num of_ : Int} {l : List Ms} : fO num of_ l = true ↔ NT num of_ l := by
 unfold fO holdB;simp only [Bool.and_eq_true, decide_eq_true_eq, List.all_eq_true];exact ⟨fun h => ⟨h.1, h.2⟩, fun h => ⟨h.n, h.m⟩⟩
structure NQ (l : List ByteArray) : Prop where
 n : l.length ≤ 20
 t : ∀ t ∈ l, 1 ≤ t.size ∧ t.size ≤ 100
 p : l.Pairwise (fun s t => jd s t = false)
theorem Je {l : List ByteArray} : dF l = true ↔ NQ l := by
 have gd : ∀ (i : Nat) t, l[i]? = some t → l.getD i ByteArray.empty = t := fun i t h => by rw [List.getD_eq_getElem?_getD, h]; rfl
 unfold dF iF;simp only [Bool.and_eq_true, decide_eq_true_eq, List.all_eq_true, List.mem_range, bK, Bool.not_eq_true'];constructor
 ·rintro ⟨h1, h2⟩;refine ⟨h1, fun t ht => ?_, ?_⟩
  ·obtain ⟨i, hi⟩ := List.getElem?_of_mem ht;have := (h2 i (List.getElem?_eq_some_iff.1 hi).1).1;rw [gd i t hi] at this;omega
  ·rw [List.pairwise_iff_getElem];intro i j hi hj hij;have := (h2 j hj).2 i hij;rw [gd i _ (List.getElem?_eq_getElem hi), gd j _ (List.getElem?_eq_getElem hj)] at this;exact this
 ·intro h;refine ⟨h.n, fun i hi => ⟨?_, fun j hj => ?_⟩⟩
  ·have := h.t _ (List.mem_of_getElem? (List.getElem?_eq_getElem hi));rw [gd i _ (List.getElem?_eq_getElem hi)];omega
  ·have := List.pairwise_iff_getElem.1 h.p j i (by omega) hi hj;rw [gd i _ (List.getElem?_eq_getElem hi), gd j _ (List.getElem?_eq_getElem (show j < l.length by omega))];exact this
structure VR (r : Rc) : Prop where
 o1 : 1 ≤ r.of_
 o5 : r.of_ ≤ 5
 n1 : 1 ≤ r.num
 nn : r.num ≤ r.of_
 s : AL r.sp r.sk r.ss
 d : AL r.dp r.dk r.ds
 h : NT r.num r.of_ r.held
 w : NQ r.wish
 e0 : 0 ≤ r.heard
 e1 : r.heard ≤ 1000000
 y : I8 r.of_ r.yes
 b : Fj r.best
 a : Lj r.of_ r.acks
 lt : ¬ (r.lead = true ∧ r.tr = true)
 ld : r.lead = true → (1 ≤ r.ball ∧ r.ball ≤ r.dp) ∧ r.yes = [] ∧ r.best = []
 tr : r.lead = false → r.tr = true → (1 ≤ r.ball ∧ r.ball ≤ r.dp) ∧ r.acks = []
 cl : r.lead = false → r.tr = false → r.ball = 0 ∧ r.yes = [] ∧ r.best = [] ∧ r.acks = []
 up : r.up = true ∨ (r.lead = false ∧ r.tr = false ∧ r.held = [] ∧ r.wish = [] ∧ r.heard = 0)
theorem fA {r : Rc} : bf r = true ↔ VR r := by
 unfold bf gU uB zD rH lJ;simp only [Bool.and_eq_true, bK, zA, IC, Je, uD, zC, Js, Bool.not_eq_true', Bool.or_eq_true, decide_eq_true_eq, Bool.and_eq_false_iff, List.length_eq_zero_iff];constructor
 ·rintro ⟨⟨⟨⟨⟨⟨⟨⟨⟨⟨⟨⟨⟨a1, a2⟩, a3, a4⟩, s⟩, d⟩, h⟩, w⟩, e0, e1⟩, y⟩, b⟩, a⟩, lt⟩, role⟩, up⟩;refine ⟨a1, a2, a3, a4, s, d, h, w, e0, e1, y, b, a, fun q => ?_, fun q => ?_, fun q1 q2 => ?_, fun q1 q2 => ?_, ?_⟩
  ·rcases lt with h | h
   ·rw [q.1] at h; exact absurd h (by simp)
   ·rw [q.2] at h; exact absurd h (by simp)
  ·rw [q] at role;simp only [if_true, Bool.and_eq_true, bK, decide_eq_true_eq, List.length_eq_zero_iff] at role;exact ⟨role.1.1, role.1.2, role.2⟩
  ·rw [q1, q2] at role;simp only [Bool.false_eq_true, if_false, if_true, Bool.and_eq_true, bK, decide_eq_true_eq, List.length_eq_zero_iff] at role;exact role
  ·rw [q1, q2] at role;simp only [Bool.false_eq_true, if_false, Bool.and_eq_true, decide_eq_true_eq, List.length_eq_zero_iff] at role;exact ⟨role.1.1.1, role.1.1.2, role.1.2, role.2⟩
  ·rcases up with h | ⟨⟨⟨⟨h1, h2⟩, h3⟩, h4⟩, h5⟩
   ·exact .inl h
   ·exact .inr ⟨h1, h2, h3, h4, h5⟩
 ·intro v;refine ⟨⟨⟨⟨⟨⟨⟨⟨⟨⟨⟨⟨⟨v.o1, v.o5⟩, v.n1, v.nn⟩, v.s⟩, v.d⟩, v.h⟩, v.w⟩, v.e0, v.e1⟩, v.y⟩, v.b⟩, v.a⟩, ?_⟩, ?_⟩, ?_⟩
  ·cases h1 : r.lead
   ·exact .inl rfl
   ·cases h2 : r.tr
    ·exact .inr rfl
    ·exact absurd ⟨h1, h2⟩ v.lt
  ·cases h1 : r.lead
   ·cases h2 : r.tr
    ·have := v.cl h1 h2;simp [this]
    ·have := v.tr h1 h2;simp [this, bK]
   ·have := v.ld h1;simp [this, bK]
  ·rcases v.up with h | ⟨h1, h2, h3, h4, h5⟩
   ·exact .inl h
   ·exact .inr ⟨⟨⟨⟨h1, h2⟩, h3⟩, h4⟩, h5⟩
end Go.Proofs.Ytjdceoimignnpaa
