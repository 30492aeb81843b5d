import Derived.Test.YtjdceoimignnpaaQ23
import Derived.Lib.AppendZerosOnto
import Derived.Lib.Overlaps
import Derived.Laws.Externs
import Derived.Shelf.RegionOpenPlain
import Derived.WalkArith
namespace Go.Proofs.Ytjdceoimignnpaa
open Go.ChangeShapes Go.WideShapes Go.ChangeAt Go.RowKit next Go.Shelf Go.Lib Go.Deep Go.Joins
set_option linter.unusedVariables false
set_option linter.unusedSimpArgs false
set_option maxHeartbeats 8000000
set_option maxRecDepth 100000
variable {l : List Sl}
theorem slots_len (h : slotsOkB l = true) : l.length ≤ 60 := by
 unfold slotsOkB at h;simp only [Bool.and_eq_true, decide_eq_true_eq] at h;omega
theorem disk_len {x y : Int} (h : diskOkB x y l = true) : l.length ≤ 60 := by
 simp only [diskOkB, Bool.and_eq_true] at h;exact slots_len h.1.1.2
theorem valid_num {r : Rc} (h : validB r = true) : 1 ≤ r.num ∧ r.num ≤ r.of_ ∧ r.of_ ≤ 5 := by
 unfold validB at h;simp only [Bool.and_eq_true] at h;have h1 := inB_iff.1 h.1.1.1.1.1.1.1.1.1.1.1.1;have h2 := inB_iff.1 h.1.1.1.1.1.1.1.1.1.1.1.2;exact ⟨h2.1, h2.2, h1.2⟩
theorem valid_heard {r : Rc} (h : validB r = true) : 0 ≤ r.heard ∧ r.heard ≤ 1000000 := by
 unfold validB at h;simp only [Bool.and_eq_true] at h;exact inB_iff.1 h.1.1.1.1.1.1.2
theorem valid_lists {r : Rc} (h : validB r = true) : r.acks.length ≤ 60 ∧ (∀ a ∈ r.acks, a.2.length ≤ 5) ∧ r.ss.length ≤ 60 ∧ r.ds.length ≤ 60 ∧ r.best.length ≤ 60 ∧ r.yes.length ≤ 5 := by
 have hn := valid_num h;unfold validB at h;simp only [Bool.and_eq_true] at h;obtain ⟨⟨⟨⟨⟨⟨⟨⟨⟨⟨⟨⟨h1, h2⟩, h3⟩, h4⟩, h5⟩, h6⟩, h7⟩, h8⟩, h9⟩, h10⟩, h11⟩, h12⟩, h13⟩ := h;have hac := h10;simp only [acksOkB, Bool.and_eq_true] at hac;have ha := nums_len hac.1 (by omega);rw [keys_len] at ha;have hy := nums_len h8 (by omega);refine ⟨by omega, fun a hm => ?_, disk_len h3, disk_len h4, slots_len h9, by omega⟩;have := nums_len (List.all_eq_true.1 hac.2 a hm) (by omega);omega
structure T2Ok (x : Rc) : Prop where
 lead : LeadOk 0 x
 ss : x.ss.length ≤ 60
 ds : x.ds.length ≤ 60
 of_ : 1 ≤ x.of_ ∧ x.of_ ≤ 5
 num : 1 ≤ x.num ∧ x.num ≤ 5
 best : x.best.length ≤ 60
 yes : x.yes.length ≤ 6
 held : x.held = []
 heard : 0 ≤ x.heard ∧ x.heard ≤ 1000000
theorem tick1_ok {r : Rc} (h : validB r = true) (hS : RcSmall r) : T2Ok (tick1 r) := by
 have hn := valid_num h;have hl := valid_lists h;have ht := valid_take h hS;have hh := valid_heard h;refine ⟨⟨ht.d0, ht.d1, ⟨hS.lD, hS.lD, Nat.zero_le _, Nat.le_trans (List.length_filter_le _ _) hS.lW, hS.lY, hS.lB, hS.lA, fun i s hs => by simp [tick1] at hs, hS.nA⟩, (show r.acks.length ≤ 1000 + 0 by have := hl.1; omega), fun a ha => by have := hl.2.1 a ha; omega, ht.ba, wf_small (show 0 ≤ r.num by omega) (show r.num ≤ 1000000 by omega)⟩, hl.2.2.2.1, hl.2.2.2.1, ⟨(show 1 ≤ r.of_ by omega), hn.2.2⟩, ⟨hn.1, (show r.num ≤ 5 by omega)⟩, hl.2.2.2.2.1, (show r.yes.length ≤ 6 by have := hl.2.2.2.2.2; omega), rfl, ?_⟩;show 0 ≤ (if r.heard < 1000000 then r.heard + 1 else r.heard) ∧ (if r.heard < 1000000 then r.heard + 1 else r.heard) ≤ 1000000;split <;> omega
theorem leadL_more (b : Int) : ∀ (t : List Sl) (i : Nat) (ds : List Sl), ds.length ≤ (leadL b t i ds).length
 | [], _, ds => Nat.le_refl _
 | s :: t, i, ds => by
  have h1 := leadL_more b t (i + 1) (setL ds (i + 1) (b, s.2));rw [setL_len] at h1;unfold leadL;omega
theorem tick2_ok {x : Rc} (h : T2Ok x) : T2Ok (tick2 x) := by
 unfold tick2;split
 ·unfold promR;have hm : (mergeL x.best x.ds).length ≤ 60 := by rw [mergeL_len]; have := h.best; have := h.ds; omega
  split
  ·rename_i hq;have hy := addL_len x.yes x.num;have h1 := h.lead.sm;exact ⟨⟨h.lead.d0, h.lead.d1, ⟨h1.lS, h1.lD, h1.lH, h1.lW, (show (addL x.yes x.num).length ≤ 1048576 by have := h.yes; omega), (show (mergeL x.best x.ds).length ≤ 1048576 by omega), h1.lA, h1.nH, h1.nA⟩, h.lead.a1, h.lead.a2, h.lead.ba, h.lead.nu⟩, h.ss, h.ds, h.of_, h.num, hm, (show (addL x.yes x.num).length ≤ 6 by have := h.of_.2; omega), h.held, h.heard⟩
  ·have hd : (leadDs x (mergeL x.best x.ds)).length ≤ 60 ∧ x.ds.length ≤ (leadDs x (mergeL x.best x.ds)).length := by
    unfold leadDs;have h1 := leadL_len x.ball ((mergeL x.best x.ds).drop x.dk.toNat) x.dk.toNat x.ds;have h2 := leadL_more x.ball ((mergeL x.best x.ds).drop x.dk.toNat) x.dk.toNat x.ds;rw [List.length_drop] at h1;have := h.ds;have := h.lead.d0;have := h.lead.d1;exact ⟨by omega, h2⟩
   have h1 := h.lead.sm;exact ⟨⟨h.lead.d0, (show x.dk ≤ ((leadDs x (mergeL x.best x.ds)).length : Int) by have := h.lead.d1; have := hd.2; omega), ⟨h1.lS, (show (leadDs x (mergeL x.best x.ds)).length ≤ 1048576 by have := hd.1; omega), h1.lH, h1.lW, Nat.zero_le _, Nat.zero_le _, Nat.zero_le _, h1.nH, fun i s hs => by simp [calmR] at hs⟩, Nat.zero_le _, fun a ha => by simp [calmR] at ha, h.lead.ba, h.lead.nu⟩, h.ss, hd.1, h.of_, h.num, Nat.zero_le _, Nat.zero_le _, h.held, h.heard⟩
 ·exact h


def AscI (l : List Int) : Prop := ∀ (i j : Nat) s t, l[i]? = some s → l[j]? = some t → i < j → s < t
theorem own_ext2 {B : Nat} {w w' : World} {e : TypeId} {k : Nat} {a : Option Addr} {n c : Nat} {xs : List Value} (h : w.ownsRow B e k (.slice a n c) n xs) (hb : Below w.heap.size w w') : w'.ownsRow B e k (.slice a n c) n xs := by
 refine ⟨h.1, ?_⟩;rcases h.2 with h0 | ⟨g, cap, cur, hv, hB, hg, r⟩
 ·exact .inl h0
 exact .inr ⟨g, cap, cur, hv, hB, (hb.block g (Blk.lt hg)).trans hg, r⟩
theorem adj_asc {ks : List Int} (h : ∀ i, 0 < i → i < ks.length → ks.getD (i - 1) 0 < ks.getD i 0) : ∀ (d i : Nat), i + d + 1 < ks.length → ks.getD i 0 < ks.getD (i + d + 1) 0
 | 0, i, hl => by have := h (i + 1) (by omega) (by omega); simpa using this
 | d + 1, i, hl => by
  have h1 := adj_asc h d i (by omega);have h2 := h (i + (d + 1) + 1) (by omega) hl;have e : i + (d + 1) + 1 - 1 = i + d + 1 := by omega
  rw [e] at h2;omega
theorem ascI_of {high : Int} {l : List Int} (h : numsOkB high l = true) : AscI l := fun i j s t hs ht hij => by
 unfold numsOkB at h;rw [List.all_eq_true] at h;have hj : j < l.length := (List.getElem?_eq_some_iff.1 ht).1;have adj : ∀ i, 0 < i → i < l.length → l.getD (i - 1) 0 < l.getD i 0 := fun i hi hl => by
  have := h i (by simpa using hl);unfold numAtB at this;simp only [Bool.and_eq_true, Bool.or_eq_true, decide_eq_true_eq] at this;rcases this.2 with h0 | h0
  ·omega
  exact h0
 obtain ⟨d, rfl⟩ : ∃ d, j = i + d + 1 := ⟨j - i - 1, by omega⟩
 have := adj_asc adj d i hj;simpa [List.getD, hs, ht] using this
theorem ascI_pair {l : List Int} : AscI l ↔ l.Pairwise (· < ·) := by
 rw [List.pairwise_iff_getElem];constructor
 ·intro h i j hi hj hij;exact h i j _ _ (List.getElem?_eq_getElem hi) (List.getElem?_eq_getElem hj) hij
 ·intro h i j s t hs ht hij;obtain ⟨hi, rfl⟩ := List.getElem?_eq_some_iff.1 hs;obtain ⟨hj, rfl⟩ := List.getElem?_eq_some_iff.1 ht;exact h i j hi hj hij
theorem addL_mem : ∀ (l : List Int) (n y : Int), y ∈ addL l n → y ∈ l ∨ y = n
 | [], n, y, h => by simp only [addL, List.mem_singleton] at h; exact .inr h
 | x :: l, n, y, h => by
  unfold addL at h;split at h
  ·rcases List.mem_cons.1 h with h | h
   ·exact .inl (by simp [h])
   ·rcases addL_mem l n y h with h | h
    ·exact .inl (by simp [h])
    ·exact .inr h
  split at h
  ·exact .inl h
  ·rcases List.mem_cons.1 h with h | h
   ·exact .inr h
   ·exact .inl h
theorem addL_pair : ∀ (l : List Int) (n : Int), l.Pairwise (· < ·) → (addL l n).Pairwise (· < ·)
 | [], n, _ => by simp [addL]
 | x :: l, n, h => by
  rw [List.pairwise_cons] at h;unfold addL;split
  ·rename_i hx;rw [List.pairwise_cons];refine ⟨fun y hy => ?_, addL_pair l n h.2⟩;rcases addL_mem l n y hy with hy | rfl
   ·exact h.1 y hy
   ·exact hx
  split
  ·rw [List.pairwise_cons]; exact h
  ·rename_i h1 h2;rw [List.pairwise_cons, List.pairwise_cons];refine ⟨fun y hy => ?_, h⟩;rcases List.mem_cons.1 hy with rfl | hy
   ·omega
   ·have := h.1 y hy; omega
theorem ackL_mem : ∀ (l : List Ak) (i f : Int) (y : Ak), y ∈ ackL l i f → y ∈ l ∨ (∃ x ∈ l, x.1 = i ∧ y = (x.1, addL x.2 f)) ∨ y = (i, [f])
 | [], i, f, y, h => by simp only [ackL, List.mem_singleton] at h; exact .inr (.inr h)
 | x :: l, i, f, y, h => by
  unfold ackL at h;split at h
  ·rcases List.mem_cons.1 h with h | h
   ·exact .inl (by simp [h])
   ·rcases ackL_mem l i f y h with h | ⟨z, hz, e⟩ | h
    ·exact .inl (by simp [h])
    ·exact .inr (.inl ⟨z, by simp [hz], e⟩)
    ·exact .inr (.inr h)
  split at h
  ·rename_i h2;rcases List.mem_cons.1 h with h | h
   ·exact .inr (.inl ⟨x, by simp, h2, h⟩)
   ·exact .inl (by simp [h])
  ·rcases List.mem_cons.1 h with h | h
   ·exact .inr (.inr h)
   ·exact .inl h
theorem ackL_pair : ∀ (l : List Ak) (i f : Int), l.Pairwise (fun a b => a.1 < b.1) → (ackL l i f).Pairwise (fun a b => a.1 < b.1)
 | [], i, f, _ => by simp [ackL]
 | x :: l, i, f, h => by
  rw [List.pairwise_cons] at h;unfold ackL;split
  ·rename_i hx;rw [List.pairwise_cons];refine ⟨fun y hy => ?_, ackL_pair l i f h.2⟩;rcases ackL_mem l i f y hy with hy | ⟨z, hz, e1, rfl⟩ | rfl
   ·exact h.1 y hy
   ·exact h.1 z hz
   ·exact hx
  split
  ·rw [List.pairwise_cons]; exact ⟨fun y hy => h.1 y hy, h.2⟩
  ·rename_i h1 h2;rw [List.pairwise_cons, List.pairwise_cons];refine ⟨fun y hy => ?_, h⟩;rcases List.mem_cons.1 hy with rfl | hy
   ·show i < y.1; omega
   ·have := h.1 y hy; show i < y.1; omega
structure SOk (s : Sl) : Prop where
 b0 : 0 ≤ s.1
 b1 : s.1 ≤ 1000000
 t : s.2.size ≤ 100
 e : s.1 = 0 → s.2.toList.isEmpty = true
theorem sok_iff {s : Sl} : slotOkB s = true ↔ SOk s := by
 unfold slotOkB;simp only [Bool.and_eq_true, inB_iff, decide_eq_true_eq, Bool.or_eq_true, Bool.not_eq_true', decide_eq_false_iff_not];constructor
 ·rintro ⟨⟨⟨h1, h2⟩, h3⟩, h4⟩;exact ⟨h1, h2, by omega, fun h => h4.resolve_left (fun k => k h)⟩
 ·intro h;refine ⟨⟨⟨h.b0, h.b1⟩, by have := h.t; omega⟩, ?_⟩;by_cases h0 : s.1 = 0
  ·exact .inr (h.e h0)
  ·exact .inl h0
structure LOk (l : List Sl) : Prop where
 n : l.length ≤ 60
 s : ∀ s ∈ l, SOk s
theorem lok_iff : slotsOkB l = true ↔ LOk l := by
 unfold slotsOkB;simp only [Bool.and_eq_true, decide_eq_true_eq, List.all_eq_true];constructor
 ·rintro ⟨h1, h2⟩;exact ⟨h1, fun s hs => sok_iff.1 (h2 s hs)⟩
 ·intro h;exact ⟨h.n, fun s hs => sok_iff.2 (h.s s hs)⟩
structure DOk (p k : Int) (l : List Sl) : Prop where
 p0 : 0 ≤ p
 p1 : p ≤ 1000000
 k0 : 0 ≤ k
 k1 : k ≤ l.length
 lk : LOk l
 b : ∀ s ∈ l, s.1 ≤ p
 z : ∀ (i : Nat) s, l[i]? = some s → (i : Int) < k → s.1 ≠ 0
theorem dok_iff {p k : Int} : diskOkB p k l = true ↔ DOk p k l := by
 unfold diskOkB placesOkB placeOkB;simp only [Bool.and_eq_true, inB_iff, List.all_eq_true, lok_iff, Bool.not_eq_true', decide_eq_false_iff_not, Bool.and_eq_false_iff];constructor
 ·rintro ⟨⟨⟨⟨h1, h2⟩, h3⟩, h4, h5⟩, h6⟩
  have at_ : ∀ (i : Nat) s, l[i]? = some s → ¬ p < s.1 ∧ (¬ (i : Int) < k ∨ ¬ s.1 = 0) := fun i s hs => h6 (s, i) (by
   rw [List.mem_zipIdx_iff_getElem?]; simpa using hs)
  refine ⟨h1, h2, h4, h5, h3, fun s hs => ?_, fun i s hs hi h0 => ?_⟩
  ·obtain ⟨i, hi⟩ := List.getElem?_of_mem hs;have := (at_ i s hi).1;omega
  ·rcases (at_ i s hs).2 with h | h
   ·exact h hi
   ·exact h h0
 ·intro h;refine ⟨⟨⟨⟨h.p0, h.p1⟩, h.lk⟩, h.k0, h.k1⟩, fun x hx => ?_⟩;rw [List.mem_zipIdx_iff_getElem?] at hx;have hx' : l[x.2]? = some x.1 := by simpa using hx
  refine ⟨by have := h.b x.1 (List.mem_of_getElem? hx'); omega, ?_⟩;by_cases hk : (x.2 : Int) < k
  ·exact .inr (h.z x.2 x.1 hx' hk)
  ·exact .inl hk
structure NOk (hi : Int) (l : List Int) : Prop where
 r : ∀ x ∈ l, 1 ≤ x ∧ x ≤ hi
 p : l.Pairwise (· < ·)
theorem nok_iff {hi : Int} {l : List Int} : numsOkB hi l = true ↔ NOk hi l := by
 constructor
 ·intro h;refine ⟨fun x hx => ?_, ascI_pair.1 (ascI_of h)⟩;obtain ⟨i, hi⟩ := List.getElem?_of_mem hx;unfold numsOkB at h;have h1 := List.all_eq_true.1 h i (List.mem_range.2 (List.getElem?_eq_some_iff.1 hi).1);unfold numAtB at h1;simp only [Bool.and_eq_true, inB_iff] at h1;rw [List.getD_eq_getElem?_getD, hi] at h1;exact h1.1
 ·intro h;refine nums_of rfl (fun i hi => ?_);unfold numAtB;have e : ∀ j, j < l.length → l.getD j 0 = l[j]! := fun j hj => by simp [List.getD_eq_getElem?_getD, hj]
  simp only [Bool.and_eq_true, inB_iff, Bool.or_eq_true, decide_eq_true_eq];obtain ⟨x, hx⟩ : ∃ x, l[i]? = some x := ⟨_, List.getElem?_eq_getElem hi⟩
  have e1 : l.getD i 0 = x := by rw [List.getD_eq_getElem?_getD, hx]; rfl
  refine ⟨by rw [e1]; exact h.r x (List.mem_of_getElem? hx), ?_⟩;by_cases h0 : i = 0
  ·exact .inl h0
  ·obtain ⟨y, hy⟩ : ∃ y, l[i - 1]? = some y := ⟨_, List.getElem?_eq_getElem (by omega)⟩
   have e2 : l.getD (i - 1) 0 = y := by rw [List.getD_eq_getElem?_getD, hy]; rfl
   rw [e1, e2];exact .inr (ascI_pair.2 h.p (i - 1) i y x hy hx (by omega))
structure AOk (of_ : Int) (l : List Ak) : Prop where
 r : ∀ a ∈ l, 1 ≤ a.1 ∧ a.1 ≤ 60
 p : l.Pairwise (fun a b => a.1 < b.1)
 f : ∀ a ∈ l, NOk of_ a.2
theorem aok_iff {of_ : Int} {l : List Ak} : acksOkB of_ l = true ↔ AOk of_ l := by
 unfold acksOkB;simp only [Bool.and_eq_true, nok_iff, List.all_eq_true];constructor
 ·rintro ⟨h1, h2⟩;refine ⟨fun a ha => h1.r a.1 (List.mem_map.2 ⟨a, ha, rfl⟩), ?_, h2⟩;have := h1.p;unfold keysOf at this;exact List.pairwise_map.1 this
 ·intro h;refine ⟨⟨fun x hx => ?_, ?_⟩, h.f⟩
  ·obtain ⟨a, ha, rfl⟩ := List.mem_map.1 hx;exact h.r a ha
  ·unfold keysOf;exact List.pairwise_map.2 h.p
structure HOk (num of_ : Int) (l : List Ms) : Prop where
 n : l.length ≤ 400
 m : ∀ m ∈ l, m.1.f = num ∧ msgOkB m.1 of_ m.2 = true
theorem hok_iff {num of_ : Int} {l : List Ms} : heldOkB num of_ l = true ↔ HOk num of_ l := by
 unfold heldOkB holdB;simp only [Bool.and_eq_true, decide_eq_true_eq, List.all_eq_true];exact ⟨fun h => ⟨h.1, h.2⟩, fun h => ⟨h.n, h.m⟩⟩
structure WOk (l : List ByteArray) : Prop where
 n : l.length ≤ 20
 t : ∀ t ∈ l, 1 ≤ t.size ∧ t.size ≤ 100
 p : l.Pairwise (fun s t => sameB s t = false)
theorem wok_iff {l : List ByteArray} : wishesOkB l = true ↔ WOk l := by
 have gd : ∀ (i : Nat) t, l[i]? = some t → l.getD i ByteArray.empty = t := fun i t h => by rw [List.getD_eq_getElem?_getD, h]; rfl
 unfold wishesOkB wishAtB;simp only [Bool.and_eq_true, decide_eq_true_eq, List.all_eq_true, List.mem_range, inB_iff, Bool.not_eq_true'];constructor
 ·rintro ⟨h1, h2⟩;refine ⟨h1, fun t ht => ?_, ?_⟩
  ·obtain ⟨i, hi⟩ := List.getElem?_of_mem ht;have := (h2 i (List.getElem?_eq_some_iff.1 hi).1).1;rw [gd i t hi] at this;omega
  ·rw [List.pairwise_iff_getElem];intro i j hi hj hij;have := (h2 j hj).2 i hij;rw [gd i _ (List.getElem?_eq_getElem hi), gd j _ (List.getElem?_eq_getElem hj)] at this;exact this
 ·intro h;refine ⟨h.n, fun i hi => ⟨?_, fun j hj => ?_⟩⟩
  ·have := h.t _ (List.mem_of_getElem? (List.getElem?_eq_getElem hi));rw [gd i _ (List.getElem?_eq_getElem hi)];omega
  ·have := List.pairwise_iff_getElem.1 h.p j i (by omega) hi hj;rw [gd i _ (List.getElem?_eq_getElem hi), gd j _ (List.getElem?_eq_getElem (show j < l.length by omega))];exact this
structure VR (r : Rc) : Prop where
 o1 : 1 ≤ r.of_
 o5 : r.of_ ≤ 5
 n1 : 1 ≤ r.num
 nn : r.num ≤ r.of_
 s : DOk r.sp r.sk r.ss
 d : DOk r.dp r.dk r.ds
 h : HOk r.num r.of_ r.held
 w : WOk r.wish
 e0 : 0 ≤ r.heard
 e1 : r.heard ≤ 1000000
 y : NOk r.of_ r.yes
 b : LOk r.best
 a : AOk r.of_ r.acks
 lt : ¬ (r.lead = true ∧ r.tr = true)
 ld : r.lead = true → (1 ≤ r.ball ∧ r.ball ≤ r.dp) ∧ r.yes = [] ∧ r.best = []
 tr : r.lead = false → r.tr = true → (1 ≤ r.ball ∧ r.ball ≤ r.dp) ∧ r.acks = []
 cl : r.lead = false → r.tr = false → r.ball = 0 ∧ r.yes = [] ∧ r.best = [] ∧ r.acks = []
 up : r.up = true ∨ (r.lead = false ∧ r.tr = false ∧ r.held = [] ∧ r.wish = [] ∧ r.heard = 0)
theorem vr_iff {r : Rc} : validB r = true ↔ VR r := by
 unfold validB roleB leadB tryB calmB downB;simp only [Bool.and_eq_true, inB_iff, dok_iff, hok_iff, wok_iff, nok_iff, lok_iff, aok_iff, Bool.not_eq_true', Bool.or_eq_true, decide_eq_true_eq, Bool.and_eq_false_iff, List.length_eq_zero_iff];constructor
 ·rintro ⟨⟨⟨⟨⟨⟨⟨⟨⟨⟨⟨⟨⟨a1, a2⟩, a3, a4⟩, s⟩, d⟩, h⟩, w⟩, e0, e1⟩, y⟩, b⟩, a⟩, lt⟩, role⟩, up⟩;refine ⟨a1, a2, a3, a4, s, d, h, w, e0, e1, y, b, a, fun q => ?_, fun q => ?_, fun q1 q2 => ?_, fun q1 q2 => ?_, ?_⟩
  ·rcases lt with h | h
   ·rw [q.1] at h; exact absurd h (by simp)
   ·rw [q.2] at h; exact absurd h (by simp)
  ·rw [q] at role;simp only [if_true, Bool.and_eq_true, inB_iff, decide_eq_true_eq, List.length_eq_zero_iff] at role;exact ⟨role.1.1, role.1.2, role.2⟩
  ·rw [q1, q2] at role;simp only [Bool.false_eq_true, if_false, if_true, Bool.and_eq_true, inB_iff, decide_eq_true_eq, List.length_eq_zero_iff] at role;exact role
  ·rw [q1, q2] at role;simp only [Bool.false_eq_true, if_false, Bool.and_eq_true, decide_eq_true_eq, List.length_eq_zero_iff] at role;exact ⟨role.1.1.1, role.1.1.2, role.1.2, role.2⟩
  ·rcases up with h | ⟨⟨⟨⟨h1, h2⟩, h3⟩, h4⟩, h5⟩
   ·exact .inl h
   ·exact .inr ⟨h1, h2, h3, h4, h5⟩
 ·intro v;refine ⟨⟨⟨⟨⟨⟨⟨⟨⟨⟨⟨⟨⟨v.o1, v.o5⟩, v.n1, v.nn⟩, v.s⟩, v.d⟩, v.h⟩, v.w⟩, v.e0, v.e1⟩, v.y⟩, v.b⟩, v.a⟩, ?_⟩, ?_⟩, ?_⟩
  ·cases h1 : r.lead
   ·exact .inl rfl
   ·cases h2 : r.tr
    ·exact .inr rfl
    ·exact absurd ⟨h1, h2⟩ v.lt
  ·cases h1 : r.lead
   ·cases h2 : r.tr
    ·have := v.cl h1 h2;simp [this]
    ·have := v.tr h1 h2;simp [this, inB_iff]
   ·have := v.ld h1;simp [this, inB_iff]
  ·rcases v.up with h | ⟨h1, h2, h3, h4, h5⟩
   ·exact .inl h
   ·exact .inr ⟨⟨⟨⟨h1, h2⟩, h3⟩, h4⟩, h5⟩
end Go.Proofs.Ytjdceoimignnpaa
