import Derived.Test.YtffklmlljekceaaGreatQ38
namespace Go.Proofs.YtffklmlljekceaaGreat
open Go.ChangeShapes Go.WideShapes Go.ChangeAt Go.RowKit
set_option linter.unusedSimpArgs false
set_option linter.unusedVariables false
theorem adj_asc {ks : List Int} (h : ∀ i, 0 < i → i < ks.length → ks.getD (i - 1) 0 < ks.getD i 0) : ∀ (d i : Nat), i + d + 1 < ks.length → ks.getD i 0 < ks.getD (i + d + 1) 0
 | 0, i, hl => by have := h (i + 1) (by omega) (by omega); simpa using this
 | d + 1, i, hl => by
  have h1 := adj_asc h d i (by omega)
  have h2 := h (i + (d + 1) + 1) (by omega) hl
  have e : i + (d + 1) + 1 - 1 = i + d + 1 := by omega
  rw [e] at h2
  omega
theorem ascI_of {high : Int} {l : List Int} (h : numsOkB high l = true) : AscI l := fun i j s t hs ht hij => by
 unfold numsOkB at h
 rw [List.all_eq_true] at h
 have hj : j < l.length := (List.getElem?_eq_some_iff.1 ht).1
 have adj : ∀ i, 0 < i → i < l.length → l.getD (i - 1) 0 < l.getD i 0 := fun i hi hl => by
  have := h i (by simpa using hl)
  unfold numAtB at this
  simp only [Bool.and_eq_true, Bool.or_eq_true, decide_eq_true_eq] at this
  rcases this.2 with h0 | h0
  ·omega
  exact h0
 obtain ⟨d, rfl⟩ : ∃ d, j = i + d + 1 := ⟨j - i - 1, by omega⟩
 have := adj_asc adj d i hj
 simpa [List.getD, hs, ht] using this
theorem ascA_of {high : Int} {l : List Ak} (h : numsOkB high (keysOf l) = true) : AscA l := fun i j s t hs ht hij =>
 ascI_of h i j s.1 t.1 (by simp [keysOf, hs]) (by simp [keysOf, ht]) hij
end Go.Proofs.YtffklmlljekceaaGreat
namespace Go.Proofs.YtffklmlljekceaaGreat
open Go.ChangeShapes Go.WideShapes Go.ChangeAt Go.RowKit next
set_option linter.unusedSimpArgs false
set_option linter.unusedVariables false
theorem ascI_pair {l : List Int} : AscI l ↔ l.Pairwise (· < ·) := by
 rw [List.pairwise_iff_getElem]
 constructor
 ·intro h i j hi hj hij
  exact h i j _ _ (List.getElem?_eq_getElem hi) (List.getElem?_eq_getElem hj) hij
 ·intro h i j s t hs ht hij
  obtain ⟨hi, rfl⟩ := List.getElem?_eq_some_iff.1 hs
  obtain ⟨hj, rfl⟩ := List.getElem?_eq_some_iff.1 ht
  exact h i j hi hj hij
theorem ascA_pair {l : List Ak} : AscA l ↔ l.Pairwise (fun a b => a.1 < b.1) := by
 rw [List.pairwise_iff_getElem]
 constructor
 ·intro h i j hi hj hij
  exact h i j _ _ (List.getElem?_eq_getElem hi) (List.getElem?_eq_getElem hj) hij
 ·intro h i j s t hs ht hij
  obtain ⟨hi, rfl⟩ := List.getElem?_eq_some_iff.1 hs
  obtain ⟨hj, rfl⟩ := List.getElem?_eq_some_iff.1 ht
  exact h i j hi hj hij
theorem addL_mem : ∀ (l : List Int) (n y : Int), y ∈ addL l n → y ∈ l ∨ y = n
 | [], n, y, h => by simp only [addL, List.mem_singleton] at h; exact .inr h
 | x :: l, n, y, h => by
  unfold addL at h
  split at h
  ·rcases List.mem_cons.1 h with h | h
   ·exact .inl (by simp [h])
   ·rcases addL_mem l n y h with h | h
    ·exact .inl (by simp [h])
    ·exact .inr h
  split at h
  ·exact .inl h
  ·rcases List.mem_cons.1 h with h | h
   ·exact .inr h
   ·exact .inl h
theorem addL_pair : ∀ (l : List Int) (n : Int), l.Pairwise (· < ·) → (addL l n).Pairwise (· < ·)
 | [], n, _ => by simp [addL]
 | x :: l, n, h => by
  rw [List.pairwise_cons] at h
  unfold addL
  split
  ·rename_i hx
   rw [List.pairwise_cons]
   refine ⟨fun y hy => ?_, addL_pair l n h.2⟩
   rcases addL_mem l n y hy with hy | rfl
   ·exact h.1 y hy
   ·exact hx
  split
  ·rw [List.pairwise_cons]; exact h
  ·rename_i h1 h2
   rw [List.pairwise_cons, List.pairwise_cons]
   refine ⟨fun y hy => ?_, h⟩
   rcases List.mem_cons.1 hy with rfl | hy
   ·omega
   ·have := h.1 y hy; omega
theorem ackL_mem : ∀ (l : List Ak) (i f : Int) (y : Ak), y ∈ ackL l i f → y ∈ l ∨ (∃ x ∈ l, x.1 = i ∧ y = (x.1, addL x.2 f)) ∨ y = (i, [f])
 | [], i, f, y, h => by simp only [ackL, List.mem_singleton] at h; exact .inr (.inr h)
 | x :: l, i, f, y, h => by
  unfold ackL at h
  split at h
  ·rcases List.mem_cons.1 h with h | h
   ·exact .inl (by simp [h])
   ·rcases ackL_mem l i f y h with h | ⟨z, hz, e⟩ | h
    ·exact .inl (by simp [h])
    ·exact .inr (.inl ⟨z, by simp [hz], e⟩)
    ·exact .inr (.inr h)
  split at h
  ·rename_i h2
   rcases List.mem_cons.1 h with h | h
   ·exact .inr (.inl ⟨x, by simp, h2, h⟩)
   ·exact .inl (by simp [h])
  ·rcases List.mem_cons.1 h with h | h
   ·exact .inr (.inr h)
   ·exact .inl h
theorem ackL_pair : ∀ (l : List Ak) (i f : Int), l.Pairwise (fun a b => a.1 < b.1) → (ackL l i f).Pairwise (fun a b => a.1 < b.1)
 | [], i, f, _ => by simp [ackL]
 | x :: l, i, f, h => by
  rw [List.pairwise_cons] at h
  unfold ackL
  split
  ·rename_i hx
   rw [List.pairwise_cons]
   refine ⟨fun y hy => ?_, ackL_pair l i f h.2⟩
   rcases ackL_mem l i f y hy with hy | ⟨z, hz, e1, rfl⟩ | rfl
   ·exact h.1 y hy
   ·exact h.1 z hz
   ·exact hx
  split
  ·rw [List.pairwise_cons]; exact ⟨fun y hy => h.1 y hy, h.2⟩
  ·rename_i h1 h2
   rw [List.pairwise_cons, List.pairwise_cons]
   refine ⟨fun y hy => ?_, h⟩
   rcases List.mem_cons.1 hy with rfl | hy
   ·show i < y.1; omega
   ·have := h.1 y hy; show i < y.1; omega
structure AscOk (N : Nat) (r : Rc) : Prop where
 a : AscA r.acks
 f : ∀ a ∈ r.acks, AscI a.2
 n : r.acks.length ≤ 60 + N
 m : ∀ a ∈ r.acks, a.2.length ≤ 5 + N
theorem AscOk.ack {N : Nat} {r : Rc} (h : AscOk N r) (i f : Int) : AscOk (N + 1) (ackR r i f) := by
 refine ⟨ascA_pair.2 (ackL_pair r.acks i f (ascA_pair.1 h.a)), fun y hy => ?_, (show (ackL r.acks i f).length ≤ 60 + (N + 1) by have := ackL_len r.acks i f; have := h.n; omega), fun y hy => by have := ackL_fromN _ r.acks i f h.m y hy; omega⟩
 rcases ackL_mem r.acks i f y hy with hy | ⟨z, hz, _, rfl⟩ | rfl
 ·exact h.f y hy
 ·exact ascI_pair.2 (addL_pair z.2 f (ascI_pair.1 (h.f z hz)))
 ·exact ascI_pair.2 (by simp)
theorem AscOk.more {N M : Nat} {r : Rc} (h : AscOk N r) (hm : N ≤ M) : AscOk M r := ⟨h.a, h.f, by have := h.n; omega, fun a ha => by have := h.m a ha; omega⟩
theorem ackN_asc {r : Rc} (h : AscOk 0 r) : ∀ k, AscOk k (ackN r k)
 | 0 => h
 | k + 1 => by
  have ih := ackN_asc h k
  unfold ackN
  split
  ·exact ih.ack _ _
  ·exact ih.more (by omega)
theorem valid_asc {r : Rc} (h : validB r = true) : AscOk 0 r ∧ AscI r.yes := by
 have hv := valid_lists h
 unfold validB at h
 simp only [Bool.and_eq_true] at h
 obtain ⟨⟨⟨⟨⟨⟨⟨⟨⟨⟨⟨⟨h1, h2⟩, h3⟩, h4⟩, h5⟩, h6⟩, h7⟩, h8⟩, h9⟩, h10⟩, h11⟩, h12⟩, h13⟩ := h
 have hac := h10
 simp only [acksOkB, Bool.and_eq_true] at hac
 exact ⟨⟨ascA_of hac.1, fun a ha => ascI_of (List.all_eq_true.1 hac.2 a ha), hv.1, hv.2.1⟩, ascI_of h8⟩
theorem tick2_asc {x : Rc} (h : AscOk 0 x) : AscOk 0 (tick2 x) := by
 unfold tick2
 split
 ·unfold promR
  split
  ·exact ⟨h.a, h.f, h.n, h.m⟩
  ·exact ⟨fun i j s t hs => by simp [calmR] at hs, fun a ha => by simp [calmR] at ha, Nat.zero_le _, fun a ha => by simp [calmR] at ha⟩
 ·exact h
end Go.Proofs.YtffklmlljekceaaGreat
namespace Go.Proofs.YtffklmlljekceaaGreat
open Go.ChangeShapes Go.WideShapes Go.ChangeAt Go.RowKit
set_option linter.unusedSimpArgs false
set_option linter.unusedVariables false
theorem pair_put {α : Type} {R : α → α → Prop} {l : List α} {k : Nat} {x y : α} (h : l[k]? = some x) (hp : l.Pairwise R) (h1 : ∀ z, R z x → z ∈ l → R z y) (h2 : ∀ z, R x z → z ∈ l → R y z) : (l.set k y).Pairwise R := by
 obtain ⟨e1, e2, _⟩ := set_parts h y
 rw [e2]
 have hm : ∀ z, z ∈ l.take k ++ x :: l.drop (k + 1) → z ∈ l := fun z hz => by rw [e1]; exact hz
 rw [e1] at hp
 rw [List.pairwise_append, List.pairwise_cons] at hp ⊢
 refine ⟨hp.1, ⟨fun z hz => h2 z (hp.2.1.1 z hz) (hm z (by simp [hz])), hp.2.1.2⟩, fun u hu v hv => ?_⟩
 rcases List.mem_cons.1 hv with rfl | hv
 ·exact h1 u (hp.2.2 u hu x (by simp)) (hm u (by simp [hu]))
 exact hp.2.2 u hu v (List.mem_cons_of_mem _ hv)
theorem RcHas.took_grown {B : Nat} {w w1 : World} {r : Rc} {p : RcP} {X : RcX} {col : Nat → Nat} {g : Nat} {a2 : Option Addr} {c2 k : Nat} {x : Ap} {fl : List Int} (h : RcHas B w r p X col) (hx : X.A[k]? = some x) (hg : p.aA = some ⟨g, 0, none⟩)
  (gr : w.grownBy w1 (Value.slice x.2.1 x.1.2.length x.2.2).ownBlock) (ho : w1.ownsRow B 3 1 (.slice a2 fl.length c2) fl.length (flatI fl)) (hn : NewOr w x.2.1 a2) (hgl : fl.length ≤ maxLen) (hgf : GoodOnes wfI fl) :
  RcHas B (w1.setCell ⟨g, k * 2 + 1, none⟩ (.slice a2 fl.length c2)) { r with acks := r.acks.set k (x.1.1, fl) } p ⟨X.H, X.A.set k ((x.1.1, fl), a2, c2)⟩ (colN a2 8 col) := by
 have hxr := h.ai.row x (List.mem_of_getElem? hx)
 have hu : ∀ y, x.2.1 = some y → col y.block = 8 := hxr.col
 have hcg : col g = 6 := h.a.col _ hg
 have hxm : r.acks[k]? = some x.1 := by rw [← h.am, List.getElem?_map, hx]; rfl
 have hc6 : ∀ b, b ≠ g → (w1.setCell ⟨g, k * 2 + 1, none⟩ (.slice a2 fl.length c2)).heap[b]? = w1.heap[b]? := fun b hb => heap_setCell_other w1 ⟨g, k * 2 + 1, none⟩ b _ (fun e => hb e)
 have kk : ∀ {t : Nat} {e : TypeId} {k' : Nat} {a : Option Addr} {n c : Nat} {xs : List Value}, t ≠ 8 → t ≠ 6 → RowC B w col t e k' a n c xs → RowC B (w1.setCell ⟨g, k * 2 + 1, none⟩ (.slice a2 fl.length c2)) (colN a2 8 col) t e k' a n c xs := fun h8 h6 hr =>
  (hr.grown hu h8 gr hn).same (fun y hy => hc6 _ (fun e => h6 (by have q1 := hr.col y hy; rw [e, hcg] at q1; exact q1.symm)))
 have hgl2 : g < w.heap.size := (h.a.lt _ hg).2
 have own8 : ∀ b, col b = 6 → some b ≠ (Value.slice x.2.1 x.1.2.length x.2.2).ownBlock := fun b h6 e => by
  cases hs : x.2.1 with
  | none => rw [hs] at e; simp [Value.ownBlock] at e
  | some y =>
   rw [hs] at e
   simp only [Value.ownBlock, Option.some.injEq] at e
   have := hu y hs
   rw [← e, h6] at this
   omega
 have ra := h.a.grown hu (by decide) gr hn
 have hst := ra.own
 rw [hg] at hst
 have hst2 := hst.stored (k * 2 + 1) (.slice a2 fl.length c2)
 rw [flatA_set hx] at hst2
 have a2g : ∀ y, a2 = some y → y.block ≠ g := fun y hy e => by
  rcases hn y hy with ⟨z, hz, he⟩ | h1
  ·have := hu z hz
   rw [he, e, hcg] at this
   omega
  omega
 have rnew : RowC B (w1.setCell ⟨g, k * 2 + 1, none⟩ (.slice a2 fl.length c2)) (colN a2 8 col) 8 3 1 a2 fl.length c2 (flatI fl) :=
  (RowC.mk (B := B) (col := colN a2 8 col) (t := 8) ho (fun y hy => colN_at hy)).same (fun y hy => hc6 _ (a2g y hy))
 have hmap : (X.A.set k ((x.1.1, fl), a2, c2)).map (·.1) = r.acks.set k (x.1.1, fl) := by rw [List.map_set, h.am]
 have far : ∀ z ∈ X.A, (∀ y y', z.2.1 = some y → x.2.1 = some y' → y.block ≠ y'.block) → RowC B (w1.setCell ⟨g, k * 2 + 1, none⟩ (.slice a2 fl.length c2)) (colN a2 8 col) 8 3 1 z.2.1 z.1.2.length z.2.2 (flatI z.1.2) := fun z hz hap => by
  have hzr := h.ai.row z hz
  have h1 : RowC B w1 col 8 3 1 z.2.1 z.1.2.length z.2.2 (flatI z.1.2) := hzr.same (fun y hy => gr.block _ (hzr.lt y hy).2 (fun e => by
   cases hs : x.2.1 with
   | none => rw [hs] at e; simp [Value.ownBlock] at e
   | some y' =>
    rw [hs] at e
    simp only [Value.ownBlock, Option.some.injEq] at e
    exact hap y y' hy hs e))
  refine ⟨(h1.same (fun y hy => hc6 _ (fun e => by have q1 := hzr.col y hy; rw [e, hcg] at q1; omega))).own, fun y hy => ?_⟩
  unfold colN
  split
  ·rfl
  exact hzr.col y hy
 have hin : InnA B (w1.setCell ⟨g, k * 2 + 1, none⟩ (.slice a2 fl.length c2)) (colN a2 8 col) 8 (X.A.set k ((x.1.1, fl), a2, c2)) := by
  refine ⟨fun m hm => ?_, ?_⟩
  ·obtain ⟨j, hj⟩ := List.getElem?_of_mem hm
   rw [List.getElem?_set] at hj
   split at hj
   ·split at hj
    ·simp only [Option.some.injEq] at hj; rw [← hj]; exact rnew
    simp at hj
   rename_i hne
   refine far m (List.mem_of_getElem? hj) ?_
   have hp := List.pairwise_iff_getElem.1 h.ai.apart
   obtain ⟨hj1, hj2⟩ := List.getElem?_eq_some_iff.1 hj
   obtain ⟨hk1, hk2⟩ := List.getElem?_eq_some_iff.1 hx
   intro y y' hy hy'
   rcases Nat.lt_or_gt_of_ne hne with hlt | hgt
   ·have := hp k j hk1 hj1 hlt
    rw [hk2, hj2] at this
    exact fun e => this y' y hy' hy e.symm
   have := hp j k hj1 hk1 hgt
   rw [hk2, hj2] at this
   exact this y y' hy hy'
  refine pair_put hx h.ai.apart (fun z hz hm y y' hy hy' => ?_) (fun z hz hm y y' hy hy' => ?_)
  ·rcases hn y' hy' with ⟨u, hu1, hu2⟩ | h1
   ·rw [← hu2]; exact hz y u hy hu1
   have := ((h.ai.row z hm).lt y hy).2
   omega
  rcases hn y hy with ⟨u, hu1, hu2⟩ | h1
  ·rw [← hu2]; exact hz u y' hu1 hy'
  have := ((h.ai.row z hm).lt y' hy').2
  omega
 have hra : RowC B (w1.setCell ⟨g, k * 2 + 1, none⟩ (.slice a2 fl.length c2)) (colN a2 8 col) 6 105 2 p.aA (r.acks.set k (x.1.1, fl)).length p.cA (flatA (X.A.set k ((x.1.1, fl), a2, c2))) := by
  rw [List.length_set, hg]
  refine ⟨hst2.1, fun y hy => ?_⟩
  have := ra.col y (by rw [hg]; exact hy)
  exact this
 exact ⟨kk (by decide) (by decide) h.s, kk (by decide) (by decide) h.d, kk (by decide) (by decide) h.h, h.hm, ⟨fun m hm => kk (by decide) (by decide) (h.hi.row m hm), h.hi.apart⟩, kk (by decide) (by decide) h.t, kk (by decide) (by decide) h.y, kk (by decide) (by decide) h.b, by rw [List.length_set] at hra ⊢; first | exact hra | simpa using hra, hmap, hin, ⟨h.gd.s, h.gd.d, h.gd.h, h.gd.t, h.gd.y, h.gd.b, acks_set h.gd.a (h.gd.a k _ hxm).1 hgl hgf⟩⟩
end Go.Proofs.YtffklmlljekceaaGreat
