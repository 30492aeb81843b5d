import Derived.Test.YtjdceoimignnpaaF13
namespace Go.Proofs.Ytjdceoimignnpaa
open Go.ChangeShapes Go.WideShapes Go.ChangeAt Go.RowKit
set_option linter.unusedVariables false
set_option linter.unusedSimpArgs false
set_option maxHeartbeats 8000000
set_option maxRecDepth 20000
variable {l : List Int} {c k n : Nat} {w : World}
theorem yC : ∀ {l : List Int} {n : Int} {k : Nat}, (∀ (j : Nat) x, j < k → l[j]? = some x → x < n) → l[k]? = some n → dN l n = l
 | [], n, k, _, h => by simp at h
 | x :: l, n, 0, _, h => by
  simp only [List.getElem?_cons_zero, Option.some.injEq] at h;subst h;simp [dN]
 | x :: l, n, k + 1, ha, h => by
  have h0 := ha 0 x (by omega) rfl;simp only [dN, if_pos h0, List.cons.injEq, true_and];exact yC (k := k) (fun j y hj hy => ha (j + 1) y (by omega) (by simpa using hy)) (by simpa using h)
theorem wY : ∀ {l : List Int} {n : Int} {k : Nat}, (∀ (j : Nat) x, j < k → l[j]? = some x → x < n) → k ≤ l.length → (∀ x, l[k]? = some x → n < x) → dN l n = l.take k ++ [n] ++ l.drop k
 | [], n, k, _, _, _ => by simp [dN]
 | x :: l, n, 0, _, _, h => by
  have h0 := h x rfl;simp only [dN, if_neg (show ¬ x < n by omega), if_neg (show ¬ x = n by omega), List.take_zero, List.nil_append, List.drop_zero, List.cons_append]
 | x :: l, n, k + 1, ha, hk, h => by
  have h0 := ha 0 x (by omega) rfl;simp only [dN, if_pos h0, List.take_succ_cons, List.drop_succ_cons, List.cons_append, List.cons.injEq, true_and];have := wY (l := l) (n := n) (k := k) (fun j y hj hy => ha (j + 1) y (by omega) (by simpa using hy)) (by simpa using hk) (fun y hy => h y (by simpa using hy));simpa using this
theorem ig {n : Int} (e : dN l n = l.take k ++ [n] ++ l.drop k) (hk : k ≤ l.length) : (dN l n).length = l.length + 1 := by
 rw [e];simp;omega
structure nZ (z : Nat) (V w' : World) : Prop where
 bel : Below z V w'
theorem nZ.drew {z : Nat} {V w' : World} (h : nZ z V w') : nZ z V w'.drew := ⟨h.bel.drew⟩
def Jb (w : World) (a : Option Addr) (c : Nat) (l : List Int) (n : Int) (e : Ending) (w' : World) : Prop := ∃ a' c', e = .returned (.slice a' (dN l n).length c') ∧ ((a' = a ∧ c' = c ∧ dN l n = l) ∨ aZ w.heap.size w'.heap.size w' 3 1 a' (dN l n).length c' (aV (dN l n))) ∧ Below w.heap.size w w'
theorem kZ {x : Addr} (h : aN w (some x) n c 1 (aV l)) (hk : k ≤ n) (hn : l.length = n) : aN w (some x) k c 1 (aV (l.take k)) :=
 ⟨by simp [aV]; omega, fun h0 => by simp at h0, fun y hy => ⟨(h.cells y hy).1, fun j u hu => (h.cells y hy).2 j u (by
  simp only [aV, List.map_take, List.getElem?_take] at hu ⊢;split at hu
  ·exact hu
  simp at hu)⟩⟩
theorem xJ {b off : Nat} {c' : Nat} (h : aN w (some ⟨b, off, none⟩) n c 1 (aV l)) (hk : k ≤ n) (hn : l.length = n) (hnc : n ≤ c) : aN w (if c = k then some ⟨b, off, none⟩ else some ⟨b, off + k, none⟩) (n - k) c' 1 (aV (l.drop k)) :=
 ⟨by simp [aV]; omega, fun h0 => by split at h0 <;> simp at h0, fun y hy => by
  refine ⟨by split at hy <;> (simp only [Option.some.injEq] at hy; rw [← hy]), fun j u hu => ?_⟩;have hlt : k + j < l.length := by
   have := (List.getElem?_eq_some_iff.1 hu).1;simp only [aV, List.length_map, List.length_drop] at this;omega
  rw [if_neg (by omega)] at hy;simp only [Option.some.injEq] at hy;subst hy
  have h0 := (h.cells _ rfl).2 (k + j) u (by
   simp only [aV, List.map_drop, List.getElem?_drop] at hu ⊢
   exact hu)
  rw [Addr.add_mid] at h0 ⊢;rw [show off + k + j = off + (k + j) by omega]
  exact h0⟩
theorem jZ {g : Nat} {v : Value} (h : aC w g #[v] 3) : aN w (some ⟨g, 0, none⟩) 1 1 1 [v] :=
 ⟨by simp, fun h0 => by simp at h0, fun y hy => by
  simp only [Option.some.injEq] at hy;subst hy;refine ⟨rfl, fun j u hu => ?_⟩;rw [Addr.add_mid, Nat.zero_add, h.cell j]
  simpa using hu⟩
theorem um (a : Option Addr) (l : List Int) (c : Nat) (n0 : Int) (w : World) (hc : l.length ≤ 1048576) (hlc : l.length ≤ c) (h : aN w a l.length c 1 (aV l)) :
  Calls Try.prog 110 #[.slice a l.length c, .int .i64 n0] w (Jb w a c l n0) := by
 go_enter Try.func110, Try.ntmps110;go_wp2;go_loopw [5] (fun i wr => ∃ (k : Nat), k ≤ l.length ∧ i = .int .i64 k ∧ (∀ (j : Nat) x, j < k → l[j]? = some x → x < n0) ∧ w = wr) (fun i _ => l.length - (intOf i).toNat);case atStart => exact ⟨0, Nat.zero_le _, rfl, fun j s hj => absurd hj (by omega), rfl⟩
 obtain ⟨k, hk, rfl, hall0, rfl⟩ := hrel;have hall : Hid (∀ (j : Nat) x, j < k → l[j]? = some x → x < n0) := hall0;clear hall0;have RD := hid h;by_cases hlt : k < l.length
 ·obtain ⟨x, hs0⟩ : ∃ x, l[k]? = some x := ⟨_, List.getElem?_eq_getElem hlt⟩
  have hs : Hid (l[k]? = some x) := hs0;obtain ⟨ad, rfl⟩ : ∃ ad, a = some ad := by
   cases a with
   | none => have := (h.nil rfl).1; omega
   | some ad => exact ⟨ad, rfl⟩
  obtain ⟨b, off, sp⟩ := ad;obtain ⟨sp0, hcell⟩ := h.cells _ rfl;obtain rfl : sp = none := sp0;have c0 := hcell k (.int .i64 x) (by simp [aV, hs0]);rw [Addr.add_mid] at c0;clear hs0 hcell h;have e1 : (0 : Int) ≤ (k : Int) := by omega
  have e2 : (k : Int) < (l.length : Int) := by omega
  by_cases hp : x < n0
  ·have u1 : decide (x < n0) = true := decide_eq_true hp;go_wp2;go_roundw;case rel =>
    refine ⟨k + 1, by omega, by go_num, fun j u hj hu => ?_, by first | rfl | trivial⟩;by_cases he : j = k
    ·subst he; rw [hs.out] at hu; simp only [Option.some.injEq] at hu; omega
    exact hall.out j u (by omega) hu
   case measure => simp [intOf]; omega
  have u1 : decide (x < n0) = false := decide_eq_false hp;by_cases hq : x = n0
  ·have u2 : decide (x = n0) = true := decide_eq_true hq;go_wp2;go_ret;have e := yC hall.out (by rw [hs.out, hq]);exact ⟨some ⟨b, off, none⟩, c, by rw [e]; rfl, .inl ⟨rfl, rfl, e⟩, Below.refl _ _⟩
  have u2 : decide (x = n0) = false := decide_eq_false hq;have EQ := hid (wY hall.out (Nat.le_of_lt hlt) (fun y hy => by rw [hs.out] at hy; simp only [Option.some.injEq] at hy; omega));have e3 : (k : Int) ≤ (c : Int) := by omega
  have e4 : (k : Int) ≤ (l.length : Int) := by omega
  have e5 : (l.length : Int) ≤ (c : Int) := by omega
  go_wp2_with fail;refine wp_region_held_drew (S := nZ w.heap.size w) (by kernel_rfl) (nZ.mk (Below.refl _ _)).drew (fun q9 => ?_);simp only [qz, Nat.reduceAdd];refine ag.go [1, 2, 3, 5, 8, 9, 10] ?_;iterate 7 (refine ag.tn q9 ?_; try simp only [qq])
  refine ag.fin ?_;obtain ⟨v0, hv0⟩ : ∃ v, v = w.drew := ⟨_, rfl⟩
  rw [← hv0] at q9 ⊢;have BV0 := hid q9.bel;clear hv0 q9;obtain ⟨da, hda⟩ : ∃ d : Option Addr, d = (if c = k then some ⟨b, off, none⟩ else some ⟨b, off + k, none⟩) := ⟨_, rfl⟩
  rw [← hda];have DR := hid (show aN w da (l.length - k) (c - k) 1 (aV (l.drop k)) by rw [hda]; exact xJ RD.out (Nat.le_of_lt hlt) rfl hlc);clear hda;refine wpAnyH_ready (rs := [0, 6]) (by kernel_rfl) (by simp) ?_;refine AllReadyH.cons (ax rfl) (fun K hK => ?_) (AllReadyH.cons (ax rfl) (fun K hK => ?_) AllReadyH.nil)
  ·skip
   go_simp;obtain ⟨v1, hv1⟩ : ∃ v, v = v0.alloc (.cells #[] 3) := ⟨_, rfl⟩
   have BV1 := hid (show Below w.heap.size w v1 by rw [hv1]; exact ae BV0.out _);have EX1 := hid (show Below v0.heap.size v0 v1 by rw [hv1]; exact ae (Below.refl _ _) _);have kA1 := hid (show aC v1 v0.heap.size #[] 3 by rw [hv1]; exact aC.new _ _ _);rw [← hv1];refine hK.out _ _ ⟨BV1.out⟩ (fun _ => ?_);clear hK K hv1;try simp only [qq]
   refine wpAnyH_ready (rs := [4, 6]) (by kernel_rfl) (by simp) ?_;refine AllReadyH.cons (ax rfl) (fun K hK => ?_) (AllReadyH.cons (ax rfl) (fun K hK => ?_) AllReadyH.nil)
   ·skip
    rw [if_pos (by rfl)];refine kw v0.heap.size (some ⟨b, off, none⟩) k c (aV (l.take k)) rfl rfl kA1.out (kZ (RD.out.ext BV1.out) (Nat.le_of_lt hlt) rfl) (dK _) (by omega) (fun a2 c2 v2 ow2 gr2 => ?_);have BV2 := hid (below_grow BV1.out gr2 (fun j hj => by simp only [Option.some.injEq] at hj; have := BV0.out.size; omega) BV1.out.size);have o2 := hid (aZ.mk' (fE ow2 (show w.heap.size ≤ _ by have := BV0.out.size; omega)));refine hK.out _ _ ⟨BV2.out⟩ (fun _ => ?_);clear hK K ow2;try simp only [qq]
    refine bV 6 fun K hK => ?_
    go_simp;obtain ⟨v3, hv3⟩ : ∃ v, v = v2.alloc (.cells #[.int .i64 n0] 3) := ⟨_, rfl⟩
    have BV3 := hid (show Below w.heap.size w v3 by rw [hv3]; exact ae BV2.out _);have EX3 := hid (show Below v2.heap.size v2 v3 by rw [hv3]; exact ae (Below.refl _ _) _);have kN3 := hid (show aC v3 v2.heap.size #[.int .i64 n0] 3 by rw [hv3]; exact aC.new _ _ _);rw [← hv3];refine hK.out _ _ ⟨BV3.out⟩ (fun _ => ?_);clear hK K hv3;try simp only [qq]
    have o3 := hid (o2.out.ext EX3.out);refine bV 7 fun K hK => ?_
    rw [if_pos (by rfl)];refine gu w.heap.size a2 k c2 (aV (l.take k)) (some ⟨v2.heap.size, 0, none⟩) 1 1 [.int .i64 n0] rfl rfl o3.out.own (jZ kN3.out) (fun u hu => by simp only [List.mem_singleton] at hu; subst hu; rfl) (by omega) BV3.out.size (fun a4 c4 v4 ow4 gr4 _ => ?_);have BV4 := hid (below_grow BV3.out gr4 (fun j hj => (o3.out.own.lt j hj).1) BV3.out.size);have o4 := hid (aZ.mk' ow4);refine hK.out _ _ ⟨BV4.out⟩ (fun _ => ?_);clear hK K ow4;try simp only [qq]
    refine bV 11 fun K hK => ?_
    rw [if_pos (by rfl)];refine gu w.heap.size a4 (k + 1) c4 ((aV (l.take k)) ++ [.int .i64 n0]) da (l.length - k) (c - k) (aV (l.drop k)) rfl rfl o4.out.own (DR.out.ext BV4.out) (dK _) (by omega) BV4.out.size (fun a5 c5 v5 ow5 gr5 _ => ?_);have BV5 := hid (below_grow BV4.out gr5 (fun j hj => (o4.out.own.lt j hj).1) BV4.out.size);have o5 := hid (aZ.mk' ow5);refine hK.out _ _ ⟨BV5.out⟩ (fun q9 => ?_);clear hK K ow5;try simp only [qq]
    refine ag.go [12] ?_;iterate 1 (refine ag.tn q9 ?_; try simp only [qq])
    refine ag.fin ?_;refine wpAnyH_done (by kernel_rfl) ?_ _;clear q9;go_wp2_with fail;go_ret;have LE := ig EQ.out (by first | omega | simp);refine ⟨a5, c5, ?_, .inr ?_, BV5.out⟩
    ·rw [LE] <;> congr 2 <;> try (first | omega | (simp; omega) | simp)
    have := o5.out;have e1 : aV (dN l n0) = (aV (l.take k)) ++ [.int .i64 n0] ++ aV (l.drop k) := by rw [EQ.out] <;> simp [aV]
    have e2 : (dN l n0).length = k + 1 + (l.length - k) := by rw [LE] <;> first | omega | (simp; omega) | simp
    rw [e1, e2];exact this
   skip
   go_simp;obtain ⟨v6, hv6⟩ : ∃ v, v = v1.alloc (.cells #[.int .i64 n0] 3) := ⟨_, rfl⟩
   have BV6 := hid (show Below w.heap.size w v6 by rw [hv6]; exact ae BV1.out _);have EX6 := hid (show Below v1.heap.size v1 v6 by rw [hv6]; exact ae (Below.refl _ _) _);have kN6 := hid (show aC v6 v1.heap.size #[.int .i64 n0] 3 by rw [hv6]; exact aC.new _ _ _);rw [← hv6];refine hK.out _ _ ⟨BV6.out⟩ (fun _ => ?_);clear hK K hv6;try simp only [qq]
   have kA6 := hid (kA1.out.ext EX6.out);refine bV 4 fun K hK => ?_
   rw [if_pos (by rfl)];refine kw v0.heap.size (some ⟨b, off, none⟩) k c (aV (l.take k)) rfl rfl kA6.out (kZ (RD.out.ext BV6.out) (Nat.le_of_lt hlt) rfl) (dK _) (by omega) (fun a7 c7 v7 ow7 gr7 => ?_);have BV7 := hid (below_grow BV6.out gr7 (fun j hj => by simp only [Option.some.injEq] at hj; have := BV0.out.size; have := BV1.out.size; omega) BV6.out.size);have o7 := hid (aZ.mk' (fE ow7 (show w.heap.size ≤ _ by have := BV0.out.size; have := BV1.out.size; omega)));refine hK.out _ _ ⟨BV7.out⟩ (fun _ => ?_);clear hK K ow7;try simp only [qq]
   have kN7 := hid (show aC v7 v1.heap.size #[.int .i64 n0] 3 from (gr7.block _ kN6.out.lt (fun e => by simp only [Option.some.injEq] at e; have := kA1.out.lt; omega)).trans kN6.out);refine bV 7 fun K hK => ?_
   rw [if_pos (by rfl)];refine gu w.heap.size a7 k c7 (aV (l.take k)) (some ⟨v1.heap.size, 0, none⟩) 1 1 [.int .i64 n0] rfl rfl o7.out.own (jZ kN7.out) (fun u hu => by simp only [List.mem_singleton] at hu; subst hu; rfl) (by omega) BV7.out.size (fun a8 c8 v8 ow8 gr8 _ => ?_);have BV8 := hid (below_grow BV7.out gr8 (fun j hj => (o7.out.own.lt j hj).1) BV7.out.size);have o8 := hid (aZ.mk' ow8);refine hK.out _ _ ⟨BV8.out⟩ (fun _ => ?_);clear hK K ow8;try simp only [qq]
   refine bV 11 fun K hK => ?_
   rw [if_pos (by rfl)];refine gu w.heap.size a8 (k + 1) c8 ((aV (l.take k)) ++ [.int .i64 n0]) da (l.length - k) (c - k) (aV (l.drop k)) rfl rfl o8.out.own (DR.out.ext BV8.out) (dK _) (by omega) BV8.out.size (fun a9 c9 v9 ow9 gr9 _ => ?_);have BV9 := hid (below_grow BV8.out gr9 (fun j hj => (o8.out.own.lt j hj).1) BV8.out.size);have o9 := hid (aZ.mk' ow9);refine hK.out _ _ ⟨BV9.out⟩ (fun q9 => ?_);clear hK K ow9;try simp only [qq]
   refine ag.go [12] ?_;iterate 1 (refine ag.tn q9 ?_; try simp only [qq])
   refine ag.fin ?_;refine wpAnyH_done (by kernel_rfl) ?_ _;clear q9;go_wp2_with fail;go_ret;have LE := ig EQ.out (by first | omega | simp);refine ⟨a9, c9, ?_, .inr ?_, BV9.out⟩
   ·rw [LE] <;> congr 2 <;> try (first | omega | (simp; omega) | simp)
   have := o9.out;have e1 : aV (dN l n0) = (aV (l.take k)) ++ [.int .i64 n0] ++ aV (l.drop k) := by rw [EQ.out] <;> simp [aV]
   have e2 : (dN l n0).length = k + 1 + (l.length - k) := by rw [LE] <;> first | omega | (simp; omega) | simp
   rw [e1, e2];exact this
  skip
  go_simp;obtain ⟨v10, hv10⟩ : ∃ v, v = v0.alloc (.cells #[.int .i64 n0] 3) := ⟨_, rfl⟩
  have BV10 := hid (show Below w.heap.size w v10 by rw [hv10]; exact ae BV0.out _);have EX10 := hid (show Below v0.heap.size v0 v10 by rw [hv10]; exact ae (Below.refl _ _) _);have kN10 := hid (show aC v10 v0.heap.size #[.int .i64 n0] 3 by rw [hv10]; exact aC.new _ _ _);rw [← hv10];refine hK.out _ _ ⟨BV10.out⟩ (fun _ => ?_);clear hK K hv10;try simp only [qq]
  refine bV 0 fun K hK => ?_
  go_simp;obtain ⟨v11, hv11⟩ : ∃ v, v = v10.alloc (.cells #[] 3) := ⟨_, rfl⟩
  have BV11 := hid (show Below w.heap.size w v11 by rw [hv11]; exact ae BV10.out _);have EX11 := hid (show Below v10.heap.size v10 v11 by rw [hv11]; exact ae (Below.refl _ _) _);have kA11 := hid (show aC v11 v10.heap.size #[] 3 by rw [hv11]; exact aC.new _ _ _);rw [← hv11];refine hK.out _ _ ⟨BV11.out⟩ (fun _ => ?_);clear hK K hv11;try simp only [qq]
  have kN11 := hid (kN10.out.ext EX11.out);refine bV 4 fun K hK => ?_
  rw [if_pos (by rfl)];refine kw v10.heap.size (some ⟨b, off, none⟩) k c (aV (l.take k)) rfl rfl kA11.out (kZ (RD.out.ext BV11.out) (Nat.le_of_lt hlt) rfl) (dK _) (by omega) (fun a12 c12 v12 ow12 gr12 => ?_);have BV12 := hid (below_grow BV11.out gr12 (fun j hj => by simp only [Option.some.injEq] at hj; have := BV0.out.size; have := BV10.out.size; omega) BV11.out.size);have o12 := hid (aZ.mk' (fE ow12 (show w.heap.size ≤ _ by have := BV0.out.size; have := BV10.out.size; omega)));refine hK.out _ _ ⟨BV12.out⟩ (fun _ => ?_);clear hK K ow12;try simp only [qq]
  have kN12 := hid (show aC v12 v0.heap.size #[.int .i64 n0] 3 from (gr12.block _ kN11.out.lt (fun e => by simp only [Option.some.injEq] at e; have := kN10.out.lt; omega)).trans kN11.out);refine bV 7 fun K hK => ?_
  rw [if_pos (by rfl)];refine gu w.heap.size a12 k c12 (aV (l.take k)) (some ⟨v0.heap.size, 0, none⟩) 1 1 [.int .i64 n0] rfl rfl o12.out.own (jZ kN12.out) (fun u hu => by simp only [List.mem_singleton] at hu; subst hu; rfl) (by omega) BV12.out.size (fun a13 c13 v13 ow13 gr13 _ => ?_);have BV13 := hid (below_grow BV12.out gr13 (fun j hj => (o12.out.own.lt j hj).1) BV12.out.size);have o13 := hid (aZ.mk' ow13);refine hK.out _ _ ⟨BV13.out⟩ (fun _ => ?_);clear hK K ow13;try simp only [qq]
  refine bV 11 fun K hK => ?_
  rw [if_pos (by rfl)];refine gu w.heap.size a13 (k + 1) c13 ((aV (l.take k)) ++ [.int .i64 n0]) da (l.length - k) (c - k) (aV (l.drop k)) rfl rfl o13.out.own (DR.out.ext BV13.out) (dK _) (by omega) BV13.out.size (fun a14 c14 v14 ow14 gr14 _ => ?_);have BV14 := hid (below_grow BV13.out gr14 (fun j hj => (o13.out.own.lt j hj).1) BV13.out.size);have o14 := hid (aZ.mk' ow14);refine hK.out _ _ ⟨BV14.out⟩ (fun q9 => ?_);clear hK K ow14;try simp only [qq]
  refine ag.go [12] ?_;iterate 1 (refine ag.tn q9 ?_; try simp only [qq])
  refine ag.fin ?_;refine wpAnyH_done (by kernel_rfl) ?_ _;clear q9;go_wp2_with fail;go_ret;have LE := ig EQ.out (by first | omega | simp);refine ⟨a14, c14, ?_, .inr ?_, BV14.out⟩
  ·rw [LE] <;> congr 2 <;> try (first | omega | (simp; omega) | simp)
  have := o14.out;have e1 : aV (dN l n0) = (aV (l.take k)) ++ [.int .i64 n0] ++ aV (l.drop k) := by rw [EQ.out] <;> simp [aV]
  have e2 : (dN l n0).length = k + 1 + (l.length - k) := by rw [LE] <;> first | omega | (simp; omega) | simp
  rw [e1, e2];exact this
 obtain rfl : k = l.length := by omega
 have EQ := hid (wY hall.out (Nat.le_refl _) (fun y hy => by rw [List.getElem?_eq_none (Nat.le_refl _)] at hy; simp at hy));have e3 : (l.length : Int) ≤ (c : Int) := by omega
 have e1 : (0 : Int) ≤ (l.length : Int) := by omega
 cases a with
 | none =>
  obtain ⟨l0, rfl⟩ := h.nil rfl;obtain rfl : l = [] := List.length_eq_zero_iff.1 l0;clear h;go_wp2_with fail;refine wp_region_held_drew (S := nZ w.heap.size w) (by kernel_rfl) (nZ.mk (Below.refl _ _)).drew (fun q9 => ?_);simp only [qz, Nat.reduceAdd];refine ag.go [1, 2, 3, 5, 8, 9, 10] ?_;iterate 7 (refine ag.tn q9 ?_; try simp only [qq])
  refine ag.fin ?_;obtain ⟨v0, hv0⟩ : ∃ v, v = w.drew := ⟨_, rfl⟩
  rw [← hv0] at q9 ⊢;have BV0 := hid q9.bel;clear hv0 q9;have DR := hid (show aN w none 0 0 1 (aV (([] : List Int).drop 0)) from RD.out);refine wpAnyH_ready (rs := [0, 6]) (by kernel_rfl) (by simp) ?_;refine AllReadyH.cons (ax rfl) (fun K hK => ?_) (AllReadyH.cons (ax rfl) (fun K hK => ?_) AllReadyH.nil)
  ·skip
   go_simp;obtain ⟨v1, hv1⟩ : ∃ v, v = v0.alloc (.cells #[] 3) := ⟨_, rfl⟩
   have BV1 := hid (show Below w.heap.size w v1 by rw [hv1]; exact ae BV0.out _);have EX1 := hid (show Below v0.heap.size v0 v1 by rw [hv1]; exact ae (Below.refl _ _) _);have kA1 := hid (show aC v1 v0.heap.size #[] 3 by rw [hv1]; exact aC.new _ _ _);rw [← hv1];refine hK.out _ _ ⟨BV1.out⟩ (fun _ => ?_);clear hK K hv1;try simp only [qq]
   refine wpAnyH_ready (rs := [4, 6]) (by kernel_rfl) (by simp) ?_;refine AllReadyH.cons (ax rfl) (fun K hK => ?_) (AllReadyH.cons (ax rfl) (fun K hK => ?_) AllReadyH.nil)
   ·skip
    rw [if_pos (by rfl)];refine kw v0.heap.size none 0 0 (aV (([] : List Int).take 0)) rfl rfl kA1.out ((RD.out.ext BV1.out)) (dK _) (by omega) (fun a2 c2 v2 ow2 gr2 => ?_);have BV2 := hid (below_grow BV1.out gr2 (fun j hj => by simp only [Option.some.injEq] at hj; have := BV0.out.size; omega) BV1.out.size);have o2 := hid (aZ.mk' (fE ow2 (show w.heap.size ≤ _ by have := BV0.out.size; omega)));refine hK.out _ _ ⟨BV2.out⟩ (fun _ => ?_);clear hK K ow2;try simp only [qq]
    refine bV 6 fun K hK => ?_
    go_simp;obtain ⟨v3, hv3⟩ : ∃ v, v = v2.alloc (.cells #[.int .i64 n0] 3) := ⟨_, rfl⟩
    have BV3 := hid (show Below w.heap.size w v3 by rw [hv3]; exact ae BV2.out _);have EX3 := hid (show Below v2.heap.size v2 v3 by rw [hv3]; exact ae (Below.refl _ _) _);have kN3 := hid (show aC v3 v2.heap.size #[.int .i64 n0] 3 by rw [hv3]; exact aC.new _ _ _);rw [← hv3];refine hK.out _ _ ⟨BV3.out⟩ (fun _ => ?_);clear hK K hv3;try simp only [qq]
    have o3 := hid (o2.out.ext EX3.out);refine bV 7 fun K hK => ?_
    rw [if_pos (by rfl)];refine gu w.heap.size a2 0 c2 (aV (([] : List Int).take 0)) (some ⟨v2.heap.size, 0, none⟩) 1 1 [.int .i64 n0] rfl rfl o3.out.own (jZ kN3.out) (fun u hu => by simp only [List.mem_singleton] at hu; subst hu; rfl) (by omega) BV3.out.size (fun a4 c4 v4 ow4 gr4 _ => ?_);have BV4 := hid (below_grow BV3.out gr4 (fun j hj => (o3.out.own.lt j hj).1) BV3.out.size);have o4 := hid (aZ.mk' ow4);refine hK.out _ _ ⟨BV4.out⟩ (fun _ => ?_);clear hK K ow4;try simp only [qq]
    refine bV 11 fun K hK => ?_
    rw [if_pos (by rfl)];refine gu w.heap.size a4 (0 + 1) c4 ((aV (([] : List Int).take 0)) ++ [.int .i64 n0]) none 0 0 (aV (([] : List Int).drop 0)) rfl rfl o4.out.own (DR.out.ext BV4.out) (dK _) (by omega) BV4.out.size (fun a5 c5 v5 ow5 gr5 _ => ?_);have BV5 := hid (below_grow BV4.out gr5 (fun j hj => (o4.out.own.lt j hj).1) BV4.out.size);have o5 := hid (aZ.mk' ow5);refine hK.out _ _ ⟨BV5.out⟩ (fun q9 => ?_);clear hK K ow5;try simp only [qq]
    refine ag.go [12] ?_;iterate 1 (refine ag.tn q9 ?_; try simp only [qq])
    refine ag.fin ?_;refine wpAnyH_done (by kernel_rfl) ?_ _;clear q9;go_wp2_with fail;go_ret;have LE := ig EQ.out (by first | omega | simp);refine ⟨a5, c5, ?_, .inr ?_, BV5.out⟩
    ·rw [LE] <;> congr 2 <;> try (first | omega | (simp; omega) | simp)
    have := o5.out;have e1 : aV (dN ([] : List Int) n0) = (aV (([] : List Int).take 0)) ++ [.int .i64 n0] ++ aV (([] : List Int).drop 0) := by rw [EQ.out] <;> simp [aV]
    have e2 : (dN ([] : List Int) n0).length = 0 + 1 + 0 := by rw [LE] <;> first | omega | (simp; omega) | simp
    rw [e1, e2];exact this
   skip
   go_simp;obtain ⟨v6, hv6⟩ : ∃ v, v = v1.alloc (.cells #[.int .i64 n0] 3) := ⟨_, rfl⟩
   have BV6 := hid (show Below w.heap.size w v6 by rw [hv6]; exact ae BV1.out _);have EX6 := hid (show Below v1.heap.size v1 v6 by rw [hv6]; exact ae (Below.refl _ _) _);have kN6 := hid (show aC v6 v1.heap.size #[.int .i64 n0] 3 by rw [hv6]; exact aC.new _ _ _);rw [← hv6];refine hK.out _ _ ⟨BV6.out⟩ (fun _ => ?_);clear hK K hv6;try simp only [qq]
   have kA6 := hid (kA1.out.ext EX6.out);refine bV 4 fun K hK => ?_
   rw [if_pos (by rfl)];refine kw v0.heap.size none 0 0 (aV (([] : List Int).take 0)) rfl rfl kA6.out ((RD.out.ext BV6.out)) (dK _) (by omega) (fun a7 c7 v7 ow7 gr7 => ?_);have BV7 := hid (below_grow BV6.out gr7 (fun j hj => by simp only [Option.some.injEq] at hj; have := BV0.out.size; have := BV1.out.size; omega) BV6.out.size);have o7 := hid (aZ.mk' (fE ow7 (show w.heap.size ≤ _ by have := BV0.out.size; have := BV1.out.size; omega)));refine hK.out _ _ ⟨BV7.out⟩ (fun _ => ?_);clear hK K ow7;try simp only [qq]
   have kN7 := hid (show aC v7 v1.heap.size #[.int .i64 n0] 3 from (gr7.block _ kN6.out.lt (fun e => by simp only [Option.some.injEq] at e; have := kA1.out.lt; omega)).trans kN6.out);refine bV 7 fun K hK => ?_
   rw [if_pos (by rfl)];refine gu w.heap.size a7 0 c7 (aV (([] : List Int).take 0)) (some ⟨v1.heap.size, 0, none⟩) 1 1 [.int .i64 n0] rfl rfl o7.out.own (jZ kN7.out) (fun u hu => by simp only [List.mem_singleton] at hu; subst hu; rfl) (by omega) BV7.out.size (fun a8 c8 v8 ow8 gr8 _ => ?_);have BV8 := hid (below_grow BV7.out gr8 (fun j hj => (o7.out.own.lt j hj).1) BV7.out.size);have o8 := hid (aZ.mk' ow8);refine hK.out _ _ ⟨BV8.out⟩ (fun _ => ?_);clear hK K ow8;try simp only [qq]
   refine bV 11 fun K hK => ?_
   rw [if_pos (by rfl)];refine gu w.heap.size a8 (0 + 1) c8 ((aV (([] : List Int).take 0)) ++ [.int .i64 n0]) none 0 0 (aV (([] : List Int).drop 0)) rfl rfl o8.out.own (DR.out.ext BV8.out) (dK _) (by omega) BV8.out.size (fun a9 c9 v9 ow9 gr9 _ => ?_);have BV9 := hid (below_grow BV8.out gr9 (fun j hj => (o8.out.own.lt j hj).1) BV8.out.size);have o9 := hid (aZ.mk' ow9);refine hK.out _ _ ⟨BV9.out⟩ (fun q9 => ?_);clear hK K ow9;try simp only [qq]
   refine ag.go [12] ?_;iterate 1 (refine ag.tn q9 ?_; try simp only [qq])
   refine ag.fin ?_;refine wpAnyH_done (by kernel_rfl) ?_ _;clear q9;go_wp2_with fail;go_ret;have LE := ig EQ.out (by first | omega | simp);refine ⟨a9, c9, ?_, .inr ?_, BV9.out⟩
   ·rw [LE] <;> congr 2 <;> try (first | omega | (simp; omega) | simp)
   have := o9.out;have e1 : aV (dN ([] : List Int) n0) = (aV (([] : List Int).take 0)) ++ [.int .i64 n0] ++ aV (([] : List Int).drop 0) := by rw [EQ.out] <;> simp [aV]
   have e2 : (dN ([] : List Int) n0).length = 0 + 1 + 0 := by rw [LE] <;> first | omega | (simp; omega) | simp
   rw [e1, e2];exact this
  ·skip
   go_simp;obtain ⟨v10, hv10⟩ : ∃ v, v = v0.alloc (.cells #[.int .i64 n0] 3) := ⟨_, rfl⟩
   have BV10 := hid (show Below w.heap.size w v10 by rw [hv10]; exact ae BV0.out _);have EX10 := hid (show Below v0.heap.size v0 v10 by rw [hv10]; exact ae (Below.refl _ _) _);have kN10 := hid (show aC v10 v0.heap.size #[.int .i64 n0] 3 by rw [hv10]; exact aC.new _ _ _);rw [← hv10];refine hK.out _ _ ⟨BV10.out⟩ (fun _ => ?_);clear hK K hv10;try simp only [qq]
   refine bV 0 fun K hK => ?_
   go_simp;obtain ⟨v11, hv11⟩ : ∃ v, v = v10.alloc (.cells #[] 3) := ⟨_, rfl⟩
   have BV11 := hid (show Below w.heap.size w v11 by rw [hv11]; exact ae BV10.out _);have EX11 := hid (show Below v10.heap.size v10 v11 by rw [hv11]; exact ae (Below.refl _ _) _);have kA11 := hid (show aC v11 v10.heap.size #[] 3 by rw [hv11]; exact aC.new _ _ _);rw [← hv11];refine hK.out _ _ ⟨BV11.out⟩ (fun _ => ?_);clear hK K hv11;try simp only [qq]
   have kN11 := hid (kN10.out.ext EX11.out);refine bV 4 fun K hK => ?_
   rw [if_pos (by rfl)];refine kw v10.heap.size none 0 0 (aV (([] : List Int).take 0)) rfl rfl kA11.out ((RD.out.ext BV11.out)) (dK _) (by omega) (fun a12 c12 v12 ow12 gr12 => ?_);have BV12 := hid (below_grow BV11.out gr12 (fun j hj => by simp only [Option.some.injEq] at hj; have := BV0.out.size; have := BV10.out.size; omega) BV11.out.size);have o12 := hid (aZ.mk' (fE ow12 (show w.heap.size ≤ _ by have := BV0.out.size; have := BV10.out.size; omega)));refine hK.out _ _ ⟨BV12.out⟩ (fun _ => ?_);clear hK K ow12;try simp only [qq]
   have kN12 := hid (show aC v12 v0.heap.size #[.int .i64 n0] 3 from (gr12.block _ kN11.out.lt (fun e => by simp only [Option.some.injEq] at e; have := kN10.out.lt; omega)).trans kN11.out);refine bV 7 fun K hK => ?_
   rw [if_pos (by rfl)];refine gu w.heap.size a12 0 c12 (aV (([] : List Int).take 0)) (some ⟨v0.heap.size, 0, none⟩) 1 1 [.int .i64 n0] rfl rfl o12.out.own (jZ kN12.out) (fun u hu => by simp only [List.mem_singleton] at hu; subst hu; rfl) (by omega) BV12.out.size (fun a13 c13 v13 ow13 gr13 _ => ?_);have BV13 := hid (below_grow BV12.out gr13 (fun j hj => (o12.out.own.lt j hj).1) BV12.out.size);have o13 := hid (aZ.mk' ow13);refine hK.out _ _ ⟨BV13.out⟩ (fun _ => ?_);clear hK K ow13;try simp only [qq]
   refine bV 11 fun K hK => ?_
   rw [if_pos (by rfl)];refine gu w.heap.size a13 (0 + 1) c13 ((aV (([] : List Int).take 0)) ++ [.int .i64 n0]) none 0 0 (aV (([] : List Int).drop 0)) rfl rfl o13.out.own (DR.out.ext BV13.out) (dK _) (by omega) BV13.out.size (fun a14 c14 v14 ow14 gr14 _ => ?_);have BV14 := hid (below_grow BV13.out gr14 (fun j hj => (o13.out.own.lt j hj).1) BV13.out.size);have o14 := hid (aZ.mk' ow14);refine hK.out _ _ ⟨BV14.out⟩ (fun q9 => ?_);clear hK K ow14;try simp only [qq]
   refine ag.go [12] ?_;iterate 1 (refine ag.tn q9 ?_; try simp only [qq])
   refine ag.fin ?_;refine wpAnyH_done (by kernel_rfl) ?_ _;clear q9;go_wp2_with fail;go_ret;have LE := ig EQ.out (by first | omega | simp);refine ⟨a14, c14, ?_, .inr ?_, BV14.out⟩
   ·rw [LE] <;> congr 2 <;> try (first | omega | (simp; omega) | simp)
   have := o14.out;have e1 : aV (dN ([] : List Int) n0) = (aV (([] : List Int).take 0)) ++ [.int .i64 n0] ++ aV (([] : List Int).drop 0) := by rw [EQ.out] <;> simp [aV]
   have e2 : (dN ([] : List Int) n0).length = 0 + 1 + 0 := by rw [LE] <;> first | omega | (simp; omega) | simp
   rw [e1, e2];exact this
 | some ad =>
  obtain ⟨b, off, sp⟩ := ad;obtain rfl : sp = none := (h.cells _ rfl).1;clear h;go_wp2_with fail;refine wp_region_held_drew (S := nZ w.heap.size w) (by kernel_rfl) (nZ.mk (Below.refl _ _)).drew (fun q9 => ?_);simp only [qz, Nat.reduceAdd];refine ag.go [1, 2, 3, 5, 8, 9, 10] ?_;iterate 7 (refine ag.tn q9 ?_; try simp only [qq])
  refine ag.fin ?_;obtain ⟨v0, hv0⟩ : ∃ v, v = w.drew := ⟨_, rfl⟩
  rw [← hv0] at q9 ⊢;have BV0 := hid q9.bel;clear hv0 q9;obtain ⟨da, hda⟩ : ∃ d : Option Addr, d = (if c = l.length then some ⟨b, off, none⟩ else some ⟨b, off + l.length, none⟩) := ⟨_, rfl⟩
  rw [← hda];have DR := hid (show aN w da 0 (c - l.length) 1 (aV (l.drop l.length)) by rw [hda]; exact (by have h9 := xJ (c' := c - l.length) RD.out (Nat.le_refl _) rfl hlc; rw [Nat.sub_self] at h9; exact h9));clear hda;refine wpAnyH_ready (rs := [0, 6]) (by kernel_rfl) (by simp) ?_;refine AllReadyH.cons (ax rfl) (fun K hK => ?_) (AllReadyH.cons (ax rfl) (fun K hK => ?_) AllReadyH.nil)
  ·skip
   go_simp;obtain ⟨v1, hv1⟩ : ∃ v, v = v0.alloc (.cells #[] 3) := ⟨_, rfl⟩
   have BV1 := hid (show Below w.heap.size w v1 by rw [hv1]; exact ae BV0.out _);have EX1 := hid (show Below v0.heap.size v0 v1 by rw [hv1]; exact ae (Below.refl _ _) _);have kA1 := hid (show aC v1 v0.heap.size #[] 3 by rw [hv1]; exact aC.new _ _ _);rw [← hv1];refine hK.out _ _ ⟨BV1.out⟩ (fun _ => ?_);clear hK K hv1;try simp only [qq]
   refine wpAnyH_ready (rs := [4, 6]) (by kernel_rfl) (by simp) ?_;refine AllReadyH.cons (ax rfl) (fun K hK => ?_) (AllReadyH.cons (ax rfl) (fun K hK => ?_) AllReadyH.nil)
   ·skip
    rw [if_pos (by rfl)];refine kw v0.heap.size (some ⟨b, off, none⟩) l.length c (aV (l.take l.length)) rfl rfl kA1.out (kZ (RD.out.ext BV1.out) (Nat.le_refl _) rfl) (dK _) (by omega) (fun a2 c2 v2 ow2 gr2 => ?_);have BV2 := hid (below_grow BV1.out gr2 (fun j hj => by simp only [Option.some.injEq] at hj; have := BV0.out.size; omega) BV1.out.size);have o2 := hid (aZ.mk' (fE ow2 (show w.heap.size ≤ _ by have := BV0.out.size; omega)));refine hK.out _ _ ⟨BV2.out⟩ (fun _ => ?_);clear hK K ow2;try simp only [qq]
    refine bV 6 fun K hK => ?_
    go_simp;obtain ⟨v3, hv3⟩ : ∃ v, v = v2.alloc (.cells #[.int .i64 n0] 3) := ⟨_, rfl⟩
    have BV3 := hid (show Below w.heap.size w v3 by rw [hv3]; exact ae BV2.out _);have EX3 := hid (show Below v2.heap.size v2 v3 by rw [hv3]; exact ae (Below.refl _ _) _);have kN3 := hid (show aC v3 v2.heap.size #[.int .i64 n0] 3 by rw [hv3]; exact aC.new _ _ _);rw [← hv3];refine hK.out _ _ ⟨BV3.out⟩ (fun _ => ?_);clear hK K hv3;try simp only [qq]
    have o3 := hid (o2.out.ext EX3.out);refine bV 7 fun K hK => ?_
    rw [if_pos (by rfl)];refine gu w.heap.size a2 l.length c2 (aV (l.take l.length)) (some ⟨v2.heap.size, 0, none⟩) 1 1 [.int .i64 n0] rfl rfl o3.out.own (jZ kN3.out) (fun u hu => by simp only [List.mem_singleton] at hu; subst hu; rfl) (by omega) BV3.out.size (fun a4 c4 v4 ow4 gr4 _ => ?_);have BV4 := hid (below_grow BV3.out gr4 (fun j hj => (o3.out.own.lt j hj).1) BV3.out.size);have o4 := hid (aZ.mk' ow4);refine hK.out _ _ ⟨BV4.out⟩ (fun _ => ?_);clear hK K ow4;try simp only [qq]
    refine bV 11 fun K hK => ?_
    rw [if_pos (by rfl)];refine gu w.heap.size a4 (l.length + 1) c4 ((aV (l.take l.length)) ++ [.int .i64 n0]) da 0 (c - l.length) (aV (l.drop l.length)) rfl rfl o4.out.own (DR.out.ext BV4.out) (dK _) (by omega) BV4.out.size (fun a5 c5 v5 ow5 gr5 _ => ?_);have BV5 := hid (below_grow BV4.out gr5 (fun j hj => (o4.out.own.lt j hj).1) BV4.out.size);have o5 := hid (aZ.mk' ow5);refine hK.out _ _ ⟨BV5.out⟩ (fun q9 => ?_);clear hK K ow5;try simp only [qq]
    refine ag.go [12] ?_;iterate 1 (refine ag.tn q9 ?_; try simp only [qq])
    refine ag.fin ?_;refine wpAnyH_done (by kernel_rfl) ?_ _;clear q9;go_wp2_with fail;go_ret;have LE := ig EQ.out (by first | omega | simp);refine ⟨a5, c5, ?_, .inr ?_, BV5.out⟩
    ·rw [LE] <;> congr 2 <;> try (first | omega | (simp; omega) | simp)
    have := o5.out;have e1 : aV (dN l n0) = (aV (l.take l.length)) ++ [.int .i64 n0] ++ aV (l.drop l.length) := by rw [EQ.out] <;> simp [aV]
    have e2 : (dN l n0).length = l.length + 1 + 0 := by rw [LE] <;> first | omega | (simp; omega) | simp
    rw [e1, e2];exact this
   skip
   go_simp;obtain ⟨v6, hv6⟩ : ∃ v, v = v1.alloc (.cells #[.int .i64 n0] 3) := ⟨_, rfl⟩
   have BV6 := hid (show Below w.heap.size w v6 by rw [hv6]; exact ae BV1.out _);have EX6 := hid (show Below v1.heap.size v1 v6 by rw [hv6]; exact ae (Below.refl _ _) _);have kN6 := hid (show aC v6 v1.heap.size #[.int .i64 n0] 3 by rw [hv6]; exact aC.new _ _ _);rw [← hv6];refine hK.out _ _ ⟨BV6.out⟩ (fun _ => ?_);clear hK K hv6;try simp only [qq]
   have kA6 := hid (kA1.out.ext EX6.out);refine bV 4 fun K hK => ?_
   rw [if_pos (by rfl)];refine kw v0.heap.size (some ⟨b, off, none⟩) l.length c (aV (l.take l.length)) rfl rfl kA6.out (kZ (RD.out.ext BV6.out) (Nat.le_refl _) rfl) (dK _) (by omega) (fun a7 c7 v7 ow7 gr7 => ?_);have BV7 := hid (below_grow BV6.out gr7 (fun j hj => by simp only [Option.some.injEq] at hj; have := BV0.out.size; have := BV1.out.size; omega) BV6.out.size);have o7 := hid (aZ.mk' (fE ow7 (show w.heap.size ≤ _ by have := BV0.out.size; have := BV1.out.size; omega)));refine hK.out _ _ ⟨BV7.out⟩ (fun _ => ?_);clear hK K ow7;try simp only [qq]
   have kN7 := hid (show aC v7 v1.heap.size #[.int .i64 n0] 3 from (gr7.block _ kN6.out.lt (fun e => by simp only [Option.some.injEq] at e; have := kA1.out.lt; omega)).trans kN6.out);refine bV 7 fun K hK => ?_
   rw [if_pos (by rfl)];refine gu w.heap.size a7 l.length c7 (aV (l.take l.length)) (some ⟨v1.heap.size, 0, none⟩) 1 1 [.int .i64 n0] rfl rfl o7.out.own (jZ kN7.out) (fun u hu => by simp only [List.mem_singleton] at hu; subst hu; rfl) (by omega) BV7.out.size (fun a8 c8 v8 ow8 gr8 _ => ?_);have BV8 := hid (below_grow BV7.out gr8 (fun j hj => (o7.out.own.lt j hj).1) BV7.out.size);have o8 := hid (aZ.mk' ow8);refine hK.out _ _ ⟨BV8.out⟩ (fun _ => ?_);clear hK K ow8;try simp only [qq]
   refine bV 11 fun K hK => ?_
   rw [if_pos (by rfl)];refine gu w.heap.size a8 (l.length + 1) c8 ((aV (l.take l.length)) ++ [.int .i64 n0]) da 0 (c - l.length) (aV (l.drop l.length)) rfl rfl o8.out.own (DR.out.ext BV8.out) (dK _) (by omega) BV8.out.size (fun a9 c9 v9 ow9 gr9 _ => ?_);have BV9 := hid (below_grow BV8.out gr9 (fun j hj => (o8.out.own.lt j hj).1) BV8.out.size);have o9 := hid (aZ.mk' ow9);refine hK.out _ _ ⟨BV9.out⟩ (fun q9 => ?_);clear hK K ow9;try simp only [qq]
   refine ag.go [12] ?_;iterate 1 (refine ag.tn q9 ?_; try simp only [qq])
   refine ag.fin ?_;refine wpAnyH_done (by kernel_rfl) ?_ _;clear q9;go_wp2_with fail;go_ret;have LE := ig EQ.out (by first | omega | simp);refine ⟨a9, c9, ?_, .inr ?_, BV9.out⟩
   ·rw [LE] <;> congr 2 <;> try (first | omega | (simp; omega) | simp)
   have := o9.out;have e1 : aV (dN l n0) = (aV (l.take l.length)) ++ [.int .i64 n0] ++ aV (l.drop l.length) := by rw [EQ.out] <;> simp [aV]
   have e2 : (dN l n0).length = l.length + 1 + 0 := by rw [LE] <;> first | omega | (simp; omega) | simp
   rw [e1, e2];exact this
  skip
  go_simp;obtain ⟨v10, hv10⟩ : ∃ v, v = v0.alloc (.cells #[.int .i64 n0] 3) := ⟨_, rfl⟩
  have BV10 := hid (show Below w.heap.size w v10 by rw [hv10]; exact ae BV0.out _);have EX10 := hid (show Below v0.heap.size v0 v10 by rw [hv10]; exact ae (Below.refl _ _) _);have kN10 := hid (show aC v10 v0.heap.size #[.int .i64 n0] 3 by rw [hv10]; exact aC.new _ _ _);rw [← hv10];refine hK.out _ _ ⟨BV10.out⟩ (fun _ => ?_);clear hK K hv10;try simp only [qq]
  refine bV 0 fun K hK => ?_
  go_simp;obtain ⟨v11, hv11⟩ : ∃ v, v = v10.alloc (.cells #[] 3) := ⟨_, rfl⟩
  have BV11 := hid (show Below w.heap.size w v11 by rw [hv11]; exact ae BV10.out _);have EX11 := hid (show Below v10.heap.size v10 v11 by rw [hv11]; exact ae (Below.refl _ _) _);have kA11 := hid (show aC v11 v10.heap.size #[] 3 by rw [hv11]; exact aC.new _ _ _);rw [← hv11];refine hK.out _ _ ⟨BV11.out⟩ (fun _ => ?_);clear hK K hv11;try simp only [qq]
  have kN11 := hid (kN10.out.ext EX11.out);refine bV 4 fun K hK => ?_
  rw [if_pos (by rfl)];refine kw v10.heap.size (some ⟨b, off, none⟩) l.length c (aV (l.take l.length)) rfl rfl kA11.out (kZ (RD.out.ext BV11.out) (Nat.le_refl _) rfl) (dK _) (by omega) (fun a12 c12 v12 ow12 gr12 => ?_);have BV12 := hid (below_grow BV11.out gr12 (fun j hj => by simp only [Option.some.injEq] at hj; have := BV0.out.size; have := BV10.out.size; omega) BV11.out.size);have o12 := hid (aZ.mk' (fE ow12 (show w.heap.size ≤ _ by have := BV0.out.size; have := BV10.out.size; omega)));refine hK.out _ _ ⟨BV12.out⟩ (fun _ => ?_);clear hK K ow12;try simp only [qq]
  have kN12 := hid (show aC v12 v0.heap.size #[.int .i64 n0] 3 from (gr12.block _ kN11.out.lt (fun e => by simp only [Option.some.injEq] at e; have := kN10.out.lt; omega)).trans kN11.out);refine bV 7 fun K hK => ?_
  rw [if_pos (by rfl)];refine gu w.heap.size a12 l.length c12 (aV (l.take l.length)) (some ⟨v0.heap.size, 0, none⟩) 1 1 [.int .i64 n0] rfl rfl o12.out.own (jZ kN12.out) (fun u hu => by simp only [List.mem_singleton] at hu; subst hu; rfl) (by omega) BV12.out.size (fun a13 c13 v13 ow13 gr13 _ => ?_);have BV13 := hid (below_grow BV12.out gr13 (fun j hj => (o12.out.own.lt j hj).1) BV12.out.size);have o13 := hid (aZ.mk' ow13);refine hK.out _ _ ⟨BV13.out⟩ (fun _ => ?_);clear hK K ow13;try simp only [qq]
  refine bV 11 fun K hK => ?_
  rw [if_pos (by rfl)];refine gu w.heap.size a13 (l.length + 1) c13 ((aV (l.take l.length)) ++ [.int .i64 n0]) da 0 (c - l.length) (aV (l.drop l.length)) rfl rfl o13.out.own (DR.out.ext BV13.out) (dK _) (by omega) BV13.out.size (fun a14 c14 v14 ow14 gr14 _ => ?_);have BV14 := hid (below_grow BV13.out gr14 (fun j hj => (o13.out.own.lt j hj).1) BV13.out.size);have o14 := hid (aZ.mk' ow14);refine hK.out _ _ ⟨BV14.out⟩ (fun q9 => ?_);clear hK K ow14;try simp only [qq]
  refine ag.go [12] ?_;iterate 1 (refine ag.tn q9 ?_; try simp only [qq])
  refine ag.fin ?_;refine wpAnyH_done (by kernel_rfl) ?_ _;clear q9;go_wp2_with fail;go_ret;have LE := ig EQ.out (by first | omega | simp);refine ⟨a14, c14, ?_, .inr ?_, BV14.out⟩
  ·rw [LE] <;> congr 2 <;> try (first | omega | (simp; omega) | simp)
  have := o14.out;have e1 : aV (dN l n0) = (aV (l.take l.length)) ++ [.int .i64 n0] ++ aV (l.drop l.length) := by rw [EQ.out] <;> simp [aV]
  have e2 : (dN l n0).length = l.length + 1 + 0 := by rw [LE] <;> first | omega | (simp; omega) | simp
  rw [e1, e2];exact this
end Go.Proofs.Ytjdceoimignnpaa
