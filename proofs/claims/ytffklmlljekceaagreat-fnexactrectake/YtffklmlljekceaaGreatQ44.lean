import Derived.Test.YtffklmlljekceaaGreatQ43
namespace Go.Proofs.YtffklmlljekceaaGreat
open Go.ChangeShapes Go.WideShapes Go.ChangeAt Go.RowKit Go.Deep Go.Joins
set_option linter.unusedSimpArgs false
set_option linter.unusedVariables false
set_option maxHeartbeats 16000000
set_option maxRecDepth 20000
def cmpI (x y : Int) : Int := if x < y then -1 else if y < x then 1 else 0
theorem compareI_any (x y : Int) (w : World) : Calls Tryz.prog 166 #[.int .i64 x, .int .i64 y] w fun e w' => e = .returned (.int .i64 (cmpI x y)) ∧ w' = w := by
 by_cases h1 : x < y
 ·go_enter Tryz.func166, Tryz.ntmps166
  go_wp2_with (go_at_call 173; refine (isNaN_w _ _).mono ?_; rintro e w' ⟨rfl, hw'⟩; subst w')
  go_ret
  exact ⟨by simp only [cmpI, if_pos h1]; rfl, rfl⟩
 by_cases h2 : y < x
 ·go_enter Tryz.func166, Tryz.ntmps166
  go_wp2_with (go_at_call 173; refine (isNaN_w _ _).mono ?_; rintro e w' ⟨rfl, hw'⟩; subst w')
  go_ret
  exact ⟨by simp only [cmpI, if_neg (show ¬ x < y by omega), if_pos h2]; rfl, rfl⟩
 go_enter Tryz.func166, Tryz.ntmps166
 go_wp2_with (go_at_call 173; refine (isNaN_w _ _).mono ?_; rintro e w' ⟨rfl, hw'⟩; subst w')
 go_ret
 exact ⟨by simp only [cmpI, if_neg (show ¬ x < y by omega), if_neg (show ¬ y < x by omega)]; rfl, rfl⟩
theorem ackCmp_any (s : Int) (v : Value) (ix : Int) (w : World) :
  Calls Tryz.prog 165 #[.agg #[.int .i64 s, v], .int .i64 ix] w fun e w' => e = .returned (.int .i64 (cmpI s ix)) ∧ w' = w.alloc (.cells #[.int .i64 s, v] 105) := by
 go_enter Tryz.func165, Tryz.ntmps165
 go_wp2_with (go_at_call 166; refine (compareI_any _ _ _).mono ?_; rintro e w' ⟨rfl, hw'⟩; subst w')
 go_ret
 exact ⟨rfl, rfl⟩
def AscA (l : List Ak) : Prop := ∀ (i j : Nat) s t, l[i]? = some s → l[j]? = some t → i < j → s.1 < t.1
def FoundA (l : List Ak) (n : Nat) (ix : Int) (e : Ending) : Prop := ∃ (i : Nat) (b : Bool), e = .returned (.tuple #[.int .i64 (i : Int), .bool b]) ∧ i ≤ n ∧ (b = true ↔ ∃ s, l[i]? = some s ∧ s.1 = ix) ∧ (∀ (q : Nat) s, l[q]? = some s → q < i → s.1 < ix) ∧ (∀ (q : Nat) s, l[q]? = some s → i ≤ q → ix ≤ s.1)
theorem searchAck (a : Option Addr) (l : List Ak) (n cap : Nat) (ix : Int) (w : World) (hn : l.length = n) (hc : n ≤ 1048576) (hasc0 : AscA l) (h : AcksAt w a l) :
  Calls Tryz.prog 164 #[.slice a n cap, .int .i64 ix, .func (.func 165) #[] #[]] w fun e w' => FoundA l n ix e ∧ Below w.heap.size w w' := by
 have HL : Hid (l.length = n) := hn
 have hasc : Hid (AscA l) := hasc0
 clear hn hasc0
 go_enter Tryz.func164, Tryz.ntmps164
 go_wp2
 go_loopw [9, 10] (fun i j wr => ∃ (x y : Nat), i = .int .i64 (x : Int) ∧ j = .int .i64 (y : Int) ∧ x ≤ y ∧ y ≤ n ∧ (∀ (q : Nat) s, l[q]? = some s → q < x → s.1 < ix) ∧ (∀ (q : Nat) s, l[q]? = some s → y ≤ q → ix ≤ s.1) ∧ Below w.heap.size w wr) (fun i j _ => (intOf j).toNat - (intOf i).toNat)
 case atStart => exact ⟨0, n, rfl, rfl, Nat.zero_le _, Nat.le_refl _, fun q s _ hq => absurd hq (by omega), fun q s hq hle => by have := (List.getElem?_eq_some_iff.1 hq).1; have := HL.out; omega, Below.refl _ _⟩
 obtain ⟨x, y, rfl, rfl, hxy, hyn, hlo0, hhi0, hbel⟩ := hrel
 have hlo : Hid (∀ (q : Nat) s, l[q]? = some s → q < x → s.1 < ix) := hlo0
 have hhi : Hid (∀ (q : Nat) s, l[q]? = some s → y ≤ q → ix ≤ s.1) := hhi0
 clear hlo0 hhi0
 by_cases hlt : x < y
 ·obtain ⟨s, hs0⟩ : ∃ s, l[(x + y) / 2]? = some s := ⟨_, List.getElem?_eq_getElem (by rw [HL.out]; omega)⟩
  have hs : Hid (l[(x + y) / 2]? = some s) := hs0
  obtain ⟨b, off, sa, cp, rfl, hb, c0, c1, q2, q3, q4⟩ := (h.ext hbel) _ s hs0
  clear hs0
  have e1 : (0 : Int) ≤ ((x : Int) + (y : Int)) / 2 := by omega
  have e2 : ((x : Int) + (y : Int)) / 2 < (n : Int) := by omega
  have e3 : (x + y) / 2 < n := by omega
  have e4 : (x + y) / 2 < y := by omega
  have e5 : x ≤ (x + y) / 2 := by omega
  by_cases hk : s.1 < ix
  ·have hcm : cmpI s.1 ix = -1 := by simp [cmpI, hk]
   go_wp2_with (go_at_call 165; refine (ackCmp_any s.1 _ ix _).mono ?_; rintro e w' ⟨rfl, hw'⟩; subst w')
   go_roundw
   case rel =>
    refine ⟨(x + y) / 2 + 1, y, by simp only [Value.int.injEq, true_and]; omega, rfl, by omega, hyn, fun q t hq hlt2 => ?_, hhi.out, ext_alloc hbel _⟩
    by_cases he : q = (x + y) / 2
    ·rw [he, hs.out] at hq
     simp only [Option.some.injEq] at hq
     rw [← hq]
     exact hk
    have := hasc.out q ((x + y) / 2) t s hq hs.out (by omega)
    omega
   case measure => simp [intOf]; omega
  have hcm : Hid (0 ≤ cmpI s.1 ix) := by unfold Hid cmpI; split <;> (try split) <;> omega
  have hcm2 := hcm.out
  go_wp2_with (go_at_call 165; refine (ackCmp_any s.1 _ ix _).mono ?_; rintro e w' ⟨rfl, hw'⟩; subst w')
  go_roundw
  case rel =>
   refine ⟨x, (x + y) / 2, rfl, by simp only [Value.int.injEq, true_and]; omega, by omega, by omega, hlo.out, fun q t hq hle => ?_, ext_alloc hbel _⟩
   by_cases he : q = (x + y) / 2
   ·rw [he, hs.out] at hq
    simp only [Option.some.injEq] at hq
    rw [← hq]
    omega
   have := hasc.out ((x + y) / 2) q s t hs.out hq (by omega)
   omega
  case measure => simp [intOf]; omega
 have hxe : x = y := by omega
 subst hxe
 by_cases hxn : x < n
 ·have v7 : decide ((x : Int) < (n : Int)) = true := decide_eq_true (by omega)
  obtain ⟨s, hs0⟩ : ∃ s, l[x]? = some s := ⟨_, List.getElem?_eq_getElem (by rw [HL.out]; omega)⟩
  have hs : Hid (l[x]? = some s) := hs0
  obtain ⟨b, off, sa, cp, rfl, hb, c0, c1, q2, q3, q4⟩ := (h.ext hbel) _ s hs0
  clear hs0
  have e1 : (0 : Int) ≤ (x : Int) := by omega
  have e2 : (x : Int) < (n : Int) := by omega
  by_cases hk : s.1 = ix
  ·have hcm : cmpI s.1 ix = 0 := by simp [cmpI, hk]
   have HK : Hid (s.1 = ix) := hk
   clear hk
   go_wp2_with (go_at_call 165; refine (ackCmp_any s.1 _ ix _).mono ?_; rintro e w' ⟨rfl, hw'⟩; subst w')
   refine bodyPost_ret (v := .tuple #[.int .i64 (x : Int), .bool true]) (by simp [results, Tryz.results164, go_sem]) rfl ⟨⟨x, true, rfl, hyn, ⟨fun _ => ⟨s, hs.out, HK.out⟩, fun _ => rfl⟩, hlo.out, hhi.out⟩, ext_alloc hbel _⟩
  have hcm : (cmpI s.1 ix == 0) = false := by
   unfold cmpI
   split
   ·rfl
   split
   ·rfl
   exact absurd (by omega) hk
  have HK : Hid (¬ s.1 = ix) := hk
  clear hk
  go_wp2_with (go_at_call 165; refine (ackCmp_any s.1 _ ix _).mono ?_; rintro e w' ⟨rfl, hw'⟩; subst w')
  refine bodyPost_ret (v := .tuple #[.int .i64 (x : Int), .bool false]) (by simp [results, Tryz.results164, go_sem]) rfl ⟨⟨x, false, rfl, hyn, ⟨(fun h => by cases h), fun ⟨t, ht, hte⟩ => ?_⟩, hlo.out, hhi.out⟩, ext_alloc hbel _⟩
  rw [hs.out] at ht
  simp only [Option.some.injEq] at ht
  subst ht
  exact absurd hte HK.out
 have v7 : decide ((x : Int) < (n : Int)) = false := decide_eq_false (by omega)
 go_wp2
 refine bodyPost_ret (v := .tuple #[.int .i64 (x : Int), .bool false]) (by simp [results, Tryz.results164, go_sem]) rfl ⟨⟨x, false, rfl, hyn, ⟨(fun h => by cases h), fun ⟨t, ht, hte⟩ => ?_⟩, hlo.out, hhi.out⟩, hbel⟩
 have := (List.getElem?_eq_some_iff.1 ht).1
 have := HL.out
 omega
theorem flatA_take (X : List Ap) (k : Nat) : (flatA X).take (k * 2) = flatA (X.take k) := by
 rcases Nat.lt_or_ge k X.length with h | h
 ·conv => lhs; rw [← List.take_append_drop k X]
  rw [flatA_app, List.take_append_of_le_length (by rw [flatA_len, List.length_take]; omega), List.take_of_length_le (by rw [flatA_len, List.length_take]; omega)]
 rw [List.take_of_length_le (by rw [flatA_len]; omega), List.take_of_length_le h]
theorem flatA_drop (X : List Ap) (k : Nat) (h : k ≤ X.length) : (flatA X).drop (k * 2) = flatA (X.drop k) := by
 conv => lhs; rw [← List.take_append_drop k X]
 rw [flatA_app, List.drop_append_of_le_length (by rw [flatA_len, List.length_take]; omega), List.drop_of_length_le (by rw [flatA_len, List.length_take]; omega), List.nil_append]
theorem flatA_ins (X : List Ap) (k : Nat) (i : Int) (h : k ≤ X.length) : (flatA X).take (k * 2) ++ [.int .i64 i, .slice none 0 0] ++ (flatA X).drop (k * 2) = flatA (insX X k i) := by
 rw [flatA_take, flatA_drop X k h]
 unfold insX
 rw [flatA_app, flatA_app]
 rfl
theorem GPost.acks {B g : Nat} {w w1 : World} {r : Rc} {p : RcP} {X : RcX} {col : Nat → Nat} (hg : B ≤ g) (hk : Blk w g (rcV r p) 41) (hc : 8 < col g) (h : RcHas B w r p X col) {a' : Option Addr} {c' k : Nat} {i : Int} (hi : wfI i)
  (gr : w.grownBy w1 (Value.slice p.aA r.acks.length p.cA).ownBlock) (ho : w1.ownsRow B 105 2 (.slice a' (insX X.A k i).length c') (insX X.A k i).length (flatA (insX X.A k i))) (hn : NewOr w p.aA a') : GPost B g w col { r with acks := insL r.acks k i } (w1.setCell ⟨g, 16, none⟩ (.slice a' (insL r.acks k i).length c')) ∧ Blk w1 g (rcV r p) 41 := by
 have hlen : (insX X.A k i).length = (insL r.acks k i).length := by rw [← insX_map (k := k) (i := i) h.am, List.length_map]
 have hne : ∀ b, 8 < col b → some b ≠ (Value.slice p.aA r.acks.length p.cA).ownBlock := fun b h8 e => by
  cases hs : p.aA with
  | none => rw [hs] at e; simp [Value.ownBlock] at e
  | some y =>
   rw [hs] at e
   simp only [Value.ownBlock, Option.some.injEq] at e
   have := h.a.col y hs
   rw [← e] at this
   omega
 have hB : B ≤ w.heap.size := Nat.le_trans hg (Nat.le_of_lt hk.lt)
 have k1 : Blk w1 g (rcV r p) 41 := (gr.block g hk.lt (hne g hc)).trans hk
 have hcol : ∀ b, b < w.heap.size → 8 < col b → colN a' 6 col b = col b := fun b hlt h8 => colN_else fun x hx e => by
  rcases hn x hx with ⟨y, hy, he⟩ | h1
  ·have := h.a.col y hy
   rw [he, e] at this
   omega
  omega
 have bel : Below B w w1 := ⟨gr.os, gr.tape, gr.output, gr.size, fun b hb => gr.block b (by omega) (fun e => by
  cases hs : p.aA with
  | none => rw [hs] at e; simp [Value.ownBlock] at e
  | some y =>
   rw [hs] at e
   simp only [Value.ownBlock, Option.some.injEq] at e
   have := (h.a.lt y hs).1
   omega)⟩
 have hin : ∀ m ∈ insX X.A k i, RowC B w col 8 3 1 m.2.1 m.1.2.length m.2.2 (flatI m.1.2) := fun m hm => by
  unfold insX at hm
  simp only [List.mem_append, List.mem_singleton] at hm
  rcases hm with (hm | rfl) | hm
  ·exact h.ai.row m (List.mem_of_mem_take hm)
  ·exact rowC_nil _ _ _ _ _ _
  exact h.ai.row m (List.mem_of_mem_drop hm)
 have hap : (insX X.A k i).Pairwise (fun m m' => ∀ x x', m.2.1 = some x → m'.2.1 = some x' → x.block ≠ x'.block) := by
  have hp := h.ai.apart
  conv at hp => rw [← List.take_append_drop k X.A]
  unfold insX
  rw [List.append_assoc, List.pairwise_append] at *
  refine ⟨hp.1, ?_, fun u hu v hv => ?_⟩
  ·rw [List.singleton_append, List.pairwise_cons]
   exact ⟨fun v hv x x' hx => by simp at hx, hp.2.1⟩
  rw [List.singleton_append] at hv
  rcases List.mem_cons.1 hv with rfl | hv
  ·intro x x' _ hx'; simp at hx'
  exact hp.2.2 u hu v hv
 have hh := h.grow_a gr ho hn hin hap (by rw [insX_map h.am]; exact acks_ins h.gd.a hi)
 rw [insX_map h.am] at hh
 refine ⟨⟨{ p with aA := a', cA := c' }, ⟨X.H, insX X.A k i⟩, colN a' 6 col, ?_, ?_, by rw [hcol g hk.lt hc]; exact hc, below_set bel hg _, fun b hlt hbg h8 => ⟨(heap_setCell_other _ ⟨g, 16, none⟩ b _ hbg).trans (gr.block b hlt (hne b h8)), by rw [hcol b hlt h8]; exact h8⟩⟩, k1⟩
 ·have := k1.set (o := 16) (.slice a' (insL r.acks k i).length c')
  simpa using this
 exact hh.setCell (q := ⟨g, 16, none⟩) (by show 8 < colN a' 6 col g; rw [hcol g hk.lt hc]; exact hc) _
def PlaceP (B g : Nat) (w : World) (col : Nat → Nat) (r : Rc) (ix : Int) (e : Ending) (w' : World) : Prop :=
 ∃ (i : Nat) (r1 : Rc), e = .returned (.int .i64 (i : Int)) ∧ i ≤ r.acks.length ∧ (∀ (q : Nat) s, q < i → r.acks[q]? = some s → s.1 < ix) ∧ ((r1 = r ∧ ∃ s, r.acks[i]? = some s ∧ s.1 = ix) ∨ (r1 = { r with acks := insL r.acks i ix } ∧ ∀ s, r.acks[i]? = some s → ix < s.1)) ∧ GPost B g w col r1 w'
theorem implAckPlace (B g : Nat) (r : Rc) (p : RcP) (X : RcX) (col : Nat → Nat) (ix : Int) (w : World) (hg : B ≤ g) (hk : Blk w g (rcV r p) 41) (hc : 8 < col g) (hl : r.acks.length ≤ 1000) (hasc : AscA r.acks) (hi : wfI ix) (h : RcHas B w r p X col) :
  Calls Tryz.prog 154 #[.pointer (some ⟨g, 0, none⟩), .int .i64 ix] w (PlaceP B g w col r ix) := by
 have HG := hid hg
 have HB := hid (show B ≤ w.heap.size from Nat.le_trans hg (Nat.le_of_lt hk.lt))
 have HK := hid hk
 have HC := hid hc
 have RD := hid h
 have HA := hid hasc
 have HI := hid hi
 have HLa := hid hl
 have cK := hk.cell
 have fK := hk.free
 clear h hg hk hc hasc hi
 go_enter Tryz.func154, Tryz.ntmps154
 go_wp2_with fail
 refine (searchAck p.aA r.acks r.acks.length p.cA ix w rfl (by have := HLa.out; omega) HA.out RD.out.at.hA).mono ?_
 rintro e w1 ⟨⟨i, b, rfl, hin, hb, hlo0, hhi0⟩, hb1⟩
 have hlo := hid hlo0
 have hhi := hid hhi0
 have HBi := hid hb
 have E1 := hid hb1
 have K1 := hid (HK.out.ext hb1)
 have R1 := hid (RD.out.fresh.ext hb1)
 have C1 := hid (show 8 < colF w.heap.size col g by rw [colF_old HK.out.lt]; exact HC.out)
 clear hlo0 hhi0 hb hb1 cK fK
 have cK := K1.out.cell
 have fK := K1.out.free
 cases b
 ·have NEW := hid (show ∀ s, r.acks[i]? = some s → ix < s.1 from fun s hs => by
   have h1 := hhi.out i s hs (Nat.le_refl _)
   by_cases he : s.1 = ix
   ·exact absurd (HBi.out.2 ⟨s, hs, he⟩) (by simp)
   omega)
  have HLX := hid (show X.A.length = r.acks.length by rw [← RD.out.am, List.length_map])
  have E2 := hid (show Below w1.heap.size w1 (w1.alloc (.cells #[.int .i64 ix, .slice none 0 0] 105)) from ext_alloc (Below.refl _ _) _)
  go_wp2_with fail
  refine (insA B p.aA r.acks.length p.cA i w1.heap.size (flatA X.A) [.int .i64 ix, .slice none 0 0] _ (own_ext2 R1.out.a.own E2.out) hin hl (Blk.new _ _ _) rfl (fun q hq => by have h9 : q < w1.heap.size := (R1.out.a.lt _ hq).2; omega) (by simp [Value.oneCell']) (flatA_one _) (by have := E1.out.size; have := HB.out; simp; omega)).mono ?_
  rintro e w2 ⟨a', c', rfl, ho, gr, hN⟩
  have LX : (insX X.A i ix).length = r.acks.length + 1 := by
   have h9 : (insX X.A i ix).length = (insL r.acks i ix).length := by rw [← insX_map (k := i) (i := ix) RD.out.am, List.length_map]
   rw [h9, insL_len hin]
  have LL := insL_len (i := ix) hin
  rw [flatA_ins X.A i ix (by have := HLX.out; omega), ← LX] at ho
  obtain ⟨gp, k2⟩ := GPost.acks HG.out (K1.out.ext E2.out) C1.out (R1.out.ext E2.out) HI.out gr ho hN
  rw [LL] at gp
  have GP := hid (GPost.chain (w := w) (col := col) ((E1.out.trans (E2.out.mono E1.out.size)).mono HB.out) (fun b hlt hne h8 => ⟨(E2.out.block b (by have := E1.out.size; omega)).trans (E1.out.block b hlt), by rw [colF_old hlt]; exact h8⟩) gp)
  clear gp ho gr hN cK fK LX LL
  have cK := k2.cell
  have fK := k2.free
  go_wp2_with fail
  go_ret
  exact ⟨i, _, rfl, hin, (fun q s hq hs => hlo.out q s hs hq), .inr ⟨rfl, NEW.out⟩, GP.out⟩
 obtain ⟨s, hs, he⟩ := HBi.out.1 rfl
 have FD := hid (show ∃ s, r.acks[i]? = some s ∧ s.1 = ix from ⟨s, hs, he⟩)
 clear hs he
 go_wp2_with fail
 go_ret
 exact ⟨i, r, rfl, hin, (fun q s hq hs => hlo.out q s hs hq), .inl ⟨rfl, FD.out⟩, GPost.stay HK.out HC.out RD.out HB.out E1.out⟩
end Go.Proofs.YtffklmlljekceaaGreat
namespace Go.Proofs.YtffklmlljekceaaGreat
open Go.ChangeShapes Go.WideShapes Go.ChangeAt Go.RowKit
set_option linter.unusedSimpArgs false
set_option linter.unusedVariables false
set_option maxHeartbeats 16000000
set_option maxRecDepth 20000
theorem pair_put {α : Type} {R : α → α → Prop} {l : List α} {k : Nat} {x y : α} (h : l[k]? = some x) (hp : l.Pairwise R) (h1 : ∀ z, R z x → z ∈ l → R z y) (h2 : ∀ z, R x z → z ∈ l → R y z) : (l.set k y).Pairwise R := by
 obtain ⟨e1, e2, _⟩ := set_parts h y
 rw [e2]
 have hm : ∀ z, z ∈ l.take k ++ x :: l.drop (k + 1) → z ∈ l := fun z hz => by rw [e1]; exact hz
 rw [e1] at hp
 rw [List.pairwise_append, List.pairwise_cons] at hp ⊢
 refine ⟨hp.1, ⟨fun z hz => h2 z (hp.2.1.1 z hz) (hm z (by simp [hz])), hp.2.1.2⟩, fun u hu v hv => ?_⟩
 rcases List.mem_cons.1 hv with rfl | hv
 ·exact h1 u (hp.2.2 u hu x (by simp)) (hm u (by simp [hu]))
 exact hp.2.2 u hu v (List.mem_cons_of_mem _ hv)
theorem RcHas.took_grown {B : Nat} {w w1 : World} {r : Rc} {p : RcP} {X : RcX} {col : Nat → Nat} {g : Nat} {a2 : Option Addr} {c2 k : Nat} {x : Ap} {fl : List Int} (h : RcHas B w r p X col) (hx : X.A[k]? = some x) (hg : p.aA = some ⟨g, 0, none⟩)
  (gr : w.grownBy w1 (Value.slice x.2.1 x.1.2.length x.2.2).ownBlock) (ho : w1.ownsRow B 3 1 (.slice a2 fl.length c2) fl.length (flatI fl)) (hn : NewOr w x.2.1 a2) (hgl : fl.length ≤ maxLen) (hgf : GoodOnes wfI fl) :
  RcHas B (w1.setCell ⟨g, k * 2 + 1, none⟩ (.slice a2 fl.length c2)) { r with acks := r.acks.set k (x.1.1, fl) } p ⟨X.H, X.A.set k ((x.1.1, fl), a2, c2)⟩ (colN a2 8 col) := by
 have hxr := h.ai.row x (List.mem_of_getElem? hx)
 have hu : ∀ y, x.2.1 = some y → col y.block = 8 := hxr.col
 have hcg : col g = 6 := h.a.col _ hg
 have hxm : r.acks[k]? = some x.1 := by rw [← h.am, List.getElem?_map, hx]; rfl
 have hc6 : ∀ b, b ≠ g → (w1.setCell ⟨g, k * 2 + 1, none⟩ (.slice a2 fl.length c2)).heap[b]? = w1.heap[b]? := fun b hb => heap_setCell_other w1 ⟨g, k * 2 + 1, none⟩ b _ (fun e => hb e)
 have kk : ∀ {t : Nat} {e : TypeId} {k' : Nat} {a : Option Addr} {n c : Nat} {xs : List Value}, t ≠ 8 → t ≠ 6 → RowC B w col t e k' a n c xs → RowC B (w1.setCell ⟨g, k * 2 + 1, none⟩ (.slice a2 fl.length c2)) (colN a2 8 col) t e k' a n c xs := fun h8 h6 hr =>
  (hr.grown hu h8 gr hn).same (fun y hy => hc6 _ (fun e => h6 (by have q1 := hr.col y hy; rw [e, hcg] at q1; exact q1.symm)))
 have hgl2 : g < w.heap.size := (h.a.lt _ hg).2
 have own8 : ∀ b, col b = 6 → some b ≠ (Value.slice x.2.1 x.1.2.length x.2.2).ownBlock := fun b h6 e => by
  cases hs : x.2.1 with
  | none => rw [hs] at e; simp [Value.ownBlock] at e
  | some y =>
   rw [hs] at e
   simp only [Value.ownBlock, Option.some.injEq] at e
   have := hu y hs
   rw [← e, h6] at this
   omega
 have ra := h.a.grown hu (by decide) gr hn
 have hst := ra.own
 rw [hg] at hst
 have hst2 := hst.stored (k * 2 + 1) (.slice a2 fl.length c2)
 rw [flatA_set hx] at hst2
 have a2g : ∀ y, a2 = some y → y.block ≠ g := fun y hy e => by
  rcases hn y hy with ⟨z, hz, he⟩ | h1
  ·have := hu z hz
   rw [he, e, hcg] at this
   omega
  omega
 have rnew : RowC B (w1.setCell ⟨g, k * 2 + 1, none⟩ (.slice a2 fl.length c2)) (colN a2 8 col) 8 3 1 a2 fl.length c2 (flatI fl) :=
  (RowC.mk (B := B) (col := colN a2 8 col) (t := 8) ho (fun y hy => colN_at hy)).same (fun y hy => hc6 _ (a2g y hy))
 have hmap : (X.A.set k ((x.1.1, fl), a2, c2)).map (·.1) = r.acks.set k (x.1.1, fl) := by rw [List.map_set, h.am]
 have far : ∀ z ∈ X.A, (∀ y y', z.2.1 = some y → x.2.1 = some y' → y.block ≠ y'.block) → RowC B (w1.setCell ⟨g, k * 2 + 1, none⟩ (.slice a2 fl.length c2)) (colN a2 8 col) 8 3 1 z.2.1 z.1.2.length z.2.2 (flatI z.1.2) := fun z hz hap => by
  have hzr := h.ai.row z hz
  have h1 : RowC B w1 col 8 3 1 z.2.1 z.1.2.length z.2.2 (flatI z.1.2) := hzr.same (fun y hy => gr.block _ (hzr.lt y hy).2 (fun e => by
   cases hs : x.2.1 with
   | none => rw [hs] at e; simp [Value.ownBlock] at e
   | some y' =>
    rw [hs] at e
    simp only [Value.ownBlock, Option.some.injEq] at e
    exact hap y y' hy hs e))
  refine ⟨(h1.same (fun y hy => hc6 _ (fun e => by have q1 := hzr.col y hy; rw [e, hcg] at q1; omega))).own, fun y hy => ?_⟩
  unfold colN
  split
  ·rfl
  exact hzr.col y hy
 have hin : InnA B (w1.setCell ⟨g, k * 2 + 1, none⟩ (.slice a2 fl.length c2)) (colN a2 8 col) 8 (X.A.set k ((x.1.1, fl), a2, c2)) := by
  refine ⟨fun m hm => ?_, ?_⟩
  ·obtain ⟨j, hj⟩ := List.getElem?_of_mem hm
   rw [List.getElem?_set] at hj
   split at hj
   ·split at hj
    ·simp only [Option.some.injEq] at hj; rw [← hj]; exact rnew
    simp at hj
   rename_i hne
   refine far m (List.mem_of_getElem? hj) ?_
   have hp := List.pairwise_iff_getElem.1 h.ai.apart
   obtain ⟨hj1, hj2⟩ := List.getElem?_eq_some_iff.1 hj
   obtain ⟨hk1, hk2⟩ := List.getElem?_eq_some_iff.1 hx
   intro y y' hy hy'
   rcases Nat.lt_or_gt_of_ne hne with hlt | hgt
   ·have := hp k j hk1 hj1 hlt
    rw [hk2, hj2] at this
    exact fun e => this y' y hy' hy e.symm
   have := hp j k hj1 hk1 hgt
   rw [hk2, hj2] at this
   exact this y y' hy hy'
  refine pair_put hx h.ai.apart (fun z hz hm y y' hy hy' => ?_) (fun z hz hm y y' hy hy' => ?_)
  ·rcases hn y' hy' with ⟨u, hu1, hu2⟩ | h1
   ·rw [← hu2]; exact hz y u hy hu1
   have := ((h.ai.row z hm).lt y hy).2
   omega
  rcases hn y hy with ⟨u, hu1, hu2⟩ | h1
  ·rw [← hu2]; exact hz u y' hu1 hy'
  have := ((h.ai.row z hm).lt y' hy').2
  omega
 have hra : RowC B (w1.setCell ⟨g, k * 2 + 1, none⟩ (.slice a2 fl.length c2)) (colN a2 8 col) 6 105 2 p.aA (r.acks.set k (x.1.1, fl)).length p.cA (flatA (X.A.set k ((x.1.1, fl), a2, c2))) := by
  rw [List.length_set, hg]
  refine ⟨hst2.1, fun y hy => ?_⟩
  have := ra.col y (by rw [hg]; exact hy)
  exact this
 exact ⟨kk (by decide) (by decide) h.s, kk (by decide) (by decide) h.d, kk (by decide) (by decide) h.h, h.hm, ⟨fun m hm => kk (by decide) (by decide) (h.hi.row m hm), h.hi.apart⟩, kk (by decide) (by decide) h.t, kk (by decide) (by decide) h.y, kk (by decide) (by decide) h.b, by rw [List.length_set] at hra ⊢; first | exact hra | simpa using hra, hmap, hin, ⟨h.gd.s, h.gd.d, h.gd.h, h.gd.t, h.gd.y, h.gd.b, acks_set h.gd.a (h.gd.a k _ hxm).1 hgl hgf⟩⟩
end Go.Proofs.YtffklmlljekceaaGreat
