import Derived.Test.YtffklmlljekceaaGreatQ31
import Derived.Test.YtffklmlljekceaaGreatQ21
import Derived.WalkArith
import Derived.Great.Walk
namespace Go.Proofs.YtffklmlljekceaaGreat
open Go.ChangeShapes Go.WideShapes Go.ChangeAt Go.RowKit Go.Deep Go.Joins
set_option linter.unusedSimpArgs false
set_option linter.unusedVariables false
set_option maxHeartbeats 8000000
set_option maxRecDepth 20000
theorem isNaN_w (x : Int) (w : World) : Calls Tryz.prog 173 #[.int .i64 x] w fun e w' => e = .returned (.bool false) ∧ w' = w := by
 go_enter Tryz.func173, Tryz.ntmps173
 go_wp2
 go_ret
 exact ⟨rfl, rfl⟩
theorem isNaNs_any (x : Int) (w : World) : Calls Tryz.prog 170 #[.int .i64 x] w fun e w' => e = .returned (.bool false) ∧ w' = w := by
 go_enter Tryz.func170, Tryz.ntmps170
 go_wp2
 go_ret
 exact ⟨rfl, rfl⟩
theorem less_any (x y : Int) (w : World) : Calls Tryz.prog 169 #[.int .i64 x, .int .i64 y] w fun e w' => e = .returned (.bool (decide (x < y))) ∧ w' = w := by
 go_enter Tryz.func169, Tryz.ntmps169
 go_wp2_with (go_at_call 173; refine (isNaN_w _ _).mono ?_; rintro e w' ⟨rfl, hw'⟩; subst w')
 go_ret
 exact ⟨rfl, rfl⟩
def AscI (l : List Int) : Prop := ∀ (i j : Nat) s t, l[i]? = some s → l[j]? = some t → i < j → s < t
def FoundI (l : List Int) (n : Nat) (ix : Int) (e : Ending) : Prop := ∃ (i : Nat) (b : Bool), e = .returned (.tuple #[.int .i64 (i : Int), .bool b]) ∧ i ≤ n ∧ (b = true ↔ l[i]? = some ix) ∧ (∀ (q : Nat) s, q < i → l[q]? = some s → s < ix) ∧ (∀ (q : Nat) s, l[q]? = some s → i ≤ q → ix ≤ s)
theorem searchInt (a : Option Addr) (l : List Int) (n cap : Nat) (ix : Int) (w : World) (hn : l.length = n) (hc : n ≤ 1048576) (hasc0 : AscI l) (h : IntsAt w a l) :
  Calls Tryz.prog 159 #[.slice a n cap, .int .i64 ix] w fun e w' => FoundI l n ix e ∧ w' = w := by
 have HL : Hid (l.length = n) := hn
 have hasc : Hid (AscI l) := hasc0
 clear hn hasc0
 go_enter Tryz.func159, Tryz.ntmps159
 go_wp2
 go_loopw [7, 8] (fun i j wr => ∃ (x y : Nat), i = .int .i64 (x : Int) ∧ j = .int .i64 (y : Int) ∧ x ≤ y ∧ y ≤ n ∧ (∀ (q : Nat) s, q < x → l[q]? = some s → s < ix) ∧ (∀ (q : Nat) s, l[q]? = some s → y ≤ q → ix ≤ s) ∧ wr = w) (fun i j _ => (intOf j).toNat - (intOf i).toNat)
 case atStart => exact ⟨0, n, rfl, rfl, Nat.zero_le _, Nat.le_refl _, fun q s hq => absurd hq (by omega), fun q s hq hle => by have := (List.getElem?_eq_some_iff.1 hq).1; have := HL.out; omega, rfl⟩
 obtain ⟨x, y, rfl, rfl, hxy, hyn, hlo0, hhi0, hbel⟩ := hrel
 subst hbel
 have hlo : Hid (∀ (q : Nat) s, q < x → l[q]? = some s → s < ix) := hlo0
 have hhi : Hid (∀ (q : Nat) s, l[q]? = some s → y ≤ q → ix ≤ s) := hhi0
 clear hlo0 hhi0
 by_cases hlt : x < y
 ·obtain ⟨s, hs0⟩ : ∃ s, l[(x + y) / 2]? = some s := ⟨_, List.getElem?_eq_getElem (by rw [HL.out]; omega)⟩
  have hs : Hid (l[(x + y) / 2]? = some s) := hs0
  obtain ⟨b, off, rfl, hb, c0, q2⟩ := h _ s hs0
  clear hs0
  have e1 : (0 : Int) ≤ ((x : Int) + (y : Int)) / 2 := by omega
  have e2 : ((x : Int) + (y : Int)) / 2 < (n : Int) := by omega
  have e3 : (x + y) / 2 < n := by omega
  have e4 : (x + y) / 2 < y := by omega
  have e5 : x ≤ (x + y) / 2 := by omega
  by_cases hk : s < ix
  ·have hcm : decide (s < ix) = true := decide_eq_true hk
   go_wp2_with (go_at_call 169; refine (less_any s ix _).mono ?_; rintro e w' ⟨rfl, hw'⟩; subst w')
   go_roundw
   case rel =>
    refine ⟨(x + y) / 2 + 1, y, by simp only [Value.int.injEq, true_and]; omega, rfl, by omega, hyn, fun q t hlt2 hq => ?_, hhi.out, trivial⟩
    by_cases he : q = (x + y) / 2
    ·rw [he, hs.out] at hq
     simp only [Option.some.injEq] at hq
     rw [← hq]
     exact hk
    have := hasc.out q ((x + y) / 2) t s hq hs.out (by omega)
    omega
   case measure => simp [intOf]; omega
  have hcm : decide (s < ix) = false := decide_eq_false hk
  go_wp2_with (go_at_call 169; refine (less_any s ix _).mono ?_; rintro e w' ⟨rfl, hw'⟩; subst w')
  go_roundw
  case rel =>
   refine ⟨x, (x + y) / 2, rfl, by simp only [Value.int.injEq, true_and]; omega, by omega, by omega, hlo.out, fun q t hq hle => ?_, trivial⟩
   by_cases he : q = (x + y) / 2
   ·rw [he, hs.out] at hq
    simp only [Option.some.injEq] at hq
    rw [← hq]
    omega
   have := hasc.out ((x + y) / 2) q s t hs.out hq (by omega)
   omega
  case measure => simp [intOf]; omega
 have hxe : x = y := by omega
 subst hxe
 by_cases hxn : x < n
 ·have v7 : decide ((x : Int) < (n : Int)) = true := decide_eq_true (by omega)
  obtain ⟨s, hs0⟩ : ∃ s, l[x]? = some s := ⟨_, List.getElem?_eq_getElem (by rw [HL.out]; omega)⟩
  have hs : Hid (l[x]? = some s) := hs0
  obtain ⟨b, off, rfl, hb, c0, q2⟩ := h _ s hs0
  clear hs0
  have e1 : (0 : Int) ≤ (x : Int) := by omega
  have e2 : (x : Int) < (n : Int) := by omega
  by_cases hk : s = ix
  ·have HK : Hid (s = ix) := hk
   subst hk
   go_wp2_with (go_at_call 170; refine (isNaNs_any _ _).mono ?_; rintro e w' ⟨rfl, hw'⟩; subst w')
   refine bodyPost_ret (v := .tuple #[.int .i64 (x : Int), .bool true]) (by simp [results, Tryz.results159, go_sem]) rfl ⟨⟨x, true, rfl, hyn, ⟨fun _ => hs.out, fun _ => rfl⟩, hlo.out, hhi.out⟩, rfl⟩
  have hcm : (s == ix) = false := by simpa using hk
  have HK : Hid (¬ s = ix) := hk
  clear hk
  go_wp2_with (go_at_call 170; refine (isNaNs_any _ _).mono ?_; rintro e w' ⟨rfl, hw'⟩; subst w')
  refine bodyPost_ret (v := .tuple #[.int .i64 (x : Int), .bool false]) (by simp [results, Tryz.results159, go_sem]) rfl ⟨⟨x, false, rfl, hyn, ⟨(fun h => by cases h), fun ht => ?_⟩, hlo.out, hhi.out⟩, rfl⟩
  rw [hs.out] at ht
  simp only [Option.some.injEq] at ht
  exact absurd ht HK.out
 have v7 : decide ((x : Int) < (n : Int)) = false := decide_eq_false (by omega)
 go_wp2
 refine bodyPost_ret (v := .tuple #[.int .i64 (x : Int), .bool false]) (by simp [results, Tryz.results159, go_sem]) rfl ⟨⟨x, false, rfl, hyn, ⟨(fun h => by cases h), fun ht => ?_⟩, hlo.out, hhi.out⟩, rfl⟩
 have := (List.getElem?_eq_some_iff.1 ht).1
 have := HL.out
 omega
theorem own_ext2 {B : Nat} {w w' : World} {e : TypeId} {k : Nat} {a : Option Addr} {n c : Nat} {xs : List Value} (h : w.ownsRow B e k (.slice a n c) n xs) (hb : Below w.heap.size w w') : w'.ownsRow B e k (.slice a n c) n xs := by
 refine ⟨h.1, ?_⟩
 rcases h.2 with h0 | ⟨g, cap, cur, hv, hB, hg, r⟩
 ·exact .inl h0
 exact .inr ⟨g, cap, cur, hv, hB, (hb.block g (Blk.lt hg)).trans hg, r⟩
def NumP (B : Nat) (sa : Option Addr) (c0 : Nat) (l : List Int) (x : Int) (w : World) (e : Ending) (w' : World) : Prop :=
 ∃ a' c', e = .returned (.slice a' (addL l x).length c') ∧ w'.ownsRow B 3 1 (.slice a' (addL l x).length c') (addL l x).length (flatI (addL l x)) ∧ w.grownBy w' (Value.slice sa l.length c0).ownBlock ∧ NewOr w sa a'
theorem withNum (B : Nat) (sa : Option Addr) (c0 : Nat) (l : List Int) (x : Int) (w : World) (hown : w.ownsRow B 3 1 (.slice sa l.length c0) l.length (flatI l)) (hat : IntsAt w sa l) (hasc : AscI l) (hn : l.length ≤ 1000) (hB : B ≤ w.heap.size) :
  Calls Tryz.prog 150 #[.slice sa l.length c0, .int .i64 x] w (NumP B sa c0 l x w) := by
 have hown' := hid hown
 have hasc' := hid hasc
 have hlt : ∀ g, sa = some ⟨g, 0, none⟩ → g < w.heap.size := fun g hg => by
  rcases hown.2 with ⟨h0, h1⟩ | ⟨g', cap, cur, h0, _, hC, _⟩
  ·simp only [Value.slice.injEq] at h0; rw [h0.1] at hg; cases hg
  simp only [Value.slice.injEq] at h0; rw [h0.1] at hg; cases hg; exact Blk.lt hC
 have hlt' := hid hlt
 have hat' := hid hat
 clear hown hasc hlt hat
 go_enter Tryz.func150, Tryz.ntmps150
 go_wp2_with fail
 refine (searchInt sa l l.length c0 x w rfl (by omega) hasc'.out hat'.out).mono ?_
 rintro e w1 ⟨⟨i, b, rfl, hin, hb, hlo0, hhi0⟩, hw1⟩
 subst w1
 have hlo := hid hlo0
 have hhi := hid hhi0
 have HB := hid hb
 clear hlo0 hhi0 hb
 cases b
 ·have hadd : addL l x = l.take i ++ [x] ++ l.drop i := addL_new hlo.out hin (fun y hy => by
   have h1 := hhi.out i y hy (Nat.le_refl _)
   by_cases he : x = y
   ·subst he; exact absurd (HB.out.2 hy) (by simp)
   omega)
  have hlen := addL_len_new hadd hin
  have HA := hid hadd
  have HLn := hid hlen
  clear hadd hlen
  go_wp2_with fail
  refine (insI B sa l.length c0 i w.heap.size (flatI l) [.int .i64 x] _ (own_ext2 hown'.out (ext_alloc (Below.refl _ _) _)) hin hn (Blk.new _ _ _) rfl (fun g hg => by have := hlt'.out g hg; omega) (by simp [Value.oneCell']) (by simp [flatI, Value.oneCell']) (by simp; omega)).mono ?_
  rintro e w' ⟨a', c', rfl, ho, hg, hN⟩
  go_wp2_with fail
  go_ret
  refine ⟨a', c', by rw [HLn.out]; rfl, ?_, ?_, ?_⟩
  ·rw [HLn.out, HA.out]
   simpa [flatI] using ho
  ·exact ⟨hg.os, hg.tape, hg.output, Nat.le_trans (by simp) hg.size, fun b hb hbn => (hg.block b (by simp; omega) hbn).trans (heap_alloc_old _ _ hb)⟩
  intro y hy
  rcases hN y hy with h | h
  ·exact .inl h
  exact .inr (Nat.le_trans (by simp) h)
 have hadd : addL l x = l := addL_same hlo.out (HB.out.1 rfl)
 have HA := hid hadd
 clear hadd
 go_wp2_with fail
 go_ret
 refine ⟨sa, c0, by rw [HA.out]; rfl, by rw [HA.out]; exact hown'.out, ⟨rfl, rfl, rfl, Nat.le_refl _, fun b _ _ => rfl⟩, fun y hy => .inl ⟨y, hy, rfl⟩⟩
end Go.Proofs.YtffklmlljekceaaGreat
namespace Go.Proofs.YtffklmlljekceaaGreat
open Go.ChangeShapes Go.WideShapes Go.ChangeAt Go.RowKit
set_option linter.unusedSimpArgs false
set_option linter.unusedVariables false
set_option maxHeartbeats 8000000
set_option maxRecDepth 20000
theorem zero_size : Tryz.zeroCells167.size = 121 := by kernel_rfl
theorem zero_one : Tryz.zeroCells167.all (·.oneCell') = true := by kernel_rfl
theorem pageSize {n : Nat} (h : n = 121) : (Tryz.prog.info? 167).map (·.size) = some n := by rw [h]; kernel_rfl
theorem wpList_load_page {ops : Array Oper} {rest : List Oper} {dst : Option Tmp} {x : Operand} {τ : TypeId} {pos : String} {after : Array Edge} {a : Act} {w : World} {Q : Exit → Act → World → Prop}
  (g : Nat) (cs : Array Value) (hs : cs.size = 121) (hx : a.eval x = .pointer (some ⟨g, 0, none⟩)) (hg : Blk w g cs 167)
  (h : wpList Tryz.prog ops Q rest (a.put dst (.agg cs)) w) :
  wpList Tryz.prog ops Q ({ dst := dst, op := .load 167 x, type := τ, pos := pos, after := after, guard := none } :: rest) a w :=
 wpList_load_blk g cs _ hx hg Tryz.underlying167 rfl (pageSize hs) h
theorem wpList_store_page {ops : Array Oper} {rest : List Oper} {dst : Option Tmp} {x y : Operand} {τ : TypeId} {pos : String} {after : Array Edge} {a : Act} {w0 : World} {c : Array Value} {Q : Exit → Act → World → Prop}
  (cells : Array Value) (hs : cells.size = 121) (hx : a.eval x = .pointer (some ⟨w0.heap.size, 0, none⟩)) (hy : a.eval y = .agg cells) (hc : c.size = 121) (h1 : cells.all (·.oneCell') = true)
  (h : wpList Tryz.prog ops Q rest (a.put dst undef) (w0.alloc (.cells cells 167))) :
  wpList Tryz.prog ops Q ({ dst := dst, op := .store 167 x y, type := τ, pos := pos, after := after, guard := none } :: rest) a (w0.alloc (.cells c 167)) :=
 wpList_store_last cells hx hy (pageSize hs) (by rw [hc, hs]) h1 h
theorem wpList_store_page_at {ops : Array Oper} {rest : List Oper} {dst : Option Tmp} {x y : Operand} {τ : TypeId} {pos : String} {after : Array Edge} {a : Act} {w : World} {Q : Exit → Act → World → Prop}
  (g : Nat) (old cells : Array Value) (hs : cells.size = 121) (ho : old.size = 121) (hx : a.eval x = .pointer (some ⟨g, 0, none⟩)) (hy : a.eval y = .agg cells) (hg : Blk w g old 167) (h1 : cells.all (·.oneCell') = true)
  (h : wpList Tryz.prog ops Q rest (a.put dst undef) (w.setRow g cells)) :
  wpList Tryz.prog ops Q ({ dst := dst, op := .store 167 x y, type := τ, pos := pos, after := after, guard := none } :: rest) a w :=
 wpList_store_row (o := { dst := dst, op := .store 167 x y, type := τ, pos := pos, after := after, guard := none }) rfl 167 x y rfl g cells hx hy 167 old hg (pageSize hs) (by rw [ho, hs]) h1 h
theorem run_copy_slots (w : World) (ty : TypeId) (g o dLen dCap : Nat) (a : Addr) (sLen sCap : Nat) (cur : Array Value) (t : TypeId) (l : List Sl)
  (hg : w.heap[g]? = some (.cells cur t (0, 0))) (hm : l.length = Nat.min sLen dLen)
  (hsrc : ∀ j v, (flat l)[j]? = some v → w.cell? (a.add j) = some v) (hfit : o + (flat l).length ≤ cur.size) :
  (Builtin.copy_ #[35, 35] ty #[.slice (some ⟨g, o, none⟩) dLen dCap, .slice (some a) sLen sCap]).run Tryz.prog w =
   .ok (goInt l.length) (w.setRow g (cur.toList.take o ++ flat l ++ cur.toList.drop (o + (flat l).length)).toArray) := by
 have hl := run_loadCells_list (P := Tryz.prog) w a (flat l) hsrc
 have hst := run_storeCells_at Tryz.prog g o t (flat l) 0 cur w hg (by simpa using hfit) (flat_one l)
 obtain ⟨i, h1, h2, h3, h4⟩ := slotInfo
 have hn : l.length * 2 = (flat l).length := (flat_len l).symm
 simp [Builtin.copy_, run_underlying Tryz.underlying35, Builtin.lenOf, Builtin.firstCells, sizeOf, typeInfo, h1, h3, ← hm, hn, hl, hst]
theorem step_copy_slots {ops : Array Oper} {o : Oper} {a : Act} {w : World} {K : Act → World → Prop} {Q : Exit → Act → World → Prop} {E : Prop} (hgd : o.guard = none) (d s : Operand)
  (ho : o.op = .call { callee := .builtin .copy, args := #[d, s], argTypes := #[35, 35] }) (g off dLen dCap : Nat) (ad : Addr) (sLen sCap : Nat) (hd : a.eval d = .slice (some ⟨g, off, none⟩) dLen dCap) (hs : a.eval s = .slice (some ad) sLen sCap)
  (cur : Array Value) (t : TypeId) (l : List Sl) (hg : Blk w g cur t) (hm : l.length = Nat.min sLen dLen) (hsrc : ∀ j v, (flat l)[j]? = some v → w.cell? (ad.add j) = some v) (hfit : off + (flat l).length ≤ cur.size)
  (h : ∀ w' C, Hid (C = (cur.toList.take off ++ flat l ++ cur.toList.drop (off + (flat l).length)).toArray) → Hid (Blk w' g C t) → Hid (Below g w w') → K (a.put o.dst (goInt l.length)) w') :
  if Region.wanted o (yielded ops a.tmps) = true then Oper.wp Tryz.prog o a w K Q else E := by
 have hw : Region.wanted o (yielded ops a.tmps) = true := by simp [Region.wanted, hgd]
 rw [if_pos hw]
 have hrun := run_copy_slots w o.type g off dLen dCap ad sLen sCap cur t l hg hm hsrc hfit
 unfold Oper.wp
 simp only [execOp, ho, resolve, invoke, builtin, Sem.run_bind, Sem.run_pure, Result.andThen_ok, List.map_toArray, List.map_cons, List.map_nil, hd, hs, hrun]
 exact h _ _ rfl (setRow_heap w g cur _ t _ hg) ⟨rfl, rfl, rfl, by simp, fun k hk => setRow_other w g k _ (by omega)⟩
structure PageC (C : Array Value) (l : List Sl) : Prop where
 size : C.size = 121
 len : l.length ≤ 60
 at' : ∀ (i : Nat) s, l[i]? = some s → C[i * 2]? = some (.int .i64 s.1) ∧ C[i * 2 + 1]? = some (.string s.2)
 one : C.all (·.oneCell') = true
structure PageOk (C : Array Value) (l : List Sl) : Prop extends PageC C l where
 used : C[120]? = some (.int .i64 l.length)
theorem all_one_of {C : Array Value} (h : ∀ (j : Nat) v, C[j]? = some v → v.oneCell' = true) : C.all (·.oneCell') = true := by
 rw [Array.all_eq_true_iff_forall_mem]
 intro x hx
 obtain ⟨j, hj, rfl⟩ := Array.getElem_of_mem hx
 exact h j _ (Array.getElem?_eq_getElem hj)
theorem one_of_all {C : Array Value} (h : C.all (·.oneCell') = true) (j : Nat) (v : Value) (hv : C[j]? = some v) : v.oneCell' = true := by
 rw [Array.all_eq_true_iff_forall_mem] at h
 exact h v (Array.mem_of_getElem? hv)
theorem one_set {C : Array Value} (h : C.all (·.oneCell') = true) (k : Nat) {v : Value} (hv : v.oneCell' = true) : (C.setIfInBounds k v).all (·.oneCell') = true := all_one_of fun j u hu => by
 rw [Array.getElem?_setIfInBounds] at hu
 split at hu
 ·split at hu
  ·simp only [Option.some.injEq] at hu; rw [← hu]; exact hv
  simp at hu
 exact one_of_all h j u hu
theorem page_copied (l : List Sl) (hl : l.length ≤ 60) : PageOk ((Tryz.zeroCells167.toList.take 0 ++ flat l ++ Tryz.zeroCells167.toList.drop (0 + (flat l).length)).toArray.setIfInBounds 120 (.int .i64 l.length)) l := by
 have hz := zero_size
 have hf := flat_len l
 have hsz : (Tryz.zeroCells167.toList.take 0 ++ flat l ++ Tryz.zeroCells167.toList.drop (0 + (flat l).length)).toArray.size = 121 := by
  simp only [List.take_zero, List.nil_append, List.size_toArray, List.length_append, List.length_drop, Array.length_toList]
  omega
 refine ⟨⟨by rw [Array.size_setIfInBounds]; exact hsz, hl, fun i s hs => ?_, one_set (all_one_of fun j v hv => ?_) 120 rfl⟩, ?_⟩
 ·have hi : i < l.length := (List.getElem?_eq_some_iff.1 hs).1
  have := flat_at l i s hs
  rw [Array.getElem?_setIfInBounds_ne (by omega), Array.getElem?_setIfInBounds_ne (by omega), List.getElem?_toArray, List.getElem?_toArray, List.take_zero, List.nil_append, List.getElem?_append_left (by omega), List.getElem?_append_left (by omega)]
  exact this
 ·have hm := List.mem_of_getElem? (by rw [List.getElem?_toArray] at hv; exact hv)
  simp only [List.take_zero, List.nil_append, List.mem_append] at hm
  rcases hm with hm | hm
  ·exact flat_one l v hm
  have h9 := zero_one
  rw [Array.all_eq_true_iff_forall_mem] at h9
  exact h9 v (by simpa using List.mem_of_mem_drop hm)
 rw [Array.getElem?_setIfInBounds_self_of_lt (by rw [hsz]; omega)]
theorem page_zero : PageOk Tryz.zeroCells167 [] := by
 refine ⟨⟨zero_size, by simp, fun i s hs => by simp at hs, zero_one⟩, by kernel_rfl⟩
theorem isNaN_any (x : Int) (w : World) : Calls Tryz.prog 173 #[.int .i64 x] w fun e w' => e = .returned (.bool false) ∧ w' = w := by
 go_enter Tryz.func173, Tryz.ntmps173
 go_wp2
 go_ret
 exact ⟨by simp, rfl⟩
theorem compare_any (x y : Int) (w : World) : Calls Tryz.prog 166 #[.int .i64 x, .int .i64 y] w fun e w' => ∃ c : Int, e = .returned (.int .i64 c) ∧ decide (c < 0) = decide (x < y) ∧ w' = w := by
 go_enter Tryz.func166, Tryz.ntmps166
 go_wp2_with (go_at_call 173; refine (isNaN_any _ _).mono ?_; rintro e w' ⟨rfl, rfl⟩)
 all_goals go_ret
 ·exact ⟨-1, rfl, by simp; omega, rfl⟩
 ·exact ⟨1, rfl, by simp; omega, rfl⟩
 exact ⟨0, rfl, by simp; omega, rfl⟩
theorem compareBallots_any (x y : Sl) (w : World) : Calls Tryz.prog 163 #[.agg #[.int .i64 x.1, .string x.2], .agg #[.int .i64 y.1, .string y.2]] w fun e w' => ∃ c : Int, e = .returned (.int .i64 c) ∧ decide (c < 0) = decide (x.1 < y.1) ∧ Below w.heap.size w w' := by
 go_enter Tryz.func163, Tryz.ntmps163
 go_wp2_with (go_at_call 166; refine (compare_any _ _ _).mono ?_; rintro e w' ⟨c, rfl, hc, rfl⟩)
 go_ret
 exact ⟨c, rfl, hc, ext_alloc (ext_alloc (Below.refl _ _) _) _⟩
structure PgS (B : World) (ga gb : Nat) (C1 C2 : Array Value) (w' : World) : Prop where
 blkA : Blk w' ga C1 167
 blkB : Blk w' gb C2 167
 bel : Below B.heap.size B w'
theorem PgS.ext {B : World} {ga gb : Nat} {C1 C2 : Array Value} {w' v' : World} (h : PgS B ga gb C1 C2 w') (hb : Below w'.heap.size w' v') : PgS B ga gb C1 C2 v' := ⟨h.blkA.ext hb, h.blkB.ext hb, ext_trans h.bel hb⟩
theorem PgS.drew {B : World} {ga gb : Nat} {C1 C2 : Array Value} {w' : World} (h : PgS B ga gb C1 C2 w') : PgS B ga gb C1 C2 w'.drew := ⟨h.blkA, h.blkB, h.bel.drew⟩
theorem PageC.put {C : Array Value} {l l' : List Sl} (h : PageC C l) {k : Nat} {y : Sl} (hk : k < 60) (hl : l'.length ≤ 60) (hold : ∀ (i : Nat) s, l'[i]? = some s → i = k ∧ s = y ∨ i ≠ k ∧ l[i]? = some s) :
  PageC ((C.setIfInBounds (k * 2) (.int .i64 y.1)).setIfInBounds (k * 2 + 1) (.string y.2)) l' := by
 have hz := h.size
 refine ⟨by simp [hz], hl, fun i s hs => ?_, one_set (one_set h.one _ rfl) _ rfl⟩
 rcases hold i s hs with ⟨rfl, rfl⟩ | ⟨hne, ho⟩
 ·constructor
  ·rw [Array.getElem?_setIfInBounds_ne (by omega), Array.getElem?_setIfInBounds_self_of_lt (by omega)]
  rw [Array.getElem?_setIfInBounds_self_of_lt (by rw [Array.size_setIfInBounds]; omega)]
 have := h.at' i s ho
 rw [Array.getElem?_setIfInBounds_ne (by omega), Array.getElem?_setIfInBounds_ne (by omega), Array.getElem?_setIfInBounds_ne (by omega), Array.getElem?_setIfInBounds_ne (by omega)]
 exact this
theorem PageC.done {C : Array Value} {l : List Sl} (h : PageC C l) (v : Value) (hv : v = .int .i64 l.length) : PageOk (C.setIfInBounds 120 v) l := by
 subst hv
 have hz := h.size
 have hl := h.len
 refine ⟨⟨by simp [hz], h.len, fun i s hs => ?_, one_set h.one _ rfl⟩, by rw [Array.getElem?_setIfInBounds_self_of_lt (by omega)]⟩
 have hi : i < l.length := (List.getElem?_eq_some_iff.1 hs).1
 rw [Array.getElem?_setIfInBounds_ne (by omega), Array.getElem?_setIfInBounds_ne (by omega)]
 exact h.at' i s hs
theorem put_app {l1 l2 : List Sl} {k : Nat} {y : Sl} (hk : l1.length ≤ k) (hy : l2[k]? = some y) : ∀ (i : Nat) s, (mergeL l1 (l2.take (k + 1)))[i]? = some s → i = k ∧ s = y ∨ i ≠ k ∧ (mergeL l1 (l2.take k))[i]? = some s := fun i s hs => by
 have hb : k < l2.length := (List.getElem?_eq_some_iff.1 hy).1
 rw [mergeL_app hk hy, List.getElem?_append, mergeL_len, List.length_take] at hs
 split at hs
 ·exact .inr ⟨by omega, hs⟩
 rename_i h9
 have := (List.getElem?_eq_some_iff.1 hs).1
 simp at this
 have hik : i = k := by omega
 subst hik
 rw [show i - max l1.length (min i l2.length) = 0 by omega] at hs
 simp at hs
 exact .inl ⟨rfl, hs.symm⟩
theorem put_set {l1 l2 : List Sl} {k : Nat} {x y : Sl} (hx : l1[k]? = some x) (hy : l2[k]? = some y) (h : x.1 < y.1) : ∀ (i : Nat) s, (mergeL l1 (l2.take (k + 1)))[i]? = some s → i = k ∧ s = y ∨ i ≠ k ∧ (mergeL l1 (l2.take k))[i]? = some s := fun i s hs => by
 rw [mergeL_set hx hy h, List.getElem?_set] at hs
 split at hs
 ·rename_i h9
  split at hs
  ·simp only [Option.some.injEq] at hs
   exact .inl ⟨h9.symm, hs.symm⟩
  simp at hs
 rename_i h9
 exact .inr ⟨fun e => h9 e.symm, hs⟩
theorem mergePages_any (C1 C2 : Array Value) (l1 l2 : List Sl) (w : World) (h1 : PageOk C1 l1) (h2 : PageOk C2 l2) :
  Calls Tryz.prog 161 #[.agg C1, .agg C2, .func (.func 163) #[] #[]] w fun e w' => ∃ C, e = .returned (.agg C) ∧ PageOk C (mergeL l1 l2) ∧ Below w.heap.size w w' := by
 have H1 := hid h1
 have H2 := hid h2
 have L1 : l1.length ≤ 60 := h1.len
 have L2 : l2.length ≤ 60 := h2.len
 have U1 := h1.used
 have U2 := h2.used
 clear h1 h2
 have ka := hid (show Blk ((((w.alloc (.cells C1 167)).alloc (.cells C2 167)).alloc (.cells Tryz.zeroCells167 167)).alloc (.cells C1 167)) w.heap.size C1 167 from (((Blk.new w _ _).alloc _).alloc _).alloc _)
 have ka3 := hid (show Blk (((w.alloc (.cells C1 167)).alloc (.cells C2 167)).alloc (.cells Tryz.zeroCells167 167)) w.heap.size C1 167 from ((Blk.new w _ _).alloc _).alloc _)
 have kb := hid (show Blk ((((w.alloc (.cells C1 167)).alloc (.cells C2 167)).alloc (.cells Tryz.zeroCells167 167)).alloc (.cells C1 167)) (w.heap.size + 1) C2 167 from ((Blk.new' _ _ (by simp)).alloc _).alloc _)
 have kr := hid (show Blk ((((w.alloc (.cells C1 167)).alloc (.cells C2 167)).alloc (.cells Tryz.zeroCells167 167)).alloc (.cells C1 167)) (w.heap.size + 1 + 1) Tryz.zeroCells167 167 from (Blk.new' _ _ (by simp)).alloc _)
 have km := hid (show Blk ((((w.alloc (.cells C1 167)).alloc (.cells C2 167)).alloc (.cells Tryz.zeroCells167 167)).alloc (.cells C1 167)) (w.heap.size + 1 + 1 + 1) C1 167 from Blk.new' _ _ (by simp))
 have HB := hid (show Below w.heap.size w ((((w.alloc (.cells C1 167)).alloc (.cells C2 167)).alloc (.cells Tryz.zeroCells167 167)).alloc (.cells C1 167)) from ext_alloc (ext_alloc (ext_alloc (ext_alloc (Below.refl _ _) _) _) _) _)
 have ub := (kb.out.cell 120).trans U2
 have HE := hid (show Value.pointer (some ⟨w.heap.size + 1 + 1 + 1, 0, none⟩) = Value.pointer (some ⟨(((w.alloc (.cells C1 167)).alloc (.cells C2 167)).alloc (.cells Tryz.zeroCells167 167)).heap.size, 0, none⟩) by simp)
 go_enter Tryz.func161, Tryz.ntmps161
 go_wp2_with (first
  | ((with_reducible refine wpList_load_page w.heap.size C1 H1.out.size ?_ ?_ ?_); (· rfl); (· exact ka3.out))
  | ((with_reducible refine wpList_store_page C1 H1.out.size ?_ ?_ ?_ ?_ ?_); (· exact HE.out); (· rfl); (· exact zero_size); (· exact H1.out.one)))
 go_loopw [12] (fun i wr => ∃ (k : Nat) (C : Array Value), k ≤ l2.length ∧ i = .int .i64 k ∧ PageC C (mergeL l1 (l2.take k)) ∧ Blk wr w.heap.size C1 167 ∧ Blk wr (w.heap.size + 1) C2 167 ∧ Blk wr (w.heap.size + 1 + 1) Tryz.zeroCells167 167 ∧ Blk wr (w.heap.size + 1 + 1 + 1) C 167 ∧ Below w.heap.size w wr) (fun i _ => l2.length - (intOf i).toNat)
 case atStart => exact ⟨0, C1, Nat.zero_le _, rfl, by rw [List.take_zero, mergeL_nil]; exact H1.out.toPageC, ka.out, kb.out, kr.out, km.out, HB.out⟩
 clear ka ka3 kb kr km HB ub
 obtain ⟨k, C, hk, rfl, hpc0, ba0, bb0, br0, bm0, hbel0⟩ := hrel
 have hpc := hid hpc0
 have ba := hid ba0
 have bb := hid bb0
 have br := hid br0
 have bm := hid bm0
 have hbel := hid hbel0
 clear hpc0 ba0 bb0 br0 bm0 hbel0
 by_cases hlt : k < l2.length
 ·obtain ⟨y, hy0⟩ : ∃ s, l2[k]? = some s := ⟨_, List.getElem?_eq_getElem hlt⟩
  have hy := hid hy0
  have Y0 := (H2.out.at' k y hy0).1
  have Y1 := (H2.out.at' k y hy0).2
  clear hy0
  have e1 : (0 : Int) ≤ (k : Int) := by omega
  have e2 : (k : Int) < (l2.length : Int) := by omega
  have e3 : (k : Int) < 60 := by omega
  have hK0 : PgS wr w.heap.size (w.heap.size + 1) C1 C2 wr := ⟨ba.out, bb.out, Below.refl _ _⟩
  have YC := hid (show C2[k * 2]? = some (.int .i64 y.1) ∧ C2[k * 2 + 1]? = some (.string y.2) from ⟨Y0, Y1⟩)
  clear Y0 Y1
  go_wp2_with fail
  refine wp_region_held_drew (S := PgS wr w.heap.size (w.heap.size + 1) C1 C2) (by kernel_rfl) hK0.drew (fun hHeld => ?_)
  clear hK0
  simp only [qz, Nat.reduceAdd]
  refine planH.go [0, 1] ?_
  iterate 2 (apply planH.take (at_lit rfl) (by kernel_rfl) (by rfl) (fun _ _ _ h => h) hHeld; (· intro w9 hSw; clear hSw; go_simp; try with_reducible rfl); try simp only [qq])
  refine planH.fin ?_
  refine planH.go [2] ?_
  iterate 1 (apply planH.take (at_lit rfl) (by kernel_rfl) (by rfl) (fun _ _ _ h => h) hHeld; (· intro w9 hSw; have hq := (hSw.blkA.cell 120).trans U1; clear hSw; go_simp; try with_reducible rfl); try simp only [qq])
  refine planH.fin ?_
  by_cases hkn : l1.length ≤ k
  ·have e4 : (l1.length : Int) ≤ (k : Int) := by omega
   refine planH.go [3, 4, 5, 6, 7, 8, 9, 10, 11, 12, 13, 14, 15, 16] ?_
   iterate 2 (apply planH.take (at_lit rfl) (by kernel_rfl) (by rfl) (fun _ _ _ h => h) hHeld; (· intro w9 hSw; clear hSw; go_simp; try with_reducible rfl); try simp only [qq])
   iterate 11 (refine planH.skip (at_lit rfl) (by kernel_rfl) (by rfl) (fun _ _ _ h => h) hHeld ?_; try simp only [qq])
   iterate 1 (apply planH.take (at_lit rfl) (by kernel_rfl) (by rfl) (fun _ _ _ h => h) hHeld; (· intro w9 hSw; clear hSw; go_simp; try with_reducible rfl); try simp only [qq])
   refine planH.fin ?_
   refine wpAnyH_done (by kernel_rfl) ?_ _
   have bm1 := bm.out
   have bb1 := bb.out
   have ba1 := ba
   have br1 := br
   have HF := hbel
   have BM1 := hid bm1
   have BB1 := hid bb1
   have c0 := (bb1.cell (k * 2)).trans YC.out.1
   have c1 := (bb1.cell (k * 2 + 1)).trans YC.out.2
   have hz := hpc.out.size
   obtain ⟨x0, hx0⟩ : ∃ x, C[k * 2]? = some x := ⟨_, Array.getElem?_eq_getElem (by omega)⟩
   obtain ⟨x1, hx1⟩ : ∃ x, C[k * 2 + 1]? = some x := ⟨_, Array.getElem?_eq_getElem (by omega)⟩
   have d0 := (bm1.cell (k * 2)).trans hx0
   have d1 := (bm1.cell (k * 2 + 1)).trans hx1
   have ff := bm1.free
   clear hHeld bm1 bb1 hx0 hx1 hz
   go_wp2
   go_roundw
   case rel =>
    refine ⟨k + 1, _, by omega, by go_num, hpc.out.put (by omega) (by rw [mergeL_len, List.length_take]; omega) (put_app hkn hy.out), (ba1.out.setCell (by simp; try omega) _).setCell (by simp; try omega) _, (BB1.out.setCell (by simp; try omega) _).setCell (by simp; try omega) _, (br1.out.setCell (by simp; try omega) _).setCell (by simp; try omega) _, heap_setCell_same _ _ _ _ _ _ (heap_setCell_same _ _ _ _ _ _ BM1.out), (((HF.out.setCell (by simp; try omega) _).setCell (by simp; try omega) _).drew)⟩
   case measure => simp [intOf]; omega
  have e4 : ¬ (l1.length : Int) ≤ (k : Int) := by omega
  obtain ⟨x, hx0⟩ : ∃ s, l1[k]? = some s := ⟨_, List.getElem?_eq_getElem (by omega)⟩
  have hx := hid hx0
  have XC := hid (H1.out.at' k x hx0)
  clear hx0
  refine planH.go [3, 4, 5, 6, 7, 8] ?_
  iterate 6 (apply planH.take (at_lit rfl) (by kernel_rfl) (by rfl) (fun _ _ _ h => h) hHeld; (· intro w9 hSw; clear hSw; go_simp; try with_reducible rfl); try simp only [qq])
  refine planH.fin ?_
  refine planH.go [9] ?_
  iterate 1 (apply planH.take (at_lit rfl) (by kernel_rfl) (by rfl) (fun _ _ _ h => h) hHeld; (· intro w9 hSw; have q0 := (hSw.blkA.cell (k * 2)).trans XC.out.1; have q1 := (hSw.blkA.cell (k * 2 + 1)).trans XC.out.2; clear hSw; go_simp; try with_reducible rfl); try simp only [qq])
  refine planH.fin ?_
  refine planH.go [10, 11, 12] ?_
  iterate 3 (apply planH.take (at_lit rfl) (by kernel_rfl) (by rfl) (fun _ _ _ h => h) hHeld; (· intro w9 hSw; clear hSw; go_simp; try with_reducible rfl); try simp only [qq])
  refine planH.fin ?_
  refine planH.go [13] ?_
  iterate 1 (apply planH.take (at_lit rfl) (by kernel_rfl) (by rfl) (fun _ _ _ h => h) hHeld; (· intro w9 hSw; have q0 := (hSw.blkB.cell (k * 2)).trans YC.out.1; have q1 := (hSw.blkB.cell (k * 2 + 1)).trans YC.out.2; clear hSw; go_simp; try with_reducible rfl); try simp only [qq])
  refine planH.fin ?_
  refine rdH 14 (by kernel_rfl) (at_lit rfl) (fun K hK => ?_)
  go_simp
  refine (compareBallots_any x y _).mono ?_
  rintro e z ⟨c, rfl, hc, hz⟩
  go_wp2_with fail
  refine hK.out _ _ (hHeld.ext hz) (fun hNew => ?_)
  clear hK K hHeld hz
  have hHeld := hNew
  clear hNew
  try simp only [qq]
  by_cases hxy : x.1 < y.1
  ·have hc1 : decide (c < 0) = true := by rw [hc]; exact decide_eq_true hxy
   have hc2 : c < 0 := of_decide_eq_true hc1
   clear hc hc1
   refine planH.go [15, 16] ?_
   iterate 2 (apply planH.take (at_lit rfl) (by kernel_rfl) (by rfl) (fun _ _ _ h => h) hHeld; (· intro w9 hSw; clear hSw; go_simp; try with_reducible rfl); try simp only [qq])
   refine planH.fin ?_
   refine wpAnyH_done (by kernel_rfl) ?_ _
   have bm1 := bm.out.ext hHeld.bel
   have bb1 := bb.out.ext hHeld.bel
   have ba1 := hid (ba.out.ext hHeld.bel)
   have br1 := hid (br.out.ext hHeld.bel)
   have HF := hid (ext_trans hbel.out hHeld.bel)
   have BM1 := hid bm1
   have BB1 := hid bb1
   have c0 := (bb1.cell (k * 2)).trans YC.out.1
   have c1 := (bb1.cell (k * 2 + 1)).trans YC.out.2
   have hz := hpc.out.size
   obtain ⟨x0, hx0⟩ : ∃ x, C[k * 2]? = some x := ⟨_, Array.getElem?_eq_getElem (by omega)⟩
   obtain ⟨x1, hx1⟩ : ∃ x, C[k * 2 + 1]? = some x := ⟨_, Array.getElem?_eq_getElem (by omega)⟩
   have d0 := (bm1.cell (k * 2)).trans hx0
   have d1 := (bm1.cell (k * 2 + 1)).trans hx1
   have ff := bm1.free
   clear hHeld bm1 bb1 hx0 hx1 hz
   go_wp2
   go_roundw
   case rel =>
    refine ⟨k + 1, _, by omega, by go_num, hpc.out.put (by omega) (by rw [mergeL_len, List.length_take]; omega) (put_set hx.out hy.out hxy), (ba1.out.setCell (by simp; try omega) _).setCell (by simp; try omega) _, (BB1.out.setCell (by simp; try omega) _).setCell (by simp; try omega) _, (br1.out.setCell (by simp; try omega) _).setCell (by simp; try omega) _, heap_setCell_same _ _ _ _ _ _ (heap_setCell_same _ _ _ _ _ _ BM1.out), (HF.out.setCell (by simp; try omega) _).setCell (by simp; try omega) _⟩
   case measure => simp [intOf]; omega
  have hc1 : decide (c < 0) = false := by rw [hc]; exact decide_eq_false hxy
  have hc2 : ¬ c < 0 := of_decide_eq_false hc1
  clear hc hc1
  refine planH.go [15, 16] ?_
  iterate 2 (apply planH.take (at_lit rfl) (by kernel_rfl) (by rfl) (fun _ _ _ h => h) hHeld; (· intro w9 hSw; clear hSw; go_simp; try with_reducible rfl); try simp only [qq])
  refine planH.fin ?_
  refine wpAnyH_done (by kernel_rfl) ?_ _
  have bm1 := bm.out.ext hHeld.bel
  have bb1 := bb.out.ext hHeld.bel
  have ba1 := hid (ba.out.ext hHeld.bel)
  have br1 := hid (br.out.ext hHeld.bel)
  have HF := hid (ext_trans hbel.out hHeld.bel)
  have BM1 := hid bm1
  have BB1 := hid bb1
  clear hHeld bm1 bb1
  go_wp2
  go_roundw
  case rel =>
   refine ⟨k + 1, C, by omega, by go_num, by rw [mergeL_keep hx.out hy.out (by omega)]; exact hpc.out, ba1.out, BB1.out, br1.out, BM1.out, HF.out⟩
  case measure => simp [intOf]; omega
 have hkk : k = l2.length := by omega
 subst hkk
 have hpc2 := hpc.out
 rw [mergeL_full l1 l2 (Nat.le_refl _)] at hpc2
 have HPC := hid hpc2
 have c0 := (ba.out.cell 120).trans U1
 have c1 := (bb.out.cell 120).trans U2
 have hz := hpc2.size
 obtain ⟨x0, hx0⟩ : ∃ x, C[120]? = some x := ⟨_, Array.getElem?_eq_getElem (by omega)⟩
 have d0 := (bm.out.cell 120).trans hx0
 have ff := bm.out.free
 clear hx0 hz hpc2 hpc
 have HP := hid (HPC.out.done (.int .i64 (max (l1.length : Int) (l2.length : Int))) (by rw [mergeL_len]; congr 1; omega))
 have b1 := hid (heap_setCell_same wr (w.heap.size + 1 + 1 + 1) 120 C 167 (.int .i64 (max (l1.length : Int) (l2.length : Int))) bm.out)
 have b0 := hid (show Blk (wr.setCell ⟨(w.heap.size + 1 + 1 + 1), 120, none⟩ (.int .i64 (max (l1.length : Int) (l2.length : Int)))) (w.heap.size + 1 + 1) Tryz.zeroCells167 167 from br.out.setCell (by simp) _)
 have HF := hid (show Below w.heap.size w (wr.setCell ⟨(w.heap.size + 1 + 1 + 1), 120, none⟩ (.int .i64 (max (l1.length : Int) (l2.length : Int)))) from hbel.out.setCell (by simp; try omega) _)
 go_wp2_with (first
  | ((with_reducible refine wpList_load_page (w.heap.size + 1 + 1 + 1) (C.setIfInBounds 120 (.int .i64 (max (l1.length : Int) (l2.length : Int)))) ?_ ?_ ?_ ?_); (· exact HP.out.size); (· rfl); (· exact b1.out))
  | ((with_reducible refine wpList_store_page_at (w.heap.size + 1 + 1) Tryz.zeroCells167 (C.setIfInBounds 120 (.int .i64 (max (l1.length : Int) (l2.length : Int)))) HP.out.size zero_size ?_ ?_ ?_ ?_ ?_); (· rfl); (· rfl); (· exact b0.out); (· exact HP.out.one)))
 refine ret_cell (ty := 167) Tryz.results161 (w.heap.size + 1 + 1) (C.setIfInBounds 120 (.int .i64 (max (l1.length : Int) (l2.length : Int)))) _ ?_ ?_ (setRow_heap _ (w.heap.size + 1 + 1) _ _ _ _ b0.out) Tryz.underlying167 rfl (pageSize HP.out.size) ⟨_, rfl, HP.out, HF.out.trans ⟨rfl, rfl, rfl, by simp, fun q hq => setRow_other _ (w.heap.size + 1 + 1) q _ (by omega)⟩⟩
 ·rfl
 rfl
end Go.Proofs.YtffklmlljekceaaGreat
