/-
  impl.compareBallots, impl.mergePages: at every two pages.
-/
import Derived.Test.YtkgljcgninfdoaaPages
namespace Go.Proofs.Ytkgljcgninfdoaa
open Go.ChangeShapes Go.WideShapes Go.ChangeAt Go.RowKit
set_option linter.unusedVariables false
set_option linter.unusedSimpArgs false

theorem isNaN_any (x : Int) (w : World) : Calls Try.prog 89 #[.int .i64 x] w fun e w' => e = .returned (.bool false) ∧ w' = w := by
  go_enter Try.func89, Try.ntmps89
  go_wp2
  go_ret
  exact ⟨by simp, rfl⟩
set_option maxHeartbeats 1000000 in
theorem compare_any (x y : Int) (w : World) : Calls Try.prog 80 #[.int .i64 x, .int .i64 y] w fun e w' => ∃ c : Int, e = .returned (.int .i64 c) ∧ decide (c < 0) = decide (x < y) ∧ w' = w := by
  go_enter Try.func80, Try.ntmps80
  go_wp2_with (go_at_call 89; refine (isNaN_any _ _).mono ?_; rintro e w' ⟨rfl, rfl⟩)
  all_goals go_ret
  · exact ⟨-1, rfl, by simp; omega, rfl⟩
  · exact ⟨1, rfl, by simp; omega, rfl⟩
  · exact ⟨0, rfl, by simp; omega, rfl⟩
set_option maxHeartbeats 1000000 in
theorem compareBallots_any (x y : Sl) (w : World) : Calls Try.prog 43 #[.agg #[.int .i64 x.1, .string x.2], .agg #[.int .i64 y.1, .string y.2]] w fun e w' => ∃ c : Int, e = .returned (.int .i64 c) ∧ decide (c < 0) = decide (x.1 < y.1) ∧ Below w.heap.size w w' := by
  go_enter Try.func43, Try.ntmps43
  go_wp2_with (go_at_call 80; refine (compare_any _ _ _).mono ?_; rintro e w' ⟨c, rfl, hc, rfl⟩)
  go_ret
  exact ⟨c, rfl, hc, ext_alloc (ext_alloc (Below.refl _ _) _) _⟩

/-- the two pages that are read lie in their blocks -/
structure PgS (B : World) (ga gb : Nat) (C1 C2 : Array Value) (w' : World) : Prop where
  blkA : Blk w' ga C1 76
  blkB : Blk w' gb C2 76
  bel : Below B.heap.size B w'
theorem PgS.ext {B : World} {ga gb : Nat} {C1 C2 : Array Value} {w' v' : World} (h : PgS B ga gb C1 C2 w') (hb : Below w'.heap.size w' v') : PgS B ga gb C1 C2 v' := ⟨h.blkA.ext hb, h.blkB.ext hb, ext_trans h.bel hb⟩
theorem PgS.drew {B : World} {ga gb : Nat} {C1 C2 : Array Value} {w' : World} (h : PgS B ga gb C1 C2 w') : PgS B ga gb C1 C2 w'.drew := ⟨h.blkA, h.blkB, h.bel.drew⟩
theorem PageC.put {C : Array Value} {l l' : List Sl} (h : PageC C l) {k : Nat} {y : Sl} (hk : k < 60) (hl : l'.length ≤ 60) (hold : ∀ (i : Nat) s, l'[i]? = some s → i = k ∧ s = y ∨ i ≠ k ∧ l[i]? = some s) :
    PageC ((C.setIfInBounds (k * 2) (.int .i64 y.1)).setIfInBounds (k * 2 + 1) (.string y.2)) l' := by
  have hz := h.size
  refine ⟨by simp [hz], hl, fun i s hs => ?_, one_set (one_set h.one _ rfl) _ rfl⟩
  rcases hold i s hs with ⟨rfl, rfl⟩ | ⟨hne, ho⟩
  · constructor
    · rw [Array.getElem?_setIfInBounds_ne (by omega), Array.getElem?_setIfInBounds_self_of_lt (by omega)]
    · rw [Array.getElem?_setIfInBounds_self_of_lt (by rw [Array.size_setIfInBounds]; omega)]
  · have := h.at' i s ho
    rw [Array.getElem?_setIfInBounds_ne (by omega), Array.getElem?_setIfInBounds_ne (by omega), Array.getElem?_setIfInBounds_ne (by omega), Array.getElem?_setIfInBounds_ne (by omega)]
    exact this
theorem PageC.done {C : Array Value} {l : List Sl} (h : PageC C l) (v : Value) (hv : v = .int .i64 l.length) : PageOk (C.setIfInBounds 120 v) l := by
  subst hv
  have hz := h.size
  have hl := h.len
  refine ⟨⟨by simp [hz], h.len, fun i s hs => ?_, one_set h.one _ rfl⟩, by rw [Array.getElem?_setIfInBounds_self_of_lt (by omega)]⟩
  have hi : i < l.length := (List.getElem?_eq_some_iff.1 hs).1
  rw [Array.getElem?_setIfInBounds_ne (by omega), Array.getElem?_setIfInBounds_ne (by omega)]
  exact h.at' i s hs
theorem put_app {l1 l2 : List Sl} {k : Nat} {y : Sl} (hk : l1.length ≤ k) (hy : l2[k]? = some y) : ∀ (i : Nat) s, (mergeL l1 (l2.take (k + 1)))[i]? = some s → i = k ∧ s = y ∨ i ≠ k ∧ (mergeL l1 (l2.take k))[i]? = some s := fun i s hs => by
  have hb : k < l2.length := (List.getElem?_eq_some_iff.1 hy).1
  rw [mergeL_app hk hy, List.getElem?_append, mergeL_len, List.length_take] at hs
  split at hs
  · exact .inr ⟨by omega, hs⟩
  · rename_i h9
    have := (List.getElem?_eq_some_iff.1 hs).1
    simp at this
    have hik : i = k := by omega
    subst hik
    rw [show i - max l1.length (min i l2.length) = 0 by omega] at hs
    simp at hs
    exact .inl ⟨rfl, hs.symm⟩
theorem put_set {l1 l2 : List Sl} {k : Nat} {x y : Sl} (hx : l1[k]? = some x) (hy : l2[k]? = some y) (h : x.1 < y.1) : ∀ (i : Nat) s, (mergeL l1 (l2.take (k + 1)))[i]? = some s → i = k ∧ s = y ∨ i ≠ k ∧ (mergeL l1 (l2.take k))[i]? = some s := fun i s hs => by
  rw [mergeL_set hx hy h, List.getElem?_set] at hs
  split at hs
  · rename_i h9
    split at hs
    · simp only [Option.some.injEq] at hs
      exact .inl ⟨h9.symm, hs.symm⟩
    · simp at hs
  · rename_i h9
    exact .inr ⟨fun e => h9 e.symm, hs⟩

set_option maxHeartbeats 8000000 in
set_option maxRecDepth 20000 in
theorem mergePages_any (C1 C2 : Array Value) (l1 l2 : List Sl) (w : World) (h1 : PageOk C1 l1) (h2 : PageOk C2 l2) :
    Calls Try.prog 41 #[.agg C1, .agg C2, .func (.func 43) #[] #[]] w fun e w' => ∃ C, e = .returned (.agg C) ∧ PageOk C (mergeL l1 l2) ∧ Below w.heap.size w w' := by
  have H1 := hid h1
  have H2 := hid h2
  have L1 : l1.length ≤ 60 := h1.len
  have L2 : l2.length ≤ 60 := h2.len
  have U1 := h1.used
  have U2 := h2.used
  clear h1 h2
  have ka := hid (show Blk ((((w.alloc (.cells C1 76)).alloc (.cells C2 76)).alloc (.cells Try.zeroCells76 76)).alloc (.cells C1 76)) w.heap.size C1 76 from (((Blk.new w _ _).alloc _).alloc _).alloc _)
  have ka3 := hid (show Blk (((w.alloc (.cells C1 76)).alloc (.cells C2 76)).alloc (.cells Try.zeroCells76 76)) w.heap.size C1 76 from ((Blk.new w _ _).alloc _).alloc _)
  have kb := hid (show Blk ((((w.alloc (.cells C1 76)).alloc (.cells C2 76)).alloc (.cells Try.zeroCells76 76)).alloc (.cells C1 76)) (w.heap.size + 1) C2 76 from ((Blk.new' _ _ (by simp)).alloc _).alloc _)
  have kr := hid (show Blk ((((w.alloc (.cells C1 76)).alloc (.cells C2 76)).alloc (.cells Try.zeroCells76 76)).alloc (.cells C1 76)) (w.heap.size + 1 + 1) Try.zeroCells76 76 from (Blk.new' _ _ (by simp)).alloc _)
  have km := hid (show Blk ((((w.alloc (.cells C1 76)).alloc (.cells C2 76)).alloc (.cells Try.zeroCells76 76)).alloc (.cells C1 76)) (w.heap.size + 1 + 1 + 1) C1 76 from Blk.new' _ _ (by simp))
  have HB := hid (show Below w.heap.size w ((((w.alloc (.cells C1 76)).alloc (.cells C2 76)).alloc (.cells Try.zeroCells76 76)).alloc (.cells C1 76)) from ext_alloc (ext_alloc (ext_alloc (ext_alloc (Below.refl _ _) _) _) _) _)
  have ub := (kb.out.cell 120).trans U2
  have HE := hid (show Value.pointer (some ⟨w.heap.size + 1 + 1 + 1, 0, none⟩) = Value.pointer (some ⟨(((w.alloc (.cells C1 76)).alloc (.cells C2 76)).alloc (.cells Try.zeroCells76 76)).heap.size, 0, none⟩) by simp)
  go_enter Try.func41, Try.ntmps41
  go_wp2_with (first
    | ((with_reducible refine wpList_load_page w.heap.size C1 H1.out.size ?_ ?_ ?_); (· rfl); (· exact ka3.out))
    | ((with_reducible refine wpList_store_page C1 H1.out.size ?_ ?_ ?_ ?_ ?_); (· exact HE.out); (· rfl); (· exact zero_size); (· exact H1.out.one)))
  go_loopw [12] (fun i wr => ∃ (k : Nat) (C : Array Value), k ≤ l2.length ∧ i = .int .i64 k ∧ PageC C (mergeL l1 (l2.take k)) ∧ Blk wr w.heap.size C1 76 ∧ Blk wr (w.heap.size + 1) C2 76 ∧ Blk wr (w.heap.size + 1 + 1) Try.zeroCells76 76 ∧ Blk wr (w.heap.size + 1 + 1 + 1) C 76 ∧ Below w.heap.size w wr) (fun i _ => l2.length - (intOf i).toNat)
  case atStart => exact ⟨0, C1, Nat.zero_le _, rfl, by rw [List.take_zero, mergeL_nil]; exact H1.out.toPageC, ka.out, kb.out, kr.out, km.out, HB.out⟩
  case round =>
    clear ka ka3 kb kr km HB ub
    obtain ⟨k, C, hk, rfl, hpc0, ba0, bb0, br0, bm0, hbel0⟩ := hrel
    have hpc := hid hpc0
    have ba := hid ba0
    have bb := hid bb0
    have br := hid br0
    have bm := hid bm0
    have hbel := hid hbel0
    clear hpc0 ba0 bb0 br0 bm0 hbel0
    by_cases hlt : k < l2.length
    · obtain ⟨y, hy0⟩ : ∃ s, l2[k]? = some s := ⟨_, List.getElem?_eq_getElem hlt⟩
      have hy := hid hy0
      have Y0 := (H2.out.at' k y hy0).1
      have Y1 := (H2.out.at' k y hy0).2
      clear hy0
      have e1 : (0 : Int) ≤ (k : Int) := by omega
      have e2 : (k : Int) < (l2.length : Int) := by omega
      have e3 : (k : Int) < 60 := by omega
      have hK0 : PgS wr w.heap.size (w.heap.size + 1) C1 C2 wr := ⟨ba.out, bb.out, Below.refl _ _⟩
      have YC := hid (show C2[k * 2]? = some (.int .i64 y.1) ∧ C2[k * 2 + 1]? = some (.string y.2) from ⟨Y0, Y1⟩)
      clear Y0 Y1
      go_wp2_with fail
      refine wp_region_held_drew (S := PgS wr w.heap.size (w.heap.size + 1) C1 C2) (by kernel_rfl) hK0.drew (fun hHeld => ?_)
      clear hK0
      simp only [List.size_toArray, List.length_cons, List.length_nil, Nat.reduceAdd, Array.replicate_succ, Array.replicate_zero, List.push_toArray, List.append_toArray, List.nil_append, List.cons_append]
      refine wpAnyH_take (i := 0) (v := ?_) (at_lit rfl) (by kernel_rfl) (by kernel_rfl) (by kernel_rfl) (fun _ _ _ h => h) (Or.inl ⟨by rfl, ?_⟩) hHeld ?_
      rotate_left
      · (intro w9 hSw; clear hSw; go_simp; try with_reducible rfl)
      try simp only [Act.put, List.setIfInBounds_toArray, List.set_cons_zero, List.set_cons_succ]
      refine wpAnyH_take (i := 1) (v := ?_) (at_lit rfl) (by kernel_rfl) (by kernel_rfl) (by kernel_rfl) (fun _ _ _ h => h) (Or.inl ⟨by rfl, ?_⟩) hHeld ?_
      rotate_left
      · (intro w9 hSw; clear hSw; go_simp; try with_reducible rfl)
      try simp only [Act.put, List.setIfInBounds_toArray, List.set_cons_zero, List.set_cons_succ]
      refine wpAnyH_take (i := 2) (v := ?_) (at_lit rfl) (by kernel_rfl) (by kernel_rfl) (by kernel_rfl) (fun _ _ _ h => h) (Or.inl ⟨by rfl, ?_⟩) hHeld ?_
      rotate_left
      · (intro w9 hSw; have hq := (hSw.blkA.cell 120).trans U1; clear hSw; go_simp; try with_reducible rfl)
      try simp only [Act.put, List.setIfInBounds_toArray, List.set_cons_zero, List.set_cons_succ]
      by_cases hkn : l1.length ≤ k
      · have e4 : (l1.length : Int) ≤ (k : Int) := by omega
        refine wpAnyH_take (i := 3) (v := ?_) (at_lit rfl) (by kernel_rfl) (by kernel_rfl) (by kernel_rfl) (fun _ _ _ h => h) (Or.inl ⟨by rfl, ?_⟩) hHeld ?_
        rotate_left
        · (intro w9 hSw; clear hSw; go_simp; try with_reducible rfl)
        try simp only [Act.put, List.setIfInBounds_toArray, List.set_cons_zero, List.set_cons_succ]
        refine wpAnyH_take (i := 4) (v := ?_) (at_lit rfl) (by kernel_rfl) (by kernel_rfl) (by kernel_rfl) (fun _ _ _ h => h) (Or.inl ⟨by rfl, ?_⟩) hHeld ?_
        rotate_left
        · (intro w9 hSw; clear hSw; go_simp; try with_reducible rfl)
        try simp only [Act.put, List.setIfInBounds_toArray, List.set_cons_zero, List.set_cons_succ]
        refine wpAnyH_take (i := 5) (v := undef) (at_lit rfl) (by kernel_rfl) (by kernel_rfl) (by kernel_rfl) (fun _ _ _ h => h) (Or.inr ⟨by rfl, rfl⟩) hHeld ?_
        try simp only [Act.put, List.setIfInBounds_toArray, List.set_cons_zero, List.set_cons_succ]
        refine wpAnyH_take (i := 6) (v := undef) (at_lit rfl) (by kernel_rfl) (by kernel_rfl) (by kernel_rfl) (fun _ _ _ h => h) (Or.inr ⟨by rfl, rfl⟩) hHeld ?_
        try simp only [Act.put, List.setIfInBounds_toArray, List.set_cons_zero, List.set_cons_succ]
        refine wpAnyH_take (i := 7) (v := undef) (at_lit rfl) (by kernel_rfl) (by kernel_rfl) (by kernel_rfl) (fun _ _ _ h => h) (Or.inr ⟨by rfl, rfl⟩) hHeld ?_
        try simp only [Act.put, List.setIfInBounds_toArray, List.set_cons_zero, List.set_cons_succ]
        refine wpAnyH_take (i := 8) (v := undef) (at_lit rfl) (by kernel_rfl) (by kernel_rfl) (by kernel_rfl) (fun _ _ _ h => h) (Or.inr ⟨by rfl, rfl⟩) hHeld ?_
        try simp only [Act.put, List.setIfInBounds_toArray, List.set_cons_zero, List.set_cons_succ]
        refine wpAnyH_take (i := 9) (v := undef) (at_lit rfl) (by kernel_rfl) (by kernel_rfl) (by kernel_rfl) (fun _ _ _ h => h) (Or.inr ⟨by rfl, rfl⟩) hHeld ?_
        try simp only [Act.put, List.setIfInBounds_toArray, List.set_cons_zero, List.set_cons_succ]
        refine wpAnyH_take (i := 10) (v := undef) (at_lit rfl) (by kernel_rfl) (by kernel_rfl) (by kernel_rfl) (fun _ _ _ h => h) (Or.inr ⟨by rfl, rfl⟩) hHeld ?_
        try simp only [Act.put, List.setIfInBounds_toArray, List.set_cons_zero, List.set_cons_succ]
        refine wpAnyH_take (i := 11) (v := undef) (at_lit rfl) (by kernel_rfl) (by kernel_rfl) (by kernel_rfl) (fun _ _ _ h => h) (Or.inr ⟨by rfl, rfl⟩) hHeld ?_
        try simp only [Act.put, List.setIfInBounds_toArray, List.set_cons_zero, List.set_cons_succ]
        refine wpAnyH_take (i := 12) (v := undef) (at_lit rfl) (by kernel_rfl) (by kernel_rfl) (by kernel_rfl) (fun _ _ _ h => h) (Or.inr ⟨by rfl, rfl⟩) hHeld ?_
        try simp only [Act.put, List.setIfInBounds_toArray, List.set_cons_zero, List.set_cons_succ]
        refine wpAnyH_take (i := 13) (v := undef) (at_lit rfl) (by kernel_rfl) (by kernel_rfl) (by kernel_rfl) (fun _ _ _ h => h) (Or.inr ⟨by rfl, rfl⟩) hHeld ?_
        try simp only [Act.put, List.setIfInBounds_toArray, List.set_cons_zero, List.set_cons_succ]
        refine wpAnyH_take (i := 14) (v := undef) (at_lit rfl) (by kernel_rfl) (by kernel_rfl) (by kernel_rfl) (fun _ _ _ h => h) (Or.inr ⟨by rfl, rfl⟩) hHeld ?_
        try simp only [Act.put, List.setIfInBounds_toArray, List.set_cons_zero, List.set_cons_succ]
        refine wpAnyH_take (i := 15) (v := undef) (at_lit rfl) (by kernel_rfl) (by kernel_rfl) (by kernel_rfl) (fun _ _ _ h => h) (Or.inr ⟨by rfl, rfl⟩) hHeld ?_
        try simp only [Act.put, List.setIfInBounds_toArray, List.set_cons_zero, List.set_cons_succ]
        refine wpAnyH_take (i := 16) (v := ?_) (at_lit rfl) (by kernel_rfl) (by kernel_rfl) (by kernel_rfl) (fun _ _ _ h => h) (Or.inl ⟨by rfl, ?_⟩) hHeld ?_
        rotate_left
        · (intro w9 hSw; clear hSw; go_simp; try with_reducible rfl)
        try simp only [Act.put, List.setIfInBounds_toArray, List.set_cons_zero, List.set_cons_succ]
        refine wpAnyH_done (by kernel_rfl) ?_ _
        have bm1 := bm.out
        have bb1 := bb.out
        have ba1 := ba
        have br1 := br
        have HF := hbel
        have BM1 := hid bm1
        have BB1 := hid bb1
        have c0 := (bb1.cell (k * 2)).trans YC.out.1
        have c1 := (bb1.cell (k * 2 + 1)).trans YC.out.2
        have hz := hpc.out.size
        obtain ⟨x0, hx0⟩ : ∃ x, C[k * 2]? = some x := ⟨_, Array.getElem?_eq_getElem (by omega)⟩
        obtain ⟨x1, hx1⟩ : ∃ x, C[k * 2 + 1]? = some x := ⟨_, Array.getElem?_eq_getElem (by omega)⟩
        have d0 := (bm1.cell (k * 2)).trans hx0
        have d1 := (bm1.cell (k * 2 + 1)).trans hx1
        have ff := bm1.free
        clear hHeld bm1 bb1 hx0 hx1 hz
        go_wp2
        go_roundw
        case rel =>
          refine ⟨k + 1, _, by omega, by go_num, hpc.out.put (by omega) (by rw [mergeL_len, List.length_take]; omega) (put_app hkn hy.out), (ba1.out.setCell (by simp; try omega) _).setCell (by simp; try omega) _, (BB1.out.setCell (by simp; try omega) _).setCell (by simp; try omega) _, (br1.out.setCell (by simp; try omega) _).setCell (by simp; try omega) _, heap_setCell_same _ _ _ _ _ _ (heap_setCell_same _ _ _ _ _ _ BM1.out), (((HF.out.setCell (by simp; try omega) _).setCell (by simp; try omega) _).drew)⟩
        case measure => simp [intOf]; omega
      · have e4 : ¬ (l1.length : Int) ≤ (k : Int) := by omega
        obtain ⟨x, hx0⟩ : ∃ s, l1[k]? = some s := ⟨_, List.getElem?_eq_getElem (by omega)⟩
        have hx := hid hx0
        have XC := hid (H1.out.at' k x hx0)
        clear hx0
        refine wpAnyH_take (i := 3) (v := ?_) (at_lit rfl) (by kernel_rfl) (by kernel_rfl) (by kernel_rfl) (fun _ _ _ h => h) (Or.inl ⟨by rfl, ?_⟩) hHeld ?_
        rotate_left
        · (intro w9 hSw; clear hSw; go_simp; try with_reducible rfl)
        try simp only [Act.put, List.setIfInBounds_toArray, List.set_cons_zero, List.set_cons_succ]
        refine wpAnyH_take (i := 4) (v := ?_) (at_lit rfl) (by kernel_rfl) (by kernel_rfl) (by kernel_rfl) (fun _ _ _ h => h) (Or.inl ⟨by rfl, ?_⟩) hHeld ?_
        rotate_left
        · (intro w9 hSw; clear hSw; go_simp; try with_reducible rfl)
        try simp only [Act.put, List.setIfInBounds_toArray, List.set_cons_zero, List.set_cons_succ]
        refine wpAnyH_take (i := 5) (v := ?_) (at_lit rfl) (by kernel_rfl) (by kernel_rfl) (by kernel_rfl) (fun _ _ _ h => h) (Or.inl ⟨by rfl, ?_⟩) hHeld ?_
        rotate_left
        · (intro w9 hSw; clear hSw; go_simp; try with_reducible rfl)
        try simp only [Act.put, List.setIfInBounds_toArray, List.set_cons_zero, List.set_cons_succ]
        refine wpAnyH_take (i := 6) (v := ?_) (at_lit rfl) (by kernel_rfl) (by kernel_rfl) (by kernel_rfl) (fun _ _ _ h => h) (Or.inl ⟨by rfl, ?_⟩) hHeld ?_
        rotate_left
        · (intro w9 hSw; clear hSw; go_simp; try with_reducible rfl)
        try simp only [Act.put, List.setIfInBounds_toArray, List.set_cons_zero, List.set_cons_succ]
        refine wpAnyH_take (i := 7) (v := ?_) (at_lit rfl) (by kernel_rfl) (by kernel_rfl) (by kernel_rfl) (fun _ _ _ h => h) (Or.inl ⟨by rfl, ?_⟩) hHeld ?_
        rotate_left
        · (intro w9 hSw; clear hSw; go_simp; try with_reducible rfl)
        try simp only [Act.put, List.setIfInBounds_toArray, List.set_cons_zero, List.set_cons_succ]
        refine wpAnyH_take (i := 8) (v := ?_) (at_lit rfl) (by kernel_rfl) (by kernel_rfl) (by kernel_rfl) (fun _ _ _ h => h) (Or.inl ⟨by rfl, ?_⟩) hHeld ?_
        rotate_left
        · (intro w9 hSw; clear hSw; go_simp; try with_reducible rfl)
        try simp only [Act.put, List.setIfInBounds_toArray, List.set_cons_zero, List.set_cons_succ]
        refine wpAnyH_take (i := 9) (v := ?_) (at_lit rfl) (by kernel_rfl) (by kernel_rfl) (by kernel_rfl) (fun _ _ _ h => h) (Or.inl ⟨by rfl, ?_⟩) hHeld ?_
        rotate_left
        · (intro w9 hSw; have q0 := (hSw.blkA.cell (k * 2)).trans XC.out.1; have q1 := (hSw.blkA.cell (k * 2 + 1)).trans XC.out.2; clear hSw; go_simp; try with_reducible rfl)
        try simp only [Act.put, List.setIfInBounds_toArray, List.set_cons_zero, List.set_cons_succ]
        refine wpAnyH_take (i := 10) (v := ?_) (at_lit rfl) (by kernel_rfl) (by kernel_rfl) (by kernel_rfl) (fun _ _ _ h => h) (Or.inl ⟨by rfl, ?_⟩) hHeld ?_
        rotate_left
        · (intro w9 hSw; clear hSw; go_simp; try with_reducible rfl)
        try simp only [Act.put, List.setIfInBounds_toArray, List.set_cons_zero, List.set_cons_succ]
        refine wpAnyH_take (i := 11) (v := ?_) (at_lit rfl) (by kernel_rfl) (by kernel_rfl) (by kernel_rfl) (fun _ _ _ h => h) (Or.inl ⟨by rfl, ?_⟩) hHeld ?_
        rotate_left
        · (intro w9 hSw; clear hSw; go_simp; try with_reducible rfl)
        try simp only [Act.put, List.setIfInBounds_toArray, List.set_cons_zero, List.set_cons_succ]
        refine wpAnyH_take (i := 12) (v := ?_) (at_lit rfl) (by kernel_rfl) (by kernel_rfl) (by kernel_rfl) (fun _ _ _ h => h) (Or.inl ⟨by rfl, ?_⟩) hHeld ?_
        rotate_left
        · (intro w9 hSw; clear hSw; go_simp; try with_reducible rfl)
        try simp only [Act.put, List.setIfInBounds_toArray, List.set_cons_zero, List.set_cons_succ]
        refine wpAnyH_take (i := 13) (v := ?_) (at_lit rfl) (by kernel_rfl) (by kernel_rfl) (by kernel_rfl) (fun _ _ _ h => h) (Or.inl ⟨by rfl, ?_⟩) hHeld ?_
        rotate_left
        · (intro w9 hSw; have q0 := (hSw.blkB.cell (k * 2)).trans YC.out.1; have q1 := (hSw.blkB.cell (k * 2 + 1)).trans YC.out.2; clear hSw; go_simp; try with_reducible rfl)
        try simp only [Act.put, List.setIfInBounds_toArray, List.set_cons_zero, List.set_cons_succ]
        refine wpAnyH_ready (rs := [14]) (by kernel_rfl) (by simp) ?_
        refine AllReadyH.cons (at_lit rfl) (fun K hK => ?_) AllReadyH.nil
        go_simp
        refine (compareBallots_any x y _).mono ?_
        rintro e z ⟨c, rfl, hc, hz⟩
        go_wp2_with fail
        refine hK.out _ _ (hHeld.ext hz) (fun hNew => ?_)
        clear hK K hHeld hz
        have hHeld := hNew
        clear hNew
        try simp only [Act.put, List.setIfInBounds_toArray, List.set_cons_zero, List.set_cons_succ]
        by_cases hxy : x.1 < y.1
        · have hc1 : decide (c < 0) = true := by rw [hc]; exact decide_eq_true hxy
          have hc2 : c < 0 := of_decide_eq_true hc1
          clear hc hc1
          refine wpAnyH_take (i := 15) (v := ?_) (at_lit rfl) (by kernel_rfl) (by kernel_rfl) (by kernel_rfl) (fun _ _ _ h => h) (Or.inl ⟨by rfl, ?_⟩) hHeld ?_
          rotate_left
          · (intro w9 hSw; clear hSw; go_simp; try with_reducible rfl)
          try simp only [Act.put, List.setIfInBounds_toArray, List.set_cons_zero, List.set_cons_succ]
          refine wpAnyH_take (i := 16) (v := ?_) (at_lit rfl) (by kernel_rfl) (by kernel_rfl) (by kernel_rfl) (fun _ _ _ h => h) (Or.inl ⟨by rfl, ?_⟩) hHeld ?_
          rotate_left
          · (intro w9 hSw; clear hSw; go_simp; try with_reducible rfl)
          try simp only [Act.put, List.setIfInBounds_toArray, List.set_cons_zero, List.set_cons_succ]
          refine wpAnyH_done (by kernel_rfl) ?_ _
          have bm1 := bm.out.ext hHeld.bel
          have bb1 := bb.out.ext hHeld.bel
          have ba1 := hid (ba.out.ext hHeld.bel)
          have br1 := hid (br.out.ext hHeld.bel)
          have HF := hid (ext_trans hbel.out hHeld.bel)
          have BM1 := hid bm1
          have BB1 := hid bb1
          have c0 := (bb1.cell (k * 2)).trans YC.out.1
          have c1 := (bb1.cell (k * 2 + 1)).trans YC.out.2
          have hz := hpc.out.size
          obtain ⟨x0, hx0⟩ : ∃ x, C[k * 2]? = some x := ⟨_, Array.getElem?_eq_getElem (by omega)⟩
          obtain ⟨x1, hx1⟩ : ∃ x, C[k * 2 + 1]? = some x := ⟨_, Array.getElem?_eq_getElem (by omega)⟩
          have d0 := (bm1.cell (k * 2)).trans hx0
          have d1 := (bm1.cell (k * 2 + 1)).trans hx1
          have ff := bm1.free
          clear hHeld bm1 bb1 hx0 hx1 hz
          go_wp2
          go_roundw
          case rel =>
            refine ⟨k + 1, _, by omega, by go_num, hpc.out.put (by omega) (by rw [mergeL_len, List.length_take]; omega) (put_set hx.out hy.out hxy), (ba1.out.setCell (by simp; try omega) _).setCell (by simp; try omega) _, (BB1.out.setCell (by simp; try omega) _).setCell (by simp; try omega) _, (br1.out.setCell (by simp; try omega) _).setCell (by simp; try omega) _, heap_setCell_same _ _ _ _ _ _ (heap_setCell_same _ _ _ _ _ _ BM1.out), (HF.out.setCell (by simp; try omega) _).setCell (by simp; try omega) _⟩
          case measure => simp [intOf]; omega
        · have hc1 : decide (c < 0) = false := by rw [hc]; exact decide_eq_false hxy
          have hc2 : ¬ c < 0 := of_decide_eq_false hc1
          clear hc hc1
          refine wpAnyH_take (i := 15) (v := ?_) (at_lit rfl) (by kernel_rfl) (by kernel_rfl) (by kernel_rfl) (fun _ _ _ h => h) (Or.inl ⟨by rfl, ?_⟩) hHeld ?_
          rotate_left
          · (intro w9 hSw; clear hSw; go_simp; try with_reducible rfl)
          try simp only [Act.put, List.setIfInBounds_toArray, List.set_cons_zero, List.set_cons_succ]
          refine wpAnyH_take (i := 16) (v := ?_) (at_lit rfl) (by kernel_rfl) (by kernel_rfl) (by kernel_rfl) (fun _ _ _ h => h) (Or.inl ⟨by rfl, ?_⟩) hHeld ?_
          rotate_left
          · (intro w9 hSw; clear hSw; go_simp; try with_reducible rfl)
          try simp only [Act.put, List.setIfInBounds_toArray, List.set_cons_zero, List.set_cons_succ]
          refine wpAnyH_done (by kernel_rfl) ?_ _
          have bm1 := bm.out.ext hHeld.bel
          have bb1 := bb.out.ext hHeld.bel
          have ba1 := hid (ba.out.ext hHeld.bel)
          have br1 := hid (br.out.ext hHeld.bel)
          have HF := hid (ext_trans hbel.out hHeld.bel)
          have BM1 := hid bm1
          have BB1 := hid bb1
          clear hHeld bm1 bb1
          go_wp2
          go_roundw
          case rel =>
            refine ⟨k + 1, C, by omega, by go_num, by rw [mergeL_keep hx.out hy.out (by omega)]; exact hpc.out, ba1.out, BB1.out, br1.out, BM1.out, HF.out⟩
          case measure => simp [intOf]; omega
    · have hkk : k = l2.length := by omega
      subst hkk
      have hpc2 := hpc.out
      rw [mergeL_full l1 l2 (Nat.le_refl _)] at hpc2
      have HPC := hid hpc2
      have c0 := (ba.out.cell 120).trans U1
      have c1 := (bb.out.cell 120).trans U2
      have hz := hpc2.size
      obtain ⟨x0, hx0⟩ : ∃ x, C[120]? = some x := ⟨_, Array.getElem?_eq_getElem (by omega)⟩
      have d0 := (bm.out.cell 120).trans hx0
      have ff := bm.out.free
      clear hx0 hz hpc2 hpc
      have HP := hid (HPC.out.done (.int .i64 (max (l1.length : Int) (l2.length : Int))) (by rw [mergeL_len]; congr 1; omega))
      have b1 := hid (heap_setCell_same wr (w.heap.size + 1 + 1 + 1) 120 C 76 (.int .i64 (max (l1.length : Int) (l2.length : Int))) bm.out)
      have b0 := hid (show Blk (wr.setCell ⟨(w.heap.size + 1 + 1 + 1), 120, none⟩ (.int .i64 (max (l1.length : Int) (l2.length : Int)))) (w.heap.size + 1 + 1) Try.zeroCells76 76 from br.out.setCell (by simp) _)
      have HF := hid (show Below w.heap.size w (wr.setCell ⟨(w.heap.size + 1 + 1 + 1), 120, none⟩ (.int .i64 (max (l1.length : Int) (l2.length : Int)))) from hbel.out.setCell (by simp; try omega) _)
      go_wp2_with (first
        | ((with_reducible refine wpList_load_page (w.heap.size + 1 + 1 + 1) (C.setIfInBounds 120 (.int .i64 (max (l1.length : Int) (l2.length : Int)))) ?_ ?_ ?_ ?_); (· exact HP.out.size); (· rfl); (· exact b1.out))
        | ((with_reducible refine wpList_store_page_at (w.heap.size + 1 + 1) Try.zeroCells76 (C.setIfInBounds 120 (.int .i64 (max (l1.length : Int) (l2.length : Int)))) HP.out.size zero_size ?_ ?_ ?_ ?_ ?_); (· rfl); (· rfl); (· exact b0.out); (· exact HP.out.one)))
      refine ret_cell (ty := 76) Try.results41 (w.heap.size + 1 + 1) (C.setIfInBounds 120 (.int .i64 (max (l1.length : Int) (l2.length : Int)))) _ ?_ ?_ (setRow_heap _ (w.heap.size + 1 + 1) _ _ _ _ b0.out) Try.underlying76 rfl (pageSize HP.out.size) ⟨_, rfl, HP.out, HF.out.trans ⟨rfl, rfl, rfl, by simp, fun q hq => setRow_other _ (w.heap.size + 1 + 1) q _ (by omega)⟩⟩
      · rfl
      · rfl
end Go.Proofs.Ytkgljcgninfdoaa
