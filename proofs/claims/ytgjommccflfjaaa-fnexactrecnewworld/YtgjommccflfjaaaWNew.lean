/-
  RecNewWorld: both sides.
-/
import Derived.Test.YtgjommccflfjaaaWWorld
import Derived.Test.YtgjommccflfjaaaWBook
import Derived.Test.YtgjommccflfjaaaRecIs
import Derived.Test.YtgjommccflfjaaaOrdLast
import Derived.Deep.DeepAppendWide
namespace Go.Proofs.Ytgjommccflfjaaa
open Go.ChangeShapes Go.WideShapes Go.ChangeAt Go.RowKit Go.Deep Go.Joins
set_option linter.unusedVariables false
set_option linter.unusedSimpArgs false

def newR (i n : Int) : Rc := ⟨i, n, true, 0, 0, [], 0, 0, [], [], [], false, false, 0, [], [], [], 0⟩
def nilP : RcP := ⟨none, 0, none, 0, none, 0, none, 0, none, 0, none, 0, none, 0⟩
abbrev newV (i n : Int) : Array Value := #[.int .i64 i, .int .i64 n, .bool true, .int .i64 0, .int .i64 0, .slice none 0 0, .int .i64 0, .int .i64 0, .slice none 0 0, .slice none 0 0, .slice none 0 0, .bool false, .bool false, .int .i64 0, .slice none 0 0, .slice none 0 0, .slice none 0 0, .int .i64 0]
theorem newV_eq (i n : Int) : rcV (newR i n) nilP = newV i n := rfl
def newL (k : Nat) (n : Int) : List Rc := (List.range k).map fun (i : Nat) => newR ((i : Int) + 1) n
def newC (k : Nat) (n : Int) : List Value := (List.range k).flatMap fun (i : Nat) => (newV ((i : Int) + 1) n).toList
theorem newL_len (k : Nat) (n : Int) : (newL k n).length = k := by simp [newL]
theorem newC_succ (k : Nat) (n : Int) : newC (k + 1) n = newC k n ++ (newV ((k : Int) + 1) n).toList := by simp [newC, List.range_succ]
theorem newC_len (k : Nat) (n : Int) : (newC k n).length = k * 18 := by
  induction k with
  | zero => rfl
  | succ k ih => rw [newC_succ, List.length_append, ih]; simp; omega
theorem newC_at (k : Nat) (n : Int) : ∀ (i j : Nat), i < k → j < 18 → (newC k n)[i * 18 + j]? = (newV ((i : Int) + 1) n).toList[j]? := by
  induction k with
  | zero => intro i j hi; omega
  | succ k ih =>
    intro i j hi hj
    rw [newC_succ]
    by_cases he : i = k
    · subst he
      rw [List.getElem?_append_right (by rw [newC_len]; omega), newC_len, Nat.add_sub_cancel_left]
    · rw [List.getElem?_append_left (by rw [newC_len]; omega)]
      exact ih i j (by omega) hj
theorem new_at (w : World) (i n : Int) : RcAt w (newR i n) nilP := by
  refine ⟨?_, ?_, ?_, ?_, ?_, ?_, ?_, ?_, ?_, ?_, ?_, ?_, ?_, ?_⟩ <;> first | (intro i s hs; simp [newR] at hs) | (simp [newR])
theorem new_recs {w : World} {B g k cap : Nat} {n : Int} (h : w.ownsRow B 51 18 (.slice (some ⟨g, 0, none⟩) k cap) k (newC k n)) : RecsAt w (some ⟨g, 0, none⟩) (newL k n) := fun i r hr => by
  have hi : i < k := by have := (List.getElem?_eq_some_iff.1 hr).1; rwa [newL_len] at this
  have hr' : r = newR ((i : Int) + 1) n := by
    simp only [newL, List.getElem?_map, List.getElem?_range hi, Option.map_some, Option.some.injEq] at hr
    exact hr.symm
  subst hr'
  have hlt : g < w.heap.size := (h.lt g rfl).2
  refine ⟨g, 0, nilP, rfl, hlt, fun j u hu => ?_, new_at w _ _⟩
  have hj : j < 18 := by have := (List.getElem?_eq_some_iff.1 hu).1; simpa using this
  rw [Nat.zero_add, h.cellAt (i * 18 + j) (by omega), newC_at k n i j hi hj]
  exact hu
theorem recInfo : ∃ i, Try.prog.info? 51 = some i ∧ i.zero = some (.agg zeroRec) ∧ i.size = 18 ∧ i.bytes = 248 := info_parts (by unfold zeroRec; exact infoRec)
theorem newV_one (i n : Int) : ∀ u ∈ (newV i n).toList, u.oneCell' = true := by simp [Value.oneCell']

/-- the box of the world that is made, the answer's place; what was there at B is as it was -/
structure NewS (B : World) (v : Value) (w' : World) : Prop where
  blk : Blk w' (B.heap.size + 1) #[v, .slice none 0 0, .slice none 0 0] 26
  res : Blk w' B.heap.size #[.slice none 0 0, .slice none 0 0, .slice none 0 0] 26
  bel : Below B.heap.size B w'
theorem NewS.ext {B : World} {v : Value} {w' v' : World} (h : NewS B v w') (hb : Below w'.heap.size w' v') : NewS B v v' := ⟨h.blk.ext hb, h.res.ext hb, h.bel.trans (hb.mono h.bel.size)⟩
theorem NewS.drew {B : World} {v : Value} {w' : World} (h : NewS B v w') : NewS B v w'.drew := ⟨h.blk, h.res, h.bel.drew⟩
theorem NewS.grown {B : World} {v : Value} {w' v' : World} {row : Option Nat} (h : NewS B v w') (hg : w'.grownBy v' row) (hr : ∀ j, row = some j → B.heap.size + 2 ≤ j) : NewS B v v' :=
  ⟨(hg.block _ h.blk.lt (fun e => by have := hr _ e.symm; omega)).trans h.blk, (hg.block _ h.res.lt (fun e => by have := hr _ e.symm; omega)).trans h.res, h.bel.grown hg h.bel.size (fun j hj => by have := hr j hj; omega)⟩
theorem NewS.put {B : World} {v v1 : Value} {w' : World} (h : NewS B v w') : NewS B v1 (w'.setCell ⟨B.heap.size + 1, 0, none⟩ v1) :=
  ⟨heap_setCell_same _ _ _ _ _ _ h.blk, h.res.setCell (by simp) _, h.bel.setCell (by simp) _⟩
/-- what RecNewWorld gives -/
def NewPost (n : Int) (w : World) (e : Ending) (w' : World) : Prop :=
  Below w.heap.size w w' ∧ ((inB n 1 5 = false ∧ e = .returned (.agg #[.slice none 0 0, .slice none 0 0, .slice none 0 0])) ∨
    (inB n 1 5 = true ∧ ∃ (k g cap : Nat), n = (k : Int) ∧ 1 ≤ k ∧ k ≤ 5 ∧ e = .returned (.agg #[.slice (some ⟨g, 0, none⟩) k cap, .slice none 0 0, .slice none 0 0]) ∧ w'.ownsRow w.heap.size 51 18 (.slice (some ⟨g, 0, none⟩) k cap) k (newC k n)))

set_option maxHeartbeats 400000 in
theorem specNewY (n o : Int) (w : World) (g1 : inB o 1 5 = true) (g2 : inB n 1 o = true) :
    Calls Try.prog 21 #[.int .i64 n, .int .i64 o] w fun e w' => e = .returned (.agg (newV n o)) ∧ Below w.heap.size w w' := by
  go_enter Try.func21, Try.ntmps21
  go_wp2_with (first
    | (go_at_call 20; refine (l1In_any _ _ _ _).mono ?_; rintro e w' ⟨rfl, rfl⟩)
    | ((with_reducible refine wpList_build_to (ty := 51) (newV n o) ?_ ?_); (· kernel_rfl))
    | ((with_reducible refine wpList_store_last (ty := 51) (newV n o) ?_ ?_ ?_ ?_ ?_ ?_); (· rfl); (· rfl); (· kernel_rfl); (· rfl); (· simp [Value.oneCell'])))
  refine ret_cell (ty := 51) Try.results21 w.heap.size (newV n o) _ ?_ ?_ (Blk.new _ _ _) Try.underlying51 rfl (by kernel_rfl) ⟨rfl, (Below.refl _ _).alloc (Nat.le_refl _) _⟩
  · rfl
  · rfl

set_option maxHeartbeats 400000 in
theorem implNewY (n o : Int) (w : World) (g1 : inB o 1 5 = true) (g2 : inB n 1 o = true) :
    Calls Try.prog 23 #[.int .i64 n, .int .i64 o] w fun e w' => e = .returned (.agg (newV n o)) ∧ Below w.heap.size w w' := by
  go_enter Try.func23, Try.ntmps23
  go_wp2_with (first
    | (go_at_call 50; refine (atNil.recorderIs_any _ _ _).mono ?_; rintro e w' ⟨rfl, rfl⟩)
    | ((with_reducible refine wpList_build_to (ty := 51) (newV n o) ?_ ?_); (· kernel_rfl))
    | ((with_reducible refine wpList_store_last (ty := 51) (newV n o) ?_ ?_ ?_ ?_ ?_ ?_); (· rfl); (· rfl); (· kernel_rfl); (· rfl); (· simp [Value.oneCell'])))
  refine ret_cell (ty := 51) Try.results23 w.heap.size (newV n o) _ ?_ ?_ (Blk.new _ _ _) Try.underlying51 rfl (by kernel_rfl) ⟨rfl, (Below.refl _ _).alloc (Nat.le_refl _) _⟩
  · rfl
  · rfl

set_option maxHeartbeats 8000000 in
set_option maxRecDepth 20000 in
theorem specNewWorld (n : Int) (w : World) : Calls Try.prog 7 #[.int .i64 n] w (NewPost n w) := by
  cases hz : inB n 1 5
  · go_enter Try.func7, Try.ntmps7
    go_wp2_with (go_at_call 20; refine (l1In_any _ _ _ _).mono ?_; rintro e w' ⟨rfl, hw'⟩; subst w')
    refine bodyPost_ret (v := .agg #[.slice none 0 0, .slice none 0 0, .slice none 0 0]) (by simp [results, Try.results7, go_sem]) rfl ⟨ext_alloc (ext_alloc (Below.refl _ _) _) _, Or.inl ⟨hz, rfl⟩⟩
  have hz' := inB_iff.1 hz
  obtain ⟨N, hN⟩ : ∃ N : Nat, n = (N : Int) := ⟨n.toNat, by omega⟩
  have HN : Hid (n = (N : Int)) := hN
  have hN5 : N ≤ 5 := by omega
  have hN1 : 1 ≤ N := by omega
  have n1 : 1 ≤ n := by omega
  have n5 : n ≤ 5 := by omega
  clear hN hz'
  go_enter Try.func7, Try.ntmps7
  go_wp2_with (go_at_call 20; refine (l1In_any _ _ _ _).mono ?_; rintro e w' ⟨rfl, hw'⟩; subst w')
  go_loopw [4] (fun i wr => ∃ (k : Nat) (a : Option Addr) (cap : Nat), k ≤ N ∧ i = .int .i64 ((k : Int) + 1) ∧ ((a = none ∧ k = 0 ∧ cap = 0) ∨ ∃ g, a = some ⟨g, 0, none⟩) ∧ NewS w (.slice a k cap) wr ∧ wr.ownsRow (w.heap.size + 2) 51 18 (.slice a k cap) k (newC k n)) (fun i _ => 6 - (intOf i).toNat)
  case atStart => exact ⟨0, none, 0, by omega, rfl, Or.inl ⟨rfl, rfl, rfl⟩, ⟨Blk.new' _ _ (by simp), (Blk.new w _ _).alloc _, ext_alloc (ext_alloc (Below.refl _ _) _) _⟩, World.ownsRow_nil _ _ _ _⟩
  case round =>
    obtain ⟨k, a, cap, hk, rfl, hform, hNS, hown⟩ := hrel
    by_cases hlt : k < N
    · have hkn : inB ((k : Int) + 1) 1 n = true := inB_yes (by omega) (by have := HN.out; omega)
      have hlt' : (k : Int) + 1 ≤ n := by have := HN.out; omega
      have HS0 := hNS.drew
      clear hNS hform
      go_wp2_with fail
      refine wp_region_last (S := NewS w (.slice a k cap)) 8 (by kernel_rfl) HS0 (fun hHeld => ?_)
      simp only [List.size_toArray, List.length_cons, List.length_nil, Nat.reduceAdd, Array.replicate_succ, Array.replicate_zero, List.push_toArray, List.append_toArray, List.nil_append, List.cons_append]
      clear HS0
      refine wpLast_take (i := 0) (v := ?_) (at_lit rfl) (by kernel_rfl) (by kernel_rfl) (by kernel_rfl) (by kernel_rfl) (fun _ _ _ h => h) (Or.inl ⟨by rfl, ?_⟩) hHeld ?_
      rotate_left
      · (intro w9 hSw; have hq := hSw.blk.cell; clear hSw; go_simp; try with_reducible rfl)
      try simp only [Act.put, List.setIfInBounds_toArray, List.set_cons_zero, List.set_cons_succ]
      refine wpLast_take (i := 1) (v := ?_) (at_lit rfl) (by kernel_rfl) (by kernel_rfl) (by kernel_rfl) (by kernel_rfl) (fun _ _ _ h => h) (Or.inl ⟨by rfl, ?_⟩) hHeld ?_
      rotate_left
      · (intro w9 hSw; have hq := hSw.blk.cell; clear hSw; go_simp; try with_reducible rfl)
      try simp only [Act.put, List.setIfInBounds_toArray, List.set_cons_zero, List.set_cons_succ]
      refine wpLast_take (i := 2) (v := ?_) (at_lit rfl) (by kernel_rfl) (by kernel_rfl) (by kernel_rfl) (by kernel_rfl) (fun _ _ _ h => h) (Or.inl ⟨by rfl, ?_⟩) hHeld ?_
      rotate_left
      · (intro w9 hSw; have hq := hSw.blk.cell; clear hSw; go_simp; try with_reducible rfl)
      try simp only [Act.put, List.setIfInBounds_toArray, List.set_cons_zero, List.set_cons_succ]
      refine wpLast_take (i := 3) (v := ?_) (at_lit rfl) (by kernel_rfl) (by kernel_rfl) (by kernel_rfl) (by kernel_rfl) (fun _ _ _ h => h) (Or.inl ⟨by rfl, ?_⟩) hHeld ?_
      rotate_left
      · (intro w9 hSw; have hq := hSw.blk.cell; clear hSw; go_simp; try with_reducible rfl)
      try simp only [Act.put, List.setIfInBounds_toArray, List.set_cons_zero, List.set_cons_succ]
      refine wpLast_ready (rs := [4]) (by kernel_rfl) (by simp) ?_
      refine AllLast.cons (at_lit rfl) (fun K hK => ?_) AllLast.nil
      go_simp
      refine (specNewY _ _ _ hz hkn).mono ?_
      rintro e w5 ⟨rfl, hb5⟩
      go_wp2_with fail
      have ho5 := own_ext' hown.drew hb5
      refine hK.out _ _ (hHeld.ext hb5) (fun hNew => ?_)
      clear hK K hHeld hown
      have hHeld := hNew
      clear hNew
      try simp only [Act.put, List.setIfInBounds_toArray, List.set_cons_zero, List.set_cons_succ]
      refine wpLast_ready (rs := [5]) (by kernel_rfl) (by simp) ?_
      refine AllLast.cons (at_lit rfl) (fun K hK => ?_) AllLast.nil
      go_simp
      have E6 : Below w5.heap.size w5 (w5.alloc (.cells (newV ((k : Int) + 1) n) 51)) := ext_alloc (Below.refl _ _) _
      have ho6 := ho5.alloc (.cells (newV ((k : Int) + 1) n) 51)
      have nb : Blk (w5.alloc (.cells (newV ((k : Int) + 1) n) 51)) w5.heap.size (newV ((k : Int) + 1) n).toList.toArray 51 := Blk.new _ _ _
      refine hK.out _ _ (hHeld.ext E6) (fun hNew => ?_)
      clear hK K
      have hHeld6 := hNew
      clear hNew hHeld E6
      try simp only [Act.put, List.setIfInBounds_toArray, List.set_cons_zero, List.set_cons_succ]
      refine wpLast_ready (rs := [6]) (by kernel_rfl) (by simp) ?_
      refine AllLast.cons (at_lit rfl) (fun K hK => ?_) AllLast.nil
      obtain ⟨i0, q1, q2, q3, q4⟩ := recInfo
      rw [if_pos (by rfl)]
      have hsz6 := hHeld6.blk.lt
      refine wp_append_own_wide (P := Try.prog) _ _ _ 22 rfl (w.heap.size + 2) 51 i0 (.agg zeroRec) 18 248 Try.underlying22 q1 q2 q3 q4 rfl (by omega) (.slice a k cap) k (newC k n) rfl ho6 ⟨w5.heap.size, 0, none⟩ 1 1 (newV ((k : Int) + 1) n).toList rfl rfl (blk_news nb) (newV_one _ _) (by unfold maxLen; omega) (by omega) (by omega) ?_
      intro v' w7 ho7 hg7 hnil7
      refine hK.out _ _ (hHeld6.grown hg7 (fun j hj => (ho6.lt j hj).1)) (fun hNew => ?_)
      clear hK K hHeld6 q1 q2 q3 q4 nb ho5 ho6
      have hHeld := hNew
      clear hNew
      obtain ⟨g9, cap9, C9, rfl, hg9, _, _⟩ := own_formk ho7 (fun e => by have := (hnil7.1 e).2; omega)
      try simp only [Act.put, List.setIfInBounds_toArray, List.set_cons_zero, List.set_cons_succ]
      refine wpLast_take (i := 7) (v := ?_) (at_lit rfl) (by kernel_rfl) (by kernel_rfl) (by kernel_rfl) (by kernel_rfl) (fun _ _ _ h => h) (Or.inl ⟨by rfl, ?_⟩) hHeld ?_
      rotate_left
      · (intro w9 hSw; clear hSw; go_simp; try with_reducible rfl)
      try simp only [Act.put, List.setIfInBounds_toArray, List.set_cons_zero, List.set_cons_succ]
      refine wpLast_end (by kernel_rfl) (at_lit rfl) (by kernel_rfl) (fun K hK => ?_)
      have hq := hHeld.blk.cell
      have hfq := hHeld.blk.free
      go_simp
      refine hK.out _ _ ?_
      clear hK K hq hfq
      have hS2 : NewS w (.slice (some ⟨g9, 0, none⟩) (k + 1) cap9) (w7.setCell ⟨w.heap.size + 1, 0, none⟩ (.slice (some ⟨g9, 0, none⟩) (k + 1) cap9)) := hHeld.put
      have hgl := (ho7.lt g9 rfl).1
      have ho9 : (w7.setCell ⟨w.heap.size + 1, 0, none⟩ (.slice (some ⟨g9, 0, none⟩) (k + 1) cap9)).ownsRow (w.heap.size + 2) 51 18 (.slice (some ⟨g9, 0, none⟩) (k + 1) cap9) (k + 1) (newC (k + 1) n) := by
        rw [newC_succ]
        obtain ⟨e1, e2⟩ := ho7
        refine ⟨e1, e2.imp id ?_⟩
        rintro ⟨g0, c0, cur, e3, e4, e5, e6⟩
        simp only [Value.slice.injEq, Option.some.injEq, Addr.mk.injEq, and_true] at e3
        obtain ⟨rfl, _, rfl⟩ := e3
        exact ⟨g9, cap9, cur, rfl, e4, (heap_setCell_other _ _ _ _ (by simp; omega)).trans e5, e6⟩
      clear ho7 hg7 hHeld hnil7
      go_wp2
      go_roundw
      case rel => exact ⟨k + 1, some ⟨g9, 0, none⟩, cap9, by omega, by go_num, Or.inr ⟨g9, rfl⟩, hS2, ho9⟩
      case measure => simp [intOf]; omega
    · have hkN : k = N := by omega
      subst hkN
      have hgt : ¬ ((k : Int) + 1 ≤ n) := by have := HN.out; omega
      obtain ⟨g, rfl⟩ : ∃ g, a = some ⟨g, 0, none⟩ := by
        rcases hform with ⟨_, h0, _⟩ | h
        · omega
        · exact h
      have c1 := hNS.blk.cell
      have c2 := hNS.res.cell
      have f2 := hNS.res.free
      go_wp2
      have hgl := (hown.lt g rfl).1
      refine bodyPost_ret (v := .agg #[.slice (some ⟨g, 0, none⟩) k cap, .slice none 0 0, .slice none 0 0]) (by simp [results, Try.results7, go_sem, c1, c2]) rfl ⟨((hNS.bel.setCell (by simp) _).setCell (by simp) _).setCell (by simp) _, Or.inr ⟨hz, k, g, cap, HN.out, hN1, hN5, rfl, ?_⟩⟩
      obtain ⟨e1, e2⟩ := hown
      refine ⟨e1, e2.imp id ?_⟩
      rintro ⟨g0, c0, cur, e3, e4, e5, e6⟩
      simp only [Value.slice.injEq, Option.some.injEq, Addr.mk.injEq, and_true] at e3
      obtain ⟨rfl, _, rfl⟩ := e3
      exact ⟨g, cap, cur, rfl, by omega, (((heap_setCell_other _ _ _ _ (by simp; omega)).trans (heap_setCell_other _ _ _ _ (by simp; omega))).trans (heap_setCell_other _ _ _ _ (by simp; omega))).trans e5, e6⟩

set_option maxHeartbeats 8000000 in
set_option maxRecDepth 20000 in
theorem implNewWorld (n : Int) (w : World) : Calls Try.prog 8 #[.int .i64 n] w (NewPost n w) := by
  cases hz : inB n 1 5
  · go_enter Try.func8, Try.ntmps8
    go_wp2_with (go_at_call 22; refine (within_any _ _ _ _).mono ?_; rintro e w' ⟨rfl, hw'⟩; subst w')
    refine bodyPost_ret (v := .agg #[.slice none 0 0, .slice none 0 0, .slice none 0 0]) (by simp [results, Try.results8, go_sem]) rfl ⟨ext_alloc (ext_alloc (Below.refl _ _) _) _, Or.inl ⟨hz, rfl⟩⟩
  have hz' := inB_iff.1 hz
  obtain ⟨N, hN⟩ : ∃ N : Nat, n = (N : Int) := ⟨n.toNat, by omega⟩
  have HN : Hid (n = (N : Int)) := hN
  have hN5 : N ≤ 5 := by omega
  have hN1 : 1 ≤ N := by omega
  have n1 : 1 ≤ n := by omega
  have n5 : n ≤ 5 := by omega
  clear hN hz'
  go_enter Try.func8, Try.ntmps8
  go_wp2_with (go_at_call 22; refine (within_any _ _ _ _).mono ?_; rintro e w' ⟨rfl, hw'⟩; subst w')
  go_loopw [4] (fun i wr => ∃ (k : Nat) (a : Option Addr) (cap : Nat), k ≤ N ∧ i = .int .i64 ((k : Int) + 1) ∧ ((a = none ∧ k = 0 ∧ cap = 0) ∨ ∃ g, a = some ⟨g, 0, none⟩) ∧ NewS w (.slice a k cap) wr ∧ wr.ownsRow (w.heap.size + 2) 51 18 (.slice a k cap) k (newC k n)) (fun i _ => 6 - (intOf i).toNat)
  case atStart => exact ⟨0, none, 0, by omega, rfl, Or.inl ⟨rfl, rfl, rfl⟩, ⟨Blk.new' _ _ (by simp), (Blk.new w _ _).alloc _, ext_alloc (ext_alloc (Below.refl _ _) _) _⟩, World.ownsRow_nil _ _ _ _⟩
  case round =>
    obtain ⟨k, a, cap, hk, rfl, hform, hNS, hown⟩ := hrel
    by_cases hlt : k < N
    · have hkn : inB ((k : Int) + 1) 1 n = true := inB_yes (by omega) (by have := HN.out; omega)
      have hlt' : (k : Int) + 1 ≤ n := by have := HN.out; omega
      have HS0 := hNS.drew
      clear hNS hform
      go_wp2_with fail
      refine wp_region_last (S := NewS w (.slice a k cap)) 8 (by kernel_rfl) HS0 (fun hHeld => ?_)
      simp only [List.size_toArray, List.length_cons, List.length_nil, Nat.reduceAdd, Array.replicate_succ, Array.replicate_zero, List.push_toArray, List.append_toArray, List.nil_append, List.cons_append]
      clear HS0
      refine wpLast_take (i := 0) (v := ?_) (at_lit rfl) (by kernel_rfl) (by kernel_rfl) (by kernel_rfl) (by kernel_rfl) (fun _ _ _ h => h) (Or.inl ⟨by rfl, ?_⟩) hHeld ?_
      rotate_left
      · (intro w9 hSw; have hq := hSw.blk.cell; clear hSw; go_simp; try with_reducible rfl)
      try simp only [Act.put, List.setIfInBounds_toArray, List.set_cons_zero, List.set_cons_succ]
      refine wpLast_take (i := 1) (v := ?_) (at_lit rfl) (by kernel_rfl) (by kernel_rfl) (by kernel_rfl) (by kernel_rfl) (fun _ _ _ h => h) (Or.inl ⟨by rfl, ?_⟩) hHeld ?_
      rotate_left
      · (intro w9 hSw; have hq := hSw.blk.cell; clear hSw; go_simp; try with_reducible rfl)
      try simp only [Act.put, List.setIfInBounds_toArray, List.set_cons_zero, List.set_cons_succ]
      refine wpLast_take (i := 2) (v := ?_) (at_lit rfl) (by kernel_rfl) (by kernel_rfl) (by kernel_rfl) (by kernel_rfl) (fun _ _ _ h => h) (Or.inl ⟨by rfl, ?_⟩) hHeld ?_
      rotate_left
      · (intro w9 hSw; have hq := hSw.blk.cell; clear hSw; go_simp; try with_reducible rfl)
      try simp only [Act.put, List.setIfInBounds_toArray, List.set_cons_zero, List.set_cons_succ]
      refine wpLast_take (i := 3) (v := ?_) (at_lit rfl) (by kernel_rfl) (by kernel_rfl) (by kernel_rfl) (by kernel_rfl) (fun _ _ _ h => h) (Or.inl ⟨by rfl, ?_⟩) hHeld ?_
      rotate_left
      · (intro w9 hSw; have hq := hSw.blk.cell; clear hSw; go_simp; try with_reducible rfl)
      try simp only [Act.put, List.setIfInBounds_toArray, List.set_cons_zero, List.set_cons_succ]
      refine wpLast_ready (rs := [4]) (by kernel_rfl) (by simp) ?_
      refine AllLast.cons (at_lit rfl) (fun K hK => ?_) AllLast.nil
      go_simp
      refine (implNewY _ _ _ hz hkn).mono ?_
      rintro e w5 ⟨rfl, hb5⟩
      go_wp2_with fail
      have ho5 := own_ext' hown.drew hb5
      refine hK.out _ _ (hHeld.ext hb5) (fun hNew => ?_)
      clear hK K hHeld hown
      have hHeld := hNew
      clear hNew
      try simp only [Act.put, List.setIfInBounds_toArray, List.set_cons_zero, List.set_cons_succ]
      refine wpLast_ready (rs := [5]) (by kernel_rfl) (by simp) ?_
      refine AllLast.cons (at_lit rfl) (fun K hK => ?_) AllLast.nil
      go_simp
      have E6 : Below w5.heap.size w5 (w5.alloc (.cells (newV ((k : Int) + 1) n) 51)) := ext_alloc (Below.refl _ _) _
      have ho6 := ho5.alloc (.cells (newV ((k : Int) + 1) n) 51)
      have nb : Blk (w5.alloc (.cells (newV ((k : Int) + 1) n) 51)) w5.heap.size (newV ((k : Int) + 1) n).toList.toArray 51 := Blk.new _ _ _
      refine hK.out _ _ (hHeld.ext E6) (fun hNew => ?_)
      clear hK K
      have hHeld6 := hNew
      clear hNew hHeld E6
      try simp only [Act.put, List.setIfInBounds_toArray, List.set_cons_zero, List.set_cons_succ]
      refine wpLast_ready (rs := [6]) (by kernel_rfl) (by simp) ?_
      refine AllLast.cons (at_lit rfl) (fun K hK => ?_) AllLast.nil
      obtain ⟨i0, q1, q2, q3, q4⟩ := recInfo
      rw [if_pos (by rfl)]
      have hsz6 := hHeld6.blk.lt
      refine wp_append_own_wide (P := Try.prog) _ _ _ 22 rfl (w.heap.size + 2) 51 i0 (.agg zeroRec) 18 248 Try.underlying22 q1 q2 q3 q4 rfl (by omega) (.slice a k cap) k (newC k n) rfl ho6 ⟨w5.heap.size, 0, none⟩ 1 1 (newV ((k : Int) + 1) n).toList rfl rfl (blk_news nb) (newV_one _ _) (by unfold maxLen; omega) (by omega) (by omega) ?_
      intro v' w7 ho7 hg7 hnil7
      refine hK.out _ _ (hHeld6.grown hg7 (fun j hj => (ho6.lt j hj).1)) (fun hNew => ?_)
      clear hK K hHeld6 q1 q2 q3 q4 nb ho5 ho6
      have hHeld := hNew
      clear hNew
      obtain ⟨g9, cap9, C9, rfl, hg9, _, _⟩ := own_formk ho7 (fun e => by have := (hnil7.1 e).2; omega)
      try simp only [Act.put, List.setIfInBounds_toArray, List.set_cons_zero, List.set_cons_succ]
      refine wpLast_take (i := 7) (v := ?_) (at_lit rfl) (by kernel_rfl) (by kernel_rfl) (by kernel_rfl) (by kernel_rfl) (fun _ _ _ h => h) (Or.inl ⟨by rfl, ?_⟩) hHeld ?_
      rotate_left
      · (intro w9 hSw; clear hSw; go_simp; try with_reducible rfl)
      try simp only [Act.put, List.setIfInBounds_toArray, List.set_cons_zero, List.set_cons_succ]
      refine wpLast_end (by kernel_rfl) (at_lit rfl) (by kernel_rfl) (fun K hK => ?_)
      have hq := hHeld.blk.cell
      have hfq := hHeld.blk.free
      go_simp
      refine hK.out _ _ ?_
      clear hK K hq hfq
      have hS2 : NewS w (.slice (some ⟨g9, 0, none⟩) (k + 1) cap9) (w7.setCell ⟨w.heap.size + 1, 0, none⟩ (.slice (some ⟨g9, 0, none⟩) (k + 1) cap9)) := hHeld.put
      have hgl := (ho7.lt g9 rfl).1
      have ho9 : (w7.setCell ⟨w.heap.size + 1, 0, none⟩ (.slice (some ⟨g9, 0, none⟩) (k + 1) cap9)).ownsRow (w.heap.size + 2) 51 18 (.slice (some ⟨g9, 0, none⟩) (k + 1) cap9) (k + 1) (newC (k + 1) n) := by
        rw [newC_succ]
        obtain ⟨e1, e2⟩ := ho7
        refine ⟨e1, e2.imp id ?_⟩
        rintro ⟨g0, c0, cur, e3, e4, e5, e6⟩
        simp only [Value.slice.injEq, Option.some.injEq, Addr.mk.injEq, and_true] at e3
        obtain ⟨rfl, _, rfl⟩ := e3
        exact ⟨g9, cap9, cur, rfl, e4, (heap_setCell_other _ _ _ _ (by simp; omega)).trans e5, e6⟩
      clear ho7 hg7 hHeld hnil7
      go_wp2
      go_roundw
      case rel => exact ⟨k + 1, some ⟨g9, 0, none⟩, cap9, by omega, by go_num, Or.inr ⟨g9, rfl⟩, hS2, ho9⟩
      case measure => simp [intOf]; omega
    · have hkN : k = N := by omega
      subst hkN
      have hgt : ¬ ((k : Int) + 1 ≤ n) := by have := HN.out; omega
      obtain ⟨g, rfl⟩ : ∃ g, a = some ⟨g, 0, none⟩ := by
        rcases hform with ⟨_, h0, _⟩ | h
        · omega
        · exact h
      have c1 := hNS.blk.cell
      have c2 := hNS.res.cell
      have f2 := hNS.res.free
      go_wp2
      have hgl := (hown.lt g rfl).1
      refine bodyPost_ret (v := .agg #[.slice (some ⟨g, 0, none⟩) k cap, .slice none 0 0, .slice none 0 0]) (by simp [results, Try.results8, go_sem, c1, c2]) rfl ⟨((hNS.bel.setCell (by simp) _).setCell (by simp) _).setCell (by simp) _, Or.inr ⟨hz, k, g, cap, HN.out, hN1, hN5, rfl, ?_⟩⟩
      obtain ⟨e1, e2⟩ := hown
      refine ⟨e1, e2.imp id ?_⟩
      rintro ⟨g0, c0, cur, e3, e4, e5, e6⟩
      simp only [Value.slice.injEq, Option.some.injEq, Addr.mk.injEq, and_true] at e3
      obtain ⟨rfl, _, rfl⟩ := e3
      exact ⟨g, cap, cur, rfl, by omega, (((heap_setCell_other _ _ _ _ (by simp; omega)).trans (heap_setCell_other _ _ _ _ (by simp; omega))).trans (heap_setCell_other _ _ _ _ (by simp; omega))).trans e5, e6⟩
end Go.Proofs.Ytgjommccflfjaaa
