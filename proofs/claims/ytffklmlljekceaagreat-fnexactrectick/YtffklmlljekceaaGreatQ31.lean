import Derived.Test.YtffklmlljekceaaGreatQ15
import Derived.Lib.AppendZerosOnto
import Derived.Lib.Overlaps
import Derived.Laws.Externs
import Derived.Shelf.RegionOpenPlain
namespace Go.Proofs.YtffklmlljekceaaGreat
open Go.ChangeShapes Go.WideShapes Go.ChangeAt Go.RowKit Go.Shelf Go.Lib
set_option linter.unusedSimpArgs false
set_option linter.unusedVariables false
set_option maxHeartbeats 8000000
set_option maxRecDepth 100000
def putL (L : List Value) (o : Nat) (cs : List Value) : List Value := L.take o ++ cs ++ L.drop (o + cs.length)
theorem putL_len {L : List Value} {o : Nat} {cs : List Value} (h : o + cs.length ≤ L.length) : (putL L o cs).length = L.length := by
 simp only [putL, List.length_append, List.length_take, List.length_drop]; omega
theorem putL_at {L : List Value} {o : Nat} {cs : List Value} (h : o + cs.length ≤ L.length) (j : Nat) : (putL L o cs)[j]? = if j < o then L[j]? else if j < o + cs.length then cs[j - o]? else L[j]? := by
 unfold putL
 have hl : (L.take o).length = o := by rw [List.length_take]; omega
 by_cases h1 : j < o
 ·rw [if_pos h1, List.append_assoc, List.getElem?_append_left (by omega), List.getElem?_take_of_lt h1]
 rw [if_neg h1, List.append_assoc, List.getElem?_append_right (by omega), hl]
 by_cases h2 : j < o + cs.length
 ·rw [if_pos h2, List.getElem?_append_left (by omega)]
 rw [if_neg h2, List.getElem?_append_right (by omega), List.getElem?_drop]
 congr 1
 omega
theorem run_copy_wide (w : World) (t e ty : TypeId) (i : TypeInfo) (size : Nat) (ht : Tryz.prog.underlying t = some (.slice e)) (hi : Tryz.prog.info? e = some i) (hz : i.size = size) (g o dLen dCap : Nat) (a : Addr) (sLen sCap : Nat) (cur : Array Value) (te : TypeId) (cs : List Value) (m : Nat)
  (hg : w.heap[g]? = some (.cells cur te (0, 0))) (hm : m = Nat.min sLen dLen) (hl : cs.length = m * size)
  (hsrc : ∀ j v, cs[j]? = some v → w.cell? (a.add j) = some v) (hfit : o + cs.length ≤ cur.size) (h1 : ∀ u ∈ cs, u.oneCell' = true) :
  (Builtin.copy_ #[t, t] ty #[.slice (some ⟨g, o, none⟩) dLen dCap, .slice (some a) sLen sCap]).run Tryz.prog w = .ok (goInt m) (w.setRow g (putL cur.toList o cs).toArray) := by
 have hld := run_loadCells_list (P := Tryz.prog) w a cs hsrc
 have hst := run_storeCells_at Tryz.prog g o te cs 0 cur w hg (by simpa using hfit) h1
 simp [Builtin.copy_, run_underlying ht, Builtin.lenOf, Builtin.firstCells, sizeOf, typeInfo, hi, hz, ← hm, ← hl, hld, hst, putL]
theorem wp_copy_run (w : World) {o : Oper} {a : Act} {K : Act → World → Prop} {Q : Exit → Act → World → Prop} (d s : Operand) (t : TypeId)
  (ho : o.op = .call { callee := .builtin .copy, args := #[d, s], argTypes := #[t, t] }) (v u : Value) (hd : a.eval d = v) (hs : a.eval s = u) {v' : Value} {w' : World}
  (hr : (Builtin.copy_ #[t, t] o.type #[v, u]).run Tryz.prog w = .ok v' w') (h : K (a.put o.dst v') w') : o.wp Tryz.prog a w K Q := by
 unfold Oper.wp execOp
 simp only [ho, resolve, invoke, builtin, Sem.run_bind, Sem.run_pure, Result.andThen_ok, List.map_toArray, List.map_cons, List.map_nil, hd, hs, hr]
 exact h
theorem wpList_copy_run (w : World) {ops : Array Oper} {rest : List Oper} {o : Oper} {a : Act} {Q : Exit → Act → World → Prop} (hgd : o.guard = none) (d s : Operand) (t : TypeId)
  (ho : o.op = .call { callee := .builtin .copy, args := #[d, s], argTypes := #[t, t] }) (v u : Value) (hd : a.eval d = v) (hs : a.eval s = u) {v' : Value} {w' : World}
  (hr : (Builtin.copy_ #[t, t] o.type #[v, u]).run Tryz.prog w = .ok v' w') (h : wpList Tryz.prog ops Q rest (a.put o.dst v') w') : wpList Tryz.prog ops Q (o :: rest) a w :=
 wpList_plain hgd fun _ hK => wp_copy_run w d s t ho v u hd hs hr (hK _ _ h)
theorem step_copy_run {ops : Array Oper} {o : Oper} {a : Act} {w : World} {K : Act → World → Prop} {Q : Exit → Act → World → Prop} {E : Prop}
  (hg : o.guard = none) (d x : Operand) (t : TypeId) (hop : o.op = Op.call { callee := Callee.builtin Builtin.copy, args := #[d, x], argTypes := #[t, t] })
  (v u : Value) (hd : a.eval d = v) (hx : a.eval x = u) {v' : Value} {w' : World} (hr : (Builtin.copy_ #[t, t] o.type #[v, u]).run Tryz.prog w = .ok v' w') (hK : K (a.put o.dst v') w') :
  if Region.wanted o (yielded ops a.tmps) = true then Oper.wp Tryz.prog o a w K Q else E := by
 have hw : Region.wanted o (yielded ops a.tmps) = true := by simp [Region.wanted, hg]
 rw [if_pos hw]
 exact wp_copy_run w d x t hop v u hd hx hr hK
theorem mixed0 : Tryz.prog.follows .mixedOrders = true := by kernel_rfl
theorem infoI : ∃ i, Tryz.prog.info? 3 = some i ∧ i.zero = some (Value.int .i64 0) ∧ i.size = 1 ∧ i.bytes = 8 := info_parts (by kernel_rfl)
theorem sizeI (w : World) : (Go.sizeOf 3).run Tryz.prog w = .ok 1 w := by kernel_rfl
theorem cpyI (w : World) (ty : TypeId) (g o dLen dCap : Nat) (a : Addr) (sLen sCap : Nat) (cur : Array Value) (te : TypeId) (cs : List Value) (m : Nat)
  (hg : Blk w g cur te) (hm : m = Nat.min sLen dLen) (hl : cs.length = m * 1)
  (hsrc : ∀ j v, cs[j]? = some v → w.cell? (a.add j) = some v) (hfit : o + cs.length ≤ cur.size) (h1 : ∀ u ∈ cs, u.oneCell' = true) :
  (Builtin.copy_ #[27, 27] ty #[.slice (some ⟨g, o, none⟩) dLen dCap, .slice (some a) sLen sCap]).run Tryz.prog w = .ok (goInt m) (w.setRow g (putL cur.toList o cs).toArray) := by
 obtain ⟨i, q1, q2, q3, q4⟩ := infoI
 exact run_copy_wide w 27 3 ty i 1 Tryz.underlying27 q1 q3 g o dLen dCap a sLen sCap cur te cs m hg hm hl hsrc hfit h1
theorem insI_room (g n c0 i vb : Nat) (cur : Array Value) (vs : List Value) (w : World) (hC : Blk w g cur 3) (hcs : cur.size = c0 * 1) (hi : i < n) (hn : n ≤ 1000) (hc : n + 1 ≤ c0) (hc0 : c0 ≤ maxLen) (hv : Blk w vb vs.toArray 3) (hvl : vs.length = 1) (hne : vb ≠ g)
  (h1v : ∀ u ∈ vs, u.oneCell' = true) (h1x : ∀ u ∈ (cur.toList.take (n)).drop (i), u.oneCell' = true) :
  Calls Tryz.prog 160 #[.slice (some ⟨g, 0, none⟩) n c0, .int .i64 (i : Int), .slice (some ⟨vb, 0, none⟩) 1 1] w fun e w' => e = .returned (.slice (some ⟨g, 0, none⟩) (n + 1) c0) ∧ Blk w' g (putL (putL cur.toList (i + 1) ((cur.toList.take (n)).drop (i))) (i) vs).toArray 3 ∧ w.grownBy w' (some g) := by
 unfold maxLen at hc0
 have hdl : ((cur.toList.take (n)).drop (i)).length = (n - i) * 1 := by simp only [List.length_drop, List.length_take, Array.length_toList, hcs]; omega
 have hov : ∀ lb cb, (callFunc 171 #[.slice (some ⟨vb, 0, none⟩) 1 1, .slice (some ⟨g, i + 1, none⟩) lb cb]).run Tryz.prog w = .ok (.value (.bool false)) w := fun lb cb => by
  rw [run_callFunc_extern Tryz.func171 (by kernel_rfl) (by kernel_rfl) (by kernel_rfl) (e := Extern.SlicesOverlaps.overlaps #[27, 27] #[4]) (by kernel_rfl),
   Lib.run_overlaps_apart w 27 4 3 Tryz.underlying27 1 sizeI ⟨vb, 0, none⟩ ⟨g, i + 1, none⟩ 1 1 lb cb hne 3 3 vs.toArray.size cur.size (by simp [World.shape?, hv]) (by simp [World.shape?, hC]) (by omega) (hv.free _) (hv.free _)]
  rfl
 have hcp1 : ∀ ty dc sc, (Builtin.copy_ #[27, 27] ty #[.slice (some ⟨g, i + 1, none⟩) (n - i) dc, .slice (some ⟨g, i, none⟩) (n + 1 - i) sc]).run Tryz.prog w.drew = .ok (goInt ((n - i : Nat) : Int)) (w.drew.setRow g (putL cur.toList (i + 1) ((cur.toList.take (n)).drop (i))).toArray) := fun ty dc sc =>
  cpyI w.drew ty g (i + 1) (n - i) dc ⟨g, i, none⟩ (n + 1 - i) sc cur 3 _ (n - i) hC (by simp only [Nat.min_def]; split <;> omega) hdl
   (fun j v hj => by
    rw [Addr.add_mid]
    have hj' : j < (n - i) * 1 := by have := (List.getElem?_eq_some_iff.1 hj).1; omega
    rw [List.getElem?_drop, List.getElem?_take_of_lt (by omega)] at hj
    rw [show (w.drew.cell? ⟨g, i + j, none⟩) = w.cell? ⟨g, i + j, none⟩ from rfl, hC.cell, ← Array.getElem?_toList]
    exact hj) (by rw [hdl, hcs]; omega) h1x
 obtain ⟨W1, hW1⟩ : ∃ W1, W1 = w.drew.setRow g (putL cur.toList (i + 1) ((cur.toList.take (n)).drop (i))).toArray := ⟨_, rfl⟩
 have hC1 : Blk W1 g (putL cur.toList (i + 1) ((cur.toList.take (n)).drop (i))).toArray 3 := by rw [hW1]; exact setRow_heap w.drew g cur _ 3 _ hC
 have hv1 : Blk W1 vb vs.toArray 3 := by rw [hW1]; exact (setRow_other w.drew g vb _ hne).trans hv
 have hs1 : (putL cur.toList (i + 1) ((cur.toList.take (n)).drop (i))).length = c0 * 1 := by rw [putL_len (by rw [hdl, Array.length_toList, hcs]; omega), Array.length_toList, hcs]
 have hcp2 : ∀ ty dc, (Builtin.copy_ #[27, 27] ty #[.slice (some ⟨g, i, none⟩) (n + 1 - i) dc, .slice (some ⟨vb, 0, none⟩) 1 1]).run Tryz.prog W1 = .ok (goInt 1) (W1.setRow g (putL (putL cur.toList (i + 1) ((cur.toList.take (n)).drop (i))) (i) vs).toArray) := fun ty dc => by
  have := cpyI W1 ty g (i) (n + 1 - i) dc ⟨vb, 0, none⟩ 1 1 _ 3 vs 1 hC1 (by simp only [Nat.min_def]; split <;> omega) (by rw [hvl]) (fun j v hj => by rw [Addr.add_mid, hv1.cell, Nat.zero_add]; simpa using hj) (by rw [List.size_toArray, hs1, hvl]; omega) h1v
  simpa using this
 rw [← hW1] at hcp1
 have hz1 : ¬ ((i : Int) = (n : Int)) := by omega
 have hw1 : IntKind.i64.wrap ((i : Int) + 1) = (i : Int) + 1 := by rw [IntKind.wrap_i64]; omega
 have hw2 : IntKind.i64.wrap ((n : Int) + 1) = (n : Int) + 1 := by rw [IntKind.wrap_i64]; omega
 have hin : i ≤ n := by omega
 have mixed := mixed0
 have hb1 : (0 : Int) ≤ (i : Int) + 1 := by omega
 have hb0 : (0 : Int) ≤ (i : Int) := by omega
 have htn : ((i : Int) + 1).toNat = i + 1 := by omega
 have hb2 : ¬ (c0 = i + 1) := by omega
 have hb3 : (i : Int) ≤ (n : Int) + 1 := by omega
 have hb4 : ¬ (c0 = i) := by omega
 have hgr : w.grownBy (W1.setRow g (putL (putL cur.toList (i + 1) ((cur.toList.take (n)).drop (i))) (i) vs).toArray) (some g) := by
  refine ⟨by rw [hW1]; rfl, by rw [hW1]; rfl, by rw [hW1]; rfl, by rw [hW1]; simp, fun b hb hbn => ?_⟩
  have hbg : b ≠ g := fun h => hbn (by rw [h])
  rw [setRow_other _ g b _ hbg, hW1, setRow_other _ g b _ hbg]
  rfl
 have hfin : Blk (W1.setRow g (putL (putL cur.toList (i + 1) ((cur.toList.take (n)).drop (i))) (i) vs).toArray) g (putL (putL cur.toList (i + 1) ((cur.toList.take (n)).drop (i))) (i) vs).toArray 3 := setRow_heap W1 g _ _ 3 _ hC1
 have HG := hid hgr
 have HF := hid hfin
 clear hgr hfin hC1 hv1 hs1 hC hv
 go_enter Tryz.func160, Tryz.ntmps160
 clear hW1
 go_wp2_with (simp only [hov])
 go_region_law_o (refine step_copy_run rfl _ _ 27 rfl _ _ (by simp [Act.eval, Act.put]) (by simp [Act.eval, Act.put]) (hcp1 _ _ _) ?_)
 go_wp2_with (at_builtin; refine wpList_copy_run _ rfl _ _ 27 rfl _ _ rfl rfl (hcp2 _ _) ?_)
 go_ret
 exact ⟨rfl, HF.out, HG.out⟩
theorem insI_grow (g n i vb : Nat) (cur : Array Value) (vs : List Value) (w : World) (hC : Blk w g cur 3) (hcs : cur.size = n * 1) (hi : i < n) (hn : n ≤ 1000) (hv : Blk w vb vs.toArray 3) (hvl : vs.length = 1)
  (h1v : ∀ u ∈ vs, u.oneCell' = true) (h1x : ∀ u ∈ cur.toList, u.oneCell' = true) :
  Calls Tryz.prog 160 #[.slice (some ⟨g, 0, none⟩) n n, .int .i64 (i : Int), .slice (some ⟨vb, 0, none⟩) 1 1] w fun e w' => ∃ G L, e = .returned (.slice (some ⟨w.heap.size, 0, none⟩) (n + 1) G) ∧ n + 1 ≤ G ∧ G ≤ maxLen ∧ L.length = G * 1 ∧ L.take (i * 1) = cur.toList.take (i * 1) ∧ Blk w' w.heap.size (putL (putL L (i) vs) (i + 1) (cur.toList.drop (i))).toArray 3 ∧ Below w.heap.size w w' := by
 obtain ⟨i0, q1, q2, q3, q4⟩ := infoI
 have hgl := hC.lt
 have hvl' := hv.lt
 have hol : (cur.toList.take (i)).length = i * 1 := by rw [List.length_take, Array.length_toList, hcs]; omega
 have hold : (Builtin.firstCells i0.size i (.slice (some ⟨g, 0, none⟩) i n)).run Tryz.prog w.drew = .ok (cur.toList.take (i)).toArray w.drew := by
  rw [q3]
  exact run_firstCells_some (P := Tryz.prog) w.drew 1 i ⟨g, 0, none⟩ i n (cur.toList.take (i)) hol (fun j u hu => by
   have hj : j < i * 1 := by have := (List.getElem?_eq_some_iff.1 hu).1; omega
   rw [List.getElem?_take_of_lt (by omega)] at hu
   rw [Addr.add_mid, Nat.zero_add, show w.drew.cell? ⟨g, j, none⟩ = w.cell? ⟨g, j, none⟩ from rfl, hC.cell, ← Array.getElem?_toList]
   exact hu)
 have hrz : ∀ ty, (Builtin.append_ #[27, 3] ty #[.slice (some ⟨g, 0, none⟩) i n, .int .i64 ((n : Int) + 1 - (i : Int))]).run Tryz.prog w =
   .ok (.slice (some ⟨w.heap.size, 0, none⟩) (n + 1) (grownCap w (n + 1) n 3)) (w.drew.alloc (.cells ((cur.toList.take (i)).toArray ++ Builtin.zeroCells (Value.int .i64 0).cells (n + 1 - i) ++ Builtin.zeroCells (Value.int .i64 0).cells (grownCap w (n + 1) n 3 - (n + 1))) 3)) := fun ty => by
  have h := Lib.run_append_grow_zeros w 27 3 ty 3 i0 (Value.int .i64 0) .i64 .i64 Tryz.underlying27 Tryz.underlying3 q1 q2 (some ⟨g, 0, none⟩) i n (cur.toList.take (i)) hold (n + 1 - i) (by omega) (by omega) (by omega) (by omega) (by rw [q4]; omega) (by rw [q4, show i + (n + 1 - i) = n + 1 by omega]; exact growslice_fits (by omega) (by omega))
  rw [show i + (n + 1 - i) = n + 1 by omega] at h
  rw [show ((n : Int) + 1 - (i : Int)) = ((n + 1 - i : Nat) : Int) by omega]
  exact h
 obtain ⟨G, hG⟩ : ∃ G, G = grownCap w (n + 1) n 3 := ⟨_, rfl⟩
 have hGn : n + 1 ≤ G := by rw [hG]; exact grownCap_ge w _ _ _
 have hGm : G ≤ maxLen := by rw [hG]; exact grownCap_le_maxLen w _ _ _ (by unfold maxLen; omega)
 rw [← hG] at hrz
 obtain ⟨L, hL⟩ : ∃ L, L = ((cur.toList.take (i)).toArray ++ Builtin.zeroCells (Value.int .i64 0).cells (n + 1 - i) ++ Builtin.zeroCells (Value.int .i64 0).cells (G - (n + 1))).toList := ⟨_, rfl⟩
 have hzc : (Value.int .i64 0 : Value).cells.size = 1 := by rfl
 have hLl : L.length = G * 1 := by
  rw [hL]
  simp only [Array.length_toList, Array.size_append, List.size_toArray, size_zeroCells, hzc, hol]
  omega
 have hLt : L.take (i * 1) = cur.toList.take (i * 1) := by
  rw [hL]
  simp only [Array.toList_append, List.append_assoc]
  have e9 := List.take_left (l₁ := cur.toList.take (i)) (l₂ := (Builtin.zeroCells (Value.int .i64 0).cells (n + 1 - i)).toList ++ (Builtin.zeroCells (Value.int .i64 0).cells (G - (n + 1))).toList)
  rw [hol] at e9
  rw [Nat.mul_one] at e9 ⊢
  exact e9
 have hLa : ((cur.toList.take (i)).toArray ++ Builtin.zeroCells (Value.int .i64 0).cells (n + 1 - i) ++ Builtin.zeroCells (Value.int .i64 0).cells (G - (n + 1))) = L.toArray := by rw [hL]
 rw [hLa] at hrz
 clear hLa hL hG hold
 obtain ⟨W0, hW0⟩ : ∃ W0, W0 = w.drew.alloc (.cells L.toArray 3) := ⟨_, rfl⟩
 have hN0 : Blk W0 w.heap.size L.toArray 3 := by rw [hW0]; exact heap_alloc_new w.drew _
 have hg0 : Blk W0 g cur 3 := by rw [hW0]; exact Blk.alloc (w := w.drew) hC _
 have hv0 : Blk W0 vb vs.toArray 3 := by rw [hW0]; exact Blk.alloc (w := w.drew) hv _
 have hb0 : Below w.heap.size w W0 := by rw [hW0]; exact (Below.refl _ _).drew.alloc (Nat.le_refl _) _
 rw [← hW0] at hrz
 clear hW0
 have hcpA : ∀ ty dc, (Builtin.copy_ #[27, 27] ty #[.slice (some ⟨w.heap.size, i, none⟩) (n + 1 - i) dc, .slice (some ⟨vb, 0, none⟩) 1 1]).run Tryz.prog W0 = .ok (goInt 1) (W0.setRow w.heap.size (putL L (i) vs).toArray) := fun ty dc => by
  have := cpyI W0 ty w.heap.size (i) (n + 1 - i) dc ⟨vb, 0, none⟩ 1 1 _ 3 vs 1 hN0 (by simp only [Nat.min_def]; split <;> omega) (by rw [hvl]) (fun j v hj => by rw [Addr.add_mid, hv0.cell, Nat.zero_add]; simpa using hj) (by rw [List.size_toArray, hLl, hvl]; omega) h1v
  simpa using this
 obtain ⟨W1, hW1⟩ : ∃ W1, W1 = W0.setRow w.heap.size (putL L (i) vs).toArray := ⟨_, rfl⟩
 have hN1 : Blk W1 w.heap.size (putL L (i) vs).toArray 3 := by rw [hW1]; exact setRow_heap W0 w.heap.size _ _ 3 _ hN0
 have hg1 : Blk W1 g cur 3 := by rw [hW1]; exact (setRow_other W0 w.heap.size g _ (by omega)).trans hg0
 have hb1 : Below w.heap.size w W1 := by rw [hW1]; exact ⟨hb0.os, hb0.tape, hb0.output, by simpa using hb0.size, fun b hb => (setRow_other W0 w.heap.size b _ (by omega)).trans (hb0.block b hb)⟩
 have hs1 : (putL L (i) vs).length = G * 1 := by rw [putL_len (by rw [hLl, hvl]; omega), hLl]
 rw [← hW1] at hcpA
 clear hW1 hN0 hg0 hv0 hb0
 have hdl : (cur.toList.drop (i)).length = (n - i) * 1 := by rw [List.length_drop, Array.length_toList, hcs]; omega
 have hcpB : ∀ ty dc sc, (Builtin.copy_ #[27, 27] ty #[.slice (some ⟨w.heap.size, i + 1, none⟩) (n - i) dc, .slice (some ⟨g, i, none⟩) (n - i) sc]).run Tryz.prog W1.drew = .ok (goInt ((n - i : Nat) : Int)) (W1.drew.setRow w.heap.size (putL (putL L (i) vs) (i + 1) (cur.toList.drop (i))).toArray) := fun ty dc sc => by
  have := cpyI W1.drew ty w.heap.size (i + 1) (n - i) dc ⟨g, i, none⟩ (n - i) sc _ 3 (cur.toList.drop (i)) (n - i) hN1 (by simp only [Nat.min_def]; split <;> omega) hdl
   (fun j v hj => by
    rw [List.getElem?_drop] at hj
    rw [Addr.add_mid, show W1.drew.cell? ⟨g, i + j, none⟩ = W1.cell? ⟨g, i + j, none⟩ from rfl, hg1.cell, ← Array.getElem?_toList]
    exact hj) (by rw [List.size_toArray, hs1, hdl]; omega) (fun u hu => h1x u (List.mem_of_mem_drop hu))
  simpa using this
 obtain ⟨W2, hW2⟩ : ∃ W2, W2 = W1.drew.setRow w.heap.size (putL (putL L (i) vs) (i + 1) (cur.toList.drop (i))).toArray := ⟨_, rfl⟩
 have hN2 : Blk W2 w.heap.size (putL (putL L (i) vs) (i + 1) (cur.toList.drop (i))).toArray 3 := by rw [hW2]; exact setRow_heap W1.drew w.heap.size _ _ 3 _ hN1
 have hb2 : Below w.heap.size w W2 := by rw [hW2]; exact ⟨hb1.os, hb1.tape, hb1.output, by simpa using hb1.size, fun b hb => (setRow_other W1.drew w.heap.size b _ (by omega)).trans (hb1.block b hb)⟩
 rw [← hW2] at hcpB
 have HP : Hid (∃ L', n + 1 ≤ G ∧ G ≤ maxLen ∧ L'.length = G * 1 ∧ L'.take (i * 1) = cur.toList.take (i * 1) ∧ Blk W2 w.heap.size (putL (putL L' (i) vs) (i + 1) (cur.toList.drop (i))).toArray 3 ∧ Below w.heap.size w W2) := ⟨L, hGn, hGm, hLl, hLt, hN2, hb2⟩
 clear hW2 hN2 hb2 hN1 hg1 hb1 hs1 hdl hLl hLt hC hv h1v h1x hol
 unfold maxLen at hGm
 have hz1 : ¬ ((i : Int) = (n : Int)) := by omega
 have hw1 : IntKind.i64.wrap ((i : Int) + 1) = (i : Int) + 1 := by rw [IntKind.wrap_i64]; omega
 have hw2 : IntKind.i64.wrap ((n : Int) + 1) = (n : Int) + 1 := by rw [IntKind.wrap_i64]; omega
 have hin : i ≤ n := by omega
 have mixed := mixed0
 have hc1 : (0 : Int) ≤ (i : Int) + 1 := by omega
 have hc2 : (0 : Int) ≤ (i : Int) := by omega
 have htn : ((i : Int) + 1).toNat = i + 1 := by omega
 have hGi : ¬ (G = i) := by omega
 have hGim : ¬ (G = i + 1) := by omega
 have hci : ¬ (n = i) := by omega
 have hb3 : (i : Int) ≤ (n : Int) := by omega
 go_enter Tryz.func160, Tryz.ntmps160
 go_wp2_with (first
  | (at_builtin; refine Lib.wpList_append_run _ rfl _ _ _ _ rfl _ _ rfl rfl _ _ (hrz _) ?_)
  | (at_builtin; refine wpList_copy_run _ rfl _ _ 27 rfl _ _ rfl rfl (hcpA _ _) ?_))
 go_region_law_o (refine step_copy_run rfl _ _ 27 rfl _ _ (by simp [Act.eval, Act.put]) (by simp [Act.eval, Act.put]) (hcpB _ _ _) ?_)
 go_wp2
 go_ret
 obtain ⟨L', hp⟩ := HP.out
 exact ⟨G, L', rfl, hp⟩
theorem roomI (L vs : List Value) (n c0 i : Nat) (hl : L.length = c0 * 1) (hi : i < n) (hc : n + 1 ≤ c0) (hvl : vs.length = 1) :
  (putL (putL L (i + 1) ((L.take (n)).drop (i))) (i) vs).length = c0 * 1 ∧ (putL (putL L (i + 1) ((L.take (n)).drop (i))) (i) vs).take ((n + 1) * 1) = (L.take (n * 1)).take (i * 1) ++ vs ++ (L.take (n * 1)).drop (i * 1) := by
 have hdl : ((L.take (n)).drop (i)).length = (n - i) * 1 := by simp only [List.length_drop, List.length_take, hl]; omega
 have h1 : (i + 1) + ((L.take (n)).drop (i)).length ≤ L.length := by rw [hdl, hl]; omega
 have h2 : (i) + vs.length ≤ (putL L (i + 1) ((L.take (n)).drop (i))).length := by rw [putL_len h1, hl, hvl]; omega
 refine ⟨by rw [putL_len h2, putL_len h1, hl], ?_⟩
 have ha : ((L.take (n * 1)).take (i * 1)).length = i * 1 := by simp only [List.length_take, hl]; omega
 apply List.ext_getElem?
 intro j
 by_cases hj : j < (n + 1) * 1
 ·rw [List.getElem?_take_of_lt hj, putL_at h2, putL_at h1, hvl, hdl, List.append_assoc]
  by_cases j1 : j < i * 1
  ·rw [if_pos (by omega), if_pos (by omega), List.getElem?_append_left (by omega), List.getElem?_take_of_lt j1, List.getElem?_take_of_lt (by omega)]
  rw [if_neg (by omega), List.getElem?_append_right (by omega), ha]
  by_cases j2 : j < i * 1 + 1
  ·rw [if_pos (by omega), List.getElem?_append_left (by omega)]
   all_goals first | rfl | (congr 1 <;> omega)
  rw [if_neg (by omega), if_neg (by omega), if_pos (by omega), List.getElem?_append_right (by omega), hvl, List.getElem?_drop, List.getElem?_drop]
  simp only [Nat.mul_one]
  congr 1 <;> omega
 rw [List.getElem?_eq_none (by rw [List.length_take, putL_len h2, putL_len h1, hl]; omega), List.getElem?_eq_none (by simp only [List.length_append, List.length_take, List.length_drop, hl, hvl]; omega)]
theorem growI (L C vs : List Value) (n G i : Nat) (hl : L.length = G * 1) (hcl : C.length = n * 1) (hi : i < n) (hc : n + 1 ≤ G) (hvl : vs.length = 1) (ht : L.take (i * 1) = C.take (i * 1)) :
  (putL (putL L (i) vs) (i + 1) (C.drop (i))).length = G * 1 ∧ (putL (putL L (i) vs) (i + 1) (C.drop (i))).take ((n + 1) * 1) = C.take (i * 1) ++ vs ++ C.drop (i * 1) := by
 have hdl : (C.drop (i)).length = (n - i) * 1 := by simp only [List.length_drop, hcl]; omega
 have h1 : (i) + vs.length ≤ L.length := by rw [hvl, hl]; omega
 have h2 : (i + 1) + (C.drop (i)).length ≤ (putL L (i) vs).length := by rw [putL_len h1, hl, hdl]; omega
 refine ⟨by rw [putL_len h2, putL_len h1, hl], ?_⟩
 have ha : (C.take (i * 1)).length = i * 1 := by simp only [List.length_take, hcl]; omega
 apply List.ext_getElem?
 intro j
 by_cases hj : j < (n + 1) * 1
 ·rw [List.getElem?_take_of_lt hj, putL_at h2, putL_at h1, hvl, hdl, List.append_assoc]
  by_cases j1 : j < i * 1
  ·rw [if_pos (by omega), if_pos (by omega), List.getElem?_append_left (by omega), ← ht, List.getElem?_take_of_lt j1]
  rw [List.getElem?_append_right (by omega), ha]
  by_cases j2 : j < i * 1 + 1
  ·rw [if_pos (by omega), if_neg (by omega), if_pos (by omega), List.getElem?_append_left (by omega)]
   all_goals first | rfl | (congr 1 <;> omega)
  rw [if_neg (by omega), if_pos (by omega), List.getElem?_append_right (by omega), hvl, List.getElem?_drop, List.getElem?_drop]
  congr 1 <;> omega
 rw [List.getElem?_eq_none (by rw [List.length_take, putL_len h2, putL_len h1, hl]; omega), List.getElem?_eq_none (by simp only [List.length_append, List.length_take, List.length_drop, hcl, hvl]; omega)]
def InsPI (B : Nat) (sa : Option Addr) (n c0 i : Nat) (xs vs : List Value) (w : World) (e : Ending) (w' : World) : Prop :=
 ∃ a' c', e = .returned (.slice a' (n + 1) c') ∧ w'.ownsRow B 3 1 (.slice a' (n + 1) c') (n + 1) (xs.take (i * 1) ++ vs ++ xs.drop (i * 1)) ∧ w.grownBy w' (Value.slice sa n c0).ownBlock ∧ NewOr w sa a'
theorem insI_end (B : Nat) (sa : Option Addr) (n c0 vb : Nat) (xs vs : List Value) (w : World) (hown : w.ownsRow B 3 1 (.slice sa n c0) n xs) (hn : n ≤ 1000) (hv : Blk w vb vs.toArray 3) (hvl : vs.length = 1)
  (h1v : ∀ u ∈ vs, u.oneCell' = true) (hB : B ≤ w.heap.size) :
  Calls Tryz.prog 160 #[.slice sa n c0, .int .i64 (n : Int), .slice (some ⟨vb, 0, none⟩) 1 1] w (InsPI B sa n c0 n xs vs w) := by
 have hown' := hid hown
 have hlen := hown.1
 have hrd : ReadAt w (some ⟨vb, 0, none⟩) 1 1 1 vs := ⟨by rw [hvl], (fun h => by cases h), fun x hx => by cases hx; exact ⟨rfl, fun j u hu => by rw [Addr.add_mid, hv.cell, Nat.zero_add]; simpa using hu⟩⟩
 have HR := hid hrd
 have hcap : n ≤ c0 ∧ c0 ≤ maxLen := by
  rcases hown.2 with ⟨h0, h1⟩ | ⟨g, cap, cur, h0, _, _, h1, h2, _⟩
  ·cases h0; unfold maxLen; omega
  cases h0; exact ⟨h1, h2⟩
 have hsl : ∀ (b : Nat), sa = some ⟨b, 0, none⟩ ∨ sa = none → True := fun _ _ => trivial
 unfold maxLen at hcap
 clear hown hrd
 have hca : (sa = none ∧ n = 0 ∧ c0 = 0) ∨ ∃ g, sa = some ⟨g, 0, none⟩ := by
  rcases hown'.out.2 with ⟨h0, h1⟩ | ⟨g, cap, cur, h0, _⟩
  ·cases h0; exact .inl ⟨rfl, rfl, rfl⟩
  cases h0; exact .inr ⟨g, rfl⟩
 rcases hca with ⟨rfl, rfl, rfl⟩ | ⟨g, rfl⟩
 ·clear hsl hcap hn
  go_enter Tryz.func160, Tryz.ntmps160
  go_wp2_with ((with_reducible refine wpList_appI B none 0 0 xs (some ⟨vb, 0, none⟩) 1 1 vs ?_ ?_ ?_ ?_ ?_ ?_ ?_ ?_); (· rfl); (· rfl); (· exact hown'.out); (· exact HR.out); (· exact h1v); (· omega); (· exact hB); intro a' c' w' h2 h3 h4; have H2 := hid h2; have H3 := hid h3; have H4 := hid h4; clear h2 h3 h4)
  go_ret
  refine ⟨a', c', rfl, ?_, H3.out, H4.out⟩
  have e1 : xs.take (0 * 1) = xs := List.take_of_length_le (by omega)
  have e2 : xs.drop (0 * 1) = [] := List.drop_of_length_le (by omega)
  rw [e1, e2, List.append_nil]
  exact H2.out
 clear hsl
 go_enter Tryz.func160, Tryz.ntmps160
 go_wp2_with ((with_reducible refine wpList_appI B (some ⟨g, 0, none⟩) n c0 xs (some ⟨vb, 0, none⟩) 1 1 vs ?_ ?_ ?_ ?_ ?_ ?_ ?_ ?_); (· rfl); (· rfl); (· exact hown'.out); (· exact HR.out); (· exact h1v); (· omega); (· exact hB); intro a' c' w' h2 h3 h4; have H2 := hid h2; have H3 := hid h3; have H4 := hid h4; clear h2 h3 h4)
 all_goals go_ret
 all_goals refine ⟨a', c', rfl, ?_, H3.out, H4.out⟩
 all_goals have e1 : xs.take (n * 1) = xs := List.take_of_length_le (by omega)
 all_goals have e2 : xs.drop (n * 1) = [] := List.drop_of_length_le (by omega)
 all_goals rw [e1, e2, List.append_nil]
 all_goals exact H2.out
theorem insI (B : Nat) (sa : Option Addr) (n c0 i vb : Nat) (xs vs : List Value) (w : World) (hown : w.ownsRow B 3 1 (.slice sa n c0) n xs) (hi : i ≤ n) (hn : n ≤ 1000) (hv : Blk w vb vs.toArray 3) (hvl : vs.length = 1) (hne : ∀ g, sa = some ⟨g, 0, none⟩ → vb ≠ g)
  (h1v : ∀ u ∈ vs, u.oneCell' = true) (h1x : ∀ u ∈ xs, u.oneCell' = true) (hB : B ≤ w.heap.size) :
  Calls Tryz.prog 160 #[.slice sa n c0, .int .i64 (i : Int), .slice (some ⟨vb, 0, none⟩) 1 1] w (InsPI B sa n c0 i xs vs w) := by
 by_cases he : i = n
 ·subst he
  exact insI_end B sa i c0 vb xs vs w hown hn hv hvl h1v hB
 obtain ⟨hl, h0 | ⟨g, cap, cur, h0, hg, hC, hnc, hcm, hcs, hx⟩⟩ := hown
 ·omega
 cases h0
 by_cases hroom : n + 1 ≤ c0
 ·have hxx : cur.toList.take (n) = xs := by rw [← hx, Nat.mul_one]
  refine (insI_room g n c0 i vb cur vs w hC hcs (by omega) hn hroom hcm hv hvl (hne g rfl) h1v (fun u hu => h1x u (by rw [hxx] at hu; exact List.mem_of_mem_drop hu))).mono ?_
  rintro e w' ⟨rfl, hC', hgr⟩
  obtain ⟨r1, r2⟩ := roomI cur.toList vs n c0 i (by rw [Array.length_toList, hcs]) (by omega) hroom hvl
  rw [hx] at r2
  refine ⟨some ⟨g, 0, none⟩, c0, rfl, ⟨?_, .inr ⟨g, c0, _, rfl, hg, hC', hroom, hcm, ?_, ?_⟩⟩, hgr, (fun x hx => Or.inl ⟨x, hx, rfl⟩)⟩
  ·simp only [List.length_append, List.length_take, List.length_drop, hl, hvl]; omega
  ·rw [List.size_toArray]; exact r1
  first | (simpa using r2) | (simp only [hx]; simpa using r2)
 have hce : c0 = n := by omega
 subst hce
 have hxx : cur.toList = xs := by rw [← hx]; exact (List.take_of_length_le (by rw [Array.length_toList, hcs]; omega)).symm
 refine (insI_grow g c0 i vb cur vs w hC hcs (by omega) hn hv hvl h1v (fun u hu => h1x u (by rw [hxx] at hu; exact hu))).mono ?_
 rintro e w' ⟨G, L, rfl, hG1, hG2, hLl, hLt, hC', hb⟩
 obtain ⟨r1, r2⟩ := growI L cur.toList vs c0 G i hLl (by rw [Array.length_toList, hcs]) (by omega) hG1 hvl hLt
 rw [hxx] at r1 r2 hC'
 refine ⟨some ⟨w.heap.size, 0, none⟩, G, rfl, ⟨?_, .inr ⟨w.heap.size, G, _, rfl, hB, hC', hG1, hG2, ?_, ?_⟩⟩, ⟨hb.os, hb.tape, hb.output, hb.size, fun b hb' _ => hb.block b hb'⟩, (fun x hx => by cases hx; exact Or.inr (Nat.le_refl _))⟩
 ·simp only [List.length_append, List.length_take, List.length_drop, hl, hvl]; omega
 ·rw [List.size_toArray]; exact r1
 simpa using r2
theorem infoA : ∃ i, Tryz.prog.info? 105 = some i ∧ i.zero = some (Value.agg #[Value.int .i64 0, Value.slice none 0 0]) ∧ i.size = 2 ∧ i.bytes = 32 := info_parts (by kernel_rfl)
theorem sizeA (w : World) : (Go.sizeOf 105).run Tryz.prog w = .ok 2 w := by kernel_rfl
theorem cpyA (w : World) (ty : TypeId) (g o dLen dCap : Nat) (a : Addr) (sLen sCap : Nat) (cur : Array Value) (te : TypeId) (cs : List Value) (m : Nat)
  (hg : Blk w g cur te) (hm : m = Nat.min sLen dLen) (hl : cs.length = m * 2)
  (hsrc : ∀ j v, cs[j]? = some v → w.cell? (a.add j) = some v) (hfit : o + cs.length ≤ cur.size) (h1 : ∀ u ∈ cs, u.oneCell' = true) :
  (Builtin.copy_ #[39, 39] ty #[.slice (some ⟨g, o, none⟩) dLen dCap, .slice (some a) sLen sCap]).run Tryz.prog w = .ok (goInt m) (w.setRow g (putL cur.toList o cs).toArray) := by
 obtain ⟨i, q1, q2, q3, q4⟩ := infoA
 exact run_copy_wide w 39 105 ty i 2 Tryz.underlying39 q1 q3 g o dLen dCap a sLen sCap cur te cs m hg hm hl hsrc hfit h1
theorem insA_room (g n c0 i vb : Nat) (cur : Array Value) (vs : List Value) (w : World) (hC : Blk w g cur 105) (hcs : cur.size = c0 * 2) (hi : i < n) (hn : n ≤ 1000) (hc : n + 1 ≤ c0) (hc0 : c0 ≤ maxLen) (hv : Blk w vb vs.toArray 105) (hvl : vs.length = 2) (hne : vb ≠ g)
  (h1v : ∀ u ∈ vs, u.oneCell' = true) (h1x : ∀ u ∈ (cur.toList.take (n * 2)).drop (i * 2), u.oneCell' = true) :
  Calls Tryz.prog 167 #[.slice (some ⟨g, 0, none⟩) n c0, .int .i64 (i : Int), .slice (some ⟨vb, 0, none⟩) 1 1] w fun e w' => e = .returned (.slice (some ⟨g, 0, none⟩) (n + 1) c0) ∧ Blk w' g (putL (putL cur.toList ((i + 1) * 2) ((cur.toList.take (n * 2)).drop (i * 2))) (i * 2) vs).toArray 105 ∧ w.grownBy w' (some g) := by
 unfold maxLen at hc0
 have hdl : ((cur.toList.take (n * 2)).drop (i * 2)).length = (n - i) * 2 := by simp only [List.length_drop, List.length_take, Array.length_toList, hcs]; omega
 have hov : ∀ lb cb, (callFunc 174 #[.slice (some ⟨vb, 0, none⟩) 1 1, .slice (some ⟨g, (i + 1) * 2, none⟩) lb cb]).run Tryz.prog w = .ok (.value (.bool false)) w := fun lb cb => by
  rw [run_callFunc_extern Tryz.func174 (by kernel_rfl) (by kernel_rfl) (by kernel_rfl) (e := Extern.SlicesOverlaps.overlaps #[39, 39] #[4]) (by kernel_rfl),
   Lib.run_overlaps_apart w 39 4 105 Tryz.underlying39 2 sizeA ⟨vb, 0, none⟩ ⟨g, (i + 1) * 2, none⟩ 1 1 lb cb hne 105 105 vs.toArray.size cur.size (by simp [World.shape?, hv]) (by simp [World.shape?, hC]) (by omega) (hv.free _) (hv.free _)]
  rfl
 have hcp1 : ∀ ty dc sc, (Builtin.copy_ #[39, 39] ty #[.slice (some ⟨g, (i + 1) * 2, none⟩) (n - i) dc, .slice (some ⟨g, i * 2, none⟩) (n + 1 - i) sc]).run Tryz.prog w.drew = .ok (goInt ((n - i : Nat) : Int)) (w.drew.setRow g (putL cur.toList ((i + 1) * 2) ((cur.toList.take (n * 2)).drop (i * 2))).toArray) := fun ty dc sc =>
  cpyA w.drew ty g ((i + 1) * 2) (n - i) dc ⟨g, i * 2, none⟩ (n + 1 - i) sc cur 105 _ (n - i) hC (by simp only [Nat.min_def]; split <;> omega) hdl
   (fun j v hj => by
    rw [Addr.add_mid]
    have hj' : j < (n - i) * 2 := by have := (List.getElem?_eq_some_iff.1 hj).1; omega
    rw [List.getElem?_drop, List.getElem?_take_of_lt (by omega)] at hj
    rw [show (w.drew.cell? ⟨g, i * 2 + j, none⟩) = w.cell? ⟨g, i * 2 + j, none⟩ from rfl, hC.cell, ← Array.getElem?_toList]
    exact hj) (by rw [hdl, hcs]; omega) h1x
 obtain ⟨W1, hW1⟩ : ∃ W1, W1 = w.drew.setRow g (putL cur.toList ((i + 1) * 2) ((cur.toList.take (n * 2)).drop (i * 2))).toArray := ⟨_, rfl⟩
 have hC1 : Blk W1 g (putL cur.toList ((i + 1) * 2) ((cur.toList.take (n * 2)).drop (i * 2))).toArray 105 := by rw [hW1]; exact setRow_heap w.drew g cur _ 105 _ hC
 have hv1 : Blk W1 vb vs.toArray 105 := by rw [hW1]; exact (setRow_other w.drew g vb _ hne).trans hv
 have hs1 : (putL cur.toList ((i + 1) * 2) ((cur.toList.take (n * 2)).drop (i * 2))).length = c0 * 2 := by rw [putL_len (by rw [hdl, Array.length_toList, hcs]; omega), Array.length_toList, hcs]
 have hcp2 : ∀ ty dc, (Builtin.copy_ #[39, 39] ty #[.slice (some ⟨g, i * 2, none⟩) (n + 1 - i) dc, .slice (some ⟨vb, 0, none⟩) 1 1]).run Tryz.prog W1 = .ok (goInt 1) (W1.setRow g (putL (putL cur.toList ((i + 1) * 2) ((cur.toList.take (n * 2)).drop (i * 2))) (i * 2) vs).toArray) := fun ty dc => by
  have := cpyA W1 ty g (i * 2) (n + 1 - i) dc ⟨vb, 0, none⟩ 1 1 _ 105 vs 1 hC1 (by simp only [Nat.min_def]; split <;> omega) (by rw [hvl]) (fun j v hj => by rw [Addr.add_mid, hv1.cell, Nat.zero_add]; simpa using hj) (by rw [List.size_toArray, hs1, hvl]; omega) h1v
  simpa using this
 rw [← hW1] at hcp1
 have hz1 : ¬ ((i : Int) = (n : Int)) := by omega
 have hw1 : IntKind.i64.wrap ((i : Int) + 1) = (i : Int) + 1 := by rw [IntKind.wrap_i64]; omega
 have hw2 : IntKind.i64.wrap ((n : Int) + 1) = (n : Int) + 1 := by rw [IntKind.wrap_i64]; omega
 have hin : i ≤ n := by omega
 have mixed := mixed0
 have hb1 : (0 : Int) ≤ (i : Int) + 1 := by omega
 have hb0 : (0 : Int) ≤ (i : Int) := by omega
 have htn : ((i : Int) + 1).toNat = i + 1 := by omega
 have hb2 : ¬ (c0 = i + 1) := by omega
 have hb3 : (i : Int) ≤ (n : Int) + 1 := by omega
 have hb4 : ¬ (c0 = i) := by omega
 have hgr : w.grownBy (W1.setRow g (putL (putL cur.toList ((i + 1) * 2) ((cur.toList.take (n * 2)).drop (i * 2))) (i * 2) vs).toArray) (some g) := by
  refine ⟨by rw [hW1]; rfl, by rw [hW1]; rfl, by rw [hW1]; rfl, by rw [hW1]; simp, fun b hb hbn => ?_⟩
  have hbg : b ≠ g := fun h => hbn (by rw [h])
  rw [setRow_other _ g b _ hbg, hW1, setRow_other _ g b _ hbg]
  rfl
 have hfin : Blk (W1.setRow g (putL (putL cur.toList ((i + 1) * 2) ((cur.toList.take (n * 2)).drop (i * 2))) (i * 2) vs).toArray) g (putL (putL cur.toList ((i + 1) * 2) ((cur.toList.take (n * 2)).drop (i * 2))) (i * 2) vs).toArray 105 := setRow_heap W1 g _ _ 105 _ hC1
 have HG := hid hgr
 have HF := hid hfin
 clear hgr hfin hC1 hv1 hs1 hC hv
 go_enter Tryz.func167, Tryz.ntmps167
 clear hW1
 go_wp2_with (simp only [hov])
 go_region_law_o (refine step_copy_run rfl _ _ 39 rfl _ _ (by simp [Act.eval, Act.put]) (by simp [Act.eval, Act.put]) (hcp1 _ _ _) ?_)
 go_wp2_with (at_builtin; refine wpList_copy_run _ rfl _ _ 39 rfl _ _ rfl rfl (hcp2 _ _) ?_)
 go_ret
 exact ⟨rfl, HF.out, HG.out⟩
theorem insA_grow (g n i vb : Nat) (cur : Array Value) (vs : List Value) (w : World) (hC : Blk w g cur 105) (hcs : cur.size = n * 2) (hi : i < n) (hn : n ≤ 1000) (hv : Blk w vb vs.toArray 105) (hvl : vs.length = 2)
  (h1v : ∀ u ∈ vs, u.oneCell' = true) (h1x : ∀ u ∈ cur.toList, u.oneCell' = true) :
  Calls Tryz.prog 167 #[.slice (some ⟨g, 0, none⟩) n n, .int .i64 (i : Int), .slice (some ⟨vb, 0, none⟩) 1 1] w fun e w' => ∃ G L, e = .returned (.slice (some ⟨w.heap.size, 0, none⟩) (n + 1) G) ∧ n + 1 ≤ G ∧ G ≤ maxLen ∧ L.length = G * 2 ∧ L.take (i * 2) = cur.toList.take (i * 2) ∧ Blk w' w.heap.size (putL (putL L (i * 2) vs) ((i + 1) * 2) (cur.toList.drop (i * 2))).toArray 105 ∧ Below w.heap.size w w' := by
 obtain ⟨i0, q1, q2, q3, q4⟩ := infoA
 have hgl := hC.lt
 have hvl' := hv.lt
 have hol : (cur.toList.take (i * 2)).length = i * 2 := by rw [List.length_take, Array.length_toList, hcs]; omega
 have hold : (Builtin.firstCells i0.size i (.slice (some ⟨g, 0, none⟩) i n)).run Tryz.prog w.drew = .ok (cur.toList.take (i * 2)).toArray w.drew := by
  rw [q3]
  exact run_firstCells_some (P := Tryz.prog) w.drew 2 i ⟨g, 0, none⟩ i n (cur.toList.take (i * 2)) hol (fun j u hu => by
   have hj : j < i * 2 := by have := (List.getElem?_eq_some_iff.1 hu).1; omega
   rw [List.getElem?_take_of_lt (by omega)] at hu
   rw [Addr.add_mid, Nat.zero_add, show w.drew.cell? ⟨g, j, none⟩ = w.cell? ⟨g, j, none⟩ from rfl, hC.cell, ← Array.getElem?_toList]
   exact hu)
 have hrz : ∀ ty, (Builtin.append_ #[39, 3] ty #[.slice (some ⟨g, 0, none⟩) i n, .int .i64 ((n : Int) + 1 - (i : Int))]).run Tryz.prog w =
   .ok (.slice (some ⟨w.heap.size, 0, none⟩) (n + 1) (grownCap w (n + 1) n 105)) (w.drew.alloc (.cells ((cur.toList.take (i * 2)).toArray ++ Builtin.zeroCells (Value.agg #[Value.int .i64 0, Value.slice none 0 0]).cells (n + 1 - i) ++ Builtin.zeroCells (Value.agg #[Value.int .i64 0, Value.slice none 0 0]).cells (grownCap w (n + 1) n 105 - (n + 1))) 105)) := fun ty => by
  have h := Lib.run_append_grow_zeros w 39 3 ty 105 i0 (Value.agg #[Value.int .i64 0, Value.slice none 0 0]) .i64 .i64 Tryz.underlying39 Tryz.underlying3 q1 q2 (some ⟨g, 0, none⟩) i n (cur.toList.take (i * 2)) hold (n + 1 - i) (by omega) (by omega) (by omega) (by omega) (by rw [q4]; omega) (by rw [q4, show i + (n + 1 - i) = n + 1 by omega]; exact growslice_fits (by omega) (by omega))
  rw [show i + (n + 1 - i) = n + 1 by omega] at h
  rw [show ((n : Int) + 1 - (i : Int)) = ((n + 1 - i : Nat) : Int) by omega]
  exact h
 obtain ⟨G, hG⟩ : ∃ G, G = grownCap w (n + 1) n 105 := ⟨_, rfl⟩
 have hGn : n + 1 ≤ G := by rw [hG]; exact grownCap_ge w _ _ _
 have hGm : G ≤ maxLen := by rw [hG]; exact grownCap_le_maxLen w _ _ _ (by unfold maxLen; omega)
 rw [← hG] at hrz
 obtain ⟨L, hL⟩ : ∃ L, L = ((cur.toList.take (i * 2)).toArray ++ Builtin.zeroCells (Value.agg #[Value.int .i64 0, Value.slice none 0 0]).cells (n + 1 - i) ++ Builtin.zeroCells (Value.agg #[Value.int .i64 0, Value.slice none 0 0]).cells (G - (n + 1))).toList := ⟨_, rfl⟩
 have hzc : (Value.agg #[Value.int .i64 0, Value.slice none 0 0] : Value).cells.size = 2 := by rfl
 have hLl : L.length = G * 2 := by
  rw [hL]
  simp only [Array.length_toList, Array.size_append, List.size_toArray, size_zeroCells, hzc, hol]
  omega
 have hLt : L.take (i * 2) = cur.toList.take (i * 2) := by
  rw [hL]
  simp only [Array.toList_append, List.append_assoc]
  have e9 := List.take_left (l₁ := cur.toList.take (i * 2)) (l₂ := (Builtin.zeroCells (Value.agg #[Value.int .i64 0, Value.slice none 0 0]).cells (n + 1 - i)).toList ++ (Builtin.zeroCells (Value.agg #[Value.int .i64 0, Value.slice none 0 0]).cells (G - (n + 1))).toList)
  rw [hol] at e9
  skip
  exact e9
 have hLa : ((cur.toList.take (i * 2)).toArray ++ Builtin.zeroCells (Value.agg #[Value.int .i64 0, Value.slice none 0 0]).cells (n + 1 - i) ++ Builtin.zeroCells (Value.agg #[Value.int .i64 0, Value.slice none 0 0]).cells (G - (n + 1))) = L.toArray := by rw [hL]
 rw [hLa] at hrz
 clear hLa hL hG hold
 obtain ⟨W0, hW0⟩ : ∃ W0, W0 = w.drew.alloc (.cells L.toArray 105) := ⟨_, rfl⟩
 have hN0 : Blk W0 w.heap.size L.toArray 105 := by rw [hW0]; exact heap_alloc_new w.drew _
 have hg0 : Blk W0 g cur 105 := by rw [hW0]; exact Blk.alloc (w := w.drew) hC _
 have hv0 : Blk W0 vb vs.toArray 105 := by rw [hW0]; exact Blk.alloc (w := w.drew) hv _
 have hb0 : Below w.heap.size w W0 := by rw [hW0]; exact (Below.refl _ _).drew.alloc (Nat.le_refl _) _
 rw [← hW0] at hrz
 clear hW0
 have hcpA : ∀ ty dc, (Builtin.copy_ #[39, 39] ty #[.slice (some ⟨w.heap.size, i * 2, none⟩) (n + 1 - i) dc, .slice (some ⟨vb, 0, none⟩) 1 1]).run Tryz.prog W0 = .ok (goInt 1) (W0.setRow w.heap.size (putL L (i * 2) vs).toArray) := fun ty dc => by
  have := cpyA W0 ty w.heap.size (i * 2) (n + 1 - i) dc ⟨vb, 0, none⟩ 1 1 _ 105 vs 1 hN0 (by simp only [Nat.min_def]; split <;> omega) (by rw [hvl]) (fun j v hj => by rw [Addr.add_mid, hv0.cell, Nat.zero_add]; simpa using hj) (by rw [List.size_toArray, hLl, hvl]; omega) h1v
  simpa using this
 obtain ⟨W1, hW1⟩ : ∃ W1, W1 = W0.setRow w.heap.size (putL L (i * 2) vs).toArray := ⟨_, rfl⟩
 have hN1 : Blk W1 w.heap.size (putL L (i * 2) vs).toArray 105 := by rw [hW1]; exact setRow_heap W0 w.heap.size _ _ 105 _ hN0
 have hg1 : Blk W1 g cur 105 := by rw [hW1]; exact (setRow_other W0 w.heap.size g _ (by omega)).trans hg0
 have hb1 : Below w.heap.size w W1 := by rw [hW1]; exact ⟨hb0.os, hb0.tape, hb0.output, by simpa using hb0.size, fun b hb => (setRow_other W0 w.heap.size b _ (by omega)).trans (hb0.block b hb)⟩
 have hs1 : (putL L (i * 2) vs).length = G * 2 := by rw [putL_len (by rw [hLl, hvl]; omega), hLl]
 rw [← hW1] at hcpA
 clear hW1 hN0 hg0 hv0 hb0
 have hdl : (cur.toList.drop (i * 2)).length = (n - i) * 2 := by rw [List.length_drop, Array.length_toList, hcs]; omega
 have hcpB : ∀ ty dc sc, (Builtin.copy_ #[39, 39] ty #[.slice (some ⟨w.heap.size, (i + 1) * 2, none⟩) (n - i) dc, .slice (some ⟨g, i * 2, none⟩) (n - i) sc]).run Tryz.prog W1.drew = .ok (goInt ((n - i : Nat) : Int)) (W1.drew.setRow w.heap.size (putL (putL L (i * 2) vs) ((i + 1) * 2) (cur.toList.drop (i * 2))).toArray) := fun ty dc sc => by
  have := cpyA W1.drew ty w.heap.size ((i + 1) * 2) (n - i) dc ⟨g, i * 2, none⟩ (n - i) sc _ 105 (cur.toList.drop (i * 2)) (n - i) hN1 (by simp only [Nat.min_def]; split <;> omega) hdl
   (fun j v hj => by
    rw [List.getElem?_drop] at hj
    rw [Addr.add_mid, show W1.drew.cell? ⟨g, i * 2 + j, none⟩ = W1.cell? ⟨g, i * 2 + j, none⟩ from rfl, hg1.cell, ← Array.getElem?_toList]
    exact hj) (by rw [List.size_toArray, hs1, hdl]; omega) (fun u hu => h1x u (List.mem_of_mem_drop hu))
  simpa using this
 obtain ⟨W2, hW2⟩ : ∃ W2, W2 = W1.drew.setRow w.heap.size (putL (putL L (i * 2) vs) ((i + 1) * 2) (cur.toList.drop (i * 2))).toArray := ⟨_, rfl⟩
 have hN2 : Blk W2 w.heap.size (putL (putL L (i * 2) vs) ((i + 1) * 2) (cur.toList.drop (i * 2))).toArray 105 := by rw [hW2]; exact setRow_heap W1.drew w.heap.size _ _ 105 _ hN1
 have hb2 : Below w.heap.size w W2 := by rw [hW2]; exact ⟨hb1.os, hb1.tape, hb1.output, by simpa using hb1.size, fun b hb => (setRow_other W1.drew w.heap.size b _ (by omega)).trans (hb1.block b hb)⟩
 rw [← hW2] at hcpB
 have HP : Hid (∃ L', n + 1 ≤ G ∧ G ≤ maxLen ∧ L'.length = G * 2 ∧ L'.take (i * 2) = cur.toList.take (i * 2) ∧ Blk W2 w.heap.size (putL (putL L' (i * 2) vs) ((i + 1) * 2) (cur.toList.drop (i * 2))).toArray 105 ∧ Below w.heap.size w W2) := ⟨L, hGn, hGm, hLl, hLt, hN2, hb2⟩
 clear hW2 hN2 hb2 hN1 hg1 hb1 hs1 hdl hLl hLt hC hv h1v h1x hol
 unfold maxLen at hGm
 have hz1 : ¬ ((i : Int) = (n : Int)) := by omega
 have hw1 : IntKind.i64.wrap ((i : Int) + 1) = (i : Int) + 1 := by rw [IntKind.wrap_i64]; omega
 have hw2 : IntKind.i64.wrap ((n : Int) + 1) = (n : Int) + 1 := by rw [IntKind.wrap_i64]; omega
 have hin : i ≤ n := by omega
 have mixed := mixed0
 have hc1 : (0 : Int) ≤ (i : Int) + 1 := by omega
 have hc2 : (0 : Int) ≤ (i : Int) := by omega
 have htn : ((i : Int) + 1).toNat = i + 1 := by omega
 have hGi : ¬ (G = i) := by omega
 have hGim : ¬ (G = i + 1) := by omega
 have hci : ¬ (n = i) := by omega
 have hb3 : (i : Int) ≤ (n : Int) := by omega
 go_enter Tryz.func167, Tryz.ntmps167
 go_wp2_with (first
  | (at_builtin; refine Lib.wpList_append_run _ rfl _ _ _ _ rfl _ _ rfl rfl _ _ (hrz _) ?_)
  | (at_builtin; refine wpList_copy_run _ rfl _ _ 39 rfl _ _ rfl rfl (hcpA _ _) ?_))
 go_region_law_o (refine step_copy_run rfl _ _ 39 rfl _ _ (by simp [Act.eval, Act.put]) (by simp [Act.eval, Act.put]) (hcpB _ _ _) ?_)
 go_wp2
 go_ret
 obtain ⟨L', hp⟩ := HP.out
 exact ⟨G, L', rfl, hp⟩
theorem roomA (L vs : List Value) (n c0 i : Nat) (hl : L.length = c0 * 2) (hi : i < n) (hc : n + 1 ≤ c0) (hvl : vs.length = 2) :
  (putL (putL L ((i + 1) * 2) ((L.take (n * 2)).drop (i * 2))) (i * 2) vs).length = c0 * 2 ∧ (putL (putL L ((i + 1) * 2) ((L.take (n * 2)).drop (i * 2))) (i * 2) vs).take ((n + 1) * 2) = (L.take (n * 2)).take (i * 2) ++ vs ++ (L.take (n * 2)).drop (i * 2) := by
 have hdl : ((L.take (n * 2)).drop (i * 2)).length = (n - i) * 2 := by simp only [List.length_drop, List.length_take, hl]; omega
 have h1 : ((i + 1) * 2) + ((L.take (n * 2)).drop (i * 2)).length ≤ L.length := by rw [hdl, hl]; omega
 have h2 : (i * 2) + vs.length ≤ (putL L ((i + 1) * 2) ((L.take (n * 2)).drop (i * 2))).length := by rw [putL_len h1, hl, hvl]; omega
 refine ⟨by rw [putL_len h2, putL_len h1, hl], ?_⟩
 have ha : ((L.take (n * 2)).take (i * 2)).length = i * 2 := by simp only [List.length_take, hl]; omega
 apply List.ext_getElem?
 intro j
 by_cases hj : j < (n + 1) * 2
 ·rw [List.getElem?_take_of_lt hj, putL_at h2, putL_at h1, hvl, hdl, List.append_assoc]
  by_cases j1 : j < i * 2
  ·rw [if_pos (by omega), if_pos (by omega), List.getElem?_append_left (by omega), List.getElem?_take_of_lt j1, List.getElem?_take_of_lt (by omega)]
  rw [if_neg (by omega), List.getElem?_append_right (by omega), ha]
  by_cases j2 : j < i * 2 + 2
  ·rw [if_pos (by omega), List.getElem?_append_left (by omega)]
   all_goals first | rfl | (congr 1 <;> omega)
  rw [if_neg (by omega), if_neg (by omega), if_pos (by omega), List.getElem?_append_right (by omega), hvl, List.getElem?_drop, List.getElem?_drop]
  skip
  congr 1 <;> omega
 rw [List.getElem?_eq_none (by rw [List.length_take, putL_len h2, putL_len h1, hl]; omega), List.getElem?_eq_none (by simp only [List.length_append, List.length_take, List.length_drop, hl, hvl]; omega)]
theorem growA (L C vs : List Value) (n G i : Nat) (hl : L.length = G * 2) (hcl : C.length = n * 2) (hi : i < n) (hc : n + 1 ≤ G) (hvl : vs.length = 2) (ht : L.take (i * 2) = C.take (i * 2)) :
  (putL (putL L (i * 2) vs) ((i + 1) * 2) (C.drop (i * 2))).length = G * 2 ∧ (putL (putL L (i * 2) vs) ((i + 1) * 2) (C.drop (i * 2))).take ((n + 1) * 2) = C.take (i * 2) ++ vs ++ C.drop (i * 2) := by
 have hdl : (C.drop (i * 2)).length = (n - i) * 2 := by simp only [List.length_drop, hcl]; omega
 have h1 : (i * 2) + vs.length ≤ L.length := by rw [hvl, hl]; omega
 have h2 : ((i + 1) * 2) + (C.drop (i * 2)).length ≤ (putL L (i * 2) vs).length := by rw [putL_len h1, hl, hdl]; omega
 refine ⟨by rw [putL_len h2, putL_len h1, hl], ?_⟩
 have ha : (C.take (i * 2)).length = i * 2 := by simp only [List.length_take, hcl]; omega
 apply List.ext_getElem?
 intro j
 by_cases hj : j < (n + 1) * 2
 ·rw [List.getElem?_take_of_lt hj, putL_at h2, putL_at h1, hvl, hdl, List.append_assoc]
  by_cases j1 : j < i * 2
  ·rw [if_pos (by omega), if_pos (by omega), List.getElem?_append_left (by omega), ← ht, List.getElem?_take_of_lt j1]
  rw [List.getElem?_append_right (by omega), ha]
  by_cases j2 : j < i * 2 + 2
  ·rw [if_pos (by omega), if_neg (by omega), if_pos (by omega), List.getElem?_append_left (by omega)]
   all_goals first | rfl | (congr 1 <;> omega)
  rw [if_neg (by omega), if_pos (by omega), List.getElem?_append_right (by omega), hvl, List.getElem?_drop, List.getElem?_drop]
  congr 1 <;> omega
 rw [List.getElem?_eq_none (by rw [List.length_take, putL_len h2, putL_len h1, hl]; omega), List.getElem?_eq_none (by simp only [List.length_append, List.length_take, List.length_drop, hcl, hvl]; omega)]
def InsPA (B : Nat) (sa : Option Addr) (n c0 i : Nat) (xs vs : List Value) (w : World) (e : Ending) (w' : World) : Prop :=
 ∃ a' c', e = .returned (.slice a' (n + 1) c') ∧ w'.ownsRow B 105 2 (.slice a' (n + 1) c') (n + 1) (xs.take (i * 2) ++ vs ++ xs.drop (i * 2)) ∧ w.grownBy w' (Value.slice sa n c0).ownBlock ∧ NewOr w sa a'
theorem insA_end (B : Nat) (sa : Option Addr) (n c0 vb : Nat) (xs vs : List Value) (w : World) (hown : w.ownsRow B 105 2 (.slice sa n c0) n xs) (hn : n ≤ 1000) (hv : Blk w vb vs.toArray 105) (hvl : vs.length = 2)
  (h1v : ∀ u ∈ vs, u.oneCell' = true) (hB : B ≤ w.heap.size) :
  Calls Tryz.prog 167 #[.slice sa n c0, .int .i64 (n : Int), .slice (some ⟨vb, 0, none⟩) 1 1] w (InsPA B sa n c0 n xs vs w) := by
 have hown' := hid hown
 have hlen := hown.1
 have hrd : ReadAt w (some ⟨vb, 0, none⟩) 1 1 2 vs := ⟨by rw [hvl], (fun h => by cases h), fun x hx => by cases hx; exact ⟨rfl, fun j u hu => by rw [Addr.add_mid, hv.cell, Nat.zero_add]; simpa using hu⟩⟩
 have HR := hid hrd
 have hcap : n ≤ c0 ∧ c0 ≤ maxLen := by
  rcases hown.2 with ⟨h0, h1⟩ | ⟨g, cap, cur, h0, _, _, h1, h2, _⟩
  ·cases h0; unfold maxLen; omega
  cases h0; exact ⟨h1, h2⟩
 have hsl : ∀ (b : Nat), sa = some ⟨b, 0, none⟩ ∨ sa = none → True := fun _ _ => trivial
 unfold maxLen at hcap
 clear hown hrd
 have hca : (sa = none ∧ n = 0 ∧ c0 = 0) ∨ ∃ g, sa = some ⟨g, 0, none⟩ := by
  rcases hown'.out.2 with ⟨h0, h1⟩ | ⟨g, cap, cur, h0, _⟩
  ·cases h0; exact .inl ⟨rfl, rfl, rfl⟩
  cases h0; exact .inr ⟨g, rfl⟩
 rcases hca with ⟨rfl, rfl, rfl⟩ | ⟨g, rfl⟩
 ·clear hsl hcap hn
  go_enter Tryz.func167, Tryz.ntmps167
  go_wp2_with ((with_reducible refine wpList_appA B none 0 0 xs (some ⟨vb, 0, none⟩) 1 1 vs ?_ ?_ ?_ ?_ ?_ ?_ ?_ ?_); (· rfl); (· rfl); (· exact hown'.out); (· exact HR.out); (· exact h1v); (· omega); (· exact hB); intro a' c' w' h2 h3 h4; have H2 := hid h2; have H3 := hid h3; have H4 := hid h4; clear h2 h3 h4)
  go_ret
  refine ⟨a', c', rfl, ?_, H3.out, H4.out⟩
  have e1 : xs.take (0 * 2) = xs := List.take_of_length_le (by omega)
  have e2 : xs.drop (0 * 2) = [] := List.drop_of_length_le (by omega)
  rw [e1, e2, List.append_nil]
  exact H2.out
 clear hsl
 go_enter Tryz.func167, Tryz.ntmps167
 go_wp2_with ((with_reducible refine wpList_appA B (some ⟨g, 0, none⟩) n c0 xs (some ⟨vb, 0, none⟩) 1 1 vs ?_ ?_ ?_ ?_ ?_ ?_ ?_ ?_); (· rfl); (· rfl); (· exact hown'.out); (· exact HR.out); (· exact h1v); (· omega); (· exact hB); intro a' c' w' h2 h3 h4; have H2 := hid h2; have H3 := hid h3; have H4 := hid h4; clear h2 h3 h4)
 all_goals go_ret
 all_goals refine ⟨a', c', rfl, ?_, H3.out, H4.out⟩
 all_goals have e1 : xs.take (n * 2) = xs := List.take_of_length_le (by omega)
 all_goals have e2 : xs.drop (n * 2) = [] := List.drop_of_length_le (by omega)
 all_goals rw [e1, e2, List.append_nil]
 all_goals exact H2.out
theorem insA (B : Nat) (sa : Option Addr) (n c0 i vb : Nat) (xs vs : List Value) (w : World) (hown : w.ownsRow B 105 2 (.slice sa n c0) n xs) (hi : i ≤ n) (hn : n ≤ 1000) (hv : Blk w vb vs.toArray 105) (hvl : vs.length = 2) (hne : ∀ g, sa = some ⟨g, 0, none⟩ → vb ≠ g)
  (h1v : ∀ u ∈ vs, u.oneCell' = true) (h1x : ∀ u ∈ xs, u.oneCell' = true) (hB : B ≤ w.heap.size) :
  Calls Tryz.prog 167 #[.slice sa n c0, .int .i64 (i : Int), .slice (some ⟨vb, 0, none⟩) 1 1] w (InsPA B sa n c0 i xs vs w) := by
 by_cases he : i = n
 ·subst he
  exact insA_end B sa i c0 vb xs vs w hown hn hv hvl h1v hB
 obtain ⟨hl, h0 | ⟨g, cap, cur, h0, hg, hC, hnc, hcm, hcs, hx⟩⟩ := hown
 ·omega
 cases h0
 by_cases hroom : n + 1 ≤ c0
 ·have hxx : cur.toList.take (n * 2) = xs := by exact hx
  refine (insA_room g n c0 i vb cur vs w hC hcs (by omega) hn hroom hcm hv hvl (hne g rfl) h1v (fun u hu => h1x u (by rw [hxx] at hu; exact List.mem_of_mem_drop hu))).mono ?_
  rintro e w' ⟨rfl, hC', hgr⟩
  obtain ⟨r1, r2⟩ := roomA cur.toList vs n c0 i (by rw [Array.length_toList, hcs]) (by omega) hroom hvl
  rw [hx] at r2
  refine ⟨some ⟨g, 0, none⟩, c0, rfl, ⟨?_, .inr ⟨g, c0, _, rfl, hg, hC', hroom, hcm, ?_, ?_⟩⟩, hgr, (fun x hx => Or.inl ⟨x, hx, rfl⟩)⟩
  ·simp only [List.length_append, List.length_take, List.length_drop, hl, hvl]; omega
  ·rw [List.size_toArray]; exact r1
  first | (simpa using r2) | (simp only [hx]; simpa using r2)
 have hce : c0 = n := by omega
 subst hce
 have hxx : cur.toList = xs := by rw [← hx]; exact (List.take_of_length_le (by rw [Array.length_toList, hcs]; omega)).symm
 refine (insA_grow g c0 i vb cur vs w hC hcs (by omega) hn hv hvl h1v (fun u hu => h1x u (by rw [hxx] at hu; exact hu))).mono ?_
 rintro e w' ⟨G, L, rfl, hG1, hG2, hLl, hLt, hC', hb⟩
 obtain ⟨r1, r2⟩ := growA L cur.toList vs c0 G i hLl (by rw [Array.length_toList, hcs]) (by omega) hG1 hvl hLt
 rw [hxx] at r1 r2 hC'
 refine ⟨some ⟨w.heap.size, 0, none⟩, G, rfl, ⟨?_, .inr ⟨w.heap.size, G, _, rfl, hB, hC', hG1, hG2, ?_, ?_⟩⟩, ⟨hb.os, hb.tape, hb.output, hb.size, fun b hb' _ => hb.block b hb'⟩, (fun x hx => by cases hx; exact Or.inr (Nat.le_refl _))⟩
 ·simp only [List.length_append, List.length_take, List.length_drop, hl, hvl]; omega
 ·rw [List.size_toArray]; exact r1
 simpa using r2
end Go.Proofs.YtffklmlljekceaaGreat
