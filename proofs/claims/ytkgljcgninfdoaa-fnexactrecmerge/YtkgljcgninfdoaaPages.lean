/-
  Pages (an array of 60 slots and how many are used): laws; impl.pageFrom.
-/
import Derived.Test.YtkgljcgninfdoaaSpecMerge
import Derived.Test.YtkgljcgninfdoaaDrawnRec
import Derived.Great.Walk
namespace Go.Proofs.Ytkgljcgninfdoaa
open Go.ChangeShapes Go.WideShapes Go.ChangeAt Go.RowKit
set_option linter.unusedVariables false
set_option linter.unusedSimpArgs false

theorem zero_size : Try.zeroCells76.size = 121 := by kernel_rfl
theorem zero_one : Try.zeroCells76.all (·.oneCell') = true := by kernel_rfl
theorem pageSize {n : Nat} (h : n = 121) : (Try.prog.info? 76).map (·.size) = some n := by rw [h]; kernel_rfl
/-- a page out of its block -/
theorem wpList_load_page {ops : Array Oper} {rest : List Oper} {dst : Option Tmp} {x : Operand} {τ : TypeId} {pos : String} {after : Array Edge} {a : Act} {w : World} {Q : Exit → Act → World → Prop}
    (g : Nat) (cs : Array Value) (hs : cs.size = 121) (hx : a.eval x = .pointer (some ⟨g, 0, none⟩)) (hg : Blk w g cs 76)
    (h : wpList Try.prog ops Q rest (a.put dst (.agg cs)) w) :
    wpList Try.prog ops Q ({ dst := dst, op := .load 76 x, type := τ, pos := pos, after := after, guard := none } :: rest) a w :=
  wpList_load_blk g cs _ hx hg Try.underlying76 rfl (pageSize hs) h
/-- a page into the block that was made last -/
theorem wpList_store_page {ops : Array Oper} {rest : List Oper} {dst : Option Tmp} {x y : Operand} {τ : TypeId} {pos : String} {after : Array Edge} {a : Act} {w0 : World} {c : Array Value} {Q : Exit → Act → World → Prop}
    (cells : Array Value) (hs : cells.size = 121) (hx : a.eval x = .pointer (some ⟨w0.heap.size, 0, none⟩)) (hy : a.eval y = .agg cells) (hc : c.size = 121) (h1 : cells.all (·.oneCell') = true)
    (h : wpList Try.prog ops Q rest (a.put dst undef) (w0.alloc (.cells cells 76))) :
    wpList Try.prog ops Q ({ dst := dst, op := .store 76 x y, type := τ, pos := pos, after := after, guard := none } :: rest) a (w0.alloc (.cells c 76)) :=
  wpList_store_last cells hx hy (pageSize hs) (by rw [hc, hs]) h1 h
/-- a page into a block that is known -/
theorem wpList_store_page_at {ops : Array Oper} {rest : List Oper} {dst : Option Tmp} {x y : Operand} {τ : TypeId} {pos : String} {after : Array Edge} {a : Act} {w : World} {Q : Exit → Act → World → Prop}
    (g : Nat) (old cells : Array Value) (hs : cells.size = 121) (ho : old.size = 121) (hx : a.eval x = .pointer (some ⟨g, 0, none⟩)) (hy : a.eval y = .agg cells) (hg : Blk w g old 76) (h1 : cells.all (·.oneCell') = true)
    (h : wpList Try.prog ops Q rest (a.put dst undef) (w.setRow g cells)) :
    wpList Try.prog ops Q ({ dst := dst, op := .store 76 x y, type := τ, pos := pos, after := after, guard := none } :: rest) a w :=
  wpList_store_row (o := { dst := dst, op := .store 76 x y, type := τ, pos := pos, after := after, guard := none }) rfl 76 x y rfl g cells hx hy 76 old hg (pageSize hs) (by rw [ho, hs]) h1 h

/-- copy of slots into a row that is known -/
theorem run_copy_slots (w : World) (ty : TypeId) (g o dLen dCap : Nat) (a : Addr) (sLen sCap : Nat) (cur : Array Value) (t : TypeId) (l : List Sl)
    (hg : w.heap[g]? = some (.cells cur t (0, 0))) (hm : l.length = Nat.min sLen dLen)
    (hsrc : ∀ j v, (flat l)[j]? = some v → w.cell? (a.add j) = some v) (hfit : o + (flat l).length ≤ cur.size) :
    (Builtin.copy_ #[27, 27] ty #[.slice (some ⟨g, o, none⟩) dLen dCap, .slice (some a) sLen sCap]).run Try.prog w =
      .ok (goInt l.length) (w.setRow g (cur.toList.take o ++ flat l ++ cur.toList.drop (o + (flat l).length)).toArray) := by
  have hl := run_loadCells_list (P := Try.prog) w a (flat l) hsrc
  have hst := run_storeCells_at Try.prog g o t (flat l) 0 cur w hg (by simpa using hfit) (flat_one l)
  obtain ⟨i, h1, h2, h3, h4⟩ := slotInfo
  have hn : l.length * 2 = (flat l).length := (flat_len l).symm
  simp [Builtin.copy_, run_underlying Try.underlying27, Builtin.lenOf, Builtin.firstCells, sizeOf, typeInfo, h1, h3, ← hm, hn, hl, hst]
theorem step_copy_slots {ops : Array Oper} {o : Oper} {a : Act} {w : World} {K : Act → World → Prop} {Q : Exit → Act → World → Prop} {E : Prop} (hgd : o.guard = none) (d s : Operand)
    (ho : o.op = .call { callee := .builtin .copy, args := #[d, s], argTypes := #[27, 27] }) (g off dLen dCap : Nat) (ad : Addr) (sLen sCap : Nat) (hd : a.eval d = .slice (some ⟨g, off, none⟩) dLen dCap) (hs : a.eval s = .slice (some ad) sLen sCap)
    (cur : Array Value) (t : TypeId) (l : List Sl) (hg : Blk w g cur t) (hm : l.length = Nat.min sLen dLen) (hsrc : ∀ j v, (flat l)[j]? = some v → w.cell? (ad.add j) = some v) (hfit : off + (flat l).length ≤ cur.size)
    (h : ∀ w' C, Hid (C = (cur.toList.take off ++ flat l ++ cur.toList.drop (off + (flat l).length)).toArray) → Hid (Blk w' g C t) → Hid (Below g w w') → K (a.put o.dst (goInt l.length)) w') :
    if Region.wanted o (yielded ops a.tmps) = true then Oper.wp Try.prog o a w K Q else E := by
  have hw : Region.wanted o (yielded ops a.tmps) = true := by simp [Region.wanted, hgd]
  rw [if_pos hw]
  have hrun := run_copy_slots w o.type g off dLen dCap ad sLen sCap cur t l hg hm hsrc hfit
  unfold Oper.wp
  simp only [execOp, ho, resolve, invoke, builtin, Sem.run_bind, Sem.run_pure, Result.andThen_ok, List.map_toArray, List.map_cons, List.map_nil, hd, hs, hrun]
  exact h _ _ rfl (setRow_heap w g cur _ t _ hg) ⟨rfl, rfl, rfl, by simp, fun k hk => setRow_other w g k _ (by omega)⟩
/-- the first slots of a page's cells -/
structure PageC (C : Array Value) (l : List Sl) : Prop where
  size : C.size = 121
  len : l.length ≤ 60
  at' : ∀ (i : Nat) s, l[i]? = some s → C[i * 2]? = some (.int .i64 s.1) ∧ C[i * 2 + 1]? = some (.string s.2)
  one : C.all (·.oneCell') = true
/-- a page: its slots, and how many -/
structure PageOk (C : Array Value) (l : List Sl) : Prop extends PageC C l where
  used : C[120]? = some (.int .i64 l.length)
theorem all_one_of {C : Array Value} (h : ∀ (j : Nat) v, C[j]? = some v → v.oneCell' = true) : C.all (·.oneCell') = true := by
  rw [Array.all_eq_true_iff_forall_mem]
  intro x hx
  obtain ⟨j, hj, rfl⟩ := Array.getElem_of_mem hx
  exact h j _ (Array.getElem?_eq_getElem hj)
theorem one_of_all {C : Array Value} (h : C.all (·.oneCell') = true) (j : Nat) (v : Value) (hv : C[j]? = some v) : v.oneCell' = true := by
  rw [Array.all_eq_true_iff_forall_mem] at h
  exact h v (Array.mem_of_getElem? hv)
theorem one_set {C : Array Value} (h : C.all (·.oneCell') = true) (k : Nat) {v : Value} (hv : v.oneCell' = true) : (C.setIfInBounds k v).all (·.oneCell') = true := all_one_of fun j u hu => by
  rw [Array.getElem?_setIfInBounds] at hu
  split at hu
  · split at hu
    · simp only [Option.some.injEq] at hu; rw [← hu]; exact hv
    · simp at hu
  · exact one_of_all h j u hu
/-- the page behind a copy, and its count -/
theorem page_copied (l : List Sl) (hl : l.length ≤ 60) : PageOk ((Try.zeroCells76.toList.take 0 ++ flat l ++ Try.zeroCells76.toList.drop (0 + (flat l).length)).toArray.setIfInBounds 120 (.int .i64 l.length)) l := by
  have hz := zero_size
  have hf := flat_len l
  have hsz : (Try.zeroCells76.toList.take 0 ++ flat l ++ Try.zeroCells76.toList.drop (0 + (flat l).length)).toArray.size = 121 := by
    simp only [List.take_zero, List.nil_append, List.size_toArray, List.length_append, List.length_drop, Array.length_toList]
    omega
  refine ⟨⟨by rw [Array.size_setIfInBounds]; exact hsz, hl, fun i s hs => ?_, one_set (all_one_of fun j v hv => ?_) 120 rfl⟩, ?_⟩
  · have hi : i < l.length := (List.getElem?_eq_some_iff.1 hs).1
    have := flat_at l i s hs
    rw [Array.getElem?_setIfInBounds_ne (by omega), Array.getElem?_setIfInBounds_ne (by omega), List.getElem?_toArray, List.getElem?_toArray, List.take_zero, List.nil_append, List.getElem?_append_left (by omega), List.getElem?_append_left (by omega)]
    exact this
  · have hm := List.mem_of_getElem? (by rw [List.getElem?_toArray] at hv; exact hv)
    simp only [List.take_zero, List.nil_append, List.mem_append] at hm
    rcases hm with hm | hm
    · exact flat_one l v hm
    · have h9 := zero_one
      rw [Array.all_eq_true_iff_forall_mem] at h9
      exact h9 v (by simpa using List.mem_of_mem_drop hm)
  · rw [Array.getElem?_setIfInBounds_self_of_lt (by rw [hsz]; omega)]
theorem page_zero : PageOk Try.zeroCells76 [] := by
  refine ⟨⟨zero_size, by simp, fun i s hs => by simp at hs, zero_one⟩, by kernel_rfl⟩

set_option maxHeartbeats 4000000 in
set_option maxRecDepth 20000 in
theorem pageFrom_any (g : Nat) (l : List Sl) (n start : Nat) (w : World) (hn : l.length = n) (hc : n ≤ 1048576) (hs : start ≤ 4194304) (h : Blk w g (flat l).toArray 69) :
    Calls Try.prog 42 #[.slice (some ⟨g, 0, none⟩) n n, .int .i64 start] w fun e w' => ∃ C, e = .returned (.agg C) ∧ PageOk C ((l.drop start).take 60) ∧ Below w.heap.size w w' := by
  have HL := hid hn
  clear hn
  by_cases hlt : start < n
  · have e1 : (0 : Int) ≤ (start : Int) := by omega
    have e2 : (start : Int) ≤ (n : Int) := by omega
    have e3 : (start : Int) < (n : Int) := by omega
    have e4 : ¬ n = start := by omega
    obtain ⟨l', hl'⟩ : ∃ l', l' = (l.drop start).take 60 := ⟨_, rfl⟩
    have HLL := hid hl'
    have HL60 := hid (show l'.length ≤ 60 by rw [hl', List.length_take]; omega)
    have HP := hid (page_copied l' HL60.out)
    rw [← hl']
    clear hl'
    go_enter Try.func42, Try.ntmps42
    have k0 : Blk ((w.alloc (.cells Try.zeroCells76 76)).alloc (.cells Try.zeroCells76 76)) w.heap.size Try.zeroCells76 76 := (Blk.new w _ _).alloc _
    have k1 : Blk ((w.alloc (.cells Try.zeroCells76 76)).alloc (.cells Try.zeroCells76 76)) (w.heap.size + 1) Try.zeroCells76 76 := Blk.new' _ _ (by simp)
    have hB : Below w.heap.size w ((w.alloc (.cells Try.zeroCells76 76)).alloc (.cells Try.zeroCells76 76)) := ext_alloc (ext_alloc (Below.refl _ _) _) _
    have hbg := (h.ext hB)
    have K0 := hid k0
    have K1 := hid k1
    have HB := hid hB
    have HG := hid hbg
    clear k0 k1 hB hbg h
    go_wp2_with fail
    refine wp_region_held_drew (S := fun _ => True) (by kernel_rfl) trivial (fun _ => ?_)
    simp only [List.size_toArray, List.length_cons, List.length_nil, Nat.reduceAdd, Array.replicate_succ, Array.replicate_zero, List.push_toArray, List.append_toArray, List.nil_append, List.cons_append]
    refine wpAnyH_take (i := 0) (v := ?_) (at_lit rfl) (by kernel_rfl) (by kernel_rfl) (by kernel_rfl) (fun _ _ _ h => h) (Or.inl ⟨by rfl, ?_⟩) trivial ?_
    rotate_left
    · (intro w9 hSw; clear hSw; go_simp; try with_reducible rfl)
    try simp only [Act.put, List.setIfInBounds_toArray, List.set_cons_zero, List.set_cons_succ]
    refine wpAnyH_take (i := 1) (v := ?_) (at_lit rfl) (by kernel_rfl) (by kernel_rfl) (by kernel_rfl) (fun _ _ _ h => h) (Or.inl ⟨by rfl, ?_⟩) trivial ?_
    rotate_left
    · (intro w9 hSw; clear hSw; go_simp; try with_reducible rfl)
    try simp only [Act.put, List.setIfInBounds_toArray, List.set_cons_zero, List.set_cons_succ]
    refine wpAnyH_take (i := 2) (v := ?_) (at_lit rfl) (by kernel_rfl) (by kernel_rfl) (by kernel_rfl) (fun _ _ _ h => h) (Or.inl ⟨by rfl, ?_⟩) trivial ?_
    rotate_left
    · (intro w9 hSw; clear hSw; go_simp; try with_reducible rfl)
    try simp only [Act.put, List.setIfInBounds_toArray, List.set_cons_zero, List.set_cons_succ]
    refine wpAnyH_take (i := 3) (v := ?_) (at_lit rfl) (by kernel_rfl) (by kernel_rfl) (by kernel_rfl) (fun _ _ _ h => h) (Or.inl ⟨by rfl, ?_⟩) trivial ?_
    rotate_left
    · (intro w9 hSw; clear hSw; go_simp; try with_reducible rfl)
    try simp only [Act.put, List.setIfInBounds_toArray, List.set_cons_zero, List.set_cons_succ]
    refine wpAnyH_take (i := 4) (v := ?_) (at_lit rfl) (by kernel_rfl) (by kernel_rfl) (by kernel_rfl) (fun _ _ _ h => h) (Or.inl ⟨by rfl, ?_⟩) trivial ?_
    rotate_left
    · (intro w9 hSw; clear hSw; go_simp; try with_reducible rfl)
    try simp only [Act.put, List.setIfInBounds_toArray, List.set_cons_zero, List.set_cons_succ]
    refine wpAnyH_ready (rs := [5]) (by kernel_rfl) (by simp) ?_
    refine AllReadyH.cons (at_lit rfl) (fun K hK => ?_) AllReadyH.nil
    refine step_copy_slots rfl (.tmp 11) (.tmp 14) rfl (w.heap.size + 1) 0 60 60 ⟨g, start * 2, none⟩ (n - start) (n - start) rfl rfl Try.zeroCells76 76 l' (Blk.drew K1.out) ?_ ?_ ?_ ?_
    · rw [HLL.out, List.length_take, List.length_drop, HL.out]; exact Nat.min_comm _ _
    · intro j v hv
      have hv2 := hv
      rw [HLL.out, flat_take, flat_drop] at hv2
      have hj : j < 60 * 2 := by
        have := (List.getElem?_eq_some_iff.1 hv2).1
        rw [List.length_take] at this
        omega
      rw [List.getElem?_take_of_lt hj, List.getElem?_drop] at hv2
      rw [Addr.add_mid]
      have hcell := (Blk.drew HG.out).cell (start * 2 + j)
      rw [hcell, List.getElem?_toArray]
      exact hv2
    · have h8 := flat_len l'
      have h7 := zero_size
      have h6 := HL60.out
      omega
    intro w2 C hC hBk hBe
    refine hK.out _ _ trivial (fun _ => ?_)
    clear hK K
    try simp only [Act.put, List.setIfInBounds_toArray, List.set_cons_zero, List.set_cons_succ]
    refine wpAnyH_take (i := 6) (v := ?_) (at_lit rfl) (by kernel_rfl) (by kernel_rfl) (by kernel_rfl) (fun _ _ _ h => h) (Or.inl ⟨by rfl, ?_⟩) trivial ?_
    rotate_left
    · (intro w9 hSw; clear hSw; go_simp; try with_reducible rfl)
    try simp only [Act.put, List.setIfInBounds_toArray, List.set_cons_zero, List.set_cons_succ]
    refine wpAnyH_ready (rs := [7]) (by kernel_rfl) (by simp) ?_
    refine AllReadyH.cons (at_lit rfl) (fun K hK => ?_) AllReadyH.nil
    have hCz : C.size = 121 := by
      have := HP.out.size
      rw [Array.size_setIfInBounds, ← hC.out] at this
      exact this
    obtain ⟨x, hx⟩ : ∃ x, C[120]? = some x := ⟨_, Array.getElem?_eq_getElem (by omega)⟩
    have c0 := (hBk.out.cell 120).trans hx
    have f0 := hBk.out.free 120
    go_simp
    refine hK.out _ _ trivial (fun _ => ?_)
    clear hK K c0 f0 hx hCz
    try simp only [Act.put, List.setIfInBounds_toArray, List.set_cons_zero, List.set_cons_succ]
    refine wpAnyH_done (by kernel_rfl) ?_ _
    rw [← hC.out] at HP
    have b1 := hid (heap_setCell_same w2 (w.heap.size + 1) 120 C 76 (.int .i64 l'.length) hBk.out)
    have b0 := hid (show Blk (w2.setCell ⟨w.heap.size + 1, 120, none⟩ (.int .i64 l'.length)) w.heap.size Try.zeroCells76 76 from ((Blk.drew K0.out).below hBe.out (by omega)).setCell (by simp) _)
    have bb := hid (show Below w.heap.size w (w2.setCell ⟨w.heap.size + 1, 120, none⟩ (.int .i64 l'.length)) from ((HB.out.drew).trans (hBe.out.mono (by omega))).setCell (by simp) _)
    clear hBk hBe hC
    go_wp2_with (first
      | ((with_reducible refine wpList_load_page (w.heap.size + 1) (C.setIfInBounds 120 (.int .i64 l'.length)) HP.out.size ?_ ?_ ?_); (· rfl); (· exact b1.out))
      | ((with_reducible refine wpList_store_page_at w.heap.size Try.zeroCells76 (C.setIfInBounds 120 (.int .i64 l'.length)) HP.out.size zero_size ?_ ?_ ?_ ?_ ?_); (· rfl); (· rfl); (· exact b0.out); (· exact HP.out.one)))
    refine ret_cell (ty := 76) Try.results42 w.heap.size (C.setIfInBounds 120 (.int .i64 l'.length)) _ ?_ ?_ (setRow_heap _ w.heap.size _ _ _ _ b0.out) Try.underlying76 rfl (pageSize HP.out.size) ⟨_, rfl, HP.out, bb.out.trans ⟨rfl, rfl, rfl, by simp, fun k hk => setRow_other _ w.heap.size k _ (by omega)⟩⟩
    · rfl
    · rfl
  · go_enter Try.func42, Try.ntmps42
    have k0 : Blk ((w.alloc (.cells Try.zeroCells76 76)).alloc (.cells Try.zeroCells76 76)) w.heap.size Try.zeroCells76 76 := (Blk.new w _ _).alloc _
    have k1 : Blk ((w.alloc (.cells Try.zeroCells76 76)).alloc (.cells Try.zeroCells76 76)) (w.heap.size + 1) Try.zeroCells76 76 := Blk.new' _ _ (by simp)
    have hB : Below w.heap.size w ((w.alloc (.cells Try.zeroCells76 76)).alloc (.cells Try.zeroCells76 76)) := ext_alloc (ext_alloc (Below.refl _ _) _) _
    have K0 := hid k0
    have K1 := hid k1
    have HB := hid hB
    clear k0 k1 hB
    go_wp2_with (first
      | ((with_reducible refine wpList_load_page (w.heap.size + 1) Try.zeroCells76 zero_size ?_ ?_ ?_); (· rfl); (· exact K1.out))
      | ((with_reducible refine wpList_store_page_at w.heap.size Try.zeroCells76 Try.zeroCells76 zero_size zero_size ?_ ?_ ?_ ?_ ?_); (· rfl); (· rfl); (· exact K0.out); (· exact zero_one)))
    refine ret_cell (ty := 76) Try.results42 w.heap.size Try.zeroCells76 _ ?_ ?_ (setRow_heap _ w.heap.size _ _ _ _ K0.out) Try.underlying76 rfl (pageSize zero_size) ⟨_, rfl, ?_, HB.out.trans ⟨rfl, rfl, rfl, by simp, fun k hk => setRow_other _ w.heap.size k _ (by omega)⟩⟩
    · rfl
    · rfl
    · rw [List.drop_eq_nil_of_le (by rw [HL.out]; omega), List.take_nil]; exact page_zero
end Go.Proofs.Ytkgljcgninfdoaa
