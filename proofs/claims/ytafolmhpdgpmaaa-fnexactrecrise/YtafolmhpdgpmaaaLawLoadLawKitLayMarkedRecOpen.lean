import Derived.Test.YtafolmhpdgpmaaaDrawnRec
import Derived.Test.YtafolmhpdgpmaaaRecLay
import Derived.Test.YtafolmhpdgpmaaaHasRec
import Derived.Test.YtafolmhpdgpmaaaRec
import Derived.Deep.Strs
/-
  The recorders that a law keeps in its own blocks, read.
-/
namespace Go.Proofs.Ytafolmhpdgpmaaa
open Go.ChangeShapes Go.WideShapes Go.ChangeAt Go.RowKit
set_option linter.unusedVariables false
set_option linter.unusedSimpArgs false

/-- a laws.Recorder out of its block -/
theorem wpList_load_lrec {ops : Array Oper} {rest : List Oper} {dst : Option Tmp} {x : Operand} {τ : TypeId} {pos : String} {after : Array Edge} {a : Act} {w : World} {Q : Exit → Act → World → Prop}
    (g : Nat) (cs : Array Value) (hs : cs.size = 18) (hx : a.eval x = .pointer (some ⟨g, 0, none⟩)) (hg : Blk w g cs 37)
    (h : wpList Try.prog ops Q rest (a.put dst (.agg cs)) w) :
    wpList Try.prog ops Q ({ dst := dst, op := .load 37 x, type := τ, pos := pos, after := after, guard := none } :: rest) a w :=
  wpList_load_blk g cs _ hx hg Try.underlying37 rfl (by rw [hs]; kernel_rfl) h
/-- the law's two recorders lie in their blocks; what was there at B is as it was -/
structure LawS (B : World) (g1 g2 : Nat) (r : Rc) (p q : RcP) (w' : World) : Prop where
  blk : Blk w' g1 (rcV r p) 37
  own : Blk w' g2 (rcV r q) 44
  bel : Below B.heap.size B w'
theorem LawS.ext {B : World} {g1 g2 : Nat} {r : Rc} {p q : RcP} {w' v' : World} (h : LawS B g1 g2 r p q w') (hb : Below w'.heap.size w' v') : LawS B g1 g2 r p q v' := ⟨h.blk.ext hb, h.own.ext hb, ext_trans h.bel hb⟩
theorem LawS.drew {B : World} {g1 g2 : Nat} {r : Rc} {p q : RcP} {w' : World} (h : LawS B g1 g2 r p q w') : LawS B g1 g2 r p q w'.drew := ⟨h.blk, h.own, h.bel.drew⟩
theorem yields_law {ops : Array Oper} {o : Oper} {a : Act} {B : World} {g1 g2 : Nat} {r : Rc} {p q : RcP} (hw : Region.wanted o (yielded ops a.tmps) = true) (x : Operand) (ho : o.op = .load 37 x) (hx : a.eval x = .pointer (some ⟨g1, 0, none⟩)) :
    YieldsIf Try.prog ops (LawS B g1 g2 r p q) o (.agg (rcV r p)) a :=
  .inl ⟨hw, fun w hS => by
    unfold execOp
    simp only [ho, hx, Instr.loadAt, Instr.sureAddr, Sem.run_bind, Sem.run_pure, Result.andThen_ok, run_loadVar_row w g1 37 37 (rcV r p) (0, 0) _ hS.blk Try.underlying37 rfl (by kernel_rfl)]⟩
theorem yields_own {ops : Array Oper} {o : Oper} {a : Act} {B : World} {g1 g2 : Nat} {r : Rc} {p q : RcP} (hw : Region.wanted o (yielded ops a.tmps) = true) (x : Operand) (ho : o.op = .load 44 x) (hx : a.eval x = .pointer (some ⟨g2, 0, none⟩)) :
    YieldsIf Try.prog ops (LawS B g1 g2 r p q) o (.agg (rcV r q)) a :=
  .inl ⟨hw, fun w hS => by
    unfold execOp
    simp only [ho, hx, Instr.loadAt, Instr.sureAddr, Sem.run_bind, Sem.run_pure, Result.andThen_ok, run_loadVar_row w g2 44 44 (rcV r q) (0, 0) _ hS.own Try.underlying44 rfl (by kernel_rfl)]⟩
end Go.Proofs.Ytafolmhpdgpmaaa

/-
  For the laws' walks: how far the marks count; what marks leave as it was.
-/
namespace Go.Proofs.Ytafolmhpdgpmaaa
open Go.ChangeShapes Go.WideShapes Go.ChangeAt Go.RowKit
set_option linter.unusedVariables false
set_option linter.unusedSimpArgs false

theorem kM_bound {N : Nat → Nat} {k : Nat} (hN : ∀ j, N j ≤ 1048576) : ∀ n, kM N k n ≤ k + n * 2097159
  | 0 => by simp [kM]
  | n + 1 => by
    have h1 := kM_bound (k := k) hN n
    have h2 := hN n
    rw [kM_step]
    omega
theorem kA_bound {N : Nat → Nat} {k : Nat} (hN : ∀ j, N j ≤ 1048576) : ∀ n, kA N k n ≤ k + n * 1048577
  | 0 => by simp [kA]
  | n + 1 => by
    have h1 := kA_bound (k := k) hN n
    have h2 := hN n
    rw [kA_step]
    omega
theorem lenM_small {l : List Ms} (h : MsgsSmall l) : ∀ i, lenM l i ≤ 1048576 := fun i => by
  unfold lenM
  cases h0 : l[i]? with
  | none => simp
  | some s => exact h i s h0
theorem lenA_small {l : List Ak} (h : AcksSmall l) : ∀ i, lenA l i ≤ 1048576 := fun i => by
  unfold lenA
  cases h0 : l[i]? with
  | none => simp
  | some s => exact h i s h0
theorem cnt_le {r : Rc} (h : RcSmall r) : cnt r (lenM r.held) (lenA r.acks) 1 7 ≤ 1152921504606846900 := by
  have h1 := kM_bound (k := 1 + 2 * r.ss.length + 2 * r.ds.length) (lenM_small h.nH) r.held.length
  have h2 := kA_bound (k := kM (lenM r.held) (1 + 2 * r.ss.length + 2 * r.ds.length) r.held.length + r.wish.length + r.yes.length + 2 * r.best.length) (lenA_small h.nA) r.acks.length
  have := h.lS
  have := h.lD
  have := h.lH
  have := h.lW
  have := h.lY
  have := h.lB
  have := h.lA
  simp only [cnt]
  omega
theorem Wrote.below {B : Nat} {a w w' : World} {ws : Ws} (h : Below B a w) (k : Wrote w w' ws) (ha : B ≤ a.heap.size) (hB : ∀ q ∈ ws, B ≤ q.1.block) : Below B a w' :=
  h.trans ⟨k.os, k.tape, k.output, k.size, fun i hi => k.block i (Nat.lt_of_lt_of_le hi (Nat.le_trans ha h.size)) (fun q hq => by have := hB q hq; omega)⟩
theorem OneAt.wrote {α : Type} {enc : α → Value} {good : α → Prop} {w w' : World} {a : Option Addr} {l : List α} {ws : Ws} (h : OneAt enc good w a l) (k : Wrote w w' ws) (hd : ∀ x, a = some x → ∀ q ∈ ws, q.1.block ≠ x.block) : OneAt enc good w' a l := fun i s hs => by
  obtain ⟨b, off, ha, hlt, c0, r⟩ := h i s hs
  refine ⟨b, off, ha, Nat.lt_of_lt_of_le hlt k.size, (k.keep _ hlt fun q hq e => ?_).trans c0, r⟩
  have := hd _ ha q hq
  rw [e] at this
  exact this rfl
/-- what marks wrote is still there -/
theorem marks_ext {w w' : World} {ws : Ws} (h : ∀ q ∈ ws, w.cell? q.1 = some q.2) (hl : ∀ q ∈ ws, q.1.block < w.heap.size) (k : Below w.heap.size w w') : ∀ q ∈ ws, w'.cell? q.1 = some q.2 := fun q hq => (k.cell (p := q.1) (hl q hq)).trans (h q hq)
theorem wsTo_zone {r : Rc} {p : RcP} {AH : Nat → Option Addr} {NH : Nat → Nat} {AA : Nat → Option Addr} {NA : Nat → Nat} {k m : Nat} {q : Addr × Value} (h : q ∈ wsTo r p AH NH AA NA k m) : ∃ i, zone r p AH NH AA NA i q.1 := by
  obtain ⟨i, _, hi⟩ := wsTo_mem r p AH NH AA NA k m q h
  exact ⟨i, wsL_zone r p AH NH AA NA k i q hi⟩
end Go.Proofs.Ytafolmhpdgpmaaa

/-
  Behind its own marks a recorder still lies as it lay.
-/
namespace Go.Proofs.Ytafolmhpdgpmaaa
open Go.ChangeShapes Go.WideShapes Go.ChangeAt Go.RowKit
set_option linter.unusedVariables false
set_option linter.unusedSimpArgs false

theorem Room.some {w : World} {a : Option Addr} {m j : Nat} (h : Room w a m) (hj : j < m) : ∃ b off, a = some ⟨b, off, none⟩ := by
  obtain ⟨b, off, e, _⟩ := h j hj
  exact ⟨b, off, e⟩
theorem Room.adr_inj {w : World} {a : Option Addr} {m j i : Nat} (h : Room w a m) (hj : j < m) (e : adr a i = adr a j) : i = j := by
  obtain ⟨b, off, rfl⟩ := h.some hj
  rw [adr_some, adr_some] at e
  simp only [Addr.mk.injEq, true_and, and_true] at e
  omega
theorem LayM.marked {w w' : World} {a : Option Addr} {A : Nat → Option Addr} {N cp : Nat → Nat} {n : Nat} {ws : Ws} (h : LayM w a A N cp n) (k : Wrote w w' ws) (hn : ∀ q ∈ ws, ∀ i, i < n → q.1 ≠ adr a (i * 8 + 7)) : LayM w' a A N cp n :=
  ⟨h.room.wrote k, fun i hi => (k.keep _ (h.room.lt (by omega)) (fun q hq => hn q hq i hi)).trans (h.hd i hi), fun i hi => (h.inner i hi).wrote k, h.far, h.apart⟩
theorem LayA.marked {w w' : World} {a : Option Addr} {A : Nat → Option Addr} {N cp : Nat → Nat} {n : Nat} {ws : Ws} (h : LayA w a A N cp n) (k : Wrote w w' ws) (hn : ∀ q ∈ ws, ∀ i, i < n → q.1 ≠ adr a (i * 2 + 1)) : LayA w' a A N cp n :=
  ⟨h.room.wrote k, fun i hi => (k.keep _ (h.room.lt (by omega)) (fun q hq => hn q hq i hi)).trans (h.hd i hi), fun i hi => (h.inner i hi).wrote k, h.far, h.apart⟩
theorem RcLay.marked {w w' : World} {r : Rc} {p : RcP} {AH : Nat → Option Addr} {NH cH : Nat → Nat} {AA : Nat → Option Addr} {NA cA : Nat → Nat} {k : Nat} (h : RcLay w r p AH NH cH AA NA cA) (hw : Wrote w w' (wsTo r p AH NH AA NA k 7)) : RcLay w' r p AH NH cH AA NA cA := by
  refine ⟨h.s.wrote hw, h.d.wrote hw, h.h.marked hw (fun q hq i hi e => ?_), h.t.wrote hw, h.y.wrote hw, h.b.wrote hw, h.a.marked hw (fun q hq i hi e => ?_), h.far⟩
  · obtain ⟨j, hj, hm⟩ := wsTo_mem r p AH NH AA NA k 7 q hq
    have z2 : zone r p AH NH AA NA 2 q.1 := .inl ⟨i * 8 + 7, by omega, e⟩
    by_cases h2 : j = 2
    · subst h2
      rcases wsM_mem _ _ _ _ _ q hm with ⟨i', t, h1, h2, h3⟩ | ⟨i', j', h1, h2, h3⟩
      · rw [h3] at e
        have := h.h.room.adr_inj (j := i * 8 + 7) (by omega) e
        omega
      · rw [h3] at e
        exact h.h.far i' j' (i * 8 + 7) h1 h2 (by omega) e
    · exact h.far j 2 q.1 h2 (wsL_zone r p AH NH AA NA k j q hm) z2
  · obtain ⟨j, hj, hm⟩ := wsTo_mem r p AH NH AA NA k 7 q hq
    have z2 : zone r p AH NH AA NA 6 q.1 := .inl ⟨i * 2 + 1, by omega, e⟩
    by_cases h2 : j = 6
    · subst h2
      rcases wsA_mem _ _ _ _ _ q hm with ⟨i', t, h1, h2, h3⟩ | ⟨i', j', h1, h2, h3⟩
      · rw [h3] at e
        have := h.a.room.adr_inj (j := i * 2 + 1) (by omega) e
        omega
      · rw [h3] at e
        exact h.a.far i' j' (i * 2 + 1) h1 h2 (by omega) e
    · exact h.far j 6 q.1 h2 (wsL_zone r p AH NH AA NA k j q hm) z2
end Go.Proofs.Ytafolmhpdgpmaaa

/-
  What the reading of an argument tells: numbers, texts, acks, messages, a recorder.
-/
namespace Go.Proofs.Ytafolmhpdgpmaaa
open Go.ChangeShapes Go.WideShapes Go.ChangeAt Go.RowKit Go.Deep Go.Joins
set_option linter.unusedVariables false
set_option linter.unusedSimpArgs false

theorem ints_open {H : Type} {enc : TypeId × Value → H} {W : World} {sp : Nat → Bool} {fuel : Nat} {v : Value} {y : DataW H × List MemPlace} (h : DataW.trod enc Try.prog W 0 sp true fuel 34 [v] = some y) :
    ∃ a n cap l, v = .slice a n cap ∧ List.length l = n ∧ n ≤ maxLen ∧ IntsAt W a l := by
  rcases open_ints Try.underlying34 Try.underlying3 (by kernel_rfl) h with ⟨hcs, _⟩ | ⟨x, len, cap, zs, hcs, _, hl, hm, hz, _, hx, hw⟩
  · simp only [List.cons.injEq, and_true] at hcs
    exact ⟨none, 0, 0, [], hcs, rfl, by unfold maxLen; omega, fun i s hs => by simp at hs⟩
  · simp only [List.cons.injEq, and_true] at hcs
    have hlm : len ≤ zs.length := by rw [hz]; split <;> omega
    refine ⟨some x, len, cap, zs.take len, hcs, by simp; omega, by omega, fun i s hs => ?_⟩
    have hi : i < len := by
      have := (List.getElem?_eq_some_iff.1 hs).1
      simp at this
      omega
    rw [List.getElem?_take_of_lt hi] at hs
    have c0 := hx i (by omega)
    rw [show zs.getD i 0 = s by simp [List.getD, hs]] at c0
    obtain ⟨b, off, spot⟩ := x
    have hspot : spot = none := by simpa [Addr.add] using World.cell?_spot (hx 0 (by omega))
    subst hspot
    rw [Addr.add_mid] at c0
    exact ⟨b, off, rfl, World.block_lt_of_cell? W _ c0, c0, hw s (List.mem_of_getElem? hs)⟩
theorem strs_open {H : Type} {enc : TypeId × Value → H} {W : World} {sp : Nat → Bool} {fuel : Nat} {v : Value} {y : DataW H × List MemPlace} (h : DataW.trod enc Try.prog W 0 sp true fuel 33 [v] = some y) :
    ∃ a n cap l, v = .slice a n cap ∧ List.length l = n ∧ n ≤ maxLen ∧ StrsAt W a l := by
  rcases open_strs Try.underlying33 Try.underlying9 (by kernel_rfl) h with ⟨hcs, _⟩ | ⟨x, len, cap, m, S, hcs, _, hl, hm, hmm, _, hx⟩
  · simp only [List.cons.injEq, and_true] at hcs
    exact ⟨none, 0, 0, [], hcs, rfl, by unfold maxLen; omega, fun i s hs => by simp at hs⟩
  · simp only [List.cons.injEq, and_true] at hcs
    have hlm : len ≤ m := by rw [hmm]; split <;> omega
    refine ⟨some x, len, cap, (List.range len).map S, hcs, by simp, by omega, fun i s hs => ?_⟩
    have hi : i < len := by
      have := (List.getElem?_eq_some_iff.1 hs).1
      simpa using this
    simp only [List.getElem?_map, List.getElem?_range hi, Option.map_some, Option.some.injEq] at hs
    subst hs
    obtain ⟨c0, ht⟩ := hx i (by omega)
    obtain ⟨b, off, spot⟩ := x
    have hspot : spot = none := by simpa [Addr.add] using World.cell?_spot (hx 0 (by omega)).1
    subst hspot
    rw [Addr.add_mid] at c0
    exact ⟨b, off, rfl, World.block_lt_of_cell? W _ c0, c0, ht⟩
theorem acks_open {H : Type} {enc : TypeId × Value → H} {W : World} {sp : Nat → Bool} {fuel : Nat} {v : Value} {y : DataW H × List MemPlace} (h : DataW.trod enc Try.prog W 0 sp true fuel 35 [v] = some y) :
    ∃ a n cap l, v = .slice a n cap ∧ List.length l = n ∧ n ≤ maxLen ∧ AcksAt W a l := by
  rcases open_slice_pairs Try.underlying35 Try.underlying103 (by kernel_rfl) rfl rfl (by kernel_rfl) (by kernel_rfl) h with ⟨hcs, _⟩ | ⟨x, len, cap, m, k, V0, V1, D0, D1, P0, P1, hcs, _, hl, hm, hmm, _, hx⟩
  · simp only [List.cons.injEq, and_true] at hcs
    exact ⟨none, 0, 0, [], hcs, rfl, by unfold maxLen; omega, fun i s hs => by simp at hs⟩
  · simp only [List.cons.injEq, and_true] at hcs
    have hlm : len ≤ m := by rw [hmm]; split <;> omega
    have each : ∀ i, i < len → ∃ q : (Int × List Int) × (Option Addr × Nat), V0 i = .int .i64 q.1.1 ∧ V1 i = .slice q.2.1 q.1.2.length q.2.2 ∧ wfI q.1.1 ∧ q.1.2.length ≤ maxLen ∧ IntsAt W q.2.1 q.1.2 := fun i hi => by
      obtain ⟨c0, c1, t0, t1⟩ := hx i (by omega)
      obtain ⟨z, e0, _, wz⟩ := DataW.trod_int Try.underlying3 t0
      obtain ⟨a, n, c, l, e1, hn, hmx, hI⟩ := ints_open t1
      simp only [List.cons.injEq, and_true] at e0
      subst hn
      exact ⟨((z, l), (a, c)), e0, e1, wz, hmx, hI⟩
    obtain ⟨q, hq⟩ := choose_lt each
    refine ⟨some x, len, cap, (List.range len).map fun i => (q i).1, hcs, by simp, by omega, fun i s hs => ?_⟩
    have hi : i < len := by
      have := (List.getElem?_eq_some_iff.1 hs).1
      simpa using this
    simp only [List.getElem?_map, List.getElem?_range hi, Option.map_some, Option.some.injEq] at hs
    subst hs
    obtain ⟨c0, c1, t0, t1⟩ := hx i (by omega)
    obtain ⟨e0, e1, r1, r2, r3⟩ := hq i hi
    obtain ⟨b, off, spot⟩ := x
    have hspot : spot = none := by simpa [Addr.add] using World.cell?_spot (hx 0 (by omega)).1
    subst hspot
    rw [Addr.add_mid] at c0 c1
    rw [e0] at c0
    rw [e1] at c1
    exact ⟨b, off, (q i).2.1, (q i).2.2, rfl, World.block_lt_of_cell? W _ c0, c0, by simpa [Nat.add_assoc] using c1, r1, r2, r3⟩
theorem msgs_open {H : Type} {enc : TypeId × Value → H} {W : World} {sp : Nat → Bool} {fuel : Nat} {v : Value} {y : DataW H × List MemPlace} (h : DataW.trod enc Try.prog W 0 sp true fuel 32 [v] = some y) :
    ∃ a n cap l, v = .slice a n cap ∧ List.length l = n ∧ n ≤ maxLen ∧ MsgsAt W a l := by
  rcases open_slice Try.underlying32 h with ⟨hcs, _⟩ | ⟨x, len, cap, m, k, D, Pl, hcs, _, hl, hm, hmm, _, hx⟩
  · simp only [List.cons.injEq, and_true] at hcs
    exact ⟨none, 0, 0, [], hcs, rfl, by unfold maxLen; omega, fun i s hs => by simp at hs⟩
  · simp only [List.cons.injEq, and_true] at hcs
    have hlm : len ≤ m := by rw [hmm]; split <;> omega
    rw [cellsLMsg] at hx
    have inh : Inhabited MsgH := ⟨⟨0, 0, 0, 0, 0, 0, ByteArray.empty⟩⟩
    have each : ∀ i, i < len → ∃ q : (MsgH × List Sl) × (Option Addr × Nat), (∀ j, j < 8 → W.cell? ((x.add (i * 8)).add j) = (msgV q.1.1 (.slice q.2.1 q.1.2.length q.2.2)).toList[j]?) ∧ q.1.1.x.size ≤ maxLen ∧ q.1.2.length ≤ maxLen ∧ SlotsAt W q.2.1 q.1.2 := fun i hi => by
      obtain ⟨cs, h1, h2⟩ := hx i (by omega)
      obtain ⟨_, _, hcell⟩ := World.cells?_some h1
      obtain ⟨mm, a, n, c, l, rfl, hmx, hn, hnm, hsl⟩ := msg_cells h2
      subst hn
      exact ⟨((mm, l), (a, c)), hcell, hmx, hnm, hsl⟩
    obtain ⟨q, hq⟩ := choose_lt each
    refine ⟨some x, len, cap, (List.range len).map fun i => (q i).1, hcs, by simp, by omega, fun i s hs => ?_⟩
    have hi : i < len := by
      have := (List.getElem?_eq_some_iff.1 hs).1
      simpa using this
    simp only [List.getElem?_map, List.getElem?_range hi, Option.map_some, Option.some.injEq] at hs
    subst hs
    obtain ⟨hc, r1, r2, r3⟩ := hq i hi
    obtain ⟨b, off, spot⟩ := x
    have hspot : spot = none := by simpa [Addr.add] using World.cell?_spot (((hq 0 (by omega)).1 0 (by omega)).trans rfl)
    subst hspot
    have c0 := hc 0 (by omega)
    have c1 := hc 1 (by omega)
    have c2 := hc 2 (by omega)
    have c3 := hc 3 (by omega)
    have c4 := hc 4 (by omega)
    have c5 := hc 5 (by omega)
    have c6 := hc 6 (by omega)
    have c7 := hc 7 (by omega)
    rw [Addr.add_mid, Addr.add_mid] at c0 c1 c2 c3 c4 c5 c6 c7
    exact ⟨b, off, (q i).2.1, (q i).2.2, rfl, World.block_lt_of_cell? W _ c0, c0, c1, c2, c3, c4, c5, c6, c7, r1, r2, r3⟩
theorem bool_of {H : Type} {enc : TypeId × Value → H} {W : World} {sp : Nat → Bool} {fuel : Nat} {c : Value} {o : Option (DataW H × List MemPlace)} (h : DataW.trod enc Try.prog W 0 sp true fuel 4 [c] = o) (ho : o.isSome = true) : ∃ b, c = .bool b := by
  obtain ⟨y, rfl⟩ := Option.isSome_iff_exists.1 ho
  obtain ⟨z, e, _⟩ := DataW.trod_bool Try.underlying4 h
  simp only [List.cons.injEq, and_true] at e
  exact ⟨z, e⟩
theorem ints_ofT {H : Type} {enc : TypeId × Value → H} {W : World} {sp : Nat → Bool} {fuel : Nat} {c : Value} {o : Option (DataW H × List MemPlace)} (h : DataW.trod enc Try.prog W 0 sp true fuel 34 [c] = o) (ho : o.isSome = true) : ∃ a n cap l, c = .slice a n cap ∧ List.length l = n ∧ n ≤ maxLen ∧ IntsAt W a l := by
  obtain ⟨y, rfl⟩ := Option.isSome_iff_exists.1 ho
  exact ints_open h
theorem strs_ofT {H : Type} {enc : TypeId × Value → H} {W : World} {sp : Nat → Bool} {fuel : Nat} {c : Value} {o : Option (DataW H × List MemPlace)} (h : DataW.trod enc Try.prog W 0 sp true fuel 33 [c] = o) (ho : o.isSome = true) : ∃ a n cap l, c = .slice a n cap ∧ List.length l = n ∧ n ≤ maxLen ∧ StrsAt W a l := by
  obtain ⟨y, rfl⟩ := Option.isSome_iff_exists.1 ho
  exact strs_open h
theorem acks_ofT {H : Type} {enc : TypeId × Value → H} {W : World} {sp : Nat → Bool} {fuel : Nat} {c : Value} {o : Option (DataW H × List MemPlace)} (h : DataW.trod enc Try.prog W 0 sp true fuel 35 [c] = o) (ho : o.isSome = true) : ∃ a n cap l, c = .slice a n cap ∧ List.length l = n ∧ n ≤ maxLen ∧ AcksAt W a l := by
  obtain ⟨y, rfl⟩ := Option.isSome_iff_exists.1 ho
  exact acks_open h
theorem msgs_ofT {H : Type} {enc : TypeId × Value → H} {W : World} {sp : Nat → Bool} {fuel : Nat} {c : Value} {o : Option (DataW H × List MemPlace)} (h : DataW.trod enc Try.prog W 0 sp true fuel 32 [c] = o) (ho : o.isSome = true) : ∃ a n cap l, c = .slice a n cap ∧ List.length l = n ∧ n ≤ maxLen ∧ MsgsAt W a l := by
  obtain ⟨y, rfl⟩ := Option.isSome_iff_exists.1 ho
  exact msgs_open h
theorem list3 {α : Type} {l : List α} (h : l.length = 3) : ∃ c0 c1 c2, l = [c0, c1, c2] := by
  match l, h with
  | [c0, c1, c2], _ => exact ⟨c0, c1, c2, rfl⟩
theorem cellsLDisk : Try.prog.cellsOf 31 = 3 := by kernel_rfl
theorem cellsInts : Try.prog.cellsOf 34 = 1 := by kernel_rfl
theorem cellsStrs : Try.prog.cellsOf 33 = 1 := by kernel_rfl
theorem cellsLAcks : Try.prog.cellsOf 35 = 1 := by kernel_rfl
theorem cellsLMsgs : Try.prog.cellsOf 32 = 1 := by kernel_rfl
theorem cellsLRec : Try.prog.cellsOf 37 = 18 := by kernel_rfl
set_option maxRecDepth 100000 in
theorem disk_cells {H : Type} {enc : TypeId × Value → H} {W : World} {sp : Nat → Bool} {fuel : Nat} {cs : List Value} {o : Option (DataW H × List MemPlace)} (h : DataW.trod enc Try.prog W 0 sp true fuel 31 cs = o) (ho : o.isSome = true) :
    ∃ x y a n cap l, cs = [.int .i64 x, .int .i64 y, .slice a n cap] ∧ List.length l = n ∧ n ≤ maxLen ∧ SlotsAt W a l := by
  obtain ⟨y, rfl⟩ := Option.isSome_iff_exists.1 ho
  obtain ⟨xs, k, _, _, hl, hlen, hf⟩ := DataW.trod_struct Try.underlying31 h
  rw [cellsLDisk] at hl
  obtain ⟨c0, c1, c2, rfl⟩ := list3 hl
  have hlen' : xs.length = 3 := hlen
  have f0 : DataW.trod enc Try.prog W 0 sp true k 3 (List.take (Try.prog.cellsOf 3) (List.drop 0 [c0, c1, c2])) = xs[0]? := hf 0 _ rfl
  have f1 : DataW.trod enc Try.prog W 0 sp true k 3 (List.take (Try.prog.cellsOf 3) (List.drop 1 [c0, c1, c2])) = xs[1]? := hf 1 _ rfl
  have f2 : DataW.trod enc Try.prog W 0 sp true k 22 (List.take (Try.prog.cellsOf 22) (List.drop 2 [c0, c1, c2])) = xs[2]? := hf 2 _ rfl
  simp only [cellsInt, cellsLSlots, List.drop_succ_cons, List.drop_zero, List.take_succ_cons, List.take_zero] at f0 f1 f2
  obtain ⟨z0, rfl, _⟩ := int_of f0 (some_of hlen' 0 (by omega))
  obtain ⟨z1, rfl, _⟩ := int_of f1 (some_of hlen' 1 (by omega))
  obtain ⟨a, n, cap, l, rfl, hn, hm, hs⟩ := slots_of f2 (some_of hlen' 2 (by omega))
  exact ⟨z0, z1, a, n, cap, l, rfl, hn, hm, hs⟩
theorem list18 {α : Type} {l : List α} (h : l.length = 18) : ∃ c0 c1 c2 c3 c4 c5 c6 c7 c8 c9 c10 c11 c12 c13 c14 c15 c16 c17, l = [c0, c1, c2, c3, c4, c5, c6, c7, c8, c9, c10, c11, c12, c13, c14, c15, c16, c17] := by
  match l, h with
  | [c0, c1, c2, c3, c4, c5, c6, c7, c8, c9, c10, c11, c12, c13, c14, c15, c16, c17], _ => exact ⟨c0, c1, c2, c3, c4, c5, c6, c7, c8, c9, c10, c11, c12, c13, c14, c15, c16, c17, rfl⟩
set_option maxRecDepth 100000 in
set_option maxHeartbeats 4000000 in
/-- a laws.Recorder that came in -/
theorem rec_open {H : Type} {enc : TypeId × Value → H} {W : World} {base : Nat} {v : Value} {d : DataW H} {p : List MemPlace}
    (hv : Value.okWide Try.prog W .any base 37 v) (h : DataW.Trod enc Try.prog W 0 (fun _ => true) true 37 v d p) :
    ∃ r p, v = .agg (rcV r p) ∧ RcAt W r p := by
  obtain ⟨cs, rfl, _⟩ := okWide_struct Try.underlying37 hv
  obtain ⟨fuel, hf0⟩ := h
  obtain ⟨xs, k, _, _, hl, hlen, hf⟩ := DataW.trod_struct Try.underlying37 hf0
  rw [cellsLRec] at hl
  have hl' : cs.toList.length = 18 := by simpa [Value.cells] using hl
  obtain ⟨c0, c1, c2, c3, c4, c5, c6, c7, c8, c9, c10, c11, c12, c13, c14, c15, c16, c17, hcs⟩ := list18 hl'
  have hvc : (Value.agg cs).cells.toList = [c0, c1, c2, c3, c4, c5, c6, c7, c8, c9, c10, c11, c12, c13, c14, c15, c16, c17] := by simpa [Value.cells] using hcs
  have hlen' : xs.length = 14 := hlen
  have f0 : DataW.trod enc Try.prog W 0 (fun _ => true) true k 3 (List.take (Try.prog.cellsOf 3) (List.drop 0 (Value.agg cs).cells.toList)) = xs[0]? := hf 0 _ rfl
  have f1 : DataW.trod enc Try.prog W 0 (fun _ => true) true k 3 (List.take (Try.prog.cellsOf 3) (List.drop 1 (Value.agg cs).cells.toList)) = xs[1]? := hf 1 _ rfl
  have f2 : DataW.trod enc Try.prog W 0 (fun _ => true) true k 4 (List.take (Try.prog.cellsOf 4) (List.drop 2 (Value.agg cs).cells.toList)) = xs[2]? := hf 2 _ rfl
  have f3 : DataW.trod enc Try.prog W 0 (fun _ => true) true k 31 (List.take (Try.prog.cellsOf 31) (List.drop 3 (Value.agg cs).cells.toList)) = xs[3]? := hf 3 _ rfl
  have f4 : DataW.trod enc Try.prog W 0 (fun _ => true) true k 31 (List.take (Try.prog.cellsOf 31) (List.drop 6 (Value.agg cs).cells.toList)) = xs[4]? := hf 4 _ rfl
  have f5 : DataW.trod enc Try.prog W 0 (fun _ => true) true k 32 (List.take (Try.prog.cellsOf 32) (List.drop 9 (Value.agg cs).cells.toList)) = xs[5]? := hf 5 _ rfl
  have f6 : DataW.trod enc Try.prog W 0 (fun _ => true) true k 33 (List.take (Try.prog.cellsOf 33) (List.drop 10 (Value.agg cs).cells.toList)) = xs[6]? := hf 6 _ rfl
  have f7 : DataW.trod enc Try.prog W 0 (fun _ => true) true k 4 (List.take (Try.prog.cellsOf 4) (List.drop 11 (Value.agg cs).cells.toList)) = xs[7]? := hf 7 _ rfl
  have f8 : DataW.trod enc Try.prog W 0 (fun _ => true) true k 4 (List.take (Try.prog.cellsOf 4) (List.drop 12 (Value.agg cs).cells.toList)) = xs[8]? := hf 8 _ rfl
  have f9 : DataW.trod enc Try.prog W 0 (fun _ => true) true k 3 (List.take (Try.prog.cellsOf 3) (List.drop 13 (Value.agg cs).cells.toList)) = xs[9]? := hf 9 _ rfl
  have f10 : DataW.trod enc Try.prog W 0 (fun _ => true) true k 34 (List.take (Try.prog.cellsOf 34) (List.drop 14 (Value.agg cs).cells.toList)) = xs[10]? := hf 10 _ rfl
  have f11 : DataW.trod enc Try.prog W 0 (fun _ => true) true k 22 (List.take (Try.prog.cellsOf 22) (List.drop 15 (Value.agg cs).cells.toList)) = xs[11]? := hf 11 _ rfl
  have f12 : DataW.trod enc Try.prog W 0 (fun _ => true) true k 35 (List.take (Try.prog.cellsOf 35) (List.drop 16 (Value.agg cs).cells.toList)) = xs[12]? := hf 12 _ rfl
  have f13 : DataW.trod enc Try.prog W 0 (fun _ => true) true k 3 (List.take (Try.prog.cellsOf 3) (List.drop 17 (Value.agg cs).cells.toList)) = xs[13]? := hf 13 _ rfl
  rw [hvc] at f0 f1 f2 f3 f4 f5 f6 f7 f8 f9 f10 f11 f12 f13
  simp only [cellsInt, cellsBool, cellsLDisk, cellsLMsgs, cellsStrs, cellsInts, cellsLSlots, cellsLAcks, List.drop_succ_cons, List.drop_zero, List.take_succ_cons, List.take_zero] at f0 f1 f2 f3 f4 f5 f6 f7 f8 f9 f10 f11 f12 f13
  obtain ⟨num, rfl, _⟩ := int_of f0 (some_of hlen' 0 (by omega))
  obtain ⟨of_, rfl, _⟩ := int_of f1 (some_of hlen' 1 (by omega))
  obtain ⟨up, rfl⟩ := bool_of f2 (some_of hlen' 2 (by omega))
  obtain ⟨sp, sk, aS, nS, cS, ss, eS, rfl, mS, hS⟩ := disk_cells f3 (some_of hlen' 3 (by omega))
  obtain ⟨dp, dk, aD, nD, cD, ds, eD, rfl, mD, hD⟩ := disk_cells f4 (some_of hlen' 4 (by omega))
  obtain ⟨aH, nH, cH, held, rfl, rfl, mH, hH⟩ := msgs_ofT f5 (some_of hlen' 5 (by omega))
  obtain ⟨aW, nW, cW, wish, rfl, rfl, mW, hW⟩ := strs_ofT f6 (some_of hlen' 6 (by omega))
  obtain ⟨lead, rfl⟩ := bool_of f7 (some_of hlen' 7 (by omega))
  obtain ⟨tr, rfl⟩ := bool_of f8 (some_of hlen' 8 (by omega))
  obtain ⟨ball, rfl, _⟩ := int_of f9 (some_of hlen' 9 (by omega))
  obtain ⟨aY, nY, cY, yes, rfl, rfl, mY, hY⟩ := ints_ofT f10 (some_of hlen' 10 (by omega))
  obtain ⟨aB, nB, cB, best, rfl, rfl, mB, hB⟩ := slots_of f11 (some_of hlen' 11 (by omega))
  obtain ⟨aA, nA, cA, acks, rfl, rfl, mA, hA⟩ := acks_ofT f12 (some_of hlen' 12 (by omega))
  obtain ⟨heard, rfl, _⟩ := int_of f13 (some_of hlen' 13 (by omega))
  simp only [List.cons.injEq, and_true] at eS eD
  obtain ⟨rfl, rfl, rfl⟩ := eS
  obtain ⟨rfl, rfl, rfl⟩ := eD
  refine ⟨⟨num, of_, up, sp, sk, ss, dp, dk, ds, held, wish, lead, tr, ball, yes, best, acks, heard⟩, ⟨aS, cS, aD, cD, aH, cH, aW, cW, aY, cY, aB, cB, aA, cA⟩, ?_, ⟨hS, mS, hD, mD, hH, mH, hW, mW, hY, mY, hB, mB, hA, mA⟩⟩
  exact congrArg Value.agg (Array.toList_inj.1 hcs)
end Go.Proofs.Ytafolmhpdgpmaaa
