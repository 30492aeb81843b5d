import Derived.Test.YtchbdajgpfcjcaaDrawnRec
import Derived.Test.YtchbdajgpfcjcaaRecLay
import Derived.Test.YtchbdajgpfcjcaaHasHasRec
/-
  The recorders that a law keeps in its own blocks, read.
-/
namespace Go.Proofs.Ytchbdajgpfcjcaa
open Go.ChangeShapes Go.WideShapes Go.ChangeAt Go.RowKit
set_option linter.unusedVariables false
set_option linter.unusedSimpArgs false

/-- a laws.Recorder out of its block -/
theorem wpList_load_lrec {ops : Array Oper} {rest : List Oper} {dst : Option Tmp} {x : Operand} {τ : TypeId} {pos : String} {after : Array Edge} {a : Act} {w : World} {Q : Exit → Act → World → Prop}
    (g : Nat) (cs : Array Value) (hs : cs.size = 18) (hx : a.eval x = .pointer (some ⟨g, 0, none⟩)) (hg : Blk w g cs 52)
    (h : wpList Try.prog ops Q rest (a.put dst (.agg cs)) w) :
    wpList Try.prog ops Q ({ dst := dst, op := .load 52 x, type := τ, pos := pos, after := after, guard := none } :: rest) a w :=
  wpList_load_blk g cs _ hx hg Try.underlying52 rfl (by rw [hs]; kernel_rfl) h
/-- the law's two recorders lie in their blocks; what was there at B is as it was -/
structure LawS (B : World) (g1 g2 : Nat) (r : Rc) (p q : RcP) (w' : World) : Prop where
  blk : Blk w' g1 (rcV r p) 52
  own : Blk w' g2 (rcV r q) 44
  bel : Below B.heap.size B w'
theorem LawS.ext {B : World} {g1 g2 : Nat} {r : Rc} {p q : RcP} {w' v' : World} (h : LawS B g1 g2 r p q w') (hb : Below w'.heap.size w' v') : LawS B g1 g2 r p q v' := ⟨h.blk.ext hb, h.own.ext hb, ext_trans h.bel hb⟩
theorem LawS.drew {B : World} {g1 g2 : Nat} {r : Rc} {p q : RcP} {w' : World} (h : LawS B g1 g2 r p q w') : LawS B g1 g2 r p q w'.drew := ⟨h.blk, h.own, h.bel.drew⟩
theorem yields_law {ops : Array Oper} {o : Oper} {a : Act} {B : World} {g1 g2 : Nat} {r : Rc} {p q : RcP} (hw : Region.wanted o (yielded ops a.tmps) = true) (x : Operand) (ho : o.op = .load 52 x) (hx : a.eval x = .pointer (some ⟨g1, 0, none⟩)) :
    YieldsIf Try.prog ops (LawS B g1 g2 r p q) o (.agg (rcV r p)) a :=
  .inl ⟨hw, fun w hS => by
    unfold execOp
    simp only [ho, hx, Instr.loadAt, Instr.sureAddr, Sem.run_bind, Sem.run_pure, Result.andThen_ok, run_loadVar_row w g1 52 52 (rcV r p) (0, 0) _ hS.blk Try.underlying52 rfl (by kernel_rfl)]⟩
theorem yields_own {ops : Array Oper} {o : Oper} {a : Act} {B : World} {g1 g2 : Nat} {r : Rc} {p q : RcP} (hw : Region.wanted o (yielded ops a.tmps) = true) (x : Operand) (ho : o.op = .load 44 x) (hx : a.eval x = .pointer (some ⟨g2, 0, none⟩)) :
    YieldsIf Try.prog ops (LawS B g1 g2 r p q) o (.agg (rcV r q)) a :=
  .inl ⟨hw, fun w hS => by
    unfold execOp
    simp only [ho, hx, Instr.loadAt, Instr.sureAddr, Sem.run_bind, Sem.run_pure, Result.andThen_ok, run_loadVar_row w g2 44 44 (rcV r q) (0, 0) _ hS.own Try.underlying44 rfl (by kernel_rfl)]⟩
end Go.Proofs.Ytchbdajgpfcjcaa

/-
  For the laws' walks: how far the marks count; what marks leave as it was.
-/
namespace Go.Proofs.Ytchbdajgpfcjcaa
open Go.ChangeShapes Go.WideShapes Go.ChangeAt Go.RowKit
set_option linter.unusedVariables false
set_option linter.unusedSimpArgs false

theorem kM_bound {N : Nat → Nat} {k : Nat} (hN : ∀ j, N j ≤ 1048576) : ∀ n, kM N k n ≤ k + n * 2097159
  | 0 => by simp [kM]
  | n + 1 => by
    have h1 := kM_bound (k := k) hN n
    have h2 := hN n
    rw [kM_step]
    omega
theorem kA_bound {N : Nat → Nat} {k : Nat} (hN : ∀ j, N j ≤ 1048576) : ∀ n, kA N k n ≤ k + n * 1048577
  | 0 => by simp [kA]
  | n + 1 => by
    have h1 := kA_bound (k := k) hN n
    have h2 := hN n
    rw [kA_step]
    omega
theorem lenM_small {l : List Ms} (h : MsgsSmall l) : ∀ i, lenM l i ≤ 1048576 := fun i => by
  unfold lenM
  cases h0 : l[i]? with
  | none => simp
  | some s => exact h i s h0
theorem lenA_small {l : List Ak} (h : AcksSmall l) : ∀ i, lenA l i ≤ 1048576 := fun i => by
  unfold lenA
  cases h0 : l[i]? with
  | none => simp
  | some s => exact h i s h0
theorem cnt_le {r : Rc} (h : RcSmall r) : cnt r (lenM r.held) (lenA r.acks) 1 7 ≤ 1152921504606846900 := by
  have h1 := kM_bound (k := 1 + 2 * r.ss.length + 2 * r.ds.length) (lenM_small h.nH) r.held.length
  have h2 := kA_bound (k := kM (lenM r.held) (1 + 2 * r.ss.length + 2 * r.ds.length) r.held.length + r.wish.length + r.yes.length + 2 * r.best.length) (lenA_small h.nA) r.acks.length
  have := h.lS
  have := h.lD
  have := h.lH
  have := h.lW
  have := h.lY
  have := h.lB
  have := h.lA
  simp only [cnt]
  omega
theorem Wrote.below {B : Nat} {a w w' : World} {ws : Ws} (h : Below B a w) (k : Wrote w w' ws) (ha : B ≤ a.heap.size) (hB : ∀ q ∈ ws, B ≤ q.1.block) : Below B a w' :=
  h.trans ⟨k.os, k.tape, k.output, k.size, fun i hi => k.block i (Nat.lt_of_lt_of_le hi (Nat.le_trans ha h.size)) (fun q hq => by have := hB q hq; omega)⟩
theorem OneAt.wrote {α : Type} {enc : α → Value} {good : α → Prop} {w w' : World} {a : Option Addr} {l : List α} {ws : Ws} (h : OneAt enc good w a l) (k : Wrote w w' ws) (hd : ∀ x, a = some x → ∀ q ∈ ws, q.1.block ≠ x.block) : OneAt enc good w' a l := fun i s hs => by
  obtain ⟨b, off, ha, hlt, c0, r⟩ := h i s hs
  refine ⟨b, off, ha, Nat.lt_of_lt_of_le hlt k.size, (k.keep _ hlt fun q hq e => ?_).trans c0, r⟩
  have := hd _ ha q hq
  rw [e] at this
  exact this rfl
/-- what marks wrote is still there -/
theorem marks_ext {w w' : World} {ws : Ws} (h : ∀ q ∈ ws, w.cell? q.1 = some q.2) (hl : ∀ q ∈ ws, q.1.block < w.heap.size) (k : Below w.heap.size w w') : ∀ q ∈ ws, w'.cell? q.1 = some q.2 := fun q hq => (k.cell (p := q.1) (hl q hq)).trans (h q hq)
theorem wsTo_zone {r : Rc} {p : RcP} {AH : Nat → Option Addr} {NH : Nat → Nat} {AA : Nat → Option Addr} {NA : Nat → Nat} {k m : Nat} {q : Addr × Value} (h : q ∈ wsTo r p AH NH AA NA k m) : ∃ i, zone r p AH NH AA NA i q.1 := by
  obtain ⟨i, _, hi⟩ := wsTo_mem r p AH NH AA NA k m q h
  exact ⟨i, wsL_zone r p AH NH AA NA k i q hi⟩
end Go.Proofs.Ytchbdajgpfcjcaa

/-
  Behind its own marks a recorder still lies as it lay.
-/
namespace Go.Proofs.Ytchbdajgpfcjcaa
open Go.ChangeShapes Go.WideShapes Go.ChangeAt Go.RowKit
set_option linter.unusedVariables false
set_option linter.unusedSimpArgs false

theorem Room.some {w : World} {a : Option Addr} {m j : Nat} (h : Room w a m) (hj : j < m) : ∃ b off, a = some ⟨b, off, none⟩ := by
  obtain ⟨b, off, e, _⟩ := h j hj
  exact ⟨b, off, e⟩
theorem Room.adr_inj {w : World} {a : Option Addr} {m j i : Nat} (h : Room w a m) (hj : j < m) (e : adr a i = adr a j) : i = j := by
  obtain ⟨b, off, rfl⟩ := h.some hj
  rw [adr_some, adr_some] at e
  simp only [Addr.mk.injEq, true_and, and_true] at e
  omega
theorem LayM.marked {w w' : World} {a : Option Addr} {A : Nat → Option Addr} {N cp : Nat → Nat} {n : Nat} {ws : Ws} (h : LayM w a A N cp n) (k : Wrote w w' ws) (hn : ∀ q ∈ ws, ∀ i, i < n → q.1 ≠ adr a (i * 8 + 7)) : LayM w' a A N cp n :=
  ⟨h.room.wrote k, fun i hi => (k.keep _ (h.room.lt (by omega)) (fun q hq => hn q hq i hi)).trans (h.hd i hi), fun i hi => (h.inner i hi).wrote k, h.far, h.apart⟩
theorem LayA.marked {w w' : World} {a : Option Addr} {A : Nat → Option Addr} {N cp : Nat → Nat} {n : Nat} {ws : Ws} (h : LayA w a A N cp n) (k : Wrote w w' ws) (hn : ∀ q ∈ ws, ∀ i, i < n → q.1 ≠ adr a (i * 2 + 1)) : LayA w' a A N cp n :=
  ⟨h.room.wrote k, fun i hi => (k.keep _ (h.room.lt (by omega)) (fun q hq => hn q hq i hi)).trans (h.hd i hi), fun i hi => (h.inner i hi).wrote k, h.far, h.apart⟩
theorem RcLay.marked {w w' : World} {r : Rc} {p : RcP} {AH : Nat → Option Addr} {NH cH : Nat → Nat} {AA : Nat → Option Addr} {NA cA : Nat → Nat} {k : Nat} (h : RcLay w r p AH NH cH AA NA cA) (hw : Wrote w w' (wsTo r p AH NH AA NA k 7)) : RcLay w' r p AH NH cH AA NA cA := by
  refine ⟨h.s.wrote hw, h.d.wrote hw, h.h.marked hw (fun q hq i hi e => ?_), h.t.wrote hw, h.y.wrote hw, h.b.wrote hw, h.a.marked hw (fun q hq i hi e => ?_), h.far⟩
  · obtain ⟨j, hj, hm⟩ := wsTo_mem r p AH NH AA NA k 7 q hq
    have z2 : zone r p AH NH AA NA 2 q.1 := .inl ⟨i * 8 + 7, by omega, e⟩
    by_cases h2 : j = 2
    · subst h2
      rcases wsM_mem _ _ _ _ _ q hm with ⟨i', t, h1, h2, h3⟩ | ⟨i', j', h1, h2, h3⟩
      · rw [h3] at e
        have := h.h.room.adr_inj (j := i * 8 + 7) (by omega) e
        omega
      · rw [h3] at e
        exact h.h.far i' j' (i * 8 + 7) h1 h2 (by omega) e
    · exact h.far j 2 q.1 h2 (wsL_zone r p AH NH AA NA k j q hm) z2
  · obtain ⟨j, hj, hm⟩ := wsTo_mem r p AH NH AA NA k 7 q hq
    have z2 : zone r p AH NH AA NA 6 q.1 := .inl ⟨i * 2 + 1, by omega, e⟩
    by_cases h2 : j = 6
    · subst h2
      rcases wsA_mem _ _ _ _ _ q hm with ⟨i', t, h1, h2, h3⟩ | ⟨i', j', h1, h2, h3⟩
      · rw [h3] at e
        have := h.a.room.adr_inj (j := i * 2 + 1) (by omega) e
        omega
      · rw [h3] at e
        exact h.a.far i' j' (i * 2 + 1) h1 h2 (by omega) e
    · exact h.far j 6 q.1 h2 (wsL_zone r p AH NH AA NA k j q hm) z2
end Go.Proofs.Ytchbdajgpfcjcaa
