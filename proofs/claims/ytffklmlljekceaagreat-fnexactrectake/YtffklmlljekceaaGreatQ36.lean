import Derived.Test.YtffklmlljekceaaGreatQ35
namespace Go.Proofs.YtffklmlljekceaaGreat
open Go.ChangeShapes Go.WideShapes Go.ChangeAt Go.RowKit
set_option linter.unusedSimpArgs false
set_option linter.unusedVariables false
set_option maxHeartbeats 8000000
set_option maxRecDepth 20000
theorem own_row {w : World} {B g k n : Nat} {e : TypeId} {C : Array Value} {xs : List Value} (h : Blk w g C e) (hC : C.toList = xs) (hl : xs.length = n * k) (hB : B ≤ g) (hn : n ≤ maxLen) : w.ownsRow B e k (.slice (some ⟨g, 0, none⟩) n n) n xs :=
 ⟨hl, .inr ⟨g, n, C, rfl, hB, h, Nat.le_refl _, hn, by rw [← hl, ← hC, Array.length_toList], by rw [hC, ← hl, List.take_length]⟩⟩
theorem row_one {w : World} {B g k n t : Nat} {e : TypeId} {col : Nat → Nat} {xs : List Value} (h : w.ownsRow B e k (.slice (some ⟨g, 0, none⟩) n n) n xs) (hc : col g = t) : RowC B w col t e k (some ⟨g, 0, none⟩) n n xs :=
 ⟨h, fun x hx => by simp only [Option.some.injEq] at hx; rw [← hx]; exact hc⟩
theorem slots_row {w : World} {B g t : Nat} {col : Nat → Nat} {l : List Sl} (h : SlotsOwn w g l) (hB : B ≤ g) (hn : l.length ≤ maxLen) (hc : col g = t) : RowC B w col t 108 2 (some ⟨g, 0, none⟩) l.length l.length (flat l) :=
 row_one (own_row (own_blk h) (by simp) (flat_len l) hB hn) hc
theorem ones_list {α : Type} {enc : α → Value} {C : Array Value} {l : List α} (h : OnesTo enc C l l.length) : C.toList = l.map enc := by
 apply List.ext_getElem?
 intro i
 rcases Nat.lt_or_ge i l.length with hi | hi
 ·have hs : l[i]? = some l[i] := List.getElem?_eq_getElem hi
  rw [Array.getElem?_toList, h.2 i _ hi hs, List.getElem?_map, hs]; rfl
 rw [List.getElem?_eq_none (by rw [Array.length_toList, h.1]; exact hi), List.getElem?_eq_none (by rw [List.length_map]; exact hi)]
theorem ints_row {w : World} {B g t : Nat} {col : Nat → Nat} {l : List Int} (h : IntsOwn w g l) (hB : B ≤ g) (hn : l.length ≤ maxLen) (hc : col g = t) : RowC B w col t 3 1 (some ⟨g, 0, none⟩) l.length l.length (flatI l) := by
 obtain ⟨C, h1, h2⟩ := h
 exact row_one (own_row h1 (ones_list h2) (by simp [flatI]) hB hn) hc
theorem strs_row {w : World} {B g t : Nat} {col : Nat → Nat} {l : List ByteArray} (h : StrsOwn w g l) (hB : B ≤ g) (hn : l.length ≤ maxLen) (hc : col g = t) : RowC B w col t 9 1 (some ⟨g, 0, none⟩) l.length l.length (flatT l) := by
 obtain ⟨C, h1, h2⟩ := h
 exact row_one (own_row h1 (ones_list h2) (by simp [flatT]) hB hn) hc
def placeM (G : Nat → Nat) (l : List Ms) : List Mp := l.zipIdx.map fun x => (x.1, some ⟨G x.2, 0, none⟩, x.1.2.length)
def placeA (G : Nat → Nat) (l : List Ak) : List Ap := l.zipIdx.map fun x => (x.1, some ⟨G x.2, 0, none⟩, x.1.2.length)
theorem placeM_at {G : Nat → Nat} {l : List Ms} {i : Nat} {s : Ms} (h : l[i]? = some s) : (placeM G l)[i]? = some (s, some ⟨G i, 0, none⟩, s.2.length) := by simp [placeM, List.getElem?_zipIdx, h]
theorem placeA_at {G : Nat → Nat} {l : List Ak} {i : Nat} {s : Ak} (h : l[i]? = some s) : (placeA G l)[i]? = some (s, some ⟨G i, 0, none⟩, s.2.length) := by simp [placeA, List.getElem?_zipIdx, h]
theorem placeM_map (G : Nat → Nat) (l : List Ms) : (placeM G l).map (·.1) = l := by
 apply List.ext_getElem?
 intro i
 simp [placeM, List.getElem?_zipIdx]
 cases l[i]? <;> rfl
theorem placeA_map (G : Nat → Nat) (l : List Ak) : (placeA G l).map (·.1) = l := by
 apply List.ext_getElem?
 intro i
 simp [placeA, List.getElem?_zipIdx]
 cases l[i]? <;> rfl
theorem placeM_len (G : Nat → Nat) (l : List Ms) : (placeM G l).length = l.length := by simp [placeM]
theorem placeA_len (G : Nat → Nat) (l : List Ak) : (placeA G l).length = l.length := by simp [placeA]
theorem msgs_list {w : World} {g : Nat} {C : Array Value} {G : Nat → Nat} {l : List Ms} (h : MsgsTo w g C G l l.length) : C.toList = flatM (placeM G l) := by
 apply List.ext_getElem?
 intro j
 rcases Nat.lt_or_ge j (l.length * 8) with hj | hj
 ·have hi : j / 8 < l.length := by omega
  have hs : l[j / 8]? = some l[j / 8] := List.getElem?_eq_getElem hi
  obtain ⟨c0, c1, c2, c3, c4, c5, c6, c7, _⟩ := h.2 _ _ hi hs
  have e : j = j / 8 * 8 + j % 8 := by omega
  have ht : j % 8 < 8 := Nat.mod_lt _ (by omega)
  rw [Array.getElem?_toList]
  generalize j / 8 = i at *
  generalize j % 8 = t at *
  subst e
  rw [flatM_at _ i t _ (placeM_at hs) ht]
  rcases (by omega : t = 0 ∨ t = 1 ∨ t = 2 ∨ t = 3 ∨ t = 4 ∨ t = 5 ∨ t = 6 ∨ t = 7) with rfl | rfl | rfl | rfl | rfl | rfl | rfl | rfl
  ·exact c0
  ·exact c1
  ·exact c2
  ·exact c3
  ·exact c4
  ·exact c5
  ·exact c6
  exact c7
 rw [List.getElem?_eq_none (by rw [Array.length_toList, h.1]; exact hj), List.getElem?_eq_none (by rw [flatM_len, placeM_len]; exact hj)]
theorem acks_list {w : World} {g : Nat} {C : Array Value} {G : Nat → Nat} {l : List Ak} (h : AcksTo w g C G l l.length) : C.toList = flatA (placeA G l) := by
 apply List.ext_getElem?
 intro j
 rcases Nat.lt_or_ge j (l.length * 2) with hj | hj
 ·have hi : j / 2 < l.length := by omega
  have hs : l[j / 2]? = some l[j / 2] := List.getElem?_eq_getElem hi
  obtain ⟨c0, c1, _⟩ := h.2 _ _ hi hs
  have e : j = j / 2 * 2 + j % 2 := by omega
  have ht : j % 2 < 2 := Nat.mod_lt _ (by omega)
  rw [Array.getElem?_toList]
  generalize j / 2 = i at *
  generalize j % 2 = t at *
  subst e
  rw [flatA_at _ i t _ (placeA_at hs) ht]
  rcases (by omega : t = 0 ∨ t = 1) with rfl | rfl
  ·exact c0
  exact c1
 rw [List.getElem?_eq_none (by rw [Array.length_toList, h.1]; exact hj), List.getElem?_eq_none (by rw [flatA_len, placeA_len]; exact hj)]
def colO (gS gD gH BH gW gY gB gA b : Nat) : Nat := if b = gS then 0 else if b = gD then 1 else if b = gH then 2 else if b < BH then 7 else if b = gW then 3 else if b = gY then 4 else if b = gB then 5 else if b = gA then 6 else 8
theorem RcOwn.has {B : Nat} {w : World} {r : Rc} {p : RcP} (h : RcOwn w r p) (hg : RcAt w r p) (hB : ∀ x, p.aS = some x → B ≤ x.block) : ∃ X col, RcHas B w r p X col := by
 have good := hg.good
 have mS := hg.lS
 have mD := hg.lD
 have mH := hg.lH
 have mW := hg.lW
 have mY := hg.lY
 have mB := hg.lB
 have mA := hg.lA
 obtain ⟨gS, gD, gH, BH, gW, gY, gB, gA, rfl, ⟨l1, l2, l3, l4, l5, l6, l7⟩, oS, oD, ⟨CH, GH, kH, tH, bH⟩, oW, oY, oB, ⟨CA, GA, kA', tA⟩⟩ := h
 have b0 : B ≤ gS := hB _ rfl
 clear hB hg
 refine ⟨⟨placeM GH r.held, placeA GA r.acks⟩, colO gS gD gH BH gW gY gB gA, ?_⟩
 have inM : ∀ i s, r.held[i]? = some s → gH < GH i ∧ GH i < BH ∧ SlotsOwn w (GH i) s.2 ∧ ∀ j, j < i → GH j < GH i := fun i s hs => by
  have hi := (List.getElem?_eq_some_iff.1 hs).1
  obtain ⟨_, _, _, _, _, _, _, _, q1, q2, q3⟩ := tH.2 i s hi hs
  exact ⟨q2, bH i hi, q1, q3⟩
 have inA : ∀ i s, r.acks[i]? = some s → gA < GA i ∧ IntsOwn w (GA i) s.2 ∧ ∀ j, j < i → GA j < GA i := fun i s hs => by
  have hi := (List.getElem?_eq_some_iff.1 hs).1
  obtain ⟨_, _, q1, q2, q3⟩ := tA.2 i s hi hs
  exact ⟨q2, q1, q3⟩
 refine ⟨slots_row oS b0 mS (by simp [colO]), slots_row oD (by omega) mD ?_, row_one (own_row kH (msgs_list tH) (by rw [flatM_len, placeM_len]) (by omega) mH) ?_, placeM_map _ _, ⟨fun m hm => ?_, ?_⟩, strs_row oW (by omega) mW ?_, ints_row oY (by omega) mY ?_, slots_row oB (by omega) mB ?_, row_one (own_row kA' (acks_list tA) (by rw [flatA_len, placeA_len]) (by omega) mA) ?_, placeA_map _ _, ⟨fun m hm => ?_, ?_⟩, good⟩
 ·unfold colO; rw [if_neg (by omega), if_pos rfl]
 ·unfold colO; rw [if_neg (by omega), if_neg (by omega), if_pos rfl]
 ·obtain ⟨i, hi⟩ := List.mem_iff_getElem?.1 hm
  have hl := (List.getElem?_eq_some_iff.1 hi).1
  rw [placeM_len] at hl
  have hs : r.held[i]? = some r.held[i] := List.getElem?_eq_getElem hl
  rw [placeM_at hs] at hi
  simp only [Option.some.injEq] at hi
  rw [← hi]
  obtain ⟨q1, q2, q3, _⟩ := inM i _ hs
  refine slots_row q3 (by omega) ((good.h i _ hs).2.1) ?_
  unfold colO
  rw [if_neg (by omega), if_neg (by omega), if_neg (by omega), if_pos q2]
 ·rw [List.pairwise_iff_getElem]
  intro i j hi hj hij x x' hx hx'
  rw [placeM_len] at hi hj
  have h1 := placeM_at (G := GH) (List.getElem?_eq_getElem hi)
  have h2 := placeM_at (G := GH) (List.getElem?_eq_getElem hj)
  obtain ⟨_, e1⟩ := List.getElem?_eq_some_iff.1 h1
  obtain ⟨_, e2⟩ := List.getElem?_eq_some_iff.1 h2
  rw [e1] at hx
  rw [e2] at hx'
  simp only [Option.some.injEq] at hx hx'
  rw [← hx, ← hx']
  have := (inM j _ (List.getElem?_eq_getElem hj)).2.2.2 i hij
  dsimp only
  omega
 ·unfold colO; rw [if_neg (by omega), if_neg (by omega), if_neg (by omega), if_neg (by omega), if_pos rfl]
 ·unfold colO; rw [if_neg (by omega), if_neg (by omega), if_neg (by omega), if_neg (by omega), if_neg (by omega), if_pos rfl]
 ·unfold colO; rw [if_neg (by omega), if_neg (by omega), if_neg (by omega), if_neg (by omega), if_neg (by omega), if_neg (by omega), if_pos rfl]
 ·unfold colO; rw [if_neg (by omega), if_neg (by omega), if_neg (by omega), if_neg (by omega), if_neg (by omega), if_neg (by omega), if_neg (by omega), if_pos rfl]
 ·obtain ⟨i, hi⟩ := List.mem_iff_getElem?.1 hm
  have hl := (List.getElem?_eq_some_iff.1 hi).1
  rw [placeA_len] at hl
  have hs : r.acks[i]? = some r.acks[i] := List.getElem?_eq_getElem hl
  rw [placeA_at hs] at hi
  simp only [Option.some.injEq] at hi
  rw [← hi]
  obtain ⟨q1, q3, _⟩ := inA i _ hs
  refine ints_row q3 (by omega) ((good.a i _ hs).2.1) ?_
  unfold colO
  rw [if_neg (by omega), if_neg (by omega), if_neg (by omega), if_neg (by omega), if_neg (by omega), if_neg (by omega), if_neg (by omega), if_neg (by omega)]
 rw [List.pairwise_iff_getElem]
 intro i j hi hj hij x x' hx hx'
 rw [placeA_len] at hi hj
 have h1 := placeA_at (G := GA) (List.getElem?_eq_getElem hi)
 have h2 := placeA_at (G := GA) (List.getElem?_eq_getElem hj)
 obtain ⟨_, e1⟩ := List.getElem?_eq_some_iff.1 h1
 obtain ⟨_, e2⟩ := List.getElem?_eq_some_iff.1 h2
 rw [e1] at hx
 rw [e2] at hx'
 simp only [Option.some.injEq] at hx hx'
 rw [← hx, ← hx']
 have := (inA j _ (List.getElem?_eq_getElem hj)).2.2 i hij
 dsimp only
 omega
theorem wpList_load_lrec {ops : Array Oper} {rest : List Oper} {dst : Option Tmp} {x : Operand} {τ : TypeId} {pos : String} {after : Array Edge} {a : Act} {w : World} {Q : Exit → Act → World → Prop}
  (g : Nat) (cs : Array Value) (hs : cs.size = 18) (hx : a.eval x = .pointer (some ⟨g, 0, none⟩)) (hg : Blk w g cs 30)
  (h : wpList Tryz.prog ops Q rest (a.put dst (.agg cs)) w) :
  wpList Tryz.prog ops Q ({ dst := dst, op := .load 30 x, type := τ, pos := pos, after := after, guard := none } :: rest) a w :=
 wpList_load_blk g cs _ hx hg Tryz.underlying30 rfl (by rw [hs]; kernel_rfl) h
structure LawS (B : World) (g1 g2 : Nat) (r : Rc) (p q : RcP) (w' : World) : Prop where
 blk : Blk w' g1 (rcV r p) 30
 own : Blk w' g2 (rcV r q) 41
 bel : Below B.heap.size B w'
theorem LawS.ext {B : World} {g1 g2 : Nat} {r : Rc} {p q : RcP} {w' v' : World} (h : LawS B g1 g2 r p q w') (hb : Below w'.heap.size w' v') : LawS B g1 g2 r p q v' := ⟨h.blk.ext hb, h.own.ext hb, ext_trans h.bel hb⟩
theorem LawS.drew {B : World} {g1 g2 : Nat} {r : Rc} {p q : RcP} {w' : World} (h : LawS B g1 g2 r p q w') : LawS B g1 g2 r p q w'.drew := ⟨h.blk, h.own, h.bel.drew⟩
theorem yields_law {ops : Array Oper} {o : Oper} {a : Act} {B : World} {g1 g2 : Nat} {r : Rc} {p q : RcP} (hw : Region.wanted o (yielded ops a.tmps) = true) (x : Operand) (ho : o.op = .load 30 x) (hx : a.eval x = .pointer (some ⟨g1, 0, none⟩)) :
  YieldsIf Tryz.prog ops (LawS B g1 g2 r p q) o (.agg (rcV r p)) a :=
 .inl ⟨hw, fun w hS => by
  unfold execOp
  simp only [ho, hx, Instr.loadAt, Instr.sureAddr, Sem.run_bind, Sem.run_pure, Result.andThen_ok, run_loadVar_row w g1 30 30 (rcV r p) (0, 0) _ hS.blk Tryz.underlying30 rfl (by kernel_rfl)]⟩
theorem yields_own {ops : Array Oper} {o : Oper} {a : Act} {B : World} {g1 g2 : Nat} {r : Rc} {p q : RcP} (hw : Region.wanted o (yielded ops a.tmps) = true) (x : Operand) (ho : o.op = .load 41 x) (hx : a.eval x = .pointer (some ⟨g2, 0, none⟩)) :
  YieldsIf Tryz.prog ops (LawS B g1 g2 r p q) o (.agg (rcV r q)) a :=
 .inl ⟨hw, fun w hS => by
  unfold execOp
  simp only [ho, hx, Instr.loadAt, Instr.sureAddr, Sem.run_bind, Sem.run_pure, Result.andThen_ok, run_loadVar_row w g2 41 41 (rcV r q) (0, 0) _ hS.own Tryz.underlying41 rfl (by kernel_rfl)]⟩
theorem kM_bound {N : Nat → Nat} {k : Nat} (hN : ∀ j, N j ≤ 1048576) : ∀ n, kM N k n ≤ k + n * 2097159
 | 0 => by simp [kM]
 | n + 1 => by
  have h1 := kM_bound (k := k) hN n
  have h2 := hN n
  rw [kM_step]
  omega
theorem kA_bound {N : Nat → Nat} {k : Nat} (hN : ∀ j, N j ≤ 1048576) : ∀ n, kA N k n ≤ k + n * 1048577
 | 0 => by simp [kA]
 | n + 1 => by
  have h1 := kA_bound (k := k) hN n
  have h2 := hN n
  rw [kA_step]
  omega
theorem lenM_small {l : List Ms} (h : MsgsSmall l) : ∀ i, lenM l i ≤ 1048576 := fun i => by
 unfold lenM
 cases h0 : l[i]? with
 | none => simp
 | some s => exact h i s h0
theorem lenA_small {l : List Ak} (h : AcksSmall l) : ∀ i, lenA l i ≤ 1048576 := fun i => by
 unfold lenA
 cases h0 : l[i]? with
 | none => simp
 | some s => exact h i s h0
theorem cnt_le {r : Rc} (h : RcSmall r) : cnt r (lenM r.held) (lenA r.acks) 1 7 ≤ 1152921504606846900 := by
 have h1 := kM_bound (k := 1 + 2 * r.ss.length + 2 * r.ds.length) (lenM_small h.nH) r.held.length
 have h2 := kA_bound (k := kM (lenM r.held) (1 + 2 * r.ss.length + 2 * r.ds.length) r.held.length + r.wish.length + r.yes.length + 2 * r.best.length) (lenA_small h.nA) r.acks.length
 have := h.lS
 have := h.lD
 have := h.lH
 have := h.lW
 have := h.lY
 have := h.lB
 have := h.lA
 simp only [cnt]
 omega
theorem Wrote.below {B : Nat} {a w w' : World} {ws : Ws} (h : Below B a w) (k : Wrote w w' ws) (ha : B ≤ a.heap.size) (hB : ∀ q ∈ ws, B ≤ q.1.block) : Below B a w' :=
 h.trans ⟨k.os, k.tape, k.output, k.size, fun i hi => k.block i (Nat.lt_of_lt_of_le hi (Nat.le_trans ha h.size)) (fun q hq => by have := hB q hq; omega)⟩
theorem marks_ext {w w' : World} {ws : Ws} (h : ∀ q ∈ ws, w.cell? q.1 = some q.2) (hl : ∀ q ∈ ws, q.1.block < w.heap.size) (k : Below w.heap.size w w') : ∀ q ∈ ws, w'.cell? q.1 = some q.2 := fun q hq => (k.cell (p := q.1) (hl q hq)).trans (h q hq)
theorem wsTo_zone {r : Rc} {p : RcP} {AH : Nat → Option Addr} {NH : Nat → Nat} {AA : Nat → Option Addr} {NA : Nat → Nat} {k m : Nat} {q : Addr × Value} (h : q ∈ wsTo r p AH NH AA NA k m) : ∃ i, zone r p AH NH AA NA i q.1 := by
 obtain ⟨i, _, hi⟩ := wsTo_mem r p AH NH AA NA k m q h
 exact ⟨i, wsL_zone r p AH NH AA NA k i q hi⟩
theorem Room.some {w : World} {a : Option Addr} {m j : Nat} (h : Room w a m) (hj : j < m) : ∃ b off, a = some ⟨b, off, none⟩ := by
 obtain ⟨b, off, e, _⟩ := h j hj
 exact ⟨b, off, e⟩
theorem Room.adr_inj {w : World} {a : Option Addr} {m j i : Nat} (h : Room w a m) (hj : j < m) (e : adr a i = adr a j) : i = j := by
 obtain ⟨b, off, rfl⟩ := h.some hj
 rw [adr_some, adr_some] at e
 simp only [Addr.mk.injEq, true_and, and_true] at e
 omega
theorem LayM.marked {w w' : World} {a : Option Addr} {A : Nat → Option Addr} {N cp : Nat → Nat} {n : Nat} {ws : Ws} (h : LayM w a A N cp n) (k : Wrote w w' ws) (hn : ∀ q ∈ ws, ∀ i, i < n → q.1 ≠ adr a (i * 8 + 7)) : LayM w' a A N cp n :=
 ⟨h.room.wrote k, fun i hi => (k.keep _ (h.room.lt (by omega)) (fun q hq => hn q hq i hi)).trans (h.hd i hi), fun i hi => (h.inner i hi).wrote k, h.far, h.apart⟩
theorem LayA.marked {w w' : World} {a : Option Addr} {A : Nat → Option Addr} {N cp : Nat → Nat} {n : Nat} {ws : Ws} (h : LayA w a A N cp n) (k : Wrote w w' ws) (hn : ∀ q ∈ ws, ∀ i, i < n → q.1 ≠ adr a (i * 2 + 1)) : LayA w' a A N cp n :=
 ⟨h.room.wrote k, fun i hi => (k.keep _ (h.room.lt (by omega)) (fun q hq => hn q hq i hi)).trans (h.hd i hi), fun i hi => (h.inner i hi).wrote k, h.far, h.apart⟩
theorem RcLay.marked {w w' : World} {r : Rc} {p : RcP} {AH : Nat → Option Addr} {NH cH : Nat → Nat} {AA : Nat → Option Addr} {NA cA : Nat → Nat} {k : Nat} (h : RcLay w r p AH NH cH AA NA cA) (hw : Wrote w w' (wsTo r p AH NH AA NA k 7)) : RcLay w' r p AH NH cH AA NA cA := by
 refine ⟨h.s.wrote hw, h.d.wrote hw, h.h.marked hw (fun q hq i hi e => ?_), h.t.wrote hw, h.y.wrote hw, h.b.wrote hw, h.a.marked hw (fun q hq i hi e => ?_), h.far⟩
 ·obtain ⟨j, hj, hm⟩ := wsTo_mem r p AH NH AA NA k 7 q hq
  have z2 : zone r p AH NH AA NA 2 q.1 := .inl ⟨i * 8 + 7, by omega, e⟩
  by_cases h2 : j = 2
  ·subst h2
   rcases wsM_mem _ _ _ _ _ q hm with ⟨i', t, h1, h2, h3⟩ | ⟨i', j', h1, h2, h3⟩
   ·rw [h3] at e
    have := h.h.room.adr_inj (j := i * 8 + 7) (by omega) e
    omega
   rw [h3] at e
   exact h.h.far i' j' (i * 8 + 7) h1 h2 (by omega) e
  exact h.far j 2 q.1 h2 (wsL_zone r p AH NH AA NA k j q hm) z2
 obtain ⟨j, hj, hm⟩ := wsTo_mem r p AH NH AA NA k 7 q hq
 have z2 : zone r p AH NH AA NA 6 q.1 := .inl ⟨i * 2 + 1, by omega, e⟩
 by_cases h2 : j = 6
 ·subst h2
  rcases wsA_mem _ _ _ _ _ q hm with ⟨i', t, h1, h2, h3⟩ | ⟨i', j', h1, h2, h3⟩
  ·rw [h3] at e
   have := h.a.room.adr_inj (j := i * 2 + 1) (by omega) e
   omega
  rw [h3] at e
  exact h.a.far i' j' (i * 2 + 1) h1 h2 (by omega) e
 exact h.far j 6 q.1 h2 (wsL_zone r p AH NH AA NA k j q hm) z2
end Go.Proofs.YtffklmlljekceaaGreat
namespace Go.Proofs.YtffklmlljekceaaGreat
open Go Go.ChangeShapes Go.WideShapes Go.ChangeAt Go.RowKit
set_option linter.unusedSimpArgs false
set_option linter.unusedVariables false
set_option maxHeartbeats 8000000
set_option maxRecDepth 20000
theorem wpList_load_lmsg {ops : Array Oper} {rest : List Oper} {dst : Option Tmp} {x : Operand} {τ : TypeId} {pos : String} {after : Array Edge} {a : Act} {w : World} {Q : Exit → Act → World → Prop}
  (g : Nat) (cs : Array Value) (hs : cs.size = 8) (hx : a.eval x = .pointer (some ⟨g, 0, none⟩)) (hg : Blk w g cs 32)
  (h : wpList Tryz.prog ops Q rest (a.put dst (.agg cs)) w) :
  wpList Tryz.prog ops Q ({ dst := dst, op := .load 32 x, type := τ, pos := pos, after := after, guard := none } :: rest) a w :=
 wpList_load_blk g cs _ hx hg Tryz.underlying32 rfl (by rw [hs]; kernel_rfl) h
theorem wpList_load_imsg {ops : Array Oper} {rest : List Oper} {dst : Option Tmp} {x : Operand} {τ : TypeId} {pos : String} {after : Array Edge} {a : Act} {w : World} {Q : Exit → Act → World → Prop}
  (g : Nat) (cs : Array Value) (hs : cs.size = 8) (hx : a.eval x = .pointer (some ⟨g, 0, none⟩)) (hg : Blk w g cs 45)
  (h : wpList Tryz.prog ops Q rest (a.put dst (.agg cs)) w) :
  wpList Tryz.prog ops Q ({ dst := dst, op := .load 45 x, type := τ, pos := pos, after := after, guard := none } :: rest) a w :=
 wpList_load_blk g cs _ hx hg Tryz.underlying45 rfl (by rw [hs]; kernel_rfl) h
theorem wpList_store_imsg {ops : Array Oper} {rest : List Oper} {dst : Option Tmp} {x y : Operand} {τ : TypeId} {pos : String} {after : Array Edge} {a : Act} {w0 : World} {c : Array Value} {Q : Exit → Act → World → Prop}
  (cells : Array Value) (hs : cells.size = 8) (hx : a.eval x = .pointer (some ⟨w0.heap.size, 0, none⟩)) (hy : a.eval y = .agg cells) (hc : c.size = 8) (h1 : cells.all (·.oneCell') = true)
  (h : wpList Tryz.prog ops Q rest (a.put dst undef) (w0.alloc (.cells cells 45))) :
  wpList Tryz.prog ops Q ({ dst := dst, op := .store 45 x y, type := τ, pos := pos, after := after, guard := none } :: rest) a (w0.alloc (.cells c 45)) :=
 wpList_store_last cells hx hy (by rw [hs]; kernel_rfl) (by rw [hc, hs]) h1 h
theorem yields_lr {S : World → Prop} {ops : Array Oper} {o : Oper} {a : Act} {g : Nat} {cs : Array Value} (hb : ∀ w, S w → Blk w g cs 30) (hs : cs.size = 18) (hw : Region.wanted o (yielded ops a.tmps) = true) (x : Operand) (ho : o.op = .load 30 x) (hx : a.eval x = .pointer (some ⟨g, 0, none⟩)) :
  YieldsIf Tryz.prog ops S o (.agg cs) a :=
 .inl ⟨hw, fun w hS => by
  unfold execOp
  simp only [ho, hx, Instr.loadAt, Instr.sureAddr, Sem.run_bind, Sem.run_pure, Result.andThen_ok, run_loadVar_row w g 30 30 cs (0, 0) _ (hb w hS) Tryz.underlying30 rfl (by rw [hs]; kernel_rfl)]⟩
theorem yields_lm {S : World → Prop} {ops : Array Oper} {o : Oper} {a : Act} {g : Nat} {cs : Array Value} (hb : ∀ w, S w → Blk w g cs 32) (hs : cs.size = 8) (hw : Region.wanted o (yielded ops a.tmps) = true) (x : Operand) (ho : o.op = .load 32 x) (hx : a.eval x = .pointer (some ⟨g, 0, none⟩)) :
  YieldsIf Tryz.prog ops S o (.agg cs) a :=
 .inl ⟨hw, fun w hS => by
  unfold execOp
  simp only [ho, hx, Instr.loadAt, Instr.sureAddr, Sem.run_bind, Sem.run_pure, Result.andThen_ok, run_loadVar_row w g 32 32 cs (0, 0) _ (hb w hS) Tryz.underlying32 rfl (by rw [hs]; kernel_rfl)]⟩
structure LawT (B : World) (g1 g2 : Nat) (c cm : Array Value) (w' : World) : Prop where
 blk : Blk w' g1 c 30
 bm : Blk w' g2 cm 32
 bel : Below B.heap.size B w'
theorem LawT.ext {B : World} {g1 g2 : Nat} {c cm : Array Value} {w' v' : World} (h : LawT B g1 g2 c cm w') (hb : Below w'.heap.size w' v') : LawT B g1 g2 c cm v' := ⟨h.blk.ext hb, h.bm.ext hb, ext_trans h.bel hb⟩
theorem LawT.drew {B : World} {g1 g2 : Nat} {c cm : Array Value} {w' : World} (h : LawT B g1 g2 c cm w') : LawT B g1 g2 c cm w'.drew := ⟨h.blk, h.bm, h.bel.drew⟩
structure LawM (B : World) (g1 g2 : Nat) (cm ci : Array Value) (w' : World) : Prop where
 blk : Blk w' g1 cm 32
 own : Blk w' g2 ci 45
 bel : Below B.heap.size B w'
theorem LawM.ext {B : World} {g1 g2 : Nat} {cm ci : Array Value} {w' v' : World} (h : LawM B g1 g2 cm ci w') (hb : Below w'.heap.size w' v') : LawM B g1 g2 cm ci v' := ⟨h.blk.ext hb, h.own.ext hb, ext_trans h.bel hb⟩
theorem LawM.drew {B : World} {g1 g2 : Nat} {cm ci : Array Value} {w' : World} (h : LawM B g1 g2 cm ci w') : LawM B g1 g2 cm ci w'.drew := ⟨h.blk, h.own, h.bel.drew⟩
def FinT (W : World) (r : Rc) (p : RcP) (m : MsgH) (al : Option Addr) (l : List Sl) (cap : Nat) (RR : Rc) (s0 s1 s2 s3 s4 s5 : Nat) (a a' : Act) (w' : World) : Prop :=
 ∃ g p2 gm p3 X3 col3, a' = (((((a.put (some s0) (.agg (rcV r p))).put (some s2) (.agg (msgV m (.slice al l.length cap)))).put (some s1) (.agg (rcV r p2))).put (some s3) (.agg (msgV m (.slice (some ⟨gm, 0, none⟩) l.length l.length)))).put (some s4) (.agg (rcV RR p3))).put (some s5) (.pointer (some ⟨g, 0, none⟩)) ∧ W.heap.size ≤ g ∧ Blk w' g (rcV RR p3) 41 ∧ RcHas W.heap.size w' RR p3 X3 col3 ∧ Below W.heap.size W w'
theorem take_small {r : Rc} {m : MsgH} {l : List Sl} (h : RcSmall r) : RcSmall (recTake r m l) := by
 unfold recTake
 split
 ·rename_i hv
  split
  ·rename_i hm
   exact ((valid_sm hv h).take (valid_take hv h) hm.2.1).s
  exact h
 exact ⟨by simp [rc0], by simp [rc0], by simp [rc0], by simp [rc0], by simp [rc0], by simp [rc0], by simp [rc0], fun i s hs => by simp [rc0] at hs, fun i s hs => by simp [rc0] at hs⟩
theorem RcHas.wroteW {B : Nat} {w w' : World} {r : Rc} {p : RcP} {X : RcX} {col : Nat → Nat} {ws : Ws} (h : RcHas B w r p X col) (k : Wrote w w' ws) (hd : ∀ q ∈ ws, q.1.block < B) : RcHas B w' r p X col :=
 h.same fun b hb hlt _ => k.block b hlt (fun q hq e => by have := hd q hq; omega)
theorem markMsg (m : MsgH) (a : Option Addr) (n cap k : Nat) (K : Int) (w : World) (hK : K = (k : Int)) (hk : k + 2 * n ≤ 1152921504606846900) (h : Room w a (n * 2)) :
  Calls Tryz.prog 14 #[.agg (msgV m (.slice a n cap)), .int .i64 K] w fun e w' => e = .returned (.int .i64 ((k + 2 * n : Nat) : Int)) ∧ Wrote w w' (wsS a k n) := by
 subst hK
 have hB := hid (show Below w.heap.size w (w.alloc (.cells (msgV m (.slice a n cap)) 45)) from ext_alloc (Below.refl _ _) _)
 go_enter Tryz.func14, Tryz.ntmps14
 go_wp2_with fail
 refine (markS_any a n cap k _ hk (h.ext hB.out)).mono ?_
 rintro e z ⟨rfl, hz⟩
 have WZ := hid (Wrote.base hB.out hz)
 clear hz
 go_wp2
 go_ret
 exact ⟨rfl, WZ.out⟩
theorem take_cnt {r : Rc} {n : Nat} (h : RcSmall r) (hn : n ≤ 1048576) : cnt r (lenM r.held) (lenA r.acks) 1 7 + 2 * n ≤ 1152921504606846900 := by
 have h1 := kM_bound (k := 1 + 2 * r.ss.length + 2 * r.ds.length) (lenM_small h.nH) r.held.length
 have h2 := kA_bound (k := kM (lenM r.held) (1 + 2 * r.ss.length + 2 * r.ds.length) r.held.length + r.wish.length + r.yes.length + 2 * r.best.length) (lenA_small h.nA) r.acks.length
 have := h.lS
 have := h.lD
 have := h.lH
 have := h.lW
 have := h.lY
 have := h.lB
 have := h.lA
 simp only [cnt]
 omega
theorem wsS_own {g k n : Nat} {q : Addr × Value} (h : q ∈ wsS (some ⟨g, 0, none⟩) k n) : q.1.block = g := by
 obtain ⟨j, _, e⟩ := wsS_mem _ _ _ q h
 rw [e]
 rfl
end Go.Proofs.YtffklmlljekceaaGreat
namespace Go.Proofs.YtffklmlljekceaaGreat
open Go.ChangeShapes Go.WideShapes Go.ChangeAt Go.RowKit
set_option linter.unusedSimpArgs false
set_option linter.unusedVariables false
set_option maxHeartbeats 8000000
set_option maxRecDepth 20000
structure SayS (tb g : Nat) (c : Array Value) (dp : Int) (w' : World) : Prop where
 bt : Blk w' tb c 121
 cd : w'.cell? ⟨g, 6, none⟩ = some (.int .i64 dp)
theorem SayS.drew {tb g : Nat} {c : Array Value} {dp : Int} {w' : World} (h : SayS tb g c dp w') : SayS tb g c dp w'.drew := ⟨h.bt, h.cd⟩
theorem implSayNo (B g pb : Nat) (r : Rc) (p : RcP) (X : RcX) (col : Nat → Nat) (to : Int) (w : World) (hg : B ≤ g) (hk : Blk w g (rcV r p) 41) (hc : 8 < col g) (hp : Blk w pb #[.pointer (some ⟨g, 0, none⟩)] 74) (hpc : 8 < col pb) (hpg : pb ≠ g) (h : RcHas B w r p X col) :
  Calls Tryz.prog 134 #[.agg #[.pointer (some ⟨g, 0, none⟩), .func (.func 133) #[] #[.pointer (some ⟨pb, 0, none⟩)]], .int .i64 to] w fun e w' => (∃ v, e = .returned v) ∧ GPost B g w col (holdR r ⟨9, 0, to, r.dp, 0, 0, ⟨#[]⟩⟩ []) w' := by
 have RD := hid h.fresh
 have HC := hid hc
 have HP := hid hpc
 have HG := hid hg
 have HPG := hid hpg
 have K0 := hid hk
 have P0 := hid hp
 have HBs := hid (show B ≤ w.heap.size from Nat.le_trans hg (Nat.le_of_lt hk.lt))
 have E1 := hid (show Below w.heap.size w (w.alloc (.cells #[.pointer (some ⟨g, 0, none⟩), .func (.func 133) #[] #[.pointer (some ⟨pb, 0, none⟩)]] 121)) from ext_alloc (Below.refl _ _) _)
 have hK0 : SayS w.heap.size g #[.pointer (some ⟨g, 0, none⟩), .func (.func 133) #[] #[.pointer (some ⟨pb, 0, none⟩)]] r.dp (w.alloc (.cells #[.pointer (some ⟨g, 0, none⟩), .func (.func 133) #[] #[.pointer (some ⟨pb, 0, none⟩)]] 121)) := ⟨Blk.new _ _ _, (hk.alloc _).cell 6⟩
 clear h hc hpc hg hpg hk hp
 go_enter Tryz.func134, Tryz.ntmps134
 go_wp2_with fail
 refine wp_region_held_drew (S := SayS w.heap.size g #[.pointer (some ⟨g, 0, none⟩), .func (.func 133) #[] #[.pointer (some ⟨pb, 0, none⟩)]] r.dp) (by kernel_rfl) hK0.drew (fun hHeld => ?_)
 clear hK0
 simp only [qz, Nat.reduceAdd]
 refine planH.go [0, 1, 2, 3, 4, 5, 6, 7, 8, 9] ?_
 iterate 10 (apply planH.take (at_lit rfl) (by kernel_rfl) (by rfl) (fun _ _ _ h => h) hHeld; (· intro w9 hSw; have hq := hSw.bt.cell; have hm := hSw.cd; clear hSw; go_simp; try with_reducible rfl); try simp only [qq])
 refine planH.fin ?_
 refine rdH 10 (by kernel_rfl) (at_lit rfl) (fun K hK => ?_)
 go_simp
 refine (implHold1 B g pb r p X (colF w.heap.size col) ⟨9, 0, to, r.dp, 0, 0, ⟨#[]⟩⟩ none [] 0 _ HG.out (K0.out.ext E1.out.drew) (by rw [colF_old K0.out.lt]; exact HC.out) (P0.out.ext E1.out.drew) (by rw [colF_old P0.out.lt]; exact HP.out) HPG.out (RD.out.ext E1.out.drew) (rowC_nil _ _ _ _ _ _) (fun q _ x x' _ hx' => by simp at hx') (Nat.zero_le _) (fun i s hs => by simp at hs)).mono ?_
 rintro e z ⟨⟨v, rfl⟩, p2, X2, col2, k2, has2, hc2, hb2, ot2⟩
 have O2 := hid ot2
 have TB := hid (ot2 w.heap.size (by simp) (by have := K0.out.lt; omega) (by rw [colF_new (Nat.le_refl _)]; omega))
 have fin := hid (show GPost B g w col (holdR r ⟨9, 0, to, r.dp, 0, 0, ⟨#[]⟩⟩ []) z from ⟨p2, X2, col2, k2, has2, hc2, (E1.out.drew.mono HBs.out).trans hb2, fun b hb hne h8 => by
  have q1 := ot2 b (by simp; omega) hne (by rw [colF_old hb]; exact h8)
  exact ⟨q1.1.trans (E1.out.drew.block b hb), q1.2⟩⟩)
 have c6 := (k2.cell 6).trans (show (rcV (holdR r ⟨9, 0, to, r.dp, 0, 0, ⟨#[]⟩⟩ []) p2)[6]? = some (Value.int .i64 r.dp) from congrArg (fun d => some (Value.int .i64 d)) (holdR_dp r ⟨9, 0, to, r.dp, 0, 0, ⟨#[]⟩⟩ []))
 have bt2 : Blk z w.heap.size #[.pointer (some ⟨g, 0, none⟩), .func (.func 133) #[] #[.pointer (some ⟨pb, 0, none⟩)]] 121 := TB.out.1.trans hHeld.bt
 clear ot2 has2 hb2 hc2 k2
 go_wp2_with fail
 refine hK.out _ _ ⟨bt2, c6⟩ (fun hNew => ?_)
 clear hK K hHeld hNew
 try simp only [qq]
 refine wpAnyH_done (by kernel_rfl) ?_ _
 go_wp2_with fail
 refine bodyPost_end (results_none rfl _ _ _) rfl ?_
 exact ⟨⟨_, rfl⟩, fin.out⟩
theorem GPost.from {B g : Nat} {w w1 w' : World} {col : Nat → Nat} {r' : Rc} (h : GPost B g w1 (colF w.heap.size col) r' w') (hb : Below w.heap.size w w1) (hB : B ≤ w.heap.size) : GPost B g w col r' w' := by
 obtain ⟨p', X', col', k, has, hc, hbl, ot⟩ := h
 refine ⟨p', X', col', k, has, hc, (hb.mono hB).trans hbl, fun b hlt hne h8 => ?_⟩
 have q1 := ot b (Nat.lt_of_lt_of_le hlt hb.size) hne (by rw [colF_old hlt]; exact h8)
 exact ⟨q1.1.trans (hb.block b hlt), q1.2⟩
theorem implWished (B g : Nat) (f : Value) (r : Rc) (p : RcP) (X : RcX) (col : Nat → Nat) (m : MsgH) (v : Value) (w : World) (hg : B ≤ g) (hk : Blk w g (rcV r p) 41) (hc : 8 < col g) (hv : validB r = true) (hm : m.x.size ≤ 1048576) (h : RcHas B w r p X col) :
  Calls Tryz.prog 108 #[.agg #[.pointer (some ⟨g, 0, none⟩), f], .agg (msgV m v)] w fun e w' => (∃ u, e = .returned u) ∧ GPost B g w col (wishR r m.x) w' := by
 have RD := hid h.fresh
 have HC := hid (show 8 < colF w.heap.size col g by rw [colF_old hk.lt]; exact hc)
 have HG := hid hg
 have K0 := hid hk
 have HBs := hid (show B ≤ w.heap.size from Nat.le_trans hg (Nat.le_of_lt hk.lt))
 have E1 := hid (show Below w.heap.size w ((w.alloc (.cells #[.pointer (some ⟨g, 0, none⟩), f] 121)).alloc (.cells (msgV m v) 45)) from ext_alloc (ext_alloc (Below.refl _ _) _) _)
 clear h hc hg hk
 go_enter Tryz.func108, Tryz.ntmps108
 go_wp2_with fail
 refine (implWishG B g r p X (colF w.heap.size col) m.x _ HG.out (K0.out.ext E1.out) HC.out hv hm (RD.out.ext E1.out)).mono ?_
 rintro e z ⟨⟨u, rfl⟩, gp⟩
 have G2 := hid (gp.from E1.out HBs.out)
 clear gp
 go_wp2_with fail
 refine bodyPost_end (results_none rfl _ _ _) rfl ?_
 exact ⟨⟨_, rfl⟩, G2.out⟩
end Go.Proofs.YtffklmlljekceaaGreat
