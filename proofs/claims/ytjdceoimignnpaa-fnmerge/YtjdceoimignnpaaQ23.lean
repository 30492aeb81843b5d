import Derived.Test.YtjdceoimignnpaaQ21
import Derived.Test.YtjdceoimignnpaaQ22
namespace Go.Proofs.Ytjdceoimignnpaa
open Go.ChangeShapes Go.WideShapes Go.ChangeAt Go.RowKit next
set_option linter.unusedVariables false
set_option linter.unusedSimpArgs false
variable {H : List Mp} {xs : List Value} {B B' b n t xb : Nat} {c c' c'' col col' : Nat → Nat} {a : Option Addr} {r r' x : Rc} {p p' : RcP} {X X' : RcX} {e : TypeId} {v v' w w' : World}
def rc0 : Rc := ⟨0, 0, false, 0, 0, [], 0, 0, [], [], [], false, false, 0, [], [], [], 0⟩
def rp0 : RcP := ⟨none, 0, none, 0, none, 0, none, 0, none, 0, none, 0, none, 0⟩
theorem rowC_nil0 (B : Nat) (w : World) (col : Nat → Nat) (t : Nat) (e : TypeId) (k : Nat) : RowC B w col t e k none 0 0 [] := ⟨World.ownsRow_nil _ _ _ _, fun x hx => by simp at hx⟩
theorem rc0_has (B : Nat) (w : World) (col : Nat → Nat) : RcHas B w rc0 rp0 ⟨[], []⟩ col :=
 ⟨rowC_nil0 _ _ _ _ _ _, rowC_nil0 _ _ _ _ _ _, rowC_nil0 _ _ _ _ _ _, rfl, ⟨fun m hm => absurd hm (by simp), List.Pairwise.nil⟩, rowC_nil0 _ _ _ _ _ _, rowC_nil0 _ _ _ _ _ _, rowC_nil0 _ _ _ _ _ _, rowC_nil0 _ _ _ _ _ _, rfl, ⟨fun m hm => absurd hm (by simp), List.Pairwise.nil⟩,
  ⟨fun i s hs => by simp [rc0] at hs, fun i s hs => by simp [rc0] at hs, fun i s hs => by simp [rc0] at hs, fun i s hs => by simp [rc0] at hs, fun i s hs => by simp [rc0] at hs, fun i s hs => by simp [rc0] at hs, fun i s hs => by simp [rc0] at hs⟩⟩
def APost (w : World) (r' : Rc) (e : Ending) (w' : World) : Prop := ∃ p' X' col', e = .returned (.agg (rcV r' p')) ∧ RcHas w.heap.size w' r' p' X' col' ∧ Below w.heap.size w w'
theorem RcHas.far (h : RcHas B w r p X col) {g : Nat} (hg : g < B) (cs : Array Value) : RcHas B (w.setRow g cs) r p X col :=
 h.same fun b hb _ _ => setRow_other w g b cs (by omega)
theorem RcHas.lower (h : RcHas B w r p X col) (hB : B' ≤ B) : RcHas B' w r p X col :=
 ⟨h.s.low hB, h.d.low hB, h.h.low hB, h.hm, ⟨fun m hm => (h.hi.row m hm).low hB, h.hi.apart⟩, h.t.low hB, h.y.low hB, h.b.low hB, h.a.low hB, h.am, ⟨fun m hm => (h.ai.row m hm).low hB, h.ai.apart⟩, h.gd⟩
def ackN (r : Rc) : Nat → Rc
 | 0 => r
 | k + 1 => if (r.ss.getD k (0, ⟨#[]⟩)).1 = r.ball then ackR (ackN r k) ((k : Int) + 1) r.num else ackN r k
def openR (r : Rc) (t : ByteArray) : Rc := if hasSlot r.ds t = false ∧ r.ds.length < 60 then { r with ds := r.ds ++ [(r.ball, t)] } else r
def openN (r : Rc) (l : List ByteArray) : Rc := l.foldl openR r
def leadT (r : Rc) : Rc := openN (ackN r r.ss.length) r.wish
def beatM (r : Rc) : MsgH := ⟨5, 0, 0, r.ball, 0, r.dk, ⟨#[]⟩⟩
def accM (r : Rc) (i : Nat) : MsgH := ⟨3, 0, 0, r.ball, (i : Int) + 1, 0, (r.ds.getD i (0, ⟨#[]⟩)).2⟩
def accP (r : Rc) : Nat → List Mp
 | 0 => []
 | n + 1 => accP r n ++ othP r.num (accM r (r.dk.toNat + n)) r.of_.toNat
def leadP (r : Rc) : List Mp := othP r.num (beatM r) r.of_.toNat ++ accP r (r.ds.length - r.dk.toNat)
def tick1 (r : Rc) : Rc := { r with sp := r.dp, sk := r.dk, ss := r.ds, held := [], wish := r.wish.filter (fun t => !hasSlot (r.ds.take r.dk.toNat) t), heard := if r.heard < 1000000 then r.heard + 1 else r.heard }
def tick2 (r : Rc) : Rc := if r.tr = true ∧ r.sp = r.ball then promR r r.num r.ds else r
def holdAll (r : Rc) (l : List Mp) : Rc := l.foldl (fun r m => holdR r m.1.1 m.1.2) r
def prepM (b : Int) : MsgH := ⟨1, 0, 0, b, 0, 0, ⟨#[]⟩⟩
def tryR (r : Rc) : Rc :=
 if 4 + 3 * r.num < r.heard then
  (if 0 < nextB r.dp r.num r.of_ then
   holdAll { calmR r with heard := 0, dp := nextB r.dp r.num r.of_, ball := nextB r.dp r.num r.of_, tr := true } (othP r.num (prepM (nextB r.dp r.num r.of_)) r.of_.toNat)
  else { calmR r with heard := 0 })
 else r
def tickR (r : Rc) : Rc := if (tick2 (tick1 r)).lead = true then leadT (tick2 (tick1 r)) else tryR (tick2 (tick1 r))
def tickP (r : Rc) : List Mp := if (tick2 (tick1 r)).lead = true then leadP (leadT (tick2 (tick1 r))) else []
def recTickR (r : Rc) : Rc := if validB r = true then (if r.up = true then tickR r else r) else rc0
def recTickM (r : Rc) : List Ms := if validB r = true ∧ r.up = true then r.held ++ (tickP r).map (·.1) else []
theorem ackN_same {k : Nat} (h : ¬ (r.ss.getD k (0, ⟨#[]⟩)).1 = r.ball) : ackN r (k + 1) = ackN r k := by rw [ackN, if_neg h]
theorem ackN_more {k : Nat} (h : (r.ss.getD k (0, ⟨#[]⟩)).1 = r.ball) : ackN r (k + 1) = ackR (ackN r k) ((k : Int) + 1) r.num := by rw [ackN, if_pos h]
def AckLike (r x : Rc) : Prop := ∃ l d, x = { r with acks := l, dk := d }
theorem ackN_like (r : Rc) : ∀ k, AckLike r (ackN r k)
 | 0 => ⟨r.acks, r.dk, rfl⟩
 | k + 1 => by
  obtain ⟨l, d, h⟩ := ackN_like r k;unfold ackN;split
  ·rw [h]; exact ⟨_, _, rfl⟩
  exact ⟨l, d, h⟩
structure LeadOk (n : Nat) (r : Rc) : Prop where
 d0 : 0 ≤ r.dk
 d1 : r.dk ≤ r.ds.length
 sm : RcSmall r
 a1 : r.acks.length ≤ 1000 + n
 a2 : ∀ a ∈ r.acks, a.2.length ≤ 1000 + n
 ba : wfI r.ball
 nu : wfI r.num
theorem ackL_fromN (N : Nat) : ∀ (l : List Ak) (i f : Int), (∀ a ∈ l, a.2.length ≤ N) → ∀ a ∈ ackL l i f, a.2.length ≤ N + 1
 | [], i, f, _, a, ha => by simp only [ackL, List.mem_singleton] at ha; subst ha; simp
 | x :: l, i, f, h, a, ha => by
  unfold ackL at ha;split at ha
  ·rcases List.mem_cons.1 ha with rfl | ha
   ·have := h a (by simp); omega
   exact ackL_fromN N l i f (fun y hy => h y (by simp [hy])) a ha
  split at ha
  ·rcases List.mem_cons.1 ha with rfl | ha
   ·have := addL_len x.2 f; have := h x (by simp); simp only; omega
   have := h a (by simp [ha]); omega
  rcases List.mem_cons.1 ha with rfl | ha
  ·simp
  have := h a ha; omega
theorem LeadOk.ack (h : LeadOk n r) (hn : n ≤ 100000) (i f : Int) : LeadOk (n + 1) (ackR r i f) := by
 have q1 := ackL_len r.acks i f;have q2 := ackL_fromN _ r.acks i f h.a2;have q3 := advK_in { r with acks := ackL r.acks i f } (ackL r.acks i f) r.dk h.d0 h.d1;have a1 := h.a1;refine ⟨q3.1, q3.2, ⟨h.sm.lS, h.sm.lD, h.sm.lH, h.sm.lW, h.sm.lY, h.sm.lB, (show (ackL r.acks i f).length ≤ 1048576 by omega), h.sm.nH, fun j s hs => ?_⟩, (show (ackL r.acks i f).length ≤ 1000 + (n + 1) by omega), (fun a ha => by have := q2 a ha; omega), h.ba, h.nu⟩;have := q2 s (List.mem_of_getElem? hs);omega
theorem LeadOk.more {m : Nat} (h : LeadOk n r) (hm : n ≤ m) : LeadOk m r := ⟨h.d0, h.d1, h.sm, by have := h.a1; omega, fun a ha => by have := h.a2 a ha; omega, h.ba, h.nu⟩
theorem ackN_ok (h : LeadOk n r) : ∀ k, n + k ≤ 100000 → LeadOk (n + k) (ackN r k)
 | 0, _ => h
 | k + 1, hk => by
  have ih := ackN_ok h k (by omega);unfold ackN;split
  ·exact ih.ack (by omega) _ _
  exact ih.more (by omega)
theorem setL_end (l : List Sl) (s : Sl) : setL l (l.length + 1) s = l ++ [s] := by
 unfold setL padL;simp
theorem openR_no {t : ByteArray} (h : ¬ (hasSlot r.ds t = false ∧ r.ds.length < 60)) : openR r t = r := by unfold openR; rw [if_neg h]
theorem openR_yes {t : ByteArray} (h : hasSlot r.ds t = false ∧ r.ds.length < 60) : openR r t = setR r (r.ds.length + 1) (r.ball, t) := by
 unfold openR setR; rw [if_pos h, setL_end]
def OpenLike (r x : Rc) : Prop := ∃ l, x = { r with ds := l } ∧ r.ds.length ≤ l.length ∧ l.length ≤ max 60 r.ds.length
theorem openN_like (r : Rc) (l : List ByteArray) : OpenLike r (openN r l) := by
 induction l generalizing r with
 | nil => exact ⟨r.ds, rfl, Nat.le_refl _, by omega⟩
 | cons t l ih =>
  show OpenLike r (openN (openR r t) l);obtain ⟨l', h1, h2, h3⟩ := ih (openR r t);rw [h1];unfold openR at *;split at h2
  ·rename_i hc;rw [if_pos hc] at h3 ⊢;simp only [List.length_append, List.length_cons, List.length_nil] at h2 h3;exact ⟨l', rfl, by omega, by have := hc.2; omega⟩
  rename_i hc;rw [if_neg hc] at h3 ⊢;exact ⟨l', rfl, h2, h3⟩
theorem openN_snoc (r : Rc) (l : List ByteArray) (t : ByteArray) : openN r (l ++ [t]) = openR (openN r l) t := by unfold openN; rw [List.foldl_append]; rfl
theorem accP_len (r : Rc) : ∀ n, (accP r n).length ≤ n * r.of_.toNat
 | 0 => by simp [accP]
 | n + 1 => by
  have h1 := accP_len r n;have h2 := othP_len r.num (accM r (r.dk.toNat + n)) r.of_.toNat;have h3 : (n + 1) * r.of_.toNat = n * r.of_.toNat + r.of_.toNat := by rw [Nat.succ_mul]
  unfold accP;rw [List.length_append];omega
structure LS (B : Nat) (w : World) (col : Nat → Nat) (r : Rc) (p : RcP) (X : RcX) (c' : Nat → Nat) (v : World) : Prop where
 k : Blk v w.heap.size (rcV r p) 31
 z : Blk v (w.heap.size + 1) #[.int .i64 0, .int .i64 0, .bool false, .int .i64 0, .int .i64 0, .slice none 0 0, .int .i64 0, .int .i64 0, .slice none 0 0, .slice none 0 0, .slice none 0 0, .bool false, .bool false, .int .i64 0, .slice none 0 0, .slice none 0 0, .slice none 0 0, .int .i64 0] 31
 has : RcHas B v r p X c'
 c0 : 8 < c' w.heap.size
 c1 : 8 < c' (w.heap.size + 1)
 bel : Below B w v
 oth : Others w col v c'
theorem LS.ext (h : LS B w col r p X c' v) (hB : B ≤ w.heap.size) (hb : Below v.heap.size v v') : LS B w col r p X c' v' :=
 ⟨h.k.ext hb, h.z.ext hb, h.has.ext hb, h.c0, h.c1, h.bel.trans (hb.mono (Nat.le_trans hB (Nat.le_of_lt (Nat.lt_of_le_of_lt (by omega) h.z.lt)))), fun b hb' h8 => ⟨(hb.block b (by have := h.z.lt; omega)).trans (h.oth b hb' h8).1, (h.oth b hb' h8).2⟩⟩
theorem LS.call (h : LS B w col r p X c' v) (has' : RcHas B v' r' p' X' c'') (hb : Below B v v') (ot : Others v c' v' c'') :
  Blk v' w.heap.size (rcV r p) 31 ∧ Blk v' (w.heap.size + 1) #[.int .i64 0, .int .i64 0, .bool false, .int .i64 0, .int .i64 0, .slice none 0 0, .int .i64 0, .int .i64 0, .slice none 0 0, .slice none 0 0, .slice none 0 0, .bool false, .bool false, .int .i64 0, .slice none 0 0, .slice none 0 0, .slice none 0 0, .int .i64 0] 31 ∧ 8 < c'' w.heap.size ∧ 8 < c'' (w.heap.size + 1) ∧ Below B w v' ∧ Others w col v' c'' :=
 ⟨(ot _ h.k.lt h.c0).1.trans h.k, (ot _ h.z.lt h.c1).1.trans h.z, (ot _ h.k.lt h.c0).2, (ot _ h.z.lt h.c1).2, h.bel.trans hb, h.oth.trans ot (by have := h.z.lt; omega)⟩
theorem LS.next (h : LS B w col r p X c' v) (hB : B ≤ w.heap.size) (has' : RcHas B v' r' p' X' c'') (hb : Below B v v') (ot : Others v c' v' c'') :
  LS B w col r' p' X' c'' (v'.setRow w.heap.size (rcV r' p')) := by
 obtain ⟨q1, q3, q4, q6, q7, q8⟩ := h.call has' hb ot;exact ⟨setRow_heap _ _ _ _ _ _ q1, (setRow_other _ _ _ _ (by omega)).trans q3, has'.setRow q4 _, q4, q6, below_setRow' q7 hB _, fun b hb' h8 => ⟨(setRow_other _ _ _ _ (by omega)).trans (q8 b hb' h8).1, (q8 b hb' h8).2⟩⟩
theorem LS.start (h : RcHas B w r p X col) (hB : B ≤ w.heap.size) : LS B w col r p X (colF w.heap.size col) ((w.alloc (.cells (rcV r p) 31)).alloc (.cells #[.int .i64 0, .int .i64 0, .bool false, .int .i64 0, .int .i64 0, .slice none 0 0, .int .i64 0, .int .i64 0, .slice none 0 0, .slice none 0 0, .slice none 0 0, .bool false, .bool false, .int .i64 0, .slice none 0 0, .slice none 0 0, .slice none 0 0, .int .i64 0] 31)) := by
 have hb : Below w.heap.size w ((w.alloc (.cells (rcV r p) 31)).alloc (.cells #[.int .i64 0, .int .i64 0, .bool false, .int .i64 0, .int .i64 0, .slice none 0 0, .int .i64 0, .int .i64 0, .slice none 0 0, .slice none 0 0, .slice none 0 0, .bool false, .bool false, .int .i64 0, .slice none 0 0, .slice none 0 0, .slice none 0 0, .int .i64 0] 31)) := ext_alloc (ext_alloc (Below.refl _ _) _) _;exact ⟨(Blk.new _ _ _).alloc _, Blk.new' _ _ (by simp), h.fresh.ext hb, by rw [colF_new (Nat.le_refl _)]; omega, by rw [colF_new (by omega)]; omega, hb.mono hB, Others.of hb (fun b hb => colF_old hb)⟩
/-- a row of messages stays as long as its block does -/
theorem RowM.same {c : Nat} (h : RowM B w a H c) (hs : ∀ x, a = some x → w'.heap[x.block]? = w.heap[x.block]?) : RowM B w' a H c := RowC.same h hs
theorem RowM.others {c : Nat} (h : RowM B w a H c) (hc : ∀ x, a = some x → 8 < col x.block) (ot : Others w col w' col') : RowM B w' a H c :=
 h.same fun x hx => (ot x.block (h.lt x hx).2 (hc x hx)).1
structure GrS (V : World) (row : Option Nat) (w' : World) : Prop where
 gr : V.grownBy w' row
theorem GrS.drew {V : World} {row : Option Nat} (h : GrS V row w') : GrS V row w'.drew := ⟨⟨h.gr.os, h.gr.tape, h.gr.output, h.gr.size, h.gr.block⟩⟩
theorem ownBlock_far {c : Nat} (hc : ∀ x, a = some x → x.block ≠ b) : some b ≠ (Value.slice a n c).ownBlock := fun e => by
 cases h : a with
 | none => rw [h] at e; simp [Value.ownBlock] at e
 | some x =>
  rw [h] at e;simp only [Value.ownBlock, Option.some.injEq] at e;exact hc x h e.symm
/-- a recorder and what is sent are answered -/
def LPost (B : Nat) (w : World) (col : Nat → Nat) (a : Option Addr) (r' : Rc) (H' : List Mp) (e : Ending) (w' : World) : Prop :=
 ∃ p' X' col' a' c', e = .returned (.tuple #[.agg (rcV r' p'), .slice a' H'.length c']) ∧ RcHas B w' r' p' X' col' ∧ RowM B w' a' H' c' ∧ (∀ x, a' = some x → 8 < col' x.block) ∧ Below B w w' ∧ (∀ b, b < w.heap.size → 8 < col b → (∀ y, a = some y → y.block ≠ b) → w'.heap[b]? = w.heap[b]? ∧ 8 < col' b)
theorem RowC.forget {k : Nat} {c : Nat} (h : RowC B w col t e k a n c xs) : RowC B w (fun _ => 0) 0 e k a n c xs := ⟨h.own, fun _ _ => rfl⟩
theorem RowC.tint {t' : Nat} {k : Nat} {c : Nat} (h : RowC B w col t e k a n c xs) (hc : ∀ x, a = some x → col' x.block = t') : RowC B w col' t' e k a n c xs := ⟨h.own, hc⟩
structure OutS (B : Nat) (v : World) (c : Nat → Nat) (a : Option Addr) (H : List Mp) (k : Nat) : Prop where
 row : RowM B v a H k
 inn : InnM B v (fun _ => 0) 0 H
 ca : ∀ x, a = some x → 8 < c x.block
 ci : ∀ q ∈ H, ∀ y, q.2.1 = some y → 8 < c y.block ∧ ∀ x, a = some x → x.block ≠ y.block
 gd : MsgsGood (H.map (·.1))
theorem OutS.at {k : Nat} (h : OutS B v c a H k) : MsgsAt v a (H.map (·.1)) := msgs_at h.row rfl h.inn h.gd
theorem OutS.plain {k : Nat} (h : OutS B v c a H k) : MsgsPlain v a (H.map (·.1)) := msgs_plain h.row rfl h.inn
theorem OutS.same {k : Nat} (h : OutS B v c a H k) (hs : ∀ b, b < v.heap.size → 8 < c b → v'.heap[b]? = v.heap[b]? ∧ 8 < c' b) : OutS B v' c' a H k :=
 ⟨h.row.same fun x hx => (hs _ (h.row.lt x hx).2 (h.ca x hx)).1, ⟨fun m hm => (h.inn.row m hm).same fun y hy => (hs _ ((h.inn.row m hm).lt y hy).2 (h.ci m hm y hy).1).1, h.inn.apart⟩, fun x hx => (hs _ (h.row.lt x hx).2 (h.ca x hx)).2, fun q hq y hy => ⟨(hs _ ((h.inn.row q hq).lt y hy).2 (h.ci q hq y hy).1).2, (h.ci q hq y hy).2⟩, h.gd⟩
theorem OutS.ext {k : Nat} (h : OutS B v c a H k) (hb : Below v.heap.size v v') : OutS B v' c a H k := h.same fun b hlt h8 => ⟨hb.block b hlt, h8⟩
theorem OutS.others {k : Nat} (h : OutS B v c a H k) (ot : Others v c v' c') : OutS B v' c' a H k := h.same fun b hlt h8 => ot b hlt h8
theorem OutS.fresh {k : Nat} (h : OutS B v c a H k) : OutS B v (colF v.heap.size c) a H k := h.same fun b hlt h8 => ⟨rfl, by rw [colF_old hlt]; exact h8⟩
/-- the colours once nothing is held -/
def unheld (c : Nat → Nat) (b : Nat) : Nat := if c b = 2 ∨ c b = 7 then 9 else c b
theorem unheld_of (h : c b = t) (h2 : t ≠ 2) (h7 : t ≠ 7) : unheld c b = t := by unfold unheld; rw [if_neg (by omega)]; exact h
theorem unheld_big (h : 8 < c b) : 8 < unheld c b := by unfold unheld; rw [if_neg (by omega)]; exact h
theorem RcHas.drop_h (h : RcHas B w r p X col) : RcHas B w { r with held := [] } { p with aH := none, cH := 0 } ⟨[], X.A⟩ (unheld col) :=
 ⟨h.s.tint fun x hx => unheld_of (h.s.col x hx) (by omega) (by omega), h.d.tint fun x hx => unheld_of (h.d.col x hx) (by omega) (by omega), rowC_nil0 _ _ _ _ _ _, rfl, ⟨fun m hm => absurd hm (by simp), List.Pairwise.nil⟩, h.t.tint fun x hx => unheld_of (h.t.col x hx) (by omega) (by omega), h.y.tint fun x hx => unheld_of (h.y.col x hx) (by omega) (by omega), h.b.tint fun x hx => unheld_of (h.b.col x hx) (by omega) (by omega), h.a.tint fun x hx => unheld_of (h.a.col x hx) (by omega) (by omega), h.am, ⟨fun m hm => (h.ai.row m hm).tint fun x hx => unheld_of ((h.ai.row m hm).col x hx) (by omega) (by omega), h.ai.apart⟩, ⟨h.gd.s, h.gd.d, fun i s hs => by simp at hs, h.gd.t, h.gd.y, h.gd.b, h.gd.a⟩⟩
/-- what was held is sent -/
theorem RcHas.sent (h : RcHas B w r p X col) : OutS B w (unheld col) p.aH X.H p.cH := by
 have hl : X.H.length = r.held.length := by rw [← h.hm, List.length_map]
 refine ⟨by rw [RowM, hl]; exact h.h.forget, ⟨fun m hm => (h.hi.row m hm).forget, h.hi.apart⟩, fun x hx => ?_, fun q hq y hy => ⟨?_, fun x hx e => ?_⟩, by rw [h.hm]; exact h.gd.h⟩
 ·unfold unheld; rw [if_pos (.inl (h.h.col x hx))]; omega
 ·unfold unheld; rw [if_pos (.inr ((h.hi.row q hq).col y hy))]; omega
 ·have h1 := h.h.col x hx;have h2 := (h.hi.row q hq).col y hy;rw [e] at h1;omega
/-- what lies below B is in no list -/
def under (B : Nat) (c : Nat → Nat) (b : Nat) : Nat := if b < B then 9 else c b
theorem under_low (h : b < B) : under B c b = 9 := if_pos h
theorem under_high (h : B ≤ b) : under B c b = c b := if_neg (by omega)
theorem RowC.down {k : Nat} {c : Nat} (h : RowC B w col t e k a n c xs) (hB : B' ≤ B) : RowC B' w (under B col) t e k a n c xs :=
 (h.low hB).tint fun x hx => by rw [under_high (h.lt x hx).1]; exact h.col x hx
theorem RcHas.down (h : RcHas B w r p X col) (hB : B' ≤ B) : RcHas B' w r p X (under B col) :=
 ⟨h.s.down hB, h.d.down hB, h.h.down hB, h.hm, ⟨fun m hm => (h.hi.row m hm).down hB, h.hi.apart⟩, h.t.down hB, h.y.down hB, h.b.down hB, h.a.down hB, h.am, ⟨fun m hm => (h.ai.row m hm).down hB, h.ai.apart⟩, h.gd⟩
theorem RowC.ne {t' : TypeId} {k : Nat} {c : Nat} (h : RowC B w col t e k a n c xs) {g : Nat} {cs : Array Value} (hk : Blk w g cs t') (hne : e ≠ t') : ∀ x, a = some x → x.block ≠ g := fun x hx eq => by
 rcases h.own.2 with ⟨h0, _⟩ | ⟨g', cap, cur, hv, _, hh, _⟩
 ·rw [hx] at h0; simp at h0
 ·rw [hx] at hv;simp only [Value.slice.injEq, Option.some.injEq] at hv;have e2 : g' = g := by rw [← eq, hv.1]
  rw [e2] at hh;have h9 := hh.symm.trans hk;simp only [Option.some.injEq, Obj.cells.injEq] at h9;exact hne h9.2.1
theorem OutS.box (h : OutS B v c a H n) {g : Nat} {cs : Array Value} (hk : Blk v g cs 31) (cs' : Array Value) : OutS B (v.setRow g cs') c a H n :=
 ⟨h.row.same fun x hx => setRow_other _ _ _ _ (RowC.ne h.row hk (by decide) x hx), ⟨fun m hm => (h.inn.row m hm).same fun y hy => setRow_other _ _ _ _ ((h.inn.row m hm).ne hk (by decide) y hy), h.inn.apart⟩, h.ca, h.ci, h.gd⟩
theorem OutS.cell (h : OutS B v c a H n) {g o : Nat} {cs : Array Value} (hk : Blk v g cs 31) (u : Value) : OutS B (v.setCell ⟨g, o, none⟩ u) c a H n :=
 ⟨h.row.same fun x hx => heap_setCell_other _ ⟨g, o, none⟩ _ _ (RowC.ne h.row hk (by decide) x hx), ⟨fun m hm => (h.inn.row m hm).same fun y hy => heap_setCell_other _ ⟨g, o, none⟩ _ _ ((h.inn.row m hm).ne hk (by decide) y hy), h.inn.apart⟩, h.ca, h.ci, h.gd⟩
structure TKS (w : World) (xb : Nat) (x : Rc) (p : RcP) (X : RcX) (c : Nat → Nat) (a : Option Addr) (H : List Mp) (n : Nat) (v : World) : Prop where
 k : Blk v xb (rcV x p) 31
 z : Blk v (w.heap.size + 1) zRc 31
 has : RcHas w.heap.size v x p X c
 cx : 8 < c xb
 cz : 8 < c (w.heap.size + 1)
 bel : Below w.heap.size w v
 out : OutS w.heap.size v c a H n
 hx : w.heap.size + 1 < xb
theorem TKS.lt (h : TKS w xb x p X c a H n v) : w.heap.size ≤ v.heap.size := h.bel.size
theorem TKS.ext (h : TKS w xb x p X c a H n v) (hb : Below v.heap.size v v') : TKS w xb x p X c a H n v' :=
 ⟨h.k.ext hb, h.z.ext hb, h.has.ext hb, h.cx, h.cz, ext_trans h.bel hb, h.out.ext hb, h.hx⟩
/-- behind a call that answers a recorder: its answer is laid into the box -/
theorem TKS.call {w : World} {xb : Nat} {x x' : Rc} {p p' : RcP} {X X' : RcX} {c c' : Nat → Nat} {a : Option Addr} {H : List Mp} {n : Nat} {v v' : World} (h : TKS w xb x p X c a H n v) (ot : Others v c v' c') : Blk v' xb (rcV x p) 31 ∧ Blk v' (w.heap.size + 1) zRc 31 :=
 ⟨(ot _ h.k.lt h.cx).1.trans h.k, (ot _ h.z.lt h.cz).1.trans h.z⟩
theorem TKS.next {x' : Rc} (h : TKS w xb x p X c a H n v) (has' : RcHas w.heap.size v' x' p' X' c') (hb : Below w.heap.size v v') (ot : Others v c v' c') :
  TKS w xb x' p' X' c' a H n (v'.setRow xb (rcV x' p')) := by
 have q1 := (ot _ h.k.lt h.cx).1.trans h.k;have q2 := (ot _ h.z.lt h.cz).1.trans h.z;have hx := h.hx
 exact ⟨setRow_heap _ _ _ _ _ _ q1, (setRow_other _ _ _ _ (by omega)).trans q2, has'.setRow (ot _ h.k.lt h.cx).2 _, (ot _ h.k.lt h.cx).2, (ot _ h.z.lt h.cz).2, below_setRow' (h.bel.trans hb) (by omega) _,
  (h.out.others ot).box q1 _, h.hx⟩
/-- a field of the box is set -/
theorem TKS.put (h : TKS w xb x p X c a H n v) (x' : Rc) (o : Nat) (u : Value) (hk : (rcV x p).set! o u = rcV x' p) (hh : RcHas w.heap.size v x' p X c) : TKS w xb x' p X c a H n (v.setCell ⟨xb, o, none⟩ u) := by
 have hx := h.hx;refine ⟨?_, h.z.setCell (by simp; omega) _, hh.setCell (q := ⟨xb, o, none⟩) h.cx _, h.cx, h.cz, below_set h.bel (show w.heap.size ≤ xb by omega) _, h.out.cell h.k _, h.hx⟩;rw [← hk];have := h.k.set (o := o) u;simpa using this
end Go.Proofs.Ytjdceoimignnpaa
