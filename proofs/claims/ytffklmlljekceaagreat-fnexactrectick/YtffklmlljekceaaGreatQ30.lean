import Derived.Test.YtffklmlljekceaaGreatQ29
namespace Go.Proofs.YtffklmlljekceaaGreat
open Go.ChangeShapes Go.WideShapes Go.ChangeAt Go.RowKit
set_option linter.unusedSimpArgs false
set_option linter.unusedVariables false
set_option maxHeartbeats 16000000
set_option maxRecDepth 20000
/-- what lies below B is in no list -/
def under (B : Nat) (c : Nat → Nat) (b : Nat) : Nat := if b < B then 9 else c b
theorem under_low {B b : Nat} {c : Nat → Nat} (h : b < B) : under B c b = 9 := if_pos h
theorem under_high {B b : Nat} {c : Nat → Nat} (h : B ≤ b) : under B c b = c b := if_neg (by omega)
theorem RowC.down {B B' : Nat} {w : World} {col : Nat → Nat} {t : Nat} {e : TypeId} {k : Nat} {a : Option Addr} {n c : Nat} {xs : List Value} (h : RowC B w col t e k a n c xs) (hB : B' ≤ B) : RowC B' w (under B col) t e k a n c xs :=
 (h.low hB).tint fun x hx => by rw [under_high (h.lt x hx).1]; exact h.col x hx
theorem RcHas.down {B B' : Nat} {w : World} {r : Rc} {p : RcP} {X : RcX} {col : Nat → Nat} (h : RcHas B w r p X col) (hB : B' ≤ B) : RcHas B' w r p X (under B col) :=
 ⟨h.s.down hB, h.d.down hB, h.h.down hB, h.hm, ⟨fun m hm => (h.hi.row m hm).down hB, h.hi.apart⟩, h.t.down hB, h.y.down hB, h.b.down hB, h.a.down hB, h.am, ⟨fun m hm => (h.ai.row m hm).down hB, h.ai.apart⟩, h.gd⟩
theorem RowC.ne {B : Nat} {w : World} {col : Nat → Nat} {t : Nat} {e t' : TypeId} {k : Nat} {a : Option Addr} {n c : Nat} {xs : List Value} (h : RowC B w col t e k a n c xs) {g : Nat} {cs : Array Value} (hk : Blk w g cs t') (hne : e ≠ t') : ∀ x, a = some x → x.block ≠ g := fun x hx eq => by
 rcases h.own.2 with ⟨h0, _⟩ | ⟨g', cap, cur, hv, _, hh, _⟩
 ·rw [hx] at h0; simp at h0
 ·rw [hx] at hv
  simp only [Value.slice.injEq, Option.some.injEq] at hv
  have e2 : g' = g := by rw [← eq, hv.1]
  rw [e2] at hh
  have h9 := hh.symm.trans hk
  simp only [Option.some.injEq, Obj.cells.injEq] at h9
  exact hne h9.2.1
theorem OutS.box {B : Nat} {v : World} {c : Nat → Nat} {a : Option Addr} {H : List Mp} {n : Nat} (h : OutS B v c a H n) {g : Nat} {cs : Array Value} (hk : Blk v g cs 41) (cs' : Array Value) : OutS B (v.setRow g cs') c a H n :=
 ⟨h.row.same fun x hx => setRow_other _ _ _ _ (RowC.ne h.row hk (by decide) x hx), ⟨fun m hm => (h.inn.row m hm).same fun y hy => setRow_other _ _ _ _ ((h.inn.row m hm).ne hk (by decide) y hy), h.inn.apart⟩, h.ca, h.ci, h.gd⟩
theorem OutS.cell {B : Nat} {v : World} {c : Nat → Nat} {a : Option Addr} {H : List Mp} {n : Nat} (h : OutS B v c a H n) {g o : Nat} {cs : Array Value} (hk : Blk v g cs 41) (u : Value) : OutS B (v.setCell ⟨g, o, none⟩ u) c a H n :=
 ⟨h.row.same fun x hx => heap_setCell_other _ ⟨g, o, none⟩ _ _ (RowC.ne h.row hk (by decide) x hx), ⟨fun m hm => (h.inn.row m hm).same fun y hy => heap_setCell_other _ ⟨g, o, none⟩ _ _ ((h.inn.row m hm).ne hk (by decide) y hy), h.inn.apart⟩, h.ca, h.ci, h.gd⟩
structure TKS (w : World) (xb : Nat) (x : Rc) (p : RcP) (X : RcX) (c : Nat → Nat) (a : Option Addr) (H : List Mp) (n : Nat) (v : World) : Prop where
 k : Blk v xb (rcV x p) 41
 z : Blk v (w.heap.size + 1) zRc 41
 has : RcHas w.heap.size v x p X c
 cx : 8 < c xb
 cz : 8 < c (w.heap.size + 1)
 bel : Below w.heap.size w v
 out : OutS w.heap.size v c a H n
 hx : w.heap.size + 1 < xb
theorem TKS.lt {w : World} {xb : Nat} {x : Rc} {p : RcP} {X : RcX} {c : Nat → Nat} {a : Option Addr} {H : List Mp} {n : Nat} {v : World} (h : TKS w xb x p X c a H n v) : w.heap.size ≤ v.heap.size := h.bel.size
theorem TKS.ext {w : World} {xb : Nat} {x : Rc} {p : RcP} {X : RcX} {c : Nat → Nat} {a : Option Addr} {H : List Mp} {n : Nat} {v v' : World} (h : TKS w xb x p X c a H n v) (hb : Below v.heap.size v v') : TKS w xb x p X c a H n v' :=
 ⟨h.k.ext hb, h.z.ext hb, h.has.ext hb, h.cx, h.cz, ext_trans h.bel hb, h.out.ext hb, h.hx⟩
/-- behind a call that answers a recorder: its answer is laid into the box -/
theorem TKS.call {w : World} {xb : Nat} {x x' : Rc} {p p' : RcP} {X X' : RcX} {c c' : Nat → Nat} {a : Option Addr} {H : List Mp} {n : Nat} {v v' : World} (h : TKS w xb x p X c a H n v) (ot : Others v c v' c') : Blk v' xb (rcV x p) 41 ∧ Blk v' (w.heap.size + 1) zRc 41 :=
 ⟨(ot _ h.k.lt h.cx).1.trans h.k, (ot _ h.z.lt h.cz).1.trans h.z⟩
theorem TKS.next {w : World} {xb : Nat} {x x' : Rc} {p p' : RcP} {X X' : RcX} {c c' : Nat → Nat} {a : Option Addr} {H : List Mp} {n : Nat} {v v' : World} (h : TKS w xb x p X c a H n v) (has' : RcHas w.heap.size v' x' p' X' c') (hb : Below w.heap.size v v') (ot : Others v c v' c') :
  TKS w xb x' p' X' c' a H n (v'.setRow xb (rcV x' p')) := by
 have q1 := (ot _ h.k.lt h.cx).1.trans h.k
 have q2 := (ot _ h.z.lt h.cz).1.trans h.z
 have hx := h.hx
 exact ⟨setRow_heap _ _ _ _ _ _ q1, (setRow_other _ _ _ _ (by omega)).trans q2, has'.setRow (ot _ h.k.lt h.cx).2 _, (ot _ h.k.lt h.cx).2, (ot _ h.z.lt h.cz).2, below_setRow' (h.bel.trans hb) (by omega) _,
  (h.out.others ot).box q1 _, h.hx⟩
/-- a field of the box is set -/
theorem TKS.put {w : World} {xb : Nat} {x : Rc} {p : RcP} {X : RcX} {c : Nat → Nat} {a : Option Addr} {H : List Mp} {n : Nat} {v : World} (h : TKS w xb x p X c a H n v) (x' : Rc) (o : Nat) (u : Value) (hk : (rcV x p).set! o u = rcV x' p) (hh : RcHas w.heap.size v x' p X c) : TKS w xb x' p X c a H n (v.setCell ⟨xb, o, none⟩ u) := by
 have hx := h.hx
 refine ⟨?_, h.z.setCell (by simp; omega) _, hh.setCell (q := ⟨xb, o, none⟩) h.cx _, h.cx, h.cz, below_set h.bel (show w.heap.size ≤ xb by omega) _, h.out.cell h.k _, h.hx⟩
 rw [← hk]
 have := h.k.set (o := o) u
 simpa using this
theorem OutS.else_ {B : Nat} {v v' : World} {c : Nat → Nat} {a : Option Addr} {H : List Mp} {n : Nat} (h : OutS B v c a H n) {g : Nat} {cs : Array Value} (hk : Blk v g cs 41) (hne : ∀ b, b ≠ g → v'.heap[b]? = v.heap[b]?) : OutS B v' c a H n :=
 ⟨h.row.same fun x hx => hne _ (RowC.ne h.row hk (by decide) x hx), ⟨fun m hm => (h.inn.row m hm).same fun y hy => hne _ ((h.inn.row m hm).ne hk (by decide) y hy), h.inn.apart⟩, h.ca, h.ci, h.gd⟩
theorem TKS.step {w : World} {xb : Nat} {x x' : Rc} {p p' : RcP} {X X' : RcX} {c c' : Nat → Nat} {a : Option Addr} {H : List Mp} {n : Nat} {v v1 v2 : World} (h : TKS w xb x p X c a H n v) (hb : Below v.heap.size v v1) (has' : RcHas w.heap.size v1 x' p' X' c') (hc : ∀ b, b < v.heap.size → 8 < c b → 8 < c' b)
  (hk : Blk v2 xb (rcV x' p') 41) (hne : ∀ b, b ≠ xb → v2.heap[b]? = v1.heap[b]?) (hbel : Below w.heap.size w v2) : TKS w xb x' p' X' c' a H n v2 := by
 have cx' : 8 < c' xb := hc _ h.k.lt h.cx
 have hx := h.hx
 refine ⟨hk, (hne _ (by omega)).trans (h.z.ext hb), has'.same (fun b hB hlt h8 => hne b (fun e => by rw [e] at h8; omega)), cx', hc _ h.z.lt h.cz, hbel, ?_, h.hx⟩
 exact OutS.else_ (v := v1) (h.out.same (fun b hlt h8 => ⟨hb.block b hlt, hc b hlt h8⟩)) (h.k.ext hb) hne
/-- what was held is sent, and nothing is held -/
theorem TKS.unhold {w : World} {xb : Nat} {x : Rc} {p : RcP} {X : RcX} {c : Nat → Nat} {a a' : Option Addr} {n' : Nat} {v v2 : World} (h : TKS w xb x p X c a [] 0 v) (gr : v.grownBy v2 (Value.slice a 0 0).ownBlock) (row : RowM w.heap.size v2 a' X.H n') (nw : NewOr v a a') :
  TKS w xb { x with held := [] } { p with aH := some ⟨v2.heap.size, 0, none⟩, cH := 0 } ⟨[], X.A⟩ (colN (some ⟨v2.heap.size, 0, none⟩) 2 (colF v.heap.size (unheld c))) a' X.H n' ((v2.alloc (.cells #[] 45)).setCell ⟨xb, 9, none⟩ (.slice (some ⟨v2.heap.size, 0, none⟩) 0 0)) := by
 have hx := h.hx
 have kl := h.k.lt
 have gs := gr.size
 have S := h.has.sent
 have keep : ∀ {g : Nat} {cs : Array Value}, Blk v g cs 41 → Blk v2 g cs 41 := fun hk => (gr.block _ hk.lt (ownBlock_far (RowC.ne h.out.row hk (by decide)))).trans hk
 have ex : Below v2.heap.size v2 (v2.alloc (.cells #[] 45)) := ext_alloc (Below.refl _ _) _
 have kb : Blk (v2.alloc (.cells #[] 45)) xb (rcV x p) 41 := (keep h.k).ext ex
 have big : ∀ b, b < v.heap.size → 8 < c b → 8 < colN (some ⟨v2.heap.size, 0, none⟩) 2 (colF v.heap.size (unheld c)) b := fun b hlt h8 => by
  rw [colN_else (fun y hy e => by simp only [Option.some.injEq] at hy; rw [← hy] at e; have : v2.heap.size = b := e; omega), colF_old hlt]
  exact unheld_big h8
 have nota : ∀ y, a = some y → 8 < unheld c y.block := fun y hy => unheld_big (h.out.ca y hy)
 have has2 : RcHas w.heap.size v2 { x with held := [] } { p with aH := none, cH := 0 } ⟨[], X.A⟩ (colF v.heap.size (unheld c)) := h.has.drop_h.fresh.same (fun b hB hlt h8 => gr.block b hlt (ownBlock_far fun y hy e => by
  have := nota y hy
  rw [colF_old hlt] at h8
  rw [e] at this
  omega))
 have has3 := (has2.recol (col' := colN (some ⟨v2.heap.size, 0, none⟩) 2 (colF v.heap.size (unheld c))) (fun b hlt => colN_else (fun y hy e => by simp only [Option.some.injEq] at hy; rw [← hy] at e; have : v2.heap.size = b := e; omega))).ext ex
 have has4 := has3.set_h (l := []) (a' := some ⟨v2.heap.size, 0, none⟩) (c' := 0) (rowC_none (k := 8) (Blk.new _ _ _) (by have := h.bel.size; omega) (if_pos rfl)) ⟨fun m hm => absurd hm (by simp), List.Pairwise.nil⟩ (fun i s hs => by simp at hs)
 have out2 : OutS w.heap.size v2 (colN (some ⟨v2.heap.size, 0, none⟩) 2 (colF v.heap.size (unheld c))) a' X.H n' := by
  have ne0 : ∀ q ∈ X.H, ∀ y, q.2.1 = some y → ∀ u, a = some u → u.block ≠ y.block := fun q hq y hy u hu e => by
   have h1 := (h.has.hi.row q hq).col y hy
   have h2 := h.out.ca u hu
   rw [e] at h2
   omega
  refine ⟨row, ⟨fun q hq => (S.inn.row q hq).same fun y hy => gr.block _ ((S.inn.row q hq).lt y hy).2 (ownBlock_far fun u hu => ne0 q hq y hy u hu), S.inn.apart⟩, fun u hu => ?_, fun q hq y hy => ⟨?_, fun u hu e => ?_⟩, S.gd⟩
  ·have hl := (row.lt u hu).2
   rw [colN_else (fun y hy e => by simp only [Option.some.injEq] at hy; rw [← hy] at e; have : v2.heap.size = u.block := e; omega)]
   rcases nw u hu with ⟨t, ht, e⟩ | h1
   ·rw [← e, colF_old (h.out.row.lt t ht).2]; exact nota t ht
   ·rw [colF_new h1]; omega
  ·have hl := ((S.inn.row q hq).lt y hy).2
   rw [colN_else (fun u hu e => by simp only [Option.some.injEq] at hu; rw [← hu] at e; have : v2.heap.size = y.block := e; omega), colF_old hl]
   exact (S.ci q hq y hy).1
  ·have hl := ((S.inn.row q hq).lt y hy).2
   rcases nw u hu with ⟨t, ht, e2⟩ | h1
   ·exact ne0 q hq y hy t ht (e2.trans e)
   ·omega
 have cx' := big _ h.k.lt h.cx
 have b2 : Below w.heap.size w v2 := h.bel.trans ⟨gr.os, gr.tape, gr.output, gr.size, fun b hlt => gr.block b (by have := h.bel.size; omega) (ownBlock_far fun y hy e => by have := (h.out.row.lt y hy).1; omega)⟩
 refine ⟨?_, ((keep h.z).ext ex).setCell (by simp; omega) _, (has4.like rfl rfl rfl rfl rfl rfl rfl).setCell (q := ⟨xb, 9, none⟩) cx' _, cx', big _ h.z.lt h.cz, below_set (ext_trans b2 ex) (show w.heap.size ≤ xb by omega) _, (out2.ext ex).cell kb _, h.hx⟩
 have := kb.set (o := 9) (.slice (some ⟨v2.heap.size, 0, none⟩) 0 0)
 simpa [rcV] using this
def wipeO (a : Option Addr) (col : Nat → Nat) : Nat → Nat := match a with | none => col | some x => wipe x.block col
theorem RcHas.lead0 {B : Nat} {w : World} {r : Rc} {p : RcP} {X : RcX} {col : Nat → Nat} (h : RcHas B w r p X col) : RcHas B w (leadR r r.ds) { p with aY := none, cY := 0, aB := none, cB := 0, aA := none, cA := 0 } ⟨X.H, []⟩ (wipeO p.aB col) := by
 have h1 := h.quiet.like (r' := leadR r r.ds) rfl rfl rfl rfl rfl rfl rfl
 cases ha : p.aB with
 | none => exact h1
 | some x => exact h1.wipe5 (g := x.block) (h.b.col x ha) (fun y hy => by cases hy)
theorem wipeO_big {a : Option Addr} {col : Nat → Nat} {b : Nat} (h : 8 < col b) : 8 < wipeO a col b := by
 cases a with
 | none => exact h
 | some x =>
  show 8 < wipe x.block col b
  by_cases e : b = x.block
  ·rw [e]; exact wipe_at _ _
  rw [wipe_of e]; exact h
structure LdT (B g : Nat) (w : World) (col : Nat → Nat) (r : Rc) (aB : Option Addr) (L : List Sl) (p' : RcP) (X' : RcX) (c' : Nat → Nat) (v : World) : Prop where
 k : Blk v g (rcV (leadR r L) p') 41
 has : RcHas B v (leadR r L) p' X' c'
 cg : 8 < c' g
 bb : ∀ x, aB = some x → x.block < w.heap.size ∧ x.block ≠ g ∧ v.heap[x.block]? = w.heap[x.block]? ∧ 8 < c' x.block
 bel : Below B w v
 oth : ∀ b, b < w.heap.size → b ≠ g → 8 < col b → v.heap[b]? = w.heap[b]? ∧ 8 < c' b
theorem LdT.drew {B g : Nat} {w : World} {col : Nat → Nat} {r : Rc} {aB : Option Addr} {L : List Sl} {p' : RcP} {X' : RcX} {c' : Nat → Nat} {v : World} (h : LdT B g w col r aB L p' X' c' v) (hg : B ≤ g) : LdT B g w col r aB L p' X' c' v.drew :=
 ⟨h.k, h.has.ext (Below.refl _ _).drew, h.cg, h.bb, h.bel.trans (Below.refl _ _).drew, h.oth⟩
theorem LdT.next {B g : Nat} {w : World} {col : Nat → Nat} {r : Rc} {aB : Option Addr} {L L2 : List Sl} {p' : RcP} {X' : RcX} {c' : Nat → Nat} {v v' : World} (h : LdT B g w col r aB L p' X' c' v) (gp : GPost B g v c' (leadR r L2) v') : ∃ p2 X2 c2, LdT B g w col r aB L2 p2 X2 c2 v' := by
 obtain ⟨p2, X2, c2, k, has, hc, hb, ot⟩ := gp
 have hsz : w.heap.size ≤ v.heap.size := h.bel.size
 refine ⟨p2, X2, c2, k, has, hc, fun x hx => ?_, h.bel.trans hb, fun b hlt hne h8 => ?_⟩
 ·obtain ⟨q1, q2, q3, q4⟩ := h.bb x hx
  obtain ⟨q5, q6⟩ := ot x.block (by omega) q2 q4
  exact ⟨q1, q2, q5.trans q3, q6⟩
 obtain ⟨q1, q2⟩ := h.oth b hlt hne h8
 obtain ⟨q3, q4⟩ := ot b (by omega) hne q2
 exact ⟨q3.trans q1, q4⟩
theorem LdT.cel {B g : Nat} {w : World} {col : Nat → Nat} {r : Rc} {aB : Option Addr} {L : List Sl} {p' : RcP} {X' : RcX} {c' : Nat → Nat} {v : World} (h : LdT B g w col r aB L p' X' c' v) {gB o : Nat} {u : Option Value} (ha : aB = some ⟨gB, 0, none⟩) (hc : w.cell? ⟨gB, o, none⟩ = u) : v.cell? ⟨gB, o, none⟩ = u :=
 (World.cell?_of_block (show v.heap[(⟨gB, o, none⟩ : Addr).block]? = w.heap[(⟨gB, o, none⟩ : Addr).block]? from (h.bb _ ha).2.2.1)).trans hc
structure LdH (g gB o : Nat) (ba : Int) (t : ByteArray) (w' : World) : Prop where
 cb : w'.cell? ⟨g, 13, none⟩ = some (.int .i64 ba)
 cs : w'.cell? ⟨gB, o, none⟩ = some (.string t)
theorem LdH.drew {g gB o : Nat} {ba : Int} {t : ByteArray} {w' : World} (k : LdH g gB o ba t w') : LdH g gB o ba t w'.drew := ⟨k.cb, k.cs⟩
theorem implLead (B g : Nat) (r : Rc) (p : RcP) (X : RcX) (col : Nat → Nat) (w : World) (hg : B ≤ g) (hk : Blk w g (rcV r p) 41) (hc : 8 < col g) (hd0 : 0 ≤ r.dk) (hd1 : r.dk ≤ r.ds.length) (hS : RcSmall r) (hbw : wfI r.ball) (h : RcHas B w r p X col) :
  Calls Tryz.prog 153 #[.pointer (some ⟨g, 0, none⟩)] w fun e w' => (∃ v, e = .returned v) ∧ GPost B g w col (leadR r (leadDs r r.best)) w' := by
 obtain ⟨aS, cS, aD, cD, aH, cH, aW, cW, aY, cY, aB, cB, aA, cA⟩ := p
 have HG := hid hg
 have BW := hid hbw
 have RD := hid h
 have HD := hid (show r.ds.length ≤ 1048576 ∧ r.best.length ≤ 1048576 from ⟨hS.lD, hS.lB⟩)
 have cK := hk.cell
 have fK := hk.free
 have eqC : ((((((rcV r ⟨aS, cS, aD, cD, aH, cH, aW, cW, aY, cY, aB, cB, aA, cA⟩).setIfInBounds 11 (.bool true)).setIfInBounds 12 (.bool false)).setIfInBounds 14 (.slice none 0 0)).setIfInBounds 15 (.slice none 0 0)).setIfInBounds 16 (.slice none 0 0)) = (rcV (leadR r r.ds) ⟨aS, cS, aD, cD, aH, cH, aW, cW, none, 0, none, 0, none, 0⟩) := by simp [leadR, calmR]
 obtain ⟨V, hV⟩ : ∃ V, V = (((((w.setCell ⟨g, 11, none⟩ (.bool true)).setCell ⟨g, 12, none⟩ (.bool false)).setCell ⟨g, 14, none⟩ (.slice none 0 0)).setCell ⟨g, 15, none⟩ (.slice none 0 0)).setCell ⟨g, 16, none⟩ (.slice none 0 0)) := ⟨_, rfl⟩
 have KF : Blk V g (rcV (leadR r r.ds) ⟨aS, cS, aD, cD, aH, cH, aW, cW, none, 0, none, 0, none, 0⟩) 41 := by
  rw [hV]
  exact blk_eq (((((hk.set (o := 11) (.bool true)).set (o := 12) (.bool false)).set (o := 14) (.slice none 0 0)).set (o := 15) (.slice none 0 0)).set (o := 16) (.slice none 0 0)) eqC
 have ho : ∀ b, b ≠ g → V.heap[b]? = w.heap[b]? := fun b hne => by
  rw [hV]
  exact ((((heap_setCell_other _ ⟨g, 16, none⟩ b _ hne).trans (heap_setCell_other _ ⟨g, 15, none⟩ b _ hne)).trans (heap_setCell_other _ ⟨g, 14, none⟩ b _ hne)).trans (heap_setCell_other _ ⟨g, 12, none⟩ b _ hne)).trans (heap_setCell_other _ ⟨g, 11, none⟩ b _ hne)
 have hcg := wipeO_big (a := aB) hc
 have hasV : RcHas B V (leadR r r.ds) ⟨aS, cS, aD, cD, aH, cH, aW, cW, none, 0, none, 0, none, 0⟩ ⟨X.H, []⟩ (wipeO aB col) := by
  rw [hV]
  exact (((((h.lead0.setCell (q := ⟨g, 11, none⟩) hcg (.bool true)).setCell (q := ⟨g, 12, none⟩) hcg (.bool false)).setCell (q := ⟨g, 14, none⟩) hcg (.slice none 0 0)).setCell (q := ⟨g, 15, none⟩) hcg (.slice none 0 0)).setCell (q := ⟨g, 16, none⟩) hcg (.slice none 0 0))
 have bV : Below B w V := by
  rw [hV]
  exact below_set (below_set (below_set (below_set (below_set (Below.refl B w) hg (.bool true)) hg (.bool false)) hg (.slice none 0 0)) hg (.slice none 0 0)) hg (.slice none 0 0)
 have S0 := hid (show LdT B g w col r aB r.ds ⟨aS, cS, aD, cD, aH, cH, aW, cW, none, 0, none, 0, none, 0⟩ ⟨X.H, []⟩ (wipeO aB col) V from
  ⟨KF, hasV, hcg, fun x hx => by
   have hx5 := h.b.col x hx
   have hne : x.block ≠ g := fun e => by rw [e] at hx5; omega
   exact ⟨(h.b.lt x hx).2, hne, ho _ hne, by rw [show aB = some x from hx]; exact wipe_at _ _⟩, bV, fun b hlt hne h8 => ⟨ho b hne, wipeO_big h8⟩⟩)
 have cF := KF.cell
 have q1 : 0 ≤ r.dk := hd0
 have q2 : r.dk ≤ 1048576 := by have := hS.lD; omega
 have HK := hid (show 0 ≤ r.dk ∧ r.dk ≤ r.ds.length ∧ r.ds.length ≤ 1048576 from ⟨hd0, hd1, hS.lD⟩)
 have e3 : IntKind.i64.wrap (r.dk + 1) = r.dk + 1 := by go_arith
 have e3' : IntKind.i64.wrap ((calmR r).dk + 1) = r.dk + 1 := e3
 rw [hV] at cF
 clear h hc hg hk hS hbw eqC KF hasV bV ho hcg hd0 hd1
 go_enter Tryz.func153, Tryz.ntmps153
 go_wp2_with fail
 rw [← hV]
 clear hV cF cK fK e3 e3'
 go_loopw [3] (fun j wr => ∃ (n0 : Nat) (L : List Sl) (p4 : RcP) (X4 : RcX) (c4 : Nat → Nat), r.dk ≤ n0 ∧ (n0 ≤ r.best.length ∨ (n0 : Int) = r.dk) ∧ j = .int .i64 ((n0 : Int) + 1) ∧ leadL r.ball (r.best.drop n0) n0 L = leadDs r r.best ∧ L.length ≤ 1048576 ∧ LdT B g w col r aB L p4 X4 c4 wr) (fun j _ => r.best.length + 1 - (intOf j).toNat)
 case atStart => exact ⟨r.dk.toNat, r.ds, _, _, _, by omega, .inr (by omega), by simp only [Value.int.injEq, true_and]; omega, rfl, HD.out.1, S0.out⟩
 obtain ⟨n0, L, p4, X4, c4, hn1, hn2, rfl, hlead, hL4, hss⟩ := hrel
 have SS := hid hss
 have HE := hid hlead
 have HL4 := hid hL4
 have HN := hid (show r.dk ≤ n0 ∧ (n0 ≤ r.best.length ∨ (n0 : Int) = r.dk) ∧ n0 ≤ 1048576 from ⟨hn1, hn2, by have := HD.out; have := HK.out; omega⟩)
 clear hss hlead hL4 S0 hn1 hn2
 obtain ⟨v4, hv4⟩ : ∃ v4, v4 = wr := ⟨_, rfl⟩
 rw [← hv4]
 rw [← hv4] at SS
 clear hv4
 have e5 : IntKind.i64.wrap ((n0 : Int) + 1 - 1) = (n0 : Int) := by have := HN.out; rw [IntKind.wrap_i64]; omega
 have e6 : IntKind.i64.wrap ((n0 : Int) + 1 + 1) = (n0 : Int) + 1 + 1 := by have := HN.out; rw [IntKind.wrap_i64]; omega
 have e9 : IntKind.i64.wrap (n0 : Int) = (n0 : Int) := by have := HN.out; rw [IntKind.wrap_i64]; omega
 by_cases hlt : n0 < r.best.length
 ·obtain ⟨s, hs0⟩ : ∃ s, r.best[n0]? = some s := ⟨_, List.getElem?_eq_getElem hlt⟩
  have HSs := hid hs0
  have SG := hid (show s.2.size ≤ maxLen from (RD.out.gd.b n0 s hs0).1)
  obtain ⟨gB, hga, _, hcell, _⟩ := RD.out.b.cell (flat_at r.best n0 s hs0).2
  dsimp only at hga
  have H0 := hid hga
  have CSW := hid (show w.cell? ⟨gB, n0 * 2 + 1, none⟩ = some (.string s.2) by first | exact hcell | simpa [Nat.mul_comm] using hcell)
  subst hga
  clear hs0 hcell
  have u1 : decide ((n0 : Int) + 1 ≤ (r.best.length : Int)) = true := decide_eq_true (by omega)
  have e7 : (0 : Int) ≤ (n0 : Int) := by omega
  have e8 : (n0 : Int) < (r.best.length : Int) := by omega
  go_wp2_with fail
  have hK0 : LdH g gB (n0 * 2 + 1) r.ball s.2 v4 := ⟨SS.out.k.cell 13, SS.out.cel rfl CSW.out⟩
  refine wp_region_held_drew (S := LdH g gB (n0 * 2 + 1) r.ball s.2) (by kernel_rfl) hK0.drew (fun hHeld => ?_)
  simp only [qz, Nat.reduceAdd]
  clear hK0
  refine planH.go [0, 1, 2, 3, 4, 5, 6, 7, 8, 9, 10, 11, 12, 13, 14] ?_
  iterate 15 (apply planH.take (at_lit rfl) (by kernel_rfl) (by rfl) (fun _ _ _ h => h) hHeld; (· intro w9 hSw; have hc := hSw.cb; have hs := hSw.cs; clear hSw; go_simp; try with_reducible rfl); try simp only [qq])
  refine planH.fin ?_
  refine rdH 15 (by kernel_rfl) (at_lit rfl) (fun K hK => ?_)
  go_simp
  have S5 := hid (SS.out.drew HG.out)
  have CALL := implPut B g (leadR r L) p4 X4 c4 n0 (r.ball, s.2) v4.drew HG.out S5.out.k S5.out.cg (by have := HD.out; omega) (by have := HL4.out; exact this) ⟨SG.out, BW.out⟩ S5.out.has
  rw [show ((n0 + 1 : Nat) : Int) = (n0 : Int) + 1 by omega] at CALL
  refine CALL.mono ?_
  clear CALL
  rintro e z5 ⟨⟨u, rfl⟩, gp⟩
  obtain ⟨p5, X5, c5, ts5⟩ := S5.out.next gp
  have N5 := hid ts5
  clear gp ts5
  go_wp2_with fail
  refine hK.out _ _ ⟨by rw [N5.out.k.cell 13]; rfl, N5.out.cel rfl CSW.out⟩ (fun _ => ?_)
  clear hK K hHeld
  try simp only [qq]
  refine wpAnyH_done (by kernel_rfl) ?_ _
  go_wp2_with fail
  go_roundw
  case rel =>
   refine ⟨n0 + 1, setL L (n0 + 1) (r.ball, s.2), p5, X5, c5, by have := HN.out; omega, .inl (by omega), by go_num, ?_, ?_, N5.out⟩
   ·rw [← HE.out]
    have hdr := List.drop_eq_getElem_cons hlt
    have hss := HSs.out
    rw [List.getElem?_eq_getElem hlt] at hss
    simp only [Option.some.injEq] at hss
    rw [hdr, hss]
    rfl
   rw [setL_len]
   have := HL4.out
   have := HD.out
   omega
  case measure => simp [intOf]; omega
 have u1 : decide ((n0 : Int) + 1 ≤ (r.best.length : Int)) = false := decide_eq_false (by omega)
 have FIN := hid (show leadDs r r.best = L by
  rw [← HE.out, List.drop_of_length_le (by omega)]
  rfl)
 go_wp2_with fail
 first | refine bodyPost_end (results_none rfl _ _ _) rfl ?_ | refine bodyPost_ret (results_none rfl _ _ _) rfl ?_
 rw [FIN.out]
 exact ⟨⟨_, rfl⟩, p4, X4, c4, SS.out.k, SS.out.has, SS.out.cg, SS.out.bel, SS.out.oth⟩
end Go.Proofs.YtffklmlljekceaaGreat
