import Derived.Test.YtffklmlljekceaaGreatQ33
namespace Go.Proofs.YtffklmlljekceaaGreat
open Go.ChangeShapes Go.WideShapes Go.ChangeAt Go.RowKit
set_option linter.unusedSimpArgs false
set_option linter.unusedVariables false
set_option maxHeartbeats 16000000
set_option maxRecDepth 20000
abbrev tcV (g : Nat) (a : Option Addr) (n k : Nat) : Array Value := #[.pointer (some ⟨g, 0, none⟩), .slice a n k]
structure IKS (B g tb : Nat) (x : Rc) (p : RcP) (X : RcX) (c : Nat → Nat) (a : Option Addr) (H : List Mp) (n : Nat) (v : World) : Prop where
 k : Blk v g (rcV x p) 41
 t : Blk v tb (tcV g a H.length n) 128
 has : RcHas B v x p X c
 cg : 8 < c g
 ct : 8 < c tb
 out : OutS B v c a H n
 bg : B ≤ g
 bt : B ≤ tb
 ne : tb ≠ g
def OthT (g tb : Nat) (v : World) (c : Nat → Nat) (a : Option Addr) (v' : World) (c' : Nat → Nat) (a' : Option Addr) : Prop :=
 ∀ b, b < v.heap.size → 8 < c b → b ≠ g → b ≠ tb → (∀ y, a = some y → y.block ≠ b) → v'.heap[b]? = v.heap[b]? ∧ 8 < c' b ∧ ∀ y, a' = some y → y.block ≠ b
def PPost (B g tb : Nat) (v : World) (c : Nat → Nat) (a : Option Addr) (x' : Rc) (H' : List Mp) (v' : World) : Prop :=
 ∃ p' X' c' a' n', IKS B g tb x' p' X' c' a' H' n' v' ∧ Below B v v' ∧ OthT g tb v c a v' c' a'
theorem IKS.lt {B g tb : Nat} {x : Rc} {p : RcP} {X : RcX} {c : Nat → Nat} {a : Option Addr} {H : List Mp} {n : Nat} {v : World} (h : IKS B g tb x p X c a H n v) : B ≤ v.heap.size := Nat.le_trans h.bg (Nat.le_of_lt h.k.lt)
theorem IKS.ext {B g tb : Nat} {x : Rc} {p : RcP} {X : RcX} {c : Nat → Nat} {a : Option Addr} {H : List Mp} {n : Nat} {v v' : World} (h : IKS B g tb x p X c a H n v) (hb : Below v.heap.size v v') : IKS B g tb x p X c a H n v' :=
 ⟨h.k.ext hb, h.t.ext hb, h.has.ext hb, h.cg, h.ct, h.out.ext hb, h.bg, h.bt, h.ne⟩
theorem IKS.fresh {B g tb : Nat} {x : Rc} {p : RcP} {X : RcX} {c : Nat → Nat} {a : Option Addr} {H : List Mp} {n : Nat} {v : World} (h : IKS B g tb x p X c a H n v) : IKS B g tb x p X (colF v.heap.size c) a H n v :=
 ⟨h.k, h.t, h.has.fresh, by rw [colF_old h.k.lt]; exact h.cg, by rw [colF_old h.t.lt]; exact h.ct, h.out.fresh, h.bg, h.bt, h.ne⟩
theorem IKS.stay {B g tb : Nat} {x : Rc} {p : RcP} {X : RcX} {c : Nat → Nat} {a : Option Addr} {H : List Mp} {n : Nat} {v v' : World} (h : IKS B g tb x p X c a H n v) (hb : Below v.heap.size v v') : PPost B g tb v c a x H v' :=
 ⟨p, X, c, a, n, h.ext hb, hb.mono h.lt, fun b hlt h8 _ _ hy => ⟨hb.block b hlt, h8, hy⟩⟩
theorem PPost.from {B g tb : Nat} {v v1 v' : World} {c : Nat → Nat} {a : Option Addr} {x' : Rc} {H' : List Mp} (h : PPost B g tb v1 (colF v.heap.size c) a x' H' v') (hb : Below v.heap.size v v1) (hB : B ≤ v.heap.size) : PPost B g tb v c a x' H' v' := by
 obtain ⟨p', X', c', a', n', s, b, o⟩ := h
 refine ⟨p', X', c', a', n', s, (hb.mono hB).trans b, fun i hlt h8 h1 h2 hy => ?_⟩
 obtain ⟨q1, q2, q3⟩ := o i (Nat.lt_of_lt_of_le hlt hb.size) (by rw [colF_old hlt]; exact h8) h1 h2 hy
 exact ⟨q1.trans (hb.block i hlt), q2, q3⟩
theorem PPost.ext {B g tb : Nat} {v v1 v' : World} {c : Nat → Nat} {a : Option Addr} {x' : Rc} {H' : List Mp} (h : PPost B g tb v1 c a x' H' v') (hb : Below v.heap.size v v1) (hB : B ≤ v.heap.size) : PPost B g tb v c a x' H' v' := by
 obtain ⟨p', X', c', a', n', s, b, o⟩ := h
 refine ⟨p', X', c', a', n', s, (hb.mono hB).trans b, fun i hlt h8 h1 h2 hy => ?_⟩
 obtain ⟨q1, q2, q3⟩ := o i (Nat.lt_of_lt_of_le hlt hb.size) h8 h1 h2 hy
 exact ⟨q1.trans (hb.block i hlt), q2, q3⟩
theorem OthT.trans {g tb : Nat} {v v1 v2 : World} {c c1 c2 : Nat → Nat} {a a1 a2 : Option Addr} (h : OthT g tb v c a v1 c1 a1) (k : OthT g tb v1 c1 a1 v2 c2 a2) (hs : v.heap.size ≤ v1.heap.size) : OthT g tb v c a v2 c2 a2 := fun b hlt h8 h1 h2 hy => by
 obtain ⟨q1, q2, q3⟩ := h b hlt h8 h1 h2 hy
 obtain ⟨r1, r2, r3⟩ := k b (by omega) q2 h1 h2 q3
 exact ⟨r1.trans q1, r2, r3⟩
theorem PPost.chain {B g tb : Nat} {v v1 v' : World} {c c1 : Nat → Nat} {a a1 : Option Addr} {x' : Rc} {H' : List Mp} (hb : Below B v v1) (ot : OthT g tb v c a v1 c1 a1) (h : PPost B g tb v1 c1 a1 x' H' v') : PPost B g tb v c a x' H' v' := by
 obtain ⟨p', X', c', a', n', s, b, o⟩ := h
 exact ⟨p', X', c', a', n', s, hb.trans b, ot.trans o hb.size⟩
theorem OutS.but {B g : Nat} {v v' : World} {c c' : Nat → Nat} {a : Option Addr} {H : List Mp} {k : Nat} {cs : Array Value} {T : TypeId} (h : OutS B v c a H k) (hk : Blk v g cs T) (h1 : 45 ≠ T) (h2 : 108 ≠ T) (hs : ∀ b, b < v.heap.size → b ≠ g → 8 < c b → v'.heap[b]? = v.heap[b]? ∧ 8 < c' b) : OutS B v' c' a H k := by
 have f : ∀ x, a = some x → v'.heap[x.block]? = v.heap[x.block]? ∧ 8 < c' x.block := fun x hx => hs _ (h.row.lt x hx).2 (RowC.ne h.row hk h1 x hx) (h.ca x hx)
 have i : ∀ q ∈ H, ∀ y, q.2.1 = some y → v'.heap[y.block]? = v.heap[y.block]? ∧ 8 < c' y.block := fun q hq y hy => hs _ ((h.inn.row q hq).lt y hy).2 (RowC.ne (h.inn.row q hq) hk h2 y hy) (h.ci q hq y hy).1
 exact ⟨h.row.same fun x hx => (f x hx).1, ⟨fun m hm => (h.inn.row m hm).same fun y hy => (i m hm y hy).1, h.inn.apart⟩, fun x hx => (f x hx).2, fun q hq y hy => ⟨(i q hq y hy).2, (h.ci q hq y hy).2⟩, h.gd⟩
theorem IKS.turn {B g tb : Nat} {x x' : Rc} {p : RcP} {X : RcX} {c : Nat → Nat} {a : Option Addr} {H : List Mp} {n : Nat} {v v' : World} (h : IKS B g tb x p X c a H n v) (gp : GPost B g v c x' v') : PPost B g tb v c a x' H v' := by
 obtain ⟨p', X', c', k, has, hc, hb, ot⟩ := gp
 exact ⟨p', X', c', a, n, ⟨k, (ot _ h.t.lt h.ne h.ct).1.trans h.t, has, hc, (ot _ h.t.lt h.ne h.ct).2, h.out.but h.k (by decide) (by decide) ot, h.bg, h.bt, h.ne⟩, hb, fun b hlt h8 h1 _ hy => ⟨(ot b hlt h1 h8).1, (ot b hlt h1 h8).2, hy⟩⟩
theorem IKS.put {B g tb : Nat} {x : Rc} {p : RcP} {X : RcX} {c : Nat → Nat} {a : Option Addr} {H : List Mp} {n : Nat} {v : World} (h : IKS B g tb x p X c a H n v) (x' : Rc) (o : Nat) (u : Value) (hk : (rcV x p).set! o u = rcV x' p) (hh : RcHas B v x' p X c) : IKS B g tb x' p X c a H n (v.setCell ⟨g, o, none⟩ u) ∧ Below B v (v.setCell ⟨g, o, none⟩ u) ∧ OthT g tb v c a (v.setCell ⟨g, o, none⟩ u) c a := by
 have ot : ∀ b, b ≠ g → (v.setCell ⟨g, o, none⟩ u).heap[b]? = v.heap[b]? := fun b hb => heap_setCell_other _ ⟨g, o, none⟩ b _ hb
 refine ⟨⟨?_, (ot _ h.ne).trans h.t, hh.setCell (q := ⟨g, o, none⟩) h.cg u, h.cg, h.ct, h.out.but h.k (by decide) (by decide) (fun b _ hb h8 => ⟨ot b hb, h8⟩), h.bg, h.bt, h.ne⟩, below_set (Below.refl _ _) h.bg _, fun b hlt h8 h1 _ hy => ⟨ot b h1, h8, hy⟩⟩
 have := h.k.set (o := o) u
 rw [← hk]
 simpa using this
theorem IKS.more {B g tb : Nat} {x : Rc} {p : RcP} {X : RcX} {c : Nat → Nat} {a a' : Option Addr} {H K : List Mp} {n n' : Nat} {v v' : World} (h : IKS B g tb x p X c a H n v) (gr : v.grownBy v' (Value.slice a H.length n).ownBlock) (row : RowM B v' a' (H ++ K) n') (nw : NewOr v a a') (hK : ∀ q ∈ K, ∃ m, q = bare m ∧ m.x.size ≤ maxLen) :
  IKS B g tb x p X (colF v.heap.size c) a' (H ++ K) n' (v'.setCell ⟨tb, 1, none⟩ (.slice a' (H ++ K).length n')) ∧ Below B v (v'.setCell ⟨tb, 1, none⟩ (.slice a' (H ++ K).length n')) ∧ OthT g tb v c a (v'.setCell ⟨tb, 1, none⟩ (.slice a' (H ++ K).length n')) (colF v.heap.size c) a' := by
 have kp : ∀ b, b < v.heap.size → (∀ y, a = some y → y.block ≠ b) → v'.heap[b]? = v.heap[b]? := fun b hlt hy => gr.block b hlt (ownBlock_far hy)
 have k1 : Blk v' g (rcV x p) 41 := (kp g h.k.lt (RowC.ne h.out.row h.k (by decide))).trans h.k
 have t1 : Blk v' tb (tcV g a H.length n) 128 := (kp tb h.t.lt (RowC.ne h.out.row h.t (by decide))).trans h.t
 have ot : ∀ b, b ≠ tb → (v'.setCell ⟨tb, 1, none⟩ (.slice a' (H ++ K).length n')).heap[b]? = v'.heap[b]? := fun b hb => heap_setCell_other _ ⟨tb, 1, none⟩ b _ hb
 have o1 := h.out.more gr row nw hK
 have b1 : Below B v v' := below_grow (Below.refl _ _) gr (fun j hj => (h.out.row.own.lt j hj).1) h.lt
 have far : ∀ x, a' = some x → ∀ b, b < v.heap.size → (∀ y, a = some y → y.block ≠ b) → x.block ≠ b := fun x hx b hlt hy e => by
  rcases nw x hx with ⟨y, hy', e2⟩ | h1
  ·exact hy y hy' (e2.trans e)
  omega
 have hsm : ∀ b, b < v.heap.size → c b ≤ 8 → v'.heap[b]? = v.heap[b]? := fun b hlt hc => kp b hlt (fun y hy e => by have := h.out.ca y hy; rw [e] at this; omega)
 refine ⟨⟨(ot _ (Ne.symm h.ne)).trans k1, ?_, ?_, by rw [colF_old h.k.lt]; exact h.cg, by rw [colF_old h.t.lt]; exact h.ct, o1.but t1 (by decide) (by decide) (fun b _ hb h8 => ⟨ot b hb, h8⟩), h.bg, h.bt, h.ne⟩, below_set b1 h.bt _, fun b hlt h8 h1 h2 hy => ⟨(ot b h2).trans (kp b hlt hy), by rw [colF_old hlt]; exact h8, fun y hy' => far y hy' b hlt hy⟩⟩
 ·have := t1.set (o := 1) (.slice a' (H ++ K).length n')
  simpa using this
 refine RcHas.setCell (q := ⟨tb, 1, none⟩) ?_ (by show 8 < colF v.heap.size c tb; rw [colF_old h.t.lt]; exact h.ct) _
 exact h.has.fresh.same (fun b hB hlt h8 => hsm b hlt (by rw [colF_old hlt] at h8; exact h8))
theorem IKS.unhold {B g tb : Nat} {x : Rc} {p : RcP} {X : RcX} {c : Nat → Nat} {a : Option Addr} {H : List Mp} {n : Nat} {v : World} (h : IKS B g tb x p X c a H n v) :
  PPost B g tb v c a { x with held := [] } X.H ((v.setCell ⟨tb, 1, none⟩ (.slice p.aH x.held.length p.cH)).setCell ⟨g, 9, none⟩ (.slice none 0 0)) := by
 obtain ⟨v', hv'⟩ : ∃ u, u = ((v.setCell ⟨tb, 1, none⟩ (.slice p.aH x.held.length p.cH)).setCell ⟨g, 9, none⟩ (.slice none 0 0)) := ⟨_, rfl⟩
 have ot : ∀ b, b ≠ g → b ≠ tb → v'.heap[b]? = v.heap[b]? := fun b h1 h2 => by rw [hv']; exact (heap_setCell_other _ ⟨g, 9, none⟩ b _ h1).trans (heap_setCell_other _ ⟨tb, 1, none⟩ b _ h2)
 have hl : X.H.length = x.held.length := by rw [← h.has.hm, List.length_map]
 rw [← hv']
 have S := h.has.sent
 refine ⟨{ p with aH := none, cH := 0 }, ⟨[], X.A⟩, unheld c, p.aH, p.cH, ⟨?_, ?_, h.has.drop_h.same (fun b hB hlt h8 => ot b (fun e => ?_) (fun e => ?_)), unheld_big h.cg, unheld_big h.ct, ?_, h.bg, h.bt, h.ne⟩, ?_, fun b hlt h8 h1 h2 hy => ⟨ot b h1 h2, unheld_big h8, fun y hy' e => ?_⟩⟩
 ·have := (show Blk (v.setCell ⟨tb, 1, none⟩ (.slice p.aH x.held.length p.cH)) g (rcV x p) 41 from (heap_setCell_other _ ⟨tb, 1, none⟩ g _ (Ne.symm h.ne)).trans h.k).set (o := 9) (.slice none 0 0)
  rw [hv']
  exact blk_eq this (by simp)
 ·have := h.t.set (o := 1) (.slice p.aH x.held.length p.cH)
  rw [hv', hl]
  exact (heap_setCell_other _ ⟨g, 9, none⟩ tb _ h.ne).trans (by simpa using this)
 ·rw [e] at h8; have := unheld_big h.cg; omega
 ·rw [e] at h8; have := unheld_big h.ct; omega
 ·have n1 : ∀ y, p.aH = some y → y.block ≠ g ∧ y.block ≠ tb := fun y hy => ⟨RowC.ne h.has.h h.k (by decide) y hy, RowC.ne h.has.h h.t (by decide) y hy⟩
  have n2 : ∀ q ∈ X.H, ∀ y, q.2.1 = some y → y.block ≠ g ∧ y.block ≠ tb := fun q hq y hy => ⟨RowC.ne (h.has.hi.row q hq) h.k (by decide) y hy, RowC.ne (h.has.hi.row q hq) h.t (by decide) y hy⟩
  exact ⟨S.row.same fun y hy => ot _ (n1 y hy).1 (n1 y hy).2, ⟨fun q hq => (S.inn.row q hq).same fun y hy => ot _ (n2 q hq y hy).1 (n2 q hq y hy).2, S.inn.apart⟩, S.ca, S.ci, S.gd⟩
 ·rw [hv']; exact below_set (below_set (Below.refl _ _) h.bt _) h.bg _
 have := h.has.h.col y hy'
 rw [e] at this
 omega
structure TgS (g tb : Nat) (cs ct : Array Value) (w : World) : Prop where
 bg : Blk w g cs 41
 bt : Blk w tb ct 128
theorem TgS.drew {g tb : Nat} {cs ct : Array Value} {w : World} (h : TgS g tb cs ct w) : TgS g tb cs ct w.drew := ⟨Blk.drew h.bg, Blk.drew h.bt⟩
theorem ext_drewN (v : World) (k : Nat) : Below v.heap.size v (v.drewN k) := ⟨rfl, rfl, rfl, Nat.le_refl _, fun _ _ => rfl⟩
theorem ext_drew (v : World) : Below v.heap.size v v.drew := ⟨rfl, rfl, rfl, Nat.le_refl _, fun _ _ => rfl⟩
structure ShS (g tb : Nat) (cs : Array Value) (w : World) : Prop where
 bg : Blk w g cs 41
 t0 : w.cell? ⟨tb, 0, none⟩ = some (.pointer (some ⟨g, 0, none⟩))
theorem ShS.drew {g tb : Nat} {cs : Array Value} {w : World} (h : ShS g tb cs w) : ShS g tb cs w.drew := ⟨Blk.drew h.bg, h.t0⟩
theorem implCount (B g tb : Nat) (x : Rc) (p : RcP) (X : RcX) (c : Nat → Nat) (a : Option Addr) (H : List Mp) (n : Nat) (v : World) (h : IKS B g tb x p X c a H n v) (hh : 0 ≤ x.heard ∧ x.heard ≤ 1000000) :
  Calls Tryz.prog 118 #[.pointer (some ⟨tb, 0, none⟩)] v fun e v' => (∃ u, e = .returned u) ∧ PPost B g tb v c a ({ x with heard := if x.heard < 1000000 then x.heard + 1 else x.heard }) (H) v' := by
 have S0 := hid h
 clear h
 have HH := hid hh
 have e1 : IntKind.i64.wrap (x.heard + 1) = x.heard + 1 := by go_arith
 clear hh
 by_cases hl : x.heard < 1000000
 ·rw [if_pos hl]
  have e2 : min (x.heard + 1) 1000000 = x.heard + 1 := by omega
  clear hl
  go_enter Tryz.func118, Tryz.ntmps118
  go_wp2_with fail
  have hK0 : TgS g tb (rcV x p) (tcV g a H.length n) v := ⟨S0.out.k, S0.out.t⟩
  refine wp_region_last (S := TgS g tb (rcV x p) (tcV g a H.length n)) 15 (by kernel_rfl) hK0.drew (fun hHeld => ?_)
  simp only [qz, Nat.reduceAdd]
  obtain ⟨Vd, hVd⟩ : ∃ u, u = v.drew := ⟨_, rfl⟩
  have ED := hid (show Below v.heap.size v Vd by rw [hVd]; exact ext_drew v)
  have S1 := hid (S0.out.ext ED.out)
  rw [← hVd] at hHeld ⊢
  clear hVd hK0
  refine planL.go [0, 1, 2, 3, 4, 5, 6, 7, 8, 9, 10, 11, 12] ?_
  iterate 13 (apply planL.take (at_lit rfl) (by kernel_rfl) (by rfl) (fun _ _ _ h => h) hHeld; (· intro w9 hSw; have hq := hSw.bg.cell; have ht := hSw.bt.cell; clear hSw; go_simp; try with_reducible rfl); try simp only [qq])
  refine planL.fin ?_
  refine rdL 13 (by kernel_rfl) (at_lit rfl) (fun K hK => ?_)
  go_simp
  refine hK.out _ _ hHeld (fun hNew => ?_)
  clear hK K hNew
  try simp only [qq]
  refine planL.go [14] ?_
  iterate 1 (apply planL.take (at_lit rfl) (by kernel_rfl) (by rfl) (fun _ _ _ h => h) hHeld; (· intro w9 hSw; have hq := hSw.bg.cell; have ht := hSw.bt.cell; clear hSw; go_simp; try with_reducible rfl); try simp only [qq])
  refine planL.fin ?_
  refine wpLast_end (by kernel_rfl) (at_lit rfl) (by kernel_rfl) (fun K hK => ?_)
  have cK := S1.out.k.cell
  have fK := S1.out.k.free
  go_simp
  refine hK.out _ _ ?_
  clear hK K hHeld cK fK
  obtain ⟨W, hW⟩ : ∃ W, W = Vd.setCell ⟨g, 17, none⟩ (.int .i64 (x.heard + 1)) := ⟨_, rfl⟩
  rw [← hW]
  have PP := hid (show PPost B g tb Vd c a { x with heard := x.heard + 1 } H W by
   rw [hW]
   obtain ⟨q1, q2, q3⟩ := S1.out.put { x with heard := x.heard + 1 } 17 (.int .i64 (x.heard + 1)) rfl (S1.out.has.like rfl rfl rfl rfl rfl rfl rfl)
   exact ⟨p, X, c, a, n, q1, q2, q3⟩)
  clear hW
  go_wp2_with fail
  first | refine bodyPost_end (results_none rfl _ _ _) rfl ?_ | refine bodyPost_ret (results_none rfl _ _ _) rfl ?_
  exact ⟨⟨_, rfl⟩, PP.out.ext ED.out S0.out.lt⟩
 rw [if_neg hl]
 have e2 : min (x.heard + 1) 1000000 = 1000000 := by omega
 have E2 := hid (show (1000000 : Int) = x.heard by have := HH.out; omega)
 clear hl
 go_enter Tryz.func118, Tryz.ntmps118
 go_wp2_with fail
 have hK0 : TgS g tb (rcV x p) (tcV g a H.length n) v := ⟨S0.out.k, S0.out.t⟩
 refine wp_region_last (S := TgS g tb (rcV x p) (tcV g a H.length n)) 15 (by kernel_rfl) hK0.drew (fun hHeld => ?_)
 simp only [qz, Nat.reduceAdd]
 obtain ⟨Vd, hVd⟩ : ∃ u, u = v.drew := ⟨_, rfl⟩
 have ED := hid (show Below v.heap.size v Vd by rw [hVd]; exact ext_drew v)
 have S1 := hid (S0.out.ext ED.out)
 rw [← hVd] at hHeld ⊢
 clear hVd hK0
 refine planL.go [0, 1, 2, 3, 4, 5, 6, 7, 8, 9, 10, 11, 12] ?_
 iterate 13 (apply planL.take (at_lit rfl) (by kernel_rfl) (by rfl) (fun _ _ _ h => h) hHeld; (· intro w9 hSw; have hq := hSw.bg.cell; have ht := hSw.bt.cell; clear hSw; go_simp; try with_reducible rfl); try simp only [qq])
 refine planL.fin ?_
 refine rdL 13 (by kernel_rfl) (at_lit rfl) (fun K hK => ?_)
 go_simp
 refine hK.out _ _ hHeld (fun hNew => ?_)
 clear hK K hNew
 try simp only [qq]
 refine planL.go [14] ?_
 iterate 1 (apply planL.take (at_lit rfl) (by kernel_rfl) (by rfl) (fun _ _ _ h => h) hHeld; (· intro w9 hSw; have hq := hSw.bg.cell; have ht := hSw.bt.cell; clear hSw; go_simp; try with_reducible rfl); try simp only [qq])
 refine planL.fin ?_
 refine wpLast_end (by kernel_rfl) (at_lit rfl) (by kernel_rfl) (fun K hK => ?_)
 have cK := S1.out.k.cell
 have fK := S1.out.k.free
 go_simp
 refine hK.out _ _ ?_
 clear hK K hHeld cK fK
 obtain ⟨W, hW⟩ : ∃ W, W = Vd.setCell ⟨g, 17, none⟩ (.int .i64 (x.heard)) := ⟨_, rfl⟩
 rw [E2.out]
 rw [← hW]
 have PP := hid (show PPost B g tb Vd c a { x with heard := x.heard } H W by
  rw [hW]
  obtain ⟨q1, q2, q3⟩ := S1.out.put { x with heard := x.heard } 17 (.int .i64 (x.heard)) rfl (S1.out.has.like rfl rfl rfl rfl rfl rfl rfl)
  exact ⟨p, X, c, a, n, q1, q2, q3⟩)
 clear hW
 go_wp2_with fail
 first | refine bodyPost_end (results_none rfl _ _ _) rfl ?_ | refine bodyPost_ret (results_none rfl _ _ _) rfl ?_
 exact ⟨⟨_, rfl⟩, PP.out.ext ED.out S0.out.lt⟩
theorem implSendHeld (B g tb : Nat) (x : Rc) (p : RcP) (X : RcX) (c : Nat → Nat) (a : Option Addr) (H : List Mp) (n : Nat) (v : World) (h : IKS B g tb x p X c a H n v)  :
  Calls Tryz.prog 116 #[.pointer (some ⟨tb, 0, none⟩)] v fun e v' => (∃ u, e = .returned u) ∧ PPost B g tb v c a ({ x with held := [] }) (X.H) v' := by
 have S0 := hid h
 clear h
 go_enter Tryz.func116, Tryz.ntmps116
 go_wp2_with fail
 have hK0 : ShS g tb (rcV x p) v := ⟨S0.out.k, S0.out.t.cell 0⟩
 refine wp_region_last (S := ShS g tb (rcV x p)) 17 (by kernel_rfl) hK0.drew (fun hHeld => ?_)
 simp only [qz, Nat.reduceAdd]
 obtain ⟨Vd, hVd⟩ : ∃ u, u = v.drew := ⟨_, rfl⟩
 have ED := hid (show Below v.heap.size v Vd by rw [hVd]; exact ext_drew v)
 have S1 := hid (S0.out.ext ED.out)
 rw [← hVd] at hHeld ⊢
 clear hVd hK0
 refine planL.go [0, 1, 2, 3, 4, 5, 6, 7, 8, 9, 10, 11, 12, 13] ?_
 iterate 14 (apply planL.take (at_lit rfl) (by kernel_rfl) (by rfl) (fun _ _ _ h => h) hHeld; (· intro w9 hSw; have hq := hSw.bg.cell; have ht := hSw.t0; clear hSw; go_simp; try with_reducible rfl); try simp only [qq])
 refine planL.fin ?_
 refine rdL 14 (by kernel_rfl) (at_lit rfl) (fun K hK => ?_)
 have cT := S1.out.t.cell
 have fT := S1.out.t.free
 go_simp
 clear cT fT
 have hHeld2 : ShS g tb (rcV x p) (Vd.setCell ⟨tb, 1, none⟩ (.slice p.aH x.held.length p.cH)) := ⟨(heap_setCell_other _ ⟨tb, 1, none⟩ g _ (Ne.symm S0.out.ne)).trans S1.out.k, by have := (S1.out.t.set (o := 1) (.slice p.aH x.held.length p.cH)).cell 0; simpa using this⟩
 refine hK.out _ _ hHeld2 (fun _ => ?_)
 clear hK K hHeld
 have hHeld := hHeld2
 clear hHeld2
 try simp only [qq]
 refine rdL 15 (by kernel_rfl) (at_lit rfl) (fun K hK => ?_)
 go_simp
 refine hK.out _ _ hHeld (fun hNew => ?_)
 clear hK K hNew
 try simp only [qq]
 refine planL.go [16] ?_
 iterate 1 (apply planL.take (at_lit rfl) (by kernel_rfl) (by rfl) (fun _ _ _ h => h) hHeld; (· intro w9 hSw; have hq := hSw.bg.cell; have ht := hSw.t0; clear hSw; go_simp; try with_reducible rfl); try simp only [qq])
 refine planL.fin ?_
 refine wpLast_end (by kernel_rfl) (at_lit rfl) (by kernel_rfl) (fun K hK => ?_)
 have cK := hHeld.bg.cell
 have fK := hHeld.bg.free
 go_simp
 refine hK.out _ _ ?_
 clear hK K hHeld cK fK
 have PP := hid S1.out.unhold
 obtain ⟨W, hW⟩ : ∃ W, W = (Vd.setCell ⟨tb, 1, none⟩ (.slice p.aH x.held.length p.cH)).setCell ⟨g, 9, none⟩ (.slice none 0 0) := ⟨_, rfl⟩
 rw [← hW] at PP ⊢
 clear hW
 go_wp2_with fail
 first | refine bodyPost_end (results_none rfl _ _ _) rfl ?_ | refine bodyPost_ret (results_none rfl _ _ _) rfl ?_
 exact ⟨⟨_, rfl⟩, PP.out.ext ED.out S0.out.lt⟩
end Go.Proofs.YtffklmlljekceaaGreat
