import Derived.Test.YtffklmlljekceaaGreatQ37
namespace Go.Proofs.YtffklmlljekceaaGreat
open Go.ChangeShapes Go.WideShapes Go.ChangeAt Go.RowKit
set_option linter.unusedSimpArgs false
set_option linter.unusedVariables false
set_option maxHeartbeats 16000000
set_option maxRecDepth 20000
theorem GPost.stay {B g : Nat} {w : World} {r : Rc} {p : RcP} {X : RcX} {col : Nat → Nat} {w' : World} (hk : Blk w g (rcV r p) 41) (hc : 8 < col g) (h : RcHas B w r p X col) (hB : B ≤ w.heap.size) (hb : Below w.heap.size w w') : GPost B g w col r w' :=
 ⟨p, X, colF w.heap.size col, hk.ext hb, h.fresh.ext hb, by rw [colF_old hk.lt]; exact hc, hb.mono hB, fun b hlt _ h8 => ⟨hb.block b hlt, by rw [colF_old hlt]; exact h8⟩⟩
theorem GPost.known {B g : Nat} {w : World} {col : Nat → Nat} {r : Rc} {w' : World} (h : GPost B g w col r w') (hg : B ≤ g) (d : Int) : GPost B g w col (atK r d) (w'.setCell ⟨g, 7, none⟩ (.int .i64 d)) := by
 obtain ⟨p', X', col', k, has, hc, hb, ot⟩ := h
 refine ⟨p', X', col', by have := k.set (o := 7) (.int .i64 d); simpa using this, (has.like (r' := atK r d) rfl rfl rfl rfl rfl rfl rfl).setCell (q := ⟨g, 7, none⟩) hc _, hc, below_set hb hg _, fun b hlt hne h8 => ⟨(heap_setCell_other _ ⟨g, 7, none⟩ b _ hne).trans (ot b hlt hne h8).1, (ot b hlt hne h8).2⟩⟩
theorem implChosen (B g : Nat) (f : Value) (r : Rc) (p : RcP) (X : RcX) (col : Nat → Nat) (m : MsgH) (v : Value) (w : World) (hg : B ≤ g) (hk : Blk w g (rcV r p) 41) (hc : 8 < col g) (hd0 : 0 ≤ r.dk) (hd1 : r.dk ≤ r.ds.length) (hS : RcSmall r) (hx : m.x.size ≤ maxLen) (hb : wfI m.b) (h : RcHas B w r p X col) :
  Calls Tryz.prog 106 #[.agg #[.pointer (some ⟨g, 0, none⟩), f], .agg (msgV m v)] w fun e w' => (∃ u, e = .returned u) ∧ GPost B g w col (chosen6 r m.b m.i m.x) w' := by
 have RD := hid h.fresh
 have RH := hid h
 have HC0 := hid hc
 have HC := hid (show 8 < colF w.heap.size col g by rw [colF_old hk.lt]; exact hc)
 have HG := hid hg
 have K0 := hid hk
 have HW := hid (show m.x.size ≤ maxLen ∧ wfI m.b ∧ r.ds.length ≤ 1048576 from ⟨hx, hb, hS.lD⟩)
 have HBs := hid (show B ≤ w.heap.size from Nat.le_trans hg (Nat.le_of_lt hk.lt))
 obtain ⟨V, hV⟩ : ∃ V, V = (w.alloc (.cells #[.pointer (some ⟨g, 0, none⟩), f] 121)).alloc (.cells (msgV m v) 45) := ⟨_, rfl⟩
 have E1 := hid (show Below w.heap.size w V by rw [hV]; exact ext_alloc (ext_alloc (Below.refl _ _) _) _)
 have KT := hid (show Blk V w.heap.size #[.pointer (some ⟨g, 0, none⟩), f] 121 by rw [hV]; exact (Blk.new _ _ _).alloc _)
 have KM := hid (show Blk V (w.heap.size + 1) (msgV m v) 45 by rw [hV]; exact Blk.new' _ _ (by simp))
 have q1 : 0 ≤ r.dk := hd0
 have q2 : r.dk ≤ 1048576 := by have := hS.lD; omega
 have e3 : IntKind.i64.wrap (r.dk + 1) = r.dk + 1 := by go_arith
 clear h hc hg hk hd0 hd1 hS hx hb
 have cT := KT.out.cell
 have cM := KM.out.cell
 have cK := (K0.out.ext E1.out).cell
 rw [hV] at cT cM cK
 by_cases g1 : m.i = r.dk + 1
 ·have u1 : (m.i == r.dk + 1) = true := by rw [g1]; exact beq_self_eq_true _
  cases g2 : inB m.b 1 r.dp
  ·have FIN := hid (show chosen6 r m.b m.i m.x = r by unfold chosen6; rw [if_neg (fun q => by rw [inB_yes (by omega) q.2.2] at g2; cases g2)])
   clear g1
   go_enter Tryz.func106, Tryz.ntmps106
   go_wp2_with fail
   go_quiet (first | (go_at_call 89; exact Calls.quiet_of_same (within_any _ _ _ _)))
   go_wp2_with fail
   refine bodyPost_end (results_none rfl _ _ _) rfl ?_
   rw [FIN.out, ← hV]
   exact ⟨⟨_, rfl⟩, GPost.stay K0.out HC0.out RH.out HBs.out (ext_trans E1.out (Go.below_drewN (Below.refl _ _) _))⟩
  have i2 := inB_iff.1 g2
  obtain ⟨q, hq⟩ : ∃ q : Nat, m.i = ((q + 1 : Nat) : Int) := ⟨r.dk.toNat, by omega⟩
  have FIN := hid (show chosen6 r m.b m.i m.x = atK (setR r (q + 1) (m.b, m.x)) m.i by unfold chosen6; rw [if_pos ⟨g1, by omega, i2.2⟩, hq]; rfl)
  have QL := hid (show q ≤ 1048576 by omega)
  have HQ := hid hq
  clear hq g1 i2
  go_enter Tryz.func106, Tryz.ntmps106
  go_wp2_with fail
  go_quiet (first | (go_at_call 89; exact Calls.quiet_of_same (within_any _ _ _ _)))
  rw [← hV] at cT cM cK ⊢
  clear hV
  obtain ⟨V2, hV2⟩ : ∃ v, v = V.drewN nq := ⟨_, rfl⟩
  have E2 := hid (show Below V.heap.size V V2 by rw [hV2]; exact Go.below_drewN (Below.refl _ _) _)
  rw [← hV2]
  clear hV2 cT cM cK
  have cT := (KT.out.ext E2.out).cell
  have cM := (KM.out.ext E2.out).cell
  have KM2 := hid (KM.out.ext E2.out)
  go_wp2_with ((with_reducible refine wpList_build_to (ty := 108) #[.int .i64 m.b, .string m.x] ?_ ?_); (· kernel_rfl))
  rw [HQ.out]
  refine (implPut B g r p X (colF w.heap.size col) q (m.b, m.x) _ HG.out ((K0.out.ext E1.out).ext E2.out) HC.out QL.out HW.out.2.2 ⟨HW.out.1, HW.out.2.1⟩ ((RD.out.ext E1.out).ext E2.out)).mono ?_
  rintro e z ⟨⟨u, rfl⟩, gp⟩
  have GP := hid ((gp.known HG.out m.i).from (ext_trans E1.out E2.out) HBs.out)
  obtain ⟨p', X', col', kz, _, _, _, ot⟩ := gp
  have km : Blk z (w.heap.size + 1) (msgV m v) 45 := (ot _ KM2.out.lt (by have := K0.out.lt; omega) (by rw [colF_new (by omega)]; omega)).1.trans KM2.out
  clear cT cM ot
  have cM := km.cell
  have cK := kz.cell
  have fK := kz.free
  go_wp2_with fail
  refine bodyPost_end (results_none rfl _ _ _) rfl ?_
  rw [FIN.out]
  exact ⟨⟨_, rfl⟩, GP.out⟩
 have u1 : (m.i == r.dk + 1) = false := beq_false_of_ne g1
 have FIN := hid (show chosen6 r m.b m.i m.x = r by unfold chosen6; rw [if_neg (fun q => g1 q.1)])
 have G1 := hid g1
 clear g1
 go_enter Tryz.func106, Tryz.ntmps106
 go_wp2_with fail
 go_quiet (first | (go_at_call 89; exact Calls.quiet_of_same (within_any _ _ _ _)))
 go_wp2_with fail
 refine bodyPost_end (results_none rfl _ _ _) rfl ?_
 rw [FIN.out, ← hV]
 exact ⟨⟨_, rfl⟩, GPost.stay K0.out HC0.out RH.out HBs.out (ext_trans E1.out (Go.below_drewN (Below.refl _ _) _))⟩
abbrev tkV (g pb : Nat) : Array Value := #[.pointer (some ⟨g, 0, none⟩), .func (.func 133) #[] #[.pointer (some ⟨pb, 0, none⟩)]]
structure TS (B g pb : Nat) (w : World) (col : Nat → Nat) (m : MsgH) (mv : Value) (r : Rc) (p : RcP) (X : RcX) (c' : Nat → Nat) (v : World) : Prop where
 k : Blk v g (rcV r p) 41
 kp : Blk v pb #[.pointer (some ⟨g, 0, none⟩)] 74
 kt : Blk v w.heap.size (tkV g pb) 121
 km : Blk v (w.heap.size + 1) (msgV m mv) 45
 has : RcHas B v r p X c'
 cg : 8 < c' g
 cp : 8 < c' pb
 ct : 8 < c' w.heap.size
 cm : 8 < c' (w.heap.size + 1)
 bel : Below B w v
 oth : ∀ b, b < w.heap.size → b ≠ g → 8 < col b → v.heap[b]? = w.heap[b]? ∧ 8 < c' b
 ne : pb ≠ g
 lg : g < w.heap.size
theorem TS.start {B g pb : Nat} {w : World} {col : Nat → Nat} {m : MsgH} {mv : Value} {r : Rc} {p : RcP} {X : RcX} (hg : B ≤ g) (hk : Blk w g (rcV r p) 41) (hc : 8 < col g) (hp : Blk w pb #[.pointer (some ⟨g, 0, none⟩)] 74) (hpc : 8 < col pb) (hne : pb ≠ g) (h : RcHas B w r p X col) :
  TS B g pb w col m mv r p X (colF w.heap.size col) ((w.alloc (.cells (tkV g pb) 121)).alloc (.cells (msgV m mv) 45)) := by
 have hb : Below w.heap.size w ((w.alloc (.cells (tkV g pb) 121)).alloc (.cells (msgV m mv) 45)) := ext_alloc (ext_alloc (Below.refl _ _) _) _
 exact ⟨hk.ext hb, hp.ext hb, (Blk.new _ _ _).alloc _, Blk.new' _ _ (by simp), h.fresh.ext hb, by rw [colF_old hk.lt]; exact hc, by rw [colF_old hp.lt]; exact hpc, by rw [colF_new (Nat.le_refl _)]; omega, by rw [colF_new (by omega)]; omega, hb.mono (Nat.le_trans hg (Nat.le_of_lt hk.lt)), fun b hlt _ h8 => ⟨hb.block b hlt, by rw [colF_old hlt]; exact h8⟩, hne, hk.lt⟩
theorem TS.ext {B g pb : Nat} {w : World} {col : Nat → Nat} {m : MsgH} {mv : Value} {r : Rc} {p : RcP} {X : RcX} {c' : Nat → Nat} {v v' : World} (h : TS B g pb w col m mv r p X c' v) (hg : B ≤ g) (hb : Below v.heap.size v v') : TS B g pb w col m mv r p X c' v' :=
 ⟨h.k.ext hb, h.kp.ext hb, h.kt.ext hb, h.km.ext hb, h.has.ext hb, h.cg, h.cp, h.ct, h.cm, h.bel.trans (hb.mono (Nat.le_trans hg (Nat.le_of_lt h.k.lt))), fun b hlt hne h8 => ⟨(hb.block b (by have := h.km.lt; omega)).trans (h.oth b hlt hne h8).1, (h.oth b hlt hne h8).2⟩, h.ne, h.lg⟩
theorem TS.next {B g pb : Nat} {w : World} {col : Nat → Nat} {m : MsgH} {mv : Value} {r r' : Rc} {p : RcP} {X : RcX} {c' : Nat → Nat} {v v' : World} (h : TS B g pb w col m mv r p X c' v) (gp : GPost B g v c' r' v') : ∃ p' X' c'', TS B g pb w col m mv r' p' X' c'' v' := by
 obtain ⟨p', X', c'', k, has, hc, hb, ot⟩ := gp
 have n1 : w.heap.size ≠ g := by have := h.lg; omega
 have n2 : w.heap.size + 1 ≠ g := by have := h.lg; omega
 refine ⟨p', X', c'', k, (ot _ h.kp.lt h.ne h.cp).1.trans h.kp, (ot _ h.kt.lt n1 h.ct).1.trans h.kt, (ot _ h.km.lt n2 h.cm).1.trans h.km, has, hc, (ot _ h.kp.lt h.ne h.cp).2, (ot _ h.kt.lt n1 h.ct).2, (ot _ h.km.lt n2 h.cm).2, h.bel.trans hb, fun b hlt hne h8 => ?_, h.ne, h.lg⟩
 obtain ⟨q1, q2⟩ := h.oth b hlt hne h8
 obtain ⟨q3, q4⟩ := ot b (by have := h.km.lt; omega) hne q2
 exact ⟨q3.trans q1, q4⟩
theorem TS.post {B g pb : Nat} {w : World} {col : Nat → Nat} {m : MsgH} {mv : Value} {r : Rc} {p : RcP} {X : RcX} {c' : Nat → Nat} {v : World} (h : TS B g pb w col m mv r p X c' v) : GPost B g w col r v := ⟨p, X, c', h.k, h.has, h.cg, h.bel, h.oth⟩
theorem TS.out {B g pb : Nat} {w : World} {col : Nat → Nat} {m : MsgH} {mv : Value} {r r' : Rc} {p : RcP} {X : RcX} {c' : Nat → Nat} {v v' : World} (h : TS B g pb w col m mv r p X c' v) (gp : GPost B g v c' r' v') : GPost B g w col r' v' := by
 obtain ⟨p', X', c'', q⟩ := h.next gp
 exact q.post
structure TkN (h g : Nat) (c cm : Array Value) (ba : Int) (w' : World) : Prop where
 bt : Blk w' h c 121
 bm : Blk w' (h + 1) cm 45
 cb : w'.cell? ⟨g, 13, none⟩ = some (.int .i64 ba)
theorem TkN.drew {h g : Nat} {c cm : Array Value} {ba : Int} {w' : World} (k : TkN h g c cm ba w') : TkN h g c cm ba w'.drew := ⟨k.bt, k.bm, k.cb⟩
theorem implNeed (B g pb : Nat) (r : Rc) (p : RcP) (X : RcX) (col : Nat → Nat) (mk mf mt mb mn : Int) (q : Nat) (mx : ByteArray) (mv : Value) (w : World) (hg : B ≤ g) (hk : Blk w g (rcV r p) 41) (hc : 8 < col g) (hp : Blk w pb #[.pointer (some ⟨g, 0, none⟩)] 74) (hpc : 8 < col pb) (hne : pb ≠ g) (hd0 : 0 ≤ r.dk) (hd1 : r.dk ≤ r.ds.length) (hS : RcSmall r) (hi : 0 ≤ ((q : Nat) : Int) ∧ ((q : Nat) : Int) ≤ 1048576) (h : RcHas B w r p X col) :
  Calls Tryz.prog 107 #[.agg (tkV g pb), .agg (msgV ⟨mk, mf, mt, mb, ((q : Nat) : Int), mn, mx⟩ mv)] w fun e w' => (∃ u, e = .returned u) ∧ GPost B g w col (need7 mf 5 ((q : Nat) : Int) r) w' := by
 have HG := hid hg
 have HD := hid (show 0 ≤ r.dk ∧ r.dk ≤ r.ds.length ∧ r.ds.length ≤ 1048576 ∧ 0 ≤ ((q : Nat) : Int) ∧ ((q : Nat) : Int) ≤ 1048576 from ⟨hd0, hd1, hS.lD, hi⟩)
 clear hd0 hd1 hS hi
 obtain ⟨V, hV⟩ : ∃ V, V = (w.alloc (.cells (tkV g pb) 121)).alloc (.cells (msgV ⟨mk, mf, mt, mb, ((q : Nat) : Int), mn, mx⟩ mv) 45) := ⟨_, rfl⟩
 have S0 := hid (show TS B g pb w col ⟨mk, mf, mt, mb, ((q : Nat) : Int), mn, mx⟩ mv r p X (colF w.heap.size col) V by rw [hV]; exact TS.start hg hk hc hp hpc hne h)
 clear h hg hk hc hp hpc hne
 have cT := S0.out.kt.cell
 have cM := S0.out.km.cell
 have cK := S0.out.k.cell
 rw [hV] at cT cM cK
 cases hl : r.lead
 ·have FIN := hid (show need7 mf 5 ((q : Nat) : Int) r = r from need7_stop (fun h => by rw [hl] at h; exact absurd h.1 (by simp)))
  go_enter Tryz.func107, Tryz.ntmps107
  go_wp2_with fail
  first | refine bodyPost_end (results_none rfl _ _ _) rfl ?_ | refine bodyPost_ret (results_none rfl _ _ _) rfl ?_
  rw [FIN.out, ← hV]
  exact ⟨⟨_, rfl⟩, S0.out.post⟩
 by_cases g0 : q = 0
 ·have u0 : (((q : Nat) : Int) == 0) = true := by rw [g0]; rfl
  have FIN := hid (show need7 mf 5 ((q : Nat) : Int) r = r from need7_stop (fun h => by have := h.2.1; omega))
  clear g0
  go_enter Tryz.func107, Tryz.ntmps107
  go_wp2_with fail
  first | refine bodyPost_end (results_none rfl _ _ _) rfl ?_ | refine bodyPost_ret (results_none rfl _ _ _) rfl ?_
  rw [FIN.out, ← hV]
  exact ⟨⟨_, rfl⟩, S0.out.post⟩
 have u0 : (((q : Nat) : Int) == 0) = false := beq_false_of_ne (by omega)
 have MI := hid (show ((q : Nat) : Int) = ((q : Nat) : Int) from rfl)
 have QP := hid (show 0 < q ∧ q ≤ 1048576 by have := HD.out.2.2.2; omega)
 have QZ := hid u0
 have HLD := hid hl
 clear g0
 go_enter Tryz.func107, Tryz.ntmps107
 go_wp2_with fail
 rw [← hV]
 clear hV cT cM cK hl
 have e5 : IntKind.i64.wrap ((q : Int) + 4) = (q : Int) + 4 := by have := QP.out; go_arith
 go_loopw [4] (fun j wr => ∃ (n0 : Nat) (r4 : Rc) (p4 : RcP) (X4 : RcX) (c4 : Nat → Nat), q ≤ n0 ∧ n0 ≤ q + 5 ∧ j = .int .i64 n0 ∧ need7 mf (q + 5 - n0) n0 r4 = need7 mf 5 q r ∧ keep7 r4 = keep7 r ∧ TS B g pb w col ⟨mk, mf, mt, mb, ((q : Nat) : Int), mn, mx⟩ mv r4 p4 X4 c4 wr) (fun j _ => q + 5 - (intOf j).toNat)
 case atStart => exact ⟨q, r, p, X, _, Nat.le_refl _, by omega, rfl, by rw [show q + 5 - q = 5 by omega], rfl, S0.out⟩
 obtain ⟨n0, r4, p4, X4, c4, hn1, hn2, rfl, hneed, hkeep, hss⟩ := hrel
 have ST := hid hss
 have HN := hid hneed
 have KP := hid hkeep
 have D4 := hid (show 0 ≤ r4.dk ∧ r4.dk ≤ r4.ds.length ∧ r4.ds.length ≤ 1048576 ∧ r4.lead = true by
  have h1 : r4.dk = r.dk := congrArg (fun t => t.1) hkeep
  have h2 : r4.ds = r.ds := congrArg (fun t => t.2.1) hkeep
  have h3 : r4.lead = r.lead := congrArg (fun t => t.2.2.1) hkeep
  rw [h1, h2, h3]
  exact ⟨HD.out.1, HD.out.2.1, HD.out.2.2.1, HLD.out⟩)
 clear hss hneed hkeep S0
 have cT := ST.out.kt.cell
 have cM := ST.out.km.cell
 have cK := ST.out.k.cell
 by_cases hmn : r4.dk < (q : Int) + 4
 ·skip
  by_cases hb : (n0 : Int) ≤ r4.dk
  ·have u3 : decide ((n0 : Int) ≤ r4.dk) = true := decide_eq_true hb
   have NB := hid (show (n0 : Int) ≤ r4.dk ∧ n0 ≤ q + 4 by omega)
   clear hb
   go_wp2_with fail
   go_quiet (fail)
   obtain ⟨x, rfl⟩ : ∃ x, n0 = x + 1 := ⟨n0 - 1, by have := QP.out; omega⟩
   have d4 := D4.out
   have nb := NB.out
   obtain ⟨y, hy⟩ : ∃ y, r4.ds[x]? = some y := ⟨_, List.getElem?_eq_getElem (by omega)⟩
   have LDX := hid (show r4.lead = true ∧ r4.ds[x]? = some y ∧ ((x + 1 : Nat) : Int) ≤ r4.dk from ⟨d4.2.2.2, hy, nb.1⟩)
   obtain ⟨V5, hV5⟩ : ∃ v, v = wr.drewN nq := ⟨_, rfl⟩
   have S5 := hid (show TS B g pb w col ⟨mk, mf, mt, mb, ((q : Nat) : Int), mn, mx⟩ mv r4 p4 X4 c4 V5 by rw [hV5]; exact ST.out.ext HG.out (Go.below_drewN (Below.refl _ _) _))
   rw [← hV5]
   clear hV5 cT cM cK nq u3
   have YG := hid (show y.2.size ≤ maxLen from (S5.out.has.gd.d x y hy).1)
   obtain ⟨gD, ed, _, dc, _⟩ := S5.out.has.d.cell (flat_at r4.ds x y hy).2
   obtain ⟨aS4, cS4, aD4, cD4, aH4, cH4, aW4, cW4, aY4, cY4, aB4, cB4, aA4, cA4⟩ := p4
   dsimp only at ed
   subst ed
   have e6 : (0 : Int) ≤ (x : Int) := by omega
   have e7 : (x : Int) < (r4.ds.length : Int) := by omega
   have e9 : x ≤ 1048576 := by omega
   have e8 : IntKind.i64.wrap ((x : Nat) : Int) = ((x : Nat) : Int) := by go_arith
   clear hy d4 nb
   have cT := S5.out.kt.cell
   have cM := S5.out.km.cell
   have cK := S5.out.k.cell
   go_wp2_with fail
   have hK0 : TkN w.heap.size g (tkV g pb) (msgV ⟨mk, mf, mt, mb, ((q : Nat) : Int), mn, mx⟩ mv) r4.ball V5 := ⟨S5.out.kt, S5.out.km, S5.out.k.cell 13⟩
   refine wp_region_held_drew (S := TkN w.heap.size g (tkV g pb) (msgV ⟨mk, mf, mt, mb, ((q : Nat) : Int), mn, mx⟩ mv) r4.ball) (by kernel_rfl) hK0.drew (fun hHeld => ?_)
   simp only [qz, Nat.reduceAdd]
   clear hK0 cT cM
   refine planH.go [0, 1, 2, 3, 4, 5, 6, 7, 8, 9, 10, 11, 12, 13, 14, 16, 17] ?_
   iterate 17 (apply planH.take (at_lit rfl) (by kernel_rfl) (by rfl) (fun _ _ _ h => h) hHeld; (· intro w9 hSw; have hq := hSw.bt.cell; have hm := hSw.bm.cell; have hc := hSw.cb; clear hSw; go_simp; try with_reducible rfl); try simp only [qq])
   refine planH.fin ?_
   refine rdH 15 (by kernel_rfl) (at_lit rfl) (fun K hK => ?_)
   go_simp
   refine hK.out _ _ hHeld (fun hNew => ?_)
   clear hK K hNew
   try simp only [qq]
   refine planH.go [18, 19] ?_
   iterate 2 (apply planH.take (at_lit rfl) (by kernel_rfl) (by rfl) (fun _ _ _ h => h) hHeld; (· intro w9 hSw; have hq := hSw.bt.cell; have hm := hSw.bm.cell; have hc := hSw.cb; clear hSw; go_simp; try with_reducible rfl); try simp only [qq])
   refine planH.fin ?_
   refine rdH 20 (by kernel_rfl) (at_lit rfl) (fun K hK => ?_)
   go_simp
   refine hK.out _ _ hHeld (fun hNew => ?_)
   clear hK K hNew
   try simp only [qq]
   refine planH.go [21] ?_
   iterate 1 (apply planH.take (at_lit rfl) (by kernel_rfl) (by rfl) (fun _ _ _ h => h) hHeld; (· intro w9 hSw; have hq := hSw.bt.cell; have hm := hSw.bm.cell; have hc := hSw.cb; clear hSw; go_simp; try with_reducible rfl); try simp only [qq])
   refine planH.fin ?_
   refine rdH 22 (by kernel_rfl) (at_lit rfl) (fun K hK => ?_)
   go_simp
   clear dc cK
   have SD := hid (S5.out.ext HG.out (show Below V5.heap.size V5 V5.drew from (Below.refl _ _).drew))
   refine (implHold1 B g pb r4 ⟨aS4, cS4, some ⟨gD, 0, none⟩, cD4, aH4, cH4, aW4, cW4, aY4, cY4, aB4, cB4, aA4, cA4⟩ X4 c4 ⟨6, 0, mf, r4.ball, ((x : Nat) : Int) + 1, 0, y.2⟩ none [] 0 V5.drew HG.out SD.out.k SD.out.cg SD.out.kp SD.out.cp SD.out.ne SD.out.has (rowC_nil _ _ _ _ _ _) (fun q hq x x' _ hx' => by simp at hx') YG.out (fun i s hs => by simp at hs)).mono ?_
   obtain ⟨r5, hr5⟩ : ∃ r5, r5 = holdR r4 ⟨6, 0, mf, r4.ball, ((x : Nat) : Int) + 1, 0, y.2⟩ [] := ⟨_, rfl⟩
   rw [← hr5]
   have E5 := hid hr5
   have BL := hid (show r5.ball = r4.ball by rw [hr5]; exact congrArg (fun t => t.2.2.2) (hold_keep r4 _ _))
   clear hr5
   rintro e z5 ⟨⟨u, rfl⟩, gp⟩
   obtain ⟨p5, X5, c5, ts5⟩ := SD.out.next gp
   have N5 := hid ts5
   clear gp ts5
   go_wp2_with fail
   refine hK.out _ _ ⟨N5.out.kt, N5.out.km, by rw [N5.out.k.cell 13, ← BL.out]; rfl⟩ (fun _ => ?_)
   clear hK K hHeld
   try simp only [qq]
   refine wpAnyH_done (by kernel_rfl) ?_ _
   go_wp2_with fail
   go_roundw
   case rel => exact ⟨x + 1 + 1, r5, p5, X5, c5, by omega, by have := NB.out; omega, by go_num, by
    rw [← HN.out, show q + 5 - (x + 1) = (q + 5 - (x + 1 + 1)) + 1 by have := NB.out; omega]
    rw [need7_step LDX.out.1 (by omega) LDX.out.2.2 LDX.out.2.1, E5.out]
    rfl, by rw [E5.out]; exact (hold_keep _ _ _).trans KP.out, N5.out⟩
   case measure => have := NB.out; simp [intOf]; omega
  have u3 : decide ((n0 : Int) ≤ r4.dk) = false := decide_eq_false hb
  have NB := hid (show ¬ (n0 : Int) ≤ r4.dk ∨ q + 5 - n0 = 0 by omega)
  clear hb
  have NE := hid (show need7 mf 5 ((q : Nat) : Int) r = r4 from by
   rw [← HN.out]
   rcases NB.out with h | h
   ·exact need7_stop (fun k => h k.2.2)
   rw [h]; rfl)
  go_wp2_with fail
  go_quiet (fail)
  go_wp2_with fail
  first | refine bodyPost_end (results_none rfl _ _ _) rfl ?_ | refine bodyPost_ret (results_none rfl _ _ _) rfl ?_
  rw [NE.out]
  exact ⟨⟨_, rfl⟩, (ST.out.ext HG.out (Go.below_drewN (Below.refl _ _) _)).post⟩
 skip
 by_cases hb : (n0 : Int) ≤ (q : Int) + 4
 ·have u3 : decide ((n0 : Int) ≤ (q : Int) + 4) = true := decide_eq_true hb
  have NB := hid (show (n0 : Int) ≤ r4.dk ∧ n0 ≤ q + 4 by omega)
  clear hb
  go_wp2_with fail
  go_quiet (fail)
  obtain ⟨x, rfl⟩ : ∃ x, n0 = x + 1 := ⟨n0 - 1, by have := QP.out; omega⟩
  have d4 := D4.out
  have nb := NB.out
  obtain ⟨y, hy⟩ : ∃ y, r4.ds[x]? = some y := ⟨_, List.getElem?_eq_getElem (by omega)⟩
  have LDX := hid (show r4.lead = true ∧ r4.ds[x]? = some y ∧ ((x + 1 : Nat) : Int) ≤ r4.dk from ⟨d4.2.2.2, hy, nb.1⟩)
  obtain ⟨V5, hV5⟩ : ∃ v, v = wr.drewN nq := ⟨_, rfl⟩
  have S5 := hid (show TS B g pb w col ⟨mk, mf, mt, mb, ((q : Nat) : Int), mn, mx⟩ mv r4 p4 X4 c4 V5 by rw [hV5]; exact ST.out.ext HG.out (Go.below_drewN (Below.refl _ _) _))
  rw [← hV5]
  clear hV5 cT cM cK nq u3
  have YG := hid (show y.2.size ≤ maxLen from (S5.out.has.gd.d x y hy).1)
  obtain ⟨gD, ed, _, dc, _⟩ := S5.out.has.d.cell (flat_at r4.ds x y hy).2
  obtain ⟨aS4, cS4, aD4, cD4, aH4, cH4, aW4, cW4, aY4, cY4, aB4, cB4, aA4, cA4⟩ := p4
  dsimp only at ed
  subst ed
  have e6 : (0 : Int) ≤ (x : Int) := by omega
  have e7 : (x : Int) < (r4.ds.length : Int) := by omega
  have e9 : x ≤ 1048576 := by omega
  have e8 : IntKind.i64.wrap ((x : Nat) : Int) = ((x : Nat) : Int) := by go_arith
  clear hy d4 nb
  have cT := S5.out.kt.cell
  have cM := S5.out.km.cell
  have cK := S5.out.k.cell
  go_wp2_with fail
  have hK0 : TkN w.heap.size g (tkV g pb) (msgV ⟨mk, mf, mt, mb, ((q : Nat) : Int), mn, mx⟩ mv) r4.ball V5 := ⟨S5.out.kt, S5.out.km, S5.out.k.cell 13⟩
  refine wp_region_held_drew (S := TkN w.heap.size g (tkV g pb) (msgV ⟨mk, mf, mt, mb, ((q : Nat) : Int), mn, mx⟩ mv) r4.ball) (by kernel_rfl) hK0.drew (fun hHeld => ?_)
  simp only [qz, Nat.reduceAdd]
  clear hK0 cT cM
  refine planH.go [0, 1, 2, 3, 4, 5, 6, 7, 8, 9, 10, 11, 12, 13, 14, 16, 17] ?_
  iterate 17 (apply planH.take (at_lit rfl) (by kernel_rfl) (by rfl) (fun _ _ _ h => h) hHeld; (· intro w9 hSw; have hq := hSw.bt.cell; have hm := hSw.bm.cell; have hc := hSw.cb; clear hSw; go_simp; try with_reducible rfl); try simp only [qq])
  refine planH.fin ?_
  refine rdH 15 (by kernel_rfl) (at_lit rfl) (fun K hK => ?_)
  go_simp
  refine hK.out _ _ hHeld (fun hNew => ?_)
  clear hK K hNew
  try simp only [qq]
  refine planH.go [18, 19] ?_
  iterate 2 (apply planH.take (at_lit rfl) (by kernel_rfl) (by rfl) (fun _ _ _ h => h) hHeld; (· intro w9 hSw; have hq := hSw.bt.cell; have hm := hSw.bm.cell; have hc := hSw.cb; clear hSw; go_simp; try with_reducible rfl); try simp only [qq])
  refine planH.fin ?_
  refine rdH 20 (by kernel_rfl) (at_lit rfl) (fun K hK => ?_)
  go_simp
  refine hK.out _ _ hHeld (fun hNew => ?_)
  clear hK K hNew
  try simp only [qq]
  refine planH.go [21] ?_
  iterate 1 (apply planH.take (at_lit rfl) (by kernel_rfl) (by rfl) (fun _ _ _ h => h) hHeld; (· intro w9 hSw; have hq := hSw.bt.cell; have hm := hSw.bm.cell; have hc := hSw.cb; clear hSw; go_simp; try with_reducible rfl); try simp only [qq])
  refine planH.fin ?_
  refine rdH 22 (by kernel_rfl) (at_lit rfl) (fun K hK => ?_)
  go_simp
  clear dc cK
  have SD := hid (S5.out.ext HG.out (show Below V5.heap.size V5 V5.drew from (Below.refl _ _).drew))
  refine (implHold1 B g pb r4 ⟨aS4, cS4, some ⟨gD, 0, none⟩, cD4, aH4, cH4, aW4, cW4, aY4, cY4, aB4, cB4, aA4, cA4⟩ X4 c4 ⟨6, 0, mf, r4.ball, ((x : Nat) : Int) + 1, 0, y.2⟩ none [] 0 V5.drew HG.out SD.out.k SD.out.cg SD.out.kp SD.out.cp SD.out.ne SD.out.has (rowC_nil _ _ _ _ _ _) (fun q hq x x' _ hx' => by simp at hx') YG.out (fun i s hs => by simp at hs)).mono ?_
  obtain ⟨r5, hr5⟩ : ∃ r5, r5 = holdR r4 ⟨6, 0, mf, r4.ball, ((x : Nat) : Int) + 1, 0, y.2⟩ [] := ⟨_, rfl⟩
  rw [← hr5]
  have E5 := hid hr5
  have BL := hid (show r5.ball = r4.ball by rw [hr5]; exact congrArg (fun t => t.2.2.2) (hold_keep r4 _ _))
  clear hr5
  rintro e z5 ⟨⟨u, rfl⟩, gp⟩
  obtain ⟨p5, X5, c5, ts5⟩ := SD.out.next gp
  have N5 := hid ts5
  clear gp ts5
  go_wp2_with fail
  refine hK.out _ _ ⟨N5.out.kt, N5.out.km, by rw [N5.out.k.cell 13, ← BL.out]; rfl⟩ (fun _ => ?_)
  clear hK K hHeld
  try simp only [qq]
  refine wpAnyH_done (by kernel_rfl) ?_ _
  go_wp2_with fail
  go_roundw
  case rel => exact ⟨x + 1 + 1, r5, p5, X5, c5, by omega, by have := NB.out; omega, by go_num, by
   rw [← HN.out, show q + 5 - (x + 1) = (q + 5 - (x + 1 + 1)) + 1 by have := NB.out; omega]
   rw [need7_step LDX.out.1 (by omega) LDX.out.2.2 LDX.out.2.1, E5.out]
   rfl, by rw [E5.out]; exact (hold_keep _ _ _).trans KP.out, N5.out⟩
  case measure => have := NB.out; simp [intOf]; omega
 have u3 : decide ((n0 : Int) ≤ (q : Int) + 4) = false := decide_eq_false hb
 have NB := hid (show ¬ (n0 : Int) ≤ r4.dk ∨ q + 5 - n0 = 0 by omega)
 clear hb
 have NE := hid (show need7 mf 5 ((q : Nat) : Int) r = r4 from by
  rw [← HN.out]
  rcases NB.out with h | h
  ·exact need7_stop (fun k => h k.2.2)
  rw [h]; rfl)
 go_wp2_with fail
 go_quiet (fail)
 go_wp2_with fail
 first | refine bodyPost_end (results_none rfl _ _ _) rfl ?_ | refine bodyPost_ret (results_none rfl _ _ _) rfl ?_
 rw [NE.out]
 exact ⟨⟨_, rfl⟩, (ST.out.ext HG.out (Go.below_drewN (Below.refl _ _) _)).post⟩
end Go.Proofs.YtffklmlljekceaaGreat
