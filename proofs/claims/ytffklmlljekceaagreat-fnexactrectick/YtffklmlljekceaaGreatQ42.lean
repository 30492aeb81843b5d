import Derived.Test.YtffklmlljekceaaGreatQ41
namespace Go.Proofs.YtffklmlljekceaaGreat
open Go.ChangeShapes Go.WideShapes Go.ChangeAt Go.RowKit next
set_option linter.unusedSimpArgs false
set_option linter.unusedVariables false
set_option maxHeartbeats 16000000
set_option maxRecDepth 20000
theorem nextB_nn (a n o : Int) : 0 ≤ nextB a n o := by
 unfold nextB
 split
 ·rename_i h
  simp only [askB, Bool.and_eq_true, inB_iff] at h
  obtain ⟨h1, h2, h3⟩ := h
  have hq : 0 ≤ a.tdiv o * o := Int.mul_nonneg (Int.tdiv_nonneg h3.1 (by omega)) (by omega)
  split
  ·omega
  unfold nextN; split <;> omega
 omega
structure HbS (B g pb : Nat) (w : World) (col : Nat → Nat) (y : Rc) (m' : MsgH) (p1 : RcP) (X1 : RcX) (c1 : Nat → Nat) (wr : World) : Prop where
 k : Blk wr g (rcV y p1) 41
 kp : Blk wr pb #[.pointer (some ⟨g, 0, none⟩)] 74
 km : Blk wr w.heap.size (msgV m' (.slice none 0 0)) 45
 has : RcHas B wr y p1 X1 c1
 cg : 8 < c1 g
 cp : 8 < c1 pb
 cm : 8 < c1 w.heap.size
 bel : Below B w wr
 oth : ∀ b, b < w.heap.size → b ≠ g → 8 < col b → wr.heap[b]? = w.heap[b]? ∧ 8 < c1 b
 ne : pb ≠ g
 lg : g < w.heap.size
 lp : pb < w.heap.size
theorem HbS.ext {B g pb : Nat} {w : World} {col : Nat → Nat} {y : Rc} {m' : MsgH} {p1 : RcP} {X1 : RcX} {c1 : Nat → Nat} {wr : World} {w2 : World} (h : HbS B g pb w col y m' p1 X1 c1 wr) (hB : B ≤ wr.heap.size) (hb : Below wr.heap.size wr w2) : HbS B g pb w col y m' p1 X1 c1 w2 :=
 ⟨h.k.ext hb, h.kp.ext hb, h.km.ext hb, h.has.ext hb, h.cg, h.cp, h.cm, h.bel.trans (hb.mono hB), fun b hlt hne h8 => ⟨(hb.block b (Nat.lt_of_lt_of_le hlt h.bel.size)).trans (h.oth b hlt hne h8).1, (h.oth b hlt hne h8).2⟩, h.ne, h.lg, h.lp⟩
theorem HbS.next {B g pb : Nat} {w : World} {col : Nat → Nat} {y : Rc} {m' : MsgH} {p1 : RcP} {X1 : RcX} {c1 : Nat → Nat} {wr : World} {y2 : Rc} {w2 : World} (h : HbS B g pb w col y m' p1 X1 c1 wr) (gp : GPost B g wr c1 y2 w2) : ∃ p2 X2 c2, HbS B g pb w col y2 m' p2 X2 c2 w2 := by
 obtain ⟨p2, X2, c2, k, has, hc, hb, ot⟩ := gp
 have h1 := h.lg
 refine ⟨p2, X2, c2, k, (ot _ h.kp.lt h.ne h.cp).1.trans h.kp, (ot _ h.km.lt (by omega) h.cm).1.trans h.km, has, hc, (ot _ h.kp.lt h.ne h.cp).2, (ot _ h.km.lt (by omega) h.cm).2, h.bel.trans hb, fun b hlt hne h8 => ?_, h.ne, h.lg, h.lp⟩
 obtain ⟨q1, q2⟩ := h.oth b hlt hne h8
 obtain ⟨q3, q4⟩ := ot b (Nat.lt_of_lt_of_le hlt h.bel.size) hne q2
 exact ⟨q3.trans q1, q4⟩
theorem HbS.put {B g pb : Nat} {w : World} {col : Nat → Nat} {y : Rc} {m' : MsgH} {p1 : RcP} {X1 : RcX} {c1 : Nat → Nat} {wr : World} (h : HbS B g pb w col y m' p1 X1 c1 wr) (hB : B ≤ w.heap.size) (t : Int) : HbS B g pb w col y { m' with t := t } p1 X1 c1 (wr.setCell ⟨w.heap.size, 2, none⟩ (.int .i64 t)) := by
 have ot : ∀ b, b ≠ w.heap.size → (wr.setCell ⟨w.heap.size, 2, none⟩ (.int .i64 t)).heap[b]? = wr.heap[b]? := fun b hb => heap_setCell_other _ ⟨w.heap.size, 2, none⟩ b _ hb
 have h1 := h.lg
 have h2 := h.lp
 refine ⟨(ot _ (by omega)).trans h.k, (ot _ (by omega)).trans h.kp, ?_, h.has.setCell (q := ⟨w.heap.size, 2, none⟩) h.cm _, h.cg, h.cp, h.cm, below_set h.bel hB _, fun b hlt hne h8 => ⟨(ot b (by omega)).trans (h.oth b hlt hne h8).1, (h.oth b hlt hne h8).2⟩, h.ne, h.lg, h.lp⟩
 have := h.km.set (o := 2) (.int .i64 t)
 simpa using this
theorem implToHold (B g pb : Nat) (r : Rc) (p : RcP) (X : RcX) (col : Nat → Nat) (m : MsgH) (w : World) (hg : B ≤ g) (hk : Blk w g (rcV r p) 41) (hc : 8 < col g) (hp : Blk w pb #[.pointer (some ⟨g, 0, none⟩)] 74) (hpc : 8 < col pb) (hpg : pb ≠ g) (hx : m.x.size ≤ maxLen) (h0 : 0 ≤ r.of_) (h5 : r.of_ ≤ 5) (h : RcHas B w r p X col) :
  Calls Tryz.prog 146 #[.pointer (some ⟨g, 0, none⟩), .agg (msgV m (.slice none 0 0)), (.func (.func 133) #[] #[.pointer (some ⟨pb, 0, none⟩)])] w fun e w' => (∃ u, e = .returned u) ∧ GPost B g w col (holdAll r (othP r.num m r.of_.toNat)) w' := by
 have HX := hid hx
 have HG := hid hg
 have LT := hid (show B ≤ w.heap.size from Nat.le_trans hg (Nat.le_of_lt hk.lt))
 obtain ⟨N, hN⟩ : ∃ N : Nat, r.of_ = (N : Int) := ⟨r.of_.toNat, by omega⟩
 have HN := hid hN
 have hN5 : N ≤ 5 := by omega
 rw [show r.of_.toNat = N by omega]
 obtain ⟨V, hV⟩ : ∃ V, V = w.alloc (.cells (msgV { m with t := 1 } (.slice none 0 0)) 45) := ⟨_, rfl⟩
 have S0 := hid (show HbS B g pb w col r { m with t := 1 } p X (colF w.heap.size col) V by
  have hb : Below w.heap.size w V := by rw [hV]; exact ext_alloc (Below.refl _ _) _
  exact ⟨hk.ext hb, hp.ext hb, by rw [hV]; exact Blk.new _ _ _, h.fresh.ext hb, by rw [colF_old hk.lt]; exact hc, by rw [colF_old hp.lt]; exact hpc, by rw [colF_new (Nat.le_refl _)]; omega, hb.mono LT.out, fun b hlt _ h8 => ⟨hb.block b hlt, by rw [colF_old hlt]; exact h8⟩, hpg, hk.lt, hp.lt⟩)
 clear h h0 h5 hN hx hg hk hc hp hpc hpg
 go_enter Tryz.func146, Tryz.ntmps146
 go_wp2_with fail
 rw [← hV]
 clear hV
 go_loopw [] (fun wr => ∃ (k : Nat) (p1 : RcP) (X1 : RcX) (c1 : Nat → Nat), k ≤ N ∧ HbS B g pb w col (holdAll r (othP r.num m k)) { m with t := (k : Int) + 1 } p1 X1 c1 wr) (fun wr => (N + 1) - toL wr w.heap.size)
 case atStart => exact ⟨0, p, X, _, Nat.zero_le _, S0.out⟩
 obtain ⟨k, p1, X1, c1, hk, hss⟩ := hrel
 obtain ⟨y, hy⟩ : ∃ y, y = holdAll r (othP r.num m k) := ⟨_, rfl⟩
 rw [← hy] at hss
 have SS := hid hss
 have EY := hid hy
 have YF := hid (show y.num = r.num ∧ y.of_ = (N : Int) by obtain ⟨hl, e, _⟩ := holdAll_like (othP r.num m k) r; rw [hy, e]; exact ⟨rfl, HN.out⟩)
 have ML := hid (show toL wr w.heap.size = k + 1 by rw [toL_at hss.km]; show ((k : Int) + 1).toNat = k + 1; omega)
 have WB := hid (show B ≤ wr.heap.size from Nat.le_trans LT.out hss.bel.size)
 clear hss S0 hy
 have cM := SS.out.km.cell
 have cK := SS.out.k.cell
 have hof := YF.out.2
 by_cases hlt : k < N
 ·have u0 : decide ((k : Int) + 1 ≤ (N : Int)) = true := decide_eq_true (by omega)
  have e3 : IntKind.i64.wrap ((k : Int) + 1 + 1) = (k : Int) + 1 + 1 := by go_arith
  by_cases hnum : (k : Int) + 1 = y.num
  ·have u1 : ((k : Int) + 1 == y.num) = true := by rw [hnum]; exact beq_self_eq_true _
   have NU := hid (hnum.trans YF.out.1)
   clear hnum
   go_wp2_with fail
   go_quiet (fail)
   obtain ⟨V2, hV2⟩ : ∃ u, u = wr.drewN nq := ⟨_, rfl⟩
   have S2 := hid (show HbS B g pb w col y { m with t := (k : Int) + 1 } p1 X1 c1 V2 by rw [hV2]; exact SS.out.ext WB.out (ext_drewN _ _))
   have W2 := hid (show B ≤ V2.heap.size by rw [hV2]; exact WB.out)
   rw [← hV2]
   clear hV2 cM cK nq
   have cM := S2.out.km.cell
   have cK := S2.out.k.cell
   go_wp2_with fail
   go_quiet (fail)
   obtain ⟨V3, hV3⟩ : ∃ u, u = V2.drewN nq := ⟨_, rfl⟩
   have S3 := hid (show HbS B g pb w col y { m with t := (k : Int) + 1 } p1 X1 c1 V3 by rw [hV3]; exact S2.out.ext W2.out (ext_drewN _ _))
   rw [← hV3]
   clear hV3 cM cK nq
   have cM := S3.out.km.cell
   have fM := S3.out.km.free
   have cK := S3.out.k.cell
   go_wp2_with fail
   go_roundw
   case rel => exact ⟨k + 1, p1, X1, c1, by omega, by rw [othP_same NU.out, ← EY.out]; exact S3.out.put LT.out ((k : Int) + 1 + 1)⟩
   case measure => rw [toL_at (S3.out.put LT.out ((k : Int) + 1 + 1)).km, ML.out]; show N + 1 - ((k : Int) + 1 + 1).toNat < N + 1 - (k + 1); omega
  have u1 : ((k : Int) + 1 == y.num) = false := beq_false_of_ne hnum
  have NU := hid (show ¬ (k : Int) + 1 = r.num by rw [← YF.out.1]; exact hnum)
  clear hnum
  go_wp2_with fail
  go_quiet (fail)
  obtain ⟨V2, hV2⟩ : ∃ u, u = wr.drewN nq := ⟨_, rfl⟩
  have S2 := hid (show HbS B g pb w col y { m with t := (k : Int) + 1 } p1 X1 c1 V2 by rw [hV2]; exact SS.out.ext WB.out (ext_drewN _ _))
  have W2 := hid (show B ≤ V2.heap.size by rw [hV2]; exact WB.out)
  rw [← hV2]
  clear hV2 cM cK nq
  have cM := S2.out.km.cell
  have cK := S2.out.k.cell
  go_wp2_with fail
  go_quiet (fail)
  obtain ⟨V3, hV3⟩ : ∃ u, u = V2.drewN nq := ⟨_, rfl⟩
  have S3 := hid (show HbS B g pb w col y { m with t := (k : Int) + 1 } p1 X1 c1 V3 by rw [hV3]; exact S2.out.ext W2.out (ext_drewN _ _))
  rw [← hV3]
  clear hV3 cM cK nq S2
  have kM := S3.out.km
  go_wp2_with ((with_reducible refine wpList_load_m8 w.heap.size (msgV { m with t := (k : Int) + 1 } (.slice none 0 0)) rfl ?_ ?_ ?_); (· rfl); (· exact kM))
  clear kM
  refine (implHold1 B g pb y p1 X1 c1 { m with t := (k : Int) + 1 } none [] 0 V3 HG.out S3.out.k S3.out.cg S3.out.kp S3.out.cp S3.out.ne S3.out.has (rowC_nil0 _ _ _ _ _ _) (fun q hq z z' _ hz' => by simp at hz') HX.out (fun i s hs => by simp at hs)).mono ?_
  rintro e z ⟨⟨u, rfl⟩, gp⟩
  obtain ⟨p4, X4, c4, ts4⟩ := S3.out.next gp
  have S4 := hid (show HbS B g pb w col (holdAll r (othP r.num m (k + 1))) { m with t := (k : Int) + 1 } p4 X4 c4 z by rw [othP_more NU.out, holdAll_snoc, ← EY.out]; exact ts4)
  clear ts4 gp
  have cM := S4.out.km.cell
  have fM := S4.out.km.free
  go_wp2_with fail
  go_roundw
  case rel => exact ⟨k + 1, p4, X4, c4, by omega, by rw [show (((k + 1 : Nat) : Int)) = (k : Int) + 1 by omega]; exact S4.out.put LT.out ((k : Int) + 1 + 1)⟩
  case measure => rw [toL_at (S4.out.put LT.out ((k : Int) + 1 + 1)).km, ML.out]; show N + 1 - ((k : Int) + 1 + 1).toNat < N + 1 - (k + 1); omega
 have u0 : decide ((k : Int) + 1 ≤ (N : Int)) = false := decide_eq_false (by omega)
 have hkN : k = N := by omega
 subst hkN
 go_wp2_with fail
 go_quiet (fail)
 have SE := hid (SS.out.ext WB.out (ext_drewN _ nq))
 go_wp2_with fail
 first | refine bodyPost_end (results_none rfl _ _ _) rfl ?_ | refine bodyPost_ret (results_none rfl _ _ _) rfl ?_
 rw [← EY.out]
 exact ⟨⟨_, rfl⟩, p1, X1, c1, SE.out.k, SE.out.has, SE.out.cg, SE.out.bel, SE.out.oth⟩
theorem implTry (B g tb : Nat) (x : Rc) (p : RcP) (X : RcX) (c : Nat → Nat) (a : Option Addr) (H : List Mp) (n : Nat) (v : World) (h : IKS B g tb x p X c a H n v) (ok : T2Ok x) :
  Calls Tryz.prog 124 #[.pointer (some ⟨tb, 0, none⟩)] v fun e v' => (∃ u, e = .returned u) ∧ PPost B g tb v c a (tryR x) H v' := by
 have S0 := hid h
 have OK := hid ok
 have cT := h.t.cell
 have cK := h.k.cell
 have e1 : IntKind.i64.wrap (3 * x.num) = 3 * x.num := by have := ok.num; go_arith
 have e2 : IntKind.i64.wrap (4 + 3 * x.num) = 4 + 3 * x.num := by have := ok.num; go_arith
 clear h ok
 by_cases hh : 4 + 3 * x.num < x.heard
 ·have u1 : decide (x.heard ≤ 4 + 3 * x.num) = false := decide_eq_false (by omega)
  have HH := hid hh
  clear hh
  go_enter Tryz.func124, Tryz.ntmps124
  go_wp2_with fail
  go_quiet (fail)
  obtain ⟨V1, hV1⟩ : ∃ u, u = v.drewN nq := ⟨_, rfl⟩
  have E1 := hid (show Below v.heap.size v V1 by rw [hV1]; exact ext_drewN _ _)
  have S1 := hid (S0.out.ext E1.out)
  rw [← hV1]
  clear hV1 cT cK nq e1 e2
  go_wp2_with fail
  clear u1
  refine (implQuiet B g x p X c V1 S1.out.bg S1.out.k S1.out.cg S1.out.has).mono ?_
  rintro e w2 ⟨⟨u, rfl⟩, gp⟩
  obtain ⟨p2, X2, c2, a2, n2, i2, b2, o2⟩ := S1.out.turn gp
  obtain ⟨q1, q2, q3⟩ := i2.put { calmR x with heard := 0 } 17 (.int .i64 0) rfl (i2.has.like rfl rfl rfl rfl rfl rfl rfl)
  have PP3 := hid (show PPost B g tb V1 c a { calmR x with heard := 0 } H (w2.setCell ⟨g, 17, none⟩ (.int .i64 0)) from PPost.chain b2 o2 ⟨p2, X2, c2, a2, n2, q1, q2, q3⟩)
  have cK := i2.k.cell
  have fK := i2.k.free
  clear gp b2 o2 i2 q2 q3
  obtain ⟨W3, hW3⟩ : ∃ u, u = w2.setCell ⟨g, 17, none⟩ (.int .i64 0) := ⟨_, rfl⟩
  rw [← hW3] at PP3 q1
  have cK3 := q1.k.cell
  rw [hW3] at cK3
  clear q1
  go_wp2_with fail
  rw [← hW3]
  rw [← hW3] at cK3
  clear hW3 cK fK
  obtain ⟨b, hb⟩ : ∃ b, b = nextB x.dp x.num x.of_ := ⟨_, rfl⟩
  have CN := fun w => implNext x.dp x.num x.of_ w
  rw [← hb] at CN
  have EB := hid hb
  have BN := hid (show 0 ≤ b by rw [hb]; exact nextB_nn _ _ _)
  have CN2 := hid CN
  clear hb CN
  go_quiet (first | (go_at_call 148; exact Calls.quiet_of_same (CN2.out _)))
  obtain ⟨V4, hV4⟩ : ∃ u, u = W3.drewN nq := ⟨_, rfl⟩
  have E4 := hid (show Below W3.heap.size W3 V4 by rw [hV4]; exact ext_drewN _ _)
  rw [← hV4]
  clear hV4 cK3 nq
  obtain ⟨p3, X3, c3, a3, n3, i3, b3, o3⟩ := PP3.out
  have S4 := hid (i3.ext E4.out)
  have B4 := hid (b3.trans (E4.out.mono i3.lt))
  have O4 := hid (show OthT g tb V1 c a V4 c3 a3 from fun i hlt h8 h1 h2 hy => by
   obtain ⟨q1, q2, q3⟩ := o3 i hlt h8 h1 h2 hy
   exact ⟨(E4.out.block i (Nat.lt_of_lt_of_le hlt b3.size)).trans q1, q2, q3⟩)
  clear i3 b3 o3 PP3
  have cK := S4.out.k.cell
  have fK := S4.out.k.free
  by_cases hb0 : b = 0
  ·have u2 : (b == 0) = true := by rw [hb0]; rfl
   have FIN := hid (show tryR x = { calmR x with heard := 0 } by unfold tryR; rw [if_pos HH.out, ← EB.out, if_neg (by omega)])
   clear hb0
   go_wp2_with fail
   first | refine bodyPost_end (results_none rfl _ _ _) rfl ?_ | refine bodyPost_ret (results_none rfl _ _ _) rfl ?_
   rw [FIN.out]
   exact ⟨⟨_, rfl⟩, (show PPost B g tb V1 c a { calmR x with heard := 0 } H V4 from ⟨p3, X3, c3, a3, n3, S4.out, B4.out, O4.out⟩).ext E1.out S0.out.lt⟩
  have u2 : (b == 0) = false := beq_false_of_ne hb0
  have FIN := hid (show tryR x = holdAll { calmR x with heard := 0, dp := b, ball := b, tr := true } (othP x.num (prepM b) x.of_.toNat) by unfold tryR; rw [if_pos HH.out, ← EB.out, if_pos (by have := BN.out; omega)])
  clear hb0
  obtain ⟨q1, q2, q3⟩ := S4.out.put { calmR x with heard := 0, dp := b } 6 (.int .i64 b) rfl (S4.out.has.like rfl rfl rfl rfl rfl rfl rfl)
  obtain ⟨r1, r2, r3⟩ := q1.put { calmR x with heard := 0, dp := b, ball := b } 13 (.int .i64 b) rfl (q1.has.like rfl rfl rfl rfl rfl rfl rfl)
  obtain ⟨t1, t2, t3⟩ := r1.put { calmR x with heard := 0, dp := b, ball := b, tr := true } 12 (.bool true) rfl (r1.has.like rfl rfl rfl rfl rfl rfl rfl)
  obtain ⟨W5, hW5⟩ : ∃ u, u = ((V4.setCell ⟨g, 6, none⟩ (.int .i64 b)).setCell ⟨g, 13, none⟩ (.int .i64 b)).setCell ⟨g, 12, none⟩ (.bool true) := ⟨_, rfl⟩
  rw [← hW5] at t1 t2 t3
  obtain ⟨T, hT⟩ : ∃ y, y = { calmR x with heard := 0, dp := b, ball := b, tr := true } := ⟨_, rfl⟩
  have FT := hid (show T.num = x.num ∧ T.of_ = x.of_ by rw [hT]; exact ⟨rfl, rfl⟩)
  rw [← hT] at t1 FIN
  have S5 := hid t1.fresh
  have B5 := hid (B4.out.trans (q2.trans (r2.trans t2)))
  have O5 := hid (O4.out.trans (q3.trans (r3.trans t3 r2.size) q2.size) B4.out.size)
  have L5 := hid t1.lt
  clear q1 q2 q3 r1 r2 r3 t1 t2 t3 hT
  go_wp2_with (first | ((with_reducible refine wpList_build_to (ty := 45) (msgV (prepM b) (.slice none 0 0)) ?_ ?_); (· kernel_rfl)) | (go_at_call 100; refine (holdBehind_any g _).mono ?_; rintro e w6 ⟨rfl, hw6⟩))
  have HZ5 := hid (show W5.heap.size = V4.heap.size by rw [hW5]; simp)
  rw [← hW5] at hw6 ⊢
  rw [← hw6, ← HZ5.out]
  clear hW5 cK fK
  have E6 := hid (show Below W5.heap.size W5 w6 by rw [hw6]; exact ext_alloc (Below.refl _ _) _)
  have KP := hid (show Blk w6 W5.heap.size #[.pointer (some ⟨g, 0, none⟩)] 74 by rw [hw6]; exact Blk.new _ _ _)
  clear hw6
  have S6 := hid (S5.out.ext E6.out)
  refine (implToHold B g W5.heap.size T p3 X3 (colF W5.heap.size c3) (prepM b) w6 S6.out.bg S6.out.k S6.out.cg KP.out (by rw [colF_new (Nat.le_refl _)]; omega) (by have := S5.out.k.lt; omega) (Nat.zero_le _) (by rw [FT.out.2]; have := OK.out.of_; omega) (by rw [FT.out.2]; exact OK.out.of_.2) S6.out.has).mono ?_
  rw [FT.out.1, FT.out.2]
  obtain ⟨T9, hT9⟩ : ∃ y, y = holdAll T (othP x.num (prepM b) x.of_.toNat) := ⟨_, rfl⟩
  rw [← hT9] at FIN ⊢
  clear hT9
  rintro e w7 ⟨⟨u, rfl⟩, gp⟩
  have PP := hid (((S6.out.turn gp).from E6.out L5.out).chain B5.out O5.out)
  clear gp
  go_wp2_with fail
  first | refine bodyPost_end (results_none rfl _ _ _) rfl ?_ | refine bodyPost_ret (results_none rfl _ _ _) rfl ?_
  rw [FIN.out]
  exact ⟨⟨_, rfl⟩, PP.out.ext E1.out S0.out.lt⟩
 have u1 : decide (x.heard ≤ 4 + 3 * x.num) = true := decide_eq_true (by omega)
 have FIN := hid (show tryR x = x by unfold tryR; rw [if_neg hh])
 clear hh
 go_enter Tryz.func124, Tryz.ntmps124
 go_wp2_with fail
 go_quiet (fail)
 go_wp2_with fail
 first | refine bodyPost_end (results_none rfl _ _ _) rfl ?_ | refine bodyPost_ret (results_none rfl _ _ _) rfl ?_
 rw [FIN.out]
 exact ⟨⟨_, rfl⟩, S0.out.stay (ext_drewN _ nq)⟩
end Go.Proofs.YtffklmlljekceaaGreat
