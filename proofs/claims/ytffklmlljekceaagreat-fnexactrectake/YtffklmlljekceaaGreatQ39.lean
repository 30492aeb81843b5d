import Derived.Test.YtffklmlljekceaaGreatQ38
namespace Go.Proofs.YtffklmlljekceaaGreat
open Go.ChangeShapes Go.WideShapes Go.ChangeAt Go.RowKit
set_option linter.unusedSimpArgs false
set_option linter.unusedVariables false
set_option maxHeartbeats 16000000
set_option maxRecDepth 20000
theorem TS.nextW {B g pb : Nat} {w : World} {col : Nat → Nat} {m : MsgH} {mv : Value} {r r' : Rc} {p : RcP} {X : RcX} {c' : Nat → Nat} {v v' : World} (h : TS B g pb w col m mv r p X c' v) (gp : HPost B g v c' p r' v') : ∃ p' X' c'', TS B g pb w col m mv r' p' X' c'' v' ∧ p'.aW = p.aW := by
 obtain ⟨p', X', c'', k, has, hc, hb, ot, hw, _⟩ := gp
 have n1 : w.heap.size ≠ g := by have := h.lg; omega
 have n2 : w.heap.size + 1 ≠ g := by have := h.lg; omega
 refine ⟨p', X', c'', ⟨k, (ot _ h.kp.lt h.ne h.cp).1.trans h.kp, (ot _ h.kt.lt n1 h.ct).1.trans h.kt, (ot _ h.km.lt n2 h.cm).1.trans h.km, has, hc, (ot _ h.kp.lt h.ne h.cp).2, (ot _ h.kt.lt n1 h.ct).2, (ot _ h.km.lt n2 h.cm).2, h.bel.trans hb, fun b hlt hne h8 => ?_, h.ne, h.lg⟩, hw⟩
 obtain ⟨q1, q2⟩ := h.oth b hlt hne h8
 obtain ⟨q3, q4⟩ := ot b (by have := h.km.lt; omega) hne q2
 exact ⟨q3.trans q1, q4⟩
theorem TS.putK {B g pb : Nat} {w : World} {col : Nat → Nat} {m : MsgH} {mv : Value} {r : Rc} {p : RcP} {X : RcX} {c' : Nat → Nat} {v : World} {d : Int} (h : TS B g pb w col m mv (atK r d) p X c' v) (hg : B ≤ g) (d' : Int) : TS B g pb w col m mv (atK r d') p X c' (v.setCell ⟨g, 7, none⟩ (.int .i64 d')) :=
 ⟨by have := h.k.set (o := 7) (.int .i64 d'); simpa using this, h.kp.setCell h.ne _, h.kt.setCell (by have := h.lg; show w.heap.size ≠ g; omega) _, h.km.setCell (by have := h.lg; show w.heap.size + 1 ≠ g; omega) _, (h.has.like (r' := atK r d') rfl rfl rfl rfl rfl rfl rfl).setCell (q := ⟨g, 7, none⟩) h.cg _, h.cg, h.cp, h.ct, h.cm, below_set h.bel hg _, fun b hlt hne h8 => ⟨(heap_setCell_other _ ⟨g, 7, none⟩ b _ hne).trans (h.oth b hlt hne h8).1, (h.oth b hlt hne h8).2⟩, h.ne, h.lg⟩
theorem knT_at {B g pb : Nat} {w : World} {col : Nat → Nat} {m : MsgH} {mv : Value} {r : Rc} {p : RcP} {X : RcX} {c' : Nat → Nat} {v : World} {d : Int} (h : TS B g pb w col m mv (atK r d) p X c' v) : knL v g = d.toNat := by
 unfold knL
 rw [h.k.cell 7]
 rfl
structure TkM (h g : Nat) (c cm : Array Value) (d : Int) (w' : World) : Prop where
 bt : Blk w' h c 121
 bm : Blk w' (h + 1) cm 45
 ck : w'.cell? ⟨g, 7, none⟩ = some (.int .i64 d)
theorem TkM.drew {h g : Nat} {c cm : Array Value} {d : Int} {w' : World} (k : TkM h g c cm d w') : TkM h g c cm d w'.drew := ⟨k.bt, k.bm, k.ck⟩
structure TkR (g h : Nat) (c cm : Array Value) (w' : World) : Prop where
 bg : Blk w' g c 41
 bm : Blk w' h cm 45
theorem TkR.drew {g h : Nat} {c cm : Array Value} {w' : World} (k : TkR g h c cm w') : TkR g h c cm w'.drew := ⟨k.bg, k.bm⟩
theorem isOf_at {l : List Sl} {q : Nat} {b : Int} (h : isOfB l q b = true) : ∃ t, l[q]? = some t ∧ t.1 = b := by
 unfold isOfB at h
 split at h
 ·rename_i s hs; exact ⟨s, hs, by simpa using h⟩
 cases h
theorem upK_no {l : List Sl} {d : Nat} {b n : Int} (h : ¬ isOfB l d b = true) : upK b n (l.drop d) (d : Int) = (d : Int) := by
 cases hd : l.drop d with
 | nil => rfl
 | cons s t =>
  have hs : l[d]? = some s := by
   have := congrArg (fun x => x[0]?) hd
   simpa using this
  unfold upK
  rw [if_neg]
  intro hh
  exact h (by unfold isOfB; rw [hs]; simpa using hh.2)
theorem upK_stop {l : List Sl} {d : Nat} {b n : Int} (h : ¬ (d : Int) < n) : upK b n (l.drop d) (d : Int) = (d : Int) := by
 cases hd : l.drop d with
 | nil => rfl
 | cons s t =>
  unfold upK
  rw [if_neg (fun hh => h hh.1)]
theorem implBeat (B g pb : Nat) (r : Rc) (p : RcP) (X : RcX) (col : Nat → Nat) (m : MsgH) (mv : Value) (w : World) (hg : B ≤ g) (hk : Blk w g (rcV r p) 41) (hc : 8 < col g) (hp : Blk w pb #[.pointer (some ⟨g, 0, none⟩)] 74) (hpc : 8 < col pb) (hne : pb ≠ g) (hb0 : 0 ≤ m.b) (hd0 : 0 ≤ r.dk) (hd1 : r.dk ≤ r.ds.length) (hS : RcSmall r) (h : RcHas B w r p X col) :
  Calls Tryz.prog 105 #[.agg (tkV g pb), .agg (msgV m mv)] w fun e w' => (∃ u, e = .returned u) ∧ GPost B g w col (beat5 r m) w' := by
 have HG := hid hg
 have HH := hid (show 0 ≤ m.b ∧ 0 ≤ r.dk ∧ r.dk ≤ r.ds.length from ⟨hb0, hd0, hd1⟩)
 have HS := hid hS
 have LW := hid hS.lW
 obtain ⟨V, hV⟩ : ∃ V, V = (w.alloc (.cells (tkV g pb) 121)).alloc (.cells (msgV m mv) 45) := ⟨_, rfl⟩
 have S0 := hid (show TS B g pb w col m mv r p X (colF w.heap.size col) V by rw [hV]; exact TS.start hg hk hc hp hpc hne h)
 clear h hg hk hc hp hpc hne hb0 hd0 hd1 hS
 have cT := S0.out.kt.cell
 have cM := S0.out.km.cell
 have cK := S0.out.k.cell
 rw [hV] at cT cM cK
 by_cases g1 : m.b < r.dp
 ·have u1 : decide (m.b < r.dp) = true := decide_eq_true g1
  have FIN := hid (show beat5 r m = holdR r ⟨9, 0, m.f, r.dp, 0, 0, ⟨#[]⟩⟩ [] by unfold beat5; rw [if_pos g1])
  go_enter Tryz.func105, Tryz.ntmps105
  go_wp2_with fail
  go_quiet (fail)
  rw [← hV]
  obtain ⟨V1, hV1⟩ : ∃ v, v = V.drewN nq := ⟨_, rfl⟩
  have S1 := hid (show TS B g pb w col m mv r p X (colF w.heap.size col) V1 by rw [hV1]; exact S0.out.ext HG.out ⟨rfl, rfl, rfl, Nat.le_refl _, fun _ _ => rfl⟩)
  rw [← hV1]
  clear hV1 cT cM cK nq
  have cT := S1.out.kt.cell
  have cM := S1.out.km.cell
  have cK := S1.out.k.cell
  go_wp2_with fail
  refine (implSayNo B g pb r p X _ m.f _ HG.out S1.out.k S1.out.cg S1.out.kp S1.out.cp S1.out.ne S1.out.has).mono ?_
  rintro e z ⟨⟨u, rfl⟩, gp⟩
  have GP := hid (S1.out.out gp)
  clear gp
  go_wp2_with fail
  first | refine bodyPost_end (results_none rfl _ _ _) rfl ?_ | refine bodyPost_ret (results_none rfl _ _ _) rfl ?_
  rw [FIN.out]
  exact ⟨⟨_, rfl⟩, GP.out⟩
 have u1 : decide (m.b < r.dp) = false := decide_eq_false g1
 by_cases g3 : m.b < 1
 ·have e2 : m.b = 0 := by have := HH.out.1; omega
  have u3 : (m.b == 0) = true := by rw [e2]; rfl
  clear e2
  have FIN := hid (show beat5 r m = r by unfold beat5 beatR; rw [if_neg g1, if_pos (.inr g3)])
  go_enter Tryz.func105, Tryz.ntmps105
  go_wp2_with fail
  go_quiet (fail)
  rw [← hV]
  obtain ⟨V1, hV1⟩ : ∃ v, v = V.drewN nq := ⟨_, rfl⟩
  have S1 := hid (show TS B g pb w col m mv r p X (colF w.heap.size col) V1 by rw [hV1]; exact S0.out.ext HG.out ⟨rfl, rfl, rfl, Nat.le_refl _, fun _ _ => rfl⟩)
  rw [← hV1]
  clear hV1 cT cM cK nq
  have cT := S1.out.kt.cell
  have cM := S1.out.km.cell
  have cK := S1.out.k.cell
  go_wp2_with fail
  go_quiet (fail)
  go_wp2_with fail
  first | refine bodyPost_end (results_none rfl _ _ _) rfl ?_ | refine bodyPost_ret (results_none rfl _ _ _) rfl ?_
  rw [FIN.out]
  exact ⟨⟨_, rfl⟩, (S1.out.ext (v' := V1.drewN nq) HG.out ⟨rfl, rfl, rfl, Nat.le_refl _, fun _ _ => rfl⟩).post⟩
 have u3 : (m.b == 0) = false := beq_false_of_ne (by omega)
 by_cases g4 : m.f = r.num
 ·have u4 : (m.f == r.num) = true := by rw [g4]; exact beq_self_eq_true _
  have FIN := hid (show beat5 r m = r by unfold beat5 beatR; rw [if_neg g1, if_pos (.inl g4)])
  clear g4
  go_enter Tryz.func105, Tryz.ntmps105
  go_wp2_with fail
  go_quiet (fail)
  rw [← hV]
  obtain ⟨V1, hV1⟩ : ∃ v, v = V.drewN nq := ⟨_, rfl⟩
  have S1 := hid (show TS B g pb w col m mv r p X (colF w.heap.size col) V1 by rw [hV1]; exact S0.out.ext HG.out ⟨rfl, rfl, rfl, Nat.le_refl _, fun _ _ => rfl⟩)
  rw [← hV1]
  clear hV1 cT cM cK nq
  have cT := S1.out.kt.cell
  have cM := S1.out.km.cell
  have cK := S1.out.k.cell
  go_wp2_with fail
  go_quiet (fail)
  go_wp2_with fail
  first | refine bodyPost_end (results_none rfl _ _ _) rfl ?_ | refine bodyPost_ret (results_none rfl _ _ _) rfl ?_
  rw [FIN.out]
  exact ⟨⟨_, rfl⟩, (S1.out.ext (v' := V1.drewN nq) HG.out ⟨rfl, rfl, rfl, Nat.le_refl _, fun _ _ => rfl⟩).post⟩
 have u4 : (m.f == r.num) = false := beq_false_of_ne g4
 have FIN := hid (show beat5 r m = tellR (needR (beatK (followR r m.b) m) m) m.f r.wish by unfold beat5 beatR; rw [if_neg g1, if_neg (fun h => h.elim g4 g3)])
 clear g4
 go_enter Tryz.func105, Tryz.ntmps105
 go_wp2_with fail
 go_quiet (fail)
 rw [← hV]
 obtain ⟨V1, hV1⟩ : ∃ v, v = V.drewN nq := ⟨_, rfl⟩
 have S1 := hid (show TS B g pb w col m mv r p X (colF w.heap.size col) V1 by rw [hV1]; exact S0.out.ext HG.out ⟨rfl, rfl, rfl, Nat.le_refl _, fun _ _ => rfl⟩)
 rw [← hV1]
 clear hV1 cT cM cK nq
 have cT := S1.out.kt.cell
 have cM := S1.out.km.cell
 have cK := S1.out.k.cell
 go_wp2_with fail
 go_quiet (fail)
 skip
 obtain ⟨V2, hV2⟩ : ∃ v, v = V1.drewN nq := ⟨_, rfl⟩
 have S2 := hid (show TS B g pb w col m mv r p X (colF w.heap.size col) V2 by rw [hV2]; exact S1.out.ext HG.out ⟨rfl, rfl, rfl, Nat.le_refl _, fun _ _ => rfl⟩)
 rw [← hV2]
 clear hV2 cT cM cK nq
 have cT := S2.out.kt.cell
 have cM := S2.out.km.cell
 have cK := S2.out.k.cell
 go_wp2_with fail
 refine (implFollow B g r p X _ m.b _ HG.out S2.out.k S2.out.cg S2.out.has).mono ?_
 obtain ⟨r2, hr2⟩ : ∃ x, x = followR r m.b := ⟨_, rfl⟩
 rw [← hr2]
 have ER2 := hid hr2
 have D2 := hid (show r2.ds = r.ds ∧ r2.dk = r.dk by rw [hr2]; exact ⟨followR_ds _ _, followR_dk _ _⟩)
 have W2 := hid (show r2.wish = r.wish by rw [hr2]; exact followR_wish _ _)
 clear hr2
 rintro e z2 ⟨⟨u, rfl⟩, gp⟩
 obtain ⟨p2, X2, c2, ts2⟩ := S2.out.next gp
 have S3 := hid ts2
 clear gp ts2 cT cM cK
 obtain ⟨d0, hd0⟩ : ∃ d0 : Nat, r2.dk = (d0 : Int) := ⟨r2.dk.toNat, by have := HH.out.2.1; have := D2.out.2; omega⟩
 have HD0 := hid hd0
 have DLE := hid (show d0 ≤ r2.ds.length by have := HH.out.2.2; have := D2.out; rw [D2.out.1]; omega)
 have E2 := hid (show atK r2 (d0 : Int) = r2 by rw [← hd0])
 clear hd0
 go_wp2_with fail
 go_loopw [] (fun wr => ∃ (d : Nat), d ≤ r2.ds.length ∧ upK m.b m.n (r2.ds.drop d) d = upK m.b m.n (r2.ds.drop d0) d0 ∧ TS B g pb w col m mv (atK r2 (d : Int)) p2 X2 c2 wr) (fun wr => r2.ds.length - knL wr g)
 case atStart => exact ⟨d0, DLE.out, rfl, by rw [E2.out]; exact S3.out⟩
 obtain ⟨d, hdl, hup, hss⟩ := hrel
 have SS := hid hss
 have UP := hid hup
 clear hss hup S3
 have sm1 : r2.ds.length ≤ 1048576 := by rw [D2.out.1]; exact HS.out.lD
 have cT := SS.out.kt.cell
 have cM := SS.out.km.cell
 have cK := SS.out.k.cell
 have fK := SS.out.k.free
 have BK0 := hid (show ∀ e : Int, upK m.b m.n (r2.ds.drop d) d = e → beatK r2 m = atK r2 e from fun e he => by
  unfold beatK
  rw [HD0.out, Int.toNat_natCast, ← UP.out, he])
 have e3 : IntKind.i64.wrap ((d : Int) + 1) = (d : Int) + 1 := by go_arith
 by_cases gn : (d : Int) < m.n
 ·have u5 : decide ((d : Int) < m.n) = true := decide_eq_true gn
  have GN := hid gn
  clear gn
  cases gi : isOfB r2.ds d m.b
  ·have BK := hid (show beatK r2 m = atK r2 (d : Int) from BK0.out _ (upK_no (by rw [gi]; simp)))
   have IS := hid gi
   clear gi
   go_wp2_with fail
   have hK0 : TkR g (w.heap.size + 1) (rcV (atK r2 (d : Int)) p2) (msgV m mv) wr := ⟨SS.out.k, SS.out.km⟩
   refine wp_region_held_drew (S := TkR g (w.heap.size + 1) (rcV (atK r2 (d : Int)) p2) (msgV m mv)) (by kernel_rfl) hK0.drew (fun hHeld => ?_)
   simp only [qz, Nat.reduceAdd]
   clear hK0 cT cM cK fK
   refine planH.go [0, 1, 2, 3, 4, 5, 6, 7, 8, 9, 10, 11, 12, 13, 14, 15, 16, 17] ?_
   iterate 18 (apply planH.take (at_lit rfl) (by kernel_rfl) (by rfl) (fun _ _ _ h => h) hHeld; (· intro w9 hSw; have hq := hSw.bg.cell; have hm := hSw.bm.cell; clear hSw; go_simp; try with_reducible rfl); try simp only [qq])
   refine planH.fin ?_
   refine rdH 18 (by kernel_rfl) (at_lit rfl) (fun K hK => ?_)
   go_simp
   have S4 := hid (SS.out.ext HG.out (show Below wr.heap.size wr wr.drew from ⟨rfl, rfl, rfl, Nat.le_refl _, fun _ _ => rfl⟩))
   have CALL := slotIsOf_any r2.dp (d : Int) p2.aD r2.ds r2.ds.length p2.cD d m.b wr.drew rfl sm1 (by omega) S4.out.has.at.hD
   rw [show ((d + 1 : Nat) : Int) = (d : Int) + 1 by omega] at CALL
   refine CALL.mono ?_
   clear CALL
   rintro e z ⟨rfl, hz⟩
   rw [IS.out]
   have S5 := hid (S4.out.ext HG.out hz)
   clear hz
   go_wp2_with fail
   have hHeld2 : TkR g (w.heap.size + 1) (rcV (atK r2 (d : Int)) p2) (msgV m mv) z := ⟨S5.out.k, S5.out.km⟩
   refine hK.out _ _ hHeld2 (fun _ => ?_)
   clear hK K hHeld
   have hHeld := hHeld2
   clear hHeld2
   try simp only [qq]
   refine planH.go [19] ?_
   iterate 1 (apply planH.take (at_lit rfl) (by kernel_rfl) (by rfl) (fun _ _ _ h => h) hHeld; (· intro w9 hSw; have hq := hSw.bg.cell; have hm := hSw.bm.cell; clear hSw; go_simp; try with_reducible rfl); try simp only [qq])
   refine planH.fin ?_
   refine wpAnyH_done (by kernel_rfl) ?_ _
   obtain ⟨v5, hv5⟩ : ∃ v, v = z := ⟨_, rfl⟩
   rw [← hv5]
   have ST := S5
   rw [← hv5] at ST
   clear hv5
   have cT := ST.out.kt.cell
   have cM := ST.out.km.cell
   have cK := ST.out.k.cell
   go_wp2_with fail
   go_quiet (fail)
   skip
   obtain ⟨V7, hV7⟩ : ∃ v, v = v5.drewN nq := ⟨_, rfl⟩
   have S7 := hid (show TS B g pb w col m mv (atK r2 (d : Int)) p2 X2 c2 V7 by rw [hV7]; exact ST.out.ext HG.out ⟨rfl, rfl, rfl, Nat.le_refl _, fun _ _ => rfl⟩)
   rw [← hV7]
   clear hV7 cT cM cK nq
   have cT := S7.out.kt.cell
   have cM := S7.out.km.cell
   have cK := S7.out.k.cell
   go_wp2_with fail
   have hK0 : TkM w.heap.size g (tkV g pb) (msgV m mv) (d : Int) V7 := ⟨S7.out.kt, S7.out.km, S7.out.k.cell 7⟩
   refine wp_region_held_drew (S := TkM w.heap.size g (tkV g pb) (msgV m mv) (d : Int)) (by kernel_rfl) hK0.drew (fun hHeld => ?_)
   simp only [qz, Nat.reduceAdd]
   clear hK0 cT cM cK
   refine planH.go [0, 1, 2, 3, 4, 5, 6, 7, 8, 9, 10, 11] ?_
   iterate 12 (apply planH.take (at_lit rfl) (by kernel_rfl) (by rfl) (fun _ _ _ h => h) hHeld; (· intro w9 hSw; have hq := hSw.bt.cell; have hm := hSw.bm.cell; have hc := hSw.ck; clear hSw; go_simp; try with_reducible rfl); try simp only [qq])
   refine planH.fin ?_
   refine rdH 12 (by kernel_rfl) (at_lit rfl) (fun K hK => ?_)
   go_simp
   have SD := hid (S7.out.ext HG.out (show Below V7.heap.size V7 V7.drew from ⟨rfl, rfl, rfl, Nat.le_refl _, fun _ _ => rfl⟩))
   refine (implHoldW B g pb (atK r2 (d : Int)) p2 X2 c2 ⟨7, 0, m.f, m.b, (d : Int) + 1, 0, ⟨#[]⟩⟩ none [] 0 V7.drew HG.out SD.out.k SD.out.cg SD.out.kp SD.out.cp SD.out.ne SD.out.has (rowC_nil _ _ _ _ _ _) (fun q hq x x' _ hx' => by simp at hx') (Nat.zero_le _) (fun i s hs => by simp at hs)).mono ?_
   obtain ⟨r3, hr3⟩ : ∃ x, x = holdR (atK r2 (d : Int)) ⟨7, 0, m.f, m.b, (d : Int) + 1, 0, ⟨#[]⟩⟩ [] := ⟨_, rfl⟩
   rw [← hr3]
   have ER3 := hid (show needR (beatK r2 m) m = r3 by rw [BK.out, hr3]; unfold needR; rw [if_pos (show (atK r2 (d : Int)).dk < m.n from GN.out)])
   have DK3 := hid (show r3.dk = (d : Int) by rw [hr3]; exact congrArg (fun t => t.1) (hold_keep _ _ _))
   clear hr3
   rintro e z8 ⟨⟨u, rfl⟩, gp⟩
   obtain ⟨p3, X3, c3, ts8⟩ := SD.out.nextW gp
   have S8 := hid ts8.1
   clear gp ts8
   go_wp2_with fail
   refine hK.out _ _ ⟨S8.out.kt, S8.out.km, by rw [S8.out.k.cell 7, ← DK3.out]; rfl⟩ (fun _ => ?_)
   clear hK K hHeld
   try simp only [qq]
   refine wpAnyH_done (by kernel_rfl) ?_ _
   obtain ⟨v8, hv8⟩ : ∃ v, v = z8 := ⟨_, rfl⟩
   rw [← hv8]
   rw [← hv8] at S8
   clear hv8
   have WS := hid (show r3.wish = r.wish by rw [← ER3.out, needR_wish, ← W2.out]; rfl)
   have cT := S8.out.kt.cell
   have cM := S8.out.km.cell
   have cK := S8.out.k.cell
   go_wp2_with fail
   obtain ⟨aW3, hW3⟩ : ∃ a, a = p3.aW := ⟨_, rfl⟩
   have EW := hid hW3
   rw [← hW3]
   have EL := hid (show r3.wish.length = r.wish.length by rw [WS.out])
   rw [EL.out]
   clear hW3 cT cM cK
   go_loopw [93] (fun j wr => ∃ (n : Nat) (r4 : Rc) (p4 : RcP) (X4 : RcX) (c4 : Nat → Nat), n ≤ r.wish.length ∧ j = .int .i64 n ∧ r4 = tellR r3 m.f (r.wish.take n) ∧ p4.aW = aW3 ∧ TS B g pb w col m mv r4 p4 X4 c4 wr) (fun j _ => r.wish.length - (intOf j).toNat)
   case atStart => exact ⟨0, r3, p3, X3, c3, Nat.zero_le _, rfl, rfl, EW.out.symm, S8.out⟩
   obtain ⟨n, r4, p4, X4, c4, hn, rfl, hr4, hp4, hss⟩ := hrel
   have S9 := hid hss
   have ER := hid hr4
   have HP4 := hid hp4
   have W4 := hid (show r4.wish = r.wish by rw [hr4, tellR_wish, WS.out])
   clear hss hr4 hp4 S8
   have cT := S9.out.kt.cell
   have cM := S9.out.km.cell
   have lw := LW.out
   by_cases hnl : n < r.wish.length
   ·obtain ⟨t, ht0⟩ : ∃ t, r4.wish[n]? = some t := ⟨_, List.getElem?_eq_getElem (by rw [W4.out]; exact hnl)⟩
    have HT := hid (show r.wish[n]? = some t by rw [← W4.out]; exact ht0)
    have TG := hid (show t.size ≤ maxLen from S9.out.has.gd.t n t ht0)
    obtain ⟨gW, ew, _, ct, _⟩ := S9.out.has.t.cell (j := n) (u := .string t) (by simp [flatT, ht0])
    rw [HP4.out] at ew
    subst ew
    clear ht0
    have e11 : (0 : Int) ≤ (n : Int) := by omega
    have e12 : (n : Int) < (r.wish.length : Int) := by omega
    go_wp2_with ((with_reducible refine wpList_build_to (ty := 45) (msgV ⟨8, 0, m.f, 0, 0, 0, t⟩ (.slice none 0 0)) ?_ ?_); (· kernel_rfl))
    refine (implHoldW B g pb r4 p4 X4 c4 ⟨8, 0, m.f, 0, 0, 0, t⟩ none [] 0 _ HG.out S9.out.k S9.out.cg S9.out.kp S9.out.cp S9.out.ne S9.out.has (rowC_nil _ _ _ _ _ _) (fun q hq x x' _ hx' => by simp at hx') TG.out (fun i s hs => by simp at hs)).mono ?_
    rintro e z9 ⟨⟨u, rfl⟩, gp⟩
    obtain ⟨p5, X5, c5, ts5, hw5⟩ := S9.out.nextW gp
    have N5 := hid ts5
    have HW5 := hid hw5
    clear gp ts5 hw5 ct cT cM
    go_wp2_with fail
    go_roundw
    case rel => exact ⟨n + 1, _, p5, X5, c5, by omega, by go_num, by rw [List.take_add_one, HT.out]; exact ((tellR_snoc r3 m.f (r.wish.take n) t).trans (by rw [← ER.out])).symm, HW5.out.trans HP4.out, N5.out⟩
    case measure => simp [intOf]; omega
   have e12 : ¬ (n : Int) < (r.wish.length : Int) := by omega
   have FI := hid (show beat5 r m = r4 by rw [FIN.out, ← ER2.out, ER3.out, ER.out, List.take_of_length_le (by omega)])
   go_wp2_with fail
   first | refine bodyPost_end (results_none rfl _ _ _) rfl ?_ | refine bodyPost_ret (results_none rfl _ _ _) rfl ?_
   rw [FI.out]
   exact ⟨⟨_, rfl⟩, S9.out.post⟩
  obtain ⟨t, ht, htb⟩ := isOf_at gi
  have DT := hid (show r2.ds.drop d = t :: r2.ds.drop (d + 1) by
   obtain ⟨h1, h2⟩ := List.getElem?_eq_some_iff.1 ht
   rw [← h2]; exact List.drop_eq_getElem_cons h1)
  have GB := hid htb
  have GLT := (List.getElem?_eq_some_iff.1 ht).1
  have IS := hid gi
  clear gi ht htb
  go_wp2_with fail
  have hK0 : TkR g (w.heap.size + 1) (rcV (atK r2 (d : Int)) p2) (msgV m mv) wr := ⟨SS.out.k, SS.out.km⟩
  refine wp_region_held_drew (S := TkR g (w.heap.size + 1) (rcV (atK r2 (d : Int)) p2) (msgV m mv)) (by kernel_rfl) hK0.drew (fun hHeld => ?_)
  simp only [qz, Nat.reduceAdd]
  clear hK0 cT cM cK fK
  refine planH.go [0, 1, 2, 3, 4, 5, 6, 7, 8, 9, 10, 11, 12, 13, 14, 15, 16, 17] ?_
  iterate 18 (apply planH.take (at_lit rfl) (by kernel_rfl) (by rfl) (fun _ _ _ h => h) hHeld; (· intro w9 hSw; have hq := hSw.bg.cell; have hm := hSw.bm.cell; clear hSw; go_simp; try with_reducible rfl); try simp only [qq])
  refine planH.fin ?_
  refine rdH 18 (by kernel_rfl) (at_lit rfl) (fun K hK => ?_)
  go_simp
  have S4 := hid (SS.out.ext HG.out (show Below wr.heap.size wr wr.drew from ⟨rfl, rfl, rfl, Nat.le_refl _, fun _ _ => rfl⟩))
  have CALL := slotIsOf_any r2.dp (d : Int) p2.aD r2.ds r2.ds.length p2.cD d m.b wr.drew rfl sm1 (by omega) S4.out.has.at.hD
  rw [show ((d + 1 : Nat) : Int) = (d : Int) + 1 by omega] at CALL
  refine CALL.mono ?_
  clear CALL
  rintro e z ⟨rfl, hz⟩
  rw [IS.out]
  have S5 := hid (S4.out.ext HG.out hz)
  clear hz
  go_wp2_with fail
  have hHeld2 : TkR g (w.heap.size + 1) (rcV (atK r2 (d : Int)) p2) (msgV m mv) z := ⟨S5.out.k, S5.out.km⟩
  refine hK.out _ _ hHeld2 (fun _ => ?_)
  clear hK K hHeld
  have hHeld := hHeld2
  clear hHeld2
  try simp only [qq]
  refine planH.go [19] ?_
  iterate 1 (apply planH.take (at_lit rfl) (by kernel_rfl) (by rfl) (fun _ _ _ h => h) hHeld; (· intro w9 hSw; have hq := hSw.bg.cell; have hm := hSw.bm.cell; clear hSw; go_simp; try with_reducible rfl); try simp only [qq])
  refine planH.fin ?_
  refine wpAnyH_done (by kernel_rfl) ?_ _
  have cK := S5.out.k.cell
  have fK := S5.out.k.free
  go_wp2_with fail
  have NX := hid (S5.out.putK HG.out ((d + 1 : Nat) : Int))
  go_roundw
  case rel => exact ⟨d + 1, by omega, by rw [← UP.out, DT.out, upK_step (by have := GN.out; omega) GB.out]; rfl, by have h9 := NX.out; simpa using h9⟩
  case measure =>
   have m1 := knT_at NX.out
   have m2 := knT_at SS.out
   simp at m1
   simp [m1, m2]
   omega
 have u5 : decide ((d : Int) < m.n) = false := decide_eq_false gn
 have GN := hid gn
 have BK := hid (show beatK r2 m = atK r2 (d : Int) from BK0.out _ (upK_stop gn))
 clear gn
 go_wp2_with fail
 go_quiet (fail)
 obtain ⟨v5, hv5⟩ : ∃ v, v = wr.drewN nq := ⟨_, rfl⟩
 have ST := hid (show TS B g pb w col m mv (atK r2 (d : Int)) p2 X2 c2 v5 by rw [hv5]; exact SS.out.ext HG.out ⟨rfl, rfl, rfl, Nat.le_refl _, fun _ _ => rfl⟩)
 rw [← hv5]
 clear hv5 cT cM cK fK nq
 have cT := ST.out.kt.cell
 have cM := ST.out.km.cell
 have cK := ST.out.k.cell
 go_wp2_with fail
 go_quiet (fail)
 skip
 obtain ⟨V7, hV7⟩ : ∃ v, v = v5.drewN nq := ⟨_, rfl⟩
 have S7 := hid (show TS B g pb w col m mv (atK r2 (d : Int)) p2 X2 c2 V7 by rw [hV7]; exact ST.out.ext HG.out ⟨rfl, rfl, rfl, Nat.le_refl _, fun _ _ => rfl⟩)
 rw [← hV7]
 clear hV7 cT cM cK nq
 have cT := S7.out.kt.cell
 have cM := S7.out.km.cell
 have cK := S7.out.k.cell
 skip
 have ER3 := hid (show needR (beatK r2 m) m = atK r2 (d : Int) by rw [BK.out]; unfold needR; rw [if_neg (show ¬ (atK r2 (d : Int)).dk < m.n by have := GN.out; show ¬ (d : Int) < m.n; omega)])
 obtain ⟨r3, hr3⟩ : ∃ r3, r3 = atK r2 (d : Int) := ⟨_, rfl⟩
 have S8 := S7
 rw [← hr3] at S8 ER3
 obtain ⟨p3, hp3⟩ : ∃ p3, p3 = p2 := ⟨_, rfl⟩
 obtain ⟨X3, hX3⟩ : ∃ X3, X3 = X2 := ⟨_, rfl⟩
 obtain ⟨c3, hc3⟩ : ∃ c3, c3 = c2 := ⟨_, rfl⟩
 obtain ⟨v8, hv8⟩ : ∃ v, v = V7 := ⟨_, rfl⟩
 rw [← hp3, ← hX3, ← hc3, ← hv8] at S8
 rw [← hv8]
 clear hr3 hp3 hX3 hc3 hv8 cT cM cK
 have WS := hid (show r3.wish = r.wish by rw [← ER3.out, needR_wish, ← W2.out]; rfl)
 have cT := S8.out.kt.cell
 have cM := S8.out.km.cell
 have cK := S8.out.k.cell
 go_wp2_with fail
 obtain ⟨aW3, hW3⟩ : ∃ a, a = p3.aW := ⟨_, rfl⟩
 have EW := hid hW3
 rw [← hW3]
 have EL := hid (show r3.wish.length = r.wish.length by rw [WS.out])
 rw [EL.out]
 clear hW3 cT cM cK
 go_loopw [93] (fun j wr => ∃ (n : Nat) (r4 : Rc) (p4 : RcP) (X4 : RcX) (c4 : Nat → Nat), n ≤ r.wish.length ∧ j = .int .i64 n ∧ r4 = tellR r3 m.f (r.wish.take n) ∧ p4.aW = aW3 ∧ TS B g pb w col m mv r4 p4 X4 c4 wr) (fun j _ => r.wish.length - (intOf j).toNat)
 case atStart => exact ⟨0, r3, p3, X3, c3, Nat.zero_le _, rfl, rfl, EW.out.symm, S8.out⟩
 obtain ⟨n, r4, p4, X4, c4, hn, rfl, hr4, hp4, hss⟩ := hrel
 have S9 := hid hss
 have ER := hid hr4
 have HP4 := hid hp4
 have W4 := hid (show r4.wish = r.wish by rw [hr4, tellR_wish, WS.out])
 clear hss hr4 hp4 S8
 have cT := S9.out.kt.cell
 have cM := S9.out.km.cell
 have lw := LW.out
 by_cases hnl : n < r.wish.length
 ·obtain ⟨t, ht0⟩ : ∃ t, r4.wish[n]? = some t := ⟨_, List.getElem?_eq_getElem (by rw [W4.out]; exact hnl)⟩
  have HT := hid (show r.wish[n]? = some t by rw [← W4.out]; exact ht0)
  have TG := hid (show t.size ≤ maxLen from S9.out.has.gd.t n t ht0)
  obtain ⟨gW, ew, _, ct, _⟩ := S9.out.has.t.cell (j := n) (u := .string t) (by simp [flatT, ht0])
  rw [HP4.out] at ew
  subst ew
  clear ht0
  have e11 : (0 : Int) ≤ (n : Int) := by omega
  have e12 : (n : Int) < (r.wish.length : Int) := by omega
  go_wp2_with ((with_reducible refine wpList_build_to (ty := 45) (msgV ⟨8, 0, m.f, 0, 0, 0, t⟩ (.slice none 0 0)) ?_ ?_); (· kernel_rfl))
  refine (implHoldW B g pb r4 p4 X4 c4 ⟨8, 0, m.f, 0, 0, 0, t⟩ none [] 0 _ HG.out S9.out.k S9.out.cg S9.out.kp S9.out.cp S9.out.ne S9.out.has (rowC_nil _ _ _ _ _ _) (fun q hq x x' _ hx' => by simp at hx') TG.out (fun i s hs => by simp at hs)).mono ?_
  rintro e z9 ⟨⟨u, rfl⟩, gp⟩
  obtain ⟨p5, X5, c5, ts5, hw5⟩ := S9.out.nextW gp
  have N5 := hid ts5
  have HW5 := hid hw5
  clear gp ts5 hw5 ct cT cM
  go_wp2_with fail
  go_roundw
  case rel => exact ⟨n + 1, _, p5, X5, c5, by omega, by go_num, by rw [List.take_add_one, HT.out]; exact ((tellR_snoc r3 m.f (r.wish.take n) t).trans (by rw [← ER.out])).symm, HW5.out.trans HP4.out, N5.out⟩
  case measure => simp [intOf]; omega
 have e12 : ¬ (n : Int) < (r.wish.length : Int) := by omega
 have FI := hid (show beat5 r m = r4 by rw [FIN.out, ← ER2.out, ER3.out, ER.out, List.take_of_length_le (by omega)])
 go_wp2_with fail
 first | refine bodyPost_end (results_none rfl _ _ _) rfl ?_ | refine bodyPost_ret (results_none rfl _ _ _) rfl ?_
 rw [FI.out]
 exact ⟨⟨_, rfl⟩, S9.out.post⟩
end Go.Proofs.YtffklmlljekceaaGreat
