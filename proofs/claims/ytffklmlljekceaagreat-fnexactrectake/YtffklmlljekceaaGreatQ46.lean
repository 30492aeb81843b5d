import Derived.Test.YtffklmlljekceaaGreatQ45
namespace Go.Proofs.YtffklmlljekceaaGreat
open Go.ChangeShapes Go.WideShapes Go.ChangeAt Go.RowKit
set_option linter.unusedSimpArgs false
set_option linter.unusedVariables false
set_option maxHeartbeats 16000000
set_option maxRecDepth 20000
theorem implAccepted (B g pb : Nat) (r : Rc) (p : RcP) (X : RcX) (col : Nat → Nat) (m : MsgH) (mv : Value) (w : World) (hg : B ≤ g) (hk : Blk w g (rcV r p) 41) (hc : 8 < col g) (hp : Blk w pb #[.pointer (some ⟨g, 0, none⟩)] 74) (hpc : 8 < col pb) (hne : pb ≠ g)
  (hd0 : 0 ≤ r.dk) (hd1 : r.dk ≤ r.ds.length) (hS : RcSmall r) (hl : r.acks.length ≤ 1000) (hasc : AscA r.acks) (hal : ∀ (j : Nat) a, r.acks[j]? = some a → a.2.length ≤ 1000 ∧ AscI a.2) (hi : wfI m.i) (hf : wfI m.f) (h : RcHas B w r p X col) :
  Calls Tryz.prog 104 #[.agg (tkV g pb), .agg (msgV m mv)] w fun e w' => (∃ u, e = .returned u) ∧ GPost B g w col (ack4 r m.f m.b m.i) w' := by
 have HG := hid hg
 have HH := hid (show 0 ≤ r.dk ∧ r.dk ≤ r.ds.length ∧ RcSmall r ∧ r.acks.length ≤ 1000 ∧ AscA r.acks ∧ (∀ (j : Nat) a, r.acks[j]? = some a → a.2.length ≤ 1000 ∧ AscI a.2) ∧ wfI m.i ∧ wfI m.f from ⟨hd0, hd1, hS, hl, hasc, hal, hi, hf⟩)
 obtain ⟨V, hV⟩ : ∃ V, V = (w.alloc (.cells (tkV g pb) 121)).alloc (.cells (msgV m mv) 45) := ⟨_, rfl⟩
 have S0 := hid (show TS B g pb w col m mv r p X (colF w.heap.size col) V by rw [hV]; exact TS.start hg hk hc hp hpc hne h)
 clear h hg hk hc hp hpc hne hd0 hd1 hS hl hasc hal hi hf
 have cT := S0.out.kt.cell
 have cM := S0.out.km.cell
 have cK := S0.out.k.cell
 rw [hV] at cT cM cK
 cases ht : r.lead
 ·have FIN := hid (show ack4 r m.f m.b m.i = r by unfold ack4; rw [if_neg (fun q => by rw [ht] at q; exact absurd q.1 (by simp))])
  go_enter Tryz.func104, Tryz.ntmps104
  go_wp2_with fail
  go_quiet (fail)
  go_wp2_with fail
  first | refine bodyPost_end (results_none rfl _ _ _) rfl ?_ | refine bodyPost_ret (results_none rfl _ _ _) rfl ?_
  rw [FIN.out, ← hV]
  exact ⟨⟨_, rfl⟩, (S0.out.ext (v' := V.drewN nq) HG.out (⟨rfl, rfl, rfl, Nat.le_refl _, fun _ _ => rfl⟩)).post⟩
 by_cases hb : r.ball = m.b
 ·have u1 : (r.ball == m.b) = true := by rw [hb]; exact beq_self_eq_true _
  by_cases hi : 0 < m.i
  ·have u2 : decide (0 < m.i) = true := decide_eq_true hi
   have u3 : ¬ (m.i ≤ 0) := by omega
   have FIN := hid (show ack4 r m.f m.b m.i = ackR r m.i m.f by unfold ack4; rw [if_pos ⟨ht, hb.symm, hi⟩])
   clear hb
   go_enter Tryz.func104, Tryz.ntmps104
   go_wp2_with fail
   go_quiet (fail)
   rw [← hV]
   obtain ⟨V1, hV1⟩ : ∃ v, v = V.drewN nq := ⟨_, rfl⟩
   have E1 := hid (show Below V.heap.size V V1 by rw [hV1]; exact ⟨rfl, rfl, rfl, Nat.le_refl _, fun _ _ => rfl⟩)
   have S1 := hid (S0.out.ext HG.out E1.out)
   rw [← hV1]
   clear hV1 cT cM cK nq
   have cT := S1.out.kt.cell
   have cM := S1.out.km.cell
   go_wp2_with fail
   refine (implTook B g r p X _ m.f m.i V1 HG.out S1.out.k S1.out.cg HH.out.1 HH.out.2.1 HH.out.2.2.1 HH.out.2.2.2.1 HH.out.2.2.2.2.1 HH.out.2.2.2.2.2.1 HH.out.2.2.2.2.2.2.1 HH.out.2.2.2.2.2.2.2 S1.out.has).mono ?_
   rintro e z ⟨⟨u, rfl⟩, gp⟩
   have GP := hid (S1.out.out gp)
   clear gp
   go_wp2_with fail
   first | refine bodyPost_end (results_none rfl _ _ _) rfl ?_ | refine bodyPost_ret (results_none rfl _ _ _) rfl ?_
   rw [FIN.out]
   exact ⟨⟨_, rfl⟩, GP.out⟩
  have u2 : decide (0 < m.i) = false := decide_eq_false hi
  have u3 : m.i ≤ 0 := by omega
  have FIN := hid (show ack4 r m.f m.b m.i = r by unfold ack4; rw [if_neg (fun q => hi q.2.2)])
  clear hb
  go_enter Tryz.func104, Tryz.ntmps104
  go_wp2_with fail
  go_quiet (fail)
  go_wp2_with fail
  first | refine bodyPost_end (results_none rfl _ _ _) rfl ?_ | refine bodyPost_ret (results_none rfl _ _ _) rfl ?_
  rw [FIN.out, ← hV]
  exact ⟨⟨_, rfl⟩, (S0.out.ext (v' := V.drewN nq) HG.out (⟨rfl, rfl, rfl, Nat.le_refl _, fun _ _ => rfl⟩)).post⟩
 have u1 : (r.ball == m.b) = false := beq_false_of_ne hb
 have FIN := hid (show ack4 r m.f m.b m.i = r by unfold ack4; rw [if_neg (fun q => hb q.2.1.symm)])
 clear hb
 go_enter Tryz.func104, Tryz.ntmps104
 go_wp2_with fail
 go_quiet (fail)
 go_wp2_with fail
 first | refine bodyPost_end (results_none rfl _ _ _) rfl ?_ | refine bodyPost_ret (results_none rfl _ _ _) rfl ?_
 rw [FIN.out, ← hV]
 exact ⟨⟨_, rfl⟩, (S0.out.ext (v' := V.drewN nq) HG.out (⟨rfl, rfl, rfl, Nat.le_refl _, fun _ _ => rfl⟩)).post⟩
theorem implPromised (B g pb : Nat) (r : Rc) (p : RcP) (X : RcX) (col : Nat → Nat) (m : MsgH) (al : Option Addr) (l : List Sl) (cl : Nat) (w : World) (hg : B ≤ g) (hk : Blk w g (rcV r p) 41) (hc : 8 < col g) (hp : Blk w pb #[.pointer (some ⟨g, 0, none⟩)] 74) (hpc : 8 < col pb) (hne : pb ≠ g)
  (hd0 : 0 ≤ r.dk) (hd1 : r.dk ≤ r.ds.length) (hS : RcSmall r) (hbw : wfI r.ball) (hf : wfI m.f) (hy : r.yes.length ≤ 1000) (hasc : AscI r.yes) (hl : l.length ≤ 1048576) (hcl : l.length ≤ cl ∧ cl ≤ maxLen) (hsl : SlotsAt w al l) (hsa : ∀ x, al = some x → x.block < B) (h : RcHas B w r p X col) :
  Calls Tryz.prog 102 #[.agg (tkV g pb), .agg (msgV m (.slice al l.length cl))] w fun e w' => (∃ u, e = .returned u) ∧ GPost B g w col (prom2 r m.f m.b l) w' := by
 have HG := hid hg
 have HH := hid (show 0 ≤ r.dk ∧ r.dk ≤ r.ds.length ∧ RcSmall r ∧ wfI r.ball ∧ wfI m.f ∧ r.yes.length ≤ 1000 ∧ AscI r.yes ∧ l.length ≤ 1048576 ∧ (l.length ≤ cl ∧ cl ≤ maxLen) ∧ SlotsAt w al l ∧ (∀ x, al = some x → x.block < B) from ⟨hd0, hd1, hS, hbw, hf, hy, hasc, hl, hcl, hsl, hsa⟩)
 obtain ⟨V, hV⟩ : ∃ V, V = (w.alloc (.cells (tkV g pb) 121)).alloc (.cells (msgV m (.slice al l.length cl)) 45) := ⟨_, rfl⟩
 have S0 := hid (show TS B g pb w col m (.slice al l.length cl) r p X (colF w.heap.size col) V by rw [hV]; exact TS.start hg hk hc hp hpc hne h)
 have EX := hid (show Below w.heap.size w V by rw [hV]; exact ext_alloc (ext_alloc (Below.refl _ _) _) _)
 clear h hg hk hc hp hpc hne hd0 hd1 hS hbw hf hy hasc hl hcl hsl hsa
 have cT := S0.out.kt.cell
 have cM := S0.out.km.cell
 have cK := S0.out.k.cell
 rw [hV] at cT cM cK
 cases ht : r.tr
 ·have FIN := hid (show prom2 r m.f m.b l = r by unfold prom2; rw [if_neg (fun q => by rw [ht] at q; exact absurd q.1 (by simp))])
  go_enter Tryz.func102, Tryz.ntmps102
  go_wp2_with fail
  go_quiet (fail)
  go_wp2_with fail
  first | refine bodyPost_end (results_none rfl _ _ _) rfl ?_ | refine bodyPost_ret (results_none rfl _ _ _) rfl ?_
  rw [FIN.out, ← hV]
  exact ⟨⟨_, rfl⟩, (S0.out.ext (v' := V.drewN nq) HG.out (⟨rfl, rfl, rfl, Nat.le_refl _, fun _ _ => rfl⟩)).post⟩
 by_cases hb : r.ball = m.b
 ·have u1 : (r.ball == m.b) = true := by rw [hb]; exact beq_self_eq_true _
  have FIN := hid (show prom2 r m.f m.b l = promR r m.f l by unfold prom2; rw [if_pos ⟨ht, hb.symm⟩])
  clear hb
  go_enter Tryz.func102, Tryz.ntmps102
  go_wp2_with fail
  go_quiet (fail)
  rw [← hV]
  obtain ⟨V1, hV1⟩ : ∃ v, v = V.drewN nq := ⟨_, rfl⟩
  have E1 := hid (show Below V.heap.size V V1 by rw [hV1]; exact ⟨rfl, rfl, rfl, Nat.le_refl _, fun _ _ => rfl⟩)
  have S1 := hid (S0.out.ext HG.out E1.out)
  rw [← hV1]
  clear hV1 cT cM cK nq
  have cT := S1.out.kt.cell
  have cM := S1.out.km.cell
  go_wp2_with fail
  refine (implPromise B g r p X _ m.f al l cl V1 HG.out S1.out.k S1.out.cg HH.out.1 HH.out.2.1 HH.out.2.2.1 HH.out.2.2.2.1 HH.out.2.2.2.2.1 HH.out.2.2.2.2.2.1 HH.out.2.2.2.2.2.2.1 HH.out.2.2.2.2.2.2.2.1 HH.out.2.2.2.2.2.2.2.2.1 ((HH.out.2.2.2.2.2.2.2.2.2.1.ext EX.out).ext E1.out) HH.out.2.2.2.2.2.2.2.2.2.2 S1.out.has).mono ?_
  rintro e z ⟨⟨u, rfl⟩, gp⟩
  have GP := hid (S1.out.out gp)
  clear gp
  go_wp2_with fail
  first | refine bodyPost_end (results_none rfl _ _ _) rfl ?_ | refine bodyPost_ret (results_none rfl _ _ _) rfl ?_
  rw [FIN.out]
  exact ⟨⟨_, rfl⟩, GP.out⟩
 have u1 : (r.ball == m.b) = false := beq_false_of_ne hb
 have FIN := hid (show prom2 r m.f m.b l = r by unfold prom2; rw [if_neg (fun q => hb q.2.symm)])
 clear hb
 go_enter Tryz.func102, Tryz.ntmps102
 go_wp2_with fail
 go_quiet (fail)
 go_wp2_with fail
 first | refine bodyPost_end (results_none rfl _ _ _) rfl ?_ | refine bodyPost_ret (results_none rfl _ _ _) rfl ?_
 rw [FIN.out, ← hV]
 exact ⟨⟨_, rfl⟩, (S0.out.ext (v' := V.drewN nq) HG.out (⟨rfl, rfl, rfl, Nat.le_refl _, fun _ _ => rfl⟩)).post⟩
structure TkS (g : Nat) (c cm : Array Value) (w' : World) : Prop where
 bt : Blk w' g c 121
 bm : Blk w' (g + 1) cm 45
theorem TkS.drew {g : Nat} {c cm : Array Value} {w' : World} (h : TkS g c cm w') : TkS g c cm w'.drew := ⟨h.bt, h.bm⟩
theorem implAccept (B g pb : Nat) (r : Rc) (p : RcP) (X : RcX) (col : Nat → Nat) (m : MsgH) (mv : Value) (w : World) (hg : B ≤ g) (hk : Blk w g (rcV r p) 41) (hc : 8 < col g) (hp : Blk w pb #[.pointer (some ⟨g, 0, none⟩)] 74) (hpc : 8 < col pb) (hne : pb ≠ g) (hS : RcSmall r) (hx : m.x.size ≤ maxLen) (hb : wfI m.b) (hi : 0 ≤ m.i ∧ m.i ≤ 1048576 ∧ 0 ≤ m.b) (h : RcHas B w r p X col) :
  Calls Tryz.prog 103 #[.agg (tkV g pb), .agg (msgV m mv)] w fun e w' => (∃ u, e = .returned u) ∧ GPost B g w col (accept3 r m) w' := by
 have HG := hid hg
 have HH := hid (show RcSmall r ∧ m.x.size ≤ maxLen ∧ wfI m.b ∧ 0 ≤ m.i ∧ m.i ≤ 1048576 ∧ 0 ≤ m.b from ⟨hS, hx, hb, hi⟩)
 clear hS hx hb hi
 obtain ⟨V, hV⟩ : ∃ V, V = (w.alloc (.cells (tkV g pb) 121)).alloc (.cells (msgV m mv) 45) := ⟨_, rfl⟩
 have S0 := hid (show TS B g pb w col m mv r p X (colF w.heap.size col) V by rw [hV]; exact TS.start hg hk hc hp hpc hne h)
 clear h hg hk hc hp hpc hne
 have cT := S0.out.kt.cell
 have cM := S0.out.km.cell
 have cK := S0.out.k.cell
 rw [hV] at cT cM cK
 by_cases g1 : m.b < r.dp
 ·have u1 : decide (m.b < r.dp) = true := decide_eq_true g1
  have FIN := hid (show accept3 r m = holdR r ⟨9, 0, m.f, r.dp, 0, 0, ⟨#[]⟩⟩ [] by unfold accept3; rw [if_pos g1])
  go_enter Tryz.func103, Tryz.ntmps103
  go_wp2_with fail
  go_quiet (fail)
  rw [← hV]
  obtain ⟨V1, hV1⟩ : ∃ v, v = V.drewN nq := ⟨_, rfl⟩
  have S1 := hid (show TS B g pb w col m mv r p X (colF w.heap.size col) V1 by rw [hV1]; exact S0.out.ext HG.out (Go.below_drewN (Below.refl _ _) _))
  rw [← hV1]
  clear hV1 cT cM cK nq
  have cT := S1.out.kt.cell
  have cM := S1.out.km.cell
  have cK := S1.out.k.cell
  go_wp2_with fail
  refine (implSayNo B g pb r p X _ m.f _ HG.out S1.out.k S1.out.cg S1.out.kp S1.out.cp S1.out.ne S1.out.has).mono ?_
  rintro e z ⟨⟨u, rfl⟩, gp⟩
  have GP := hid (S1.out.out gp)
  clear gp
  go_wp2_with fail
  first | refine bodyPost_end (results_none rfl _ _ _) rfl ?_ | refine bodyPost_ret (results_none rfl _ _ _) rfl ?_
  rw [FIN.out]
  exact ⟨⟨_, rfl⟩, GP.out⟩
 have u1 : decide (m.b < r.dp) = false := decide_eq_false g1
 by_cases g2 : m.i < 1
 ·have e2 : m.i = 0 := by have := HH.out.2.2.2; omega
  have u2 : (m.i == 0) = true := by rw [e2]; rfl
  clear e2
  have FIN := hid (show accept3 r m = r by unfold accept3; rw [if_neg g1, if_pos (.inl g2)])
  go_enter Tryz.func103, Tryz.ntmps103
  go_wp2_with fail
  go_quiet (fail)
  rw [← hV]
  obtain ⟨V1, hV1⟩ : ∃ v, v = V.drewN nq := ⟨_, rfl⟩
  have S1 := hid (show TS B g pb w col m mv r p X (colF w.heap.size col) V1 by rw [hV1]; exact S0.out.ext HG.out (Go.below_drewN (Below.refl _ _) _))
  rw [← hV1]
  clear hV1 cT cM cK nq
  have cT := S1.out.kt.cell
  have cM := S1.out.km.cell
  have cK := S1.out.k.cell
  go_wp2_with fail
  go_quiet (fail)
  go_wp2_with fail
  first | refine bodyPost_end (results_none rfl _ _ _) rfl ?_ | refine bodyPost_ret (results_none rfl _ _ _) rfl ?_
  rw [FIN.out]
  exact ⟨⟨_, rfl⟩, (S1.out.ext HG.out (Go.below_drewN (Below.refl _ _) _)).post⟩
 have u2 : (m.i == 0) = false := beq_false_of_ne (by omega)
 by_cases g3 : m.b < 1
 ·have e2 : m.b = 0 := by have := HH.out.2.2.2; omega
  have u3 : (m.b == 0) = true := by rw [e2]; rfl
  clear e2
  have FIN := hid (show accept3 r m = r by unfold accept3; rw [if_neg g1, if_pos (.inr (.inl g3))])
  go_enter Tryz.func103, Tryz.ntmps103
  go_wp2_with fail
  go_quiet (fail)
  rw [← hV]
  obtain ⟨V1, hV1⟩ : ∃ v, v = V.drewN nq := ⟨_, rfl⟩
  have S1 := hid (show TS B g pb w col m mv r p X (colF w.heap.size col) V1 by rw [hV1]; exact S0.out.ext HG.out (Go.below_drewN (Below.refl _ _) _))
  rw [← hV1]
  clear hV1 cT cM cK nq
  have cT := S1.out.kt.cell
  have cM := S1.out.km.cell
  have cK := S1.out.k.cell
  go_wp2_with fail
  go_quiet (fail)
  go_wp2_with fail
  first | refine bodyPost_end (results_none rfl _ _ _) rfl ?_ | refine bodyPost_ret (results_none rfl _ _ _) rfl ?_
  rw [FIN.out]
  exact ⟨⟨_, rfl⟩, (S1.out.ext HG.out (Go.below_drewN (Below.refl _ _) _)).post⟩
 have u3 : (m.b == 0) = false := beq_false_of_ne (by omega)
 by_cases g4 : m.f = r.num
 ·have u4 : (m.f == r.num) = true := by rw [g4]; exact beq_self_eq_true _
  have FIN := hid (show accept3 r m = r by unfold accept3; rw [if_neg g1, if_pos (.inr (.inr g4))])
  clear g4
  go_enter Tryz.func103, Tryz.ntmps103
  go_wp2_with fail
  go_quiet (fail)
  rw [← hV]
  obtain ⟨V1, hV1⟩ : ∃ v, v = V.drewN nq := ⟨_, rfl⟩
  have S1 := hid (show TS B g pb w col m mv r p X (colF w.heap.size col) V1 by rw [hV1]; exact S0.out.ext HG.out (Go.below_drewN (Below.refl _ _) _))
  rw [← hV1]
  clear hV1 cT cM cK nq
  have cT := S1.out.kt.cell
  have cM := S1.out.km.cell
  have cK := S1.out.k.cell
  go_wp2_with fail
  go_quiet (fail)
  go_wp2_with fail
  first | refine bodyPost_end (results_none rfl _ _ _) rfl ?_ | refine bodyPost_ret (results_none rfl _ _ _) rfl ?_
  rw [FIN.out]
  exact ⟨⟨_, rfl⟩, (S1.out.ext HG.out (Go.below_drewN (Below.refl _ _) _)).post⟩
 have u4 : (m.f == r.num) = false := beq_false_of_ne g4
 have FIN := hid (show accept3 r m = holdR (if (followR r m.b).dk < m.i then setR (followR r m.b) m.i.toNat (m.b, m.x) else followR r m.b) ⟨4, 0, m.f, m.b, m.i, 0, ⟨#[]⟩⟩ [] by unfold accept3; rw [if_neg g1, if_neg (fun q => q.elim g2 (fun q => q.elim g3 g4))])
 have ML := hid (show 1 ≤ m.i ∧ m.i ≤ 1048576 by have := HH.out.2.2.2; omega)
 clear g4
 go_enter Tryz.func103, Tryz.ntmps103
 go_wp2_with fail
 go_quiet (fail)
 rw [← hV]
 obtain ⟨V1, hV1⟩ : ∃ v, v = V.drewN nq := ⟨_, rfl⟩
 have S1 := hid (show TS B g pb w col m mv r p X (colF w.heap.size col) V1 by rw [hV1]; exact S0.out.ext HG.out (Go.below_drewN (Below.refl _ _) _))
 rw [← hV1]
 clear hV1 cT cM cK nq
 have cT := S1.out.kt.cell
 have cM := S1.out.km.cell
 have cK := S1.out.k.cell
 go_wp2_with fail
 go_quiet (fail)
 skip
 obtain ⟨V2, hV2⟩ : ∃ v, v = V1.drewN nq := ⟨_, rfl⟩
 have S2 := hid (show TS B g pb w col m mv r p X (colF w.heap.size col) V2 by rw [hV2]; exact S1.out.ext HG.out (Go.below_drewN (Below.refl _ _) _))
 rw [← hV2]
 clear hV2 cT cM cK nq
 have cT := S2.out.kt.cell
 have cM := S2.out.km.cell
 have cK := S2.out.k.cell
 go_wp2_with fail
 refine (implFollow B g r p X _ m.b _ HG.out S2.out.k S2.out.cg S2.out.has).mono ?_
 obtain ⟨r2, hr2⟩ : ∃ x, x = followR r m.b := ⟨_, rfl⟩
 rw [← hr2]
 have ER2 := hid hr2
 clear hr2
 rintro e z2 ⟨⟨u, rfl⟩, gp⟩
 obtain ⟨p2, X2, c2, ts2⟩ := S2.out.next gp
 have S3 := hid ts2
 clear gp ts2 cT cM cK
 have cT := S3.out.kt.cell
 have cM := S3.out.km.cell
 have cK := S3.out.k.cell
 by_cases g5 : r2.dk < m.i
 ·have u5 : decide (r2.dk < m.i) = true := decide_eq_true g5
  obtain ⟨q, hq⟩ : ∃ q : Nat, m.i = ((q + 1 : Nat) : Int) := ⟨m.i.toNat - 1, by have := ML.out; omega⟩
  have QL := hid (show q ≤ 1048576 by have := ML.out; omega)
  have HQ := hid hq
  clear hq
  go_wp2_with fail
  go_quiet (fail)
  skip
  obtain ⟨V4, hV4⟩ : ∃ v, v = z2.drewN nq := ⟨_, rfl⟩
  have S4 := hid (show TS B g pb w col m mv r2 p2 X2 c2 V4 by rw [hV4]; exact S3.out.ext HG.out (Go.below_drewN (Below.refl _ _) _))
  rw [← hV4]
  clear hV4 cT cM cK nq
  have cT := S4.out.kt.cell
  have cM := S4.out.km.cell
  have cK := S4.out.k.cell
  go_wp2_with fail
  have hK0 : TkS w.heap.size (tkV g pb) (msgV m mv) V4 := ⟨S4.out.kt, S4.out.km⟩
  refine wp_region_held_drew (S := TkS w.heap.size (tkV g pb) (msgV m mv)) (by kernel_rfl) hK0.drew (fun hHeld => ?_)
  simp only [qz, Nat.reduceAdd]
  clear hK0 cT cM cK
  refine planH.go [0, 1, 2, 3, 4, 5, 6, 7, 8, 9, 10] ?_
  iterate 11 (apply planH.take (at_lit rfl) (by kernel_rfl) (by rfl) (fun _ _ _ h => h) hHeld; (· intro w9 hSw; have hq := hSw.bt.cell; have hm := hSw.bm.cell; clear hSw; go_simp; try with_reducible rfl); try simp only [qq])
  refine planH.fin ?_
  refine rdH 11 (by kernel_rfl) (at_lit rfl) (fun K hK => ?_)
  go_simp
  rw [HQ.out]
  have S5 := hid (S4.out.ext HG.out (show Below V4.heap.size V4 V4.drew from (Below.refl _ _).drew))
  refine (implPut B g r2 p2 X2 c2 q (m.b, m.x) V4.drew HG.out S5.out.k S5.out.cg QL.out (by rw [ER2.out, followR_ds]; exact HH.out.1.lD) ⟨HH.out.2.1, HH.out.2.2.1⟩ S5.out.has).mono ?_
  obtain ⟨r6, hr6⟩ : ∃ x, x = setR r2 (q + 1) (m.b, m.x) := ⟨_, rfl⟩
  rw [← hr6]
  have FIX := hid (show accept3 r m = holdR r6 ⟨4, 0, m.f, m.b, m.i, 0, ⟨#[]⟩⟩ [] by rw [FIN.out, ← ER2.out, if_pos g5, HQ.out, Int.toNat_natCast, hr6])
  clear hr6
  rintro e z6 ⟨⟨u, rfl⟩, gp⟩
  obtain ⟨p6, X6, c6, ts6⟩ := S5.out.next gp
  have S6 := hid ts6
  clear gp ts6
  go_wp2_with fail
  refine hK.out _ _ ⟨S6.out.kt, S6.out.km⟩ (fun _ => ?_)
  clear hK K hHeld
  try simp only [qq]
  refine wpAnyH_done (by kernel_rfl) ?_ _
  have cT := S6.out.kt.cell
  have cM := S6.out.km.cell
  go_wp2_with ((with_reducible refine wpList_build_to (ty := 45) (msgV ⟨4, 0, m.f, m.b, m.i, 0, ⟨#[]⟩⟩ (.slice none 0 0)) ?_ ?_); (· kernel_rfl))
  refine (implHold1 B g pb r6 p6 X6 c6 ⟨4, 0, m.f, m.b, m.i, 0, ⟨#[]⟩⟩ none [] 0 _ HG.out S6.out.k S6.out.cg S6.out.kp S6.out.cp S6.out.ne S6.out.has (rowC_nil _ _ _ _ _ _) (fun q hq x x' _ hx' => by simp at hx') (Nat.zero_le _) (fun i s hs => by simp at hs)).mono ?_
  obtain ⟨r9, hr9⟩ : ∃ x, x = holdR r6 ⟨4, 0, m.f, m.b, m.i, 0, ⟨#[]⟩⟩ [] := ⟨_, rfl⟩
  rw [← hr9]
  have FI9 := hid (show accept3 r m = r9 by rw [FIX.out, hr9])
  clear hr9
  rintro e z9 ⟨⟨u, rfl⟩, gp⟩
  have GP := hid (S6.out.out gp)
  clear gp
  go_wp2_with fail
  first | refine bodyPost_end (results_none rfl _ _ _) rfl ?_ | refine bodyPost_ret (results_none rfl _ _ _) rfl ?_
  rw [FI9.out]
  exact ⟨⟨_, rfl⟩, GP.out⟩
 have u5 : decide (r2.dk < m.i) = false := decide_eq_false g5
 have FIX := hid (show accept3 r m = holdR r2 ⟨4, 0, m.f, m.b, m.i, 0, ⟨#[]⟩⟩ [] by rw [FIN.out, ← ER2.out, if_neg g5])
 go_wp2_with fail
 go_quiet (fail)
 skip
 obtain ⟨V4, hV4⟩ : ∃ v, v = z2.drewN nq := ⟨_, rfl⟩
 have S4 := hid (show TS B g pb w col m mv r2 p2 X2 c2 V4 by rw [hV4]; exact S3.out.ext HG.out (Go.below_drewN (Below.refl _ _) _))
 rw [← hV4]
 clear hV4 cT cM cK nq
 have cT := S4.out.kt.cell
 have cM := S4.out.km.cell
 have cK := S4.out.k.cell
 go_wp2_with ((with_reducible refine wpList_build_to (ty := 45) (msgV ⟨4, 0, m.f, m.b, m.i, 0, ⟨#[]⟩⟩ (.slice none 0 0)) ?_ ?_); (· kernel_rfl))
 refine (implHold1 B g pb r2 p2 X2 c2 ⟨4, 0, m.f, m.b, m.i, 0, ⟨#[]⟩⟩ none [] 0 _ HG.out S4.out.k S4.out.cg S4.out.kp S4.out.cp S4.out.ne S4.out.has (rowC_nil _ _ _ _ _ _) (fun q hq x x' _ hx' => by simp at hx') (Nat.zero_le _) (fun i s hs => by simp at hs)).mono ?_
 obtain ⟨r9, hr9⟩ : ∃ x, x = holdR r2 ⟨4, 0, m.f, m.b, m.i, 0, ⟨#[]⟩⟩ [] := ⟨_, rfl⟩
 rw [← hr9]
 have FI9 := hid (show accept3 r m = r9 by rw [FIX.out, hr9])
 clear hr9
 rintro e z9 ⟨⟨u, rfl⟩, gp⟩
 have GP := hid (S4.out.out gp)
 clear gp
 go_wp2_with fail
 first | refine bodyPost_end (results_none rfl _ _ _) rfl ?_ | refine bodyPost_ret (results_none rfl _ _ _) rfl ?_
 rw [FI9.out]
 exact ⟨⟨_, rfl⟩, GP.out⟩
end Go.Proofs.YtffklmlljekceaaGreat
