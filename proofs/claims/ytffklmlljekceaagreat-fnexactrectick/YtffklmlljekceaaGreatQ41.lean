import Derived.Test.YtffklmlljekceaaGreatQ40
namespace Go.Proofs.YtffklmlljekceaaGreat
open Go.ChangeShapes Go.WideShapes Go.ChangeAt Go.RowKit
set_option linter.unusedSimpArgs false
set_option linter.unusedVariables false
set_option maxHeartbeats 16000000
set_option maxRecDepth 20000
theorem IKS.turnS {B g tb : Nat} {x x' : Rc} {p : RcP} {X : RcX} {c : Nat → Nat} {a : Option Addr} {H : List Mp} {n : Nat} {v v' : World} (h : IKS B g tb x p X c a H n v) (gp : SfPost B g v c p x' v') : ∃ p' X' c', IKS B g tb x' p' X' c' a H n v' ∧ Below B v v' ∧ OthT g tb v c a v' c' a ∧ p'.aS = p.aS ∧ p'.cS = p.cS := by
 obtain ⟨p', X', c', k, has, hc, hb, ot, e1, e2⟩ := gp
 exact ⟨p', X', c', ⟨k, (ot _ h.t.lt h.ne h.ct).1.trans h.t, has, hc, (ot _ h.t.lt h.ne h.ct).2, h.out.but h.k (by decide) (by decide) ot, h.bg, h.bt, h.ne⟩, hb, fun b hlt h8 h1 _ hy => ⟨(ot b hlt h1 h8).1, (ot b hlt h1 h8).2, hy⟩, e1, e2⟩
theorem OthT.ext {g tb : Nat} {v v1 v2 : World} {c c1 : Nat → Nat} {a a1 : Option Addr} (h : OthT g tb v c a v1 c1 a1) (hb : Below v1.heap.size v1 v2) (hs : v.heap.size ≤ v1.heap.size) : OthT g tb v c a v2 c1 a1 := fun b hlt h8 h1 h2 hy => by
 obtain ⟨q1, q2, q3⟩ := h b hlt h8 h1 h2 hy
 exact ⟨(hb.block b (by omega)).trans q1, q2, q3⟩
theorem OthT.fresh {g tb : Nat} {v v1 v2 : World} {c c1 : Nat → Nat} {a a1 : Option Addr} (h : OthT g tb v c a v1 c1 a1) (hb : Below v1.heap.size v1 v2) (hs : v.heap.size ≤ v1.heap.size) : OthT g tb v c a v2 (colF v1.heap.size c1) a1 := fun b hlt h8 h1 h2 hy => by
 obtain ⟨q1, q2, q3⟩ := h b hlt h8 h1 h2 hy
 exact ⟨(hb.block b (by omega)).trans q1, by rw [colF_old (by omega)]; exact q2, q3⟩
structure TkN (B g tb : Nat) (v : World) (c : Nat → Nat) (a : Option Addr) (H : List Mp) (n : Nat) (p : RcP) (y : Rc) (p1 : RcP) (X1 : RcX) (c1 : Nat → Nat) (wr : World) : Prop where
 i : IKS B g tb y p1 X1 c1 a H n wr
 eS : p1.aS = p.aS
 eC : p1.cS = p.cS
 bel : Below B v wr
 oth : OthT g tb v c a wr c1 a
theorem implTookItself (B g tb : Nat) (x : Rc) (p : RcP) (X : RcX) (c : Nat → Nat) (a : Option Addr) (H : List Mp) (n : Nat) (v : World) (h : IKS B g tb x p X c a H n v) (ok : T2Ok x) (asc : AscOk 0 x) :
  Calls Tryz.prog 120 #[.pointer (some ⟨tb, 0, none⟩)] v fun e v' => (∃ u, e = .returned u) ∧ PPost B g tb v c a (ackN x x.ss.length) (H) v' := by
 have OK := hid ok
 have ASC := hid asc
 have HSS := hid ok.ss
 have S0 := hid (show TkN B g tb v c a H n p (ackN x 0) p X c v from ⟨h, rfl, rfl, Below.refl _ _, fun b hlt h8 _ _ hy => ⟨rfl, h8, hy⟩⟩)
 have cT := h.t.cell
 have cK := h.k.cell
 have hs60 := ok.ss
 clear h ok asc
 go_enter Tryz.func120, Tryz.ntmps120
 go_wp2_with fail
 clear cT cK
 go_loopw [2, 3, 13] (fun _ _ i wr => ∃ (k : Nat) (p1 : RcP) (X1 : RcX) (c1 : Nat → Nat), k ≤ x.ss.length ∧ i = .int .i64 k ∧ TkN B g tb v c a H n p (ackN x k) p1 X1 c1 wr) (fun _ _ i _ => x.ss.length - (intOf i).toNat)
 case atStart => exact ⟨0, p, X, c, Nat.zero_le _, rfl, S0.out⟩
 obtain ⟨k, p1, X1, c1, hk, rfl, hss⟩ := hrel
 obtain ⟨y, hy⟩ : ∃ y, y = ackN x k := ⟨_, rfl⟩
 rw [← hy] at hss
 have SS := hid hss
 have EY := hid hy
 have YL := hid (show AckLike x y by rw [hy]; exact ackN_like x k)
 have YO := hid (show LeadOk k y by rw [hy]; have := ackN_ok OK.out.lead k (by omega); simpa using this)
 have YA := hid (show AscOk k y by rw [hy]; exact ackN_asc ASC.out k)
 have YS := hid (show y.ss = x.ss ∧ y.ball = x.ball ∧ y.num = x.num by obtain ⟨l, d, e⟩ := YL.out; rw [e]; exact ⟨rfl, rfl, rfl⟩)
 clear hss hy S0
 by_cases hlt : k < x.ss.length
 ·obtain ⟨s, hs0⟩ : ∃ s, y.ss[k]? = some s := ⟨_, List.getElem?_eq_getElem (by rw [YS.out.1]; exact hlt)⟩
  have SG := hid (show x.ss.getD k (0, ⟨#[]⟩) = s by rw [← YS.out.1, List.getD_eq_getElem?_getD, hs0]; rfl)
  obtain ⟨gS, eS, _, c0, _⟩ := SS.out.i.has.s.cell (flat_at y.ss k s hs0).1
  obtain ⟨gS2, eS2, _, d0, _⟩ := SS.out.i.has.s.cell (flat_at y.ss k s hs0).2
  obtain rfl := some_inj_addr eS eS2
  have EPS := hid (eS2.symm.trans SS.out.eS)
  rw [← EPS.out]
  clear hs0 eS eS2
  have e6 : (0 : Int) ≤ (k : Int) := by omega
  have e7 : (k : Int) < (x.ss.length : Int) := by omega
  have e8 : IntKind.i64.wrap ((k : Int) + 1) = (k : Int) + 1 := by go_arith
  obtain ⟨V1, hV1⟩ : ∃ u, u = wr.alloc (.cells #[.int .i64 s.1, .string s.2] 108) := ⟨_, rfl⟩
  have E1 := hid (show Below wr.heap.size wr V1 by rw [hV1]; exact ext_alloc (Below.refl _ _) _)
  have S1 := hid (SS.out.i.fresh.ext E1.out)
  have KB := hid (show Blk V1 wr.heap.size #[.int .i64 s.1, .string s.2] 108 by rw [hV1]; exact Blk.new _ _ _)
  have cB := KB.out.cell
  have cT := S1.out.t.cell
  have cK := S1.out.k.cell
  rw [hV1] at cB cT cK
  by_cases gb : s.1 = y.ball
  ·have u5 : (s.1 == y.ball) = true := by rw [gb]; exact beq_self_eq_true _
   have GB := hid (show (x.ss.getD k (0, ⟨#[]⟩)).1 = x.ball by rw [SG.out, gb, YS.out.2.1])
   clear gb
   go_wp2_with fail
   go_quiet (fail)
   rw [← hV1]
   clear hV1 c0 d0
   obtain ⟨V2, hV2⟩ : ∃ u, u = V1.drewN nq := ⟨_, rfl⟩
   have E2 := hid (show Below V1.heap.size V1 V2 by rw [hV2]; exact ext_drewN _ _)
   have SV2 := hid (S1.out.ext E2.out)
   rw [← hV2]
   clear hV2 cB cT cK nq
   go_wp2_with fail
   have hK0 : TgS g tb (rcV y p1) (tcV g a H.length n) V2 := ⟨SV2.out.k, SV2.out.t⟩
   refine wp_region_last (S := TgS g tb (rcV y p1) (tcV g a H.length n)) 13 (by kernel_rfl) hK0.drew (fun hHeld => ?_)
   simp only [qz, Nat.reduceAdd]
   obtain ⟨V3, hV3⟩ : ∃ u, u = V2.drew := ⟨_, rfl⟩
   have E3 := hid (show Below V2.heap.size V2 V3 by rw [hV3]; exact ext_drew V2)
   have S3 := hid (SV2.out.ext E3.out)
   rw [← hV3] at hHeld ⊢
   clear hV3 hK0
   refine planR.go [0, 1, 2, 3, 4, 5, 6, 7, 8, 9, 10, 11, 12] ?_
   iterate 13 (apply planR.take (at_lit rfl) (by kernel_rfl) (by rfl) (fun _ _ _ h => h) hHeld; (· intro w9 hSw; have hq := hSw.bg.cell; have ht := hSw.bt.cell; clear hSw; go_simp; try with_reducible rfl); try simp only [qq])
   refine planR.fin ?_
   refine wpLast_end (by kernel_rfl) (at_lit rfl) (by kernel_rfl) (fun K hK => ?_)
   go_simp
   refine (implTookS B g y p1 X1 (colF wr.heap.size c1) y.num ((k : Int) + 1) V3 S3.out.bg S3.out.k S3.out.cg YO.out.d0 YO.out.d1 YO.out.sm (by have := YA.out.n; omega) YA.out.a (fun j b hb => ⟨by have := YA.out.m b (List.mem_of_getElem? hb); omega, YA.out.f b (List.mem_of_getElem? hb)⟩) (wf_small (by omega) (by omega)) YO.out.nu S3.out.has).mono ?_
   rintro e w4 ⟨⟨u, rfl⟩, sp⟩
   obtain ⟨p4, X4, c4, i4, b4, o4, es4, ec4⟩ := S3.out.turnS sp
   have E13 := hid (ext_trans (ext_trans E1.out E2.out) E3.out)
   have S4 := hid (show TkN B g tb v c a H n p (ackN x (k + 1)) p4 X4 c4 w4 by
    rw [ackN_more GB.out, ← EY.out, ← YS.out.2.2]
    exact ⟨i4, es4.trans SS.out.eS, ec4.trans SS.out.eC, SS.out.bel.trans ((E13.out.mono SS.out.i.lt).trans b4), (SS.out.oth.fresh E13.out SS.out.bel.size).trans o4 (Nat.le_trans SS.out.bel.size E13.out.size)⟩)
   clear sp i4 b4 o4 es4 ec4
   go_wp2_with fail
   refine hK.out _ _ ?_
   clear hK K hHeld
   go_wp2_with fail
   go_roundw
   case rel => exact ⟨k + 1, p4, X4, c4, by omega, by go_num, S4.out⟩
   case measure => simp [intOf]; omega
  have u5 : (s.1 == y.ball) = false := beq_false_of_ne gb
  have GB := hid (show ¬ (x.ss.getD k (0, ⟨#[]⟩)).1 = x.ball by rw [SG.out, ← YS.out.2.1]; exact gb)
  clear gb
  go_wp2_with fail
  go_quiet (fail)
  rw [← hV1]
  clear hV1 c0 d0
  have E13 := hid (ext_trans E1.out (ext_drewN V1 nq))
  have S4 := hid (show TkN B g tb v c a H n p (ackN x (k + 1)) p1 X1 c1 (V1.drewN nq) by
   rw [ackN_same GB.out, ← EY.out]
   exact ⟨SS.out.i.ext E13.out, SS.out.eS, SS.out.eC, SS.out.bel.trans (E13.out.mono SS.out.i.lt), SS.out.oth.ext E13.out SS.out.bel.size⟩)
  go_wp2_with fail
  go_roundw
  case rel => exact ⟨k + 1, p1, X1, c1, by omega, by go_num, S4.out⟩
  case measure => simp [intOf]; omega
 have hkk : k = x.ss.length := by omega
 subst hkk
 go_wp2_with fail
 first | refine bodyPost_end (results_none rfl _ _ _) rfl ?_ | refine bodyPost_ret (results_none rfl _ _ _) rfl ?_
 rw [← EY.out]
 exact ⟨⟨_, rfl⟩, p1, X1, c1, a, n, SS.out.i, SS.out.bel, SS.out.oth⟩
theorem has1I (s : Sl) (tb : Nat) (t : ByteArray) (w : World) (hb : Blk w tb #[.string t] 9) :
  Calls Tryz.prog 158 #[.agg #[.int .i64 s.1, .string s.2], .pointer (some ⟨tb, 0, none⟩)] w fun e w' => e = .returned (.bool (slotIs t s)) ∧ Below w.heap.size w w' := by
 have hB := hid (show Below w.heap.size w (w.alloc (.cells #[.int .i64 s.1, .string s.2] 108)) from ext_alloc (Below.refl _ _) _)
 have c1 := (hb.alloc (.cells #[.int .i64 s.1, .string s.2] 108)).cell 0
 by_cases h0 : 0 < s.1
 ·have FIN := hid (show slotIs t s = (s.2.toList == t.toList) by unfold slotIs; rw [decide_eq_true h0]; rfl)
  go_enter Tryz.func158, Tryz.ntmps158
  go_wp2
  go_ret
  rw [FIN.out]
  exact ⟨rfl, hB.out⟩
 have FIN := hid (show slotIs t s = false by unfold slotIs; rw [decide_eq_false h0]; rfl)
 have h1 : s.1 ≤ 0 := by omega
 go_enter Tryz.func158, Tryz.ntmps158
 go_wp2
 go_ret
 rw [FIN.out]
 exact ⟨rfl, hB.out⟩
theorem hasIndexI (a : Option Addr) (l : List Sl) (n cap tb : Nat) (t : ByteArray) (w : World) (hn : l.length = n) (hc : n ≤ maxLen) (hb : Blk w tb #[.string t] 9) (h : SlotsAt w a l) :
  Calls Tryz.prog 168 #[.slice a n cap, .func (.func 158) #[] #[.pointer (some ⟨tb, 0, none⟩)]] w fun e w' => ∃ r : Int, e = .returned (.int .i64 r) ∧ decide (0 ≤ r) = hasSlot l t ∧ Below w.heap.size w w' := by
 unfold maxLen at hc
 have HL : Hid (l.length = n) := hn
 clear hn
 go_enter Tryz.func168, Tryz.ntmps168
 go_wp2
 go_loopw [8] (fun i wr => ∃ (k : Nat), k ≤ n ∧ i = .int .i64 k ∧ (∀ (q : Nat) u, q < k → l[q]? = some u → slotIs t u = false) ∧ Below w.heap.size w wr) (fun i _ => n - (intOf i).toNat)
 case atStart => exact ⟨0, Nat.zero_le _, rfl, fun q u hq => absurd hq (by omega), Below.refl _ _⟩
 obtain ⟨k, hk, rfl, hin0, hbel0⟩ := hrel
 have hin : Hid (∀ (q : Nat) u, q < k → l[q]? = some u → slotIs t u = false) := hin0
 have hbel := hid hbel0
 clear hin0 hbel0
 by_cases hlt : k < n
 ·obtain ⟨u, hs0⟩ : ∃ s, l[k]? = some s := ⟨_, List.getElem?_eq_getElem (by rw [HL.out]; exact hlt)⟩
  have hs : Hid (l[k]? = some u) := hs0
  obtain ⟨b, off, rfl, hb1, c0, c1, _⟩ := (h.ext hbel.out) k u hs0
  clear hs0
  have HK := hid (hb.ext hbel.out)
  have e1 : (0 : Int) ≤ (k : Int) := by omega
  have e2 : (k : Int) < (n : Int) := by omega
  go_wp2_with fail
  refine (has1I u tb t _ HK.out).mono ?_
  rintro e z ⟨rfl, hz⟩
  have Z := hid (ext_trans hbel.out hz)
  clear hz
  cases hq : slotIs t u
  ·have HQ := hid hq
   clear hq
   go_wp2
   go_roundw
   case rel =>
    refine ⟨k + 1, by omega, by go_num, fun q v hq hv => ?_, Z.out⟩
    by_cases he : q = k
    ·subst he; rw [hs.out] at hv; simp only [Option.some.injEq] at hv; rw [← hv]; exact HQ.out
    exact hin.out q v (by omega) hv
   case measure => simp [intOf]; omega
  have HQ := hid hq
  clear hq
  go_wp2
  go_ret
  refine ⟨k, rfl, ?_, Z.out⟩
  rw [decide_eq_true e1]
  exact (List.any_eq_true.2 ⟨u, List.mem_of_getElem? hs.out, HQ.out⟩).symm
 go_wp2
 go_ret
 refine ⟨-1, rfl, ?_, hbel.out⟩
 have : hasSlot l t = false := by
  unfold hasSlot
  rw [List.any_eq_false]
  intro u hu
  obtain ⟨i, hi, rfl⟩ := List.getElem_of_mem hu
  rw [hin.out i _ (by have := HL.out; omega) (List.getElem?_eq_getElem hi)]
  simp
 rw [this]
 rfl
theorem hasContainsI (a : Option Addr) (l : List Sl) (n cap tb : Nat) (t : ByteArray) (w : World) (hn : l.length = n) (hc : n ≤ maxLen) (hb : Blk w tb #[.string t] 9) (h : SlotsAt w a l) :
  Calls Tryz.prog 156 #[.slice a n cap, .func (.func 158) #[] #[.pointer (some ⟨tb, 0, none⟩)]] w fun e w' => e = .returned (.bool (hasSlot l t)) ∧ Below w.heap.size w w' := by
 have HL : Hid (l.length = n) := hn
 have HB := hid hb
 clear hn hb
 go_enter Tryz.func156, Tryz.ntmps156
 go_wp2_with (go_at_call 168; refine (hasIndexI a l n cap tb t _ HL.out hc HB.out h).mono ?_; rintro e w' ⟨r, rfl, hr, hz⟩; have Z := hid hz; clear hz)
 go_ret
 exact ⟨rfl, Z.out⟩
theorem hasT_any (x y : Int) (a : Option Addr) (l : List Sl) (n cap : Nat) (t : ByteArray) (w : World) (hn : l.length = n) (hc : n ≤ maxLen) (h : SlotsAt w a l) :
  Calls Tryz.prog 145 #[.agg #[.int .i64 x, .int .i64 y, .slice a n cap], .string t] w fun e w' => e = .returned (.bool (hasSlot l t)) ∧ Below w.heap.size w w' := by
 obtain ⟨W, hW⟩ : ∃ W, W = (w.alloc (.cells #[.int .i64 x, .int .i64 y, .slice a n cap] 37)).alloc (.cells #[.string t] 9) := ⟨_, rfl⟩
 have BW := hid (show Below w.heap.size w W by rw [hW]; exact ext_alloc (ext_alloc (Below.refl _ _) _) _)
 have KW := hid (show Blk W (w.heap.size + 1) #[.string t] 9 by rw [hW]; exact Blk.new' _ _ (by simp))
 have SA := hid (h.ext BW.out)
 have HL := hid hn
 have HC := hid hc
 clear h hn hc
 go_enter Tryz.func145, Tryz.ntmps145
 go_wp2_with (go_at_call 156; rw [← hW]; refine (hasContainsI a l n cap (w.heap.size + 1) t _ HL.out HC.out KW.out SA.out).mono ?_; rintro e z ⟨rfl, hz⟩; have Z := hid (ext_trans BW.out hz); clear hz)
 go_ret
 exact ⟨rfl, Z.out⟩
structure OpS (g tb : Nat) (cs ct : Array Value) (w : World) : Prop where
 bg : Blk w g cs 41
 bt : Blk w tb ct 128
theorem OpS.drew {g tb : Nat} {cs ct : Array Value} {w : World} (h : OpS g tb cs ct w) : OpS g tb cs ct w.drew := ⟨Blk.drew h.bg, Blk.drew h.bt⟩
def WsPost (B g : Nat) (w : World) (col : Nat → Nat) (p : RcP) (r' : Rc) (w' : World) : Prop := ∃ p' X' col', Blk w' g (rcV r' p') 41 ∧ RcHas B w' r' p' X' col' ∧ 8 < col' g ∧ Below B w w' ∧ (∀ b, b < w.heap.size → b ≠ g → 8 < col b → w'.heap[b]? = w.heap[b]? ∧ 8 < col' b) ∧ p'.aW = p.aW ∧ p'.cW = p.cW
theorem IKS.turnW {B g tb : Nat} {x x' : Rc} {p : RcP} {X : RcX} {c : Nat → Nat} {a : Option Addr} {H : List Mp} {n : Nat} {v v' : World} (h : IKS B g tb x p X c a H n v) (gp : WsPost B g v c p x' v') : ∃ p' X' c', IKS B g tb x' p' X' c' a H n v' ∧ Below B v v' ∧ OthT g tb v c a v' c' a ∧ p'.aW = p.aW ∧ p'.cW = p.cW := by
 obtain ⟨p', X', c', k, has, hc, hb, ot, e1, e2⟩ := gp
 exact ⟨p', X', c', ⟨k, (ot _ h.t.lt h.ne h.ct).1.trans h.t, has, hc, (ot _ h.t.lt h.ne h.ct).2, h.out.but h.k (by decide) (by decide) ot, h.bg, h.bt, h.ne⟩, hb, fun b hlt h8 h1 _ hy => ⟨(ot b hlt h1 h8).1, (ot b hlt h1 h8).2, hy⟩, e1, e2⟩
structure OpN (B g tb : Nat) (v : World) (c : Nat → Nat) (a : Option Addr) (H : List Mp) (n : Nat) (p : RcP) (y : Rc) (p1 : RcP) (X1 : RcX) (c1 : Nat → Nat) (wr : World) : Prop where
 i : IKS B g tb y p1 X1 c1 a H n wr
 eW : p1.aW = p.aW
 eC : p1.cW = p.cW
 bel : Below B v wr
 oth : OthT g tb v c a wr c1 a
theorem OpN.ext {B g tb : Nat} {v : World} {c : Nat → Nat} {a : Option Addr} {H : List Mp} {n : Nat} {p : RcP} {y : Rc} {p1 : RcP} {X1 : RcX} {c1 : Nat → Nat} {wr w2 : World} (h : OpN B g tb v c a H n p y p1 X1 c1 wr) (hb : Below wr.heap.size wr w2) : OpN B g tb v c a H n p y p1 X1 c1 w2 :=
 ⟨h.i.ext hb, h.eW, h.eC, h.bel.trans (hb.mono h.i.lt), h.oth.ext hb h.bel.size⟩
theorem GPost.disk {B g : Nat} {w w1 : World} {r : Rc} {p : RcP} {X : RcX} {col : Nat → Nat} (hg : B ≤ g) (hk : Blk w g (rcV r p) 41) (hc : 8 < col g) (h : RcHas B w r p X col) {a' : Option Addr} {c' : Nat} {l : List Sl}
  (gr : w.grownBy w1 (Value.slice p.aD r.ds.length p.cD).ownBlock) (ho : w1.ownsRow B 108 2 (.slice a' l.length c') l.length (flat l)) (hn : NewOr w p.aD a') (hl : GoodSlots l) : WsPost B g w col p { r with ds := l } (w1.setCell ⟨g, 8, none⟩ (.slice a' l.length c')) ∧ Blk w1 g (rcV r p) 41 := by
 have hne : ∀ b, 8 < col b → some b ≠ (Value.slice p.aD r.ds.length p.cD).ownBlock := fun b h8 e => by
  cases hs : p.aD with
  | none => rw [hs] at e; simp [Value.ownBlock] at e
  | some y =>
   rw [hs] at e
   simp only [Value.ownBlock, Option.some.injEq] at e
   have := h.d.col y hs
   rw [← e] at this
   omega
 have hB : B ≤ w.heap.size := Nat.le_trans hg (Nat.le_of_lt hk.lt)
 have k1 : Blk w1 g (rcV r p) 41 := (gr.block g hk.lt (hne g hc)).trans hk
 have hcol : ∀ b, b < w.heap.size → 8 < col b → colN a' 1 col b = col b := fun b hlt h8 => colN_else fun x hx e => by
  rcases hn x hx with ⟨y, hy, he⟩ | h1
  ·have := h.d.col y hy
   rw [he, e] at this
   omega
  omega
 have bel : Below B w w1 := ⟨gr.os, gr.tape, gr.output, gr.size, fun b hb => gr.block b (by omega) (fun e => by
  cases hs : p.aD with
  | none => rw [hs] at e; simp [Value.ownBlock] at e
  | some y =>
   rw [hs] at e
   simp only [Value.ownBlock, Option.some.injEq] at e
   have := (h.d.lt y hs).1
   omega)⟩
 refine ⟨⟨{ p with aD := a', cD := c' }, X, colN a' 1 col, ?_, ?_, by rw [hcol g hk.lt hc]; exact hc, below_set bel hg _, fun b hlt hbg h8 => ⟨(heap_setCell_other _ ⟨g, 8, none⟩ b _ hbg).trans (gr.block b hlt (hne b h8)), by rw [hcol b hlt h8]; exact h8⟩, rfl, rfl⟩, k1⟩
 ·have := k1.set (o := 8) (.slice a' l.length c')
  simpa using this
 exact (h.grow_d gr ho hn hl).setCell (q := ⟨g, 8, none⟩) (by show 8 < colN a' 1 col g; rw [hcol g hk.lt hc]; exact hc) _
theorem implOpen (B g tb : Nat) (x : Rc) (p : RcP) (X : RcX) (c : Nat → Nat) (a : Option Addr) (H : List Mp) (n : Nat) (v : World) (h : IKS B g tb x p X c a H n v) (hd : x.ds.length ≤ 60) (hw : x.wish.length ≤ 1048576) (hb : wfI x.ball) :
  Calls Tryz.prog 121 #[.pointer (some ⟨tb, 0, none⟩)] v fun e v' => (∃ u, e = .returned u) ∧ PPost B g tb v c a (openN x x.wish) (H) v' := by
 have HD := hid hd
 have HB := hid hb
 have S0 := hid (show OpN B g tb v c a H n p (openN x (x.wish.take 0)) p X c v from ⟨h, rfl, rfl, Below.refl _ _, fun b hlt h8 _ _ hy => ⟨rfl, h8, hy⟩⟩)
 have cT := h.t.cell
 have cK := h.k.cell
 clear h hd hb
 go_enter Tryz.func121, Tryz.ntmps121
 go_wp2_with fail
 clear cT cK
 go_loopw [4, 19] (fun _ i wr => ∃ (k : Nat) (p1 : RcP) (X1 : RcX) (c1 : Nat → Nat), k ≤ x.wish.length ∧ i = .int .i64 k ∧ OpN B g tb v c a H n p (openN x (x.wish.take k)) p1 X1 c1 wr) (fun _ i _ => x.wish.length - (intOf i).toNat)
 case atStart => exact ⟨0, p, X, c, Nat.zero_le _, rfl, S0.out⟩
 obtain ⟨k, p1, X1, c1, hk, rfl, hss⟩ := hrel
 obtain ⟨z, hz⟩ : ∃ z, z = openN x (x.wish.take k) := ⟨_, rfl⟩
 rw [← hz] at hss
 have SS0 := hid hss
 have EZ0 := hid hz
 have ZF := hid (show z.wish = x.wish ∧ z.ball = x.ball ∧ z.ds.length ≤ 60 by
  obtain ⟨l, e, h2, h3⟩ := openN_like x (x.wish.take k)
  have := HD.out
  rw [hz, e]; exact ⟨rfl, rfl, by show l.length ≤ 60; omega⟩)
 have ZL := hid ZF.out.2.2
 have ZB := hid (show wfI z.ball by rw [ZF.out.2.1]; exact HB.out)
 have zl := ZL.out
 clear hss hz S0
 by_cases hlt : k < x.wish.length
 ·obtain ⟨t, ht0⟩ : ∃ t, z.wish[k]? = some t := ⟨_, List.getElem?_eq_getElem (by rw [ZF.out.1]; exact hlt)⟩
  have TK := hid (show x.wish.take (k + 1) = x.wish.take k ++ [t] by rw [← ZF.out.1, List.take_add_one, ht0]; rfl)
  have TG := hid (show t.size ≤ maxLen from SS0.out.i.has.gd.t k t ht0)
  obtain ⟨gW, eW, _, ct, _⟩ := SS0.out.i.has.t.cell (j := k) (u := .string t) (by simp [flatT, ht0])
  have EPW := hid (eW.symm.trans SS0.out.eW)
  rw [← EPW.out]
  clear ht0 eW
  obtain ⟨aS, cS, aD, cD, aH, cH, aW, cW, aY, cY, aB, cB, aA, cA⟩ := p1
  have SS := SS0
  clear SS0
  have e6 : (0 : Int) ≤ (k : Int) := by omega
  have e7 : (k : Int) < (x.wish.length : Int) := by omega
  have e8 : IntKind.i64.wrap ((k : Int) + 1) = (k : Int) + 1 := by go_arith
  have cT := SS.out.i.t.cell
  have cK := SS.out.i.k.cell
  by_cases h60 : z.ds.length < 60
  ·have u6 : (z.ds.length : Int) < 60 := by omega
   cases hh : hasSlot z.ds t
   case true =>
    skip
    have SK := hid (show OpN B g tb v c a H n p (openN x (x.wish.take (k + 1))) ⟨aS, cS, aD, cD, aH, cH, aW, cW, aY, cY, aB, cB, aA, cA⟩ X1 c1 wr by rw [TK.out, openN_snoc, ← EZ0.out, openR_no (by rw [hh]; simp)]; exact SS.out)
    go_wp2_with (first | (go_at_call 145; refine (hasT_any z.dp z.dk aD z.ds z.ds.length cD t wr rfl (by have := ZL.out; unfold maxLen; omega) SS.out.i.has.at.hD).mono ?_; rw [hh]; rintro e w1 ⟨rfl, hb1⟩; have E1 := hid hb1; clear hb1))
    go_roundw
    case rel => exact ⟨k + 1, ⟨aS, cS, aD, cD, aH, cH, aW, cW, aY, cY, aB, cB, aA, cA⟩, X1, c1, by omega, by go_num, SK.out.ext E1.out⟩
    case measure => simp [intOf]; omega
   go_wp2_with (first
    | (go_at_call 145; refine (hasT_any z.dp z.dk aD z.ds z.ds.length cD t wr rfl (by have := ZL.out; unfold maxLen; omega) SS.out.i.has.at.hD).mono ?_; rw [hh]; rintro e w1 ⟨rfl, hb1⟩; have E1 := hid hb1; clear hb1 cK cT ct; have S1 := hid (SS.out.i.fresh.ext E1.out)))
   have hK0 : OpS g tb (rcV z ⟨aS, cS, aD, cD, aH, cH, aW, cW, aY, cY, aB, cB, aA, cA⟩) (tcV g a H.length n) w1 := ⟨S1.out.k, S1.out.t⟩
   refine wp_region_last (S := OpS g tb (rcV z ⟨aS, cS, aD, cD, aH, cH, aW, cW, aY, cY, aB, cB, aA, cA⟩) (tcV g a H.length n)) 18 (by kernel_rfl) hK0.drew (fun hHeld => ?_)
   simp only [qz, Nat.reduceAdd]
   obtain ⟨V3, hV3⟩ : ∃ u, u = w1.drew := ⟨_, rfl⟩
   have E3 := hid (show Below wr.heap.size wr V3 by rw [hV3]; exact E1.out.drew)
   have S3 := hid (SS.out.i.fresh.ext E3.out)
   rw [← hV3] at hHeld ⊢
   clear hV3 hK0
   obtain ⟨Z, hZ⟩ : ∃ u, u = V3.alloc (.cells #[.int .i64 z.ball, .string t] 108) := ⟨_, rfl⟩
   have EZ := hid (show Below wr.heap.size wr Z by rw [hZ]; exact ext_alloc E3.out _)
   have S4 := hid (SS.out.i.fresh.ext EZ.out)
   have NEWS := hid (show ReadAt Z (some ⟨V3.heap.size, 0, none⟩) 1 1 2 [.int .i64 z.ball, .string t] from
    ⟨rfl, fun e => by simp at e, fun y hy => by
     simp only [Option.some.injEq] at hy
     subst hy
     exact ⟨rfl, by rw [hZ]; exact blk_news (cs := [.int .i64 z.ball, .string t]) (Blk.new _ _ _)⟩⟩)
   refine planL.go [0, 1, 2, 3, 4, 5, 6, 7, 8, 9, 10, 11, 12, 13] ?_
   iterate 14 (apply planL.take (at_lit rfl) (by kernel_rfl) (by rfl) (fun _ _ _ h => h) hHeld; (· intro w9 hSw; have hq := hSw.bg.cell; have ht := hSw.bt.cell; clear hSw; go_simp; try with_reducible rfl); try simp only [qq])
   refine planL.fin ?_
   refine rdL 14 (by kernel_rfl) (at_lit rfl) (fun K hK => ?_)
   go_simp
   refine hK.out _ _ ⟨hHeld.bg.alloc _, hHeld.bt.alloc _⟩ (fun hNew => ?_)
   clear hK K hHeld
   have hHeld := hNew
   clear hNew
   try simp only [qq]
   rw [← hZ] at hHeld ⊢
   clear hZ
   refine rdL 15 (by kernel_rfl) (at_lit rfl) (fun K hK => ?_)
   rw [if_pos (by rfl)]
   refine wp_appS B aD z.ds.length cD (flat z.ds) (some ⟨V3.heap.size, 0, none⟩) 1 1 [.int .i64 z.ball, .string t] rfl rfl S4.out.has.d.own NEWS.out (fun u hu => by simp at hu; rcases hu with rfl | rfl <;> rfl) (by have := ZL.out; omega) S4.out.lt ?_
   intro a' c' w2 q1 q2 q3
   have EF : flat z.ds ++ [.int .i64 z.ball, .string t] = flat (z.ds ++ [(z.ball, t)]) := by rw [flat_app]; rfl
   rw [EF] at q1
   obtain ⟨gp, k2⟩ := GPost.disk S4.out.bg S4.out.k S4.out.cg S4.out.has (l := z.ds ++ [(z.ball, t)]) q2 (by rw [List.length_append]; exact q1) q3 (fun i s hs => by
    rcases Nat.lt_or_ge i z.ds.length with hi | hi
    ·rw [List.getElem?_append_left hi] at hs; exact S4.out.has.gd.d i s hs
    rw [List.getElem?_append_right hi] at hs
    have hm := List.mem_of_getElem? hs
    simp only [List.mem_cons, List.not_mem_nil, or_false] at hm
    rw [hm]; exact ⟨TG.out, ZB.out⟩)
   rw [show (z.ds ++ [(z.ball, t)]).length = z.ds.length + 1 by simp] at gp
   obtain ⟨p5, X5, c5, i5, b5, o5, es5, ec5⟩ := S4.out.turnW gp
   have S5 := hid (show OpN B g tb v c a H n p (openN x (x.wish.take (k + 1))) p5 X5 c5 (w2.setCell ⟨g, 8, none⟩ (.slice a' (z.ds.length + 1) c')) by
    rw [TK.out, openN_snoc, ← EZ0.out, show openR z t = { z with ds := z.ds ++ [(z.ball, t)] } from by unfold openR; rw [if_pos ⟨hh, h60⟩]]
    exact ⟨i5, es5.trans SS.out.eW, ec5.trans SS.out.eC, SS.out.bel.trans ((EZ.out.mono SS.out.i.lt).trans b5), (SS.out.oth.fresh EZ.out SS.out.bel.size).trans o5 (Nat.le_trans SS.out.bel.size EZ.out.size)⟩)
   have K2 := hid k2
   have T2 := hid (show Blk w2 tb (tcV g a H.length n) 128 from (q2.block tb S4.out.t.lt (ownBlock_far (RowC.ne S4.out.has.d S4.out.t (by decide)))).trans S4.out.t)
   clear q1 q2 q3 gp i5 b5 o5 es5 ec5 k2 EF
   refine hK.out _ _ ⟨K2.out, T2.out⟩ (fun hNew => ?_)
   clear hK K hHeld
   have hHeld := hNew
   clear hNew
   try simp only [qq]
   refine rdL 16 (by kernel_rfl) (at_lit rfl) (fun K hK => ?_)
   go_simp
   refine hK.out _ _ hHeld (fun hNew => ?_)
   clear hK K hNew
   try simp only [qq]
   refine planL.go [17] ?_
   iterate 1 (apply planL.take (at_lit rfl) (by kernel_rfl) (by rfl) (fun _ _ _ h => h) hHeld; (· intro w9 hSw; have hq := hSw.bg.cell; have ht := hSw.bt.cell; clear hSw; go_simp; try with_reducible rfl); try simp only [qq])
   refine planL.fin ?_
   refine wpLast_end (by kernel_rfl) (at_lit rfl) (by kernel_rfl) (fun K hK => ?_)
   have cK := K2.out.cell
   have fK := K2.out.free
   go_simp
   refine hK.out _ _ ?_
   clear hK K hHeld cK fK
   obtain ⟨Y, hY⟩ : ∃ u, u = w2.setCell ⟨g, 8, none⟩ (.slice a' (z.ds.length + 1) c') := ⟨_, rfl⟩
   rw [← hY] at S5 ⊢
   clear hY
   go_wp2_with fail
   go_roundw
   case rel => exact ⟨k + 1, p5, X5, c5, by omega, by go_num, S5.out⟩
   case measure => simp [intOf]; omega
  have u6 : ¬ (z.ds.length : Int) < 60 := by omega
  have u7 : decide ((z.ds.length : Int) < 60) = false := decide_eq_false u6
  skip
  have SK := hid (show OpN B g tb v c a H n p (openN x (x.wish.take (k + 1))) ⟨aS, cS, aD, cD, aH, cH, aW, cW, aY, cY, aB, cB, aA, cA⟩ X1 c1 wr by rw [TK.out, openN_snoc, ← EZ0.out, openR_no (fun q => h60 q.2)]; exact SS.out)
  go_wp2_with fail
  go_roundw
  case rel => exact ⟨k + 1, ⟨aS, cS, aD, cD, aH, cH, aW, cW, aY, cY, aB, cB, aA, cA⟩, X1, c1, by omega, by go_num, SK.out⟩
  case measure => simp [intOf]; omega
 have hkk : k = x.wish.length := by omega
 subst hkk
 have FX := hid (show openN x x.wish = z by rw [EZ0.out, List.take_length])
 go_wp2_with fail
 first | refine bodyPost_end (results_none rfl _ _ _) rfl ?_ | refine bodyPost_ret (results_none rfl _ _ _) rfl ?_
 rw [FX.out]
 exact ⟨⟨_, rfl⟩, p1, X1, c1, a, n, SS0.out.i, SS0.out.bel, SS0.out.oth⟩
end Go.Proofs.YtffklmlljekceaaGreat
namespace Go.Proofs.YtffklmlljekceaaGreat
open Go.ChangeShapes Go.WideShapes Go.ChangeAt Go.RowKit next
set_option linter.unusedSimpArgs false
set_option linter.unusedVariables false
set_option maxHeartbeats 16000000
set_option maxRecDepth 20000
theorem holdR_like (r : Rc) (m : MsgH) (l : List Sl) : ∃ h, holdR r m l = { r with held := h } ∧ h.length ≤ r.held.length + 1 ∧ ∀ q ∈ h, q ∈ r.held ∨ q.2 = l := by
 by_cases h : (r.held.length : Int) < 400
 ·rw [holdR_yes h]
  refine ⟨_, rfl, by simp, fun q hq => ?_⟩
  rcases List.mem_append.1 hq with hq | hq
  ·exact .inl hq
  simp only [List.mem_cons, List.not_mem_nil, or_false] at hq
  rw [hq]; exact .inr rfl
 rw [holdR_no h]
 exact ⟨r.held, rfl, by omega, fun q hq => .inl hq⟩
theorem holdAll_like : ∀ (l : List Mp) (r : Rc), ∃ h, holdAll r l = { r with held := h } ∧ h.length ≤ r.held.length + l.length ∧ ∀ q ∈ h, q ∈ r.held ∨ ∃ u ∈ l, q.2 = u.1.2
 | [], r => ⟨r.held, rfl, by simp, fun q hq => .inl hq⟩
 | u :: l, r => by
  obtain ⟨h1, e1, n1, m1⟩ := holdR_like r u.1.1 u.1.2
  obtain ⟨h2, e2, n2, m2⟩ := holdAll_like l (holdR r u.1.1 u.1.2)
  rw [e1] at n2 m2
  refine ⟨h2, ?_, ?_, fun q hq => ?_⟩
  ·show holdAll (holdR r u.1.1 u.1.2) l = _
   rw [e2, e1]
  ·simp only [List.length_cons] at n2 ⊢; omega
  rcases m2 q hq with hq | ⟨v, hv, e⟩
  ·rcases m1 q hq with hq | hq
   ·exact .inl hq
   exact .inr ⟨u, by simp, hq⟩
  exact .inr ⟨v, by simp [hv], e⟩
theorem holdAll_snoc (r : Rc) (l : List Mp) (u : Mp) : holdAll r (l ++ [u]) = holdR (holdAll r l) u.1.1 u.1.2 := by unfold holdAll; rw [List.foldl_append]; rfl
theorem tryR_small {x : Rc} (h : T2Ok x) : RcSmall (tryR x) := by
 have h1 := h.lead.sm
 have h0 : RcSmall { calmR x with heard := 0 } := ⟨h1.lS, h1.lD, h1.lH, h1.lW, Nat.zero_le _, Nat.zero_le _, Nat.zero_le _, h1.nH, fun i s hs => by simp [calmR] at hs⟩
 unfold tryR
 split
 ·split
  ·obtain ⟨hl, e, n, m⟩ := holdAll_like (othP x.num (prepM (nextB x.dp x.num x.of_)) x.of_.toNat) { calmR x with heard := 0, dp := nextB x.dp x.num x.of_, ball := nextB x.dp x.num x.of_, tr := true }
   rw [e]
   have hn := othP_len x.num (prepM (nextB x.dp x.num x.of_)) x.of_.toNat
   have hz : (calmR x).held.length = 0 := by show x.held.length = 0; rw [h.held]; rfl
   have h5 := h.of_.2
   refine ⟨h1.lS, h1.lD, (show hl.length ≤ 1048576 by simp only [hz] at n; omega), h1.lW, Nat.zero_le _, Nat.zero_le _, Nat.zero_le _, fun i s hs => ?_, fun i s hs => by simp [calmR] at hs⟩
   rcases m s (List.mem_of_getElem? hs) with hq | ⟨u, hu, e2⟩
   ·have : s ∈ x.held := hq
    rw [h.held] at this; simp at this
   obtain ⟨mm, rfl, _⟩ := othP_bare (show (prepM (nextB x.dp x.num x.of_)).x.size ≤ maxLen from Nat.zero_le _) _ u hu
   rw [e2]; exact Nat.zero_le _
  exact h0
 exact h1
theorem TKS.fresh {w : World} {xb : Nat} {x : Rc} {p : RcP} {X : RcX} {c : Nat → Nat} {a : Option Addr} {H : List Mp} {n : Nat} {v : World} (h : TKS w xb x p X c a H n v) : TKS w xb x p X (colF v.heap.size c) a H n v :=
 ⟨h.k, h.z, h.has.fresh, by rw [colF_old h.k.lt]; exact h.cx, by rw [colF_old h.z.lt]; exact h.cz, h.bel, h.out.fresh, h.hx⟩
theorem rowM_blk {B : Nat} {w : World} {a : Option Addr} {L : List Mp} {c k : Nat} {m : Mp} (h : RowM B w a L c) (hm : L[k]? = some m) : ∃ gL cur, a = some ⟨gL, 0, none⟩ ∧ Blk w gL cur 45 ∧ ∀ q, q < 8 → cur[k * 8 + q]? = (cellsM m)[q]? := by
 have hk := (List.getElem?_eq_some_iff.1 hm).1
 rcases h.own.2 with ⟨_, h2⟩ | ⟨g, cap, cur, hv, _, hh, _, _, _, ht⟩
 ·omega
 simp only [Value.slice.injEq] at hv
 refine ⟨g, cur, hv.1, hh, fun q hq => ?_⟩
 rw [← flatM_at L k q m hm hq, ← ht, List.getElem?_take_of_lt (by omega), Array.getElem?_toList]
structure HlS (xb gL : Nat) (cs cl : Array Value) (w : World) : Prop where
 blk : Blk w xb cs 41
 bl : Blk w gL cl 45
theorem HlS.drew {xb gL : Nat} {cs cl : Array Value} {w : World} (h : HlS xb gL cs cl w) : HlS xb gL cs cl w.drew := ⟨Blk.drew h.blk, Blk.drew h.bl⟩
end Go.Proofs.YtffklmlljekceaaGreat
