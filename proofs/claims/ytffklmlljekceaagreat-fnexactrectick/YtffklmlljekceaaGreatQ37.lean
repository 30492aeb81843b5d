import Derived.Test.YtffklmlljekceaaGreatQ34
namespace Go.Proofs.YtffklmlljekceaaGreat
open Go.ChangeShapes Go.WideShapes Go.ChangeAt Go.RowKit
set_option linter.unusedSimpArgs false
set_option linter.unusedVariables false
set_option maxHeartbeats 16000000
set_option maxRecDepth 20000
structure SdS (tb mb : Nat) (ct cm : Array Value) (w : World) : Prop where
 bt : Blk w tb ct 128
 bm : Blk w mb cm 45
theorem SdS.drew {tb mb : Nat} {ct cm : Array Value} {w : World} (h : SdS tb mb ct cm w) : SdS tb mb ct cm w.drew := ⟨Blk.drew h.bt, Blk.drew h.bm⟩
def SentP (B g tb : Nat) (v : World) (c : Nat → Nat) (a : Option Addr) (x : Rc) (p : RcP) (X : RcX) (H' : List Mp) (v' : World) : Prop := ∃ c' a' n', IKS B g tb x p X c' a' H' n' v' ∧ Below B v v' ∧ OthT g tb v c a v' c' a'
theorem SentP.post {B g tb : Nat} {v v' : World} {c : Nat → Nat} {a : Option Addr} {x : Rc} {p : RcP} {X : RcX} {H' : List Mp} (h : SentP B g tb v c a x p X H' v') : PPost B g tb v c a x H' v' := by
 obtain ⟨c', a', n', s, b, o⟩ := h
 exact ⟨p, X, c', a', n', s, b, o⟩
theorem SentP.from {B g tb : Nat} {v v1 v' : World} {c : Nat → Nat} {a : Option Addr} {x : Rc} {p : RcP} {X : RcX} {H' : List Mp} (h : SentP B g tb v1 (colF v.heap.size c) a x p X H' v') (hb : Below v.heap.size v v1) (hB : B ≤ v.heap.size) : SentP B g tb v c a x p X H' v' := by
 obtain ⟨c', a', n', s, b, o⟩ := h
 refine ⟨c', a', n', s, (hb.mono hB).trans b, fun i hlt h8 h1 h2 hy => ?_⟩
 obtain ⟨q1, q2, q3⟩ := o i (Nat.lt_of_lt_of_le hlt hb.size) (by rw [colF_old hlt]; exact h8) h1 h2 hy
 exact ⟨q1.trans (hb.block i hlt), q2, q3⟩
theorem SentP.ext {B g tb : Nat} {v v1 v' : World} {c : Nat → Nat} {a : Option Addr} {x : Rc} {p : RcP} {X : RcX} {H' : List Mp} (h : SentP B g tb v1 c a x p X H' v') (hb : Below v.heap.size v v1) (hB : B ≤ v.heap.size) : SentP B g tb v c a x p X H' v' := by
 obtain ⟨c', a', n', s, b, o⟩ := h
 refine ⟨c', a', n', s, (hb.mono hB).trans b, fun i hlt h8 h1 h2 hy => ?_⟩
 obtain ⟨q1, q2, q3⟩ := o i (Nat.lt_of_lt_of_le hlt hb.size) h8 h1 h2 hy
 exact ⟨q1.trans (hb.block i hlt), q2, q3⟩
theorem implSend (B g tb : Nat) (x : Rc) (p : RcP) (X : RcX) (c : Nat → Nat) (a : Option Addr) (H : List Mp) (n : Nat) (v : World) (h : IKS B g tb x p X c a H n v) (m : MsgH) (hx : m.x.size ≤ maxLen) (hH : H.length ≤ 4000000) :
  Calls Tryz.prog 147 #[.pointer (some ⟨tb, 0, none⟩), .agg (msgV m (.slice none 0 0))] v fun e v' => (∃ u, e = .returned u) ∧ SentP B g tb v c a x p X (H ++ [bare { m with f := x.num }]) v' := by
 have S0 := hid h.fresh
 have HLL := hid hH
 have HX := hid hx
 have LT := hid h.lt
 obtain ⟨V, hV⟩ : ∃ u, u = v.alloc (.cells #[.int .i64 m.k, .int .i64 x.num, .int .i64 m.t, .int .i64 m.b, .int .i64 m.i, .int .i64 m.n, .string m.x, .slice none 0 0] 45) := ⟨_, rfl⟩
 have EV := hid (show Below v.heap.size v V by rw [hV]; exact ext_alloc (Below.refl _ _) _)
 have KV := hid (show Blk V v.heap.size #[.int .i64 m.k, .int .i64 x.num, .int .i64 m.t, .int .i64 m.b, .int .i64 m.i, .int .i64 m.n, .string m.x, .slice none 0 0] 45 by rw [hV]; exact Blk.new _ _ _)
 obtain ⟨Vd, hVd⟩ : ∃ u, u = V.drew := ⟨_, rfl⟩
 have ED := hid (show Below v.heap.size v Vd by rw [hVd]; exact EV.out.drew)
 have KD := hid (show Blk Vd v.heap.size #[.int .i64 m.k, .int .i64 x.num, .int .i64 m.t, .int .i64 m.b, .int .i64 m.i, .int .i64 m.n, .string m.x, .slice none 0 0] 45 by rw [hVd]; exact Blk.drew KV.out)
 obtain ⟨Z, hZ⟩ : ∃ u, u = Vd.alloc (.cells #[.int .i64 m.k, .int .i64 x.num, .int .i64 m.t, .int .i64 m.b, .int .i64 m.i, .int .i64 m.n, .string m.x, .slice none 0 0] 45) := ⟨_, rfl⟩
 have EZ := hid (show Below v.heap.size v Z by rw [hZ]; exact ext_alloc ED.out _)
 have S1 := hid (S0.out.ext EZ.out)
 have KZ := hid (show Blk Z v.heap.size #[.int .i64 m.k, .int .i64 x.num, .int .i64 m.t, .int .i64 m.b, .int .i64 m.i, .int .i64 m.n, .string m.x, .slice none 0 0] 45 by rw [hZ]; exact KD.out.alloc _)
 have NEWS := hid (show ReadAt Z (some ⟨Vd.heap.size, 0, none⟩) 1 1 8 (cellsM (bare { m with f := x.num })) from
  ⟨rfl, fun e => by simp at e, fun y hy => by
   simp only [Option.some.injEq] at hy
   subst hy
   exact ⟨rfl, by rw [hZ]; exact blk_news (cs := (msgV { m with f := x.num } (.slice none 0 0)).toList) (show Blk (Vd.alloc (.cells #[.int .i64 m.k, .int .i64 x.num, .int .i64 m.t, .int .i64 m.b, .int .i64 m.i, .int .i64 m.n, .string m.x, .slice none 0 0] 45)) Vd.heap.size (msgV { m with f := x.num } (.slice none 0 0)) 45 from Blk.new _ _ _)⟩⟩)
 have cg := (h.k.alloc (.cells (msgV m (.slice none 0 0)) 45)).cell
 have ct := (h.t.alloc (.cells (msgV m (.slice none 0 0)) 45)).cell
 clear h hH hx
 go_enter Tryz.func147, Tryz.ntmps147
 go_wp2_with fail
 rw [← hV]
 clear cg ct hV
 have hK0 : SdS tb v.heap.size (tcV g a H.length n) #[.int .i64 m.k, .int .i64 x.num, .int .i64 m.t, .int .i64 m.b, .int .i64 m.i, .int .i64 m.n, .string m.x, .slice none 0 0] V := ⟨(S0.out.ext EV.out).t, KV.out⟩
 refine wp_region_last (S := SdS tb v.heap.size (tcV g a H.length n) #[.int .i64 m.k, .int .i64 x.num, .int .i64 m.t, .int .i64 m.b, .int .i64 m.i, .int .i64 m.n, .string m.x, .slice none 0 0]) 10 (by kernel_rfl) hK0.drew (fun hHeld => ?_)
 simp only [qz, Nat.reduceAdd]
 clear hK0
 rw [← hVd] at hHeld ⊢
 clear hVd
 refine planL.go [0, 1, 2, 3, 4, 5] ?_
 iterate 6 (apply planL.take (at_lit rfl) (by kernel_rfl) (by rfl) (fun _ _ _ h => h) hHeld; (· intro w9 hSw; have hq := hSw.bt.cell; have hm := hSw.bm.cell; clear hSw; go_simp; try with_reducible rfl); try simp only [qq])
 refine planL.fin ?_
 refine rdL 6 (by kernel_rfl) (at_lit rfl) (fun K hK => ?_)
 go_simp
 refine hK.out _ _ ⟨hHeld.bt.alloc _, hHeld.bm.alloc _⟩ (fun hNew => ?_)
 clear hK K hHeld
 have hHeld := hNew
 clear hNew
 try simp only [qq]
 rw [← hZ] at hHeld ⊢
 clear hZ
 refine rdL 7 (by kernel_rfl) (at_lit rfl) (fun K hK => ?_)
 rw [if_pos (by rfl)]
 refine wp_appM B a H.length n (flatM H) (some ⟨Vd.heap.size, 0, none⟩) 1 1 (cellsM (bare { m with f := x.num })) rfl rfl S1.out.out.row.own NEWS.out (fun u hu => by simp [cellsM] at hu; rcases hu with rfl | rfl | rfl | rfl | rfl | rfl | rfl | rfl <;> rfl) (by have := HLL.out; omega) S1.out.lt ?_
 intro a' c' w2 q1 q2 q3
 have row2 : RowM B w2 a' (H ++ [bare { m with f := x.num }]) c' := RowC.mk (by rw [flatM_app, flatM_single, List.length_append]; exact q1) (fun _ _ => rfl)
 obtain ⟨r1, r2, r3⟩ := S1.out.more q2 row2 q3 (fun q hq => by simp only [List.mem_cons, List.not_mem_nil, or_false] at hq; exact ⟨_, hq, HX.out⟩)
 rw [show (H ++ [bare { m with f := x.num }]).length = H.length + 1 by simp] at r1 r2 r3
 have PP := hid (show SentP B g tb Z (colF v.heap.size c) a x p X (H ++ [bare { m with f := x.num }]) (w2.setCell ⟨tb, 1, none⟩ (.slice a' (H.length + 1) c')) from ⟨_, a', c', r1, r2, r3⟩)
 have KT := hid (show Blk w2 tb (tcV g a H.length n) 128 from (q2.block tb S1.out.t.lt (ownBlock_far (RowC.ne S1.out.out.row S1.out.t (by decide)))).trans S1.out.t)
 have KM := hid (show Blk w2 v.heap.size #[.int .i64 m.k, .int .i64 x.num, .int .i64 m.t, .int .i64 m.b, .int .i64 m.i, .int .i64 m.n, .string m.x, .slice none 0 0] 45 from (q2.block _ KZ.out.lt (ownBlock_far (fun y hy e => by have := (S0.out.out.row.lt y hy).2; omega))).trans KZ.out)
 clear q1 q2 q3 row2 r1 r2 r3
 refine hK.out _ _ ⟨KT.out, KM.out⟩ (fun hNew => ?_)
 clear hK K hHeld
 have hHeld := hNew
 clear hNew
 try simp only [qq]
 refine rdL 8 (by kernel_rfl) (at_lit rfl) (fun K hK => ?_)
 go_simp
 refine hK.out _ _ hHeld (fun hNew => ?_)
 clear hK K hNew
 try simp only [qq]
 refine planL.go [9] ?_
 iterate 1 (apply planL.take (at_lit rfl) (by kernel_rfl) (by rfl) (fun _ _ _ h => h) hHeld; (· intro w9 hSw; have hq := hSw.bt.cell; have hm := hSw.bm.cell; clear hSw; go_simp; try with_reducible rfl); try simp only [qq])
 refine planL.fin ?_
 refine wpLast_end (by kernel_rfl) (at_lit rfl) (by kernel_rfl) (fun K hK => ?_)
 have cT := KT.out.cell
 have fT := KT.out.free
 go_simp
 refine hK.out _ _ ?_
 clear hK K hHeld cT fT
 obtain ⟨Y, hY⟩ : ∃ u, u = w2.setCell ⟨tb, 1, none⟩ (.slice a' (H.length + 1) c') := ⟨_, rfl⟩
 rw [← hY] at PP ⊢
 clear hY
 go_wp2_with fail
 first | refine bodyPost_end (results_none rfl _ _ _) rfl ?_ | refine bodyPost_ret (results_none rfl _ _ _) rfl ?_
 exact ⟨⟨_, rfl⟩, PP.out.from EZ.out LT.out⟩
def BxS (B g tb : Nat) (v : World) (c : Nat → Nat) (a : Option Addr) (x : Rc) (cs : Array Value) (T : TypeId) (p : RcP) (X : RcX) (c' : Nat → Nat) (a' : Option Addr) (H' : List Mp) (n' : Nat) (wr : World) : Prop :=
 IKS B g tb x p X c' a' H' n' wr ∧ Blk wr v.heap.size cs T ∧ 8 < c' v.heap.size ∧ (∀ y, a' = some y → y.block ≠ v.heap.size) ∧ Below B v wr ∧ OthT g tb v c a wr c' a'
abbrev ToS (B g tb : Nat) (v : World) (c : Nat → Nat) (a : Option Addr) (x : Rc) (m' : MsgH) (p : RcP) (X : RcX) (c' : Nat → Nat) (a' : Option Addr) (H' : List Mp) (n' : Nat) (wr : World) : Prop := BxS B g tb v c a x (msgV m' (.slice none 0 0)) 45 p X c' a' H' n' wr
theorem BxS.ext {B g tb : Nat} {v : World} {c : Nat → Nat} {a : Option Addr} {x : Rc} {cs : Array Value} {T : TypeId} {p : RcP} {X : RcX} {c' : Nat → Nat} {a' : Option Addr} {H' : List Mp} {n' : Nat} {wr w2 : World} (h : BxS B g tb v c a x cs T p X c' a' H' n' wr) (hb : Below wr.heap.size wr w2) : BxS B g tb v c a x cs T p X c' a' H' n' w2 := by
 obtain ⟨h1, h2, h3, h4, h5, h6⟩ := h
 exact ⟨h1.ext hb, h2.ext hb, h3, h4, h5.trans (hb.mono h1.lt), fun b hlt h8 k1 k2 hy => by
  obtain ⟨q1, q2, q3⟩ := h6 b hlt h8 k1 k2 hy
  exact ⟨(hb.block b (Nat.lt_of_lt_of_le hlt h5.size)).trans q1, q2, q3⟩⟩
theorem BxS.next {B g tb : Nat} {v : World} {c : Nat → Nat} {a : Option Addr} {x : Rc} {cs : Array Value} {T : TypeId} {p : RcP} {X : RcX} {c' : Nat → Nat} {a' : Option Addr} {H' H2 : List Mp} {n' : Nat} {wr w2 : World} (h : BxS B g tb v c a x cs T p X c' a' H' n' wr) (hg : g < v.heap.size) (ht : tb < v.heap.size) (pp : SentP B g tb wr c' a' x p X H2 w2) : ∃ c2 a2 n2, BxS B g tb v c a x cs T p X c2 a2 H2 n2 w2 := by
 obtain ⟨h1, h2, h3, h4, h5, h6⟩ := h
 obtain ⟨c2, a2, n2, s, b, o⟩ := pp
 obtain ⟨q1, q2, q3⟩ := o v.heap.size h2.lt h3 (by omega) (by omega) h4
 exact ⟨c2, a2, n2, s, q1.trans h2, q2, q3, h5.trans b, h6.trans o h5.size⟩
theorem BxS.put {B g tb : Nat} {v : World} {c : Nat → Nat} {a : Option Addr} {x : Rc} {m' : MsgH} {p : RcP} {X : RcX} {c' : Nat → Nat} {a' : Option Addr} {H' : List Mp} {n' : Nat} {wr : World} (h : ToS B g tb v c a x m' p X c' a' H' n' wr) (hB : B ≤ v.heap.size) (hg : g < v.heap.size) (ht : tb < v.heap.size) (t : Int) : ToS B g tb v c a x { m' with t := t } p X c' a' H' n' (wr.setCell ⟨v.heap.size, 2, none⟩ (.int .i64 t)) := by
 obtain ⟨h1, h2, h3, h4, h5, h6⟩ := h
 have ot : ∀ b, b ≠ v.heap.size → (wr.setCell ⟨v.heap.size, 2, none⟩ (.int .i64 t)).heap[b]? = wr.heap[b]? := fun b hb => heap_setCell_other _ ⟨v.heap.size, 2, none⟩ b _ hb
 refine ⟨⟨(ot _ (by omega)).trans h1.k, (ot _ (by omega)).trans h1.t, h1.has.setCell (q := ⟨v.heap.size, 2, none⟩) h3 _, h1.cg, h1.ct, ?_, h1.bg, h1.bt, h1.ne⟩, ?_, h3, h4, below_set h5 hB _, fun b hlt h8 k1 k2 hy => ?_⟩
 ·exact ⟨h1.out.row.same fun y hy => ot _ (h4 y hy), ⟨fun q hq => (h1.out.inn.row q hq).same fun y hy => ot _ (RowC.ne (h1.out.inn.row q hq) h2 (by decide) y hy), h1.out.inn.apart⟩, h1.out.ca, h1.out.ci, h1.out.gd⟩
 ·have := h2.set (o := 2) (.int .i64 t)
  simpa using this
 obtain ⟨q1, q2, q3⟩ := h6 b hlt h8 k1 k2 hy
 exact ⟨(ot b (by omega)).trans q1, q2, q3⟩
theorem BxS.start {B g tb : Nat} {x : Rc} {p : RcP} {X : RcX} {c : Nat → Nat} {a : Option Addr} {H : List Mp} {n : Nat} {v : World} (h : IKS B g tb x p X c a H n v) (cs : Array Value) (T : TypeId) : BxS B g tb v c a x cs T p X (colF v.heap.size c) a H n (v.alloc (.cells cs T)) := by
 have hb : Below v.heap.size v (v.alloc (.cells cs T)) := ext_alloc (Below.refl _ _) _
 exact ⟨h.fresh.ext hb, Blk.new _ _ _, by rw [colF_new (Nat.le_refl _)]; omega, fun y hy e => by have := (h.out.row.lt y hy).2; omega, hb.mono h.lt, fun b hlt h8 _ _ hy => ⟨hb.block b hlt, by rw [colF_old hlt]; exact h8, hy⟩⟩
theorem BxS.sent {B g tb : Nat} {v : World} {c : Nat → Nat} {a : Option Addr} {x : Rc} {cs : Array Value} {T : TypeId} {p : RcP} {X : RcX} {c' : Nat → Nat} {a' : Option Addr} {H' : List Mp} {n' : Nat} {wr : World} (h : BxS B g tb v c a x cs T p X c' a' H' n' wr) : SentP B g tb v c a x p X H' wr := ⟨c', a', n', h.1, h.2.2.2.2.1, h.2.2.2.2.2⟩
def toL (w : World) (g : Nat) : Nat := match w.cell? ⟨g, 2, none⟩ with | some (.int _ n) => n.toNat | _ => 0
theorem toL_at {w : World} {g : Nat} {m : MsgH} (h : Blk w g (msgV m (.slice none 0 0)) 45) : toL w g = m.t.toNat := by
 unfold toL
 rw [h.cell 2]
 rfl
theorem implToSend (B g tb : Nat) (x : Rc) (p : RcP) (X : RcX) (c : Nat → Nat) (a : Option Addr) (H : List Mp) (n : Nat) (v : World) (h : IKS B g tb x p X c a H n v) (m : MsgH) (hx : m.x.size ≤ maxLen) (h0 : 0 ≤ x.of_) (h5 : x.of_ ≤ 5) (hH : H.length ≤ 3000000) :
  Calls Tryz.prog 146 #[.pointer (some ⟨g, 0, none⟩), .agg (msgV m (.slice none 0 0)), .func (.func 147) #[.pointer (some ⟨tb, 0, none⟩)] #[]] v fun e v' => (∃ u, e = .returned u) ∧ SentP B g tb v c a x p X (H ++ othP x.num m x.of_.toNat) v' := by
 have HX := hid hx
 have HLL := hid hH
 have LT := hid h.lt
 have LG := hid h.k.lt
 have LB := hid h.t.lt
 obtain ⟨N, hN⟩ : ∃ N : Nat, x.of_ = (N : Int) := ⟨x.of_.toNat, by omega⟩
 have HN := hid hN
 have hN5 : N ≤ 5 := by omega
 rw [show x.of_.toNat = N by omega]
 obtain ⟨V, hV⟩ : ∃ V, V = v.alloc (.cells (msgV { m with t := 1 } (.slice none 0 0)) 45) := ⟨_, rfl⟩
 have S0 := hid (show ToS B g tb v c a x { m with t := 1 } p X (colF v.heap.size c) a H n V by rw [hV]; exact BxS.start h _ _)
 clear h h0 h5 hN hx hH
 go_enter Tryz.func146, Tryz.ntmps146
 go_wp2_with fail
 rw [← hV]
 clear hV
 go_loopw [] (fun wr => ∃ (k : Nat) (c1 : Nat → Nat) (a1 : Option Addr) (n1 : Nat), k ≤ N ∧ ToS B g tb v c a x { m with t := (k : Int) + 1 } p X c1 a1 (H ++ othP x.num m k) n1 wr) (fun wr => (N + 1) - toL wr v.heap.size)
 case atStart => exact ⟨0, _, a, n, Nat.zero_le _, by simpa [othP] using S0.out⟩
 obtain ⟨k, c1, a1, n1, hk, hss⟩ := hrel
 have SS := hid hss
 have hlen : (H ++ othP x.num m k).length ≤ H.length + k := by have := othP_len x.num m k; simp; omega
 have LN := hid (show (H ++ othP x.num m k).length ≤ 4000000 by have := HLL.out; omega)
 have ML := hid (show toL wr v.heap.size = k + 1 by rw [toL_at hss.2.1]; show ((k : Int) + 1).toNat = k + 1; omega)
 clear hss S0 hlen
 have cM := SS.out.2.1.cell
 have cK := SS.out.1.k.cell
 have hof := HN.out
 by_cases hlt : k < N
 ·have u0 : decide ((k : Int) + 1 ≤ (N : Int)) = true := decide_eq_true (by omega)
  have e3 : IntKind.i64.wrap ((k : Int) + 1 + 1) = (k : Int) + 1 + 1 := by go_arith
  by_cases hnum : (k : Int) + 1 = x.num
  ·have u1 : ((k : Int) + 1 == x.num) = true := by rw [hnum]; exact beq_self_eq_true _
   have NU := hid hnum
   clear hnum
   go_wp2_with fail
   go_quiet (fail)
   obtain ⟨V2, hV2⟩ : ∃ u, u = wr.drewN nq := ⟨_, rfl⟩
   have S2 := hid (show ToS B g tb v c a x { m with t := (k : Int) + 1 } p X c1 a1 (H ++ othP x.num m k) n1 V2 by rw [hV2]; exact SS.out.ext (ext_drewN _ _))
   rw [← hV2]
   clear hV2 cM cK nq
   have cM := S2.out.2.1.cell
   have cK := S2.out.1.k.cell
   go_wp2_with fail
   go_quiet (fail)
   obtain ⟨V3, hV3⟩ : ∃ u, u = V2.drewN nq := ⟨_, rfl⟩
   have S3 := hid (show ToS B g tb v c a x { m with t := (k : Int) + 1 } p X c1 a1 (H ++ othP x.num m k) n1 V3 by rw [hV3]; exact S2.out.ext (ext_drewN _ _))
   rw [← hV3]
   clear hV3 cM cK nq
   have cM := S3.out.2.1.cell
   have fM := S3.out.2.1.free
   have cK := S3.out.1.k.cell
   go_wp2_with fail
   go_roundw
   case rel => exact ⟨k + 1, c1, a1, n1, by omega, by rw [othP_same NU.out]; exact S3.out.put LT.out LG.out LB.out ((k : Int) + 1 + 1)⟩
   case measure => rw [toL_at (S3.out.put LT.out LG.out LB.out ((k : Int) + 1 + 1)).2.1, ML.out]; show N + 1 - ((k : Int) + 1 + 1).toNat < N + 1 - (k + 1); omega
  have u1 : ((k : Int) + 1 == x.num) = false := beq_false_of_ne hnum
  have NU := hid hnum
  clear hnum
  go_wp2_with fail
  go_quiet (fail)
  obtain ⟨V2, hV2⟩ : ∃ u, u = wr.drewN nq := ⟨_, rfl⟩
  have S2 := hid (show ToS B g tb v c a x { m with t := (k : Int) + 1 } p X c1 a1 (H ++ othP x.num m k) n1 V2 by rw [hV2]; exact SS.out.ext (ext_drewN _ _))
  rw [← hV2]
  clear hV2 cM cK nq
  have cM := S2.out.2.1.cell
  have cK := S2.out.1.k.cell
  go_wp2_with fail
  go_quiet (fail)
  obtain ⟨V3, hV3⟩ : ∃ u, u = V2.drewN nq := ⟨_, rfl⟩
  have S3 := hid (show ToS B g tb v c a x { m with t := (k : Int) + 1 } p X c1 a1 (H ++ othP x.num m k) n1 V3 by rw [hV3]; exact S2.out.ext (ext_drewN _ _))
  rw [← hV3]
  clear hV3 cM cK nq S2
  have kM := S3.out.2.1
  go_wp2_with ((with_reducible refine wpList_load_m8 v.heap.size (msgV { m with t := (k : Int) + 1 } (.slice none 0 0)) rfl ?_ ?_ ?_); (· rfl); (· exact kM))
  clear kM
  refine (implSend B g tb x p X c1 a1 (H ++ othP x.num m k) n1 V3 S3.out.1 { m with t := (k : Int) + 1 } HX.out LN.out).mono ?_
  rintro e z ⟨⟨u, rfl⟩, pp⟩
  obtain ⟨c4, a4, n4, ts4⟩ := S3.out.next LG.out LB.out pp
  rw [List.append_assoc, ← othP_more NU.out] at ts4
  have S4 := hid ts4
  clear ts4 pp
  have cM := S4.out.2.1.cell
  have fM := S4.out.2.1.free
  go_wp2_with fail
  go_roundw
  case rel => exact ⟨k + 1, c4, a4, n4, by omega, S4.out.put LT.out LG.out LB.out ((k : Int) + 1 + 1)⟩
  case measure => rw [toL_at (S4.out.put LT.out LG.out LB.out ((k : Int) + 1 + 1)).2.1, ML.out]; show N + 1 - ((k : Int) + 1 + 1).toNat < N + 1 - (k + 1); omega
 have u0 : decide ((k : Int) + 1 ≤ (N : Int)) = false := decide_eq_false (by omega)
 have hkN : k = N := by omega
 subst hkN
 go_wp2_with fail
 go_quiet (fail)
 have PP := hid (SS.out.ext (ext_drewN _ nq)).sent
 go_wp2_with fail
 first | refine bodyPost_end (results_none rfl _ _ _) rfl ?_ | refine bodyPost_ret (results_none rfl _ _ _) rfl ?_
 exact ⟨⟨_, rfl⟩, PP.out⟩
end Go.Proofs.YtffklmlljekceaaGreat
