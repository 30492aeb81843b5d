import Derived.Test.YtffklmlljekceaaGreatQ43
import Derived.Test.YtffklmlljekceaaGreatQ47
import Derived.Test.YtffklmlljekceaaGreatQ48
namespace Go.Proofs.YtffklmlljekceaaGreat
open Go.ChangeShapes Go.WideShapes Go.ChangeAt Go.RowKit next
set_option linter.unusedSimpArgs false
set_option linter.unusedVariables false
set_option maxHeartbeats 16000000
set_option maxRecDepth 20000
theorem OutS.far {B : Nat} {v : World} {c : Nat → Nat} {a : Option Addr} {H : List Mp} {k : Nat} (h : OutS B v c a H k) {g : Nat} (hg : g < B) (cs : Array Value) : OutS B (v.setRow g cs) c a H k :=
 ⟨h.row.same fun x hx => setRow_other _ _ _ _ (by have := (h.row.lt x hx).1; omega), ⟨fun m hm => (h.inn.row m hm).same fun y hy => setRow_other _ _ _ _ (by have := ((h.inn.row m hm).lt y hy).1; omega), h.inn.apart⟩, h.ca, h.ci, h.gd⟩
theorem OutS.low {B B' : Nat} {v : World} {c : Nat → Nat} {a : Option Addr} {H : List Mp} {k : Nat} (h : OutS B v c a H k) (hB : B' ≤ B) : OutS B' v c a H k :=
 ⟨h.row.low hB, ⟨fun m hm => (h.inn.row m hm).low hB, h.inn.apart⟩, h.ca, h.ci, h.gd⟩
theorem OutS.nil0 (B : Nat) (v : World) (c : Nat → Nat) : OutS B v c none [] 0 := ⟨rowC_nil0 _ _ _ _ _ _, ⟨fun m hm => absurd hm (by simp), List.Pairwise.nil⟩, fun y hy => by simp at hy, fun q hq => absurd hq (by simp), fun i s hs => by simp at hs⟩
def IPost (w : World) (r' : Rc) (l : List Ms) (e : Ending) (w' : World) : Prop := ∃ p' X' c' a' H n', e = .returned (.tuple #[.agg (rcV r' p'), .slice a' H.length n']) ∧ H.map (·.1) = l ∧ RcHas w.heap.size w' r' p' X' c' ∧ OutS w.heap.size w' c' a' H n' ∧ Below w.heap.size w w'
theorem implRecTick (B : Nat) (r : Rc) (p : RcP) (X : RcX) (col : Nat → Nat) (w : World) (hS : RcSmall r) (h : RcHas B w r p X col) :
  Calls Tryz.prog 17 #[.agg (rcV r p)] w (IPost w (recTickR r) (recTickM r)) := by
 have RD := hid h
 have HS := hid hS
 clear h hS
 obtain ⟨V, hV⟩ : ∃ V, V = (w.alloc (.cells (rcV r p) 41)).alloc (.cells zRc 41) := ⟨_, rfl⟩
 have BV := hid (show Below w.heap.size w V by rw [hV]; exact ext_alloc (ext_alloc (Below.refl _ _) _) _)
 have K1 := hid (show Blk V w.heap.size (rcV r p) 41 by rw [hV]; exact (Blk.new _ _ _).alloc _)
 have K2 := hid (show Blk V (w.heap.size + 1) zRc 41 by rw [hV]; exact Blk.new' _ _ (by simp))
 have k1 := K1.out
 rw [hV] at k1
 go_enter Tryz.func17, Tryz.ntmps17
 go_wp2_with ((with_reducible refine wpList_load_rec w.heap.size (rcV r p) rfl ?_ ?_ ?_); (· rfl); (· exact k1))
 rw [← hV]
 clear hV k1
 refine (implValid r p _ (hid RD.out.t.len.2) (RD.out.ext BV.out).at).mono ?_
 rintro e w1 ⟨rfl, hb1⟩
 have B1 := hid (ext_trans BV.out hb1)
 have k1 := K1.out.ext hb1
 have k2 := K2.out.ext hb1
 have K2b := hid k2
 have SZ1 := hid (show (w.heap.size + 1) < w1.heap.size from k2.lt)
 clear hb1 K1 K2 BV
 cases hv : validB r
 case false =>
  have HN := hid (show recTickR r = rc0 ∧ recTickM r = [] from ⟨by unfold recTickR; rw [hv]; rfl, by unfold recTickM; rw [hv]; simp⟩)
  go_wp2_with (first
   | ((with_reducible refine wpList_build_to (ty := 41) zRc ?_ ?_); (· kernel_rfl))
   | ((with_reducible refine wpList_store_rec_at (w.heap.size + 1) zRc zRc rfl rfl ?_ ?_ ?_ ?_ ?_); (· rfl); (· rfl); (· exact k2); (· simp [Value.oneCell'])))
  have hz := setRow_heap _ (w.heap.size + 1) _ zRc _ _ k2
  refine ret_cell2 (ty := 41) Tryz.results17 (w.heap.size + 1) zRc _ ?_ ?_ hz Tryz.underlying41 rfl (by kernel_rfl) ?_
  ·rfl
  ·rfl
  rw [HN.out.1, HN.out.2]
  exact ⟨rp0, ⟨[], []⟩, fun _ => 0, none, [], 0, rfl, rfl, rc0_has _ _ _, OutS.nil0 _ _ _, below_setRow' B1.out (by omega) _⟩
 go_wp2_with ((with_reducible refine wpList_load_rec w.heap.size (rcV r p) rfl ?_ ?_ ?_); (· rfl); (· exact k1))
 refine (copyRec B r p X col _ HS.out (RD.out.ext B1.out)).mono ?_
 rintro e w2 ⟨p2, X2, col2, rfl, has2, hb2⟩
 have HAS := hid has2.fresh
 have B2 := hid (ext_trans B1.out hb2)
 have K2c := hid (K2b.out.ext hb2)
 have SZ2 := hid (show w1.heap.size ≤ w2.heap.size from hb2.size)
 clear has2 hb2 k1 k2 K2b
 obtain ⟨W, hW⟩ : ∃ W, W = w2.alloc (.cells (rcV r p2) 41) := ⟨_, rfl⟩
 have EW := hid (show Below w2.heap.size w2 W by rw [hW]; exact ext_alloc (Below.refl _ _) _)
 have K5 := hid (show Blk W w2.heap.size (rcV r p2) 41 by rw [hW]; exact Blk.new _ _ _)
 have K2d := hid (K2c.out.ext EW.out)
 have HAW := hid (HAS.out.ext EW.out)
 have BW := hid (ext_trans B2.out EW.out)
 have k5 := K5.out
 have k2 := K2d.out
 rw [hW] at k5 k2
 have c2 := k5.cell
 cases hu : r.up
 case false =>
  have HN := hid (show recTickR r = r ∧ recTickM r = [] from ⟨by unfold recTickR; rw [if_pos hv, hu]; rfl, by unfold recTickM; rw [hu]; simp⟩)
  have c2' : (w2.alloc (.cells (rcV r p2) 41)).cell? ⟨w2.heap.size, 2, none⟩ = some (.bool false) := by rw [c2]; simp [hu]
  clear c2 hu
  go_wp2_with (first
   | ((with_reducible refine wpList_store_rec (rcV r p2) rfl ?_ ?_ ?_ ?_ ?_); (· rfl); (· rfl); (· rfl); (· simp [Value.oneCell']))
   | ((with_reducible refine wpList_load_rec w2.heap.size (rcV r p2) rfl ?_ ?_ ?_); (· rfl); (· exact k5))
   | ((with_reducible refine wpList_store_rec_at (w.heap.size + 1) zRc (rcV r p2) rfl rfl ?_ ?_ ?_ ?_ ?_); (· rfl); (· rfl); (· exact k2); (· simp [Value.oneCell'])))
  have hz := setRow_heap _ (w.heap.size + 1) _ (rcV r p2) _ _ k2
  refine ret_cell2 (ty := 41) Tryz.results17 (w.heap.size + 1) (rcV r p2) _ ?_ ?_ hz Tryz.underlying41 rfl (by kernel_rfl) ?_
  ·rfl
  ·rfl
  rw [HN.out.1, HN.out.2, ← hW]
  exact ⟨p2, X2, _, none, [], 0, rfl, rfl, (HAW.out.far (by have := SZ1.out; omega) _).lower (by have := SZ1.out; omega), OutS.nil0 _ _ _, below_setRow' BW.out (by omega) _⟩
 have HU := hid hu
 have HV := hid hv
 have c2' : (w2.alloc (.cells (rcV r p2) 41)).cell? ⟨w2.heap.size, 2, none⟩ = some (.bool true) := by rw [c2]; simp [hu]
 clear c2 hu hv k5 k2
 go_wp2_with ((with_reducible refine wpList_store_rec (rcV r p2) rfl ?_ ?_ ?_ ?_ ?_); (· rfl); (· rfl); (· rfl); (· simp [Value.oneCell']))
 rw [← hW]
 clear hW c2'
 refine (implTick w1.heap.size w2.heap.size r p2 X2 _ W SZ2.out K5.out (by rw [colF_new (Nat.le_refl _)]; omega) HV.out HU.out HS.out HAW.out).mono ?_
 have FIN := hid (show recTickR r = tickR r ∧ recTickM r = r.held ++ (tickP r).map (·.1) from ⟨by unfold recTickR; rw [if_pos HV.out, if_pos HU.out], by unfold recTickM; rw [if_pos ⟨HV.out, HU.out⟩]⟩)
 obtain ⟨T7, hT7⟩ : ∃ x, x = tickR r := ⟨_, rfl⟩
 obtain ⟨L7, hL7⟩ : ∃ x, x = r.held ++ (tickP r).map (·.1) := ⟨_, rfl⟩
 rw [← hT7, ← hL7] at FIN ⊢
 clear hT7 hL7
 rintro e w3 ⟨p3, X3, c3, a3, H3, n3, rfl, hm3, k3, has3, out3, cg3, hb3, ot3⟩
 have H3m := hid hm3
 have HS3 := hid has3
 have O3 := hid out3
 have B3 := hid (BW.out.trans (hb3.mono (show w.heap.size ≤ w1.heap.size by have := SZ1.out; omega)))
 have k2 : Blk w3 (w.heap.size + 1) zRc 41 := (hb3.block _ SZ1.out).trans K2d.out
 clear hm3 has3 out3 cg3 hb3 ot3
 go_wp2_with (first
  | ((with_reducible refine wpList_load_rec w2.heap.size (rcV T7 p3) rfl ?_ ?_ ?_); (· rfl); (· exact k3))
  | ((with_reducible refine wpList_store_rec_at (w.heap.size + 1) zRc (rcV T7 p3) rfl rfl ?_ ?_ ?_ ?_ ?_); (· rfl); (· rfl); (· exact k2); (· simp [Value.oneCell'])))
 have hz := setRow_heap _ (w.heap.size + 1) _ (rcV T7 p3) _ _ k2
 refine ret_cell2 (ty := 41) Tryz.results17 (w.heap.size + 1) (rcV T7 p3) _ ?_ ?_ hz Tryz.underlying41 rfl (by kernel_rfl) ?_
 ·rfl
 ·rfl
 rw [FIN.out.1, FIN.out.2]
 exact ⟨p3, X3, c3, a3, H3, n3, rfl, H3m.out, (HS3.out.far SZ1.out _).lower (by have := SZ1.out; omega), (O3.out.far SZ1.out _).low (by have := SZ1.out; omega), below_setRow' B3.out (by omega) _⟩
end Go.Proofs.YtffklmlljekceaaGreat
namespace Go.Proofs.YtffklmlljekceaaGreat
open Go.ChangeShapes Go.WideShapes Go.ChangeAt Go.RowKit
set_option linter.unusedSimpArgs false
set_option linter.unusedVariables false
set_option maxHeartbeats 16000000
set_option maxRecDepth 20000
theorem wpList_load_lrec {ops : Array Oper} {rest : List Oper} {dst : Option Tmp} {x : Operand} {τ : TypeId} {pos : String} {after : Array Edge} {a : Act} {w : World} {Q : Exit → Act → World → Prop}
  (g : Nat) (cs : Array Value) (hs : cs.size = 18) (hx : a.eval x = .pointer (some ⟨g, 0, none⟩)) (hg : Blk w g cs 30)
  (h : wpList Tryz.prog ops Q rest (a.put dst (.agg cs)) w) :
  wpList Tryz.prog ops Q ({ dst := dst, op := .load 30 x, type := τ, pos := pos, after := after, guard := none } :: rest) a w :=
 wpList_load_blk g cs _ hx hg Tryz.underlying30 rfl (by rw [hs]; kernel_rfl) h
structure LawS (B : World) (g1 g2 : Nat) (r : Rc) (p q : RcP) (w' : World) : Prop where
 blk : Blk w' g1 (rcV r p) 30
 own : Blk w' g2 (rcV r q) 41
 bel : Below B.heap.size B w'
theorem LawS.ext {B : World} {g1 g2 : Nat} {r : Rc} {p q : RcP} {w' v' : World} (h : LawS B g1 g2 r p q w') (hb : Below w'.heap.size w' v') : LawS B g1 g2 r p q v' := ⟨h.blk.ext hb, h.own.ext hb, ext_trans h.bel hb⟩
theorem LawS.drew {B : World} {g1 g2 : Nat} {r : Rc} {p q : RcP} {w' : World} (h : LawS B g1 g2 r p q w') : LawS B g1 g2 r p q w'.drew := ⟨h.blk, h.own, h.bel.drew⟩
theorem yields_law {ops : Array Oper} {o : Oper} {a : Act} {B : World} {g1 g2 : Nat} {r : Rc} {p q : RcP} (hw : Region.wanted o (yielded ops a.tmps) = true) (x : Operand) (ho : o.op = .load 30 x) (hx : a.eval x = .pointer (some ⟨g1, 0, none⟩)) :
  YieldsIf Tryz.prog ops (LawS B g1 g2 r p q) o (.agg (rcV r p)) a :=
 .inl ⟨hw, fun w hS => by
  unfold execOp
  simp only [ho, hx, Instr.loadAt, Instr.sureAddr, Sem.run_bind, Sem.run_pure, Result.andThen_ok, run_loadVar_row w g1 30 30 (rcV r p) (0, 0) _ hS.blk Tryz.underlying30 rfl (by kernel_rfl)]⟩
theorem yields_own {ops : Array Oper} {o : Oper} {a : Act} {B : World} {g1 g2 : Nat} {r : Rc} {p q : RcP} (hw : Region.wanted o (yielded ops a.tmps) = true) (x : Operand) (ho : o.op = .load 41 x) (hx : a.eval x = .pointer (some ⟨g2, 0, none⟩)) :
  YieldsIf Tryz.prog ops (LawS B g1 g2 r p q) o (.agg (rcV r q)) a :=
 .inl ⟨hw, fun w hS => by
  unfold execOp
  simp only [ho, hx, Instr.loadAt, Instr.sureAddr, Sem.run_bind, Sem.run_pure, Result.andThen_ok, run_loadVar_row w g2 41 41 (rcV r q) (0, 0) _ hS.own Tryz.underlying41 rfl (by kernel_rfl)]⟩
theorem kM_bound {N : Nat → Nat} {k : Nat} (hN : ∀ j, N j ≤ 1048576) : ∀ n, kM N k n ≤ k + n * 2097159
 | 0 => by simp [kM]
 | n + 1 => by
  have h1 := kM_bound (k := k) hN n
  have h2 := hN n
  rw [kM_step]
  omega
theorem kA_bound {N : Nat → Nat} {k : Nat} (hN : ∀ j, N j ≤ 1048576) : ∀ n, kA N k n ≤ k + n * 1048577
 | 0 => by simp [kA]
 | n + 1 => by
  have h1 := kA_bound (k := k) hN n
  have h2 := hN n
  rw [kA_step]
  omega
theorem lenM_small {l : List Ms} (h : MsgsSmall l) : ∀ i, lenM l i ≤ 1048576 := fun i => by
 unfold lenM
 cases h0 : l[i]? with
 | none => simp
 | some s => exact h i s h0
theorem lenA_small {l : List Ak} (h : AcksSmall l) : ∀ i, lenA l i ≤ 1048576 := fun i => by
 unfold lenA
 cases h0 : l[i]? with
 | none => simp
 | some s => exact h i s h0
theorem cnt_le {r : Rc} (h : RcSmall r) : cnt r (lenM r.held) (lenA r.acks) 1 7 ≤ 1152921504606846900 := by
 have h1 := kM_bound (k := 1 + 2 * r.ss.length + 2 * r.ds.length) (lenM_small h.nH) r.held.length
 have h2 := kA_bound (k := kM (lenM r.held) (1 + 2 * r.ss.length + 2 * r.ds.length) r.held.length + r.wish.length + r.yes.length + 2 * r.best.length) (lenA_small h.nA) r.acks.length
 have := h.lS
 have := h.lD
 have := h.lH
 have := h.lW
 have := h.lY
 have := h.lB
 have := h.lA
 simp only [cnt]
 omega
theorem Wrote.below {B : Nat} {a w w' : World} {ws : Ws} (h : Below B a w) (k : Wrote w w' ws) (ha : B ≤ a.heap.size) (hB : ∀ q ∈ ws, B ≤ q.1.block) : Below B a w' :=
 h.trans ⟨k.os, k.tape, k.output, k.size, fun i hi => k.block i (Nat.lt_of_lt_of_le hi (Nat.le_trans ha h.size)) (fun q hq => by have := hB q hq; omega)⟩
theorem marks_ext {w w' : World} {ws : Ws} (h : ∀ q ∈ ws, w.cell? q.1 = some q.2) (hl : ∀ q ∈ ws, q.1.block < w.heap.size) (k : Below w.heap.size w w') : ∀ q ∈ ws, w'.cell? q.1 = some q.2 := fun q hq => (k.cell (p := q.1) (hl q hq)).trans (h q hq)
theorem wsTo_zone {r : Rc} {p : RcP} {AH : Nat → Option Addr} {NH : Nat → Nat} {AA : Nat → Option Addr} {NA : Nat → Nat} {k m : Nat} {q : Addr × Value} (h : q ∈ wsTo r p AH NH AA NA k m) : ∃ i, zone r p AH NH AA NA i q.1 := by
 obtain ⟨i, _, hi⟩ := wsTo_mem r p AH NH AA NA k m q h
 exact ⟨i, wsL_zone r p AH NH AA NA k i q hi⟩
theorem Room.some {w : World} {a : Option Addr} {m j : Nat} (h : Room w a m) (hj : j < m) : ∃ b off, a = some ⟨b, off, none⟩ := by
 obtain ⟨b, off, e, _⟩ := h j hj
 exact ⟨b, off, e⟩
theorem Room.adr_inj {w : World} {a : Option Addr} {m j i : Nat} (h : Room w a m) (hj : j < m) (e : adr a i = adr a j) : i = j := by
 obtain ⟨b, off, rfl⟩ := h.some hj
 rw [adr_some, adr_some] at e
 simp only [Addr.mk.injEq, true_and, and_true] at e
 omega
theorem LayM.marked {w w' : World} {a : Option Addr} {A : Nat → Option Addr} {N cp : Nat → Nat} {n : Nat} {ws : Ws} (h : LayM w a A N cp n) (k : Wrote w w' ws) (hn : ∀ q ∈ ws, ∀ i, i < n → q.1 ≠ adr a (i * 8 + 7)) : LayM w' a A N cp n :=
 ⟨h.room.wrote k, fun i hi => (k.keep _ (h.room.lt (by omega)) (fun q hq => hn q hq i hi)).trans (h.hd i hi), fun i hi => (h.inner i hi).wrote k, h.far, h.apart⟩
theorem LayA.marked {w w' : World} {a : Option Addr} {A : Nat → Option Addr} {N cp : Nat → Nat} {n : Nat} {ws : Ws} (h : LayA w a A N cp n) (k : Wrote w w' ws) (hn : ∀ q ∈ ws, ∀ i, i < n → q.1 ≠ adr a (i * 2 + 1)) : LayA w' a A N cp n :=
 ⟨h.room.wrote k, fun i hi => (k.keep _ (h.room.lt (by omega)) (fun q hq => hn q hq i hi)).trans (h.hd i hi), fun i hi => (h.inner i hi).wrote k, h.far, h.apart⟩
theorem RcLay.marked {w w' : World} {r : Rc} {p : RcP} {AH : Nat → Option Addr} {NH cH : Nat → Nat} {AA : Nat → Option Addr} {NA cA : Nat → Nat} {k : Nat} (h : RcLay w r p AH NH cH AA NA cA) (hw : Wrote w w' (wsTo r p AH NH AA NA k 7)) : RcLay w' r p AH NH cH AA NA cA := by
 refine ⟨h.s.wrote hw, h.d.wrote hw, h.h.marked hw (fun q hq i hi e => ?_), h.t.wrote hw, h.y.wrote hw, h.b.wrote hw, h.a.marked hw (fun q hq i hi e => ?_), h.far⟩
 ·obtain ⟨j, hj, hm⟩ := wsTo_mem r p AH NH AA NA k 7 q hq
  have z2 : zone r p AH NH AA NA 2 q.1 := .inl ⟨i * 8 + 7, by omega, e⟩
  by_cases h2 : j = 2
  ·subst h2
   rcases wsM_mem _ _ _ _ _ q hm with ⟨i', t, h1, h2, h3⟩ | ⟨i', j', h1, h2, h3⟩
   ·rw [h3] at e
    have := h.h.room.adr_inj (j := i * 8 + 7) (by omega) e
    omega
   rw [h3] at e
   exact h.h.far i' j' (i * 8 + 7) h1 h2 (by omega) e
  exact h.far j 2 q.1 h2 (wsL_zone r p AH NH AA NA k j q hm) z2
 obtain ⟨j, hj, hm⟩ := wsTo_mem r p AH NH AA NA k 7 q hq
 have z2 : zone r p AH NH AA NA 6 q.1 := .inl ⟨i * 2 + 1, by omega, e⟩
 by_cases h2 : j = 6
 ·subst h2
  rcases wsA_mem _ _ _ _ _ q hm with ⟨i', t, h1, h2, h3⟩ | ⟨i', j', h1, h2, h3⟩
  ·rw [h3] at e
   have := h.a.room.adr_inj (j := i * 2 + 1) (by omega) e
   omega
  rw [h3] at e
  exact h.a.far i' j' (i * 2 + 1) h1 h2 (by omega) e
 exact h.far j 6 q.1 h2 (wsL_zone r p AH NH AA NA k j q hm) z2
end Go.Proofs.YtffklmlljekceaaGreat
namespace Go.Proofs.YtffklmlljekceaaGreat
open Go.ChangeShapes Go.WideShapes Go.ChangeAt Go.RowKit next
set_option linter.unusedSimpArgs false
set_option linter.unusedVariables false
set_option maxHeartbeats 16000000
set_option maxRecDepth 20000
theorem RcHas.zone8 {B : Nat} {w : World} {r : Rc} {p : RcP} {X : RcX} {col : Nat → Nat} (h : RcHas B w r p X col) : ∀ i x, zone r p (ixA (X.H.map (·.2))) (lenM r.held) (ixA (X.A.map (·.2))) (lenA r.acks) i x → col x.block ≤ 8 := fun i x hz => by
 obtain ⟨lH, cH⟩ := lay_m h.h rfl h.hm h.hi
 obtain ⟨lA, cA⟩ := lay_a h.a rfl h.am h.ai
 match i, hz with
 | 0, hz => have := zR_col h.s rfl hz; omega
 | 1, hz => have := zR_col h.d rfl hz; omega
 | 2, hz =>
  rcases hz with hz | ⟨i, j, hi, hj, rfl⟩
  ·have := zR_col h.h rfl hz; omega
  ·have := cH i j hi hj; omega
 | 3, hz => have := zR_col h.t (Nat.mul_one _).symm hz; omega
 | 4, hz => have := zR_col h.y (Nat.mul_one _).symm hz; omega
 | 5, hz => have := zR_col h.b rfl hz; omega
 | 6, hz =>
  rcases hz with hz | ⟨i, j, hi, hj, rfl⟩
  ·have := zR_col h.a rfl hz; omega
  have := cA i j hi hj; omega
 | _ + 7, hz => exact hz.elim
theorem OutS.apart {B : Nat} {w w' : World} {c : Nat → Nat} {a : Option Addr} {H : List Mp} {k : Nat} {ws : Ws} (h : OutS B w c a H k) (wr : Wrote w w' ws) (hd : ∀ q ∈ ws, q.1.block < B ∨ c q.1.block ≤ 8) : OutS B w' c a H k := by
 refine ⟨h.row.same fun x hx => wr.block _ (h.row.lt x hx).2 (fun q hq e => ?_), ⟨fun m hm => (h.inn.row m hm).same fun y hy => wr.block _ ((h.inn.row m hm).lt y hy).2 (fun q hq e => ?_), h.inn.apart⟩, h.ca, h.ci, h.gd⟩
 ·have h1 := (h.row.lt x hx).1
  have h2 := h.ca x hx
  have := hd q hq
  rw [e] at this
  omega
 have h1 := ((h.inn.row m hm).lt y hy).1
 have h2 := (h.ci m hm y hy).1
 have := hd q hq
 rw [e] at this
 omega
abbrev aM (H : List Mp) : Nat → Option Addr := ixA (H.map (·.2))
abbrev nM (H : List Mp) : Nat → Nat := lenM (H.map (·.1))
abbrev cM (H : List Mp) : Nat → Nat := ixC (H.map (·.2))
theorem OutS.lay {B : Nat} {w : World} {c : Nat → Nat} {a : Option Addr} {H : List Mp} {k : Nat} (h : OutS B w c a H k) : LayM w a (aM H) (nM H) (cM H) H.length := by
 obtain ⟨col, hcol⟩ : ∃ col : Nat → Nat, col = fun b => if a.map (·.block) = some b then 2 else 7 := ⟨_, rfl⟩
 have h1 : RowC B w col 2 45 8 a H.length k (flatM H) := h.row.tint fun x hx => by rw [hcol, hx]; simp
 have h2 : InnM B w col 7 H := ⟨fun m hm => (h.inn.row m hm).tint fun y hy => by
  rw [hcol]
  refine if_neg (fun e => ?_)
  cases ha : a with
  | none => rw [ha] at e; simp at e
  | some x =>
   rw [ha] at e
   simp only [Option.map_some, Option.some.injEq] at e
   exact (h.ci m hm y hy).2 x ha e, h.inn.apart⟩
 exact (lay_m h1 (List.length_map _) rfl h2).1
theorem OutS.marks {B : Nat} {w : World} {c : Nat → Nat} {a : Option Addr} {H : List Mp} {k j : Nat} (h : OutS B w c a H k) : ∀ q ∈ wsM a (aM H) (nM H) j H.length, 8 < c q.1.block ∧ B ≤ q.1.block ∧ q.1.block < w.heap.size := fun q hq => by
 have L := h.lay
 rcases wsM_mem _ _ _ _ _ q hq with ⟨i, t, hi, ht, e⟩ | ⟨i, j', hi, hj, e⟩
 ·obtain ⟨b, off, ea⟩ := L.room.some (show i * 8 + t < H.length * 8 by omega)
  have hb : q.1.block = b := by rw [e, ea, adr_some]
  rw [hb]
  exact ⟨h.ca _ ea, (h.row.lt _ ea).1, (h.row.lt _ ea).2⟩
 obtain ⟨b, off, ea⟩ := (L.inner i hi).some hj
 have hb : q.1.block = b := by rw [e, ea, adr_some]
 have h0 : H[i]? = some H[i] := List.getElem?_eq_getElem hi
 have e2 : (H[i]).2.1 = some ⟨b, off, none⟩ := by rw [← ea]; simp [aM, ixA, h0]
 have hm := List.mem_of_getElem? h0
 rw [hb]
 exact ⟨(h.ci _ hm _ e2).1, ((h.inn.row _ hm).lt _ e2).1, ((h.inn.row _ hm).lt _ e2).2⟩
theorem LayM.own {w w' : World} {a : Option Addr} {A : Nat → Option Addr} {N cp : Nat → Nat} {n k : Nat} (h : LayM w a A N cp n) (wr : Wrote w w' (wsM a A N k n)) : LayM w' a A N cp n :=
 h.marked wr fun q hq i hi e => by
  rcases wsM_mem _ _ _ _ _ q hq with ⟨i', t, h1, h2, h3⟩ | ⟨i', j', h1, h2, h3⟩
  ·rw [h3] at e
   have := h.room.adr_inj (j := i * 8 + 7) (by omega) e
   omega
  rw [h3] at e
  exact h.far i' j' (i * 8 + 7) h1 h2 (by omega) e
theorem RcLay.away {w w' : World} {r : Rc} {p : RcP} {AH : Nat → Option Addr} {NH cH : Nat → Nat} {AA : Nat → Option Addr} {NA cA : Nat → Nat} {ws : Ws} (h : RcLay w r p AH NH cH AA NA cA) (k : Wrote w w' ws) (hd : ∀ q ∈ ws, ∀ i, ¬ zone r p AH NH AA NA i q.1) : RcLay w' r p AH NH cH AA NA cA :=
 ⟨h.s.wrote k, h.d.wrote k, h.h.marked k (fun q hq i hi e => hd q hq 2 (.inl ⟨i * 8 + 7, by omega, e⟩)), h.t.wrote k, h.y.wrote k, h.b.wrote k, h.a.marked k (fun q hq i hi e => hd q hq 6 (.inl ⟨i * 2 + 1, by omega, e⟩)), h.far⟩
theorem cnt_le2 {r : Rc} (h : RcSmall r) : cnt r (lenM r.held) (lenA r.acks) 1 7 ≤ 8000000000000 := by
 have h1 := kM_bound (k := 1 + 2 * r.ss.length + 2 * r.ds.length) (lenM_small h.nH) r.held.length
 have h2 := kA_bound (k := kM (lenM r.held) (1 + 2 * r.ss.length + 2 * r.ds.length) r.held.length + r.wish.length + r.yes.length + 2 * r.best.length) (lenA_small h.nA) r.acks.length
 have := h.lS
 have := h.lD
 have := h.lH
 have := h.lW
 have := h.lY
 have := h.lB
 have := h.lA
 simp only [cnt]
 omega
theorem kM_small {l : List Ms} {k n : Nat} (h : MsgsSmall l) (hk : k ≤ 8000000000000) (hn : n ≤ 1048576) : kM (lenM l) k n ≤ 1152921504606846900 := by
 have h1 := kM_bound (k := k) (lenM_small h) n
 omega
theorem othP_nil {num : Int} {m : MsgH} : ∀ k, ∀ q ∈ othP num m k, q.1.2 = []
 | 0, q, hq => by simp [othP] at hq
 | k + 1, q, hq => by
  unfold othP at hq
  split at hq
  ·exact othP_nil k q hq
  rcases List.mem_append.1 hq with hq | hq
  ·exact othP_nil k q hq
  simp only [List.mem_cons, List.not_mem_nil, or_false] at hq
  rw [hq]; rfl
theorem accP_nil {r : Rc} : ∀ n, ∀ q ∈ accP r n, q.1.2 = []
 | 0, q, hq => by simp [accP] at hq
 | n + 1, q, hq => by
  unfold accP at hq
  rcases List.mem_append.1 hq with hq | hq
  ·exact accP_nil n q hq
  exact othP_nil _ q hq
theorem rc0_small : RcSmall rc0 := ⟨by simp [rc0], by simp [rc0], by simp [rc0], by simp [rc0], by simp [rc0], by simp [rc0], by simp [rc0], fun i s hs => by simp [rc0] at hs, fun i s hs => by simp [rc0] at hs⟩
theorem tick_small {r : Rc} (hS : RcSmall r) : RcSmall (recTickR r) ∧ MsgsSmall (recTickM r) ∧ (recTickM r).length ≤ 1048576 := by
 cases hv : validB r
 ·refine ⟨?_, ?_, ?_⟩
  ·unfold recTickR; rw [hv]; exact rc0_small
  ·unfold recTickM; rw [hv]; simp [MsgsSmall]
  unfold recTickM; rw [hv]; simp
 have F := tickFacts hv hS
 cases hu : r.up
 ·refine ⟨?_, ?_, ?_⟩
  ·unfold recTickR; rw [if_pos hv, hu]; exact hS
  ·unfold recTickM; rw [hu]; simp [MsgsSmall]
  unfold recTickM; rw [hu]; simp
 have hl := F.hl
 have K := leadFacts F.o2
 have hP : ∀ q ∈ tickP r, q.1.2 = [] := fun q hq => by
  unfold tickP at hq
  split at hq
  ·unfold leadP at hq
   rcases List.mem_append.1 hq with hq | hq
   ·exact othP_nil _ q hq
   exact accP_nil _ q hq
  simp at hq
 have hL : (tickP r).length ≤ 1000 := by
  unfold tickP
  split
  ·have := leadP_len K.of_.2 K.ds2
   omega
  simp
 refine ⟨?_, ?_, ?_⟩
 ·unfold recTickR tickR
  rw [if_pos hv, if_pos hu]
  split
  ·exact (leadT_small F.o2).1
  exact tryR_small F.o2
 ·unfold recTickM
  rw [if_pos ⟨hv, hu⟩]
  intro i s hs
  have hm := List.mem_of_getElem? hs
  rcases List.mem_append.1 hm with hm | hm
  ·obtain ⟨j, hj⟩ := List.getElem?_of_mem hm
   exact hS.nH j s hj
  rw [List.mem_map] at hm
  obtain ⟨q, hq, rfl⟩ := hm
  rw [hP q hq]; exact Nat.zero_le _
 unfold recTickM
 rw [if_pos ⟨hv, hu⟩, List.length_append, List.length_map]
 omega
end Go.Proofs.YtffklmlljekceaaGreat
