/-
  Worlds: sz, to, eq of the same data twice.
-/
import Derived.Test.YtgjommccflfjaaaWRecsEq
import Derived.Test.YtgjommccflfjaaaWFix
namespace Go.Proofs.Ytgjommccflfjaaa
open Go.ChangeShapes Go.WideShapes Go.ChangeAt Go.RowKit Go.Deep Go.Joins
set_option linter.unusedVariables false
set_option linter.unusedSimpArgs false

/-- a world's data -/
structure Wd where
  recs : List Rc
  fl : List Ms
  fx : List Sl
/-- where its lists lie -/
structure WdP where
  aR : Option Addr
  cR : Nat
  aF : Option Addr
  cF : Nat
  aX : Option Addr
  cX : Nat
abbrev wdV (d : Wd) (p : WdP) : Array Value := #[.slice p.aR d.recs.length p.cR, .slice p.aF d.fl.length p.cF, .slice p.aX d.fx.length p.cX]
structure WdAt (w : World) (d : Wd) (p : WdP) : Prop where
  hR : RecsAt w p.aR d.recs
  lR : d.recs.length ≤ maxLen
  hF : MsgsAt w p.aF d.fl
  lF : d.fl.length ≤ maxLen
  hX : SlotsAt w p.aX d.fx
  lX : d.fx.length ≤ maxLen
theorem WdAt.ext {w w' : World} {d : Wd} {p : WdP} (h : WdAt w d p) (hb : Below w.heap.size w w') : WdAt w' d p :=
  ⟨h.hR.ext hb, h.lR, h.hF.ext hb, h.lF, h.hX.ext hb, h.lX⟩
structure WdTo (w : World) (d : Wd) (p : WdP) : Prop where
  hR : RecsTo w p.aR d.recs
  lR : d.recs.length ≤ maxLen
  hF : MsgsAt w p.aF d.fl
  lF : d.fl.length ≤ maxLen
  hX : SlotsAt w p.aX d.fx
  lX : d.fx.length ≤ maxLen
theorem WdTo.ext {w w' : World} {d : Wd} {p : WdP} (h : WdTo w d p) (hb : Below w.heap.size w w') : WdTo w' d p :=
  ⟨h.hR.ext hb, h.lR, h.hF.ext hb, h.lF, h.hX.ext hb, h.lX⟩
theorem WdTo.at {w : World} {d : Wd} {p : WdP} (h : WdTo w d p) : WdAt w d p := ⟨h.hR.at, h.lR, h.hF, h.lF, h.hX, h.lX⟩
structure WdSmall (d : Wd) : Prop where
  lR : d.recs.length ≤ 1048576
  nR : RecsSmall d.recs
  lF : d.fl.length ≤ 1048576
  nF : MsgsSmall d.fl
  lX : d.fx.length ≤ 1048576

set_option maxHeartbeats 2000000 in
theorem szWd (d : Wd) (p : WdP) (left : Int) (w : World) (hl : 0 ≤ left) (hm : left ≤ 1048576) (h : WdAt w d p) :
    Calls Try.prog 12 #[.agg (wdV d p), .int .i64 left] w fun e w' => ∃ q : Int, e = .returned (.int .i64 q) ∧ -1 ≤ q ∧ q ≤ left ∧ (0 ≤ q → WdSmall d) ∧ Below w.heap.size w w' := by
  have hB : Below w.heap.size w (w.alloc (.cells (wdV d p) 35)) := ext_alloc (Below.refl _ _) _
  have hR := h.ext hB
  have b0 := Blk.new w (wdV d p) 35
  clear h
  go_enter Try.func12, Try.ntmps12
  go_wp2_with fail
  refine (szRecs p.aR d.recs _ p.cR _ _ rfl (by omega) (by omega) hR.lR hR.hR).mono ?_
  rintro e w0 ⟨q0, rfl, u0, v0, s0, hb0⟩
  have cb0 := (b0.ext hb0).cell
  by_cases hq0 : q0 < 0
  · go_wp2_with fail
    go_ret
    exact ⟨-1, rfl, by omega, by omega, fun h => absurd h (by omega), ext_trans hB hb0⟩
  go_wp2_with fail
  refine (szMsgs p.aF d.fl _ p.cF _ _ rfl (by omega) (by omega) hR.lF (hR.ext hb0).hF).mono ?_
  rintro e w1 ⟨q1, rfl, u1, v1, s1, hb1⟩
  have HB1 := ext_trans hb0 hb1
  have cb1 := (b0.ext HB1).cell
  clear cb0
  by_cases hq1 : q1 < 0
  · go_wp2_with fail
    go_ret
    exact ⟨-1, rfl, by omega, by omega, fun h => absurd h (by omega), ext_trans hB HB1⟩
  go_wp2_with fail
  refine (szFixs p.aX d.fx _ p.cX _ _ rfl (by omega) (by omega) hR.lX (hR.ext HB1).hX).mono ?_
  rintro e w2 ⟨q2, rfl, u2, v2, s2, hb2⟩
  have HB2 := ext_trans HB1 hb2
  clear cb1
  by_cases hq2 : q2 < 0
  · go_wp2_with fail
    go_ret
    exact ⟨-1, rfl, by omega, by omega, fun h => absurd h (by omega), ext_trans hB HB2⟩
  go_wp2_with fail
  go_ret
  exact ⟨q2, rfl, by omega, by omega, fun _ => ⟨(s0 (by omega)).1, (s0 (by omega)).2, (s1 (by omega)).1, (s1 (by omega)).2, s2 (by omega)⟩, ext_trans hB HB2⟩

theorem RecsOwn.setCell {w : World} {g : Nat} {l : List Rc} {k : Nat} (h : RecsOwn w g l k) {x : Addr} (hx : x.block < g) (v : Value) : RecsOwn (w.setCell x v) g l k := fun i r hi hr => by
  have hs : ∀ b, g ≤ b → (w.setCell x v).heap[b]? = w.heap[b]? := fun b hb => heap_setCell_other w x b v (by omega)
  obtain ⟨p, h1, h2, h3⟩ := h i r hi hr
  refine ⟨p, fun j u hu => ?_, h2.same (B := g + 1) h3 (fun b hb => hs b (by omega)), h3⟩
  have := h1 j u hu
  rw [← this]
  exact World.cell?_setCell_far w _ _ _ (by simp; omega)

set_option maxHeartbeats 2000000 in
theorem toWd (d : Wd) (p : WdP) (w : World) (hS0 : WdSmall d) (h : WdAt w d p) :
    Calls Try.prog 14 #[.agg (wdV d p)] w fun e w' => ∃ p', e = .returned (.agg (wdV d p')) ∧ WdTo w' d p' ∧ Below w.heap.size w w' := by
  have hS : Hid (WdSmall d) := hS0
  clear hS0
  have hB : Below w.heap.size w (((w.alloc (.cells (wdV d p) 35)).alloc (.cells #[.slice none 0 0, .slice none 0 0, .slice none 0 0] 26)).alloc (.cells #[.slice none 0 0, .slice none 0 0, .slice none 0 0] 26)) := ext_alloc (ext_alloc (ext_alloc (Below.refl _ _) _) _) _
  have a0 := h.ext hB
  have k0 : Blk (((w.alloc (.cells (wdV d p) 35)).alloc (.cells #[.slice none 0 0, .slice none 0 0, .slice none 0 0] 26)).alloc (.cells #[.slice none 0 0, .slice none 0 0, .slice none 0 0] 26)) w.heap.size (wdV d p) 35 := ((Blk.new w _ _).alloc _).alloc _
  have k1 : Blk (((w.alloc (.cells (wdV d p) 35)).alloc (.cells #[.slice none 0 0, .slice none 0 0, .slice none 0 0] 26)).alloc (.cells #[.slice none 0 0, .slice none 0 0, .slice none 0 0] 26)) (w.heap.size + 1) #[.slice none 0 0, .slice none 0 0, .slice none 0 0] 26 := (Blk.new' _ _ (by simp)).alloc _
  have k2 : Blk (((w.alloc (.cells (wdV d p) 35)).alloc (.cells #[.slice none 0 0, .slice none 0 0, .slice none 0 0] 26)).alloc (.cells #[.slice none 0 0, .slice none 0 0, .slice none 0 0] 26)) (w.heap.size + 1 + 1) #[.slice none 0 0, .slice none 0 0, .slice none 0 0] 26 := Blk.new' _ _ (by simp)
  go_enter Try.func14, Try.ntmps14
  go_wp2_with fail
  refine (toRecs p.aR d.recs _ p.cR _ rfl hS.out.lR hS.out.nR a0.hR).mono ?_
  rintro e w1 ⟨g1, rfl, hg1, hl1, o1, hb1⟩
  have hsz : w.heap.size + 1 + 1 < g1 := by have := k2.lt; omega
  have B1 := ext_trans hB hb1
  have m0 := k0.ext hb1
  have m1 := k1.ext hb1
  have m2 := k2.ext hb1
  have c0 := m0.cell
  have c2 := m2.cell
  have f2 := m2.free
  clear k0 k1 k2 hg1 hb1 a0
  go_wp2_with fail
  have BM1 : Below w.heap.size w (w1.setCell ⟨w.heap.size + 1 + 1, 0, none⟩ (.slice (some ⟨g1, 0, none⟩) d.recs.length d.recs.length)) := B1.setCell (by simp; omega) _
  have M0 : Blk (w1.setCell ⟨w.heap.size + 1 + 1, 0, none⟩ (.slice (some ⟨g1, 0, none⟩) d.recs.length d.recs.length)) _ _ _ := m0.setCell (by simp; omega) _
  have M1 : Blk (w1.setCell ⟨w.heap.size + 1 + 1, 0, none⟩ (.slice (some ⟨g1, 0, none⟩) d.recs.length d.recs.length)) _ _ _ := m1.setCell (by simp) _
  have M2 : Blk (w1.setCell ⟨w.heap.size + 1 + 1, 0, none⟩ (.slice (some ⟨g1, 0, none⟩) d.recs.length d.recs.length)) _ #[.slice (some ⟨g1, 0, none⟩) d.recs.length d.recs.length, .slice none 0 0, .slice none 0 0] _ := heap_setCell_same _ _ _ _ _ _ m2
  have O1 : RecsOwn (w1.setCell ⟨w.heap.size + 1 + 1, 0, none⟩ (.slice (some ⟨g1, 0, none⟩) d.recs.length d.recs.length)) g1 d.recs d.recs.length := o1.setCell (by simpa using hsz) _
  have L1 : g1 < (w1.setCell ⟨w.heap.size + 1 + 1, 0, none⟩ (.slice (some ⟨g1, 0, none⟩) d.recs.length d.recs.length)).heap.size := by rw [World.size_setCell]; exact hl1
  clear m0 m1 m2 o1 hl1 c0 c2 f2
  refine (toMsgs p.aF d.fl _ p.cF _ rfl hS.out.lF hS.out.nF (h.ext BM1).hF).mono ?_
  rintro e w2 ⟨g2, rfl, hg2, o2, hb2⟩
  have B2 := ext_trans BM1 hb2
  have m0 := M0.ext hb2
  have m1 := M1.ext hb2
  have m2 := M2.ext hb2
  have p1 := O1.ext L1 hb2
  have l1 := Nat.lt_of_lt_of_le L1 hb2.size
  have hs2 : g1 < g2 := by omega
  have c0 := m0.cell
  have c2 := m2.cell
  have f2 := m2.free
  clear M0 M1 M2 O1 L1 hg2 hb2 BM1
  go_wp2_with fail
  have BM2 : Below w.heap.size w (w2.setCell ⟨w.heap.size + 1 + 1, 1, none⟩ (.slice (some ⟨g2, 0, none⟩) d.fl.length d.fl.length)) := B2.setCell (by simp; omega) _
  have M0 : Blk (w2.setCell ⟨w.heap.size + 1 + 1, 1, none⟩ (.slice (some ⟨g2, 0, none⟩) d.fl.length d.fl.length)) _ _ _ := m0.setCell (by simp; omega) _
  have M1 : Blk (w2.setCell ⟨w.heap.size + 1 + 1, 1, none⟩ (.slice (some ⟨g2, 0, none⟩) d.fl.length d.fl.length)) _ _ _ := m1.setCell (by simp) _
  have M2 : Blk (w2.setCell ⟨w.heap.size + 1 + 1, 1, none⟩ (.slice (some ⟨g2, 0, none⟩) d.fl.length d.fl.length)) _ #[.slice (some ⟨g1, 0, none⟩) d.recs.length d.recs.length, .slice (some ⟨g2, 0, none⟩) d.fl.length d.fl.length, .slice none 0 0] _ := heap_setCell_same _ _ _ _ _ _ m2
  have O1 : RecsOwn (w2.setCell ⟨w.heap.size + 1 + 1, 1, none⟩ (.slice (some ⟨g2, 0, none⟩) d.fl.length d.fl.length)) g1 d.recs d.recs.length := p1.setCell (by simpa using hsz) _
  have L1 : g1 < (w2.setCell ⟨w.heap.size + 1 + 1, 1, none⟩ (.slice (some ⟨g2, 0, none⟩) d.fl.length d.fl.length)).heap.size := by rw [World.size_setCell]; exact l1
  have O2 : MsgsOwn (w2.setCell ⟨w.heap.size + 1 + 1, 1, none⟩ (.slice (some ⟨g2, 0, none⟩) d.fl.length d.fl.length)) g2 d.fl := o2.setCell (by simp; omega) _
  clear m0 m1 m2 p1 l1 o2 c0 c2 f2
  refine (toFixs p.aX d.fx _ p.cX _ rfl hS.out.lX (h.ext BM2).hX).mono ?_
  rintro e w3 ⟨g3, rfl, hg3, o3, hb3⟩
  have B3 := ext_trans BM2 hb3
  have m1 := M1.ext hb3
  have m2 := M2.ext hb3
  have p1 := O1.ext L1 hb3
  have l1 := Nat.lt_of_lt_of_le L1 hb3.size
  have p2 := O2.ext hb3
  have hs3 : g1 < g3 := by omega
  have c1 := m1.cell
  have f1 := m1.free
  have c2 := m2.cell
  have f2 := m2.free
  clear M0 M1 M2 O1 L1 O2 hg3 hb3 BM2
  go_wp2
  refine bodyPost_ret (v := .agg (wdV d ⟨some ⟨g1, 0, none⟩, d.recs.length, some ⟨g2, 0, none⟩, d.fl.length, some ⟨g3, 0, none⟩, d.fx.length⟩)) (by simp [results, Try.results14, go_sem, c1, c2]) rfl ⟨⟨some ⟨g1, 0, none⟩, d.recs.length, some ⟨g2, 0, none⟩, d.fl.length, some ⟨g3, 0, none⟩, d.fx.length⟩, rfl, ?_, ?_⟩
  · exact ⟨RecsOwn.to ((((p1.setCell (by simpa using hsz) _).setCell (by simp; omega) _).setCell (by simp; omega) _).setCell (by simp; omega) _) (by simp only [World.size_setCell]; exact l1) h.hR, h.lR, MsgsOwn.at ((((p2.setCell (by simp; omega) _).setCell (by simp; omega) _).setCell (by simp; omega) _).setCell (by simp; omega) _) h.hF.good, h.lF, FixOwn.at ((((o3.setCell (by simp; omega) _).setCell (by simp; omega) _).setCell (by simp; omega) _).setCell (by simp; omega) _) h.hX.good, h.lX⟩
  · exact (((B3.setCell (by simp; omega) _).setCell (by simp) _).setCell (by simp) _).setCell (by simp) _

set_option maxHeartbeats 2000000 in
theorem eqWd_same (d : Wd) (p q : WdP) (w : World) (h : WdAt w d p) (h' : WdAt w d q) :
    Calls Try.prog 9 #[.agg (wdV d p), .agg (wdV d q)] w fun e w' => e = .returned (.bool true) ∧ Below w.heap.size w w' := by
  have hB : Below w.heap.size w ((w.alloc (.cells (wdV d p) 26)).alloc (.cells (wdV d q) 26)) := ext_alloc (ext_alloc (Below.refl _ _) _) _
  have hR := h.ext hB
  have hQ := h'.ext hB
  have b0 : Blk ((w.alloc (.cells (wdV d p) 26)).alloc (.cells (wdV d q) 26)) w.heap.size (wdV d p) 26 := (Blk.new w _ _).alloc _
  have b1 : Blk ((w.alloc (.cells (wdV d p) 26)).alloc (.cells (wdV d q) 26)) (w.heap.size + 1) (wdV d q) 26 := Blk.new' _ _ (by simp)
  clear h h'
  go_enter Try.func9, Try.ntmps9
  go_wp2_with fail
  refine (eqRecs_same p.aR q.aR d.recs _ p.cR q.cR _ rfl hR.lR hR.hR hQ.hR).mono ?_
  rintro e w0 ⟨rfl, hb0⟩
  have cb0 := (b0.ext hb0).cell
  have db0 := (b1.ext hb0).cell
  go_wp2_with fail
  refine (eqMsgs_same p.aF q.aF d.fl _ p.cF q.cF _ rfl hR.lF (hR.ext hb0).hF (hQ.ext hb0).hF).mono ?_
  rintro e w1 ⟨rfl, hb1⟩
  have HB1 := ext_trans hb0 hb1
  have cb1 := (b0.ext HB1).cell
  have db1 := (b1.ext HB1).cell
  clear cb0 db0
  go_wp2_with fail
  refine (eqFixs_same p.aX q.aX d.fx _ p.cX q.cX _ rfl hR.lX (hR.ext HB1).hX (hQ.ext HB1).hX).mono ?_
  rintro e w2 ⟨rfl, hb2⟩
  have HB2 := ext_trans HB1 hb2
  clear cb1 db1
  go_wp2_with fail
  go_ret
  exact ⟨rfl, ext_trans hB HB2⟩
end Go.Proofs.Ytgjommccflfjaaa
