/-
  impl.places, impl.majorsAgree: a range over a function.
-/
import Derived.Test.YtgjommccflfjaaaWAgDef
import Derived.RangeFuncNested
import Derived.RangeFuncBound
import Derived.RangeFuncCalls
import Derived.RangeFuncLeaves
import Derived.Shelf.Abstract
import Derived.Shelf.RegionOpen
import Derived.OwnWalkIn
import Derived.TacticsInMore
import Derived.LoopNIn
import Derived.LoopIn
namespace Go.Proofs.Ytgjommccflfjaaa
open Go.ChangeShapes Go.WideShapes Go.ChangeAt Go.RowKit Go.Deep Go.Joins Go.Shelf
set_option linter.unusedVariables false
set_option linter.unusedSimpArgs false

def upto (k : Nat) : List Int := (List.range k).map fun (i : Nat) => (i : Int) + 1
theorem upto_succ (k : Nat) : upto (k + 1) = upto k ++ [(k : Int) + 1] := by simp [upto, List.range_succ]
theorem upto_length (k : Nat) : (upto k).length = k := by simp [upto]
theorem upto_mem {k : Nat} {x : Int} (h : x ∈ upto k) : ∃ j : Nat, j < k ∧ x = (j : Int) + 1 := by
  obtain ⟨j, hj, rfl⟩ := List.mem_map.1 h
  exact ⟨j, by simpa using hj, rfl⟩

set_option maxRecDepth 100000 in
set_option maxHeartbeats 2000000 in
theorem places_stops (F : Fence) (n : Nat) (h81 : F.fn 81) (hro : F.round = none) (hn : 1 ≤ n) (n₀ : Nat) (w : World) :
    SeqStopsK F n Try.prog 81 #[] (fun x : Int => #[Value.int .i64 x]) (Below n₀) (fun xs => xs = upto 60) (fun pre => ∃ k, k ≤ 60 ∧ pre = upto k) 60 w := fun l J Jx W _ _ _ hY h0 => by
  refine callsIn_of_wp Try.func81 rfl h81 ?_ hro
  simp only [Try.ntmps81, List.size_toArray, List.length_cons, List.length_nil, Nat.reduceAdd, Nat.reduceSub, Array.replicate_succ, Array.replicate_zero, List.push_toArray, List.append_toArray, List.nil_append, List.cons_append]
  gi_wp2
  gi_loopw [2] (fun i wr => ∃ k : Nat, k ≤ 60 ∧ i = .int .i64 ((k : Int) + 1) ∧ J (upto k) wr)
    (fun i _ => 61 - (intOf i).toNat)
  case atStart => exact ⟨0, Nat.zero_le _, rfl, h0⟩
  case round =>
    obtain ⟨k, hk, rfl, hJs⟩ := hrel
    by_cases hlt : k < 60
    · obtain ⟨fn, tmps, assign, body, hy, hR⟩ := hY _ ((k : Int) + 1) wr hJs (by rw [upto_length]; exact hlt)
      gi_wp2
      refine hR.mono ?_
      rintro e W3 (⟨rfl, hJ3, hk3⟩ | ⟨rfl, hJx3⟩)
      · gi_wp2
        go_roundw
        case rel => exact ⟨k + 1, by omega, by go_num, by rw [upto_succ]; exact hJ3⟩
        case measure => simp [intOf]; omega
      · gi_wp2
        refine bodyPost_ret (results_none rfl _ _ _) rfl ?_
        exact ⟨⟨_, rfl⟩, .inr ⟨_, ⟨k + 1, by omega, (upto_succ _).symm⟩, hJx3⟩⟩
    · obtain rfl : k = 60 := by omega
      gi_wp2
      go_end0
      exact ⟨⟨_, rfl⟩, .inl ⟨_, rfl, hJs⟩⟩

theorem keeps_below {W W' : World} (hb : Below W.heap.size W W') : KeepsOthers W W' := ⟨hb.size, fun k o hk _ => (hb.block k (Array.getElem?_eq_some_iff.1 hk).1).trans hk⟩

set_option maxRecDepth 100000 in
set_option maxHeartbeats 4000000 in
theorem implMajors (d : Wd) (p : WdP) (w : World) (hS0 : WdSmall d) (hasc0 : AscF d.fx) (h : WdAt w d p) :
    Calls Try.prog 49 #[.agg (wdV d p)] w fun e w' => e = .returned (.bool (majorsB d)) ∧ Below w.heap.size w w' := by
  have hS : Hid (WdSmall d) := hS0
  have hasc : Hid (AscF d.fx) := hasc0
  clear hS0 hasc0
  refine (callsIn_wide (n := 3)).1 ?_
  have hro : Fence.wide.round = none := rfl
  have h1 : 1 ≤ 3 := by omega
  refine callsIn_of_wp_marks Try.func49 rfl trivial ?_ hro
  simp only [Try.ntmps49, List.size_toArray, List.length_cons, List.length_nil, Nat.reduceAdd, Nat.reduceSub, Array.replicate_succ, Array.replicate_zero, List.push_toArray, List.append_toArray, List.nil_append, List.cons_append]
  gi_wp2
  have hB0 : Below w.heap.size w ((w.alloc (.cells (wdV d p) 26)).alloc (.cells #[.bool false] 4)) := ext_alloc (ext_alloc (Below.refl _ _) _) _
  have kb : Blk ((w.alloc (.cells (wdV d p) 26)).alloc (.cells #[.bool false] 4)) w.heap.size (wdV d p) 26 := (Blk.new w _ _).alloc _
  have kr : Blk ((w.alloc (.cells (wdV d p) 26)).alloc (.cells #[.bool false] 4)) (w.heap.size + 1) #[.bool false] 4 := Blk.new' _ _ (by simp)
  refine wpIn_rangeFunc_ownF hro h1 (gf := 81) (lb := #[]) rfl trivial (enters_of Try.func81 (by kernel_rfl) rfl)
    (places_stops Fence.wide (3 - 1) trivial rfl (by omega) w.heap.size _) belowK_t (belowK_b (by simp; omega)) (Below.refl _ _) (fun _ => rfl)
    (fun pre W => ((∀ y ∈ pre, majB d y = true) ∧ W.cell? ⟨w.heap.size, 0, none⟩ = some (.slice p.aR d.recs.length p.cR) ∧ W.cell? ⟨w.heap.size, 2, none⟩ = some (.slice p.aX d.fx.length p.cX) ∧ W.cell? ⟨w.heap.size + 1, 0, none⟩ = some (.bool false) ∧ W.frozen? ⟨w.heap.size + 1, 0, none⟩ = false) ∧ Below w.heap.size w W)
    (fun c pre W => (c = .ret ∧ (∃ y ∈ pre, majB d y = false) ∧ W.cell? ⟨w.heap.size + 1, 0, none⟩ = some (.bool false)) ∧ Below w.heap.size w W)
    (OwnFrom.and (Own.from (fun s A B row hs hg hr => ⟨hs.1, cell_kept hs.2.1 hg hr, cell_kept hs.2.2.1 hg hr, cell_kept hs.2.2.2.1 hg hr, (frozen_kept hs.2.2.2.1 hg hr).trans hs.2.2.2.2⟩) _) (ownFrom_below (Nat.le_refl _) (by simp; omega)))
    (fun c => OwnFrom.and (Own.from (fun s A B row hs hg hr => ⟨hs.1, hs.2.1, cell_kept hs.2.2 hg hr⟩) _) (ownFrom_below (Nat.le_refl _) (by simp; omega)))
    ⟨⟨by simp, kb.cell 0, kb.cell 2, kr.cell 0, kr.free 0⟩, hB0⟩
    (fun x => { tmps := #[.agg (wdV d p), .pointer (some ⟨w.heap.size, 0, none⟩), .pointer (some ⟨w.heap.size + 1, 0, none⟩), .int .i64 x, undef, undef, .int .i64 x, undef, undef, undef, undef, undef, undef, undef, undef, undef, undef, undef, undef, undef, undef, undef, undef], defers := [] }) ?assign ?body ?done ?stop
  case assign =>
    intro l x W K hK
    gi_wp2_with (rw [Oper.semAt_eq _ _ _ (fun c h => by cases h)]; go_simp; try go_bits)
    exact hK
  case body =>
    rintro l pre x W ⟨⟨hp, c0, c2, cr, fr⟩, hB⟩ _
    have hlw := World.block_lt_of_cell? W _ c0
    have hlr := World.block_lt_of_cell? W _ cr
    simp only at hlw hlr
    cases hmo : majorO d.recs x
    · have hmb : Hid (majB d x = true) := majB_none hmo
      have hcm : ∀ v, RecsAt v p.aR d.recs → Calls Try.prog 45 #[.slice p.aR d.recs.length p.cR, .int .i64 x] v fun e w' => e = .returned (.tuple #[.string ⟨#[]⟩, .bool false]) ∧ Below v.heap.size v w' := fun v hv => by
        have := implMajor p.aR d.recs _ p.cR x v rfl hS.out.lR hS.out.nR hv
        rw [majR_none hmo] at this
        exact this
      have hcf : ∀ v, SlotsAt v p.aX d.fx → Calls Try.prog 80 #[.slice p.aX d.fx.length p.cX, .int .i64 x, .string ⟨#[]⟩] v fun e w' => e = .returned (.bool (fixAs d.fx x ⟨#[]⟩)) ∧ Below v.heap.size v w' := fun v hv => implFixedAs p.aX d.fx _ p.cX x ⟨#[]⟩ v rfl hS.out.lX hasc.out hv
      clear hmo
      gi_wp2_with (first
        | (refine ⟨trivial, ?_⟩; gi_at_call 45; refine (CallsIn.inRound l (callsIn_wide.2 (hcm _ (h.ext hB).hR))).mono ?_; rintro e W1 ⟨rfl, hb1⟩; have k0 := (hb1.cell (p := ⟨w.heap.size, 0, none⟩) hlw).trans c0; have k2 := (hb1.cell (p := ⟨w.heap.size, 2, none⟩) hlw).trans c2; have k3 := (hb1.cell (p := ⟨w.heap.size + 1, 0, none⟩) hlr).trans cr; have k4 := (hb1.frozen (p := ⟨w.heap.size + 1, 0, none⟩) hlr).trans fr)
        | (refine ⟨trivial, ?_⟩; gi_at_call 80; refine (CallsIn.inRound l (callsIn_wide.2 (hcf _ (h.ext (hB.trans (hb1.mono hB.size))).hX))).mono ?_; rintro e W2 ⟨rfl, hb2⟩; have hb12 := ext_trans hb1 hb2; have j0 := (hb12.cell (p := ⟨w.heap.size, 0, none⟩) hlw).trans c0; have j2 := (hb12.cell (p := ⟨w.heap.size, 2, none⟩) hlw).trans c2; have j3 := (hb12.cell (p := ⟨w.heap.size + 1, 0, none⟩) hlr).trans cr; have j4 := (hb12.frozen (p := ⟨w.heap.size + 1, 0, none⟩) hlr).trans fr)
        | (rw [Oper.semAt_eq _ _ _ (fun c h => by cases h)]; go_simp; try go_bits))
      refine ⟨trivial, ?_⟩
      gi_wp2_with (rw [Oper.semAt_eq _ _ _ (fun c h => by cases h)]; go_simp; try go_bits)
      exact ⟨keeps_below hb1, hb1.mono hB.size, ⟨fun y hy => (List.mem_append.1 hy).elim (hp y) (fun e => by simp at e; subst e; exact hmb.out), k0, k2, k3, k4⟩, hB.trans (hb1.mono hB.size)⟩
    · rename_i t
      have hmt := hid (majB_some hmo)
      have hcm : ∀ v, RecsAt v p.aR d.recs → Calls Try.prog 45 #[.slice p.aR d.recs.length p.cR, .int .i64 x] v fun e w' => e = .returned (.tuple #[.string t, .bool true]) ∧ Below v.heap.size v w' := fun v hv => by
        have := implMajor p.aR d.recs _ p.cR x v rfl hS.out.lR hS.out.nR hv
        rw [majR_some hmo] at this
        exact this
      clear hmo
      cases hfa : fixAs d.fx x t
      · have hcf : ∀ v, SlotsAt v p.aX d.fx → Calls Try.prog 80 #[.slice p.aX d.fx.length p.cX, .int .i64 x, .string t] v fun e w' => e = .returned (.bool false) ∧ Below v.heap.size v w' := fun v hv => by
          have := implFixedAs p.aX d.fx _ p.cX x t v rfl hS.out.lX hasc.out hv
          rw [hfa] at this
          exact this
        gi_wp2_with (first
        | (refine ⟨trivial, ?_⟩; gi_at_call 45; refine (CallsIn.inRound l (callsIn_wide.2 (hcm _ (h.ext hB).hR))).mono ?_; rintro e W1 ⟨rfl, hb1⟩; have k0 := (hb1.cell (p := ⟨w.heap.size, 0, none⟩) hlw).trans c0; have k2 := (hb1.cell (p := ⟨w.heap.size, 2, none⟩) hlw).trans c2; have k3 := (hb1.cell (p := ⟨w.heap.size + 1, 0, none⟩) hlr).trans cr; have k4 := (hb1.frozen (p := ⟨w.heap.size + 1, 0, none⟩) hlr).trans fr)
        | (refine ⟨trivial, ?_⟩; gi_at_call 80; refine (CallsIn.inRound l (callsIn_wide.2 (hcf _ (h.ext (hB.trans (hb1.mono hB.size))).hX))).mono ?_; rintro e W2 ⟨rfl, hb2⟩; have hb12 := ext_trans hb1 hb2; have j0 := (hb12.cell (p := ⟨w.heap.size, 0, none⟩) hlw).trans c0; have j2 := (hb12.cell (p := ⟨w.heap.size, 2, none⟩) hlw).trans c2; have j3 := (hb12.cell (p := ⟨w.heap.size + 1, 0, none⟩) hlr).trans cr; have j4 := (hb12.frozen (p := ⟨w.heap.size + 1, 0, none⟩) hlr).trans fr)
        | (rw [Oper.semAt_eq _ _ _ (fun c h => by cases h)]; go_simp; try go_bits))
        exact ⟨(keeps_below hb12).trans (KeepsOthers.setCell _ _ _), ⟨rfl, ⟨x, by simp, by rw [hmt.out, hfa]⟩, World.cell?_setCell_same' _ _ _ (by rw [j3]; rfl)⟩, (hB.trans (hb12.mono hB.size)).setCell (p := ⟨w.heap.size + 1, 0, none⟩) (by simp) _⟩
      · have hcf : ∀ v, SlotsAt v p.aX d.fx → Calls Try.prog 80 #[.slice p.aX d.fx.length p.cX, .int .i64 x, .string t] v fun e w' => e = .returned (.bool true) ∧ Below v.heap.size v w' := fun v hv => by
          have := implFixedAs p.aX d.fx _ p.cX x t v rfl hS.out.lX hasc.out hv
          rw [hfa] at this
          exact this
        gi_wp2_with (first
        | (refine ⟨trivial, ?_⟩; gi_at_call 45; refine (CallsIn.inRound l (callsIn_wide.2 (hcm _ (h.ext hB).hR))).mono ?_; rintro e W1 ⟨rfl, hb1⟩; have k0 := (hb1.cell (p := ⟨w.heap.size, 0, none⟩) hlw).trans c0; have k2 := (hb1.cell (p := ⟨w.heap.size, 2, none⟩) hlw).trans c2; have k3 := (hb1.cell (p := ⟨w.heap.size + 1, 0, none⟩) hlr).trans cr; have k4 := (hb1.frozen (p := ⟨w.heap.size + 1, 0, none⟩) hlr).trans fr)
        | (refine ⟨trivial, ?_⟩; gi_at_call 80; refine (CallsIn.inRound l (callsIn_wide.2 (hcf _ (h.ext (hB.trans (hb1.mono hB.size))).hX))).mono ?_; rintro e W2 ⟨rfl, hb2⟩; have hb12 := ext_trans hb1 hb2; have j0 := (hb12.cell (p := ⟨w.heap.size, 0, none⟩) hlw).trans c0; have j2 := (hb12.cell (p := ⟨w.heap.size, 2, none⟩) hlw).trans c2; have j3 := (hb12.cell (p := ⟨w.heap.size + 1, 0, none⟩) hlr).trans cr; have j4 := (hb12.frozen (p := ⟨w.heap.size + 1, 0, none⟩) hlr).trans fr)
        | (rw [Oper.semAt_eq _ _ _ (fun c h => by cases h)]; go_simp; try go_bits))
        exact ⟨keeps_below hb12, hb12.mono hB.size, ⟨fun y hy => (List.mem_append.1 hy).elim (hp y) (fun e => by simp at e; subst e; rw [hmt.out, hfa]), j0, j2, j3, j4⟩, hB.trans (hb12.mono hB.size)⟩
  case done =>
    rintro D ys W hD rfl ⟨⟨hne, _, _, hcr, hfr⟩, hB⟩ hK
    have hyes : majorsB d = true := majors_ok fun j hj => hne _ (List.mem_map.2 ⟨j, by simpa using hj, rfl⟩)
    gi_wp2
    have hK' := (KeepsOthers.setCell W ⟨w.heap.size + 1, 0, none⟩ (.bool true)).same D _ hK rfl
    refine ⟨by simp, .inl ⟨_, _, rfl, run_takeDeferred hK', ?_⟩⟩
    have hc5 := cell_kept (World.cell?_setCell_same' W ⟨w.heap.size + 1, 0, none⟩ (.bool true) (by rw [hcr]; rfl)) (grownBy_putObj' _ D (.deferred none)) (fun r e => by cases e; exact ⟨_, hK', rfl⟩)
    refine ⟨.bool true, ?_, by rw [hyes], (hB.setCell (p := ⟨w.heap.size + 1, 0, none⟩) (by simp) _).trans (belowK_b (w := w) (Nat.le_refl _) _ D _ _ (by simp at hD; omega) hK' rfl rfl)⟩
    simp [results, Try.results49, go_sem, hc5]
  case stop =>
    rintro D c pre W hD ⟨k, hk, rfl⟩ ⟨⟨rfl, ⟨y, hy, hmy⟩, hcr⟩, hB⟩ hK
    have hno : majorsB d = false := by
      obtain ⟨j, hj, rfl⟩ := upto_mem hy
      unfold majorsB
      rw [List.all_eq_false]
      exact ⟨j, by simp; omega, by simp [hmy]⟩
    gi_wp2
    refine ⟨by simp, .inl ⟨_, _, rfl, run_takeDeferred hK, ?_⟩⟩
    have hc5 := cell_kept hcr (grownBy_putObj' _ D (.deferred none)) (fun r e => by cases e; exact ⟨_, hK, rfl⟩)
    refine ⟨.bool false, ?_, by rw [hno], hB.trans (belowK_b (w := w) (Nat.le_refl _) W D _ _ (by simp at hD; omega) hK rfl rfl)⟩
    simp [results, Try.results49, go_sem, hc5]
end Go.Proofs.Ytgjommccflfjaaa
