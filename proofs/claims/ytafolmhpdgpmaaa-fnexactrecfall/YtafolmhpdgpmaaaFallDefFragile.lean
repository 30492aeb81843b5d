import Derived.Test.YtafolmhpdgpmaaaAnswer
import Derived.Test.YtafolmhpdgpmaaaValidB
import Derived.Test.YtafolmhpdgpmaaaRec
import Derived.Test.YtafolmhpdgpmaaaToRec
/-
  What a fall leaves; a recorder that rises.
-/
namespace Go.Proofs.Ytafolmhpdgpmaaa
open Go.ChangeShapes Go.WideShapes Go.ChangeAt Go.RowKit
set_option linter.unusedVariables false
set_option linter.unusedSimpArgs false

/-- what is safe is left -/
def fallR (r : Rc) : Rc := { rc0 with num := r.num, of_ := r.of_, sp := r.sp, sk := r.sk, ss := r.ss, dp := r.sp, dk := r.sk, ds := r.ss }
def fallP (p : RcP) : RcP := { rp0 with aS := p.aS, cS := p.cS, aD := p.aS, cD := p.cS }
def recFall (r : Rc) : Rc := if validB r = true then fallR r else rc0
theorem recFall_no {r : Rc} (h : validB r = false) : recFall r = rc0 := by simp [recFall, h]
theorem recFall_yes {r : Rc} (h : validB r = true) : recFall r = fallR r := by simp [recFall, h]
/-- up again -/
def riseU (r : Rc) : Rc := { r with up := true }
def recRise (r : Rc) : Rc := if validB r = true then riseU r else rc0
theorem recRise_no {r : Rc} (h : validB r = false) : recRise r = rc0 := by simp [recRise, h]
theorem recRise_yes {r : Rc} (h : validB r = true) : recRise r = riseU r := by simp [recRise, h]
theorem rc0_small : RcSmall rc0 := ⟨by simp [rc0], by simp [rc0], by simp [rc0], by simp [rc0], by simp [rc0], by simp [rc0], by simp [rc0], fun i s hs => by simp [rc0] at hs, fun i s hs => by simp [rc0] at hs⟩
theorem fall_small {r : Rc} (h : RcSmall r) : RcSmall (fallR r) :=
  ⟨h.lS, h.lS, rc0_small.lH, rc0_small.lW, rc0_small.lY, rc0_small.lB, rc0_small.lA, rc0_small.nH, rc0_small.nA⟩
theorem rise_small {r : Rc} (h : RcSmall r) : RcSmall (riseU r) := ⟨h.lS, h.lD, h.lH, h.lW, h.lY, h.lB, h.lA, h.nH, h.nA⟩
theorem recFall_small {r : Rc} (h : RcSmall r) : RcSmall (recFall r) := by
  unfold recFall
  split
  · exact fall_small h
  · exact rc0_small
theorem recRise_small {r : Rc} (h : RcSmall r) : RcSmall (recRise r) := by
  unfold recRise
  split
  · exact rise_small h
  · exact rc0_small
theorem RcRead.rise {w : World} {r : Rc} {p : RcP} {X : RcX} (h : RcRead w r p X) : RcRead w (riseU r) p X :=
  ⟨h.s, h.d, h.h, h.hm, h.hi, h.t, h.y, h.b, h.a, h.am, h.ai, ⟨h.gd.s, h.gd.d, h.gd.h, h.gd.t, h.gd.y, h.gd.b, h.gd.a⟩⟩
theorem RcRead.fall {w : World} {r : Rc} {p : RcP} {X : RcX} (h : RcRead w r p X) : RcRead w (fallR r) (fallP p) ⟨[], []⟩ :=
  have z := (rc0_has 0 w (fun _ => 0)).reads
  ⟨h.s, h.s, z.h, z.hm, z.hi, z.t, z.y, z.b, z.a, z.am, z.ai, ⟨h.gd.s, h.gd.s, z.gd.h, z.gd.t, z.gd.y, z.gd.b, z.gd.a⟩⟩
theorem RcHas.rise {B : Nat} {w : World} {r : Rc} {p : RcP} {X : RcX} {col : Nat → Nat} (h : RcHas B w r p X col) : RcHas B w (riseU r) p X col :=
  ⟨h.s, h.d, h.h, h.hm, h.hi, h.t, h.y, h.b, h.a, h.am, h.ai, ⟨h.gd.s, h.gd.d, h.gd.h, h.gd.t, h.gd.y, h.gd.b, h.gd.a⟩⟩
end Go.Proofs.Ytafolmhpdgpmaaa

/-
  impl.fragileOf, fragile.recorder: a recorder as a fall sees it, and back.
-/
namespace Go.Proofs.Ytafolmhpdgpmaaa
open Go.ChangeShapes Go.WideShapes Go.ChangeAt Go.RowKit
set_option linter.unusedVariables false
set_option linter.unusedSimpArgs false

/-- its cells -/
abbrev fgV (r : Rc) (p : RcP) : Array Value := #[.int .i64 r.num, .int .i64 r.of_, .int .i64 r.sp, .int .i64 r.sk, .slice p.aS r.ss.length p.cS, .bool r.up, .int .i64 r.dp, .int .i64 r.dk, .slice p.aD r.ds.length p.cD, .slice p.aH r.held.length p.cH, .slice p.aW r.wish.length p.cW, .bool r.lead, .bool r.tr, .int .i64 r.ball, .slice p.aY r.yes.length p.cY, .slice p.aB r.best.length p.cB, .slice p.aA r.acks.length p.cA, .int .i64 r.heard]
abbrev keptV (r : Rc) (p : RcP) : Array Value := #[.int .i64 r.num, .int .i64 r.of_, .int .i64 r.sp, .int .i64 r.sk, .slice p.aS r.ss.length p.cS]
abbrev goneV (r : Rc) (p : RcP) : Array Value := #[.bool r.up, .int .i64 r.dp, .int .i64 r.dk, .slice p.aD r.ds.length p.cD, .slice p.aH r.held.length p.cH, .slice p.aW r.wish.length p.cW, .bool r.lead, .bool r.tr, .int .i64 r.ball, .slice p.aY r.yes.length p.cY, .slice p.aB r.best.length p.cB, .slice p.aA r.acks.length p.cA, .int .i64 r.heard]

set_option maxHeartbeats 8000000 in
set_option maxRecDepth 20000 in
theorem fragileOf (r : Rc) (p : RcP) (w : World) :
    Calls Try.prog 65 #[.agg (rcV r p)] w fun e w' => e = .returned (.agg (fgV r p)) ∧ Below w.heap.size w w' := by
  have hc := (Blk.new w (rcV r p) 44).cell
  go_enter Try.func65, Try.ntmps65
  go_wp2_with (first
    | ((with_reducible refine wpList_build_to (ty := 89) (keptV r p) ?_ ?_); (· kernel_rfl))
    | ((with_reducible refine wpList_build_to (ty := 91) (goneV r p) ?_ ?_); (· kernel_rfl))
    | ((with_reducible refine wpList_build_to (ty := 93) (fgV r p) ?_ ?_); (· kernel_rfl))
    | ((with_reducible refine wpList_store_last (ty := 93) (fgV r p) ?_ ?_ ?_ ?_ ?_ ?_); (· rfl); (· rfl); (· kernel_rfl); (· rfl); (· simp [Value.oneCell'])))
  refine ret_cell (ty := 93) Try.results65 (w.heap.size + 1) (fgV r p) _ ?_ ?_ (Blk.new' _ _ (by simp)) Try.underlying93 rfl (by kernel_rfl) ⟨rfl, ext_alloc (ext_alloc (Below.refl _ _) _) _⟩
  · rfl
  · rfl

set_option maxHeartbeats 8000000 in
set_option maxRecDepth 20000 in
theorem fragileBack (r : Rc) (p : RcP) (w : World) :
    Calls Try.prog 66 #[.agg (fgV r p)] w fun e w' => e = .returned (.agg (rcV r p)) ∧ Below w.heap.size w w' := by
  have hc := (Blk.new w (fgV r p) 93).cell
  go_enter Try.func66, Try.ntmps66
  go_wp2_with (first
    | ((with_reducible refine wpList_build_to (ty := 44) (rcV r p) ?_ ?_); (· kernel_rfl))
    | ((with_reducible refine wpList_store_last (ty := 44) (rcV r p) ?_ ?_ ?_ ?_ ?_ ?_); (· rfl); (· rfl); (· kernel_rfl); (· rfl); (· simp [Value.oneCell'])))
  refine ret_cell (ty := 44) Try.results66 (w.heap.size + 1) (rcV r p) _ ?_ ?_ (Blk.new' _ _ (by simp)) Try.underlying44 rfl (by kernel_rfl) ⟨rfl, ext_alloc (ext_alloc (Below.refl _ _) _) _⟩
  · rfl
  · rfl
end Go.Proofs.Ytafolmhpdgpmaaa
