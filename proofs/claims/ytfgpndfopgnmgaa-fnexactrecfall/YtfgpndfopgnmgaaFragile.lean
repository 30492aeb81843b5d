/-
  impl.fragileOf, fragile.recorder: a recorder as a fall sees it, and back.
-/
import Derived.Test.YtfgpndfopgnmgaaRec
import Derived.Test.YtfgpndfopgnmgaaToRec
namespace Go.Proofs.Ytfgpndfopgnmgaa
open Go.ChangeShapes Go.WideShapes Go.ChangeAt Go.RowKit
set_option linter.unusedVariables false
set_option linter.unusedSimpArgs false

/-- its cells -/
abbrev fgV (r : Rc) (p : RcP) : Array Value := #[.int .i64 r.num, .int .i64 r.of_, .int .i64 r.sp, .int .i64 r.sk, .slice p.aS r.ss.length p.cS, .bool r.up, .int .i64 r.dp, .int .i64 r.dk, .slice p.aD r.ds.length p.cD, .slice p.aH r.held.length p.cH, .slice p.aW r.wish.length p.cW, .bool r.lead, .bool r.tr, .int .i64 r.ball, .slice p.aY r.yes.length p.cY, .slice p.aB r.best.length p.cB, .slice p.aA r.acks.length p.cA, .int .i64 r.heard]
abbrev keptV (r : Rc) (p : RcP) : Array Value := #[.int .i64 r.num, .int .i64 r.of_, .int .i64 r.sp, .int .i64 r.sk, .slice p.aS r.ss.length p.cS]
abbrev goneV (r : Rc) (p : RcP) : Array Value := #[.bool r.up, .int .i64 r.dp, .int .i64 r.dk, .slice p.aD r.ds.length p.cD, .slice p.aH r.held.length p.cH, .slice p.aW r.wish.length p.cW, .bool r.lead, .bool r.tr, .int .i64 r.ball, .slice p.aY r.yes.length p.cY, .slice p.aB r.best.length p.cB, .slice p.aA r.acks.length p.cA, .int .i64 r.heard]

set_option maxHeartbeats 8000000 in
set_option maxRecDepth 20000 in
theorem fragileOf (r : Rc) (p : RcP) (w : World) :
    Calls Try.prog 61 #[.agg (rcV r p)] w fun e w' => e = .returned (.agg (fgV r p)) ∧ Below w.heap.size w w' := by
  have hc := (Blk.new w (rcV r p) 57).cell
  go_enter Try.func61, Try.ntmps61
  go_wp2_with (first
    | ((with_reducible refine wpList_build_to (ty := 96) (keptV r p) ?_ ?_); (· kernel_rfl))
    | ((with_reducible refine wpList_build_to (ty := 98) (goneV r p) ?_ ?_); (· kernel_rfl))
    | ((with_reducible refine wpList_build_to (ty := 100) (fgV r p) ?_ ?_); (· kernel_rfl))
    | ((with_reducible refine wpList_store_last (ty := 100) (fgV r p) ?_ ?_ ?_ ?_ ?_ ?_); (· rfl); (· rfl); (· kernel_rfl); (· rfl); (· simp [Value.oneCell'])))
  refine ret_cell (ty := 100) Try.results61 (w.heap.size + 1) (fgV r p) _ ?_ ?_ (Blk.new' _ _ (by simp)) Try.underlying100 rfl (by kernel_rfl) ⟨rfl, ext_alloc (ext_alloc (Below.refl _ _) _) _⟩
  · rfl
  · rfl

set_option maxHeartbeats 8000000 in
set_option maxRecDepth 20000 in
theorem fragileBack (r : Rc) (p : RcP) (w : World) :
    Calls Try.prog 63 #[.agg (fgV r p)] w fun e w' => e = .returned (.agg (rcV r p)) ∧ Below w.heap.size w w' := by
  have hc := (Blk.new w (fgV r p) 100).cell
  go_enter Try.func63, Try.ntmps63
  go_wp2_with (first
    | ((with_reducible refine wpList_build_to (ty := 57) (rcV r p) ?_ ?_); (· kernel_rfl))
    | ((with_reducible refine wpList_store_last (ty := 57) (rcV r p) ?_ ?_ ?_ ?_ ?_ ?_); (· rfl); (· rfl); (· kernel_rfl); (· rfl); (· simp [Value.oneCell'])))
  refine ret_cell (ty := 57) Try.results63 (w.heap.size + 1) (rcV r p) _ ?_ ?_ (Blk.new' _ _ (by simp)) Try.underlying57 rfl (by kernel_rfl) ⟨rfl, ext_alloc (ext_alloc (Below.refl _ _) _) _⟩
  · rfl
  · rfl
end Go.Proofs.Ytfgpndfopgnmgaa
