/-
  Recorders: their cells; what is read of one; szRecorder, eqRecorder of the same data twice.
-/
import Derived.Test.YtffklmlljekceaaGreatAcks
import Derived.Test.YtffklmlljekceaaGreatMsgLists
namespace Go.Proofs.YtffklmlljekceaaGreat
open Go.ChangeShapes Go.WideShapes Go.ChangeAt Go.RowKit Go.Deep Go.Joins
set_option linter.unusedVariables false
set_option linter.unusedSimpArgs false

/-- a recorder's data -/
structure Rc where
  num : Int
  of_ : Int
  up : Bool
  sp : Int
  sk : Int
  ss : List Sl
  dp : Int
  dk : Int
  ds : List Sl
  held : List Ms
  wish : List ByteArray
  lead : Bool
  tr : Bool
  ball : Int
  yes : List Int
  best : List Sl
  acks : List Ak
  heard : Int
/-- where its lists lie -/
structure RcP where
  aS : Option Addr
  cS : Nat
  aD : Option Addr
  cD : Nat
  aH : Option Addr
  cH : Nat
  aW : Option Addr
  cW : Nat
  aY : Option Addr
  cY : Nat
  aB : Option Addr
  cB : Nat
  aA : Option Addr
  cA : Nat
/-- its cells -/
abbrev rcV (r : Rc) (p : RcP) : Array Value := #[.int .i64 r.num, .int .i64 r.of_, .bool r.up, .int .i64 r.sp, .int .i64 r.sk, .slice p.aS r.ss.length p.cS, .int .i64 r.dp, .int .i64 r.dk, .slice p.aD r.ds.length p.cD, .slice p.aH r.held.length p.cH, .slice p.aW r.wish.length p.cW, .bool r.lead, .bool r.tr, .int .i64 r.ball, .slice p.aY r.yes.length p.cY, .slice p.aB r.best.length p.cB, .slice p.aA r.acks.length p.cA, .int .i64 r.heard]
structure RcAt (w : World) (r : Rc) (p : RcP) : Prop where
  hS : SlotsAt w p.aS r.ss
  lS : r.ss.length ≤ maxLen
  hD : SlotsAt w p.aD r.ds
  lD : r.ds.length ≤ maxLen
  hH : MsgsAt w p.aH r.held
  lH : r.held.length ≤ maxLen
  hW : StrsAt w p.aW r.wish
  lW : r.wish.length ≤ maxLen
  hY : IntsAt w p.aY r.yes
  lY : r.yes.length ≤ maxLen
  hB : SlotsAt w p.aB r.best
  lB : r.best.length ≤ maxLen
  hA : AcksAt w p.aA r.acks
  lA : r.acks.length ≤ maxLen
theorem RcAt.ext {w w' : World} {r : Rc} {p : RcP} (h : RcAt w r p) (hb : Below w.heap.size w w') : RcAt w' r p :=
  ⟨h.hS.ext hb, h.lS, h.hD.ext hb, h.lD, h.hH.ext hb, h.lH, h.hW.ext hb, h.lW, h.hY.ext hb, h.lY, h.hB.ext hb, h.lB, h.hA.ext hb, h.lA⟩
structure RcSmall (r : Rc) : Prop where
  lS : r.ss.length ≤ 1048576
  lD : r.ds.length ≤ 1048576
  lH : r.held.length ≤ 1048576
  lW : r.wish.length ≤ 1048576
  lY : r.yes.length ≤ 1048576
  lB : r.best.length ≤ 1048576
  lA : r.acks.length ≤ 1048576
  nH : MsgsSmall r.held
  nA : AcksSmall r.acks

set_option maxHeartbeats 4000000 in
theorem szRec (r : Rc) (p : RcP) (left : Int) (w : World) (hl : 0 ≤ left) (hm : left ≤ 1048576) (h : RcAt w r p) :
    Calls Tryz.prog 5 #[.agg (rcV r p), .int .i64 left] w fun e w' => ∃ q : Int, e = .returned (.int .i64 q) ∧ -1 ≤ q ∧ q ≤ left ∧ (0 ≤ q → RcSmall r) ∧ Below w.heap.size w w' := by
  have hB : Below w.heap.size w (w.alloc (.cells (rcV r p) 30)) := ext_alloc (Below.refl _ _) _
  have hR := h.ext hB
  have b0 := Blk.new w (rcV r p) 30
  have HB0 := Below.refl (w.alloc (.cells (rcV r p) 30)).heap.size (w.alloc (.cells (rcV r p) 30))
  clear h
  go_enter Tryz.func5, Tryz.ntmps5
  go_wp2_with fail
  refine (szDisk _ _ p.aS r.ss _ p.cS _ _ rfl (by omega) (by omega) hR.lS (by exact (hR.ext HB0).hS)).mono ?_
  rintro e w0 ⟨q0, rfl, u0, v0, s0, hb0⟩
  have HB1 := ext_trans HB0 hb0
  have cb0 := (b0.ext HB1).cell
  clear HB0
  by_cases hq0 : q0 < 0
  · go_wp2_with fail
    go_ret
    exact ⟨-1, rfl, by omega, by omega, fun h => absurd h (by omega), ext_trans hB HB1⟩
  go_wp2_with fail
  refine (szDisk _ _ p.aD r.ds _ p.cD _ _ rfl (by omega) (by omega) hR.lD (by exact (hR.ext HB1).hD)).mono ?_
  rintro e w1 ⟨q1, rfl, u1, v1, s1, hb1⟩
  have HB2 := ext_trans HB1 hb1
  have cb1 := (b0.ext HB2).cell
  clear HB1 cb0
  by_cases hq1 : q1 < 0
  · go_wp2_with fail
    go_ret
    exact ⟨-1, rfl, by omega, by omega, fun h => absurd h (by omega), ext_trans hB HB2⟩
  go_wp2_with fail
  refine (szMsgs p.aH r.held _ p.cH _ _ rfl (by omega) (by omega) hR.lH (by exact (hR.ext HB2).hH)).mono ?_
  rintro e w2 ⟨q2, rfl, u2, v2, s2, hb2⟩
  have HB3 := ext_trans HB2 hb2
  have cb2 := (b0.ext HB3).cell
  clear HB2 cb1
  by_cases hq2 : q2 < 0
  · go_wp2_with fail
    go_ret
    exact ⟨-1, rfl, by omega, by omega, fun h => absurd h (by omega), ext_trans hB HB3⟩
  go_wp2_with fail
  refine (szStrs p.aW r.wish _ p.cW _ _ rfl (by omega) (by omega) hR.lW (by exact (hR.ext HB3).hW)).mono ?_
  rintro e w3 ⟨q3, rfl, u3, v3, s3, hb3⟩
  have HB4 := ext_trans HB3 hb3
  have cb3 := (b0.ext HB4).cell
  clear HB3 cb2
  by_cases hq3 : q3 < 0
  · go_wp2_with fail
    go_ret
    exact ⟨-1, rfl, by omega, by omega, fun h => absurd h (by omega), ext_trans hB HB4⟩
  go_wp2_with fail
  refine (szInts p.aY _ p.cY _ _ (by omega) (by omega) hR.lY).mono ?_
  rintro e w4 ⟨q4, rfl, u4, v4, s4, hb4⟩
  have HB5 := ext_trans HB4 hb4
  have cb4 := (b0.ext HB5).cell
  clear HB4 cb3
  by_cases hq4 : q4 < 0
  · go_wp2_with fail
    go_ret
    exact ⟨-1, rfl, by omega, by omega, fun h => absurd h (by omega), ext_trans hB HB5⟩
  go_wp2_with fail
  refine (szSlots p.aB r.best _ p.cB _ _ rfl (by omega) (by omega) hR.lB (by exact (hR.ext HB5).hB)).mono ?_
  rintro e w5 ⟨q5, rfl, u5, v5, s5, hb5⟩
  have HB6 := ext_trans HB5 hb5
  have cb5 := (b0.ext HB6).cell
  clear HB5 cb4
  by_cases hq5 : q5 < 0
  · go_wp2_with fail
    go_ret
    exact ⟨-1, rfl, by omega, by omega, fun h => absurd h (by omega), ext_trans hB HB6⟩
  go_wp2_with fail
  refine (szAcks p.aA r.acks _ p.cA _ _ rfl (by omega) (by omega) hR.lA (by exact (hR.ext HB6).hA)).mono ?_
  rintro e w6 ⟨q6, rfl, u6, v6, s6, hb6⟩
  have HB7 := ext_trans HB6 hb6
  have cb6 := (b0.ext HB7).cell
  clear HB6 cb5
  by_cases hq6 : q6 < 0
  · go_wp2_with fail
    go_ret
    exact ⟨-1, rfl, by omega, by omega, fun h => absurd h (by omega), ext_trans hB HB7⟩
  go_wp2_with fail
  go_ret
  exact ⟨q6, rfl, by omega, by omega, fun _ => ⟨s0 (by omega), s1 (by omega), (s2 (by omega)).1, s3 (by omega), s4 (by omega), s5 (by omega), (s6 (by omega)).1, (s2 (by omega)).2, (s6 (by omega)).2⟩, ext_trans hB HB7⟩

set_option maxHeartbeats 4000000 in
theorem eqRec_same (r : Rc) (p q : RcP) (w : World) (h : RcAt w r p) (h' : RcAt w r q) :
    Calls Tryz.prog 11 #[.agg (rcV r p), .agg (rcV r q)] w fun e w' => e = .returned (.bool true) ∧ Below w.heap.size w w' := by
  have hB : Below w.heap.size w ((w.alloc (.cells (rcV r p) 41)).alloc (.cells (rcV r q) 41)) := ext_alloc (ext_alloc (Below.refl _ _) _) _
  have hR := h.ext hB
  have hQ := h'.ext hB
  have b0 : Blk ((w.alloc (.cells (rcV r p) 41)).alloc (.cells (rcV r q) 41)) w.heap.size (rcV r p) 41 := (Blk.new w _ _).alloc _
  have b1 : Blk ((w.alloc (.cells (rcV r p) 41)).alloc (.cells (rcV r q) 41)) (w.heap.size + 1) (rcV r q) 41 := Blk.new' _ _ (by simp)
  have HB0 := Below.refl ((w.alloc (.cells (rcV r p) 41)).alloc (.cells (rcV r q) 41)).heap.size ((w.alloc (.cells (rcV r p) 41)).alloc (.cells (rcV r q) 41))
  clear h h'
  go_enter Tryz.func11, Tryz.ntmps11
  go_wp2_with fail
  refine (eqDisk_same _ _ p.aS q.aS r.ss _ p.cS q.cS _ rfl hR.lS (by exact (hR.ext HB0).hS) (by exact (hQ.ext HB0).hS)).mono ?_
  rintro e w0 ⟨rfl, hb0⟩
  have HB1 := ext_trans HB0 hb0
  have cb0 := (b0.ext HB1).cell
  have db0 := (b1.ext HB1).cell
  clear HB0
  go_wp2_with fail
  refine (eqDisk_same _ _ p.aD q.aD r.ds _ p.cD q.cD _ rfl hR.lD (by exact (hR.ext HB1).hD) (by exact (hQ.ext HB1).hD)).mono ?_
  rintro e w1 ⟨rfl, hb1⟩
  have HB2 := ext_trans HB1 hb1
  have cb1 := (b0.ext HB2).cell
  have db1 := (b1.ext HB2).cell
  clear HB1 cb0 db0
  go_wp2_with fail
  refine (eqMsgs_same p.aH q.aH r.held _ p.cH q.cH _ rfl hR.lH (by exact (hR.ext HB2).hH) (by exact (hQ.ext HB2).hH)).mono ?_
  rintro e w2 ⟨rfl, hb2⟩
  have HB3 := ext_trans HB2 hb2
  have cb2 := (b0.ext HB3).cell
  have db2 := (b1.ext HB3).cell
  clear HB2 cb1 db1
  go_wp2_with fail
  refine (eqStrs_same p.aW q.aW r.wish _ p.cW q.cW _ rfl hR.lW (by exact (hR.ext HB3).hW) (by exact (hQ.ext HB3).hW)).mono ?_
  rintro e w3 ⟨rfl, hb3⟩
  have HB4 := ext_trans HB3 hb3
  have cb3 := (b0.ext HB4).cell
  have db3 := (b1.ext HB4).cell
  clear HB3 cb2 db2
  go_wp2_with fail
  refine (eqInts_same p.aY q.aY r.yes _ p.cY q.cY _ rfl hR.lY (by exact (hR.ext HB4).hY) (by exact (hQ.ext HB4).hY)).mono ?_
  rintro e w4 ⟨rfl, hb4⟩
  have HB5 := ext_trans HB4 hb4
  have cb4 := (b0.ext HB5).cell
  have db4 := (b1.ext HB5).cell
  clear HB4 cb3 db3
  go_wp2_with fail
  refine (eqSlots_same p.aB q.aB r.best _ p.cB q.cB _ rfl hR.lB (by exact (hR.ext HB5).hB) (by exact (hQ.ext HB5).hB)).mono ?_
  rintro e w5 ⟨rfl, hb5⟩
  have HB6 := ext_trans HB5 hb5
  have cb5 := (b0.ext HB6).cell
  have db5 := (b1.ext HB6).cell
  clear HB5 cb4 db4
  go_wp2_with fail
  refine (eqAcks_same p.aA q.aA r.acks _ p.cA q.cA _ rfl hR.lA (by exact (hR.ext HB6).hA) (by exact (hQ.ext HB6).hA)).mono ?_
  rintro e w6 ⟨rfl, hb6⟩
  have HB7 := ext_trans HB6 hb6
  have cb6 := (b0.ext HB7).cell
  have db6 := (b1.ext HB7).cell
  clear HB6 cb5 db5
  go_wp2_with fail
  go_ret
  exact ⟨rfl, ext_trans hB HB7⟩
end Go.Proofs.YtffklmlljekceaaGreat
