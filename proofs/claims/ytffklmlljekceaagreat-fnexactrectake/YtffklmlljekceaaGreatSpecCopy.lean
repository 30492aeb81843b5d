/-
  The specification's copies: spec.l1Disk, spec.l2Message.
-/
import Derived.Test.YtffklmlljekceaaGreatAppends
import Derived.Test.YtffklmlljekceaaGreatRec
namespace Go.Proofs.YtffklmlljekceaaGreat
open Go.ChangeShapes Go.WideShapes Go.ChangeAt Go.RowKit
set_option linter.unusedVariables false
set_option linter.unusedSimpArgs false

theorem own_low {w : World} {B B' size n : Nat} {e : TypeId} {v : Value} {xs : List Value} (h : w.ownsRow B e size v n xs) (hb : B' ≤ B) : w.ownsRow B' e size v n xs := by
  refine ⟨h.1, ?_⟩
  rcases h.2 with h0 | ⟨g, cap, cur, hv, hB, r⟩
  · exact .inl h0
  · exact .inr ⟨g, cap, cur, hv, Nat.le_trans hb hB, r⟩

set_option maxHeartbeats 2000000 in
theorem l1Disk_at (x y : Int) (a : Option Addr) (l : List Sl) (n cap : Nat) (w : World) (hn : l.length = n) (hc : n ≤ 1048576) (ha : a = none → cap = 0) (hsp : ∀ x, a = some x → x.spot = none) (h : SlotsAt w a l) :
    Calls Tryz.prog 57 #[.agg #[.int .i64 x, .int .i64 y, .slice a n cap]] w fun e w' => ∃ g' cap', e = .returned (.agg #[.int .i64 x, .int .i64 y, .slice (some ⟨g', 0, none⟩) n cap']) ∧ w.heap.size ≤ g' ∧ w'.ownsRow w.heap.size 108 2 (.slice (some ⟨g', 0, none⟩) n cap') n (flat l) ∧ Below w.heap.size w w' := by
  have HL := hid hn
  have hB := hid (show Below w.heap.size w ((w.alloc (.cells #[.int .i64 x, .int .i64 y, .slice a n cap] 37)).alloc (.cells #[.int .i64 0, .int .i64 0, .slice none 0 0] 37)) from ext_alloc (ext_alloc (Below.refl _ _) _) _)
  clear hn
  go_enter Tryz.func57, Tryz.ntmps57
  go_wp2_with fail
  refine (l1Slots_at a l n cap _ HL.out hc ha hsp (h.ext hB.out)).mono ?_
  rintro e w1 ⟨g, cap', rfl, hg, hown, hb1⟩
  have b0 : Blk w1 w.heap.size #[.int .i64 x, .int .i64 y, .slice a n cap] 37 := ((Blk.new w _ _).alloc _).ext hb1
  have b1 : Blk w1 (w.heap.size + 1) #[.int .i64 0, .int .i64 0, .slice none 0 0] 37 := (Blk.new' _ _ (by simp)).ext hb1
  have c0 := b0.cell
  have c1 := b1.cell
  have f0 := b0.free
  have f1 := b1.free
  have hg' : w.heap.size + 1 < g := by simp at hg; omega
  have OW := hid (own_low hown (show w.heap.size + 1 + 1 ≤ _ by simp))
  have BB := hid (ext_trans hB.out hb1)
  clear b0 b1 h hown hb1 hg ha hsp
  go_wp2
  refine bodyPost_ret (v := .agg #[.int .i64 x, .int .i64 y, .slice (some ⟨g, 0, none⟩) n cap']) (by simp [results, Tryz.results57, go_sem, c0, c1]) rfl ⟨g, cap', rfl, by omega, ?_, ?_⟩
  · refine own_low (B := w.heap.size + 1 + 1) ?_ (by omega)
    iterate 4 refine ownsRow_setCell_below ?_ (by simp; try omega) _
    exact OW.out
  · iterate 4 refine Below.setCell ?_ (by simp; try omega) _
    exact BB.out

set_option maxHeartbeats 4000000 in
theorem l2Message_at (h : MsgH) (a : Option Addr) (l : List Sl) (n cap : Nat) (w : World) (hn : l.length = n) (hc : n ≤ 1048576) (ha : a = none → cap = 0) (hsp : ∀ x, a = some x → x.spot = none) (hs : SlotsAt w a l) :
    Calls Tryz.prog 31 #[.agg (msgV h (.slice a n cap))] w fun e w' => ∃ g' cap', e = .returned (.agg (msgV h (.slice (some ⟨g', 0, none⟩) n cap'))) ∧ w.heap.size ≤ g' ∧ w'.ownsRow w.heap.size 108 2 (.slice (some ⟨g', 0, none⟩) n cap') n (flat l) ∧ Below w.heap.size w w' := by
  have HL := hid hn
  have hB := hid (show Below w.heap.size w ((w.alloc (.cells (msgV h (.slice a n cap)) 45)).alloc (.cells (msgV ⟨0, 0, 0, 0, 0, 0, ⟨#[]⟩⟩ (.slice none 0 0)) 45)) from ext_alloc (ext_alloc (Below.refl _ _) _) _)
  clear hn
  go_enter Tryz.func31, Tryz.ntmps31
  go_wp2_with fail
  refine (l1Slots_at a l n cap _ HL.out hc ha hsp (hs.ext hB.out)).mono ?_
  rintro e w1 ⟨g, cap', rfl, hg, hown, hb1⟩
  have b0 : Blk w1 w.heap.size (msgV h (.slice a n cap)) 45 := ((Blk.new w _ _).alloc _).ext hb1
  have b1 : Blk w1 (w.heap.size + 1) (msgV ⟨0, 0, 0, 0, 0, 0, ⟨#[]⟩⟩ (.slice none 0 0)) 45 := (Blk.new' _ _ (by simp)).ext hb1
  have c0 := b0.cell
  have c1 := b1.cell
  have f0 := b0.free
  have f1 := b1.free
  have hg' : w.heap.size + 1 < g := by simp at hg; omega
  have OW := hid (own_low hown (show w.heap.size + 1 + 1 ≤ _ by simp))
  have BB := hid (ext_trans hB.out hb1)
  clear b0 b1 hs hown hb1 hg ha hsp
  go_wp2
  refine bodyPost_ret (v := .agg (msgV h (.slice (some ⟨g, 0, none⟩) n cap'))) (by simp [results, Tryz.results31, go_sem, c0, c1]) rfl ⟨g, cap', rfl, by omega, ?_, ?_⟩
  · refine own_low (B := w.heap.size + 1 + 1) ?_ (by omega)
    iterate 9 refine ownsRow_setCell_below ?_ (by simp; try omega) _
    exact OW.out
  · iterate 9 refine Below.setCell ?_ (by simp; try omega) _
    exact BB.out
end Go.Proofs.YtffklmlljekceaaGreat
