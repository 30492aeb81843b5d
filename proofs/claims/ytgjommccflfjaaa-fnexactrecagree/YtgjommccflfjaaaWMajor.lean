/-
  RecMajor, both sides.
-/
import Derived.Test.YtgjommccflfjaaaWMajS
import Derived.Test.YtgjommccflfjaaaWMajI
import Derived.Test.YtgjommccflfjaaaWOkS
namespace Go.Proofs.Ytgjommccflfjaaa
open Go.ChangeShapes Go.WideShapes Go.ChangeAt Go.RowKit Go.Deep Go.Joins
set_option linter.unusedVariables false
set_option linter.unusedSimpArgs false

theorem valid_safe {r : Rc} (h : validB r = true) : diskOkB r.sp r.sk r.ss = true := by
  cases hd : diskOkB r.sp r.sk r.ss
  · rw [nv_g1 hd] at h; cases h
  · rfl
theorem disk_pos {p k : Int} {l : List Sl} (h : diskOkB p k l = true) {i : Nat} {s : Sl} (hs : l[i]? = some s) : 0 ≤ s.1 := by
  unfold diskOkB slotsOkB at h
  simp only [Bool.and_eq_true, List.all_eq_true] at h
  have := h.1.1.2.2 s (List.mem_of_getElem? hs)
  unfold slotOkB at this
  simp only [Bool.and_eq_true] at this
  exact (inB_iff.1 this.1.1).1
theorem recs_valid {l : List Rc} (h : recsB l = true) {k : Nat} {r : Rc} (hr : l[k]? = some r) : validB r = true := by
  unfold recsB at h
  rw [List.all_eq_true] at h
  have := h k (by simpa using (List.getElem?_eq_some_iff.1 hr).1)
  rw [hr] at this
  unfold recB at this
  simp only [Bool.and_eq_true] at this
  exact this.1.1
theorem world_recs {d : Wd} (h : worldOkB d = true) : recsB d.recs = true := by
  unfold worldOkB at h
  simp only [Bool.and_eq_true] at h
  exact h.1.1.2
theorem world_pos {d : Wd} (h : worldOkB d = true) : PosSafe d.recs := fun k r hr i s hs => disk_pos (valid_safe (recs_valid (world_recs h) hr)) hs

def recMaj (d : Wd) (ix : Int) : ByteArray × Bool := if worldOkB d = true then majR d.recs ix else (⟨#[]⟩, false)

set_option maxHeartbeats 4000000 in
theorem specRecMajor (d : Wd) (p : WdP) (ix : Int) (w : World) (hS0 : WdSmall d) (h : WdAt w d p) :
    Calls Try.prog 16 #[.agg (wdV d p), .int .i64 ix] w fun e w' => e = .returned (.tuple #[.string (recMaj d ix).1, .bool (recMaj d ix).2]) ∧ Below w.heap.size w w' := by
  have hS : Hid (WdSmall d) := hS0
  clear hS0
  have hB : Below w.heap.size w (w.alloc (.cells (wdV d p) 26)) := ext_alloc (Below.refl _ _) _
  have hR := h.ext hB
  have b0 := Blk.new w (wdV d p) 26
  clear h
  go_enter Try.func16, Try.ntmps16
  go_wp2_with fail
  refine (specWorldOk d p _ hS.out hR).mono ?_
  rintro e w0 ⟨rfl, hb0⟩
  have cb0 := (b0.ext hb0).cell
  cases g0 : worldOkB d
  · go_wp2_with fail
    exact bodyPost_ret (v := .tuple #[.string ⟨#[]⟩, .bool false]) (by simp [results, Try.results16, go_sem]) rfl ⟨by simp [recMaj, g0], ext_trans hB hb0⟩
  · go_wp2_with fail
    refine (specMajor d p ix _ hS.out (world_pos g0) (hR.ext hb0)).mono ?_
    rintro e w1 ⟨rfl, hb1⟩
    go_wp2_with fail
    exact bodyPost_ret (v := .tuple #[.string (majR d.recs ix).1, .bool (majR d.recs ix).2]) (by simp [results, Try.results16, go_sem]) rfl ⟨by simp [recMaj, g0], ext_trans hB (ext_trans hb0 hb1)⟩

set_option maxHeartbeats 4000000 in
theorem implRecMajor (d : Wd) (p : WdP) (ix : Int) (w : World) (hS0 : WdSmall d) (h : WdTo w d p) :
    Calls Try.prog 17 #[.agg (wdV d p), .int .i64 ix] w fun e w' => e = .returned (.tuple #[.string (recMaj d ix).1, .bool (recMaj d ix).2]) ∧ Below w.heap.size w w' := by
  have hS : Hid (WdSmall d) := hS0
  clear hS0
  have hB : Below w.heap.size w (w.alloc (.cells (wdV d p) 26)) := ext_alloc (Below.refl _ _) _
  have hR := h.ext hB
  have b0 := Blk.new w (wdV d p) 26
  clear h
  go_enter Try.func17, Try.ntmps17
  go_wp2_with fail
  refine (implWorldOk d p _ hR).mono ?_
  rintro e w0 ⟨rfl, hb0⟩
  have cb0 := (b0.ext hb0).cell
  cases g0 : worldOkB d
  · go_wp2_with fail
    exact bodyPost_ret (v := .tuple #[.string ⟨#[]⟩, .bool false]) (by simp [results, Try.results17, go_sem]) rfl ⟨by simp [recMaj, g0], ext_trans hB hb0⟩
  · go_wp2_with fail
    refine (implMajor p.aR d.recs _ p.cR ix _ rfl hS.out.lR hS.out.nR (hR.ext hb0).hR.at).mono ?_
    rintro e w1 ⟨rfl, hb1⟩
    go_wp2_with fail
    exact bodyPost_ret (v := .tuple #[.string (majR d.recs ix).1, .bool (majR d.recs ix).2]) (by simp [results, Try.results17, go_sem]) rfl ⟨by simp [recMaj, g0], ext_trans hB (ext_trans hb0 hb1)⟩
end Go.Proofs.Ytgjommccflfjaaa
