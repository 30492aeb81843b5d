import Derived.Test.YtffklmlljekceaaGreatQ04
import Derived.Deep.Strs
namespace Go.Proofs.YtffklmlljekceaaGreat
open Go.ChangeShapes Go.WideShapes Go.ChangeAt Go.RowKit Go.Deep Go.Joins
set_option linter.unusedSimpArgs false
set_option linter.unusedVariables false
set_option maxHeartbeats 4000000
set_option maxRecDepth 100000
theorem ints_open {H : Type} {enc : TypeId × Value → H} {W : World} {sp : Nat → Bool} {fuel : Nat} {v : Value} {y : DataW H × List MemPlace} (h : DataW.trod enc Tryz.prog W 0 sp true fuel 27 [v] = some y) :
  ∃ a n cap l, v = .slice a n cap ∧ List.length l = n ∧ n ≤ maxLen ∧ IntsAt W a l := by
 rcases open_ints Tryz.underlying27 Tryz.underlying3 (by kernel_rfl) h with ⟨hcs, _⟩ | ⟨x, len, cap, zs, hcs, _, hl, hm, hz, _, hx, hw⟩
 ·simp only [List.cons.injEq, and_true] at hcs
  exact ⟨none, 0, 0, [], hcs, rfl, by unfold maxLen; omega, fun i s hs => by simp at hs⟩
 simp only [List.cons.injEq, and_true] at hcs
 have hlm : len ≤ zs.length := by rw [hz]; split <;> omega
 refine ⟨some x, len, cap, zs.take len, hcs, by simp; omega, by omega, fun i s hs => ?_⟩
 have hi : i < len := by
  have := (List.getElem?_eq_some_iff.1 hs).1
  simp at this
  omega
 rw [List.getElem?_take_of_lt hi] at hs
 have c0 := hx i (by omega)
 rw [show zs.getD i 0 = s by simp [List.getD, hs]] at c0
 obtain ⟨b, off, spot⟩ := x
 have hspot : spot = none := by simpa [Addr.add] using World.cell?_spot (hx 0 (by omega))
 subst hspot
 rw [Addr.add_mid] at c0
 exact ⟨b, off, rfl, World.block_lt_of_cell? W _ c0, c0, hw s (List.mem_of_getElem? hs)⟩
theorem strs_open {H : Type} {enc : TypeId × Value → H} {W : World} {sp : Nat → Bool} {fuel : Nat} {v : Value} {y : DataW H × List MemPlace} (h : DataW.trod enc Tryz.prog W 0 sp true fuel 26 [v] = some y) :
  ∃ a n cap l, v = .slice a n cap ∧ List.length l = n ∧ n ≤ maxLen ∧ StrsAt W a l := by
 rcases open_strs Tryz.underlying26 Tryz.underlying9 (by kernel_rfl) h with ⟨hcs, _⟩ | ⟨x, len, cap, m, S, hcs, _, hl, hm, hmm, _, hx⟩
 ·simp only [List.cons.injEq, and_true] at hcs
  exact ⟨none, 0, 0, [], hcs, rfl, by unfold maxLen; omega, fun i s hs => by simp at hs⟩
 simp only [List.cons.injEq, and_true] at hcs
 have hlm : len ≤ m := by rw [hmm]; split <;> omega
 refine ⟨some x, len, cap, (List.range len).map S, hcs, by simp, by omega, fun i s hs => ?_⟩
 have hi : i < len := by
  have := (List.getElem?_eq_some_iff.1 hs).1
  simpa using this
 simp only [List.getElem?_map, List.getElem?_range hi, Option.map_some, Option.some.injEq] at hs
 subst hs
 obtain ⟨c0, ht⟩ := hx i (by omega)
 obtain ⟨b, off, spot⟩ := x
 have hspot : spot = none := by simpa [Addr.add] using World.cell?_spot (hx 0 (by omega)).1
 subst hspot
 rw [Addr.add_mid] at c0
 exact ⟨b, off, rfl, World.block_lt_of_cell? W _ c0, c0, ht⟩
theorem acks_open {H : Type} {enc : TypeId × Value → H} {W : World} {sp : Nat → Bool} {fuel : Nat} {v : Value} {y : DataW H × List MemPlace} (h : DataW.trod enc Tryz.prog W 0 sp true fuel 28 [v] = some y) :
  ∃ a n cap l, v = .slice a n cap ∧ List.length l = n ∧ n ≤ maxLen ∧ AcksAt W a l := by
 rcases open_slice_pairs Tryz.underlying28 Tryz.underlying97 (by kernel_rfl) rfl rfl (by kernel_rfl) (by kernel_rfl) h with ⟨hcs, _⟩ | ⟨x, len, cap, m, k, V0, V1, D0, D1, P0, P1, hcs, _, hl, hm, hmm, _, hx⟩
 ·simp only [List.cons.injEq, and_true] at hcs
  exact ⟨none, 0, 0, [], hcs, rfl, by unfold maxLen; omega, fun i s hs => by simp at hs⟩
 simp only [List.cons.injEq, and_true] at hcs
 have hlm : len ≤ m := by rw [hmm]; split <;> omega
 have each : ∀ i, i < len → ∃ q : (Int × List Int) × (Option Addr × Nat), V0 i = .int .i64 q.1.1 ∧ V1 i = .slice q.2.1 q.1.2.length q.2.2 ∧ wfI q.1.1 ∧ q.1.2.length ≤ maxLen ∧ IntsAt W q.2.1 q.1.2 := fun i hi => by
  obtain ⟨c0, c1, t0, t1⟩ := hx i (by omega)
  obtain ⟨z, e0, _, wz⟩ := DataW.trod_int Tryz.underlying3 t0
  obtain ⟨a, n, c, l, e1, hn, hmx, hI⟩ := ints_open t1
  simp only [List.cons.injEq, and_true] at e0
  subst hn
  exact ⟨((z, l), (a, c)), e0, e1, wz, hmx, hI⟩
 obtain ⟨q, hq⟩ := choose_lt each
 refine ⟨some x, len, cap, (List.range len).map fun i => (q i).1, hcs, by simp, by omega, fun i s hs => ?_⟩
 have hi : i < len := by
  have := (List.getElem?_eq_some_iff.1 hs).1
  simpa using this
 simp only [List.getElem?_map, List.getElem?_range hi, Option.map_some, Option.some.injEq] at hs
 subst hs
 obtain ⟨c0, c1, t0, t1⟩ := hx i (by omega)
 obtain ⟨e0, e1, r1, r2, r3⟩ := hq i hi
 obtain ⟨b, off, spot⟩ := x
 have hspot : spot = none := by simpa [Addr.add] using World.cell?_spot (hx 0 (by omega)).1
 subst hspot
 rw [Addr.add_mid] at c0 c1
 rw [e0] at c0
 rw [e1] at c1
 exact ⟨b, off, (q i).2.1, (q i).2.2, rfl, World.block_lt_of_cell? W _ c0, c0, by simpa [Nat.add_assoc] using c1, r1, r2, r3⟩
theorem msgs_open {H : Type} {enc : TypeId × Value → H} {W : World} {sp : Nat → Bool} {fuel : Nat} {v : Value} {y : DataW H × List MemPlace} (h : DataW.trod enc Tryz.prog W 0 sp true fuel 25 [v] = some y) :
  ∃ a n cap l, v = .slice a n cap ∧ List.length l = n ∧ n ≤ maxLen ∧ MsgsAt W a l := by
 rcases open_slice Tryz.underlying25 h with ⟨hcs, _⟩ | ⟨x, len, cap, m, k, D, Pl, hcs, _, hl, hm, hmm, _, hx⟩
 ·simp only [List.cons.injEq, and_true] at hcs
  exact ⟨none, 0, 0, [], hcs, rfl, by unfold maxLen; omega, fun i s hs => by simp at hs⟩
 simp only [List.cons.injEq, and_true] at hcs
 have hlm : len ≤ m := by rw [hmm]; split <;> omega
 rw [cellsLMsg] at hx
 have inh : Inhabited MsgH := ⟨⟨0, 0, 0, 0, 0, 0, ByteArray.empty⟩⟩
 have each : ∀ i, i < len → ∃ q : (MsgH × List Sl) × (Option Addr × Nat), (∀ j, j < 8 → W.cell? ((x.add (i * 8)).add j) = (msgV q.1.1 (.slice q.2.1 q.1.2.length q.2.2)).toList[j]?) ∧ q.1.1.x.size ≤ maxLen ∧ q.1.2.length ≤ maxLen ∧ SlotsAt W q.2.1 q.1.2 := fun i hi => by
  obtain ⟨cs, h1, h2⟩ := hx i (by omega)
  obtain ⟨_, _, hcell⟩ := World.cells?_some h1
  obtain ⟨mm, a, n, c, l, rfl, hmx, hn, hnm, hsl⟩ := msg_cells h2
  subst hn
  exact ⟨((mm, l), (a, c)), hcell, hmx, hnm, hsl⟩
 obtain ⟨q, hq⟩ := choose_lt each
 refine ⟨some x, len, cap, (List.range len).map fun i => (q i).1, hcs, by simp, by omega, fun i s hs => ?_⟩
 have hi : i < len := by
  have := (List.getElem?_eq_some_iff.1 hs).1
  simpa using this
 simp only [List.getElem?_map, List.getElem?_range hi, Option.map_some, Option.some.injEq] at hs
 subst hs
 obtain ⟨hc, r1, r2, r3⟩ := hq i hi
 obtain ⟨b, off, spot⟩ := x
 have hspot : spot = none := by simpa [Addr.add] using World.cell?_spot (((hq 0 (by omega)).1 0 (by omega)).trans rfl)
 subst hspot
 have c0 := hc 0 (by omega)
 have c1 := hc 1 (by omega)
 have c2 := hc 2 (by omega)
 have c3 := hc 3 (by omega)
 have c4 := hc 4 (by omega)
 have c5 := hc 5 (by omega)
 have c6 := hc 6 (by omega)
 have c7 := hc 7 (by omega)
 rw [Addr.add_mid, Addr.add_mid] at c0 c1 c2 c3 c4 c5 c6 c7
 exact ⟨b, off, (q i).2.1, (q i).2.2, rfl, World.block_lt_of_cell? W _ c0, c0, c1, c2, c3, c4, c5, c6, c7, r1, r2, r3⟩
theorem bool_of {H : Type} {enc : TypeId × Value → H} {W : World} {sp : Nat → Bool} {fuel : Nat} {c : Value} {o : Option (DataW H × List MemPlace)} (h : DataW.trod enc Tryz.prog W 0 sp true fuel 4 [c] = o) (ho : o.isSome = true) : ∃ b, c = .bool b := by
 obtain ⟨y, rfl⟩ := Option.isSome_iff_exists.1 ho
 obtain ⟨z, e, _⟩ := DataW.trod_bool Tryz.underlying4 h
 simp only [List.cons.injEq, and_true] at e
 exact ⟨z, e⟩
theorem ints_ofT {H : Type} {enc : TypeId × Value → H} {W : World} {sp : Nat → Bool} {fuel : Nat} {c : Value} {o : Option (DataW H × List MemPlace)} (h : DataW.trod enc Tryz.prog W 0 sp true fuel 27 [c] = o) (ho : o.isSome = true) : ∃ a n cap l, c = .slice a n cap ∧ List.length l = n ∧ n ≤ maxLen ∧ IntsAt W a l := by
 obtain ⟨y, rfl⟩ := Option.isSome_iff_exists.1 ho
 exact ints_open h
theorem strs_ofT {H : Type} {enc : TypeId × Value → H} {W : World} {sp : Nat → Bool} {fuel : Nat} {c : Value} {o : Option (DataW H × List MemPlace)} (h : DataW.trod enc Tryz.prog W 0 sp true fuel 26 [c] = o) (ho : o.isSome = true) : ∃ a n cap l, c = .slice a n cap ∧ List.length l = n ∧ n ≤ maxLen ∧ StrsAt W a l := by
 obtain ⟨y, rfl⟩ := Option.isSome_iff_exists.1 ho
 exact strs_open h
theorem acks_ofT {H : Type} {enc : TypeId × Value → H} {W : World} {sp : Nat → Bool} {fuel : Nat} {c : Value} {o : Option (DataW H × List MemPlace)} (h : DataW.trod enc Tryz.prog W 0 sp true fuel 28 [c] = o) (ho : o.isSome = true) : ∃ a n cap l, c = .slice a n cap ∧ List.length l = n ∧ n ≤ maxLen ∧ AcksAt W a l := by
 obtain ⟨y, rfl⟩ := Option.isSome_iff_exists.1 ho
 exact acks_open h
theorem msgs_ofT {H : Type} {enc : TypeId × Value → H} {W : World} {sp : Nat → Bool} {fuel : Nat} {c : Value} {o : Option (DataW H × List MemPlace)} (h : DataW.trod enc Tryz.prog W 0 sp true fuel 25 [c] = o) (ho : o.isSome = true) : ∃ a n cap l, c = .slice a n cap ∧ List.length l = n ∧ n ≤ maxLen ∧ MsgsAt W a l := by
 obtain ⟨y, rfl⟩ := Option.isSome_iff_exists.1 ho
 exact msgs_open h
theorem list3 {α : Type} {l : List α} (h : l.length = 3) : ∃ c0 c1 c2, l = [c0, c1, c2] := by
 match l, h with
 | [c0, c1, c2], _ => exact ⟨c0, c1, c2, rfl⟩
theorem cellsLDisk : Tryz.prog.cellsOf 24 = 3 := by kernel_rfl
theorem cellsInts : Tryz.prog.cellsOf 27 = 1 := by kernel_rfl
theorem cellsStrs : Tryz.prog.cellsOf 26 = 1 := by kernel_rfl
theorem cellsLAcks : Tryz.prog.cellsOf 28 = 1 := by kernel_rfl
theorem cellsLMsgs : Tryz.prog.cellsOf 25 = 1 := by kernel_rfl
theorem cellsLRec : Tryz.prog.cellsOf 30 = 18 := by kernel_rfl
theorem disk_cells {H : Type} {enc : TypeId × Value → H} {W : World} {sp : Nat → Bool} {fuel : Nat} {cs : List Value} {o : Option (DataW H × List MemPlace)} (h : DataW.trod enc Tryz.prog W 0 sp true fuel 24 cs = o) (ho : o.isSome = true) :
  ∃ x y a n cap l, cs = [.int .i64 x, .int .i64 y, .slice a n cap] ∧ List.length l = n ∧ n ≤ maxLen ∧ SlotsAt W a l := by
 obtain ⟨y, rfl⟩ := Option.isSome_iff_exists.1 ho
 obtain ⟨xs, k, _, _, hl, hlen, hf⟩ := DataW.trod_struct Tryz.underlying24 h
 rw [cellsLDisk] at hl
 obtain ⟨c0, c1, c2, rfl⟩ := list3 hl
 have hlen' : xs.length = 3 := hlen
 have f0 : DataW.trod enc Tryz.prog W 0 sp true k 3 (List.take (Tryz.prog.cellsOf 3) (List.drop 0 [c0, c1, c2])) = xs[0]? := hf 0 _ rfl
 have f1 : DataW.trod enc Tryz.prog W 0 sp true k 3 (List.take (Tryz.prog.cellsOf 3) (List.drop 1 [c0, c1, c2])) = xs[1]? := hf 1 _ rfl
 have f2 : DataW.trod enc Tryz.prog W 0 sp true k 22 (List.take (Tryz.prog.cellsOf 22) (List.drop 2 [c0, c1, c2])) = xs[2]? := hf 2 _ rfl
 simp only [cellsInt, cellsLSlots, List.drop_succ_cons, List.drop_zero, List.take_succ_cons, List.take_zero] at f0 f1 f2
 obtain ⟨z0, rfl, _⟩ := int_of f0 (some_of hlen' 0 (by omega))
 obtain ⟨z1, rfl, _⟩ := int_of f1 (some_of hlen' 1 (by omega))
 obtain ⟨a, n, cap, l, rfl, hn, hm, hs⟩ := slots_of f2 (some_of hlen' 2 (by omega))
 exact ⟨z0, z1, a, n, cap, l, rfl, hn, hm, hs⟩
theorem list18 {α : Type} {l : List α} (h : l.length = 18) : ∃ c0 c1 c2 c3 c4 c5 c6 c7 c8 c9 c10 c11 c12 c13 c14 c15 c16 c17, l = [c0, c1, c2, c3, c4, c5, c6, c7, c8, c9, c10, c11, c12, c13, c14, c15, c16, c17] := by
 match l, h with
 | [c0, c1, c2, c3, c4, c5, c6, c7, c8, c9, c10, c11, c12, c13, c14, c15, c16, c17], _ => exact ⟨c0, c1, c2, c3, c4, c5, c6, c7, c8, c9, c10, c11, c12, c13, c14, c15, c16, c17, rfl⟩
theorem rec_open {H : Type} {enc : TypeId × Value → H} {W : World} {base : Nat} {v : Value} {d : DataW H} {p : List MemPlace}
  (hv : Value.okWide Tryz.prog W .any base 30 v) (h : DataW.Trod enc Tryz.prog W 0 (fun _ => true) true 30 v d p) :
  ∃ r p, v = .agg (rcV r p) ∧ RcAt W r p := by
 obtain ⟨cs, rfl, _⟩ := okWide_struct Tryz.underlying30 hv
 obtain ⟨fuel, hf0⟩ := h
 obtain ⟨xs, k, _, _, hl, hlen, hf⟩ := DataW.trod_struct Tryz.underlying30 hf0
 rw [cellsLRec] at hl
 have hl' : cs.toList.length = 18 := by simpa [Value.cells] using hl
 obtain ⟨c0, c1, c2, c3, c4, c5, c6, c7, c8, c9, c10, c11, c12, c13, c14, c15, c16, c17, hcs⟩ := list18 hl'
 have hvc : (Value.agg cs).cells.toList = [c0, c1, c2, c3, c4, c5, c6, c7, c8, c9, c10, c11, c12, c13, c14, c15, c16, c17] := by simpa [Value.cells] using hcs
 have hlen' : xs.length = 14 := hlen
 have f0 : DataW.trod enc Tryz.prog W 0 (fun _ => true) true k 3 (List.take (Tryz.prog.cellsOf 3) (List.drop 0 (Value.agg cs).cells.toList)) = xs[0]? := hf 0 _ rfl
 have f1 : DataW.trod enc Tryz.prog W 0 (fun _ => true) true k 3 (List.take (Tryz.prog.cellsOf 3) (List.drop 1 (Value.agg cs).cells.toList)) = xs[1]? := hf 1 _ rfl
 have f2 : DataW.trod enc Tryz.prog W 0 (fun _ => true) true k 4 (List.take (Tryz.prog.cellsOf 4) (List.drop 2 (Value.agg cs).cells.toList)) = xs[2]? := hf 2 _ rfl
 have f3 : DataW.trod enc Tryz.prog W 0 (fun _ => true) true k 24 (List.take (Tryz.prog.cellsOf 24) (List.drop 3 (Value.agg cs).cells.toList)) = xs[3]? := hf 3 _ rfl
 have f4 : DataW.trod enc Tryz.prog W 0 (fun _ => true) true k 24 (List.take (Tryz.prog.cellsOf 24) (List.drop 6 (Value.agg cs).cells.toList)) = xs[4]? := hf 4 _ rfl
 have f5 : DataW.trod enc Tryz.prog W 0 (fun _ => true) true k 25 (List.take (Tryz.prog.cellsOf 25) (List.drop 9 (Value.agg cs).cells.toList)) = xs[5]? := hf 5 _ rfl
 have f6 : DataW.trod enc Tryz.prog W 0 (fun _ => true) true k 26 (List.take (Tryz.prog.cellsOf 26) (List.drop 10 (Value.agg cs).cells.toList)) = xs[6]? := hf 6 _ rfl
 have f7 : DataW.trod enc Tryz.prog W 0 (fun _ => true) true k 4 (List.take (Tryz.prog.cellsOf 4) (List.drop 11 (Value.agg cs).cells.toList)) = xs[7]? := hf 7 _ rfl
 have f8 : DataW.trod enc Tryz.prog W 0 (fun _ => true) true k 4 (List.take (Tryz.prog.cellsOf 4) (List.drop 12 (Value.agg cs).cells.toList)) = xs[8]? := hf 8 _ rfl
 have f9 : DataW.trod enc Tryz.prog W 0 (fun _ => true) true k 3 (List.take (Tryz.prog.cellsOf 3) (List.drop 13 (Value.agg cs).cells.toList)) = xs[9]? := hf 9 _ rfl
 have f10 : DataW.trod enc Tryz.prog W 0 (fun _ => true) true k 27 (List.take (Tryz.prog.cellsOf 27) (List.drop 14 (Value.agg cs).cells.toList)) = xs[10]? := hf 10 _ rfl
 have f11 : DataW.trod enc Tryz.prog W 0 (fun _ => true) true k 22 (List.take (Tryz.prog.cellsOf 22) (List.drop 15 (Value.agg cs).cells.toList)) = xs[11]? := hf 11 _ rfl
 have f12 : DataW.trod enc Tryz.prog W 0 (fun _ => true) true k 28 (List.take (Tryz.prog.cellsOf 28) (List.drop 16 (Value.agg cs).cells.toList)) = xs[12]? := hf 12 _ rfl
 have f13 : DataW.trod enc Tryz.prog W 0 (fun _ => true) true k 3 (List.take (Tryz.prog.cellsOf 3) (List.drop 17 (Value.agg cs).cells.toList)) = xs[13]? := hf 13 _ rfl
 rw [hvc] at f0 f1 f2 f3 f4 f5 f6 f7 f8 f9 f10 f11 f12 f13
 simp only [cellsInt, cellsBool, cellsLDisk, cellsLMsgs, cellsStrs, cellsInts, cellsLSlots, cellsLAcks, List.drop_succ_cons, List.drop_zero, List.take_succ_cons, List.take_zero] at f0 f1 f2 f3 f4 f5 f6 f7 f8 f9 f10 f11 f12 f13
 obtain ⟨num, rfl, _⟩ := int_of f0 (some_of hlen' 0 (by omega))
 obtain ⟨of_, rfl, _⟩ := int_of f1 (some_of hlen' 1 (by omega))
 obtain ⟨up, rfl⟩ := bool_of f2 (some_of hlen' 2 (by omega))
 obtain ⟨sp, sk, aS, nS, cS, ss, eS, rfl, mS, hS⟩ := disk_cells f3 (some_of hlen' 3 (by omega))
 obtain ⟨dp, dk, aD, nD, cD, ds, eD, rfl, mD, hD⟩ := disk_cells f4 (some_of hlen' 4 (by omega))
 obtain ⟨aH, nH, cH, held, rfl, rfl, mH, hH⟩ := msgs_ofT f5 (some_of hlen' 5 (by omega))
 obtain ⟨aW, nW, cW, wish, rfl, rfl, mW, hW⟩ := strs_ofT f6 (some_of hlen' 6 (by omega))
 obtain ⟨lead, rfl⟩ := bool_of f7 (some_of hlen' 7 (by omega))
 obtain ⟨tr, rfl⟩ := bool_of f8 (some_of hlen' 8 (by omega))
 obtain ⟨ball, rfl, _⟩ := int_of f9 (some_of hlen' 9 (by omega))
 obtain ⟨aY, nY, cY, yes, rfl, rfl, mY, hY⟩ := ints_ofT f10 (some_of hlen' 10 (by omega))
 obtain ⟨aB, nB, cB, best, rfl, rfl, mB, hB⟩ := slots_of f11 (some_of hlen' 11 (by omega))
 obtain ⟨aA, nA, cA, acks, rfl, rfl, mA, hA⟩ := acks_ofT f12 (some_of hlen' 12 (by omega))
 obtain ⟨heard, rfl, _⟩ := int_of f13 (some_of hlen' 13 (by omega))
 simp only [List.cons.injEq, and_true] at eS eD
 obtain ⟨rfl, rfl, rfl⟩ := eS
 obtain ⟨rfl, rfl, rfl⟩ := eD
 refine ⟨⟨num, of_, up, sp, sk, ss, dp, dk, ds, held, wish, lead, tr, ball, yes, best, acks, heard⟩, ⟨aS, cS, aD, cD, aH, cH, aW, cW, aY, cY, aB, cB, aA, cA⟩, ?_, ⟨hS, mS, hD, mD, hH, mH, hW, mW, hY, mY, hB, mB, hA, mA⟩⟩
 exact congrArg Value.agg (Array.toList_inj.1 hcs)
end Go.Proofs.YtffklmlljekceaaGreat
