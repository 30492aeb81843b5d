/-
  A map that counts slots: what it reads as, an entry sought, an entry written.
-/
import Derived.Test.YtgjommccflfjaaaWOkI
import Derived.WideKeyEntry
import Derived.DeepKeys4
import Derived.MapKept
namespace Go.Proofs.Ytgjommccflfjaaa
open Go.ChangeShapes Go.WideShapes Go.ChangeAt Go.RowKit Go.Deep Go.Joins Go.MapKept Go.ChangeMaps
set_option linter.unusedVariables false
set_option linter.unusedSimpArgs false

abbrev slV (s : Sl) : Value := .agg #[.int .i64 s.1, .string s.2]
def GoodSl (s : Sl) : Prop := s.2.size ≤ maxLen ∧ (Lit.int .i64 s.1).wf = true
theorem rowSlot : 108 < Try.prog.types.size := of_decide_eq_true (by kernel_rfl)
theorem wideSlot : (match Try.prog.underlying 108 with | some (.array _ _) | some (.struct _) => true | _ => false) = true := by rw [Try.underlying108]
set_option maxRecDepth 100000 in
theorem lawSlot : WideMaps.KeyLaw Try.prog 108 := deep_law_laid laidOut (m := 2) (by omega) rowSlot (by kernel_rfl) wideSlot
theorem keyTSlot : Try.prog.keyType 108 = true := by kernel_rfl
theorem cellsSlotI : Try.prog.cellsOf 108 = 2 := by kernel_rfl
theorem cellsIntI : Try.prog.cellsOf 3 = 1 := by kernel_rfl
theorem cellsStrI : Try.prog.cellsOf 9 = 1 := by kernel_rfl
theorem keySlot (s : Sl) (h : GoodSl s) : ∃ kl, keyOf Try.prog 108 (slV s) = some kl := by
  obtain ⟨m, hm⟩ : ∃ m, Try.prog.types.size = m + 1 := ⟨Try.prog.types.size - 1, by have := rowSlot; omega⟩
  have hf : (slV s).formed Try.prog 108 = true := by simp [Value.formed, Try.underlying108, cellsSlotI]
  unfold keyOf
  rw [Try.underlying108]
  simp only [keyTSlot, hf, Bool.and_self, if_true, hm]
  simp [Program.keyLits, Try.underlying108, Try.underlying3, Try.underlying9, cellsSlotI, cellsIntI, cellsStrI, Value.cells, h.1, h.2]
theorem slV_inj {s t : Sl} (h : slV s = slV t) : s = t := by
  simp only [slV, Value.agg.injEq, Array.mk.injEq, List.cons.injEq, Value.int.injEq, Value.string.injEq, true_and, and_true] at h
  exact Prod.ext h.1 h.2

/-- block g is a map of slots to how often they were counted -/
def CntAt (w : World) (g : Nat) (f : Sl → Nat) : Prop := ∃ es clock, w.heap[g]? = some (.map es clock) ∧ Stamped es clock ∧ (∀ e ∈ es.toList, ∃ s, GoodSl s ∧ e.key = slV s ∧ e.val = .int .i64 (f s : Int)) ∧ ∀ s, f s ≠ 0 → ∃ e ∈ es.toList, e.key = slV s
theorem CntAt.ext {w w' : World} {g : Nat} {f : Sl → Nat} (h : CntAt w g f) (hb : Below w.heap.size w w') : CntAt w' g f := by
  obtain ⟨es, clock, h1, h2⟩ := h
  exact ⟨es, clock, (hb.block g (Array.getElem?_eq_some_iff.1 h1).1).trans h1, h2⟩
theorem CntAt.drew {w : World} {g : Nat} {f : Sl → Nat} (h : CntAt w g f) : CntAt w.drew g f := h
theorem CntAt.lt {w : World} {g : Nat} {f : Sl → Nat} (h : CntAt w g f) : g < w.heap.size := by
  obtain ⟨es, clock, h1, h2⟩ := h
  exact (Array.getElem?_eq_some_iff.1 h1).1
theorem cnt_new (w : World) : CntAt (w.alloc (.map #[] 0)) w.heap.size (fun _ => 0) :=
  ⟨#[], 0, heap_alloc_new w _, stamped_empty 0, by simp, fun s hs => absurd rfl hs⟩
theorem zeroInt (w : World) : (zeroValue 3).run Try.prog w = .ok (.int .i64 0) w := by kernel_rfl

theorem CntAt.look {w : World} {g : Nat} {f : Sl → Nat} (h : CntAt w g f) {s : Sl} (hs : GoodSl s) : (Instr.lookup 109 (.map (some g)) (slV s) false).run Try.prog w = .ok (.int .i64 (f s : Int)) w := by
  obtain ⟨es, clock, hb, st, hr, hn⟩ := h
  obtain ⟨kl, hkey⟩ := keySlot s hs
  have hks : ∀ e ∈ es.toList, ∃ l, keyOf Try.prog 108 e.key = some l := fun e he => by
    obtain ⟨u, hu, hk, _⟩ := hr e he
    rw [hk]
    exact keySlot u hu
  rcases lawSlot.find w hkey es.toList hks with ⟨h1, h2⟩ | ⟨j, e0, h1, h2, h3⟩
  · have hf : f s = 0 := Classical.byContradiction fun hne => by
      obtain ⟨e, he, hk⟩ := hn s hne
      exact h2 e he hk
    simp [Instr.lookup, run_underlying Try.underlying109, MapKept.run_getObj_map hb, lawSlot.check w _ hkey, h1, zeroInt, Result.andThen, hf]
  · obtain ⟨u, hu, hk, hv⟩ := hr e0 (List.mem_of_getElem? h2)
    have : u = s := slV_inj (hk.symm.trans h3)
    subst this
    simp [Instr.lookup, run_underlying Try.underlying109, MapKept.run_getObj_map hb, lawSlot.check w _ hkey, h1, Result.andThen, hv]

def updC (f : Sl → Nat) (s : Sl) (n : Nat) : Sl → Nat := fun t => if t = s then n else f t

/-- w' is w but for block g -/
structure Turned (w w' : World) (g : Nat) : Prop where
  os : w'.os = w.os
  tape : w'.tape = w.tape
  output : w'.output = w.output
  size : w'.heap.size = w.heap.size
  block : ∀ b, b ≠ g → w'.heap[b]? = w.heap[b]?
theorem Turned.below {B : Nat} {a w w' : World} {g : Nat} (h : Turned w w' g) (hb : Below B a w) (hg : B ≤ g) : Below B a w' :=
  ⟨h.os.trans hb.os, h.tape.trans hb.tape, h.output.trans hb.output, by rw [h.size]; exact hb.size, fun k hk => (h.block k (by omega)).trans (hb.block k hk)⟩
theorem Turned.blk {w w' : World} {g : Nat} (h : Turned w w' g) {b : Nat} {C : Array Value} {t : TypeId} (hb : Blk w b C t) (hne : b ≠ g) : Blk w' b C t := (h.block b hne).trans hb
theorem turned_set {w : World} {g : Nat} {es : Array MapEntry} {clock : Nat} (hb : w.heap[g]? = some (.map es clock)) (o : Obj) : Turned w (setBlock w g o) g :=
  ⟨rfl, rfl, rfl, by simp [setBlock], fun b hne => heap_setBlock_other hb _ hne⟩
theorem Turned.trans {a b c : World} {g : Nat} (h : Turned a b g) (k : Turned b c g) : Turned a c g :=
  ⟨k.os.trans h.os, k.tape.trans h.tape, k.output.trans h.output, k.size.trans h.size, fun b hne => (k.block b hne).trans (h.block b hne)⟩
theorem entryStore_at {w1 : World} {g : Nat} {es : Array MapEntry} {clock : Nat} (hw1 : w1.heap[g]? = some (.map es clock)) {st i : Nat} (v : Value) (hidx : es.findIdx? (fun e => ((e.born : Nat) : Int) == ((st : Nat) : Int)) = some i) :
    (Instr.entryStore 109 (.map (some g)) (goInt st) v).run Try.prog w1 = .ok () (setBlock w1 g (.map (es.modify i (fun e => { e with val := v })) clock)) := by
  simp [Instr.entryStore, MapKept.run_getObj_map hw1, asInt, asIntOf, goInt, hidx, MapKept.run_setObj_map _ hw1, Result.andThen, setBlock]

/-- an entry is sought (and laid, where there is none), and then written -/
theorem CntAt.entry {w : World} {g : Nat} {f : Sl → Nat} (h : CntAt w g f) {s : Sl} (hs : GoodSl s) :
    ∃ (st : Nat) (w1 : World), (Instr.mapEntry 109 (.map (some g)) (slV s)).run Try.prog w = .ok (.tuple #[.int .i64 (f s : Int), goInt st]) w1 ∧ CntAt w1 g f ∧ Turned w w1 g ∧
      ∀ n : Nat, ∃ w2 : World, (Instr.entryStore 109 (.map (some g)) (goInt st) (.int .i64 (n : Int))).run Try.prog w1 = .ok () w2 ∧ CntAt w2 g (updC f s n) ∧ Turned w w2 g := by
  obtain ⟨es, clock, hb, hst, hr, hn⟩ := h
  obtain ⟨kl, hkey⟩ := keySlot s hs
  have hks : ∀ e ∈ es.toList, ∃ l, keyOf Try.prog 108 e.key = some l := fun e he => by
    obtain ⟨u, hu, hk, _⟩ := hr e he
    rw [hk]
    exact keySlot u hu
  have s1 := ((stamped_iff es clock).1 hst).1
  have s2 := ((stamped_iff es clock).1 hst).2.1
  have s3 := ((stamped_iff es clock).1 hst).2.2
  rcases lawSlot.find w hkey es.toList hks with ⟨h1, h2⟩ | ⟨j, e0, h1, h2, h3⟩
  · have hf : f s = 0 := Classical.byContradiction fun hne => by
      obtain ⟨e, he, hk⟩ := hn s hne
      exact h2 e he hk
    have hw1 : (setBlock w g (.map (es.push ⟨slV s, .int .i64 0, clock⟩) (clock + 1))).heap[g]? = some (.map (es.push ⟨slV s, .int .i64 0, clock⟩) (clock + 1)) := heap_setBlock_same hb _
    refine ⟨clock, setBlock w g (.map (es.push ⟨slV s, .int .i64 0, clock⟩) (clock + 1)), ?_, ⟨_, _, hw1, stamped_push hst h2, ?_, ?_⟩, turned_set hb _, fun n => ⟨setBlock (setBlock w g (.map (es.push ⟨slV s, .int .i64 0, clock⟩) (clock + 1))) g (.map (es.push ⟨slV s, .int .i64 (n : Int), clock⟩) (clock + 1)), ?_, ⟨_, _, heap_setBlock_same hw1 _, stamped_push hst h2, ?_, ?_⟩, (turned_set hb _).trans (turned_set hw1 _)⟩⟩
    · simp [Instr.mapEntry, run_underlying Try.underlying109, MapKept.run_getObj_map hb, lawSlot.check w false hkey, h1, zeroInt, MapKept.run_setObj_map _ hb, Result.andThen, setBlock, hf]
    · intro e he
      simp only [Array.toList_push, List.mem_append, List.mem_singleton] at he
      rcases he with he | rfl
      · exact hr e he
      · exact ⟨s, hs, rfl, by rw [hf]; rfl⟩
    · intro t ht
      obtain ⟨e, he, hk⟩ := hn t ht
      exact ⟨e, by simp [he], hk⟩
    · have hidx : (es.push ⟨slV s, .int .i64 0, clock⟩).findIdx? (fun e => ((e.born : Nat) : Int) == ((clock : Nat) : Int)) = some es.size := by
        rw [WideElems.findIdx_arr]
        have := WideElems.findIdx_born (l := (es.push ⟨slV s, .int .i64 0, clock⟩).toList) (j := es.size) (e0 := ⟨slV s, .int .i64 0, clock⟩) (by
          simp only [Array.toList_push, List.map_append, List.map_cons, List.map_nil]
          refine List.nodup_append.2 ⟨s2, by simp, fun a ha c hc e1 => ?_⟩
          simp only [List.mem_singleton] at hc
          obtain ⟨x, hx, rfl⟩ := List.mem_map.1 ha
          have := s1 x hx
          omega) (by simp)
        exact this
      have hmod : (es.push ⟨slV s, .int .i64 0, clock⟩).modify es.size (fun e => { e with val := .int .i64 (n : Int) }) = es.push ⟨slV s, .int .i64 (n : Int), clock⟩ := by
        apply Array.ext'
        rw [Array.toList_modify, Array.toList_push, Array.toList_push, ← Array.length_toList, WideElems.modify_last]
      rw [← hmod]
      exact entryStore_at hw1 _ hidx
    · intro e he
      simp only [Array.toList_push, List.mem_append, List.mem_singleton] at he
      rcases he with he | rfl
      · obtain ⟨u, hu, hk, hv⟩ := hr e he
        refine ⟨u, hu, hk, ?_⟩
        have hne : u ≠ s := fun e1 => h2 e he (by rw [hk, e1])
        rw [hv]
        simp [updC, hne]
      · exact ⟨s, hs, rfl, by simp [updC]⟩
    · intro t ht
      by_cases he : t = s
      · exact ⟨⟨slV s, .int .i64 (n : Int), clock⟩, by simp, by rw [he]⟩
      · obtain ⟨e, hm, hk⟩ := hn t (by simpa [updC, he] using ht)
        exact ⟨e, by simp [hm], hk⟩
  · have hj : es[j]? = some e0 := by simpa using h2
    obtain ⟨u, hu, hk, hv⟩ := hr e0 (List.mem_of_getElem? h2)
    have hus : u = s := slV_inj (hk.symm.trans h3)
    subst hus
    have hsame : es.modify j (fun e => { e with key := slV u }) = es := by
      apply Array.ext'
      rw [Array.toList_modify, modify_eq_set _ _ _ _ h2]
      have : ({ e0 with key := slV u } : MapEntry) = e0 := by rw [← h3]
      rw [this]
      exact WideElems.set_self _ _ _ h2
    have hw1 : (setBlock w g (.map es clock)).heap[g]? = some (.map es clock) := heap_setBlock_same hb _
    refine ⟨e0.born, setBlock w g (.map es clock), ?_, ⟨_, _, hw1, hst, hr, hn⟩, turned_set hb _, fun n => ⟨setBlock (setBlock w g (.map es clock)) g (.map (es.modify j (fun e => { e with val := .int .i64 (n : Int) })) clock), ?_, ⟨_, _, heap_setBlock_same hw1 _, stamped_modify hst _ _ (fun _ _ => rfl) (fun _ _ _ => rfl), ?_, ?_⟩, (turned_set hb _).trans (turned_set hw1 _)⟩⟩
    · simp [Instr.mapEntry, run_underlying Try.underlying109, MapKept.run_getObj_map hb, lawSlot.check w false hkey, h1, hj, h3, lawSlot.stays w hkey, hsame, MapKept.run_setObj_map _ hb, Result.andThen, setBlock, hv]
    · have hidx : es.findIdx? (fun e => ((e.born : Nat) : Int) == ((e0.born : Nat) : Int)) = some j := by
        rw [WideElems.findIdx_arr]
        exact WideElems.findIdx_born s2 h2
      exact entryStore_at hw1 _ hidx
    · intro e he
      rw [Array.toList_modify, modify_eq_set _ _ _ _ h2] at he
      obtain ⟨i, hi, hie⟩ := List.getElem_of_mem he
      rw [List.getElem_set] at hie
      split at hie
      · subst hie
        exact ⟨u, hu, h3, by simp [updC]⟩
      · rename_i hne
        have hi' : i < es.toList.length := by simpa using hi
        have hmem : es.toList[i] ∈ es.toList := List.getElem_mem hi'
        rw [hie] at hmem
        obtain ⟨t, ht, hkt, hvt⟩ := hr e hmem
        refine ⟨t, ht, hkt, ?_⟩
        have htu : t ≠ u := fun e1 => by
          have hjl : j < es.toList.length := (List.getElem?_eq_some_iff.1 h2).1
          have hj0 : es.toList[j] = e0 := (List.getElem?_eq_some_iff.1 h2).2
          have hkk : es.toList[i].key = es.toList[j].key := by rw [hie, hj0, hkt, h3, e1]
          rcases Nat.lt_or_gt_of_ne (fun e => hne e : j ≠ i) with hl | hl
          · exact (List.pairwise_iff_getElem.1 s3 j i hjl hi' hl) hkk.symm
          · exact (List.pairwise_iff_getElem.1 s3 i j hi' hjl hl) hkk
        rw [hvt]
        simp [updC, htu]
    · intro t ht
      have hkeys : (es.modify j (fun e => { e with val := .int .i64 (n : Int) })).toList.map (·.key) = es.toList.map (·.key) := by
        rw [Array.toList_modify, modify_eq_set _ _ _ _ h2, List.map_set]
        exact WideElems.set_self _ _ _ (by simp [h2])
      have hin : ∃ e ∈ es.toList, e.key = slV t := by
        by_cases he : t = u
        · exact ⟨e0, List.mem_of_getElem? h2, by rw [h3, he]⟩
        · exact hn t (by simpa [updC, he] using ht)
      obtain ⟨e, hm, hk⟩ := hin
      have : slV t ∈ es.toList.map (·.key) := List.mem_map.2 ⟨e, hm, hk⟩
      rw [← hkeys] at this
      obtain ⟨e', hm', hk'⟩ := List.mem_map.1 this
      exact ⟨e', hm', hk'⟩
end Go.Proofs.Ytgjommccflfjaaa
