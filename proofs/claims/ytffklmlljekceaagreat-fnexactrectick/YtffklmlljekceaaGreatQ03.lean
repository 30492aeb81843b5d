import Derived.Test.YtffklmlljekceaaGreatQ02
import Derived.WalkSmall
namespace Go.Proofs.YtffklmlljekceaaGreat
open Go.ChangeShapes Go.WideShapes Go.ChangeAt Go.RowKit Go.Deep Go.Joins
set_option linter.unusedSimpArgs false
set_option linter.unusedVariables false
set_option maxHeartbeats 2000000
def OneAt {α : Type} (enc : α → Value) (good : α → Prop) (w : World) (a : Option Addr) (l : List α) : Prop :=
 ∀ (i : Nat) s, l[i]? = some s → ∃ b off, a = some ⟨b, off, none⟩ ∧ b < w.heap.size ∧ w.cell? ⟨b, off + i, none⟩ = some (enc s) ∧ good s
theorem OneAt.ext {α : Type} {enc : α → Value} {good : α → Prop} {w w' : World} {a : Option Addr} {l : List α} (h : OneAt enc good w a l) (hb : Below w.heap.size w w') : OneAt enc good w' a l := fun i s hs => by
 obtain ⟨b, off, ha, hlt, c0, r⟩ := h i s hs
 exact ⟨b, off, ha, Nat.lt_of_lt_of_le hlt hb.size, (hb.cell (p := ⟨b, off + i, none⟩) hlt).trans c0, r⟩
def GoodOnes {α : Type} (good : α → Prop) (l : List α) : Prop := ∀ (i : Nat) s, l[i]? = some s → good s
theorem OneAt.good {α : Type} {enc : α → Value} {good : α → Prop} {w : World} {a : Option Addr} {l : List α} (h : OneAt enc good w a l) : GoodOnes good l := fun i s hs => by
 obtain ⟨b, off, _, _, _, r⟩ := h i s hs
 exact r
def OnesTo {α : Type} (enc : α → Value) (C : Array Value) (l : List α) (k : Nat) : Prop := C.size = l.length ∧ ∀ (i : Nat) s, i < k → l[i]? = some s → C[i]? = some (enc s)
theorem OnesTo.step {α : Type} {enc : α → Value} {C : Array Value} {l : List α} {k : Nat} {s : α} (h : OnesTo enc C l k) (hs : l[k]? = some s) : OnesTo enc (C.setIfInBounds k (enc s)) l (k + 1) := by
 obtain ⟨hz, hc⟩ := h
 have hk : k < l.length := (List.getElem?_eq_some_iff.1 hs).1
 refine ⟨by simp [hz], fun i u hi hu => ?_⟩
 by_cases he : i = k
 ·subst he
  rw [hs] at hu
  simp only [Option.some.injEq] at hu
  subst hu
  rw [Array.getElem?_setIfInBounds_self_of_lt (by omega)]
 rw [Array.getElem?_setIfInBounds_ne (by omega), hc i u (by omega) hu]
def OnesOwn {α : Type} (enc : α → Value) (e : TypeId) (w : World) (g : Nat) (l : List α) : Prop := ∃ C, Blk w g C e ∧ OnesTo enc C l l.length
theorem OnesOwn.at {α : Type} {enc : α → Value} {good : α → Prop} {e : TypeId} {w : World} {g : Nat} {l : List α} (h : OnesOwn enc e w g l) (hg : GoodOnes good l) : OneAt enc good w (some ⟨g, 0, none⟩) l := fun i s hs => by
 obtain ⟨C, hb, hz, hc⟩ := h
 have hi : i < l.length := (List.getElem?_eq_some_iff.1 hs).1
 exact ⟨g, 0, rfl, hb.lt, by rw [Nat.zero_add, hb.cell, hc i s hi hs], hg i s hs⟩
theorem OnesOwn.ext {α : Type} {enc : α → Value} {e : TypeId} {w w' : World} {g : Nat} {l : List α} (h : OnesOwn enc e w g l) (hb : Below w.heap.size w w') : OnesOwn enc e w' g l := by
 obtain ⟨C, h1, h2⟩ := h
 exact ⟨C, h1.ext hb, h2⟩
theorem OnesOwn.setCell {α : Type} {enc : α → Value} {e : TypeId} {w : World} {g : Nat} {l : List α} (h : OnesOwn enc e w g l) {p : Addr} (hp : g ≠ p.block) (v : Value) : OnesOwn enc e (w.setCell p v) g l := by
 obtain ⟨C, h1, h2⟩ := h
 exact ⟨C, h1.setCell hp v, h2⟩
theorem OnesOwn.lt {α : Type} {enc : α → Value} {e : TypeId} {w : World} {g : Nat} {l : List α} (h : OnesOwn enc e w g l) : g < w.heap.size := by
 obtain ⟨C, h1, h2⟩ := h
 exact h1.lt
def wfI (z : Int) : Prop := (Lit.int .i64 z).wf = true
def okS (t : ByteArray) : Prop := t.size ≤ maxLen
abbrev IntsAt (w : World) (a : Option Addr) (l : List Int) : Prop := OneAt (fun z => Value.int .i64 z) wfI w a l
abbrev StrsAt (w : World) (a : Option Addr) (l : List ByteArray) : Prop := OneAt (fun t => Value.string t) okS w a l
abbrev IntsOwn (w : World) (g : Nat) (l : List Int) : Prop := OnesOwn (fun z => Value.int .i64 z) 3 w g l
abbrev StrsOwn (w : World) (g : Nat) (l : List ByteArray) : Prop := OnesOwn (fun t => Value.string t) 9 w g l
theorem szInts (a : Option Addr) (n cap : Nat) (left : Int) (w : World) (hl : 0 ≤ left) (hm : left ≤ 1048576) (hc : n ≤ maxLen) :
  Calls Tryz.prog 24 #[.slice a n cap, .int .i64 left] w fun e w' => ∃ r : Int, e = .returned (.int .i64 r) ∧ -1 ≤ r ∧ r ≤ left ∧ (0 ≤ r → n ≤ 1048576) ∧ Below w.heap.size w w' := by
 unfold maxLen at hc
 by_cases hz : left < n
 ·go_enter Tryz.func24, Tryz.ntmps24
  go_wp2
  go_ret
  exact ⟨-1, rfl, by omega, by omega, by omega, Below.refl _ _⟩
 go_enter Tryz.func24, Tryz.ntmps24
 go_wp2
 go_ret
 exact ⟨_, rfl, by omega, by omega, by omega, Below.refl _ _⟩
theorem szStrs (a : Option Addr) (l : List ByteArray) (n cap : Nat) (left : Int) (w : World) (hn : l.length = n) (hl : 0 ≤ left) (hm : left ≤ 1048576) (hc : n ≤ maxLen) (h : StrsAt w a l) :
  Calls Tryz.prog 23 #[.slice a n cap, .int .i64 left] w fun e w' => ∃ r : Int, e = .returned (.int .i64 r) ∧ -1 ≤ r ∧ r ≤ left ∧ (0 ≤ r → n ≤ 1048576) ∧ Below w.heap.size w w' := by
 unfold maxLen at hc
 have HL : Hid (l.length = n) := hn
 clear hn
 by_cases hz : left < n
 ·go_enter Tryz.func23, Tryz.ntmps23
  go_wp2
  go_ret
  exact ⟨-1, rfl, by omega, by omega, by omega, Below.refl _ _⟩
 go_enter Tryz.func23, Tryz.ntmps23
 go_wp2
 go_loop [1, 5] (fun v i => ∃ (k : Nat) (r : Int), k ≤ n ∧ i = .int .i64 k ∧ v = .int .i64 r ∧ 0 ≤ r ∧ r ≤ left) (fun _ i => n - (intOf i).toNat)
 case atStart => exact ⟨0, _, Nat.zero_le _, rfl, rfl, by omega, by omega⟩
 obtain ⟨k, r, hk, rfl, rfl, hr0, hr1⟩ := hrel
 by_cases hlt : k < n
 ·obtain ⟨s, hs⟩ : ∃ s, l[k]? = some s := ⟨_, List.getElem?_eq_getElem (by rw [HL.out]; exact hlt)⟩
  obtain ⟨b, off, rfl, hb, c0, ht⟩ := h k s hs
  unfold okS maxLen at ht
  clear hs
  by_cases hq : r < (s.size : Int)
  ·go_wp2
   go_ret
   exact ⟨-1, rfl, by omega, by omega, by omega, Below.refl _ _⟩
  go_wp2
  go_round
  case rel => exact ⟨k + 1, _, by omega, by go_num, rfl, by omega, by omega⟩
  case measure => simp [intOf]; omega
 go_wp2
 go_ret
 exact ⟨r, rfl, by omega, by omega, by omega, Below.refl _ _⟩
theorem infoInts : (Tryz.prog.info? 3).map (fun i => (i.zero, i.size, i.bytes)) = some (some (.int .i64 0), 1, 8) := by kernel_rfl
theorem makeInts (n : Nat) (hn : n ≤ 1048576) (w : World) :
  (Instr.makeSlice 27 (.int .i64 (n : Int)) (.int .i64 (n : Int))).run Tryz.prog w = .ok (.slice (some ⟨w.heap.size, 0, none⟩) n n) (w.alloc (.cells (madeCells #[.int .i64 0] n) 3)) := by
 obtain ⟨i0, hi, hz0, hz1, hz2⟩ := info_parts infoInts
 have hm := run_make (P := Tryz.prog) w 27 3 i0 _ Tryz.underlying27 hi hz0 .i64 .i64 (n : Int) (n : Int) (by omega) (by omega) (by rw [hz2]; omega) (by omega)
 rw [hz1] at hm
 simpa [Value.cells] using hm
theorem toInts (a : Option Addr) (l : List Int) (n cap : Nat) (w : World) (hn : l.length = n) (hc : n ≤ 1048576) (h : IntsAt w a l) :
  Calls Tryz.prog 35 #[.slice a n cap] w fun e w' => ∃ g, e = .returned (.slice (some ⟨g, 0, none⟩) n n) ∧ w.heap.size ≤ g ∧ IntsOwn w' g l ∧ Below w.heap.size w w' := by
 have HL : Hid (l.length = n) := hn
 clear hn
 have hmk := makeInts n hc
 go_enter Tryz.func35, Tryz.ntmps35
 go_wp2
 go_loopw [4] (fun i wr => ∃ (k : Nat) (C : Array Value), k ≤ n ∧ i = .int .i64 k ∧ Blk wr w.heap.size C 3 ∧ OnesTo (fun z => Value.int .i64 z) C l k ∧ Below w.heap.size w wr) (fun i _ => n - (intOf i).toNat)
 case atStart => exact ⟨0, _, Nat.zero_le _, rfl, Blk.new _ _ _, ⟨by rw [size_madeCells, HL.out], fun i s hi => absurd hi (by omega)⟩, ext_alloc (Below.refl _ _) _⟩
 obtain ⟨k, C, hk, rfl, hB, hH, hbel⟩ := hrel
 by_cases hlt : k < n
 ·obtain ⟨s, hs⟩ : ∃ s, l[k]? = some s := ⟨_, List.getElem?_eq_getElem (by rw [HL.out]; exact hlt)⟩
  obtain ⟨b, off, rfl, hb, c0, _⟩ := (h.ext hbel) k s hs
  have HS := hH.step hs
  have hz : C.size = n := by rw [hH.1, HL.out]
  obtain ⟨x0, hx0⟩ : ∃ v, C[k]? = some v := ⟨_, Array.getElem?_eq_getElem (by omega)⟩
  clear hs hH
  have e1 : (0 : Int) ≤ (k : Int) := by omega
  have e2 : (k : Int) < (n : Int) := by omega
  have f0 := hB.free k
  have g0 := (hB.cell k).trans hx0
  clear hx0 hz
  have HB : Hid (Blk wr w.heap.size C 3) := hB
  clear hB
  go_wp2
  go_roundw
  case rel => exact ⟨k + 1, _, by omega, by go_num, heap_setCell_same _ _ _ _ _ _ HB.out, HS, hbel.setCell (Nat.le_refl _) _⟩
  case measure => simp [intOf]; omega
 go_wp2
 go_ret
 exact ⟨w.heap.size, rfl, Nat.le_refl _, ⟨C, hB, by rw [HL.out, show n = k by omega]; exact hH⟩, hbel⟩
theorem eqInts_same (a1 a2 : Option Addr) (l : List Int) (n cap1 cap2 : Nat) (w : World) (hn : l.length = n) (hc : n ≤ maxLen) (h1 : IntsAt w a1 l) (h2 : IntsAt w a2 l) :
  Calls Tryz.prog 44 #[.slice a1 n cap1, .slice a2 n cap2] w fun e w' => e = .returned (.bool true) ∧ Below w.heap.size w w' := by
 unfold maxLen at hc
 have HL : Hid (l.length = n) := hn
 clear hn
 go_enter Tryz.func44, Tryz.ntmps44
 go_wp2
 go_loopw [5] (fun i wr => ∃ (k : Nat), k ≤ n ∧ i = .int .i64 k ∧ Below w.heap.size w wr) (fun i _ => n - (intOf i).toNat)
 case atStart => exact ⟨0, Nat.zero_le _, rfl, Below.refl _ _⟩
 obtain ⟨k, hk, rfl, hbel⟩ := hrel
 by_cases hlt : k < n
 ·obtain ⟨s, hs⟩ : ∃ s, l[k]? = some s := ⟨_, List.getElem?_eq_getElem (by rw [HL.out]; exact hlt)⟩
  obtain ⟨b, off, rfl, hb, c0, _⟩ := (h1.ext hbel) k s hs
  obtain ⟨b2, off2, rfl, hb2, d0, _⟩ := (h2.ext hbel) k s hs
  clear hs h1 h2
  have e1 : (0 : Int) ≤ (k : Int) := by omega
  have e2 : (k : Int) < (n : Int) := by omega
  go_wp2
  go_quiet (fail)
  go_wp2
  go_roundw
  case rel => exact ⟨k + 1, by omega, by go_num, below_drewN hbel _⟩
  case measure => simp [intOf]; omega
 go_wp2
 go_ret
 exact ⟨rfl, hbel⟩
theorem infoStrs : (Tryz.prog.info? 9).map (fun i => (i.zero, i.size, i.bytes)) = some (some (.string ⟨#[]⟩), 1, 16) := by kernel_rfl
theorem makeStrs (n : Nat) (hn : n ≤ 1048576) (w : World) :
  (Instr.makeSlice 26 (.int .i64 (n : Int)) (.int .i64 (n : Int))).run Tryz.prog w = .ok (.slice (some ⟨w.heap.size, 0, none⟩) n n) (w.alloc (.cells (madeCells #[.string ⟨#[]⟩] n) 9)) := by
 obtain ⟨i0, hi, hz0, hz1, hz2⟩ := info_parts infoStrs
 have hm := run_make (P := Tryz.prog) w 26 9 i0 _ Tryz.underlying26 hi hz0 .i64 .i64 (n : Int) (n : Int) (by omega) (by omega) (by rw [hz2]; omega) (by omega)
 rw [hz1] at hm
 simpa [Value.cells] using hm
theorem toStrs (a : Option Addr) (l : List ByteArray) (n cap : Nat) (w : World) (hn : l.length = n) (hc : n ≤ 1048576) (h : StrsAt w a l) :
  Calls Tryz.prog 34 #[.slice a n cap] w fun e w' => ∃ g, e = .returned (.slice (some ⟨g, 0, none⟩) n n) ∧ w.heap.size ≤ g ∧ StrsOwn w' g l ∧ Below w.heap.size w w' := by
 have HL : Hid (l.length = n) := hn
 clear hn
 have hmk := makeStrs n hc
 go_enter Tryz.func34, Tryz.ntmps34
 go_wp2
 go_loopw [4] (fun i wr => ∃ (k : Nat) (C : Array Value), k ≤ n ∧ i = .int .i64 k ∧ Blk wr w.heap.size C 9 ∧ OnesTo (fun z => Value.string z) C l k ∧ Below w.heap.size w wr) (fun i _ => n - (intOf i).toNat)
 case atStart => exact ⟨0, _, Nat.zero_le _, rfl, Blk.new _ _ _, ⟨by rw [size_madeCells, HL.out], fun i s hi => absurd hi (by omega)⟩, ext_alloc (Below.refl _ _) _⟩
 obtain ⟨k, C, hk, rfl, hB, hH, hbel⟩ := hrel
 by_cases hlt : k < n
 ·obtain ⟨s, hs⟩ : ∃ s, l[k]? = some s := ⟨_, List.getElem?_eq_getElem (by rw [HL.out]; exact hlt)⟩
  obtain ⟨b, off, rfl, hb, c0, _⟩ := (h.ext hbel) k s hs
  have HS := hH.step hs
  have hz : C.size = n := by rw [hH.1, HL.out]
  obtain ⟨x0, hx0⟩ : ∃ v, C[k]? = some v := ⟨_, Array.getElem?_eq_getElem (by omega)⟩
  clear hs hH
  have e1 : (0 : Int) ≤ (k : Int) := by omega
  have e2 : (k : Int) < (n : Int) := by omega
  have f0 := hB.free k
  have g0 := (hB.cell k).trans hx0
  clear hx0 hz
  have HB : Hid (Blk wr w.heap.size C 9) := hB
  clear hB
  go_wp2
  go_roundw
  case rel => exact ⟨k + 1, _, by omega, by go_num, heap_setCell_same _ _ _ _ _ _ HB.out, HS, hbel.setCell (Nat.le_refl _) _⟩
  case measure => simp [intOf]; omega
 go_wp2
 go_ret
 exact ⟨w.heap.size, rfl, Nat.le_refl _, ⟨C, hB, by rw [HL.out, show n = k by omega]; exact hH⟩, hbel⟩
theorem eqStrs_same (a1 a2 : Option Addr) (l : List ByteArray) (n cap1 cap2 : Nat) (w : World) (hn : l.length = n) (hc : n ≤ maxLen) (h1 : StrsAt w a1 l) (h2 : StrsAt w a2 l) :
  Calls Tryz.prog 43 #[.slice a1 n cap1, .slice a2 n cap2] w fun e w' => e = .returned (.bool true) ∧ Below w.heap.size w w' := by
 unfold maxLen at hc
 have HL : Hid (l.length = n) := hn
 clear hn
 go_enter Tryz.func43, Tryz.ntmps43
 go_wp2
 go_loopw [5] (fun i wr => ∃ (k : Nat), k ≤ n ∧ i = .int .i64 k ∧ Below w.heap.size w wr) (fun i _ => n - (intOf i).toNat)
 case atStart => exact ⟨0, Nat.zero_le _, rfl, Below.refl _ _⟩
 obtain ⟨k, hk, rfl, hbel⟩ := hrel
 by_cases hlt : k < n
 ·obtain ⟨s, hs⟩ : ∃ s, l[k]? = some s := ⟨_, List.getElem?_eq_getElem (by rw [HL.out]; exact hlt)⟩
  obtain ⟨b, off, rfl, hb, c0, _⟩ := (h1.ext hbel) k s hs
  obtain ⟨b2, off2, rfl, hb2, d0, _⟩ := (h2.ext hbel) k s hs
  clear hs h1 h2
  have e1 : (0 : Int) ≤ (k : Int) := by omega
  have e2 : (k : Int) < (n : Int) := by omega
  go_wp2
  go_quiet (fail)
  go_wp2
  go_roundw
  case rel => exact ⟨k + 1, by omega, by go_num, below_drewN hbel _⟩
  case measure => simp [intOf]; omega
 go_wp2
 go_ret
 exact ⟨rfl, hbel⟩
abbrev Ak := Int × List Int
def AcksAt (w : World) (a : Option Addr) (l : List Ak) : Prop :=
 ∀ (i : Nat) s, l[i]? = some s → ∃ b off sa cap, a = some ⟨b, off, none⟩ ∧ b < w.heap.size ∧ w.cell? ⟨b, off + i * 2, none⟩ = some (.int .i64 s.1) ∧ w.cell? ⟨b, off + i * 2 + 1, none⟩ = some (.slice sa s.2.length cap) ∧ wfI s.1 ∧ s.2.length ≤ maxLen ∧ IntsAt w sa s.2
theorem AcksAt.ext {w w' : World} {a : Option Addr} {l : List Ak} (h : AcksAt w a l) (hb : Below w.heap.size w w') : AcksAt w' a l := fun i s hs => by
 obtain ⟨b, off, sa, cap, ha, hlt, c0, c1, h1, h2, h3⟩ := h i s hs
 exact ⟨b, off, sa, cap, ha, Nat.lt_of_lt_of_le hlt hb.size, (hb.cell (p := ⟨b, off + i * 2, none⟩) hlt).trans c0, (hb.cell (p := ⟨b, off + i * 2 + 1, none⟩) hlt).trans c1, h1, h2, h3.ext hb⟩
def AcksGood (l : List Ak) : Prop := ∀ (i : Nat) s, l[i]? = some s → wfI s.1 ∧ s.2.length ≤ maxLen ∧ GoodOnes wfI s.2
theorem AcksAt.good {w : World} {a : Option Addr} {l : List Ak} (h : AcksAt w a l) : AcksGood l := fun i s hs => by
 obtain ⟨b, off, sa, cap, ha, hlt, c0, c1, h1, h2, h3⟩ := h i s hs
 exact ⟨h1, h2, h3.good⟩
def AcksSmall (l : List Ak) : Prop := ∀ (i : Nat) s, l[i]? = some s → s.2.length ≤ 1048576
def AcksTo (w : World) (g : Nat) (C : Array Value) (G : Nat → Nat) (l : List Ak) (k : Nat) : Prop :=
 C.size = l.length * 2 ∧ ∀ (i : Nat) s, i < k → l[i]? = some s → C[i * 2]? = some (.int .i64 s.1) ∧ C[i * 2 + 1]? = some (.slice (some ⟨G i, 0, none⟩) s.2.length s.2.length) ∧
  IntsOwn w (G i) s.2 ∧ g < G i ∧ ∀ j, j < i → G j < G i
theorem AcksTo.step {w w' : World} {g gk : Nat} {C : Array Value} {G : Nat → Nat} {l : List Ak} {k : Nat} {s : Ak} (h : AcksTo w g C G l k) (hs : l[k]? = some s)
  (hkeep : ∀ b t, IntsOwn w b t → b ≠ g → IntsOwn w' b t) (hnew : IntsOwn w' gk s.2) (hg : g < gk) (hG : ∀ i, i < k → G i < gk) :
  AcksTo w' g (((C).setIfInBounds (k * 2) (.int .i64 s.1)).setIfInBounds (k * 2 + 1) (.slice (some ⟨gk, 0, none⟩) s.2.length s.2.length)) (fun i => if i = k then gk else G i) l (k + 1) := by
 obtain ⟨hz, hc⟩ := h
 have hk : k < l.length := (List.getElem?_eq_some_iff.1 hs).1
 refine ⟨by simp [hz], fun i u hi hu => ?_⟩
 by_cases he : i = k
 ·subst he
  rw [hs] at hu
  simp only [Option.some.injEq] at hu
  subst hu
  dsimp only
  rw [if_pos rfl]
  refine ⟨?_, ?_, hnew, hg, fun j hj => by rw [if_neg (by omega)]; exact hG j hj⟩
  ·rw [Array.getElem?_setIfInBounds_ne (by omega), Array.getElem?_setIfInBounds_self_of_lt (by first | omega | (simp only [Array.size_setIfInBounds]; omega))]
  rw [Array.getElem?_setIfInBounds_self_of_lt (by first | omega | (simp only [Array.size_setIfInBounds]; omega))]
 obtain ⟨c0, c1, h1, h2, h3⟩ := hc i u (by omega) hu
 dsimp only
 rw [if_neg he]
 refine ⟨?_, ?_, hkeep _ _ h1 (by omega), h2, fun j hj => by rw [if_neg (by omega)]; exact h3 j hj⟩
 ·rw [Array.getElem?_setIfInBounds_ne (by omega), Array.getElem?_setIfInBounds_ne (by omega), c0]
 rw [Array.getElem?_setIfInBounds_ne (by omega), Array.getElem?_setIfInBounds_ne (by omega), c1]
def AcksOwn (w : World) (g : Nat) (l : List Ak) : Prop := ∃ C G, Blk w g C 105 ∧ AcksTo w g C G l l.length
theorem AcksOwn.at {w : World} {g : Nat} {l : List Ak} (h : AcksOwn w g l) (hg : AcksGood l) : AcksAt w (some ⟨g, 0, none⟩) l := fun i s hs => by
 obtain ⟨C, G, hb, hz, hc⟩ := h
 have hi : i < l.length := (List.getElem?_eq_some_iff.1 hs).1
 obtain ⟨c0, c1, h1, h2, h3⟩ := hc i s hi hs
 obtain ⟨q1, q2, q3⟩ := hg i s hs
 exact ⟨g, 0, some ⟨G i, 0, none⟩, s.2.length, rfl, hb.lt, by rw [Nat.zero_add, hb.cell, c0], by rw [Nat.zero_add, hb.cell, c1], q1, q2, h1.at q3⟩
theorem szAck (s : Ak) (sa : Option Addr) (cap : Nat) (left : Int) (w : World) (hl : 0 ≤ left) (hm : left ≤ 1048576) (hc : s.2.length ≤ maxLen) :
  Calls Tryz.prog 69 #[.agg #[.int .i64 s.1, .slice sa s.2.length cap], .int .i64 left] w fun e w' => ∃ r : Int, e = .returned (.int .i64 r) ∧ -1 ≤ r ∧ r ≤ left ∧ (0 ≤ r → s.2.length ≤ 1048576) ∧ Below w.heap.size w w' := by
 have hB : Below w.heap.size w (w.alloc (.cells #[.int .i64 s.1, .slice sa s.2.length cap] 97)) := ext_alloc (Below.refl _ _) _
 go_enter Tryz.func69, Tryz.ntmps69
 go_wp2_with (go_at_call 24; refine (szInts sa s.2.length cap left _ hl hm hc).mono ?_; rintro e w' ⟨r, rfl, h1, h2, h3, hb'⟩)
 all_goals go_ret
 ·exact ⟨-1, rfl, by omega, by omega, by omega, ext_trans hB hb'⟩
 exact ⟨r, rfl, by omega, by omega, h3, ext_trans hB hb'⟩
theorem toAck (s : Ak) (sa : Option Addr) (cap : Nat) (w : World) (hc : s.2.length ≤ 1048576) (h : IntsAt w sa s.2) :
  Calls Tryz.prog 84 #[.agg #[.int .i64 s.1, .slice sa s.2.length cap]] w fun e w' => ∃ g, e = .returned (.agg #[.int .i64 s.1, .slice (some ⟨g, 0, none⟩) s.2.length s.2.length]) ∧ w.heap.size ≤ g ∧ IntsOwn w' g s.2 ∧ Below w.heap.size w w' := by
 go_enter Tryz.func84, Tryz.ntmps84
 go_wp2_with fail
 have hB : Below w.heap.size w (((w.alloc (.cells #[.int .i64 s.1, .slice sa s.2.length cap] 97)).alloc (.cells #[.int .i64 0, .slice none 0 0] 105)).alloc (.cells #[.int .i64 s.1, .slice none 0 0] 105)) := ext_alloc (ext_alloc (ext_alloc (Below.refl _ _) _) _) _
 refine (toInts sa s.2 s.2.length cap _ rfl hc (h.ext hB)).mono ?_
 rintro e w1 ⟨g, rfl, hg, hown, hb1⟩
 have b1 : Blk w1 (w.heap.size + 1) #[.int .i64 0, .slice none 0 0] 105 := ((Blk.new' _ _ (by simp)).alloc _).ext hb1
 have b2 : Blk w1 (w.heap.size + 1 + 1) #[.int .i64 s.1, .slice none 0 0] 105 := (Blk.new' _ _ (by simp)).ext hb1
 have c1 := b1.cell
 have c2 := b2.cell
 have f1 := b1.free
 have f2 := b2.free
 have hg' : w.heap.size + 1 + 1 < g := by simp at hg; omega
 clear b1 b2 h
 go_wp2
 refine bodyPost_ret (v := .agg #[.int .i64 s.1, .slice (some ⟨g, 0, none⟩) s.2.length s.2.length]) (by simp [results, Tryz.results84, go_sem, c1, c2]) rfl ⟨g, rfl, by omega, ?_, ?_⟩
 ·iterate 3 refine OnesOwn.setCell ?_ (by simp; omega) _
  exact hown
 iterate 3 refine Below.setCell ?_ (by simp; try omega) _
 exact ext_trans hB hb1
theorem eqAck_same (s : Ak) (a1 a2 : Option Addr) (cap1 cap2 : Nat) (w : World) (hc : s.2.length ≤ maxLen) (h1 : IntsAt w a1 s.2) (h2 : IntsAt w a2 s.2) :
  Calls Tryz.prog 111 #[.agg #[.int .i64 s.1, .slice a1 s.2.length cap1], .agg #[.int .i64 s.1, .slice a2 s.2.length cap2]] w fun e w' => e = .returned (.bool true) ∧ Below w.heap.size w w' := by
 have hB : Below w.heap.size w ((w.alloc (.cells #[.int .i64 s.1, .slice a1 s.2.length cap1] 105)).alloc (.cells #[.int .i64 s.1, .slice a2 s.2.length cap2] 105)) := ext_alloc (ext_alloc (Below.refl _ _) _) _
 have g1 := h1.ext hB
 have g2 := h2.ext hB
 go_enter Tryz.func111, Tryz.ntmps111
 go_wp2_with (go_at_call 44; refine (eqInts_same a1 a2 s.2 _ cap1 cap2 _ rfl hc g1 g2).mono ?_; rintro e w' ⟨rfl, hb'⟩)
 go_ret
 exact ⟨rfl, ext_trans hB hb'⟩
theorem szAcks (a : Option Addr) (l : List Ak) (n cap : Nat) (left : Int) (w : World) (hn : l.length = n) (hl : 0 ≤ left) (hm : left ≤ 1048576) (hc : n ≤ maxLen) (h : AcksAt w a l) :
  Calls Tryz.prog 26 #[.slice a n cap, .int .i64 left] w fun e w' => ∃ r : Int, e = .returned (.int .i64 r) ∧ -1 ≤ r ∧ r ≤ left ∧ (0 ≤ r → n ≤ 1048576 ∧ AcksSmall l) ∧ Below w.heap.size w w' := by
 unfold maxLen at hc
 have HL : Hid (l.length = n) := hn
 clear hn
 by_cases hz : left < n
 ·go_enter Tryz.func26, Tryz.ntmps26
  go_wp2
  go_ret
  exact ⟨-1, rfl, by omega, by omega, fun h => absurd h (by omega), Below.refl _ _⟩
 go_enter Tryz.func26, Tryz.ntmps26
 go_wp2
 go_loopw [1, 5] (fun v i wr => ∃ (k : Nat) (r : Int), k ≤ n ∧ i = .int .i64 k ∧ v = .int .i64 r ∧ 0 ≤ r ∧ r ≤ left ∧ (∀ (j : Nat) s, j < k → l[j]? = some s → s.2.length ≤ 1048576) ∧ Below w.heap.size w wr) (fun _ i _ => n - (intOf i).toNat)
 case atStart => exact ⟨0, _, Nat.zero_le _, rfl, rfl, by omega, by omega, fun j s hj => absurd hj (by omega), Below.refl _ _⟩
 obtain ⟨k, r, hk, rfl, rfl, hr0, hr1, hall0, hbel⟩ := hrel
 have hall : Hid (∀ (j : Nat) s, j < k → l[j]? = some s → s.2.length ≤ 1048576) := hall0
 clear hall0
 by_cases hlt : k < n
 ·obtain ⟨s, hs0⟩ : ∃ s, l[k]? = some s := ⟨_, List.getElem?_eq_getElem (by rw [HL.out]; exact hlt)⟩
  obtain ⟨b, off, sa, cp, rfl, hb, c0, c1, q1, q2, q3⟩ := (h.ext hbel) k s hs0
  have hs : Hid (l[k]? = some s) := hs0
  clear hs0
  go_wp2_with (go_at_call 69; refine (szAck s sa cp _ _ (by omega) (by omega) q2).mono ?_; rintro e w' ⟨r', rfl, h1, h2, h3, hb'⟩)
  ·go_ret
   exact ⟨-1, rfl, by omega, by omega, fun h => absurd h (by omega), ext_trans hbel hb'⟩
  go_roundw
  case rel =>
   refine ⟨k + 1, r', by omega, by go_num, rfl, by omega, by omega, fun j u hj hu => ?_, ext_trans hbel hb'⟩
   by_cases he : j = k
   ·subst he; rw [hs.out] at hu; simp only [Option.some.injEq] at hu; rw [← hu]; exact h3 (by omega)
   exact hall.out j u (by omega) hu
  case measure => simp [intOf]; omega
 go_wp2
 go_ret
 exact ⟨r, rfl, by omega, by omega, fun _ => ⟨by omega, fun i s hs => hall.out i s (by have := (List.getElem?_eq_some_iff.1 hs).1; have := HL.out; omega) hs⟩, hbel⟩
theorem infoAcks : (Tryz.prog.info? 105).map (fun i => (i.zero, i.size, i.bytes)) = some (some (.agg #[.int .i64 0, .slice none 0 0]), 2, 32) := by kernel_rfl
theorem makeAcks (n : Nat) (hn : n ≤ 1048576) (w : World) :
  (Instr.makeSlice 39 (.int .i64 (n : Int)) (.int .i64 (n : Int))).run Tryz.prog w = .ok (.slice (some ⟨w.heap.size, 0, none⟩) n n) (w.alloc (.cells (madeCells #[.int .i64 0, .slice none 0 0] (n * 2)) 105)) := by
 obtain ⟨i0, hi, hz0, hz1, hz2⟩ := info_parts infoAcks
 have hm := run_make (P := Tryz.prog) w 39 105 i0 _ Tryz.underlying39 hi hz0 .i64 .i64 (n : Int) (n : Int) (by omega) (by omega) (by rw [hz2]; omega) (by omega)
 rw [hz1] at hm
 simpa [Value.cells] using hm
theorem toAcks (a : Option Addr) (l : List Ak) (n cap : Nat) (w : World) (hn : l.length = n) (hc : n ≤ 1048576) (hsm0 : AcksSmall l) (h : AcksAt w a l) :
  Calls Tryz.prog 37 #[.slice a n cap] w fun e w' => ∃ g, e = .returned (.slice (some ⟨g, 0, none⟩) n n) ∧ w.heap.size ≤ g ∧ AcksOwn w' g l ∧ Below w.heap.size w w' := by
 have HL : Hid (l.length = n) := hn
 have hsm : Hid (AcksSmall l) := hsm0
 clear hn hsm0
 have hmk := makeAcks n hc
 go_enter Tryz.func37, Tryz.ntmps37
 go_wp2
 go_loopw [4] (fun i wr => ∃ (k : Nat) (C : Array Value) (G : Nat → Nat), k ≤ n ∧ i = .int .i64 k ∧ Blk wr w.heap.size C 105 ∧ AcksTo wr w.heap.size C G l k ∧ (∀ i, i < k → G i < wr.heap.size) ∧ Below w.heap.size w wr) (fun i _ => n - (intOf i).toNat)
 case atStart => exact ⟨0, _, fun _ => 0, Nat.zero_le _, rfl, Blk.new _ _ _, ⟨by rw [size_madeCells, HL.out], fun i s hi => absurd hi (by omega)⟩, fun i hi => absurd hi (by omega), ext_alloc (Below.refl _ _) _⟩
 obtain ⟨k, C, G, hk, rfl, hB, hH, hG, hbel⟩ := hrel
 by_cases hlt : k < n
 ·obtain ⟨s, hs⟩ : ∃ s, l[k]? = some s := ⟨_, List.getElem?_eq_getElem (by rw [HL.out]; exact hlt)⟩
  obtain ⟨b, off, sa, cp, rfl, hb, c0, c1, q1, q2, q3⟩ := (h.ext hbel) k s hs
  have hz : C.size = n * 2 := by rw [hH.1, HL.out]
  have hBl := hB.lt
  obtain ⟨x0, hx0⟩ : ∃ v, C[k * 2]? = some v := ⟨_, Array.getElem?_eq_getElem (by omega)⟩
  obtain ⟨x1, hx1⟩ : ∃ v, C[k * 2 + 1]? = some v := ⟨_, Array.getElem?_eq_getElem (by omega)⟩
  clear hz
  have HH : Hid (AcksTo wr w.heap.size C G l k ∧ l[k]? = some s ∧ (∀ i, i < k → G i < wr.heap.size)) := ⟨hH, hs, hG⟩
  have HQ : Hid (s.2.length ≤ 1048576) := hsm.out k s hs
  have e1 : (0 : Int) ≤ (k : Int) := by omega
  have e2 : (k : Int) < (n : Int) := by omega
  clear hs hH hG
  go_wp2_with (go_at_call 84; refine (toAck s sa cp _ HQ.out q3).mono ?_; rintro e w' ⟨gk, rfl, hgk, ho, hb'⟩; have hB' := hB.ext hb'; have ff := hB'.free; have g0 := (hB'.cell (k * 2)).trans hx0; have g1 := (hB'.cell (k * 2 + 1)).trans hx1; have HB : Hid (Blk w' w.heap.size C 105) := hB'; clear hB')
  go_roundw
  case rel =>
   have hB' := HB.out
   have hsz := hb'.size
   refine ⟨k + 1, _, fun i => if i = k then gk else G i, by omega, by go_num, (heap_setCell_same _ _ _ _ _ _ (heap_setCell_same _ _ _ _ _ _ hB')), HH.out.1.step HH.out.2.1 (fun b t hb9 hne => (((hb9.ext hb').setCell hne _).setCell hne _)) ((ho.setCell (by simp; omega) _).setCell (by simp; omega) _) (by omega) (fun i hi => by have := HH.out.2.2 i hi; omega), fun i hi => ?_, (((ext_trans hbel hb').setCell (Nat.le_refl _) _).setCell (Nat.le_refl _) _)⟩
   have hlg := ho.lt
   simp only [World.size_setCell]
   split
   ·omega
   have := HH.out.2.2 i (by omega); omega
  case measure => simp [intOf]; omega
 go_wp2
 go_ret
 exact ⟨w.heap.size, rfl, Nat.le_refl _, ⟨C, G, hB, by rw [HL.out, show n = k by omega]; exact hH⟩, hbel⟩
theorem eqAcks_same (a1 a2 : Option Addr) (l : List Ak) (n cap1 cap2 : Nat) (w : World) (hn : l.length = n) (hc : n ≤ maxLen) (h1 : AcksAt w a1 l) (h2 : AcksAt w a2 l) :
  Calls Tryz.prog 46 #[.slice a1 n cap1, .slice a2 n cap2] w fun e w' => e = .returned (.bool true) ∧ Below w.heap.size w w' := by
 unfold maxLen at hc
 have HL : Hid (l.length = n) := hn
 clear hn
 go_enter Tryz.func46, Tryz.ntmps46
 go_wp2
 go_loopw [5] (fun i wr => ∃ (k : Nat), k ≤ n ∧ i = .int .i64 k ∧ Below w.heap.size w wr) (fun i _ => n - (intOf i).toNat)
 case atStart => exact ⟨0, Nat.zero_le _, rfl, Below.refl _ _⟩
 obtain ⟨k, hk, rfl, hbel⟩ := hrel
 by_cases hlt : k < n
 ·obtain ⟨s, hs⟩ : ∃ s, l[k]? = some s := ⟨_, List.getElem?_eq_getElem (by rw [HL.out]; exact hlt)⟩
  obtain ⟨b, off, sa, cp, rfl, hb, c0, c1, q1, q2, q3⟩ := (h1.ext hbel) k s hs
  obtain ⟨b2, off2, sa2, cp2, rfl, hb2, d0, d1, p1, p2, p3⟩ := (h2.ext hbel) k s hs
  clear hs h1 h2
  have e1 : (0 : Int) ≤ (k : Int) := by omega
  have e2 : (k : Int) < (n : Int) := by omega
  have K6 : Hid (∀ w', Below wr.heap.size wr w' → w'.cell? ⟨b, off + k * 2, none⟩ = some (.int .i64 s.1) ∧ w'.cell? ⟨b, off + k * 2 + 1, none⟩ = some (.slice sa s.2.length cp) ∧ w'.cell? ⟨b2, off2 + k * 2, none⟩ = some (.int .i64 s.1) ∧ w'.cell? ⟨b2, off2 + k * 2 + 1, none⟩ = some (.slice sa2 s.2.length cp2) ∧ Below wr.heap.size wr w') := fun w' hb9 => by
   exact ⟨(hb9.cell (p := ⟨b, off + k * 2, none⟩) hb).trans c0, (hb9.cell (p := ⟨b, off + k * 2 + 1, none⟩) hb).trans c1, (hb9.cell (p := ⟨b2, off2 + k * 2, none⟩) hb2).trans d0, (hb9.cell (p := ⟨b2, off2 + k * 2 + 1, none⟩) hb2).trans d1, hb9⟩
  go_wp2_with fail
  go_region_held3 (fun w' => w'.cell? ⟨b, off + k * 2, none⟩ = some (.int .i64 s.1) ∧ w'.cell? ⟨b, off + k * 2 + 1, none⟩ = some (.slice sa s.2.length cp) ∧ w'.cell? ⟨b2, off2 + k * 2, none⟩ = some (.int .i64 s.1) ∧ w'.cell? ⟨b2, off2 + k * 2 + 1, none⟩ = some (.slice sa2 s.2.length cp2) ∧ Below wr.heap.size wr w')
   ((go_split_ands; refine K6.out _ ?_; first | exact (Below.refl _ _).drew | exact (Below.refl _ _) | assumption | exact ext_trans (by assumption) (by assumption) | exact (ext_trans (by assumption) (by assumption)).drew))
   (first | (go_at_call 111; go_split_ands; refine (eqAck_same s _ _ _ _ _ q2 (q3.ext (by assumption)) (p3.ext (by assumption))).mono ?_; rintro e w' ⟨rfl, hb'⟩))
  go_split_ands
  have BB7 := ext_trans hbel (show Below wr.heap.size wr w' by assumption)
  go_wp2
  go_roundw
  case rel => exact ⟨k + 1, by omega, by go_num, BB7⟩
  case measure => simp [intOf]; omega
 go_wp2
 go_ret
 exact ⟨rfl, hbel⟩
end Go.Proofs.YtffklmlljekceaaGreat
