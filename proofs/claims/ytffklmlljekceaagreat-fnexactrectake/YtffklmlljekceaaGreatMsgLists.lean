/-
  Lists of messages: sz, to, eq.
-/
import Derived.Test.YtffklmlljekceaaGreatOnes
import Derived.Deep.RegionHeld3
namespace Go.Proofs.YtffklmlljekceaaGreat
open Go.ChangeShapes Go.WideShapes Go.ChangeAt Go.RowKit Go.Deep Go.Joins
set_option linter.unusedVariables false
set_option linter.unusedSimpArgs false

abbrev Ms := MsgH × List Sl
/-- the elements l lie behind the address a, 8 cells each -/
def MsgsAt (w : World) (a : Option Addr) (l : List Ms) : Prop :=
  ∀ (i : Nat) s, l[i]? = some s → ∃ b off sa cap, a = some ⟨b, off, none⟩ ∧ b < w.heap.size ∧ w.cell? ⟨b, off + i * 8, none⟩ = some (.int .i64 s.1.k) ∧ w.cell? ⟨b, off + i * 8 + 1, none⟩ = some (.int .i64 s.1.f) ∧ w.cell? ⟨b, off + i * 8 + 2, none⟩ = some (.int .i64 s.1.t) ∧ w.cell? ⟨b, off + i * 8 + 3, none⟩ = some (.int .i64 s.1.b) ∧ w.cell? ⟨b, off + i * 8 + 4, none⟩ = some (.int .i64 s.1.i) ∧ w.cell? ⟨b, off + i * 8 + 5, none⟩ = some (.int .i64 s.1.n) ∧ w.cell? ⟨b, off + i * 8 + 6, none⟩ = some (.string s.1.x) ∧ w.cell? ⟨b, off + i * 8 + 7, none⟩ = some (.slice sa s.2.length cap) ∧ s.1.x.size ≤ maxLen ∧ s.2.length ≤ maxLen ∧ SlotsAt w sa s.2
theorem MsgsAt.ext {w w' : World} {a : Option Addr} {l : List Ms} (h : MsgsAt w a l) (hb : Below w.heap.size w w') : MsgsAt w' a l := fun i s hs => by
  obtain ⟨b, off, sa, cap, ha, hlt, c0, c1, c2, c3, c4, c5, c6, c7, h1, h2, h3⟩ := h i s hs
  exact ⟨b, off, sa, cap, ha, Nat.lt_of_lt_of_le hlt hb.size, (hb.cell (p := ⟨b, off + i * 8, none⟩) hlt).trans c0, (hb.cell (p := ⟨b, off + i * 8 + 1, none⟩) hlt).trans c1, (hb.cell (p := ⟨b, off + i * 8 + 2, none⟩) hlt).trans c2, (hb.cell (p := ⟨b, off + i * 8 + 3, none⟩) hlt).trans c3, (hb.cell (p := ⟨b, off + i * 8 + 4, none⟩) hlt).trans c4, (hb.cell (p := ⟨b, off + i * 8 + 5, none⟩) hlt).trans c5, (hb.cell (p := ⟨b, off + i * 8 + 6, none⟩) hlt).trans c6, (hb.cell (p := ⟨b, off + i * 8 + 7, none⟩) hlt).trans c7, h1, h2, h3.ext hb⟩
def MsgsGood (l : List Ms) : Prop := ∀ (i : Nat) s, l[i]? = some s → s.1.x.size ≤ maxLen ∧ s.2.length ≤ maxLen ∧ GoodSlots s.2
theorem MsgsAt.good {w : World} {a : Option Addr} {l : List Ms} (h : MsgsAt w a l) : MsgsGood l := fun i s hs => by
  obtain ⟨b, off, sa, cap, ha, hlt, c0, c1, c2, c3, c4, c5, c6, c7, h1, h2, h3⟩ := h i s hs
  exact ⟨h1, h2, h3.good⟩
/-- no inner list is long -/
def MsgsSmall (l : List Ms) : Prop := ∀ (i : Nat) s, l[i]? = some s → s.2.length ≤ 1048576

/-- the first k of them lie in the cells C of block g, the inner lists in blocks of their own, one behind the other -/
def MsgsTo (w : World) (g : Nat) (C : Array Value) (G : Nat → Nat) (l : List Ms) (k : Nat) : Prop :=
  C.size = l.length * 8 ∧ ∀ (i : Nat) s, i < k → l[i]? = some s → C[i * 8]? = some (.int .i64 s.1.k) ∧ C[i * 8 + 1]? = some (.int .i64 s.1.f) ∧ C[i * 8 + 2]? = some (.int .i64 s.1.t) ∧ C[i * 8 + 3]? = some (.int .i64 s.1.b) ∧ C[i * 8 + 4]? = some (.int .i64 s.1.i) ∧ C[i * 8 + 5]? = some (.int .i64 s.1.n) ∧ C[i * 8 + 6]? = some (.string s.1.x) ∧ C[i * 8 + 7]? = some (.slice (some ⟨G i, 0, none⟩) s.2.length s.2.length) ∧
    SlotsOwn w (G i) s.2 ∧ g < G i ∧ ∀ j, j < i → G j < G i
theorem MsgsTo.step {w w' : World} {g gk : Nat} {C : Array Value} {G : Nat → Nat} {l : List Ms} {k : Nat} {s : Ms} (h : MsgsTo w g C G l k) (hs : l[k]? = some s)
    (hkeep : ∀ b t, SlotsOwn w b t → b ≠ g → SlotsOwn w' b t) (hnew : SlotsOwn w' gk s.2) (hg : g < gk) (hG : ∀ i, i < k → G i < gk) :
    MsgsTo w' g (((((((((C).setIfInBounds (k * 8) (.int .i64 s.1.k)).setIfInBounds (k * 8 + 1) (.int .i64 s.1.f)).setIfInBounds (k * 8 + 2) (.int .i64 s.1.t)).setIfInBounds (k * 8 + 3) (.int .i64 s.1.b)).setIfInBounds (k * 8 + 4) (.int .i64 s.1.i)).setIfInBounds (k * 8 + 5) (.int .i64 s.1.n)).setIfInBounds (k * 8 + 6) (.string s.1.x)).setIfInBounds (k * 8 + 7) (.slice (some ⟨gk, 0, none⟩) s.2.length s.2.length)) (fun i => if i = k then gk else G i) l (k + 1) := by
  obtain ⟨hz, hc⟩ := h
  have hk : k < l.length := (List.getElem?_eq_some_iff.1 hs).1
  refine ⟨by simp [hz], fun i u hi hu => ?_⟩
  by_cases he : i = k
  · subst he
    rw [hs] at hu
    simp only [Option.some.injEq] at hu
    subst hu
    dsimp only
    rw [if_pos rfl]
    refine ⟨?_, ?_, ?_, ?_, ?_, ?_, ?_, ?_, hnew, hg, fun j hj => by rw [if_neg (by omega)]; exact hG j hj⟩
    · rw [Array.getElem?_setIfInBounds_ne (by omega), Array.getElem?_setIfInBounds_ne (by omega), Array.getElem?_setIfInBounds_ne (by omega), Array.getElem?_setIfInBounds_ne (by omega), Array.getElem?_setIfInBounds_ne (by omega), Array.getElem?_setIfInBounds_ne (by omega), Array.getElem?_setIfInBounds_ne (by omega), Array.getElem?_setIfInBounds_self_of_lt (by first | omega | (simp only [Array.size_setIfInBounds]; omega))]
    · rw [Array.getElem?_setIfInBounds_ne (by omega), Array.getElem?_setIfInBounds_ne (by omega), Array.getElem?_setIfInBounds_ne (by omega), Array.getElem?_setIfInBounds_ne (by omega), Array.getElem?_setIfInBounds_ne (by omega), Array.getElem?_setIfInBounds_ne (by omega), Array.getElem?_setIfInBounds_self_of_lt (by first | omega | (simp only [Array.size_setIfInBounds]; omega))]
    · rw [Array.getElem?_setIfInBounds_ne (by omega), Array.getElem?_setIfInBounds_ne (by omega), Array.getElem?_setIfInBounds_ne (by omega), Array.getElem?_setIfInBounds_ne (by omega), Array.getElem?_setIfInBounds_ne (by omega), Array.getElem?_setIfInBounds_self_of_lt (by first | omega | (simp only [Array.size_setIfInBounds]; omega))]
    · rw [Array.getElem?_setIfInBounds_ne (by omega), Array.getElem?_setIfInBounds_ne (by omega), Array.getElem?_setIfInBounds_ne (by omega), Array.getElem?_setIfInBounds_ne (by omega), Array.getElem?_setIfInBounds_self_of_lt (by first | omega | (simp only [Array.size_setIfInBounds]; omega))]
    · rw [Array.getElem?_setIfInBounds_ne (by omega), Array.getElem?_setIfInBounds_ne (by omega), Array.getElem?_setIfInBounds_ne (by omega), Array.getElem?_setIfInBounds_self_of_lt (by first | omega | (simp only [Array.size_setIfInBounds]; omega))]
    · rw [Array.getElem?_setIfInBounds_ne (by omega), Array.getElem?_setIfInBounds_ne (by omega), Array.getElem?_setIfInBounds_self_of_lt (by first | omega | (simp only [Array.size_setIfInBounds]; omega))]
    · rw [Array.getElem?_setIfInBounds_ne (by omega), Array.getElem?_setIfInBounds_self_of_lt (by first | omega | (simp only [Array.size_setIfInBounds]; omega))]
    · rw [Array.getElem?_setIfInBounds_self_of_lt (by first | omega | (simp only [Array.size_setIfInBounds]; omega))]
  · obtain ⟨c0, c1, c2, c3, c4, c5, c6, c7, h1, h2, h3⟩ := hc i u (by omega) hu
    dsimp only
    rw [if_neg he]
    refine ⟨?_, ?_, ?_, ?_, ?_, ?_, ?_, ?_, hkeep _ _ h1 (by omega), h2, fun j hj => by rw [if_neg (by omega)]; exact h3 j hj⟩
    · rw [Array.getElem?_setIfInBounds_ne (by omega), Array.getElem?_setIfInBounds_ne (by omega), Array.getElem?_setIfInBounds_ne (by omega), Array.getElem?_setIfInBounds_ne (by omega), Array.getElem?_setIfInBounds_ne (by omega), Array.getElem?_setIfInBounds_ne (by omega), Array.getElem?_setIfInBounds_ne (by omega), Array.getElem?_setIfInBounds_ne (by omega), c0]
    · rw [Array.getElem?_setIfInBounds_ne (by omega), Array.getElem?_setIfInBounds_ne (by omega), Array.getElem?_setIfInBounds_ne (by omega), Array.getElem?_setIfInBounds_ne (by omega), Array.getElem?_setIfInBounds_ne (by omega), Array.getElem?_setIfInBounds_ne (by omega), Array.getElem?_setIfInBounds_ne (by omega), Array.getElem?_setIfInBounds_ne (by omega), c1]
    · rw [Array.getElem?_setIfInBounds_ne (by omega), Array.getElem?_setIfInBounds_ne (by omega), Array.getElem?_setIfInBounds_ne (by omega), Array.getElem?_setIfInBounds_ne (by omega), Array.getElem?_setIfInBounds_ne (by omega), Array.getElem?_setIfInBounds_ne (by omega), Array.getElem?_setIfInBounds_ne (by omega), Array.getElem?_setIfInBounds_ne (by omega), c2]
    · rw [Array.getElem?_setIfInBounds_ne (by omega), Array.getElem?_setIfInBounds_ne (by omega), Array.getElem?_setIfInBounds_ne (by omega), Array.getElem?_setIfInBounds_ne (by omega), Array.getElem?_setIfInBounds_ne (by omega), Array.getElem?_setIfInBounds_ne (by omega), Array.getElem?_setIfInBounds_ne (by omega), Array.getElem?_setIfInBounds_ne (by omega), c3]
    · rw [Array.getElem?_setIfInBounds_ne (by omega), Array.getElem?_setIfInBounds_ne (by omega), Array.getElem?_setIfInBounds_ne (by omega), Array.getElem?_setIfInBounds_ne (by omega), Array.getElem?_setIfInBounds_ne (by omega), Array.getElem?_setIfInBounds_ne (by omega), Array.getElem?_setIfInBounds_ne (by omega), Array.getElem?_setIfInBounds_ne (by omega), c4]
    · rw [Array.getElem?_setIfInBounds_ne (by omega), Array.getElem?_setIfInBounds_ne (by omega), Array.getElem?_setIfInBounds_ne (by omega), Array.getElem?_setIfInBounds_ne (by omega), Array.getElem?_setIfInBounds_ne (by omega), Array.getElem?_setIfInBounds_ne (by omega), Array.getElem?_setIfInBounds_ne (by omega), Array.getElem?_setIfInBounds_ne (by omega), c5]
    · rw [Array.getElem?_setIfInBounds_ne (by omega), Array.getElem?_setIfInBounds_ne (by omega), Array.getElem?_setIfInBounds_ne (by omega), Array.getElem?_setIfInBounds_ne (by omega), Array.getElem?_setIfInBounds_ne (by omega), Array.getElem?_setIfInBounds_ne (by omega), Array.getElem?_setIfInBounds_ne (by omega), Array.getElem?_setIfInBounds_ne (by omega), c6]
    · rw [Array.getElem?_setIfInBounds_ne (by omega), Array.getElem?_setIfInBounds_ne (by omega), Array.getElem?_setIfInBounds_ne (by omega), Array.getElem?_setIfInBounds_ne (by omega), Array.getElem?_setIfInBounds_ne (by omega), Array.getElem?_setIfInBounds_ne (by omega), Array.getElem?_setIfInBounds_ne (by omega), Array.getElem?_setIfInBounds_ne (by omega), c7]
def MsgsOwn (w : World) (g : Nat) (l : List Ms) : Prop := ∃ C G, Blk w g C 45 ∧ MsgsTo w g C G l l.length
theorem MsgsOwn.at {w : World} {g : Nat} {l : List Ms} (h : MsgsOwn w g l) (hg : MsgsGood l) : MsgsAt w (some ⟨g, 0, none⟩) l := fun i s hs => by
  obtain ⟨C, G, hb, hz, hc⟩ := h
  have hi : i < l.length := (List.getElem?_eq_some_iff.1 hs).1
  obtain ⟨c0, c1, c2, c3, c4, c5, c6, c7, h1, h2, h3⟩ := hc i s hi hs
  obtain ⟨q1, q2, q3⟩ := hg i s hs
  exact ⟨g, 0, some ⟨G i, 0, none⟩, s.2.length, rfl, hb.lt, by rw [Nat.zero_add, hb.cell, c0], by rw [Nat.zero_add, hb.cell, c1], by rw [Nat.zero_add, hb.cell, c2], by rw [Nat.zero_add, hb.cell, c3], by rw [Nat.zero_add, hb.cell, c4], by rw [Nat.zero_add, hb.cell, c5], by rw [Nat.zero_add, hb.cell, c6], by rw [Nat.zero_add, hb.cell, c7], q1, q2, h1.at q3⟩
theorem MsgsOwn.ext {w w' : World} {g : Nat} {l : List Ms} (h : MsgsOwn w g l) (hb : Below w.heap.size w w') : MsgsOwn w' g l := by
  obtain ⟨C, G, h1, hz, hc⟩ := h
  refine ⟨C, G, h1.ext hb, hz, fun i s hi hs => ?_⟩
  obtain ⟨c0, c1, c2, c3, c4, c5, c6, c7, q1, q2, q3⟩ := hc i s hi hs
  exact ⟨c0, c1, c2, c3, c4, c5, c6, c7, q1.ext hb, q2, q3⟩
theorem MsgsOwn.setCell {w : World} {g : Nat} {l : List Ms} (h : MsgsOwn w g l) {p : Addr} (hp : p.block < g) (v : Value) : MsgsOwn (w.setCell p v) g l := by
  obtain ⟨C, G, h1, hz, hc⟩ := h
  refine ⟨C, G, h1.setCell (by omega) v, hz, fun i s hi hs => ?_⟩
  obtain ⟨c0, c1, c2, c3, c4, c5, c6, c7, q1, q2, q3⟩ := hc i s hi hs
  exact ⟨c0, c1, c2, c3, c4, c5, c6, c7, q1.setCell (by omega) v, q2, q3⟩

set_option maxHeartbeats 800000 in
theorem szMsgs (a : Option Addr) (l : List Ms) (n cap : Nat) (left : Int) (w : World) (hn : l.length = n) (hl : 0 ≤ left) (hm : left ≤ 1048576) (hc : n ≤ maxLen) (h : MsgsAt w a l) :
    Calls Tryz.prog 22 #[.slice a n cap, .int .i64 left] w fun e w' => ∃ r : Int, e = .returned (.int .i64 r) ∧ -1 ≤ r ∧ r ≤ left ∧ (0 ≤ r → n ≤ 1048576 ∧ MsgsSmall l) ∧ Below w.heap.size w w' := by
  unfold maxLen at hc
  have HL : Hid (l.length = n) := hn
  clear hn
  by_cases hz : left < n
  · go_enter Tryz.func22, Tryz.ntmps22
    go_wp2
    go_ret
    exact ⟨-1, rfl, by omega, by omega, fun h => absurd h (by omega), Below.refl _ _⟩
  · go_enter Tryz.func22, Tryz.ntmps22
    go_wp2
    go_loopw [1, 5] (fun v i wr => ∃ (k : Nat) (r : Int), k ≤ n ∧ i = .int .i64 k ∧ v = .int .i64 r ∧ 0 ≤ r ∧ r ≤ left ∧ (∀ (j : Nat) s, j < k → l[j]? = some s → s.2.length ≤ 1048576) ∧ Below w.heap.size w wr) (fun _ i _ => n - (intOf i).toNat)
    case atStart => exact ⟨0, _, Nat.zero_le _, rfl, rfl, by omega, by omega, fun j s hj => absurd hj (by omega), Below.refl _ _⟩
    case round =>
      obtain ⟨k, r, hk, rfl, rfl, hr0, hr1, hall0, hbel⟩ := hrel
      have hall : Hid (∀ (j : Nat) s, j < k → l[j]? = some s → s.2.length ≤ 1048576) := hall0
      clear hall0
      by_cases hlt : k < n
      · obtain ⟨s, hs0⟩ : ∃ s, l[k]? = some s := ⟨_, List.getElem?_eq_getElem (by rw [HL.out]; exact hlt)⟩
        obtain ⟨b, off, sa, cp, rfl, hb, c0, c1, c2, c3, c4, c5, c6, c7, q1, q2, q3⟩ := (h.ext hbel) k s hs0
        have hs : Hid (l[k]? = some s) := hs0
        clear hs0
        go_wp2_with (go_at_call 6; refine (szMsg s.1 sa s.2 s.2.length cp _ _ rfl (by omega) (by omega) q2 q1 q3).mono ?_; rintro e w' ⟨r', rfl, h1, h2, h3, hb'⟩)
        · go_ret
          exact ⟨-1, rfl, by omega, by omega, fun h => absurd h (by omega), ext_trans hbel hb'⟩
        · go_roundw
          case rel =>
            refine ⟨k + 1, r', by omega, by go_num, rfl, by omega, by omega, fun j u hj hu => ?_, ext_trans hbel hb'⟩
            by_cases he : j = k
            · subst he; rw [hs.out] at hu; simp only [Option.some.injEq] at hu; rw [← hu]; exact h3 (by omega)
            · exact hall.out j u (by omega) hu
          case measure => simp [intOf]; omega
      · go_wp2
        go_ret
        exact ⟨r, rfl, by omega, by omega, fun _ => ⟨by omega, fun i s hs => hall.out i s (by have := (List.getElem?_eq_some_iff.1 hs).1; have := HL.out; omega) hs⟩, hbel⟩

theorem infoMsgs : (Tryz.prog.info? 45).map (fun i => (i.zero, i.size, i.bytes)) = some (some (.agg #[.int .i64 0, .int .i64 0, .int .i64 0, .int .i64 0, .int .i64 0, .int .i64 0, .string ⟨#[]⟩, .slice none 0 0]), 8, 88) := by kernel_rfl
theorem makeMsgs (n : Nat) (hn : n ≤ 1048576) (w : World) :
    (Instr.makeSlice 38 (.int .i64 (n : Int)) (.int .i64 (n : Int))).run Tryz.prog w = .ok (.slice (some ⟨w.heap.size, 0, none⟩) n n) (w.alloc (.cells (madeCells #[.int .i64 0, .int .i64 0, .int .i64 0, .int .i64 0, .int .i64 0, .int .i64 0, .string ⟨#[]⟩, .slice none 0 0] (n * 8)) 45)) := by
  obtain ⟨i0, hi, hz0, hz1, hz2⟩ := info_parts infoMsgs
  have hm := run_make (P := Tryz.prog) w 38 45 i0 _ Tryz.underlying38 hi hz0 .i64 .i64 (n : Int) (n : Int) (by omega) (by omega) (by rw [hz2]; omega) (by omega)
  rw [hz1] at hm
  simpa [Value.cells] using hm

set_option maxHeartbeats 2000000 in
theorem toMsgs (a : Option Addr) (l : List Ms) (n cap : Nat) (w : World) (hn : l.length = n) (hc : n ≤ 1048576) (hsm0 : MsgsSmall l) (h : MsgsAt w a l) :
    Calls Tryz.prog 33 #[.slice a n cap] w fun e w' => ∃ g, e = .returned (.slice (some ⟨g, 0, none⟩) n n) ∧ w.heap.size ≤ g ∧ MsgsOwn w' g l ∧ Below w.heap.size w w' := by
  have HL : Hid (l.length = n) := hn
  have hsm : Hid (MsgsSmall l) := hsm0
  clear hn hsm0
  have hmk := makeMsgs n hc
  go_enter Tryz.func33, Tryz.ntmps33
  go_wp2
  go_loopw [4] (fun i wr => ∃ (k : Nat) (C : Array Value) (G : Nat → Nat), k ≤ n ∧ i = .int .i64 k ∧ Blk wr w.heap.size C 45 ∧ MsgsTo wr w.heap.size C G l k ∧ (∀ i, i < k → G i < wr.heap.size) ∧ Below w.heap.size w wr) (fun i _ => n - (intOf i).toNat)
  case atStart => exact ⟨0, _, fun _ => 0, Nat.zero_le _, rfl, Blk.new _ _ _, ⟨by rw [size_madeCells, HL.out], fun i s hi => absurd hi (by omega)⟩, fun i hi => absurd hi (by omega), ext_alloc (Below.refl _ _) _⟩
  case round =>
    obtain ⟨k, C, G, hk, rfl, hB, hH, hG, hbel⟩ := hrel
    by_cases hlt : k < n
    · obtain ⟨s, hs⟩ : ∃ s, l[k]? = some s := ⟨_, List.getElem?_eq_getElem (by rw [HL.out]; exact hlt)⟩
      obtain ⟨b, off, sa, cp, rfl, hb, c0, c1, c2, c3, c4, c5, c6, c7, q1, q2, q3⟩ := (h.ext hbel) k s hs
      have hz : C.size = n * 8 := by rw [hH.1, HL.out]
      have hBl := hB.lt
      obtain ⟨x0, hx0⟩ : ∃ v, C[k * 8]? = some v := ⟨_, Array.getElem?_eq_getElem (by omega)⟩
      obtain ⟨x1, hx1⟩ : ∃ v, C[k * 8 + 1]? = some v := ⟨_, Array.getElem?_eq_getElem (by omega)⟩
      obtain ⟨x2, hx2⟩ : ∃ v, C[k * 8 + 2]? = some v := ⟨_, Array.getElem?_eq_getElem (by omega)⟩
      obtain ⟨x3, hx3⟩ : ∃ v, C[k * 8 + 3]? = some v := ⟨_, Array.getElem?_eq_getElem (by omega)⟩
      obtain ⟨x4, hx4⟩ : ∃ v, C[k * 8 + 4]? = some v := ⟨_, Array.getElem?_eq_getElem (by omega)⟩
      obtain ⟨x5, hx5⟩ : ∃ v, C[k * 8 + 5]? = some v := ⟨_, Array.getElem?_eq_getElem (by omega)⟩
      obtain ⟨x6, hx6⟩ : ∃ v, C[k * 8 + 6]? = some v := ⟨_, Array.getElem?_eq_getElem (by omega)⟩
      obtain ⟨x7, hx7⟩ : ∃ v, C[k * 8 + 7]? = some v := ⟨_, Array.getElem?_eq_getElem (by omega)⟩
      clear hz
      have HH : Hid (MsgsTo wr w.heap.size C G l k ∧ l[k]? = some s ∧ (∀ i, i < k → G i < wr.heap.size)) := ⟨hH, hs, hG⟩
      have HQ : Hid (s.2.length ≤ 1048576) := hsm.out k s hs
      have e1 : (0 : Int) ≤ (k : Int) := by omega
      have e2 : (k : Int) < (n : Int) := by omega
      clear hs hH hG
      go_wp2_with (go_at_call 9; refine (toMsg s.1 sa s.2 s.2.length cp _ rfl HQ.out q3).mono ?_; rintro e w' ⟨gk, rfl, hgk, ho, hb'⟩; have hB' := hB.ext hb'; have ff := hB'.free; have g0 := (hB'.cell (k * 8)).trans hx0; have g1 := (hB'.cell (k * 8 + 1)).trans hx1; have g2 := (hB'.cell (k * 8 + 2)).trans hx2; have g3 := (hB'.cell (k * 8 + 3)).trans hx3; have g4 := (hB'.cell (k * 8 + 4)).trans hx4; have g5 := (hB'.cell (k * 8 + 5)).trans hx5; have g6 := (hB'.cell (k * 8 + 6)).trans hx6; have g7 := (hB'.cell (k * 8 + 7)).trans hx7; have HB : Hid (Blk w' w.heap.size C 45) := hB'; clear hB')
      go_roundw
      case rel =>
        have hB' := HB.out
        have hsz := hb'.size
        refine ⟨k + 1, _, fun i => if i = k then gk else G i, by omega, by go_num, (heap_setCell_same _ _ _ _ _ _ (heap_setCell_same _ _ _ _ _ _ (heap_setCell_same _ _ _ _ _ _ (heap_setCell_same _ _ _ _ _ _ (heap_setCell_same _ _ _ _ _ _ (heap_setCell_same _ _ _ _ _ _ (heap_setCell_same _ _ _ _ _ _ (heap_setCell_same _ _ _ _ _ _ hB')))))))), HH.out.1.step HH.out.2.1 (fun b t hb9 hne => (((((((((hb9.ext hb').setCell hne _).setCell hne _).setCell hne _).setCell hne _).setCell hne _).setCell hne _).setCell hne _).setCell hne _)) ((((((((ho.setCell (by simp; omega) _).setCell (by simp; omega) _).setCell (by simp; omega) _).setCell (by simp; omega) _).setCell (by simp; omega) _).setCell (by simp; omega) _).setCell (by simp; omega) _).setCell (by simp; omega) _) (by omega) (fun i hi => by have := HH.out.2.2 i hi; omega), fun i hi => ?_, (((((((((ext_trans hbel hb').setCell (Nat.le_refl _) _).setCell (Nat.le_refl _) _).setCell (Nat.le_refl _) _).setCell (Nat.le_refl _) _).setCell (Nat.le_refl _) _).setCell (Nat.le_refl _) _).setCell (Nat.le_refl _) _).setCell (Nat.le_refl _) _)⟩
        have hlg := ho.lt
        simp only [World.size_setCell]
        split
        · omega
        · have := HH.out.2.2 i (by omega); omega
      case measure => simp [intOf]; omega
    · go_wp2
      go_ret
      exact ⟨w.heap.size, rfl, Nat.le_refl _, ⟨C, G, hB, by rw [HL.out, show n = k by omega]; exact hH⟩, hbel⟩

set_option maxHeartbeats 2000000 in
theorem eqMsgs_same (a1 a2 : Option Addr) (l : List Ms) (n cap1 cap2 : Nat) (w : World) (hn : l.length = n) (hc : n ≤ maxLen) (h1 : MsgsAt w a1 l) (h2 : MsgsAt w a2 l) :
    Calls Tryz.prog 18 #[.slice a1 n cap1, .slice a2 n cap2] w fun e w' => e = .returned (.bool true) ∧ Below w.heap.size w w' := by
  unfold maxLen at hc
  have HL : Hid (l.length = n) := hn
  clear hn
  go_enter Tryz.func18, Tryz.ntmps18
  go_wp2
  go_loopw [5] (fun i wr => ∃ (k : Nat), k ≤ n ∧ i = .int .i64 k ∧ Below w.heap.size w wr) (fun i _ => n - (intOf i).toNat)
  case atStart => exact ⟨0, Nat.zero_le _, rfl, Below.refl _ _⟩
  case round =>
    obtain ⟨k, hk, rfl, hbel⟩ := hrel
    by_cases hlt : k < n
    · obtain ⟨s, hs⟩ : ∃ s, l[k]? = some s := ⟨_, List.getElem?_eq_getElem (by rw [HL.out]; exact hlt)⟩
      obtain ⟨b, off, sa, cp, rfl, hb, c0, c1, c2, c3, c4, c5, c6, c7, q1, q2, q3⟩ := (h1.ext hbel) k s hs
      obtain ⟨b2, off2, sa2, cp2, rfl, hb2, d0, d1, d2, d3, d4, d5, d6, d7, p1, p2, p3⟩ := (h2.ext hbel) k s hs
      clear hs h1 h2
      have e1 : (0 : Int) ≤ (k : Int) := by omega
      have e2 : (k : Int) < (n : Int) := by omega
      have K6 : Hid (∀ w', Below wr.heap.size wr w' → w'.cell? ⟨b, off + k * 8, none⟩ = some (.int .i64 s.1.k) ∧ w'.cell? ⟨b, off + k * 8 + 1, none⟩ = some (.int .i64 s.1.f) ∧ w'.cell? ⟨b, off + k * 8 + 2, none⟩ = some (.int .i64 s.1.t) ∧ w'.cell? ⟨b, off + k * 8 + 3, none⟩ = some (.int .i64 s.1.b) ∧ w'.cell? ⟨b, off + k * 8 + 4, none⟩ = some (.int .i64 s.1.i) ∧ w'.cell? ⟨b, off + k * 8 + 5, none⟩ = some (.int .i64 s.1.n) ∧ w'.cell? ⟨b, off + k * 8 + 6, none⟩ = some (.string s.1.x) ∧ w'.cell? ⟨b, off + k * 8 + 7, none⟩ = some (.slice sa s.2.length cp) ∧ w'.cell? ⟨b2, off2 + k * 8, none⟩ = some (.int .i64 s.1.k) ∧ w'.cell? ⟨b2, off2 + k * 8 + 1, none⟩ = some (.int .i64 s.1.f) ∧ w'.cell? ⟨b2, off2 + k * 8 + 2, none⟩ = some (.int .i64 s.1.t) ∧ w'.cell? ⟨b2, off2 + k * 8 + 3, none⟩ = some (.int .i64 s.1.b) ∧ w'.cell? ⟨b2, off2 + k * 8 + 4, none⟩ = some (.int .i64 s.1.i) ∧ w'.cell? ⟨b2, off2 + k * 8 + 5, none⟩ = some (.int .i64 s.1.n) ∧ w'.cell? ⟨b2, off2 + k * 8 + 6, none⟩ = some (.string s.1.x) ∧ w'.cell? ⟨b2, off2 + k * 8 + 7, none⟩ = some (.slice sa2 s.2.length cp2) ∧ Below wr.heap.size wr w') := fun w' hb9 => by
        exact ⟨(hb9.cell (p := ⟨b, off + k * 8, none⟩) hb).trans c0, (hb9.cell (p := ⟨b, off + k * 8 + 1, none⟩) hb).trans c1, (hb9.cell (p := ⟨b, off + k * 8 + 2, none⟩) hb).trans c2, (hb9.cell (p := ⟨b, off + k * 8 + 3, none⟩) hb).trans c3, (hb9.cell (p := ⟨b, off + k * 8 + 4, none⟩) hb).trans c4, (hb9.cell (p := ⟨b, off + k * 8 + 5, none⟩) hb).trans c5, (hb9.cell (p := ⟨b, off + k * 8 + 6, none⟩) hb).trans c6, (hb9.cell (p := ⟨b, off + k * 8 + 7, none⟩) hb).trans c7, (hb9.cell (p := ⟨b2, off2 + k * 8, none⟩) hb2).trans d0, (hb9.cell (p := ⟨b2, off2 + k * 8 + 1, none⟩) hb2).trans d1, (hb9.cell (p := ⟨b2, off2 + k * 8 + 2, none⟩) hb2).trans d2, (hb9.cell (p := ⟨b2, off2 + k * 8 + 3, none⟩) hb2).trans d3, (hb9.cell (p := ⟨b2, off2 + k * 8 + 4, none⟩) hb2).trans d4, (hb9.cell (p := ⟨b2, off2 + k * 8 + 5, none⟩) hb2).trans d5, (hb9.cell (p := ⟨b2, off2 + k * 8 + 6, none⟩) hb2).trans d6, (hb9.cell (p := ⟨b2, off2 + k * 8 + 7, none⟩) hb2).trans d7, hb9⟩
      go_wp2_with fail
      go_region_held3 (fun w' => w'.cell? ⟨b, off + k * 8, none⟩ = some (.int .i64 s.1.k) ∧ w'.cell? ⟨b, off + k * 8 + 1, none⟩ = some (.int .i64 s.1.f) ∧ w'.cell? ⟨b, off + k * 8 + 2, none⟩ = some (.int .i64 s.1.t) ∧ w'.cell? ⟨b, off + k * 8 + 3, none⟩ = some (.int .i64 s.1.b) ∧ w'.cell? ⟨b, off + k * 8 + 4, none⟩ = some (.int .i64 s.1.i) ∧ w'.cell? ⟨b, off + k * 8 + 5, none⟩ = some (.int .i64 s.1.n) ∧ w'.cell? ⟨b, off + k * 8 + 6, none⟩ = some (.string s.1.x) ∧ w'.cell? ⟨b, off + k * 8 + 7, none⟩ = some (.slice sa s.2.length cp) ∧ w'.cell? ⟨b2, off2 + k * 8, none⟩ = some (.int .i64 s.1.k) ∧ w'.cell? ⟨b2, off2 + k * 8 + 1, none⟩ = some (.int .i64 s.1.f) ∧ w'.cell? ⟨b2, off2 + k * 8 + 2, none⟩ = some (.int .i64 s.1.t) ∧ w'.cell? ⟨b2, off2 + k * 8 + 3, none⟩ = some (.int .i64 s.1.b) ∧ w'.cell? ⟨b2, off2 + k * 8 + 4, none⟩ = some (.int .i64 s.1.i) ∧ w'.cell? ⟨b2, off2 + k * 8 + 5, none⟩ = some (.int .i64 s.1.n) ∧ w'.cell? ⟨b2, off2 + k * 8 + 6, none⟩ = some (.string s.1.x) ∧ w'.cell? ⟨b2, off2 + k * 8 + 7, none⟩ = some (.slice sa2 s.2.length cp2) ∧ Below wr.heap.size wr w')
        ((go_split_ands; refine K6.out _ ?_; first | exact (Below.refl _ _).drew | exact (Below.refl _ _) | assumption | exact ext_trans (by assumption) (by assumption) | exact (ext_trans (by assumption) (by assumption)).drew))
        (first | (go_at_call 12; go_split_ands; refine (eqMsg_same s.1 _ _ s.2 _ _ _ _ rfl q2 (q3.ext (by assumption)) (p3.ext (by assumption))).mono ?_; rintro e w' ⟨rfl, hb'⟩))
      go_split_ands
      have BB7 := ext_trans hbel (show Below wr.heap.size wr w' by assumption)
      go_wp2
      go_roundw
      case rel => exact ⟨k + 1, by omega, by go_num, BB7⟩
      case measure => simp [intOf]; omega
    · go_wp2
      go_ret
      exact ⟨rfl, hbel⟩

end Go.Proofs.YtffklmlljekceaaGreat
