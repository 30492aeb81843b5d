import Derived.Test.YtffklmlljekceaaGreatQ03
namespace Go.Proofs.YtffklmlljekceaaGreat
open Go.ChangeShapes Go.WideShapes Go.ChangeAt Go.RowKit Go.Deep Go.Joins
set_option linter.unusedSimpArgs false
set_option linter.unusedVariables false
set_option maxHeartbeats 8000000
abbrev Ms := MsgH × List Sl
def MsgsAt (w : World) (a : Option Addr) (l : List Ms) : Prop :=
 ∀ (i : Nat) s, l[i]? = some s → ∃ b off sa cap, a = some ⟨b, off, none⟩ ∧ b < w.heap.size ∧ w.cell? ⟨b, off + i * 8, none⟩ = some (.int .i64 s.1.k) ∧ w.cell? ⟨b, off + i * 8 + 1, none⟩ = some (.int .i64 s.1.f) ∧ w.cell? ⟨b, off + i * 8 + 2, none⟩ = some (.int .i64 s.1.t) ∧ w.cell? ⟨b, off + i * 8 + 3, none⟩ = some (.int .i64 s.1.b) ∧ w.cell? ⟨b, off + i * 8 + 4, none⟩ = some (.int .i64 s.1.i) ∧ w.cell? ⟨b, off + i * 8 + 5, none⟩ = some (.int .i64 s.1.n) ∧ w.cell? ⟨b, off + i * 8 + 6, none⟩ = some (.string s.1.x) ∧ w.cell? ⟨b, off + i * 8 + 7, none⟩ = some (.slice sa s.2.length cap) ∧ s.1.x.size ≤ maxLen ∧ s.2.length ≤ maxLen ∧ SlotsAt w sa s.2
theorem MsgsAt.ext {w w' : World} {a : Option Addr} {l : List Ms} (h : MsgsAt w a l) (hb : Below w.heap.size w w') : MsgsAt w' a l := fun i s hs => by
 obtain ⟨b, off, sa, cap, ha, hlt, c0, c1, c2, c3, c4, c5, c6, c7, h1, h2, h3⟩ := h i s hs
 exact ⟨b, off, sa, cap, ha, Nat.lt_of_lt_of_le hlt hb.size, (hb.cell (p := ⟨b, off + i * 8, none⟩) hlt).trans c0, (hb.cell (p := ⟨b, off + i * 8 + 1, none⟩) hlt).trans c1, (hb.cell (p := ⟨b, off + i * 8 + 2, none⟩) hlt).trans c2, (hb.cell (p := ⟨b, off + i * 8 + 3, none⟩) hlt).trans c3, (hb.cell (p := ⟨b, off + i * 8 + 4, none⟩) hlt).trans c4, (hb.cell (p := ⟨b, off + i * 8 + 5, none⟩) hlt).trans c5, (hb.cell (p := ⟨b, off + i * 8 + 6, none⟩) hlt).trans c6, (hb.cell (p := ⟨b, off + i * 8 + 7, none⟩) hlt).trans c7, h1, h2, h3.ext hb⟩
def MsgsGood (l : List Ms) : Prop := ∀ (i : Nat) s, l[i]? = some s → s.1.x.size ≤ maxLen ∧ s.2.length ≤ maxLen ∧ GoodSlots s.2
theorem MsgsAt.good {w : World} {a : Option Addr} {l : List Ms} (h : MsgsAt w a l) : MsgsGood l := fun i s hs => by
 obtain ⟨b, off, sa, cap, ha, hlt, c0, c1, c2, c3, c4, c5, c6, c7, h1, h2, h3⟩ := h i s hs
 exact ⟨h1, h2, h3.good⟩
def MsgsSmall (l : List Ms) : Prop := ∀ (i : Nat) s, l[i]? = some s → s.2.length ≤ 1048576
def MsgsTo (w : World) (g : Nat) (C : Array Value) (G : Nat → Nat) (l : List Ms) (k : Nat) : Prop :=
 C.size = l.length * 8 ∧ ∀ (i : Nat) s, i < k → l[i]? = some s → C[i * 8]? = some (.int .i64 s.1.k) ∧ C[i * 8 + 1]? = some (.int .i64 s.1.f) ∧ C[i * 8 + 2]? = some (.int .i64 s.1.t) ∧ C[i * 8 + 3]? = some (.int .i64 s.1.b) ∧ C[i * 8 + 4]? = some (.int .i64 s.1.i) ∧ C[i * 8 + 5]? = some (.int .i64 s.1.n) ∧ C[i * 8 + 6]? = some (.string s.1.x) ∧ C[i * 8 + 7]? = some (.slice (some ⟨G i, 0, none⟩) s.2.length s.2.length) ∧
  SlotsOwn w (G i) s.2 ∧ g < G i ∧ ∀ j, j < i → G j < G i
theorem MsgsTo.step {w w' : World} {g gk : Nat} {C : Array Value} {G : Nat → Nat} {l : List Ms} {k : Nat} {s : Ms} (h : MsgsTo w g C G l k) (hs : l[k]? = some s)
  (hkeep : ∀ b t, SlotsOwn w b t → b ≠ g → SlotsOwn w' b t) (hnew : SlotsOwn w' gk s.2) (hg : g < gk) (hG : ∀ i, i < k → G i < gk) :
  MsgsTo w' g (((((((((C).setIfInBounds (k * 8) (.int .i64 s.1.k)).setIfInBounds (k * 8 + 1) (.int .i64 s.1.f)).setIfInBounds (k * 8 + 2) (.int .i64 s.1.t)).setIfInBounds (k * 8 + 3) (.int .i64 s.1.b)).setIfInBounds (k * 8 + 4) (.int .i64 s.1.i)).setIfInBounds (k * 8 + 5) (.int .i64 s.1.n)).setIfInBounds (k * 8 + 6) (.string s.1.x)).setIfInBounds (k * 8 + 7) (.slice (some ⟨gk, 0, none⟩) s.2.length s.2.length)) (fun i => if i = k then gk else G i) l (k + 1) := by
 obtain ⟨hz, hc⟩ := h
 have hk : k < l.length := (List.getElem?_eq_some_iff.1 hs).1
 refine ⟨by simp [hz], fun i u hi hu => ?_⟩
 by_cases he : i = k
 ·subst he
  rw [hs] at hu
  simp only [Option.some.injEq] at hu
  subst hu
  dsimp only
  rw [if_pos rfl]
  refine ⟨?_, ?_, ?_, ?_, ?_, ?_, ?_, ?_, hnew, hg, fun j hj => by rw [if_neg (by omega)]; exact hG j hj⟩
  ·rw [Array.getElem?_setIfInBounds_ne (by omega), Array.getElem?_setIfInBounds_ne (by omega), Array.getElem?_setIfInBounds_ne (by omega), Array.getElem?_setIfInBounds_ne (by omega), Array.getElem?_setIfInBounds_ne (by omega), Array.getElem?_setIfInBounds_ne (by omega), Array.getElem?_setIfInBounds_ne (by omega), Array.getElem?_setIfInBounds_self_of_lt (by first | omega | (simp only [Array.size_setIfInBounds]; omega))]
  ·rw [Array.getElem?_setIfInBounds_ne (by omega), Array.getElem?_setIfInBounds_ne (by omega), Array.getElem?_setIfInBounds_ne (by omega), Array.getElem?_setIfInBounds_ne (by omega), Array.getElem?_setIfInBounds_ne (by omega), Array.getElem?_setIfInBounds_ne (by omega), Array.getElem?_setIfInBounds_self_of_lt (by first | omega | (simp only [Array.size_setIfInBounds]; omega))]
  ·rw [Array.getElem?_setIfInBounds_ne (by omega), Array.getElem?_setIfInBounds_ne (by omega), Array.getElem?_setIfInBounds_ne (by omega), Array.getElem?_setIfInBounds_ne (by omega), Array.getElem?_setIfInBounds_ne (by omega), Array.getElem?_setIfInBounds_self_of_lt (by first | omega | (simp only [Array.size_setIfInBounds]; omega))]
  ·rw [Array.getElem?_setIfInBounds_ne (by omega), Array.getElem?_setIfInBounds_ne (by omega), Array.getElem?_setIfInBounds_ne (by omega), Array.getElem?_setIfInBounds_ne (by omega), Array.getElem?_setIfInBounds_self_of_lt (by first | omega | (simp only [Array.size_setIfInBounds]; omega))]
  ·rw [Array.getElem?_setIfInBounds_ne (by omega), Array.getElem?_setIfInBounds_ne (by omega), Array.getElem?_setIfInBounds_ne (by omega), Array.getElem?_setIfInBounds_self_of_lt (by first | omega | (simp only [Array.size_setIfInBounds]; omega))]
  ·rw [Array.getElem?_setIfInBounds_ne (by omega), Array.getElem?_setIfInBounds_ne (by omega), Array.getElem?_setIfInBounds_self_of_lt (by first | omega | (simp only [Array.size_setIfInBounds]; omega))]
  ·rw [Array.getElem?_setIfInBounds_ne (by omega), Array.getElem?_setIfInBounds_self_of_lt (by first | omega | (simp only [Array.size_setIfInBounds]; omega))]
  rw [Array.getElem?_setIfInBounds_self_of_lt (by first | omega | (simp only [Array.size_setIfInBounds]; omega))]
 obtain ⟨c0, c1, c2, c3, c4, c5, c6, c7, h1, h2, h3⟩ := hc i u (by omega) hu
 dsimp only
 rw [if_neg he]
 refine ⟨?_, ?_, ?_, ?_, ?_, ?_, ?_, ?_, hkeep _ _ h1 (by omega), h2, fun j hj => by rw [if_neg (by omega)]; exact h3 j hj⟩
 ·rw [Array.getElem?_setIfInBounds_ne (by omega), Array.getElem?_setIfInBounds_ne (by omega), Array.getElem?_setIfInBounds_ne (by omega), Array.getElem?_setIfInBounds_ne (by omega), Array.getElem?_setIfInBounds_ne (by omega), Array.getElem?_setIfInBounds_ne (by omega), Array.getElem?_setIfInBounds_ne (by omega), Array.getElem?_setIfInBounds_ne (by omega), c0]
 ·rw [Array.getElem?_setIfInBounds_ne (by omega), Array.getElem?_setIfInBounds_ne (by omega), Array.getElem?_setIfInBounds_ne (by omega), Array.getElem?_setIfInBounds_ne (by omega), Array.getElem?_setIfInBounds_ne (by omega), Array.getElem?_setIfInBounds_ne (by omega), Array.getElem?_setIfInBounds_ne (by omega), Array.getElem?_setIfInBounds_ne (by omega), c1]
 ·rw [Array.getElem?_setIfInBounds_ne (by omega), Array.getElem?_setIfInBounds_ne (by omega), Array.getElem?_setIfInBounds_ne (by omega), Array.getElem?_setIfInBounds_ne (by omega), Array.getElem?_setIfInBounds_ne (by omega), Array.getElem?_setIfInBounds_ne (by omega), Array.getElem?_setIfInBounds_ne (by omega), Array.getElem?_setIfInBounds_ne (by omega), c2]
 ·rw [Array.getElem?_setIfInBounds_ne (by omega), Array.getElem?_setIfInBounds_ne (by omega), Array.getElem?_setIfInBounds_ne (by omega), Array.getElem?_setIfInBounds_ne (by omega), Array.getElem?_setIfInBounds_ne (by omega), Array.getElem?_setIfInBounds_ne (by omega), Array.getElem?_setIfInBounds_ne (by omega), Array.getElem?_setIfInBounds_ne (by omega), c3]
 ·rw [Array.getElem?_setIfInBounds_ne (by omega), Array.getElem?_setIfInBounds_ne (by omega), Array.getElem?_setIfInBounds_ne (by omega), Array.getElem?_setIfInBounds_ne (by omega), Array.getElem?_setIfInBounds_ne (by omega), Array.getElem?_setIfInBounds_ne (by omega), Array.getElem?_setIfInBounds_ne (by omega), Array.getElem?_setIfInBounds_ne (by omega), c4]
 ·rw [Array.getElem?_setIfInBounds_ne (by omega), Array.getElem?_setIfInBounds_ne (by omega), Array.getElem?_setIfInBounds_ne (by omega), Array.getElem?_setIfInBounds_ne (by omega), Array.getElem?_setIfInBounds_ne (by omega), Array.getElem?_setIfInBounds_ne (by omega), Array.getElem?_setIfInBounds_ne (by omega), Array.getElem?_setIfInBounds_ne (by omega), c5]
 ·rw [Array.getElem?_setIfInBounds_ne (by omega), Array.getElem?_setIfInBounds_ne (by omega), Array.getElem?_setIfInBounds_ne (by omega), Array.getElem?_setIfInBounds_ne (by omega), Array.getElem?_setIfInBounds_ne (by omega), Array.getElem?_setIfInBounds_ne (by omega), Array.getElem?_setIfInBounds_ne (by omega), Array.getElem?_setIfInBounds_ne (by omega), c6]
 rw [Array.getElem?_setIfInBounds_ne (by omega), Array.getElem?_setIfInBounds_ne (by omega), Array.getElem?_setIfInBounds_ne (by omega), Array.getElem?_setIfInBounds_ne (by omega), Array.getElem?_setIfInBounds_ne (by omega), Array.getElem?_setIfInBounds_ne (by omega), Array.getElem?_setIfInBounds_ne (by omega), Array.getElem?_setIfInBounds_ne (by omega), c7]
def MsgsOwn (w : World) (g : Nat) (l : List Ms) : Prop := ∃ C G, Blk w g C 45 ∧ MsgsTo w g C G l l.length
theorem MsgsOwn.at {w : World} {g : Nat} {l : List Ms} (h : MsgsOwn w g l) (hg : MsgsGood l) : MsgsAt w (some ⟨g, 0, none⟩) l := fun i s hs => by
 obtain ⟨C, G, hb, hz, hc⟩ := h
 have hi : i < l.length := (List.getElem?_eq_some_iff.1 hs).1
 obtain ⟨c0, c1, c2, c3, c4, c5, c6, c7, h1, h2, h3⟩ := hc i s hi hs
 obtain ⟨q1, q2, q3⟩ := hg i s hs
 exact ⟨g, 0, some ⟨G i, 0, none⟩, s.2.length, rfl, hb.lt, by rw [Nat.zero_add, hb.cell, c0], by rw [Nat.zero_add, hb.cell, c1], by rw [Nat.zero_add, hb.cell, c2], by rw [Nat.zero_add, hb.cell, c3], by rw [Nat.zero_add, hb.cell, c4], by rw [Nat.zero_add, hb.cell, c5], by rw [Nat.zero_add, hb.cell, c6], by rw [Nat.zero_add, hb.cell, c7], q1, q2, h1.at q3⟩
theorem szMsgs (a : Option Addr) (l : List Ms) (n cap : Nat) (left : Int) (w : World) (hn : l.length = n) (hl : 0 ≤ left) (hm : left ≤ 1048576) (hc : n ≤ maxLen) (h : MsgsAt w a l) :
  Calls Tryz.prog 22 #[.slice a n cap, .int .i64 left] w fun e w' => ∃ r : Int, e = .returned (.int .i64 r) ∧ -1 ≤ r ∧ r ≤ left ∧ (0 ≤ r → n ≤ 1048576 ∧ MsgsSmall l) ∧ Below w.heap.size w w' := by
 unfold maxLen at hc
 have HL : Hid (l.length = n) := hn
 clear hn
 by_cases hz : left < n
 ·go_enter Tryz.func22, Tryz.ntmps22
  go_wp2
  go_ret
  exact ⟨-1, rfl, by omega, by omega, fun h => absurd h (by omega), Below.refl _ _⟩
 go_enter Tryz.func22, Tryz.ntmps22
 go_wp2
 go_loopw [1, 5] (fun v i wr => ∃ (k : Nat) (r : Int), k ≤ n ∧ i = .int .i64 k ∧ v = .int .i64 r ∧ 0 ≤ r ∧ r ≤ left ∧ (∀ (j : Nat) s, j < k → l[j]? = some s → s.2.length ≤ 1048576) ∧ Below w.heap.size w wr) (fun _ i _ => n - (intOf i).toNat)
 case atStart => exact ⟨0, _, Nat.zero_le _, rfl, rfl, by omega, by omega, fun j s hj => absurd hj (by omega), Below.refl _ _⟩
 obtain ⟨k, r, hk, rfl, rfl, hr0, hr1, hall0, hbel⟩ := hrel
 have hall : Hid (∀ (j : Nat) s, j < k → l[j]? = some s → s.2.length ≤ 1048576) := hall0
 clear hall0
 by_cases hlt : k < n
 ·obtain ⟨s, hs0⟩ : ∃ s, l[k]? = some s := ⟨_, List.getElem?_eq_getElem (by rw [HL.out]; exact hlt)⟩
  obtain ⟨b, off, sa, cp, rfl, hb, c0, c1, c2, c3, c4, c5, c6, c7, q1, q2, q3⟩ := (h.ext hbel) k s hs0
  have hs : Hid (l[k]? = some s) := hs0
  clear hs0
  go_wp2_with (go_at_call 6; refine (szMsg s.1 sa s.2 s.2.length cp _ _ rfl (by omega) (by omega) q2 q1 q3).mono ?_; rintro e w' ⟨r', rfl, h1, h2, h3, hb'⟩)
  ·go_ret
   exact ⟨-1, rfl, by omega, by omega, fun h => absurd h (by omega), ext_trans hbel hb'⟩
  go_roundw
  case rel =>
   refine ⟨k + 1, r', by omega, by go_num, rfl, by omega, by omega, fun j u hj hu => ?_, ext_trans hbel hb'⟩
   by_cases he : j = k
   ·subst he; rw [hs.out] at hu; simp only [Option.some.injEq] at hu; rw [← hu]; exact h3 (by omega)
   exact hall.out j u (by omega) hu
  case measure => simp [intOf]; omega
 go_wp2
 go_ret
 exact ⟨r, rfl, by omega, by omega, fun _ => ⟨by omega, fun i s hs => hall.out i s (by have := (List.getElem?_eq_some_iff.1 hs).1; have := HL.out; omega) hs⟩, hbel⟩
theorem infoMsgs : (Tryz.prog.info? 45).map (fun i => (i.zero, i.size, i.bytes)) = some (some (.agg #[.int .i64 0, .int .i64 0, .int .i64 0, .int .i64 0, .int .i64 0, .int .i64 0, .string ⟨#[]⟩, .slice none 0 0]), 8, 88) := by kernel_rfl
theorem makeMsgs (n : Nat) (hn : n ≤ 1048576) (w : World) :
  (Instr.makeSlice 38 (.int .i64 (n : Int)) (.int .i64 (n : Int))).run Tryz.prog w = .ok (.slice (some ⟨w.heap.size, 0, none⟩) n n) (w.alloc (.cells (madeCells #[.int .i64 0, .int .i64 0, .int .i64 0, .int .i64 0, .int .i64 0, .int .i64 0, .string ⟨#[]⟩, .slice none 0 0] (n * 8)) 45)) := by
 obtain ⟨i0, hi, hz0, hz1, hz2⟩ := info_parts infoMsgs
 have hm := run_make (P := Tryz.prog) w 38 45 i0 _ Tryz.underlying38 hi hz0 .i64 .i64 (n : Int) (n : Int) (by omega) (by omega) (by rw [hz2]; omega) (by omega)
 rw [hz1] at hm
 simpa [Value.cells] using hm
theorem toMsgs (a : Option Addr) (l : List Ms) (n cap : Nat) (w : World) (hn : l.length = n) (hc : n ≤ 1048576) (hsm0 : MsgsSmall l) (h : MsgsAt w a l) :
  Calls Tryz.prog 33 #[.slice a n cap] w fun e w' => ∃ g, e = .returned (.slice (some ⟨g, 0, none⟩) n n) ∧ w.heap.size ≤ g ∧ MsgsOwn w' g l ∧ Below w.heap.size w w' := by
 have HL : Hid (l.length = n) := hn
 have hsm : Hid (MsgsSmall l) := hsm0
 clear hn hsm0
 have hmk := makeMsgs n hc
 go_enter Tryz.func33, Tryz.ntmps33
 go_wp2
 go_loopw [4] (fun i wr => ∃ (k : Nat) (C : Array Value) (G : Nat → Nat), k ≤ n ∧ i = .int .i64 k ∧ Blk wr w.heap.size C 45 ∧ MsgsTo wr w.heap.size C G l k ∧ (∀ i, i < k → G i < wr.heap.size) ∧ Below w.heap.size w wr) (fun i _ => n - (intOf i).toNat)
 case atStart => exact ⟨0, _, fun _ => 0, Nat.zero_le _, rfl, Blk.new _ _ _, ⟨by rw [size_madeCells, HL.out], fun i s hi => absurd hi (by omega)⟩, fun i hi => absurd hi (by omega), ext_alloc (Below.refl _ _) _⟩
 obtain ⟨k, C, G, hk, rfl, hB, hH, hG, hbel⟩ := hrel
 by_cases hlt : k < n
 ·obtain ⟨s, hs⟩ : ∃ s, l[k]? = some s := ⟨_, List.getElem?_eq_getElem (by rw [HL.out]; exact hlt)⟩
  obtain ⟨b, off, sa, cp, rfl, hb, c0, c1, c2, c3, c4, c5, c6, c7, q1, q2, q3⟩ := (h.ext hbel) k s hs
  have hz : C.size = n * 8 := by rw [hH.1, HL.out]
  have hBl := hB.lt
  obtain ⟨x0, hx0⟩ : ∃ v, C[k * 8]? = some v := ⟨_, Array.getElem?_eq_getElem (by omega)⟩
  obtain ⟨x1, hx1⟩ : ∃ v, C[k * 8 + 1]? = some v := ⟨_, Array.getElem?_eq_getElem (by omega)⟩
  obtain ⟨x2, hx2⟩ : ∃ v, C[k * 8 + 2]? = some v := ⟨_, Array.getElem?_eq_getElem (by omega)⟩
  obtain ⟨x3, hx3⟩ : ∃ v, C[k * 8 + 3]? = some v := ⟨_, Array.getElem?_eq_getElem (by omega)⟩
  obtain ⟨x4, hx4⟩ : ∃ v, C[k * 8 + 4]? = some v := ⟨_, Array.getElem?_eq_getElem (by omega)⟩
  obtain ⟨x5, hx5⟩ : ∃ v, C[k * 8 + 5]? = some v := ⟨_, Array.getElem?_eq_getElem (by omega)⟩
  obtain ⟨x6, hx6⟩ : ∃ v, C[k * 8 + 6]? = some v := ⟨_, Array.getElem?_eq_getElem (by omega)⟩
  obtain ⟨x7, hx7⟩ : ∃ v, C[k * 8 + 7]? = some v := ⟨_, Array.getElem?_eq_getElem (by omega)⟩
  clear hz
  have HH : Hid (MsgsTo wr w.heap.size C G l k ∧ l[k]? = some s ∧ (∀ i, i < k → G i < wr.heap.size)) := ⟨hH, hs, hG⟩
  have HQ : Hid (s.2.length ≤ 1048576) := hsm.out k s hs
  have e1 : (0 : Int) ≤ (k : Int) := by omega
  have e2 : (k : Int) < (n : Int) := by omega
  clear hs hH hG
  go_wp2_with (go_at_call 9; refine (toMsg s.1 sa s.2 s.2.length cp _ rfl HQ.out q3).mono ?_; rintro e w' ⟨gk, rfl, hgk, ho, hb'⟩; have hB' := hB.ext hb'; have ff := hB'.free; have g0 := (hB'.cell (k * 8)).trans hx0; have g1 := (hB'.cell (k * 8 + 1)).trans hx1; have g2 := (hB'.cell (k * 8 + 2)).trans hx2; have g3 := (hB'.cell (k * 8 + 3)).trans hx3; have g4 := (hB'.cell (k * 8 + 4)).trans hx4; have g5 := (hB'.cell (k * 8 + 5)).trans hx5; have g6 := (hB'.cell (k * 8 + 6)).trans hx6; have g7 := (hB'.cell (k * 8 + 7)).trans hx7; have HB : Hid (Blk w' w.heap.size C 45) := hB'; clear hB')
  go_roundw
  case rel =>
   have hB' := HB.out
   have hsz := hb'.size
   refine ⟨k + 1, _, fun i => if i = k then gk else G i, by omega, by go_num, (heap_setCell_same _ _ _ _ _ _ (heap_setCell_same _ _ _ _ _ _ (heap_setCell_same _ _ _ _ _ _ (heap_setCell_same _ _ _ _ _ _ (heap_setCell_same _ _ _ _ _ _ (heap_setCell_same _ _ _ _ _ _ (heap_setCell_same _ _ _ _ _ _ (heap_setCell_same _ _ _ _ _ _ hB')))))))), HH.out.1.step HH.out.2.1 (fun b t hb9 hne => (((((((((hb9.ext hb').setCell hne _).setCell hne _).setCell hne _).setCell hne _).setCell hne _).setCell hne _).setCell hne _).setCell hne _)) ((((((((ho.setCell (by simp; omega) _).setCell (by simp; omega) _).setCell (by simp; omega) _).setCell (by simp; omega) _).setCell (by simp; omega) _).setCell (by simp; omega) _).setCell (by simp; omega) _).setCell (by simp; omega) _) (by omega) (fun i hi => by have := HH.out.2.2 i hi; omega), fun i hi => ?_, (((((((((ext_trans hbel hb').setCell (Nat.le_refl _) _).setCell (Nat.le_refl _) _).setCell (Nat.le_refl _) _).setCell (Nat.le_refl _) _).setCell (Nat.le_refl _) _).setCell (Nat.le_refl _) _).setCell (Nat.le_refl _) _).setCell (Nat.le_refl _) _)⟩
   have hlg := ho.lt
   simp only [World.size_setCell]
   split
   ·omega
   have := HH.out.2.2 i (by omega); omega
  case measure => simp [intOf]; omega
 go_wp2
 go_ret
 exact ⟨w.heap.size, rfl, Nat.le_refl _, ⟨C, G, hB, by rw [HL.out, show n = k by omega]; exact hH⟩, hbel⟩
theorem eqMsgs_same (a1 a2 : Option Addr) (l : List Ms) (n cap1 cap2 : Nat) (w : World) (hn : l.length = n) (hc : n ≤ maxLen) (h1 : MsgsAt w a1 l) (h2 : MsgsAt w a2 l) :
  Calls Tryz.prog 18 #[.slice a1 n cap1, .slice a2 n cap2] w fun e w' => e = .returned (.bool true) ∧ Below w.heap.size w w' := by
 unfold maxLen at hc
 have HL : Hid (l.length = n) := hn
 clear hn
 go_enter Tryz.func18, Tryz.ntmps18
 go_wp2
 go_loopw [5] (fun i wr => ∃ (k : Nat), k ≤ n ∧ i = .int .i64 k ∧ Below w.heap.size w wr) (fun i _ => n - (intOf i).toNat)
 case atStart => exact ⟨0, Nat.zero_le _, rfl, Below.refl _ _⟩
 obtain ⟨k, hk, rfl, hbel⟩ := hrel
 by_cases hlt : k < n
 ·obtain ⟨s, hs⟩ : ∃ s, l[k]? = some s := ⟨_, List.getElem?_eq_getElem (by rw [HL.out]; exact hlt)⟩
  obtain ⟨b, off, sa, cp, rfl, hb, c0, c1, c2, c3, c4, c5, c6, c7, q1, q2, q3⟩ := (h1.ext hbel) k s hs
  obtain ⟨b2, off2, sa2, cp2, rfl, hb2, d0, d1, d2, d3, d4, d5, d6, d7, p1, p2, p3⟩ := (h2.ext hbel) k s hs
  clear hs h1 h2
  have e1 : (0 : Int) ≤ (k : Int) := by omega
  have e2 : (k : Int) < (n : Int) := by omega
  have K6 : Hid (∀ w', Below wr.heap.size wr w' → w'.cell? ⟨b, off + k * 8, none⟩ = some (.int .i64 s.1.k) ∧ w'.cell? ⟨b, off + k * 8 + 1, none⟩ = some (.int .i64 s.1.f) ∧ w'.cell? ⟨b, off + k * 8 + 2, none⟩ = some (.int .i64 s.1.t) ∧ w'.cell? ⟨b, off + k * 8 + 3, none⟩ = some (.int .i64 s.1.b) ∧ w'.cell? ⟨b, off + k * 8 + 4, none⟩ = some (.int .i64 s.1.i) ∧ w'.cell? ⟨b, off + k * 8 + 5, none⟩ = some (.int .i64 s.1.n) ∧ w'.cell? ⟨b, off + k * 8 + 6, none⟩ = some (.string s.1.x) ∧ w'.cell? ⟨b, off + k * 8 + 7, none⟩ = some (.slice sa s.2.length cp) ∧ w'.cell? ⟨b2, off2 + k * 8, none⟩ = some (.int .i64 s.1.k) ∧ w'.cell? ⟨b2, off2 + k * 8 + 1, none⟩ = some (.int .i64 s.1.f) ∧ w'.cell? ⟨b2, off2 + k * 8 + 2, none⟩ = some (.int .i64 s.1.t) ∧ w'.cell? ⟨b2, off2 + k * 8 + 3, none⟩ = some (.int .i64 s.1.b) ∧ w'.cell? ⟨b2, off2 + k * 8 + 4, none⟩ = some (.int .i64 s.1.i) ∧ w'.cell? ⟨b2, off2 + k * 8 + 5, none⟩ = some (.int .i64 s.1.n) ∧ w'.cell? ⟨b2, off2 + k * 8 + 6, none⟩ = some (.string s.1.x) ∧ w'.cell? ⟨b2, off2 + k * 8 + 7, none⟩ = some (.slice sa2 s.2.length cp2) ∧ Below wr.heap.size wr w') := fun w' hb9 => by
   exact ⟨(hb9.cell (p := ⟨b, off + k * 8, none⟩) hb).trans c0, (hb9.cell (p := ⟨b, off + k * 8 + 1, none⟩) hb).trans c1, (hb9.cell (p := ⟨b, off + k * 8 + 2, none⟩) hb).trans c2, (hb9.cell (p := ⟨b, off + k * 8 + 3, none⟩) hb).trans c3, (hb9.cell (p := ⟨b, off + k * 8 + 4, none⟩) hb).trans c4, (hb9.cell (p := ⟨b, off + k * 8 + 5, none⟩) hb).trans c5, (hb9.cell (p := ⟨b, off + k * 8 + 6, none⟩) hb).trans c6, (hb9.cell (p := ⟨b, off + k * 8 + 7, none⟩) hb).trans c7, (hb9.cell (p := ⟨b2, off2 + k * 8, none⟩) hb2).trans d0, (hb9.cell (p := ⟨b2, off2 + k * 8 + 1, none⟩) hb2).trans d1, (hb9.cell (p := ⟨b2, off2 + k * 8 + 2, none⟩) hb2).trans d2, (hb9.cell (p := ⟨b2, off2 + k * 8 + 3, none⟩) hb2).trans d3, (hb9.cell (p := ⟨b2, off2 + k * 8 + 4, none⟩) hb2).trans d4, (hb9.cell (p := ⟨b2, off2 + k * 8 + 5, none⟩) hb2).trans d5, (hb9.cell (p := ⟨b2, off2 + k * 8 + 6, none⟩) hb2).trans d6, (hb9.cell (p := ⟨b2, off2 + k * 8 + 7, none⟩) hb2).trans d7, hb9⟩
  go_wp2_with fail
  go_region_held3 (fun w' => w'.cell? ⟨b, off + k * 8, none⟩ = some (.int .i64 s.1.k) ∧ w'.cell? ⟨b, off + k * 8 + 1, none⟩ = some (.int .i64 s.1.f) ∧ w'.cell? ⟨b, off + k * 8 + 2, none⟩ = some (.int .i64 s.1.t) ∧ w'.cell? ⟨b, off + k * 8 + 3, none⟩ = some (.int .i64 s.1.b) ∧ w'.cell? ⟨b, off + k * 8 + 4, none⟩ = some (.int .i64 s.1.i) ∧ w'.cell? ⟨b, off + k * 8 + 5, none⟩ = some (.int .i64 s.1.n) ∧ w'.cell? ⟨b, off + k * 8 + 6, none⟩ = some (.string s.1.x) ∧ w'.cell? ⟨b, off + k * 8 + 7, none⟩ = some (.slice sa s.2.length cp) ∧ w'.cell? ⟨b2, off2 + k * 8, none⟩ = some (.int .i64 s.1.k) ∧ w'.cell? ⟨b2, off2 + k * 8 + 1, none⟩ = some (.int .i64 s.1.f) ∧ w'.cell? ⟨b2, off2 + k * 8 + 2, none⟩ = some (.int .i64 s.1.t) ∧ w'.cell? ⟨b2, off2 + k * 8 + 3, none⟩ = some (.int .i64 s.1.b) ∧ w'.cell? ⟨b2, off2 + k * 8 + 4, none⟩ = some (.int .i64 s.1.i) ∧ w'.cell? ⟨b2, off2 + k * 8 + 5, none⟩ = some (.int .i64 s.1.n) ∧ w'.cell? ⟨b2, off2 + k * 8 + 6, none⟩ = some (.string s.1.x) ∧ w'.cell? ⟨b2, off2 + k * 8 + 7, none⟩ = some (.slice sa2 s.2.length cp2) ∧ Below wr.heap.size wr w')
   ((go_split_ands; refine K6.out _ ?_; first | exact (Below.refl _ _).drew | exact (Below.refl _ _) | assumption | exact ext_trans (by assumption) (by assumption) | exact (ext_trans (by assumption) (by assumption)).drew))
   (first | (go_at_call 12; go_split_ands; refine (eqMsg_same s.1 _ _ s.2 _ _ _ _ rfl q2 (q3.ext (by assumption)) (p3.ext (by assumption))).mono ?_; rintro e w' ⟨rfl, hb'⟩))
  go_split_ands
  have BB7 := ext_trans hbel (show Below wr.heap.size wr w' by assumption)
  go_wp2
  go_roundw
  case rel => exact ⟨k + 1, by omega, by go_num, BB7⟩
  case measure => simp [intOf]; omega
 go_wp2
 go_ret
 exact ⟨rfl, hbel⟩
structure Rc where
 num : Int
 of_ : Int
 up : Bool
 sp : Int
 sk : Int
 ss : List Sl
 dp : Int
 dk : Int
 ds : List Sl
 held : List Ms
 wish : List ByteArray
 lead : Bool
 tr : Bool
 ball : Int
 yes : List Int
 best : List Sl
 acks : List Ak
 heard : Int
structure RcP where
 aS : Option Addr
 cS : Nat
 aD : Option Addr
 cD : Nat
 aH : Option Addr
 cH : Nat
 aW : Option Addr
 cW : Nat
 aY : Option Addr
 cY : Nat
 aB : Option Addr
 cB : Nat
 aA : Option Addr
 cA : Nat
abbrev rcV (r : Rc) (p : RcP) : Array Value := #[.int .i64 r.num, .int .i64 r.of_, .bool r.up, .int .i64 r.sp, .int .i64 r.sk, .slice p.aS r.ss.length p.cS, .int .i64 r.dp, .int .i64 r.dk, .slice p.aD r.ds.length p.cD, .slice p.aH r.held.length p.cH, .slice p.aW r.wish.length p.cW, .bool r.lead, .bool r.tr, .int .i64 r.ball, .slice p.aY r.yes.length p.cY, .slice p.aB r.best.length p.cB, .slice p.aA r.acks.length p.cA, .int .i64 r.heard]
structure RcAt (w : World) (r : Rc) (p : RcP) : Prop where
 hS : SlotsAt w p.aS r.ss
 lS : r.ss.length ≤ maxLen
 hD : SlotsAt w p.aD r.ds
 lD : r.ds.length ≤ maxLen
 hH : MsgsAt w p.aH r.held
 lH : r.held.length ≤ maxLen
 hW : StrsAt w p.aW r.wish
 lW : r.wish.length ≤ maxLen
 hY : IntsAt w p.aY r.yes
 lY : r.yes.length ≤ maxLen
 hB : SlotsAt w p.aB r.best
 lB : r.best.length ≤ maxLen
 hA : AcksAt w p.aA r.acks
 lA : r.acks.length ≤ maxLen
theorem RcAt.ext {w w' : World} {r : Rc} {p : RcP} (h : RcAt w r p) (hb : Below w.heap.size w w') : RcAt w' r p :=
 ⟨h.hS.ext hb, h.lS, h.hD.ext hb, h.lD, h.hH.ext hb, h.lH, h.hW.ext hb, h.lW, h.hY.ext hb, h.lY, h.hB.ext hb, h.lB, h.hA.ext hb, h.lA⟩
structure RcSmall (r : Rc) : Prop where
 lS : r.ss.length ≤ 1048576
 lD : r.ds.length ≤ 1048576
 lH : r.held.length ≤ 1048576
 lW : r.wish.length ≤ 1048576
 lY : r.yes.length ≤ 1048576
 lB : r.best.length ≤ 1048576
 lA : r.acks.length ≤ 1048576
 nH : MsgsSmall r.held
 nA : AcksSmall r.acks
theorem szRec (r : Rc) (p : RcP) (left : Int) (w : World) (hl : 0 ≤ left) (hm : left ≤ 1048576) (h : RcAt w r p) :
  Calls Tryz.prog 5 #[.agg (rcV r p), .int .i64 left] w fun e w' => ∃ q : Int, e = .returned (.int .i64 q) ∧ -1 ≤ q ∧ q ≤ left ∧ (0 ≤ q → RcSmall r) ∧ Below w.heap.size w w' := by
 have hB : Below w.heap.size w (w.alloc (.cells (rcV r p) 30)) := ext_alloc (Below.refl _ _) _
 have hR := h.ext hB
 have b0 := Blk.new w (rcV r p) 30
 have HB0 := Below.refl (w.alloc (.cells (rcV r p) 30)).heap.size (w.alloc (.cells (rcV r p) 30))
 clear h
 go_enter Tryz.func5, Tryz.ntmps5
 go_wp2_with fail
 refine (szDisk _ _ p.aS r.ss _ p.cS _ _ rfl (by omega) (by omega) hR.lS (by exact (hR.ext HB0).hS)).mono ?_
 rintro e w0 ⟨q0, rfl, u0, v0, s0, hb0⟩
 have HB1 := ext_trans HB0 hb0
 have cb0 := (b0.ext HB1).cell
 clear HB0
 by_cases hq0 : q0 < 0
 ·go_wp2_with fail
  go_ret
  exact ⟨-1, rfl, by omega, by omega, fun h => absurd h (by omega), ext_trans hB HB1⟩
 go_wp2_with fail
 refine (szDisk _ _ p.aD r.ds _ p.cD _ _ rfl (by omega) (by omega) hR.lD (by exact (hR.ext HB1).hD)).mono ?_
 rintro e w1 ⟨q1, rfl, u1, v1, s1, hb1⟩
 have HB2 := ext_trans HB1 hb1
 have cb1 := (b0.ext HB2).cell
 clear HB1 cb0
 by_cases hq1 : q1 < 0
 ·go_wp2_with fail
  go_ret
  exact ⟨-1, rfl, by omega, by omega, fun h => absurd h (by omega), ext_trans hB HB2⟩
 go_wp2_with fail
 refine (szMsgs p.aH r.held _ p.cH _ _ rfl (by omega) (by omega) hR.lH (by exact (hR.ext HB2).hH)).mono ?_
 rintro e w2 ⟨q2, rfl, u2, v2, s2, hb2⟩
 have HB3 := ext_trans HB2 hb2
 have cb2 := (b0.ext HB3).cell
 clear HB2 cb1
 by_cases hq2 : q2 < 0
 ·go_wp2_with fail
  go_ret
  exact ⟨-1, rfl, by omega, by omega, fun h => absurd h (by omega), ext_trans hB HB3⟩
 go_wp2_with fail
 refine (szStrs p.aW r.wish _ p.cW _ _ rfl (by omega) (by omega) hR.lW (by exact (hR.ext HB3).hW)).mono ?_
 rintro e w3 ⟨q3, rfl, u3, v3, s3, hb3⟩
 have HB4 := ext_trans HB3 hb3
 have cb3 := (b0.ext HB4).cell
 clear HB3 cb2
 by_cases hq3 : q3 < 0
 ·go_wp2_with fail
  go_ret
  exact ⟨-1, rfl, by omega, by omega, fun h => absurd h (by omega), ext_trans hB HB4⟩
 go_wp2_with fail
 refine (szInts p.aY _ p.cY _ _ (by omega) (by omega) hR.lY).mono ?_
 rintro e w4 ⟨q4, rfl, u4, v4, s4, hb4⟩
 have HB5 := ext_trans HB4 hb4
 have cb4 := (b0.ext HB5).cell
 clear HB4 cb3
 by_cases hq4 : q4 < 0
 ·go_wp2_with fail
  go_ret
  exact ⟨-1, rfl, by omega, by omega, fun h => absurd h (by omega), ext_trans hB HB5⟩
 go_wp2_with fail
 refine (szSlots p.aB r.best _ p.cB _ _ rfl (by omega) (by omega) hR.lB (by exact (hR.ext HB5).hB)).mono ?_
 rintro e w5 ⟨q5, rfl, u5, v5, s5, hb5⟩
 have HB6 := ext_trans HB5 hb5
 have cb5 := (b0.ext HB6).cell
 clear HB5 cb4
 by_cases hq5 : q5 < 0
 ·go_wp2_with fail
  go_ret
  exact ⟨-1, rfl, by omega, by omega, fun h => absurd h (by omega), ext_trans hB HB6⟩
 go_wp2_with fail
 refine (szAcks p.aA r.acks _ p.cA _ _ rfl (by omega) (by omega) hR.lA (by exact (hR.ext HB6).hA)).mono ?_
 rintro e w6 ⟨q6, rfl, u6, v6, s6, hb6⟩
 have HB7 := ext_trans HB6 hb6
 have cb6 := (b0.ext HB7).cell
 clear HB6 cb5
 by_cases hq6 : q6 < 0
 ·go_wp2_with fail
  go_ret
  exact ⟨-1, rfl, by omega, by omega, fun h => absurd h (by omega), ext_trans hB HB7⟩
 go_wp2_with fail
 go_ret
 exact ⟨q6, rfl, by omega, by omega, fun _ => ⟨s0 (by omega), s1 (by omega), (s2 (by omega)).1, s3 (by omega), s4 (by omega), s5 (by omega), (s6 (by omega)).1, (s2 (by omega)).2, (s6 (by omega)).2⟩, ext_trans hB HB7⟩
theorem eqRec_same (r : Rc) (p q : RcP) (w : World) (h : RcAt w r p) (h' : RcAt w r q) :
  Calls Tryz.prog 11 #[.agg (rcV r p), .agg (rcV r q)] w fun e w' => e = .returned (.bool true) ∧ Below w.heap.size w w' := by
 have hB : Below w.heap.size w ((w.alloc (.cells (rcV r p) 41)).alloc (.cells (rcV r q) 41)) := ext_alloc (ext_alloc (Below.refl _ _) _) _
 have hR := h.ext hB
 have hQ := h'.ext hB
 have b0 : Blk ((w.alloc (.cells (rcV r p) 41)).alloc (.cells (rcV r q) 41)) w.heap.size (rcV r p) 41 := (Blk.new w _ _).alloc _
 have b1 : Blk ((w.alloc (.cells (rcV r p) 41)).alloc (.cells (rcV r q) 41)) (w.heap.size + 1) (rcV r q) 41 := Blk.new' _ _ (by simp)
 have HB0 := Below.refl ((w.alloc (.cells (rcV r p) 41)).alloc (.cells (rcV r q) 41)).heap.size ((w.alloc (.cells (rcV r p) 41)).alloc (.cells (rcV r q) 41))
 clear h h'
 go_enter Tryz.func11, Tryz.ntmps11
 go_wp2_with fail
 refine (eqDisk_same _ _ p.aS q.aS r.ss _ p.cS q.cS _ rfl hR.lS (by exact (hR.ext HB0).hS) (by exact (hQ.ext HB0).hS)).mono ?_
 rintro e w0 ⟨rfl, hb0⟩
 have HB1 := ext_trans HB0 hb0
 have cb0 := (b0.ext HB1).cell
 have db0 := (b1.ext HB1).cell
 clear HB0
 go_wp2_with fail
 refine (eqDisk_same _ _ p.aD q.aD r.ds _ p.cD q.cD _ rfl hR.lD (by exact (hR.ext HB1).hD) (by exact (hQ.ext HB1).hD)).mono ?_
 rintro e w1 ⟨rfl, hb1⟩
 have HB2 := ext_trans HB1 hb1
 have cb1 := (b0.ext HB2).cell
 have db1 := (b1.ext HB2).cell
 clear HB1 cb0 db0
 go_wp2_with fail
 refine (eqMsgs_same p.aH q.aH r.held _ p.cH q.cH _ rfl hR.lH (by exact (hR.ext HB2).hH) (by exact (hQ.ext HB2).hH)).mono ?_
 rintro e w2 ⟨rfl, hb2⟩
 have HB3 := ext_trans HB2 hb2
 have cb2 := (b0.ext HB3).cell
 have db2 := (b1.ext HB3).cell
 clear HB2 cb1 db1
 go_wp2_with fail
 refine (eqStrs_same p.aW q.aW r.wish _ p.cW q.cW _ rfl hR.lW (by exact (hR.ext HB3).hW) (by exact (hQ.ext HB3).hW)).mono ?_
 rintro e w3 ⟨rfl, hb3⟩
 have HB4 := ext_trans HB3 hb3
 have cb3 := (b0.ext HB4).cell
 have db3 := (b1.ext HB4).cell
 clear HB3 cb2 db2
 go_wp2_with fail
 refine (eqInts_same p.aY q.aY r.yes _ p.cY q.cY _ rfl hR.lY (by exact (hR.ext HB4).hY) (by exact (hQ.ext HB4).hY)).mono ?_
 rintro e w4 ⟨rfl, hb4⟩
 have HB5 := ext_trans HB4 hb4
 have cb4 := (b0.ext HB5).cell
 have db4 := (b1.ext HB5).cell
 clear HB4 cb3 db3
 go_wp2_with fail
 refine (eqSlots_same p.aB q.aB r.best _ p.cB q.cB _ rfl hR.lB (by exact (hR.ext HB5).hB) (by exact (hQ.ext HB5).hB)).mono ?_
 rintro e w5 ⟨rfl, hb5⟩
 have HB6 := ext_trans HB5 hb5
 have cb5 := (b0.ext HB6).cell
 have db5 := (b1.ext HB6).cell
 clear HB5 cb4 db4
 go_wp2_with fail
 refine (eqAcks_same p.aA q.aA r.acks _ p.cA q.cA _ rfl hR.lA (by exact (hR.ext HB6).hA) (by exact (hQ.ext HB6).hA)).mono ?_
 rintro e w6 ⟨rfl, hb6⟩
 have HB7 := ext_trans HB6 hb6
 have cb6 := (b0.ext HB7).cell
 have db6 := (b1.ext HB7).cell
 clear HB6 cb5 db5
 go_wp2_with fail
 go_ret
 exact ⟨rfl, ext_trans hB HB7⟩
theorem SlotsOwn.same {w w' : World} {g : Nat} {l : List Sl} (h : SlotsOwn w g l) (hs : ∀ b, g ≤ b → w'.heap[b]? = w.heap[b]?) : SlotsOwn w' g l := by
 obtain ⟨C, h1, h2⟩ := h
 exact ⟨C, (hs g (Nat.le_refl _)).trans h1, h2⟩
theorem OnesOwn.same {α : Type} {enc : α → Value} {e : TypeId} {w w' : World} {g : Nat} {l : List α} (h : OnesOwn enc e w g l) (hs : ∀ b, g ≤ b → w'.heap[b]? = w.heap[b]?) : OnesOwn enc e w' g l := by
 obtain ⟨C, h1, h2⟩ := h
 exact ⟨C, (hs g (Nat.le_refl _)).trans h1, h2⟩
theorem AcksOwn.same {w w' : World} {g : Nat} {l : List Ak} (h : AcksOwn w g l) (hs : ∀ b, g ≤ b → w'.heap[b]? = w.heap[b]?) : AcksOwn w' g l := by
 obtain ⟨C, G, h1, hz, hc⟩ := h
 refine ⟨C, G, (hs g (Nat.le_refl _)).trans h1, hz, fun i s hi hs' => ?_⟩
 obtain ⟨c0, c1, q1, q2, q3⟩ := hc i s hi hs'
 exact ⟨c0, c1, q1.same (fun b hb => hs b (by omega)), q2, q3⟩
theorem same_setCell {w w' : World} {g : Nat} (h : ∀ b, g ≤ b → w'.heap[b]? = w.heap[b]?) {q : Addr} (hq : q.block < g) (v : Value) : ∀ b, g ≤ b → (w'.setCell q v).heap[b]? = w.heap[b]? :=
 fun b hb => (heap_setCell_other w' q b v (by omega)).trans (h b hb)
theorem wpList_store_rec_at {ops : Array Oper} {rest : List Oper} {dst : Option Tmp} {x y : Operand} {τ : TypeId} {pos : String} {after : Array Edge} {a : Act} {w : World} {Q : Exit → Act → World → Prop}
  (g : Nat) (old cells : Array Value) (hs : cells.size = 18) (ho : old.size = 18) (hx : a.eval x = .pointer (some ⟨g, 0, none⟩)) (hy : a.eval y = .agg cells) (hg : Blk w g old 41) (h1 : cells.all (·.oneCell') = true)
  (h : wpList Tryz.prog ops Q rest (a.put dst undef) (w.setRow g cells)) :
  wpList Tryz.prog ops Q ({ dst := dst, op := .store 41 x y, type := τ, pos := pos, after := after, guard := none } :: rest) a w :=
 wpList_store_row (o := { dst := dst, op := .store 41 x y, type := τ, pos := pos, after := after, guard := none }) rfl 41 x y rfl g cells hx hy 41 old hg (by rw [hs]; kernel_rfl) (by rw [ho, hs]) h1 h
theorem below_setRow' {B : Nat} {a w : World} (h : Below B a w) {g : Nat} (hg : B ≤ g) (cs : Array Value) : Below B a (w.setRow g cs) :=
 h.trans ⟨rfl, rfl, rfl, by simp, fun k hk => setRow_other w g k cs (by omega)⟩
end Go.Proofs.YtffklmlljekceaaGreat
