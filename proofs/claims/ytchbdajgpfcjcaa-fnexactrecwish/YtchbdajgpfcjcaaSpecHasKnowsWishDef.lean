import Derived.Test.YtchbdajgpfcjcaaSlotsTo
import Derived.WalkSmall
import Derived.Test.YtchbdajgpfcjcaaDrawnRec
import Derived.Test.YtchbdajgpfcjcaaMergeL
import Derived.Test.YtchbdajgpfcjcaaCopyListApps
/-
  Whether a text stands in slots: spec.l3Has.
-/
namespace Go.Proofs.Ytchbdajgpfcjcaa
open Go.ChangeShapes Go.WideShapes Go.ChangeAt Go.RowKit
set_option linter.unusedVariables false
set_option linter.unusedSimpArgs false

def slotIs (t : ByteArray) (s : Sl) : Bool := decide (0 < s.1) && (s.2.toList == t.toList)
def hasSlot (l : List Sl) (t : ByteArray) : Bool := l.any (slotIs t)
theorem hasSlot_yes {l : List Sl} {t : ByteArray} {k : Nat} {s : Sl} (hs : l[k]? = some s) (h : slotIs t s = true) : hasSlot l t = true := List.any_eq_true.2 ⟨s, List.mem_of_getElem? hs, h⟩
theorem hasSlot_no {l : List Sl} {t : ByteArray} {n : Nat} (hn : l.length = n) (h : ∀ (i : Nat) s, i < n → l[i]? = some s → slotIs t s = false) : hasSlot l t = false := by
  unfold hasSlot
  rw [List.any_eq_false]
  intro s hs
  obtain ⟨i, hi, rfl⟩ := List.getElem_of_mem hs
  rw [h i _ (by omega) (List.getElem?_eq_getElem hi)]
  simp
set_option maxHeartbeats 4000000 in
theorem l3Has_any (a : Option Addr) (l : List Sl) (n cap : Nat) (t : ByteArray) (w : World) (hn : l.length = n) (hc : n ≤ maxLen) (h : SlotsAt w a l) :
    Calls Try.prog 101 #[.slice a n cap, .string t] w fun e w' => e = .returned (.bool (hasSlot l t)) ∧ Below w.heap.size w w' := by
  unfold maxLen at hc
  have HL : Hid (l.length = n) := hn
  clear hn
  go_enter Try.func101, Try.ntmps101
  go_wp2
  go_loopw [5] (fun i wr => ∃ (k : Nat), k ≤ n ∧ i = .int .i64 k ∧ (∀ (j : Nat) s, j < k → l[j]? = some s → slotIs t s = false) ∧ Below w.heap.size w wr) (fun i _ => n - (intOf i).toNat)
  case atStart => exact ⟨0, Nat.zero_le _, rfl, fun j s hj => absurd hj (by omega), Below.refl _ _⟩
  case round =>
    obtain ⟨k, hk, rfl, hall0, hbel⟩ := hrel
    have hall : Hid (∀ (j : Nat) s, j < k → l[j]? = some s → slotIs t s = false) := hall0
    clear hall0
    by_cases hlt : k < n
    · obtain ⟨s, hs0⟩ : ∃ s, l[k]? = some s := ⟨_, List.getElem?_eq_getElem (by rw [HL.out]; exact hlt)⟩
      have hs : Hid (l[k]? = some s) := hs0
      obtain ⟨b, off, rfl, hb, c0, c1, _⟩ := (h.ext hbel) k s hs0
      clear hs0
      have e1 : (0 : Int) ≤ (k : Int) := by omega
      have e2 : (k : Int) < (n : Int) := by omega
      by_cases hp : 0 < s.1
      · have u1 : decide ((0 : Int) < s.1) = true := decide_eq_true hp
        cases hq : (s.2.toList == t.toList)
        · go_wp2
          go_roundw
          case rel =>
            refine ⟨k + 1, by omega, by go_num, fun j u hj hu => ?_, hbel⟩
            by_cases he : j = k
            · subst he; rw [hs.out] at hu; simp only [Option.some.injEq] at hu; rw [← hu]; simp [slotIs, hq]
            · exact hall.out j u (by omega) hu
          case measure => simp [intOf]; omega
        · go_wp2
          go_ret
          exact ⟨by rw [hasSlot_yes hs.out (by simp [slotIs, hq, hp])]; rfl, hbel⟩
      · have u1 : decide ((0 : Int) < s.1) = false := decide_eq_false hp
        go_wp2
        go_roundw
        case rel =>
          refine ⟨k + 1, by omega, by go_num, fun j u hj hu => ?_, hbel⟩
          by_cases he : j = k
          · subst he; rw [hs.out] at hu; simp only [Option.some.injEq] at hu; rw [← hu]; simp [slotIs]; intro h9; omega
          · exact hall.out j u (by omega) hu
        case measure => simp [intOf]; omega
    · go_wp2
      go_ret
      exact ⟨by rw [hasSlot_no HL.out (fun i s hi hs => hall.out i s (by omega) hs)]; rfl, hbel⟩
end Go.Proofs.Ytchbdajgpfcjcaa

/-
  impl.knowsText: a closure is asked of each of the known slots.
-/
namespace Go.Proofs.Ytchbdajgpfcjcaa
open Go.ChangeShapes Go.WideShapes Go.ChangeAt Go.RowKit
set_option linter.unusedVariables false
set_option linter.unusedSimpArgs false

def textIs (t : ByteArray) (s : Sl) : Bool := s.2.toList == t.toList
def hasText (l : List Sl) (t : ByteArray) : Bool := l.any (textIs t)
set_option maxHeartbeats 2000000 in
theorem knows1 (s : Sl) (tb : Nat) (t : ByteArray) (w : World) (hb : Blk w tb #[.string t] 9) :
    Calls Try.prog 112 #[.agg #[.int .i64 s.1, .string s.2], .pointer (some ⟨tb, 0, none⟩)] w fun e w' => e = .returned (.bool (textIs t s)) ∧ Below w.heap.size w w' := by
  have hB := hid (show Below w.heap.size w (w.alloc (.cells #[.int .i64 s.1, .string s.2] 74)) from ext_alloc (Below.refl _ _) _)
  have c1 := (hb.alloc (.cells #[.int .i64 s.1, .string s.2] 74)).cell 0
  go_enter Try.func112, Try.ntmps112
  go_wp2
  go_ret
  exact ⟨rfl, hB.out⟩

set_option maxHeartbeats 4000000 in
theorem knowsIndex (a : Option Addr) (l : List Sl) (n cap tb : Nat) (t : ByteArray) (w : World) (hn : l.length = n) (hc : n ≤ maxLen) (hb : Blk w tb #[.string t] 9) (h : SlotsAt w a l) :
    Calls Try.prog 113 #[.slice a n cap, .func (.func 112) #[] #[.pointer (some ⟨tb, 0, none⟩)]] w fun e w' => ∃ r : Int, e = .returned (.int .i64 r) ∧ decide (0 ≤ r) = hasText l t ∧ Below w.heap.size w w' := by
  unfold maxLen at hc
  have HL : Hid (l.length = n) := hn
  clear hn
  go_enter Try.func113, Try.ntmps113
  go_wp2
  go_loopw [8] (fun i wr => ∃ (k : Nat), k ≤ n ∧ i = .int .i64 k ∧ (∀ (q : Nat) u, q < k → l[q]? = some u → textIs t u = false) ∧ Below w.heap.size w wr) (fun i _ => n - (intOf i).toNat)
  case atStart => exact ⟨0, Nat.zero_le _, rfl, fun q u hq => absurd hq (by omega), Below.refl _ _⟩
  case round =>
    obtain ⟨k, hk, rfl, hin0, hbel0⟩ := hrel
    have hin : Hid (∀ (q : Nat) u, q < k → l[q]? = some u → textIs t u = false) := hin0
    have hbel := hid hbel0
    clear hin0 hbel0
    by_cases hlt : k < n
    · obtain ⟨u, hs0⟩ : ∃ s, l[k]? = some s := ⟨_, List.getElem?_eq_getElem (by rw [HL.out]; exact hlt)⟩
      have hs : Hid (l[k]? = some u) := hs0
      obtain ⟨b, off, rfl, hb1, c0, c1, _⟩ := (h.ext hbel.out) k u hs0
      clear hs0
      have HK := hid (hb.ext hbel.out)
      have e1 : (0 : Int) ≤ (k : Int) := by omega
      have e2 : (k : Int) < (n : Int) := by omega
      go_wp2_with fail
      refine (knows1 u tb t _ HK.out).mono ?_
      rintro e z ⟨rfl, hz⟩
      have Z := hid (ext_trans hbel.out hz)
      clear hz
      cases hq : textIs t u
      · have HQ := hid hq
        clear hq
        go_wp2
        go_roundw
        case rel =>
          refine ⟨k + 1, by omega, by go_num, fun q v hq hv => ?_, Z.out⟩
          by_cases he : q = k
          · subst he; rw [hs.out] at hv; simp only [Option.some.injEq] at hv; rw [← hv]; exact HQ.out
          · exact hin.out q v (by omega) hv
        case measure => simp [intOf]; omega
      · have HQ := hid hq
        clear hq
        go_wp2
        go_ret
        refine ⟨k, rfl, ?_, Z.out⟩
        rw [decide_eq_true e1]
        exact (List.any_eq_true.2 ⟨u, List.mem_of_getElem? hs.out, HQ.out⟩).symm
    · go_wp2
      go_ret
      refine ⟨-1, rfl, ?_, hbel.out⟩
      have : hasText l t = false := by
        unfold hasText
        rw [List.any_eq_false]
        intro u hu
        obtain ⟨i, hi, rfl⟩ := List.getElem_of_mem hu
        rw [hin.out i _ (by have := HL.out; omega) (List.getElem?_eq_getElem hi)]
        simp
      rw [this]
      rfl
theorem knowsContains (a : Option Addr) (l : List Sl) (n cap tb : Nat) (t : ByteArray) (w : World) (hn : l.length = n) (hc : n ≤ maxLen) (hb : Blk w tb #[.string t] 9) (h : SlotsAt w a l) :
    Calls Try.prog 111 #[.slice a n cap, .func (.func 112) #[] #[.pointer (some ⟨tb, 0, none⟩)]] w fun e w' => e = .returned (.bool (hasText l t)) ∧ Below w.heap.size w w' := by
  have HL : Hid (l.length = n) := hn
  have HB := hid hb
  clear hn hb
  go_enter Try.func111, Try.ntmps111
  go_wp2_with (go_at_call 113; refine (knowsIndex a l n cap tb t _ HL.out hc HB.out h).mono ?_; rintro e w' ⟨r, rfl, hr, hz⟩; have Z := hid hz; clear hz)
  go_ret
  exact ⟨rfl, Z.out⟩
theorem SlotsAt.take {w : World} {a : Option Addr} {l : List Sl} (h : SlotsAt w a l) (k : Nat) : SlotsAt w a (l.take k) := fun i s hs => h i s (by
  have hi := (List.getElem?_eq_some_iff.1 hs).1
  simp only [List.length_take] at hi
  rw [List.getElem?_take_of_lt (by omega)] at hs
  exact hs)

set_option maxHeartbeats 2000000 in
theorem knows_any (x y : Int) (a : Option Addr) (l : List Sl) (n cap k : Nat) (t : ByteArray) (w : World) (hn : l.length = n) (hc : n ≤ maxLen) (hy : y = (k : Int)) (hk : k ≤ n) (hcap : n ≤ cap) (ha : a = none → cap = 0) (h : SlotsAt w a l) :
    Calls Try.prog 107 #[.agg #[.int .i64 x, .int .i64 y, .slice a n cap], .string t] w fun e w' => e = .returned (.bool (hasText (l.take k) t)) ∧ Below w.heap.size w w' := by
  subst hy
  have HL := hid (show (l.take k).length = k by rw [List.length_take, hn]; omega)
  have HC := hid (show k ≤ maxLen from Nat.le_trans hk hc)
  obtain ⟨W, hW⟩ : ∃ W, W = (w.alloc (.cells #[.int .i64 x, .int .i64 (k : Int), .slice a n cap] 29)).alloc (.cells #[.string t] 9) := ⟨_, rfl⟩
  have BW := hid (show Below w.heap.size w W by rw [hW]; exact ext_alloc (ext_alloc (Below.refl _ _) _) _)
  have KW := hid (show Blk W (w.heap.size + 1) #[.string t] 9 by rw [hW]; exact Blk.new' _ _ (by simp))
  have SA := hid ((h.ext BW.out).take k)
  clear h
  unfold maxLen at hc
  cases a with
  | none =>
    have e9 := ha rfl
    subst e9
    have e8 : n = 0 := by omega
    have e7 : k = 0 := by omega
    subst e8
    subst e7
    have hW2 : W = (w.alloc (.cells #[.int .i64 x, .int .i64 0, .slice none 0 0] 29)).alloc (.cells #[.string t] 9) := hW
    go_enter Try.func107, Try.ntmps107
    go_wp2_with (go_at_call 111; rw [← hW2]; refine (knowsContains none (l.take 0) 0 0 (w.heap.size + 1) t _ HL.out HC.out KW.out SA.out).mono ?_; rintro e z ⟨rfl, hz⟩; have Z := hid (ext_trans BW.out hz); clear hz)
    go_ret
    exact ⟨rfl, Z.out⟩
  | some ad =>
    go_enter Try.func107, Try.ntmps107
    go_wp2_with (go_at_call 111; rw [← hW]; refine (knowsContains (some ad) (l.take k) k cap (w.heap.size + 1) t _ HL.out HC.out KW.out SA.out).mono ?_; rintro e z ⟨rfl, hz⟩; have Z := hid (ext_trans BW.out hz); clear hz)
    go_ret
    exact ⟨rfl, Z.out⟩
end Go.Proofs.Ytchbdajgpfcjcaa

/-
  A wish: what becomes of a recorder by it; colours of blocks that are in no list; a list that grows.
-/
namespace Go.Proofs.Ytchbdajgpfcjcaa
open Go.ChangeShapes Go.WideShapes Go.ChangeAt Go.RowKit
set_option linter.unusedVariables false
set_option linter.unusedSimpArgs false

def wishB (r : Rc) (t : ByteArray) : Bool := inB (t.size : Int) 1 100 && decide (r.wish.length < 20) && !hasSlot (r.ds.take r.dk.toNat) t && !hasB r.wish t
def wishR (r : Rc) (t : ByteArray) : Rc := if wishB r t = true then { r with wish := r.wish ++ [t] } else r
theorem wishR_yes {r : Rc} {t : ByteArray} (h : wishB r t = true) : wishR r t = { r with wish := r.wish ++ [t] } := if_pos h
theorem wishR_no {r : Rc} {t : ByteArray} (h : wishB r t = false) : wishR r t = r := by simp [wishR, h]

theorem known_pos {p k : Int} {l : List Sl} (h : diskOkB p k l = true) {i : Nat} {s : Sl} (hi : i < k.toNat) (hs : l[i]? = some s) : 0 < s.1 := by
  simp only [diskOkB, slotsOkB, Bool.and_eq_true] at h
  obtain ⟨⟨⟨_, ⟨_, h1⟩⟩, _⟩, h2⟩ := h
  have q1 := List.all_eq_true.1 h1 s (List.mem_of_getElem? hs)
  simp only [slotOkB, Bool.and_eq_true] at q1
  have q2 := (inB_iff.1 q1.1.1).1
  have q3 : placeOkB p k i s = true := by
    unfold placesOkB at h2
    rw [List.all_eq_true] at h2
    have := h2 (s, i) (by
      obtain ⟨hl, he⟩ := List.getElem?_eq_some_iff.1 hs
      rw [List.mem_iff_getElem]
      exact ⟨i, by simpa using hl, by simp [List.getElem_zipIdx, he]⟩)
    exact this
  by_cases h0 : s.1 = 0
  · exfalso
    have h9 : (i : Int) < k := by omega
    simp [placeOkB, h0, h9] at q3
  · omega
theorem hasText_eq {r : Rc} (h : validB r = true) (t : ByteArray) : hasText (r.ds.take r.dk.toNat) t = hasSlot (r.ds.take r.dk.toNat) t := by
  have hd : diskOkB r.dp r.dk r.ds = true := by
    cases hc : diskOkB r.dp r.dk r.ds
    · rw [nv_g2 hc] at h; cases h
    · rfl
  have pos : ∀ s ∈ r.ds.take r.dk.toNat, 0 < s.1 := fun s hs => by
    obtain ⟨i, hi, he⟩ := List.getElem_of_mem hs
    simp only [List.length_take] at hi
    rw [List.getElem_take] at he
    exact known_pos hd (i := i) (by omega) (by rw [← he]; exact List.getElem?_eq_getElem (by omega))
  unfold hasText hasSlot
  rw [Bool.eq_iff_iff, List.any_eq_true, List.any_eq_true]
  constructor
  · rintro ⟨s, hs, h1⟩
    exact ⟨s, hs, by simp only [slotIs, decide_eq_true (pos s hs), Bool.true_and]; exact h1⟩
  · rintro ⟨s, hs, h1⟩
    refine ⟨s, hs, ?_⟩
    simp only [slotIs, decide_eq_true (pos s hs), Bool.true_and] at h1
    exact h1

/-- the blocks from n on are in no list -/
def colF (n : Nat) (col : Nat → Nat) (b : Nat) : Nat := if b < n then col b else 9
theorem colF_old {n : Nat} {col : Nat → Nat} {b : Nat} (h : b < n) : colF n col b = col b := if_pos h
theorem colF_new {n : Nat} {col : Nat → Nat} {b : Nat} (h : n ≤ b) : colF n col b = 9 := if_neg (by omega)
theorem RcHas.recol {B : Nat} {w : World} {r : Rc} {p : RcP} {X : RcX} {col col' : Nat → Nat} (h : RcHas B w r p X col) (hc : ∀ b, b < w.heap.size → col' b = col b) : RcHas B w r p X col' :=
  ⟨h.s.recol hc, h.d.recol hc, h.h.recol hc, h.hm, h.hi.recol hc, h.t.recol hc, h.y.recol hc, h.b.recol hc, h.a.recol hc, h.am, h.ai.recol hc, h.gd⟩
theorem RcHas.fresh {B : Nat} {w : World} {r : Rc} {p : RcP} {X : RcX} {col : Nat → Nat} (h : RcHas B w r p X col) : RcHas B w r p X (colF w.heap.size col) := h.recol fun b hb => colF_old hb

/-- colour t for the block of an answer -/
def colN (a : Option Addr) (t : Nat) (col : Nat → Nat) (b : Nat) : Nat := if a.map (·.block) = some b then t else col b
theorem colN_at {a : Option Addr} {t : Nat} {col : Nat → Nat} {x : Addr} (h : a = some x) : colN a t col x.block = t := by unfold colN; rw [if_pos (by rw [h]; rfl)]
theorem colN_else {a : Option Addr} {t : Nat} {col : Nat → Nat} {b : Nat} (h : ∀ x, a = some x → x.block ≠ b) : colN a t col b = col b := by
  unfold colN
  rw [if_neg]
  intro e
  simp only [Option.map_eq_some_iff] at e
  obtain ⟨x, hx, he⟩ := e
  exact h x hx he
/-- a row of another colour stays where a list grows -/
theorem RowC.grown {B : Nat} {w w' : World} {col : Nat → Nat} {t u : Nat} {e : TypeId} {k : Nat} {a : Option Addr} {n c : Nat} {xs : List Value} {sa a' : Option Addr} {m c0 : Nat} (h : RowC B w col t e k a n c xs) (hu : ∀ y, sa = some y → col y.block = u) (hne : t ≠ u)
    (hg : w.grownBy w' (Value.slice sa m c0).ownBlock) (hn : NewOr w sa a') : RowC B w' (colN a' u col) t e k a n c xs := by
  have far : ∀ x, a = some x → ∀ y, sa = some y → y.block ≠ x.block := fun x hx y hy he => by
    have h1 := h.col x hx
    have h2 := hu y hy
    rw [he] at h2
    exact hne (h1.symm.trans h2)
  have h1 : RowC B w' col t e k a n c xs := h.same fun x hx => hg.block _ (h.lt x hx).2 (by
    cases hs : sa with
    | none => simp [Value.ownBlock]
    | some y =>
      simp only [Value.ownBlock, ne_eq, Option.some.injEq]
      exact fun e => far x hx y hs e.symm)
  refine ⟨h1.own, fun x hx => (colN_else fun z hz he => ?_).trans (h.col x hx)⟩
  rcases hn z hz with ⟨y, hy, hyz⟩ | hnew
  · exact far x hx y hy (hyz.trans he)
  · have := (h.lt x hx).2
    omega
theorem RcHas.growT {B : Nat} {w w' : World} {r : Rc} {p : RcP} {X : RcX} {col : Nat → Nat} (h : RcHas B w r p X col) {a' : Option Addr} {c' : Nat} {l : List ByteArray} (hg : w.grownBy w' (Value.slice p.aW r.wish.length p.cW).ownBlock) (ho : w'.ownsRow B 9 1 (.slice a' l.length c') l.length (flatT l)) (hn : NewOr w p.aW a') (hl : GoodOnes okS l) :
    RcHas B w' { r with wish := l } { p with aW := a', cW := c' } X (colN a' 3 col) :=
  ⟨h.s.grown h.t.col (by decide) hg hn, h.d.grown h.t.col (by decide) hg hn, h.h.grown h.t.col (by decide) hg hn, h.hm, ⟨fun m hm => (h.hi.row m hm).grown h.t.col (by decide) hg hn, h.hi.apart⟩,
    ⟨ho, fun x hx => colN_at hx⟩, h.y.grown h.t.col (by decide) hg hn, h.b.grown h.t.col (by decide) hg hn, h.a.grown h.t.col (by decide) hg hn, h.am, ⟨fun m hm => (h.ai.row m hm).grown h.t.col (by decide) hg hn, h.ai.apart⟩,
    ⟨h.gd.s, h.gd.d, h.gd.h, hl, h.gd.y, h.gd.b, h.gd.a⟩⟩
theorem goodT_snoc {l : List ByteArray} {t : ByteArray} (h : GoodOnes okS l) (ht : okS t) : GoodOnes okS (l ++ [t]) := fun i s hs => by
  rcases Nat.lt_or_ge i l.length with hi | hi
  · rw [List.getElem?_append_left hi] at hs; exact h i s hs
  · rw [List.getElem?_append_right hi] at hs
    have h9 := List.mem_of_getElem? hs
    simp only [List.mem_cons, List.not_mem_nil, or_false] at h9
    rw [h9]; exact ht
end Go.Proofs.Ytchbdajgpfcjcaa
