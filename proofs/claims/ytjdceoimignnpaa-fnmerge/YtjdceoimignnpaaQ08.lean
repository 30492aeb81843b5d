import Derived.Test.YtjdceoimignnpaaQ07
namespace Go.Proofs.Ytjdceoimignnpaa
open Go.ChangeShapes Go.WideShapes Go.ChangeAt Go.RowKit
set_option linter.unusedVariables false
set_option linter.unusedSimpArgs false
set_option maxHeartbeats 16000000
set_option maxRecDepth 20000
variable {t : ByteArray} {b : Int} {l : List Sl} {xs : List Value} {B c k n u : Nat} {col col' : Nat → Nat} {a a' : Option Addr} {r : Rc} {p : RcP} {X : RcX} {e : TypeId} {w w' : World}
def slotIs (t : ByteArray) (s : Sl) : Bool := decide (0 < s.1) && (s.2.toList == t.toList)
def hasSlot (l : List Sl) (t : ByteArray) : Bool := l.any (slotIs t)
theorem hasSlot_yes {s : Sl} (hs : l[k]? = some s) (h : slotIs t s = true) : hasSlot l t = true := List.any_eq_true.2 ⟨s, List.mem_of_getElem? hs, h⟩
theorem hasSlot_no (hn : l.length = n) (h : ∀ (i : Nat) s, i < n → l[i]? = some s → slotIs t s = false) : hasSlot l t = false := by
 unfold hasSlot;rw [List.any_eq_false];intro s hs;obtain ⟨i, hi, rfl⟩ := List.getElem_of_mem hs;rw [h i _ (by omega) (List.getElem?_eq_getElem hi)];simp
theorem l3Has_any (a : Option Addr) (l : List Sl) (n cap : Nat) (t : ByteArray) (w : World) (hn : l.length = n) (hc : n ≤ maxLen) (h : SlotsAt w a l) :
  Calls Try.prog 102 #[.slice a n cap, .string t] w fun e w' => e = .returned (.bool (hasSlot l t)) ∧ Below w.heap.size w w' := by
 unfold maxLen at hc;have HL : Hid (l.length = n) := hn;clear hn;go_enter Try.func102, Try.ntmps102;go_wp2;go_loopw [5] (fun i wr => ∃ (k : Nat), k ≤ n ∧ i = .int .i64 k ∧ (∀ (j : Nat) s, j < k → l[j]? = some s → slotIs t s = false) ∧ Below w.heap.size w wr) (fun i _ => n - (intOf i).toNat);case atStart => exact ⟨0, Nat.zero_le _, rfl, fun j s hj => absurd hj (by omega), Below.refl _ _⟩
 obtain ⟨k, hk, rfl, hall0, hbel⟩ := hrel;have hall : Hid (∀ (j : Nat) s, j < k → l[j]? = some s → slotIs t s = false) := hall0;clear hall0;by_cases hlt : k < n
 ·obtain ⟨s, hs0⟩ : ∃ s, l[k]? = some s := ⟨_, List.getElem?_eq_getElem (by rw [HL.out]; exact hlt)⟩
  have hs : Hid (l[k]? = some s) := hs0;obtain ⟨b, off, rfl, hb, c0, c1, _⟩ := (h.ext hbel) k s hs0;clear hs0;have e1 : (0 : Int) ≤ (k : Int) := by omega
  have e2 : (k : Int) < (n : Int) := by omega
  by_cases hp : 0 < s.1
  ·have u1 : decide ((0 : Int) < s.1) = true := decide_eq_true hp;cases hq : (s.2.toList == t.toList)
   ·go_wp2;go_roundw;case rel =>
     refine ⟨k + 1, by omega, by go_num, fun j u hj hu => ?_, hbel⟩;by_cases he : j = k
     ·subst he; rw [hs.out] at hu; simp only [Option.some.injEq] at hu; rw [← hu]; simp [slotIs, hq]
     exact hall.out j u (by omega) hu
    case measure => simp [intOf]; omega
   go_wp2;go_ret;exact ⟨by rw [hasSlot_yes hs.out (by simp [slotIs, hq, hp])]; rfl, hbel⟩
  have u1 : decide ((0 : Int) < s.1) = false := decide_eq_false hp;go_wp2;go_roundw;case rel =>
   refine ⟨k + 1, by omega, by go_num, fun j u hj hu => ?_, hbel⟩;by_cases he : j = k
   ·subst he; rw [hs.out] at hu; simp only [Option.some.injEq] at hu; rw [← hu]; simp [slotIs]; intro h9; omega
   exact hall.out j u (by omega) hu
  case measure => simp [intOf]; omega
 go_wp2;go_ret;exact ⟨by rw [hasSlot_no HL.out (fun i s hi hs => hall.out i s (by omega) hs)]; rfl, hbel⟩
theorem SlotsAt.take (h : SlotsAt w a l) (k : Nat) : SlotsAt w a (l.take k) := fun i s hs => h i s (by
 have hi := (List.getElem?_eq_some_iff.1 hs).1;simp only [List.length_take] at hi;rw [List.getElem?_take_of_lt (by omega)] at hs
 exact hs)
def wishB (r : Rc) (t : ByteArray) : Bool := inB (t.size : Int) 1 100 && decide (r.wish.length < 20) && !hasSlot (r.ds.take r.dk.toNat) t && !hasB r.wish t
def wishR (r : Rc) (t : ByteArray) : Rc := if wishB r t = true then { r with wish := r.wish ++ [t] } else r
theorem wishR_yes (h : wishB r t = true) : wishR r t = { r with wish := r.wish ++ [t] } := if_pos h
theorem wishR_no (h : wishB r t = false) : wishR r t = r := by simp [wishR, h]
def colF (n : Nat) (col : Nat → Nat) (b : Nat) : Nat := if b < n then col b else 9
theorem colF_old {b : Nat} (h : b < n) : colF n col b = col b := if_pos h
theorem colF_new {b : Nat} (h : n ≤ b) : colF n col b = 9 := if_neg (by omega)
theorem RcHas.recol (h : RcHas B w r p X col) (hc : ∀ b, b < w.heap.size → col' b = col b) : RcHas B w r p X col' :=
 ⟨h.s.recol hc, h.d.recol hc, h.h.recol hc, h.hm, h.hi.recol hc, h.t.recol hc, h.y.recol hc, h.b.recol hc, h.a.recol hc, h.am, h.ai.recol hc, h.gd⟩
theorem RcHas.fresh (h : RcHas B w r p X col) : RcHas B w r p X (colF w.heap.size col) := h.recol fun b hb => colF_old hb
def colN (a : Option Addr) (t : Nat) (col : Nat → Nat) (b : Nat) : Nat := if a.map (·.block) = some b then t else col b
theorem colN_at {t : Nat} {x : Addr} (h : a = some x) : colN a t col x.block = t := by unfold colN; rw [if_pos (by rw [h]; rfl)]
theorem colN_else {t : Nat} {b : Nat} (h : ∀ x, a = some x → x.block ≠ b) : colN a t col b = col b := by
 unfold colN;rw [if_neg];intro e;simp only [Option.map_eq_some_iff] at e;obtain ⟨x, hx, he⟩ := e;exact h x hx he
theorem RowC.grown {t : Nat} {sa : Option Addr} {m c0 : Nat} (h : RowC B w col t e k a n c xs) (hu : ∀ y, sa = some y → col y.block = u) (hne : t ≠ u)
  (hg : w.grownBy w' (Value.slice sa m c0).ownBlock) (hn : NewOr w sa a') : RowC B w' (colN a' u col) t e k a n c xs := by
 have far : ∀ x, a = some x → ∀ y, sa = some y → y.block ≠ x.block := fun x hx y hy he => by
  have h1 := h.col x hx;have h2 := hu y hy;rw [he] at h2;exact hne (h1.symm.trans h2)
 have h1 : RowC B w' col t e k a n c xs := h.same fun x hx => hg.block _ (h.lt x hx).2 (by
  cases hs : sa with
  | none => simp [Value.ownBlock]
  | some y =>
   simp only [Value.ownBlock, ne_eq, Option.some.injEq]
   exact fun e => far x hx y hs e.symm)
 refine ⟨h1.own, fun x hx => (colN_else fun z hz he => ?_).trans (h.col x hx)⟩;rcases hn z hz with ⟨y, hy, hyz⟩ | hnew
 ·exact far x hx y hy (hyz.trans he)
 have := (h.lt x hx).2;omega
theorem RcHas.growT (h : RcHas B w r p X col) {a' : Option Addr} {c' : Nat} {l : List ByteArray} (hg : w.grownBy w' (Value.slice p.aW r.wish.length p.cW).ownBlock) (ho : w'.ownsRow B 9 1 (.slice a' l.length c') l.length (flatT l)) (hn : NewOr w p.aW a') (hl : GoodOnes okS l) :
  RcHas B w' { r with wish := l } { p with aW := a', cW := c' } X (colN a' 3 col) :=
 ⟨h.s.grown h.t.col (by decide) hg hn, h.d.grown h.t.col (by decide) hg hn, h.h.grown h.t.col (by decide) hg hn, h.hm, ⟨fun m hm => (h.hi.row m hm).grown h.t.col (by decide) hg hn, h.hi.apart⟩,
  ⟨ho, fun x hx => colN_at hx⟩, h.y.grown h.t.col (by decide) hg hn, h.b.grown h.t.col (by decide) hg hn, h.a.grown h.t.col (by decide) hg hn, h.am, ⟨fun m hm => (h.ai.row m hm).grown h.t.col (by decide) hg hn, h.ai.apart⟩,
  ⟨h.gd.s, h.gd.d, h.gd.h, hl, h.gd.y, h.gd.b, h.gd.a⟩⟩
theorem goodT_snoc {l : List ByteArray} (h : GoodOnes okS l) (ht : okS t) : GoodOnes okS (l ++ [t]) := fun i s hs => by
 rcases Nat.lt_or_ge i l.length with hi | hi
 ·rw [List.getElem?_append_left hi] at hs; exact h i s hs
 rw [List.getElem?_append_right hi] at hs;have h9 := List.mem_of_getElem? hs;simp only [List.mem_cons, List.not_mem_nil, or_false] at h9;rw [h9]; exact ht
theorem RowC.paint {t : Nat} (h : RowC B w col t e k a n c xs) (ht : t ≤ 8) (hf : ∀ x, a' = some x → 8 < col x.block) : RowC B w (colN a' u col) t e k a n c xs :=
 ⟨h.own, fun x hx => (colN_else fun z hz he => by
  have h1 := hf z hz;have h2 := h.col x hx;rw [he] at h1
  omega).trans (h.col x hx)⟩
theorem RcHas.paint (h : RcHas B w r p X col) {a' : Option Addr} {u : Nat} (hf : ∀ x, a' = some x → 8 < col x.block) : RcHas B w r p X (colN a' u col) :=
 ⟨h.s.paint (by omega) hf, h.d.paint (by omega) hf, h.h.paint (by omega) hf, h.hm, ⟨fun m hm => (h.hi.row m hm).paint (by omega) hf, h.hi.apart⟩, h.t.paint (by omega) hf, h.y.paint (by omega) hf, h.b.paint (by omega) hf, h.a.paint (by omega) hf, h.am, ⟨fun m hm => (h.ai.row m hm).paint (by omega) hf, h.ai.apart⟩, h.gd⟩
theorem RcHas.set_s (h : RcHas B w r p X col) {a' : Option Addr} {c' : Nat} {l : List Sl} (hr : RowC B w col 0 43 2 a' l.length c' (flat l)) (hl : GoodSlots l) :
  RcHas B w { r with ss := l } { p with aS := a', cS := c' } X col :=
 ⟨hr, h.d, h.h, h.hm, h.hi, h.t, h.y, h.b, h.a, h.am, h.ai, ⟨hl, h.gd.d, h.gd.h, h.gd.t, h.gd.y, h.gd.b, h.gd.a⟩⟩
theorem RcHas.grow_d (h : RcHas B w r p X col) {a' : Option Addr} {c' : Nat} {l : List Sl} (hg : w.grownBy w' (Value.slice p.aD r.ds.length p.cD).ownBlock) (ho : w'.ownsRow B 43 2 (.slice a' l.length c') l.length (flat l)) (hn : NewOr w p.aD a') (hl : GoodSlots l) :
  RcHas B w' { r with ds := l } { p with aD := a', cD := c' } X (colN a' 1 col) :=
 ⟨h.s.grown h.d.col (by decide) hg hn, ⟨ho, fun x hx => colN_at hx⟩, h.h.grown h.d.col (by decide) hg hn, h.hm, ⟨fun m hm => (h.hi.row m hm).grown h.d.col (by decide) hg hn, h.hi.apart⟩, h.t.grown h.d.col (by decide) hg hn, h.y.grown h.d.col (by decide) hg hn, h.b.grown h.d.col (by decide) hg hn, h.a.grown h.d.col (by decide) hg hn, h.am, ⟨fun m hm => (h.ai.row m hm).grown h.d.col (by decide) hg hn, h.ai.apart⟩, ⟨h.gd.s, hl, h.gd.h, h.gd.t, h.gd.y, h.gd.b, h.gd.a⟩⟩
theorem RcHas.put_d (h : RcHas B w r p X col) {l : List Sl} (hln : l.length = r.ds.length) (hs : ∀ b, b < w.heap.size → col b ≠ 1 → w'.heap[b]? = w.heap[b]?) (ho : w'.ownsRow B 43 2 (.slice p.aD r.ds.length p.cD) r.ds.length (flat l)) (hl : GoodSlots l) :
  RcHas B w' { r with ds := l } p X col := by
 have k : ∀ {t : Nat} {e : TypeId} {k : Nat} {a : Option Addr} {n c : Nat} {xs : List Value}, t ≠ 1 → RowC B w col t e k a n c xs → RowC B w' col t e k a n c xs := fun ht h => h.same fun x hx => hs _ (h.lt x hx).2 (by rw [h.col x hx]; exact ht)
 have hr : RowC B w' col 1 43 2 p.aD l.length p.cD (flat l) := by rw [hln]; exact ⟨ho, h.d.col⟩
 exact ⟨k (by decide) h.s, hr, k (by decide) h.h, h.hm, ⟨fun m hm => k (by decide) (h.hi.row m hm), h.hi.apart⟩, k (by decide) h.t, k (by decide) h.y, k (by decide) h.b, k (by decide) h.a, h.am, ⟨fun m hm => k (by decide) (h.ai.row m hm), h.ai.apart⟩, ⟨h.gd.s, hl, h.gd.h, h.gd.t, h.gd.y, h.gd.b, h.gd.a⟩⟩
theorem RcHas.set_h (h : RcHas B w r p X col) {a' : Option Addr} {c' : Nat} {l : List Mp} (hr : RowC B w col 2 49 8 a' l.length c' (flatM l)) (hi : InnM B w col 7 l) (hl : MsgsGood (l.map (·.1))) :
  RcHas B w { r with held := l.map (·.1) } { p with aH := a', cH := c' } ⟨l, X.A⟩ col :=
 ⟨h.s, h.d, (by rw [List.length_map]; exact hr), rfl, hi, h.t, h.y, h.b, h.a, h.am, h.ai, ⟨h.gd.s, h.gd.d, hl, h.gd.t, h.gd.y, h.gd.b, h.gd.a⟩⟩
theorem RcHas.grow_h (h : RcHas B w r p X col) {a' : Option Addr} {c' : Nat} {l : List Mp} (hg : w.grownBy w' (Value.slice p.aH r.held.length p.cH).ownBlock) (ho : w'.ownsRow B 49 8 (.slice a' l.length c') l.length (flatM l)) (hn : NewOr w p.aH a') (hi : ∀ m ∈ l, RowC B w col 7 43 2 m.2.1 m.1.2.length m.2.2 (flat m.1.2)) (hap : l.Pairwise (fun m m' => ∀ x x', m.2.1 = some x → m'.2.1 = some x' → x.block ≠ x'.block)) (hl : MsgsGood (l.map (·.1))) :
  RcHas B w' { r with held := l.map (·.1) } { p with aH := a', cH := c' } ⟨l, X.A⟩ (colN a' 2 col) :=
 ⟨h.s.grown h.h.col (by decide) hg hn, h.d.grown h.h.col (by decide) hg hn, (by rw [List.length_map]; exact ⟨ho, fun x hx => colN_at hx⟩), rfl, ⟨fun m hm => (hi m hm).grown h.h.col (by decide) hg hn, hap⟩, h.t.grown h.h.col (by decide) hg hn, h.y.grown h.h.col (by decide) hg hn, h.b.grown h.h.col (by decide) hg hn, h.a.grown h.h.col (by decide) hg hn, h.am, ⟨fun m hm => (h.ai.row m hm).grown h.h.col (by decide) hg hn, h.ai.apart⟩, ⟨h.gd.s, h.gd.d, hl, h.gd.t, h.gd.y, h.gd.b, h.gd.a⟩⟩
theorem RcHas.set_t (h : RcHas B w r p X col) {a' : Option Addr} {c' : Nat} {l : List ByteArray} (hr : RowC B w col 3 9 1 a' l.length c' (flatT l)) (hl : GoodOnes okS l) :
  RcHas B w { r with wish := l } { p with aW := a', cW := c' } X col :=
 ⟨h.s, h.d, h.h, h.hm, h.hi, hr, h.y, h.b, h.a, h.am, h.ai, ⟨h.gd.s, h.gd.d, h.gd.h, hl, h.gd.y, h.gd.b, h.gd.a⟩⟩
theorem RcHas.set_y (h : RcHas B w r p X col) {a' : Option Addr} {c' : Nat} {l : List Int} (hr : RowC B w col 4 3 1 a' l.length c' (flatI l)) (hl : GoodOnes wfI l) :
  RcHas B w { r with yes := l } { p with aY := a', cY := c' } X col :=
 ⟨h.s, h.d, h.h, h.hm, h.hi, h.t, hr, h.b, h.a, h.am, h.ai, ⟨h.gd.s, h.gd.d, h.gd.h, h.gd.t, hl, h.gd.b, h.gd.a⟩⟩
theorem RcHas.set_b (h : RcHas B w r p X col) {a' : Option Addr} {c' : Nat} {l : List Sl} (hr : RowC B w col 5 43 2 a' l.length c' (flat l)) (hl : GoodSlots l) :
  RcHas B w { r with best := l } { p with aB := a', cB := c' } X col :=
 ⟨h.s, h.d, h.h, h.hm, h.hi, h.t, h.y, hr, h.a, h.am, h.ai, ⟨h.gd.s, h.gd.d, h.gd.h, h.gd.t, h.gd.y, hl, h.gd.a⟩⟩
theorem RcHas.set_a (h : RcHas B w r p X col) {a' : Option Addr} {c' : Nat} {l : List Ap} (hr : RowC B w col 6 69 2 a' l.length c' (flatA l)) (hi : InnA B w col 8 l) (hl : AcksGood (l.map (·.1))) :
  RcHas B w { r with acks := l.map (·.1) } { p with aA := a', cA := c' } ⟨X.H, l⟩ col :=
 ⟨h.s, h.d, h.h, h.hm, h.hi, h.t, h.y, h.b, (by rw [List.length_map]; exact hr), rfl, hi, ⟨h.gd.s, h.gd.d, h.gd.h, h.gd.t, h.gd.y, h.gd.b, hl⟩⟩
theorem RcHas.put_a (h : RcHas B w r p X col) {l : List Ap} (hln : l.length = r.acks.length) (hs : ∀ b, b < w.heap.size → col b ≠ 6 → w'.heap[b]? = w.heap[b]?) (ho : w'.ownsRow B 69 2 (.slice p.aA r.acks.length p.cA) r.acks.length (flatA l)) (hi : InnA B w col 8 l) (hl : AcksGood (l.map (·.1))) :
  RcHas B w' { r with acks := l.map (·.1) } p ⟨X.H, l⟩ col := by
 have k : ∀ {t : Nat} {e : TypeId} {k : Nat} {a : Option Addr} {n c : Nat} {xs : List Value}, t ≠ 6 → RowC B w col t e k a n c xs → RowC B w' col t e k a n c xs := fun ht h => h.same fun x hx => hs _ (h.lt x hx).2 (by rw [h.col x hx]; exact ht)
 have hr : RowC B w' col 6 69 2 p.aA l.length p.cA (flatA l) := by rw [hln]; exact ⟨ho, h.a.col⟩
 exact ⟨k (by decide) h.s, k (by decide) h.d, k (by decide) h.h, h.hm, ⟨fun m hm => k (by decide) (h.hi.row m hm), h.hi.apart⟩, k (by decide) h.t, k (by decide) h.y, k (by decide) h.b, (by rw [List.length_map]; exact hr), rfl, ⟨fun m hm => k (by decide) (hi.row m hm), hi.apart⟩, ⟨h.gd.s, h.gd.d, h.gd.h, h.gd.t, h.gd.y, h.gd.b, hl⟩⟩
def calmR (r : Rc) : Rc := { r with lead := false, tr := false, ball := 0, yes := [], best := [], acks := [] }
def riseR (r : Rc) (b : Int) : Rc := { r with dp := if r.dp < b then b else r.dp }
def hush (r : Rc) : Rc := { r with heard := 0 }
def followR (r : Rc) (b : Int) : Rc := hush (if b = r.ball then riseR r b else calmR (riseR r b))
def holdR (r : Rc) (m : MsgH) (l : List Sl) : Rc := if r.held.length < 400 then { r with held := r.held ++ [({ m with f := r.num }, l)] } else r
def padL (l : List Sl) (n : Nat) : List Sl := l ++ List.replicate (n - l.length) (0, ⟨#[]⟩)
def setL (l : List Sl) (i : Nat) (s : Sl) : List Sl := (padL l i).set (i - 1) s
def setR (r : Rc) (i : Nat) (s : Sl) : Rc := { r with ds := setL r.ds i s }
def addL : List Int → Int → List Int
 | [], n => [n]
 | x :: l, n => if x < n then x :: addL l n else if x = n then x :: l else n :: x :: l
theorem riseR_yes (h : r.dp < b) : riseR r b = { r with dp := b } := by simp [riseR, h]
theorem riseR_no (h : ¬ r.dp < b) : riseR r b = r := by simp [riseR, h]
theorem followR_own (h : b = r.ball) : followR r b = hush (riseR r b) := by simp [followR, h]
theorem followR_new (h : ¬ b = r.ball) : followR r b = hush (calmR (riseR r b)) := by simp [followR, h]
def Others (w : World) (col : Nat → Nat) (w' : World) (col' : Nat → Nat) : Prop := ∀ b, b < w.heap.size → 8 < col b → w'.heap[b]? = w.heap[b]? ∧ 8 < col' b
theorem Others.trans {w1 w2 : World} {col1 col2 : Nat → Nat} (h : Others w col w1 col1) (k : Others w1 col1 w2 col2) (hs : w.heap.size ≤ w1.heap.size) : Others w col w2 col2 := fun b hb hc => by
 obtain ⟨h1, h2⟩ := h b hb hc;obtain ⟨k1, k2⟩ := k b (by omega) h2;exact ⟨k1.trans h1, k2⟩
theorem Others.of (h : Below w.heap.size w w') (hc : ∀ b, b < w.heap.size → col' b = col b) : Others w col w' col' := fun b hb h8 => ⟨h.block b hb, by rw [hc b hb]; exact h8⟩
def TPost (B : Nat) (w : World) (col : Nat → Nat) (r' : Rc) (e : Ending) (w' : World) : Prop := ∃ p' X' col', e = .returned (.agg (rcV r' p')) ∧ RcHas B w' r' p' X' col' ∧ Below B w w' ∧ Others w col w' col'
theorem RcHas.like {r' : Rc} (h : RcHas B w r p X col) (e1 : r'.ss = r.ss) (e2 : r'.ds = r.ds) (e3 : r'.held = r.held) (e4 : r'.wish = r.wish) (e5 : r'.yes = r.yes) (e6 : r'.best = r.best) (e7 : r'.acks = r.acks) : RcHas B w r' p X col := by
 obtain ⟨a1, a2, a3, a4, a5, a6, a7, a8, a9, a10, a11, a12, a13, a14, a15, a16, a17, a18⟩ := r;obtain ⟨b1, b2, b3, b4, b5, b6, b7, b8, b9, b10, b11, b12, b13, b14, b15, b16, b17, b18⟩ := r';dsimp only at e1 e2 e3 e4 e5 e6 e7;subst e1 e2 e3 e4 e5 e6 e7;exact ⟨h.s, h.d, h.h, h.hm, h.hi, h.t, h.y, h.b, h.a, h.am, h.ai, ⟨h.gd.s, h.gd.d, h.gd.h, h.gd.t, h.gd.y, h.gd.b, h.gd.a⟩⟩
theorem RcHas.later (h : RcHas B w r p X col) (hb : Below w.heap.size w w') (hc : ∀ b, b < w.heap.size → col' b = col b) : RcHas B w' r p X col' := (h.recol hc).ext hb
theorem rowC_none {g : Nat} {t : Nat} (h : Blk w g #[] e) (hB : B ≤ g) (hc : col g = t) : RowC B w col t e k (some ⟨g, 0, none⟩) 0 0 [] :=
 ⟨⟨by simp, .inr ⟨g, 0, #[], rfl, hB, h, Nat.le_refl _, by unfold maxLen; omega, by simp, by simp⟩⟩, fun x hx => by simp only [Option.some.injEq] at hx; rw [← hx]; exact hc⟩
def col3 (n gY gB : Nat) (col : Nat → Nat) (b : Nat) : Nat := if b < n then col b else if b = gY then 4 else if b = gB then 5 else 6
theorem RcHas.calm {gY gB gA : Nat} (h : RcHas B w r p X col) (hb : Below w.heap.size w w') (hB : B ≤ w.heap.size) (hY : Blk w' gY #[] 3) (hBb : Blk w' gB #[] 43) (hA : Blk w' gA #[] 69) (l1 : w.heap.size ≤ gY) (l2 : gY < gB) (l3 : gB < gA) :
  RcHas B w' (calmR r) { p with aY := some ⟨gY, 0, none⟩, cY := 0, aB := some ⟨gB, 0, none⟩, cB := 0, aA := some ⟨gA, 0, none⟩, cA := 0 } ⟨X.H, []⟩ (col3 w.heap.size gY gB col) := by
 have h1 := h.later (col' := col3 w.heap.size gY gB col) hb (fun b hlt => if_pos hlt);have h2 := h1.set_y (l := []) (rowC_none (k := 1) hY (by omega) (by unfold col3; rw [if_neg (by omega), if_pos rfl])) (fun i s hs => by simp at hs);have h3 := h2.set_b (l := []) (rowC_none (k := 2) hBb (by omega) (by unfold col3; rw [if_neg (by omega), if_neg (by omega), if_pos rfl])) (fun i s hs => by simp at hs);have h4 := h3.set_a (l := []) (rowC_none (k := 2) hA (by omega) (by unfold col3; rw [if_neg (by omega), if_neg (by omega), if_neg (by omega)])) ⟨fun m hm => absurd hm (by simp), List.Pairwise.nil⟩ (fun i s hs => by simp at hs);exact h4.like rfl rfl rfl rfl rfl rfl rfl


end Go.Proofs.Ytjdceoimignnpaa
