import Derived.Test.YtjdceoimignnpaaF08
namespace Go.Proofs.Ytjdceoimignnpaa
open Go.ChangeShapes Go.WideShapes Go.ChangeAt Go.RowKit
set_option linter.unusedVariables false
set_option linter.unusedSimpArgs false
set_option maxHeartbeats 8000000
set_option maxRecDepth 20000
variable {t : ByteArray} {b : Int} {l : List Sl} {xs : List Value} {B c k n u : Nat} {col col' : Nat → Nat} {a a' : Option Addr} {r : Rc} {p : fU} {X : iU} {e : TypeId} {w w' : World}
def qo (t : ByteArray) (s : Sl) : Bool := decide (0 < s.1) && (s.2.toList == t.toList)
def iw (l : List Sl) (t : ByteArray) : Bool := l.any (qo t)
theorem Af {s : Sl} (hs : l[k]? = some s) (h : qo t s = true) : iw l t = true := List.any_eq_true.2 ⟨s, List.mem_of_getElem? hs, h⟩
theorem CS (hn : l.length = n) (h : ∀ (i : Nat) s, i < n → l[i]? = some s → qo t s = false) : iw l t = false := by
 unfold iw;rw [List.any_eq_false];intro s hs;obtain ⟨i, hi, rfl⟩ := List.getElem_of_mem hs;rw [h i _ (by omega) (List.getElem?_eq_getElem hi)];simp
theorem oG (a : Option Addr) (l : List Sl) (n cap : Nat) (t : ByteArray) (w : World) (hn : l.length = n) (hc : n ≤ maxLen) (h : cO w a l) :
  Calls Try.prog 102 #[.slice a n cap, .string t] w fun e w' => e = .returned (.bool (iw l t)) ∧ Below w.heap.size w w' := by
 unfold maxLen at hc;have HL : Hid (l.length = n) := hn;clear hn;go_enter Try.func102, Try.ntmps102;go_wp2;go_loopw [5] (fun i wr => ∃ (k : Nat), k ≤ n ∧ i = .int .i64 k ∧ (∀ (j : Nat) s, j < k → l[j]? = some s → qo t s = false) ∧ Below w.heap.size w wr) (fun i _ => n - (intOf i).toNat);case atStart => exact ⟨0, Nat.zero_le _, rfl, fun j s hj => absurd hj (by omega), Below.refl _ _⟩
 obtain ⟨k, hk, rfl, hall0, hbel⟩ := hrel;have hall : Hid (∀ (j : Nat) s, j < k → l[j]? = some s → qo t s = false) := hall0;clear hall0;by_cases hlt : k < n
 ·obtain ⟨s, hs0⟩ : ∃ s, l[k]? = some s := ⟨_, List.getElem?_eq_getElem (by rw [HL.out]; exact hlt)⟩
  have hs : Hid (l[k]? = some s) := hs0;obtain ⟨b, off, rfl, hb, c0, c1, _⟩ := (h.ext hbel) k s hs0;clear hs0;have e1 : (0 : Int) ≤ (k : Int) := by omega
  have e2 : (k : Int) < (n : Int) := by omega
  by_cases hp : 0 < s.1
  ·have u1 : decide ((0 : Int) < s.1) = true := decide_eq_true hp;cases hq : (s.2.toList == t.toList)
   ·go_wp2;go_roundw;case rel =>
     refine ⟨k + 1, by omega, by go_num, fun j u hj hu => ?_, hbel⟩;by_cases he : j = k
     ·subst he; rw [hs.out] at hu; simp only [Option.some.injEq] at hu; rw [← hu]; simp [qo, hq]
     exact hall.out j u (by omega) hu
    case measure => simp [intOf]; omega
   go_wp2;go_ret;exact ⟨by rw [Af hs.out (by simp [qo, hq, hp])]; rfl, hbel⟩
  have u1 : decide ((0 : Int) < s.1) = false := decide_eq_false hp;go_wp2;go_roundw;case rel =>
   refine ⟨k + 1, by omega, by go_num, fun j u hj hu => ?_, hbel⟩;by_cases he : j = k
   ·subst he; rw [hs.out] at hu; simp only [Option.some.injEq] at hu; rw [← hu]; simp [qo]; intro h9; omega
   exact hall.out j u (by omega) hu
  case measure => simp [intOf]; omega
 go_wp2;go_ret;exact ⟨by rw [CS HL.out (fun i s hi hs => hall.out i s (by omega) hs)]; rfl, hbel⟩
theorem cO.take (h : cO w a l) (k : Nat) : cO w a (l.take k) := fun i s hs => h i s (by
 have hi := (List.getElem?_eq_some_iff.1 hs).1;simp only [List.length_take] at hi;rw [List.getElem?_take_of_lt (by omega)] at hs
 exact hs)
def pU (r : Rc) (t : ByteArray) : Bool := inB (t.size : Int) 1 100 && decide (r.wish.length < 20) && !iw (r.ds.take r.dk.toNat) t && !hasB r.wish t
def iC (r : Rc) (t : ByteArray) : Rc := if pU r t = true then { r with wish := r.wish ++ [t] } else r
theorem DZ (h : pU r t = true) : iC r t = { r with wish := r.wish ++ [t] } := if_pos h
theorem qO (h : pU r t = false) : iC r t = r := by simp [iC, h]
def dm (n : Nat) (col : Nat → Nat) (b : Nat) : Nat := if b < n then col b else 9
theorem bn {b : Nat} (h : b < n) : dm n col b = col b := if_pos h
theorem bI {b : Nat} (h : n ≤ b) : dm n col b = 9 := if_neg (by omega)
theorem aG.jW (h : aG B w r p X col) (hc : ∀ b, b < w.heap.size → col' b = col b) : aG B w r p X col' :=
 ⟨h.s.jW hc, h.d.jW hc, h.h.jW hc, h.hm, h.hi.jW hc, h.t.jW hc, h.y.jW hc, h.b.jW hc, h.a.jW hc, h.am, h.ai.jW hc, h.gd⟩
theorem aG.fresh (h : aG B w r p X col) : aG B w r p X (dm w.heap.size col) := h.jW fun b hb => bn hb
def dM (a : Option Addr) (t : Nat) (col : Nat → Nat) (b : Nat) : Nat := if a.map (·.block) = some b then t else col b
theorem iL {t : Nat} {x : Addr} (h : a = some x) : dM a t col x.block = t := by unfold dM; rw [if_pos (by rw [h]; rfl)]
theorem eQ {t : Nat} {b : Nat} (h : ∀ x, a = some x → x.block ≠ b) : dM a t col b = col b := by
 unfold dM;rw [if_neg];intro e;simp only [Option.map_eq_some_iff] at e;obtain ⟨x, hx, he⟩ := e;exact h x hx he
theorem aO.grown {t : Nat} {sa : Option Addr} {m c0 : Nat} (h : aO B w col t e k a n c xs) (hu : ∀ y, sa = some y → col y.block = u) (hne : t ≠ u)
  (hg : w.grownBy w' (Value.slice sa m c0).ownBlock) (hn : dP w sa a') : aO B w' (dM a' u col) t e k a n c xs := by
 have far : ∀ x, a = some x → ∀ y, sa = some y → y.block ≠ x.block := fun x hx y hy he => by
  have h1 := h.col x hx;have h2 := hu y hy;rw [he] at h2;exact hne (h1.symm.trans h2)
 have h1 : aO B w' col t e k a n c xs := h.same fun x hx => hg.block _ (h.lt x hx).2 (by
  cases hs : sa with
  | none => simp [Value.ownBlock]
  | some y =>
   simp only [Value.ownBlock, ne_eq, Option.some.injEq]
   exact fun e => far x hx y hs e.symm)
 refine ⟨h1.own, fun x hx => (eQ fun z hz he => ?_).trans (h.col x hx)⟩;rcases hn z hz with ⟨y, hy, hyz⟩ | hnew
 ·exact far x hx y hy (hyz.trans he)
 have := (h.lt x hx).2;omega
theorem aG.Jw (h : aG B w r p X col) {a' : Option Addr} {c' : Nat} {l : List ByteArray} (hg : w.grownBy w' (Value.slice p.aW r.wish.length p.cW).ownBlock) (ho : w'.ownsRow B 9 1 (.slice a' l.length c') l.length (fH l)) (hn : dP w p.aW a') (hl : fJ okS l) :
  aG B w' { r with wish := l } { p with aW := a', cW := c' } X (dM a' 3 col) :=
 ⟨h.s.grown h.t.col (by decide) hg hn, h.d.grown h.t.col (by decide) hg hn, h.h.grown h.t.col (by decide) hg hn, h.hm, ⟨fun m hm => (h.hi.row m hm).grown h.t.col (by decide) hg hn, h.hi.apart⟩,
  ⟨ho, fun x hx => iL hx⟩, h.y.grown h.t.col (by decide) hg hn, h.b.grown h.t.col (by decide) hg hn, h.a.grown h.t.col (by decide) hg hn, h.am, ⟨fun m hm => (h.ai.row m hm).grown h.t.col (by decide) hg hn, h.ai.apart⟩,
  ⟨h.gd.s, h.gd.d, h.gd.h, hl, h.gd.y, h.gd.b, h.gd.a⟩⟩
theorem xx {l : List ByteArray} (h : fJ okS l) (ht : okS t) : fJ okS (l ++ [t]) := fun i s hs => by
 rcases Nat.lt_or_ge i l.length with hi | hi
 ·rw [List.getElem?_append_left hi] at hs; exact h i s hs
 rw [List.getElem?_append_right hi] at hs;have h9 := List.mem_of_getElem? hs;simp only [List.mem_cons, List.not_mem_nil, or_false] at h9;rw [h9]; exact ht
theorem aO.kG {t : Nat} (h : aO B w col t e k a n c xs) (ht : t ≤ 8) (hf : ∀ x, a' = some x → 8 < col x.block) : aO B w (dM a' u col) t e k a n c xs :=
 ⟨h.own, fun x hx => (eQ fun z hz he => by
  have h1 := hf z hz;have h2 := h.col x hx;rw [he] at h1
  omega).trans (h.col x hx)⟩
theorem aG.kG (h : aG B w r p X col) {a' : Option Addr} {u : Nat} (hf : ∀ x, a' = some x → 8 < col x.block) : aG B w r p X (dM a' u col) :=
 ⟨h.s.kG (by omega) hf, h.d.kG (by omega) hf, h.h.kG (by omega) hf, h.hm, ⟨fun m hm => (h.hi.row m hm).kG (by omega) hf, h.hi.apart⟩, h.t.kG (by omega) hf, h.y.kG (by omega) hf, h.b.kG (by omega) hf, h.a.kG (by omega) hf, h.am, ⟨fun m hm => (h.ai.row m hm).kG (by omega) hf, h.ai.apart⟩, h.gd⟩
theorem aG.JE (h : aG B w r p X col) {a' : Option Addr} {c' : Nat} {l : List Sl} (hr : aO B w col 0 43 2 a' l.length c' (flat l)) (hl : dE l) :
  aG B w { r with ss := l } { p with aS := a', cS := c' } X col :=
 ⟨hr, h.d, h.h, h.hm, h.hi, h.t, h.y, h.b, h.a, h.am, h.ai, ⟨hl, h.gd.d, h.gd.h, h.gd.t, h.gd.y, h.gd.b, h.gd.a⟩⟩
theorem aG.LP (h : aG B w r p X col) {a' : Option Addr} {c' : Nat} {l : List Sl} (hr : aO B w col 1 43 2 a' l.length c' (flat l)) (hl : dE l) :
  aG B w { r with ds := l } { p with aD := a', cD := c' } X col :=
 ⟨h.s, hr, h.h, h.hm, h.hi, h.t, h.y, h.b, h.a, h.am, h.ai, ⟨h.gd.s, hl, h.gd.h, h.gd.t, h.gd.y, h.gd.b, h.gd.a⟩⟩
theorem aG.Gv (h : aG B w r p X col) {a' : Option Addr} {c' : Nat} {l : List Sl} (hg : w.grownBy w' (Value.slice p.aD r.ds.length p.cD).ownBlock) (ho : w'.ownsRow B 43 2 (.slice a' l.length c') l.length (flat l)) (hn : dP w p.aD a') (hl : dE l) :
  aG B w' { r with ds := l } { p with aD := a', cD := c' } X (dM a' 1 col) :=
 ⟨h.s.grown h.d.col (by decide) hg hn, ⟨ho, fun x hx => iL hx⟩, h.h.grown h.d.col (by decide) hg hn, h.hm, ⟨fun m hm => (h.hi.row m hm).grown h.d.col (by decide) hg hn, h.hi.apart⟩, h.t.grown h.d.col (by decide) hg hn, h.y.grown h.d.col (by decide) hg hn, h.b.grown h.d.col (by decide) hg hn, h.a.grown h.d.col (by decide) hg hn, h.am, ⟨fun m hm => (h.ai.row m hm).grown h.d.col (by decide) hg hn, h.ai.apart⟩, ⟨h.gd.s, hl, h.gd.h, h.gd.t, h.gd.y, h.gd.b, h.gd.a⟩⟩
theorem aG.L9 (h : aG B w r p X col) {l : List Sl} (hln : l.length = r.ds.length) (hs : ∀ b, b < w.heap.size → col b ≠ 1 → w'.heap[b]? = w.heap[b]?) (ho : w'.ownsRow B 43 2 (.slice p.aD r.ds.length p.cD) r.ds.length (flat l)) (hl : dE l) :
  aG B w' { r with ds := l } p X col := by
 have k : ∀ {t : Nat} {e : TypeId} {k : Nat} {a : Option Addr} {n c : Nat} {xs : List Value}, t ≠ 1 → aO B w col t e k a n c xs → aO B w' col t e k a n c xs := fun ht h => h.same fun x hx => hs _ (h.lt x hx).2 (by rw [h.col x hx]; exact ht)
 have hr : aO B w' col 1 43 2 p.aD l.length p.cD (flat l) := by rw [hln]; exact ⟨ho, h.d.col⟩
 exact ⟨k (by decide) h.s, hr, k (by decide) h.h, h.hm, ⟨fun m hm => k (by decide) (h.hi.row m hm), h.hi.apart⟩, k (by decide) h.t, k (by decide) h.y, k (by decide) h.b, k (by decide) h.a, h.am, ⟨fun m hm => k (by decide) (h.ai.row m hm), h.ai.apart⟩, ⟨h.gd.s, hl, h.gd.h, h.gd.t, h.gd.y, h.gd.b, h.gd.a⟩⟩
theorem aG.MO (h : aG B w r p X col) {a' : Option Addr} {c' : Nat} {l : List Mp} (hr : aO B w col 2 49 8 a' l.length c' (bZ l)) (hi : qg B w col 7 l) (hl : kC (l.map (·.1))) :
  aG B w { r with held := l.map (·.1) } { p with aH := a', cH := c' } ⟨l, X.A⟩ col :=
 ⟨h.s, h.d, (by rw [List.length_map]; exact hr), rfl, hi, h.t, h.y, h.b, h.a, h.am, h.ai, ⟨h.gd.s, h.gd.d, hl, h.gd.t, h.gd.y, h.gd.b, h.gd.a⟩⟩
theorem aG.GV (h : aG B w r p X col) {a' : Option Addr} {c' : Nat} {l : List Mp} (hg : w.grownBy w' (Value.slice p.aH r.held.length p.cH).ownBlock) (ho : w'.ownsRow B 49 8 (.slice a' l.length c') l.length (bZ l)) (hn : dP w p.aH a') (hi : ∀ m ∈ l, aO B w col 7 43 2 m.2.1 m.1.2.length m.2.2 (flat m.1.2)) (hap : l.Pairwise (fun m m' => ∀ x x', m.2.1 = some x → m'.2.1 = some x' → x.block ≠ x'.block)) (hl : kC (l.map (·.1))) :
  aG B w' { r with held := l.map (·.1) } { p with aH := a', cH := c' } ⟨l, X.A⟩ (dM a' 2 col) :=
 ⟨h.s.grown h.h.col (by decide) hg hn, h.d.grown h.h.col (by decide) hg hn, (by rw [List.length_map]; exact ⟨ho, fun x hx => iL hx⟩), rfl, ⟨fun m hm => (hi m hm).grown h.h.col (by decide) hg hn, hap⟩, h.t.grown h.h.col (by decide) hg hn, h.y.grown h.h.col (by decide) hg hn, h.b.grown h.h.col (by decide) hg hn, h.a.grown h.h.col (by decide) hg hn, h.am, ⟨fun m hm => (h.ai.row m hm).grown h.h.col (by decide) hg hn, h.ai.apart⟩, ⟨h.gd.s, h.gd.d, hl, h.gd.t, h.gd.y, h.gd.b, h.gd.a⟩⟩
theorem aG.LX (h : aG B w r p X col) {a' : Option Addr} {c' : Nat} {l : List ByteArray} (hr : aO B w col 3 9 1 a' l.length c' (fH l)) (hl : fJ okS l) :
  aG B w { r with wish := l } { p with aW := a', cW := c' } X col :=
 ⟨h.s, h.d, h.h, h.hm, h.hi, hr, h.y, h.b, h.a, h.am, h.ai, ⟨h.gd.s, h.gd.d, h.gd.h, hl, h.gd.y, h.gd.b, h.gd.a⟩⟩
theorem aG.JK (h : aG B w r p X col) {a' : Option Addr} {c' : Nat} {l : List Int} (hr : aO B w col 4 3 1 a' l.length c' (aV l)) (hl : fJ ny l) :
  aG B w { r with yes := l } { p with aY := a', cY := c' } X col :=
 ⟨h.s, h.d, h.h, h.hm, h.hi, h.t, hr, h.b, h.a, h.am, h.ai, ⟨h.gd.s, h.gd.d, h.gd.h, h.gd.t, hl, h.gd.b, h.gd.a⟩⟩
theorem aG.J4 (h : aG B w r p X col) {a' : Option Addr} {c' : Nat} {l : List Int} (hg : w.grownBy w' (Value.slice p.aY r.yes.length p.cY).ownBlock) (ho : w'.ownsRow B 3 1 (.slice a' l.length c') l.length (aV l)) (hn : dP w p.aY a') (hl : fJ ny l) :
  aG B w' { r with yes := l } { p with aY := a', cY := c' } X (dM a' 4 col) :=
 ⟨h.s.grown h.y.col (by decide) hg hn, h.d.grown h.y.col (by decide) hg hn, h.h.grown h.y.col (by decide) hg hn, h.hm, ⟨fun m hm => (h.hi.row m hm).grown h.y.col (by decide) hg hn, h.hi.apart⟩, h.t.grown h.y.col (by decide) hg hn, ⟨ho, fun x hx => iL hx⟩, h.b.grown h.y.col (by decide) hg hn, h.a.grown h.y.col (by decide) hg hn, h.am, ⟨fun m hm => (h.ai.row m hm).grown h.y.col (by decide) hg hn, h.ai.apart⟩, ⟨h.gd.s, h.gd.d, h.gd.h, h.gd.t, hl, h.gd.b, h.gd.a⟩⟩
theorem aG.JM (h : aG B w r p X col) {a' : Option Addr} {c' : Nat} {l : List Sl} (hr : aO B w col 5 43 2 a' l.length c' (flat l)) (hl : dE l) :
  aG B w { r with best := l } { p with aB := a', cB := c' } X col :=
 ⟨h.s, h.d, h.h, h.hm, h.hi, h.t, h.y, hr, h.a, h.am, h.ai, ⟨h.gd.s, h.gd.d, h.gd.h, h.gd.t, h.gd.y, hl, h.gd.a⟩⟩
theorem aG.JX (h : aG B w r p X col) {a' : Option Addr} {c' : Nat} {l : List Sl} (hg : w.grownBy w' (Value.slice p.aB r.best.length p.cB).ownBlock) (ho : w'.ownsRow B 43 2 (.slice a' l.length c') l.length (flat l)) (hn : dP w p.aB a') (hl : dE l) :
  aG B w' { r with best := l } { p with aB := a', cB := c' } X (dM a' 5 col) :=
 ⟨h.s.grown h.b.col (by decide) hg hn, h.d.grown h.b.col (by decide) hg hn, h.h.grown h.b.col (by decide) hg hn, h.hm, ⟨fun m hm => (h.hi.row m hm).grown h.b.col (by decide) hg hn, h.hi.apart⟩, h.t.grown h.b.col (by decide) hg hn, h.y.grown h.b.col (by decide) hg hn, ⟨ho, fun x hx => iL hx⟩, h.a.grown h.b.col (by decide) hg hn, h.am, ⟨fun m hm => (h.ai.row m hm).grown h.b.col (by decide) hg hn, h.ai.apart⟩, ⟨h.gd.s, h.gd.d, h.gd.h, h.gd.t, h.gd.y, hl, h.gd.a⟩⟩
theorem aG.JG (h : aG B w r p X col) {a' : Option Addr} {c' : Nat} {l : List Ap} (hr : aO B w col 6 69 2 a' l.length c' (bi l)) (hi : uj B w col 8 l) (hl : jG (l.map (·.1))) :
  aG B w { r with acks := l.map (·.1) } { p with aA := a', cA := c' } ⟨X.H, l⟩ col :=
 ⟨h.s, h.d, h.h, h.hm, h.hi, h.t, h.y, h.b, (by rw [List.length_map]; exact hr), rfl, hi, ⟨h.gd.s, h.gd.d, h.gd.h, h.gd.t, h.gd.y, h.gd.b, hl⟩⟩
theorem aG.KR (h : aG B w r p X col) {a' : Option Addr} {c' : Nat} {l : List Ap} (hg : w.grownBy w' (Value.slice p.aA r.acks.length p.cA).ownBlock) (ho : w'.ownsRow B 69 2 (.slice a' l.length c') l.length (bi l)) (hn : dP w p.aA a') (hi : ∀ m ∈ l, aO B w col 8 3 1 m.2.1 m.1.2.length m.2.2 (aV m.1.2)) (hap : l.Pairwise (fun m m' => ∀ x x', m.2.1 = some x → m'.2.1 = some x' → x.block ≠ x'.block)) (hl : jG (l.map (·.1))) :
  aG B w' { r with acks := l.map (·.1) } { p with aA := a', cA := c' } ⟨X.H, l⟩ (dM a' 6 col) :=
 ⟨h.s.grown h.a.col (by decide) hg hn, h.d.grown h.a.col (by decide) hg hn, h.h.grown h.a.col (by decide) hg hn, h.hm, ⟨fun m hm => (h.hi.row m hm).grown h.a.col (by decide) hg hn, h.hi.apart⟩, h.t.grown h.a.col (by decide) hg hn, h.y.grown h.a.col (by decide) hg hn, h.b.grown h.a.col (by decide) hg hn, (by rw [List.length_map]; exact ⟨ho, fun x hx => iL hx⟩), rfl, ⟨fun m hm => (hi m hm).grown h.a.col (by decide) hg hn, hap⟩, ⟨h.gd.s, h.gd.d, h.gd.h, h.gd.t, h.gd.y, h.gd.b, hl⟩⟩
theorem aG.Ju (h : aG B w r p X col) {l : List Ap} (hln : l.length = r.acks.length) (hs : ∀ b, b < w.heap.size → col b ≠ 6 → w'.heap[b]? = w.heap[b]?) (ho : w'.ownsRow B 69 2 (.slice p.aA r.acks.length p.cA) r.acks.length (bi l)) (hi : uj B w col 8 l) (hl : jG (l.map (·.1))) :
  aG B w' { r with acks := l.map (·.1) } p ⟨X.H, l⟩ col := by
 have k : ∀ {t : Nat} {e : TypeId} {k : Nat} {a : Option Addr} {n c : Nat} {xs : List Value}, t ≠ 6 → aO B w col t e k a n c xs → aO B w' col t e k a n c xs := fun ht h => h.same fun x hx => hs _ (h.lt x hx).2 (by rw [h.col x hx]; exact ht)
 have hr : aO B w' col 6 69 2 p.aA l.length p.cA (bi l) := by rw [hln]; exact ⟨ho, h.a.col⟩
 exact ⟨k (by decide) h.s, k (by decide) h.d, k (by decide) h.h, h.hm, ⟨fun m hm => k (by decide) (h.hi.row m hm), h.hi.apart⟩, k (by decide) h.t, k (by decide) h.y, k (by decide) h.b, (by rw [List.length_map]; exact hr), rfl, ⟨fun m hm => k (by decide) (hi.row m hm), hi.apart⟩, ⟨h.gd.s, h.gd.d, h.gd.h, h.gd.t, h.gd.y, h.gd.b, hl⟩⟩
def aU (r : Rc) : Rc := { r with lead := false, tr := false, ball := 0, yes := [], best := [], acks := [] }
def kF (r : Rc) (b : Int) : Rc := { r with dp := if r.dp < b then b else r.dp }
def hush (r : Rc) : Rc := { r with heard := 0 }
def bJ (r : Rc) (b : Int) : Rc := hush (if b = r.ball then kF r b else aU (kF r b))
def dw (r : Rc) (m : gq) (l : List Sl) : Rc := if r.held.length < 400 then { r with held := r.held ++ [({ m with f := r.num }, l)] } else r
def zQ (l : List Sl) (n : Nat) : List Sl := l ++ List.replicate (n - l.length) (0, ⟨#[]⟩)
def nU (l : List Sl) (i : Nat) (s : Sl) : List Sl := (zQ l i).set (i - 1) s
def rC (r : Rc) (i : Nat) (s : Sl) : Rc := { r with ds := nU r.ds i s }
def dN : List Int → Int → List Int
 | [], n => [n]
 | x :: l, n => if x < n then x :: dN l n else if x = n then x :: l else n :: x :: l
theorem ru (h : r.dp < b) : kF r b = { r with dp := b } := by simp [kF, h]
theorem tq (h : ¬ r.dp < b) : kF r b = r := by simp [kF, h]
theorem vI (h : b = r.ball) : bJ r b = hush (kF r b) := by simp [bJ, h]
theorem uZ (h : ¬ b = r.ball) : bJ r b = hush (aU (kF r b)) := by simp [bJ, h]
def Others (w : World) (col : Nat → Nat) (w' : World) (col' : Nat → Nat) : Prop := ∀ b, b < w.heap.size → 8 < col b → w'.heap[b]? = w.heap[b]? ∧ 8 < col' b
theorem Others.trans {w1 w2 : World} {col1 col2 : Nat → Nat} (h : Others w col w1 col1) (k : Others w1 col1 w2 col2) (hs : w.heap.size ≤ w1.heap.size) : Others w col w2 col2 := fun b hb hc => by
 obtain ⟨h1, h2⟩ := h b hb hc;obtain ⟨k1, k2⟩ := k b (by omega) h2;exact ⟨k1.trans h1, k2⟩
theorem Others.of (h : Below w.heap.size w w') (hc : ∀ b, b < w.heap.size → col' b = col b) : Others w col w' col' := fun b hb h8 => ⟨h.block b hb, by rw [hc b hb]; exact h8⟩
def jH (B : Nat) (w : World) (col : Nat → Nat) (r' : Rc) (e : Ending) (w' : World) : Prop := ∃ p' X' col', e = .returned (.agg (au r' p')) ∧ aG B w' r' p' X' col' ∧ Below B w w' ∧ Others w col w' col'
theorem aG.like {r' : Rc} (h : aG B w r p X col) (e1 : r'.ss = r.ss) (e2 : r'.ds = r.ds) (e3 : r'.held = r.held) (e4 : r'.wish = r.wish) (e5 : r'.yes = r.yes) (e6 : r'.best = r.best) (e7 : r'.acks = r.acks) : aG B w r' p X col := by
 obtain ⟨a1, a2, a3, a4, a5, a6, a7, a8, a9, a10, a11, a12, a13, a14, a15, a16, a17, a18⟩ := r;obtain ⟨b1, b2, b3, b4, b5, b6, b7, b8, b9, b10, b11, b12, b13, b14, b15, b16, b17, b18⟩ := r';dsimp only at e1 e2 e3 e4 e5 e6 e7;subst e1 e2 e3 e4 e5 e6 e7;exact ⟨h.s, h.d, h.h, h.hm, h.hi, h.t, h.y, h.b, h.a, h.am, h.ai, ⟨h.gd.s, h.gd.d, h.gd.h, h.gd.t, h.gd.y, h.gd.b, h.gd.a⟩⟩
theorem aG.later (h : aG B w r p X col) (hb : Below w.heap.size w w') (hc : ∀ b, b < w.heap.size → col' b = col b) : aG B w' r p X col' := (h.jW hc).ext hb
theorem gI {g : Nat} {t : Nat} (h : aC w g #[] e) (hB : B ≤ g) (hc : col g = t) : aO B w col t e k (some ⟨g, 0, none⟩) 0 0 [] :=
 ⟨⟨by simp, .inr ⟨g, 0, #[], rfl, hB, h, Nat.le_refl _, by unfold maxLen; omega, by simp, by simp⟩⟩, fun x hx => by simp only [Option.some.injEq] at hx; rw [← hx]; exact hc⟩
def CJ (n gY gB : Nat) (col : Nat → Nat) (b : Nat) : Nat := if b < n then col b else if b = gY then 4 else if b = gB then 5 else 6
theorem aG.calm {gY gB gA : Nat} (h : aG B w r p X col) (hb : Below w.heap.size w w') (hB : B ≤ w.heap.size) (hY : aC w' gY #[] 3) (hBb : aC w' gB #[] 43) (hA : aC w' gA #[] 69) (l1 : w.heap.size ≤ gY) (l2 : gY < gB) (l3 : gB < gA) :
  aG B w' (aU r) { p with aY := some ⟨gY, 0, none⟩, cY := 0, aB := some ⟨gB, 0, none⟩, cB := 0, aA := some ⟨gA, 0, none⟩, cA := 0 } ⟨X.H, []⟩ (CJ w.heap.size gY gB col) := by
 have h1 := h.later (col' := CJ w.heap.size gY gB col) hb (fun b hlt => if_pos hlt);have h2 := h1.JK (l := []) (gI (k := 1) hY (by omega) (by unfold CJ; rw [if_neg (by omega), if_pos rfl])) (fun i s hs => by simp at hs);have h3 := h2.JM (l := []) (gI (k := 2) hBb (by omega) (by unfold CJ; rw [if_neg (by omega), if_neg (by omega), if_pos rfl])) (fun i s hs => by simp at hs);have h4 := h3.JG (l := []) (gI (k := 2) hA (by omega) (by unfold CJ; rw [if_neg (by omega), if_neg (by omega), if_neg (by omega)])) ⟨fun m hm => absurd hm (by simp), List.Pairwise.nil⟩ (fun i s hs => by simp at hs);exact h4.like rfl rfl rfl rfl rfl rfl rfl
def J9 (w : World) (n : Nat) (H : List Mp) (e : Ending) (w' : World) : Prop := ∃ a' c' H' mid, e = .returned (.slice a' n c') ∧ H'.map (·.1) = H.map (·.1) ∧ w.heap.size ≤ mid ∧ mid ≤ w'.heap.size ∧ aZ w.heap.size mid w' 49 8 a' n c' (bZ H') ∧ dR mid w'.heap.size w' H' ∧ Below w.heap.size w w'
theorem Fz (aH : Option Addr) (n cH : Nat) (H : List Mp) (w : World) (hr : aN w aH n cH 8 (bZ H)) (hl : H.length = n) (hc : n ≤ 1048576) (hi : JF w H) (hs : ∀ (k : Nat) m, H[k]? = some m → m.1.2.length ≤ 1048576) :
  Calls Try.prog 67 #[.slice aH n cH] w (J9 w n H) := by
 have HR0 := hid hr;have XH := hid hl;have HI0 := hid hi;have HS := hid hs;clear hr hl hi hs;go_enter Try.func67, Try.ntmps67;go_wp2_with fail;refine (Ls aH n cH (bZ H) _ HR0.out hc (mD _)).mono ?_;rintro e w3 ⟨aH', cH', rfl, oH, hb3⟩;have ZH := hid oH;have E3 := hid hb3;clear oH hb3;go_wp2_with fail;go_loopw [9] (fun i wr => ∃ (k : Nat) (H' : List Mp), k ≤ n ∧ i = .int .i64 k ∧ H'.map (·.1) = (H.take k).map (·.1) ∧ aZ w.heap.size w3.heap.size wr 49 8 aH' n cH' (bZ (H' ++ H.drop k)) ∧ dR w3.heap.size wr.heap.size wr H' ∧ Below w.heap.size w wr ∧ w3.heap.size ≤ wr.heap.size) (fun i _ => n - (intOf i).toNat);case atStart => exact ⟨0, [], Nat.zero_le _, rfl, by simp, ZH.out, dR.nil _ _ _, E3.out, Nat.le_refl _⟩
 obtain ⟨k, H', hk, rfl, hmap, hrow, hinn, hbel, hsz⟩ := hrel;have HM := hid hmap;have HR := hid hrow;have HI := hid hinn;have HB := hid hbel;have HZ0 := hid hsz;have LH := hid (show H'.length = k by have := congrArg List.length hmap; simp at this; have := XH.out; omega);clear hmap hrow hinn hbel hsz;by_cases hlt : k < n
 ·obtain ⟨m, hm0⟩ : ∃ m, H[k]? = some m := ⟨_, List.getElem?_eq_getElem (by rw [XH.out]; exact hlt)⟩
  have DR := hid (show H.drop k = m :: H.drop (k + 1) by
   obtain ⟨h1, h2⟩ := List.getElem?_eq_some_iff.1 hm0
   rw [← h2]; exact List.drop_eq_getElem_cons h1)
  have RM := hid hm0;have MI := hid (HI0.out.row m (List.mem_of_getElem? hm0)).read;have MS := hid (HS.out k m hm0);clear hm0;have row0 := HR.out;rw [DR.out] at row0;obtain ⟨g, e0, _, c7, _⟩ := (row0.row (B := 0) (col := fun _ => 0) (t := 0) (Nat.zero_le _) (fun _ _ _ => rfl)).jV (i := k) (m := m) (by rw [List.getElem?_append_right (by rw [LH.out]; omega), LH.out, Nat.sub_self]; rfl) (q := 7) (by omega) rfl;subst e0;have GL := hid (show w.heap.size ≤ g ∧ g < w3.heap.size from ⟨(row0.lo _ rfl).1, row0.hi _ rfl⟩);have RW := hid row0;clear row0;have e1 : (0 : Int) ≤ (k : Int) := by omega
  have e2 : (k : Int) < (n : Int) := by omega
  go_wp2_with fail;refine (copyS m.2.1 m.1.2.length m.2.2 (flat m.1.2) _ (MI.out.ext HB.out) MS.out (fM _)).mono ?_;rintro e z ⟨a9, c9, rfl, o9, hz⟩;have O9 := hid o9;have HZ := hid hz;have ZR := hid (RW.out.ext hz);clear o9 hz c7;have c9' : z.cell? ⟨g, k * 8 + 7, none⟩ = some (.slice m.2.1 m.1.2.length m.2.2) := by
   obtain ⟨g', e0, _, c7, _⟩ := (ZR.out.row (B := 0) (col := fun _ => 0) (t := 0) (Nat.zero_le _) (fun _ _ _ => rfl)).jV (i := k) (m := m) (by rw [List.getElem?_append_right (by rw [LH.out]; omega), LH.out, Nat.sub_self]; rfl) (q := 7) (by omega) rfl;simp only [Option.some.injEq, Addr.mk.injEq, and_true] at e0;rw [e0]; exact c7
  have f9 : z.frozen? ⟨g, k * 8 + 7, none⟩ = false := ZR.out.own.frozenAt _;go_wp2_with fail;go_roundw;case rel =>
   refine ⟨k + 1, H' ++ [(m.1, a9, c9)], by omega, by go_num, ?_, ?_, ?_, ?_, ?_⟩
   ·rw [List.map_append, HM.out, List.take_add_one, RM.out, List.map_append]; rfl
   ·have st := ZR.out.own.stored (k * 8 + 7) (.slice a9 m.1.2.length c9);rw [← LH.out, Ea, LH.out] at st;rw [List.append_assoc, List.singleton_append];exact ⟨st.1, ZR.out.hi⟩
   ·have := (HI.out.ext HZ.out).snoc (m := (m.1, a9, c9)) O9.out (by have := HZ0.out; omega) (Nat.le_refl _) HZ.out.size;have := this.set (q := ⟨g, k * 8 + 7, none⟩) (by have := GL.out; simp; omega) (.slice a9 m.1.2.length c9);simpa using this
   ·exact (HB.out.trans (HZ.out.mono (by have := E3.out.size; have := HZ0.out; omega))).setCell (by have := GL.out; simp; omega) _
   have := HZ0.out; have := HZ.out.size; simp; omega
  case measure => simp [intOf]; omega
 have hkk : k = n := by omega
 have HF := hid (show H'.map (·.1) = H.map (·.1) by rw [HM.out, hkk, ← XH.out, List.take_length])
 have HRf := hid (show aZ w.heap.size w3.heap.size wr 49 8 aH' n cH' (bZ H') by
  have h9 := HR.out;rw [hkk, List.drop_of_length_le (by rw [XH.out]; omega), List.append_nil] at h9
  exact h9)
 go_wp2_with fail;go_ret;exact ⟨aH', cH', H', w3.heap.size, rfl, HF.out, E3.out.size, HZ0.out, HRf.out, HI.out, HB.out⟩
end Go.Proofs.Ytjdceoimignnpaa
