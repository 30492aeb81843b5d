import Derived.Test.YtjdceoimignnpaaF00
import Derived.Deep.RegionHeld3
import Derived.Deep.SlicePairs
import Derived.Lib.SmallJoins
import Derived.WalkSmall
import Derived.Laws.OwnMore
import Derived.Deep.DeepAppendWide
import Derived.Deep.DeepAppendRoom
import Derived.OwnWalk
import Derived.Laws.CopyRow
namespace Go.Proofs.Ytjdceoimignnpaa
open Go.ChangeShapes Go.WideShapes Go.ChangeAt Go.RowKit Go.Deep Go.Joins
set_option linter.unusedVariables false
set_option linter.unusedSimpArgs false
set_option maxHeartbeats 8000000
set_option maxRecDepth 100000
variable {a : Option Addr} {y : Sl} {w w' : World}

def dE (l : List Sl) : Prop := ∀ (i : Nat) s, l[i]? = some s → s.2.size ≤ maxLen ∧ (Lit.int .i64 s.1).wf = true
theorem cO.good {l : List Sl} (h : cO w a l) : dE l := fun i s hs => by
 obtain ⟨b, off, _, _, _, _, r⟩ := h i s hs;exact r
structure gq where
 k : Int
 f : Int
 t : Int
 b : Int
 i : Int
 n : Int
 x : ByteArray
abbrev bU (h : gq) (v : Value) : Array Value := #[.int .i64 h.k, .int .i64 h.f, .int .i64 h.t, .int .i64 h.b, .int .i64 h.i, .int .i64 h.n, .string h.x, v]
def bY (h : gq) (of_ : Int) (l : List Sl) : Bool :=
 inB h.k 1 9 && inB h.f 1 of_ && inB h.t 1 of_ && inB h.b 0 1000000 && inB h.i 0 60 && inB h.n 0 60 && decide ((h.x.size : Int) ≤ 100) && bM l
theorem nY (h : gq) (of_ : Int) (a : Option Addr) (l : List Sl) (n cap : Nat) (w : World) (hn : l.length = n) (hc : n ≤ maxLen) (hx : h.x.size ≤ maxLen) (hs : cO w a l) :
  Calls Try.prog 26 #[.agg (bU h (.slice a n cap)), .int .i64 of_] w fun e w' => e = .returned (.bool (bY h of_ l)) ∧ Below w.heap.size w w' := by
 have HL : Hid (l.length = n) := hn;have HX : Hid (h.x.size ≤ maxLen) := hx;unfold maxLen at hx;clear hn;have hB : Below w.heap.size w (w.alloc (.cells (bU h (.slice a n cap)) 49)) := ae (Below.refl _ _) _;have hA := hs.ext hB;clear hs;cases g0 : inB h.k 1 9
 ·rw [show bY h of_ l = false by simp [bY, g0]];go_enter Try.func26, Try.ntmps26
  go_wp2_with (first
    | (go_at_call 37; refine (bF _ _ _ _).mono ?_; rintro e w' ⟨rfl, rfl⟩)
    | (go_at_call 40; refine (fD a l n cap _ HL.out hc hA).mono ?_; rintro e w9 ⟨rfl, rfl⟩))
  go_ret;exact ⟨rfl, hB⟩
 skip
 cases g1 : inB h.f 1 of_
 ·rw [show bY h of_ l = false by simp [bY, g0, g1]];go_enter Try.func26, Try.ntmps26
  go_wp2_with (first
   | (go_at_call 37; refine (bF _ _ _ _).mono ?_; rintro e w' ⟨rfl, rfl⟩)
   | (go_at_call 40; refine (fD a l n cap _ HL.out hc hA).mono ?_; rintro e w9 ⟨rfl, rfl⟩))
  go_ret;exact ⟨rfl, hB⟩
 skip
 cases g2 : inB h.t 1 of_
 ·rw [show bY h of_ l = false by simp [bY, g0, g1, g2]];go_enter Try.func26, Try.ntmps26
  go_wp2_with (first
  | (go_at_call 37; refine (bF _ _ _ _).mono ?_; rintro e w' ⟨rfl, rfl⟩)
  | (go_at_call 40; refine (fD a l n cap _ HL.out hc hA).mono ?_; rintro e w9 ⟨rfl, rfl⟩))
  go_ret;exact ⟨rfl, hB⟩
 skip
 cases g3 : inB h.b 0 1000000
 ·rw [show bY h of_ l = false by simp [bY, g0, g1, g2, g3]];go_enter Try.func26, Try.ntmps26
  go_wp2_with (first
 | (go_at_call 37; refine (bF _ _ _ _).mono ?_; rintro e w' ⟨rfl, rfl⟩)
 | (go_at_call 40; refine (fD a l n cap _ HL.out hc hA).mono ?_; rintro e w9 ⟨rfl, rfl⟩))
  go_ret;exact ⟨rfl, hB⟩
 skip
 cases g4 : inB h.i 0 60
 ·rw [show bY h of_ l = false by simp [bY, g0, g1, g2, g3, g4]];go_enter Try.func26, Try.ntmps26
  go_wp2_with (first
 | (go_at_call 37; refine (bF _ _ _ _).mono ?_; rintro e w' ⟨rfl, rfl⟩)
 | (go_at_call 40; refine (fD a l n cap _ HL.out hc hA).mono ?_; rintro e w9 ⟨rfl, rfl⟩))
  go_ret;exact ⟨rfl, hB⟩
 skip
 cases g5 : inB h.n 0 60
 ·rw [show bY h of_ l = false by simp [bY, g0, g1, g2, g3, g4, g5]];go_enter Try.func26, Try.ntmps26
  go_wp2_with (first
 | (go_at_call 37; refine (bF _ _ _ _).mono ?_; rintro e w' ⟨rfl, rfl⟩)
 | (go_at_call 40; refine (fD a l n cap _ HL.out hc hA).mono ?_; rintro e w9 ⟨rfl, rfl⟩))
  go_ret;exact ⟨rfl, hB⟩
 skip
 by_cases g6 : (h.x.size : Int) ≤ 100
 ·rw [show bY h of_ l = bM l by simp [bY, g0, g1, g2, g3, g4, g5, g6]];cases g7 : bM l
  ·go_enter Try.func26, Try.ntmps26
   go_wp2_with (first
 | (go_at_call 37; refine (bF _ _ _ _).mono ?_; rintro e w' ⟨rfl, rfl⟩)
 | (go_at_call 40; refine (fD a l n cap _ HL.out hc hA).mono ?_; rintro e w9 ⟨rfl, rfl⟩))
   go_ret;exact ⟨rfl, hB⟩
  go_enter Try.func26, Try.ntmps26
  go_wp2_with (first
 | (go_at_call 37; refine (bF _ _ _ _).mono ?_; rintro e w' ⟨rfl, rfl⟩)
 | (go_at_call 40; refine (fD a l n cap _ HL.out hc hA).mono ?_; rintro e w9 ⟨rfl, rfl⟩))
  go_ret;exact ⟨rfl, hB⟩
 rw [show bY h of_ l = false by simp [bY, g6]];go_enter Try.func26, Try.ntmps26
 go_wp2_with (first
 | (go_at_call 37; refine (bF _ _ _ _).mono ?_; rintro e w' ⟨rfl, rfl⟩)
 | (go_at_call 40; refine (fD a l n cap _ HL.out hc hA).mono ?_; rintro e w9 ⟨rfl, rfl⟩))
 go_ret;exact ⟨rfl, hB⟩
theorem yj (h : gq) (of_ : Int) (a : Option Addr) (l : List Sl) (n cap : Nat) (w : World) (hn : l.length = n) (hc : n ≤ maxLen) (hx : h.x.size ≤ maxLen) (hs : cO w a l) :
  Calls Try.prog 25 #[.agg (bU h (.slice a n cap)), .int .i64 of_] w fun e w' => e = .returned (.bool (bY h of_ l)) ∧ Below w.heap.size w w' := by
 have HL : Hid (l.length = n) := hn;have HX : Hid (h.x.size ≤ maxLen) := hx;unfold maxLen at hx;clear hn;have hB : Below w.heap.size w (w.alloc (.cells (bU h (.slice a n cap)) 49)) := ae (Below.refl _ _) _;have hA := hs.ext hB;clear hs;cases g0 : inB h.k 1 9
 ·rw [show bY h of_ l = false by simp [bY, g0]];go_enter Try.func25, Try.ntmps25
  go_wp2_with (first
    | (go_at_call 46; refine (cZ _ _ _ _).mono ?_; rintro e w' ⟨rfl, rfl⟩)
    | (go_at_call 48; refine (dH a l n cap _ HL.out hc hA).mono ?_; rintro e w9 ⟨rfl, hb9⟩))
  go_ret;exact ⟨rfl, hB⟩
 skip
 cases g1 : inB h.f 1 of_
 ·rw [show bY h of_ l = false by simp [bY, g0, g1]];go_enter Try.func25, Try.ntmps25
  go_wp2_with (first
   | (go_at_call 46; refine (cZ _ _ _ _).mono ?_; rintro e w' ⟨rfl, rfl⟩)
   | (go_at_call 48; refine (dH a l n cap _ HL.out hc hA).mono ?_; rintro e w9 ⟨rfl, hb9⟩))
  go_ret;exact ⟨rfl, hB⟩
 skip
 cases g2 : inB h.t 1 of_
 ·rw [show bY h of_ l = false by simp [bY, g0, g1, g2]];go_enter Try.func25, Try.ntmps25
  go_wp2_with (first
  | (go_at_call 46; refine (cZ _ _ _ _).mono ?_; rintro e w' ⟨rfl, rfl⟩)
  | (go_at_call 48; refine (dH a l n cap _ HL.out hc hA).mono ?_; rintro e w9 ⟨rfl, hb9⟩))
  go_ret;exact ⟨rfl, hB⟩
 skip
 cases g3 : inB h.b 0 1000000
 ·rw [show bY h of_ l = false by simp [bY, g0, g1, g2, g3]];go_enter Try.func25, Try.ntmps25
  go_wp2_with (first
 | (go_at_call 46; refine (cZ _ _ _ _).mono ?_; rintro e w' ⟨rfl, rfl⟩)
 | (go_at_call 48; refine (dH a l n cap _ HL.out hc hA).mono ?_; rintro e w9 ⟨rfl, hb9⟩))
  go_ret;exact ⟨rfl, hB⟩
 skip
 cases g4 : inB h.i 0 60
 ·rw [show bY h of_ l = false by simp [bY, g0, g1, g2, g3, g4]];go_enter Try.func25, Try.ntmps25
  go_wp2_with (first
 | (go_at_call 46; refine (cZ _ _ _ _).mono ?_; rintro e w' ⟨rfl, rfl⟩)
 | (go_at_call 48; refine (dH a l n cap _ HL.out hc hA).mono ?_; rintro e w9 ⟨rfl, hb9⟩))
  go_ret;exact ⟨rfl, hB⟩
 skip
 cases g5 : inB h.n 0 60
 ·rw [show bY h of_ l = false by simp [bY, g0, g1, g2, g3, g4, g5]];go_enter Try.func25, Try.ntmps25
  go_wp2_with (first
 | (go_at_call 46; refine (cZ _ _ _ _).mono ?_; rintro e w' ⟨rfl, rfl⟩)
 | (go_at_call 48; refine (dH a l n cap _ HL.out hc hA).mono ?_; rintro e w9 ⟨rfl, hb9⟩))
  go_ret;exact ⟨rfl, hB⟩
 skip
 by_cases g6 : (h.x.size : Int) ≤ 100
 ·rw [show bY h of_ l = bM l by simp [bY, g0, g1, g2, g3, g4, g5, g6]];cases g7 : bM l
  ·go_enter Try.func25, Try.ntmps25
   go_wp2_with (first
 | (go_at_call 46; refine (cZ _ _ _ _).mono ?_; rintro e w' ⟨rfl, rfl⟩)
 | (go_at_call 48; refine (dH a l n cap _ HL.out hc hA).mono ?_; rintro e w9 ⟨rfl, hb9⟩))
   go_ret;exact ⟨rfl, aj hB hb9⟩
  go_enter Try.func25, Try.ntmps25
  go_wp2_with (first
 | (go_at_call 46; refine (cZ _ _ _ _).mono ?_; rintro e w' ⟨rfl, rfl⟩)
 | (go_at_call 48; refine (dH a l n cap _ HL.out hc hA).mono ?_; rintro e w9 ⟨rfl, hb9⟩))
  go_ret;exact ⟨rfl, aj hB hb9⟩
 rw [show bY h of_ l = false by simp [bY, g6]];go_enter Try.func25, Try.ntmps25
 go_wp2_with (first
 | (go_at_call 46; refine (cZ _ _ _ _).mono ?_; rintro e w' ⟨rfl, rfl⟩)
 | (go_at_call 48; refine (dH a l n cap _ HL.out hc hA).mono ?_; rintro e w9 ⟨rfl, hb9⟩))
 go_ret;exact ⟨rfl, hB⟩


def xk {α : Type} (enc : α → Value) (good : α → Prop) (w : World) (a : Option Addr) (l : List α) : Prop :=
 ∀ (i : Nat) s, l[i]? = some s → ∃ b off, a = some ⟨b, off, none⟩ ∧ b < w.heap.size ∧ w.cell? ⟨b, off + i, none⟩ = some (enc s) ∧ good s
theorem xk.ext {α : Type} {enc : α → Value} {good : α → Prop} {w w' : World} {a : Option Addr} {l : List α} (h : xk enc good w a l) (hb : Below w.heap.size w w') : xk enc good w' a l := fun i s hs => by
 obtain ⟨b, off, ha, hlt, c0, r⟩ := h i s hs;exact ⟨b, off, ha, Nat.lt_of_lt_of_le hlt hb.size, (hb.cell (p := ⟨b, off + i, none⟩) hlt).trans c0, r⟩
def fJ {α : Type} (good : α → Prop) (l : List α) : Prop := ∀ (i : Nat) s, l[i]? = some s → good s
theorem xk.good {α : Type} {enc : α → Value} {good : α → Prop} {w : World} {a : Option Addr} {l : List α} (h : xk enc good w a l) : fJ good l := fun i s hs => by
 obtain ⟨b, off, _, _, _, r⟩ := h i s hs;exact r
def ny (z : Int) : Prop := (Lit.int .i64 z).wf = true
def okS (t : ByteArray) : Prop := t.size ≤ maxLen
abbrev pG (w : World) (a : Option Addr) (l : List Int) : Prop := xk (fun z => Value.int .i64 z) ny w a l
abbrev kX (w : World) (a : Option Addr) (l : List ByteArray) : Prop := xk (fun t => Value.string t) okS w a l
abbrev Ak := Int × List Int
def nP (w : World) (a : Option Addr) (l : List Ak) : Prop :=
 ∀ (i : Nat) s, l[i]? = some s → ∃ b off sa cap, a = some ⟨b, off, none⟩ ∧ b < w.heap.size ∧ w.cell? ⟨b, off + i * 2, none⟩ = some (.int .i64 s.1) ∧ w.cell? ⟨b, off + i * 2 + 1, none⟩ = some (.slice sa s.2.length cap) ∧ ny s.1 ∧ s.2.length ≤ maxLen ∧ pG w sa s.2
variable {l : List Ak}
theorem nP.ext (h : nP w a l) (hb : Below w.heap.size w w') : nP w' a l := fun i s hs => by
 obtain ⟨b, off, sa, cap, ha, hlt, c0, c1, h1, h2, h3⟩ := h i s hs;exact ⟨b, off, sa, cap, ha, Nat.lt_of_lt_of_le hlt hb.size, (hb.cell (p := ⟨b, off + i * 2, none⟩) hlt).trans c0, (hb.cell (p := ⟨b, off + i * 2 + 1, none⟩) hlt).trans c1, h1, h2, h3.ext hb⟩
def jG (l : List Ak) : Prop := ∀ (i : Nat) s, l[i]? = some s → ny s.1 ∧ s.2.length ≤ maxLen ∧ fJ ny s.2
theorem nP.good (h : nP w a l) : jG l := fun i s hs => by
 obtain ⟨b, off, sa, cap, ha, hlt, c0, c1, h1, h2, h3⟩ := h i s hs;exact ⟨h1, h2, h3.good⟩
def jL (l : List Ak) : Prop := ∀ (i : Nat) s, l[i]? = some s → s.2.length ≤ 1048576
abbrev Ms := gq × List Sl
def jB (w : World) (a : Option Addr) (l : List Ms) : Prop :=
 ∀ (i : Nat) s, l[i]? = some s → ∃ b off sa cap, a = some ⟨b, off, none⟩ ∧ b < w.heap.size ∧ w.cell? ⟨b, off + i * 8, none⟩ = some (.int .i64 s.1.k) ∧ w.cell? ⟨b, off + i * 8 + 1, none⟩ = some (.int .i64 s.1.f) ∧ w.cell? ⟨b, off + i * 8 + 2, none⟩ = some (.int .i64 s.1.t) ∧ w.cell? ⟨b, off + i * 8 + 3, none⟩ = some (.int .i64 s.1.b) ∧ w.cell? ⟨b, off + i * 8 + 4, none⟩ = some (.int .i64 s.1.i) ∧ w.cell? ⟨b, off + i * 8 + 5, none⟩ = some (.int .i64 s.1.n) ∧ w.cell? ⟨b, off + i * 8 + 6, none⟩ = some (.string s.1.x) ∧ w.cell? ⟨b, off + i * 8 + 7, none⟩ = some (.slice sa s.2.length cap) ∧ s.1.x.size ≤ maxLen ∧ s.2.length ≤ maxLen ∧ cO w sa s.2
theorem jB.ext {l : List Ms} (h : jB w a l) (hb : Below w.heap.size w w') : jB w' a l := fun i s hs => by
 obtain ⟨b, off, sa, cap, ha, hlt, c0, c1, c2, c3, c4, c5, c6, c7, h1, h2, h3⟩ := h i s hs;exact ⟨b, off, sa, cap, ha, Nat.lt_of_lt_of_le hlt hb.size, (hb.cell (p := ⟨b, off + i * 8, none⟩) hlt).trans c0, (hb.cell (p := ⟨b, off + i * 8 + 1, none⟩) hlt).trans c1, (hb.cell (p := ⟨b, off + i * 8 + 2, none⟩) hlt).trans c2, (hb.cell (p := ⟨b, off + i * 8 + 3, none⟩) hlt).trans c3, (hb.cell (p := ⟨b, off + i * 8 + 4, none⟩) hlt).trans c4, (hb.cell (p := ⟨b, off + i * 8 + 5, none⟩) hlt).trans c5, (hb.cell (p := ⟨b, off + i * 8 + 6, none⟩) hlt).trans c6, (hb.cell (p := ⟨b, off + i * 8 + 7, none⟩) hlt).trans c7, h1, h2, h3.ext hb⟩
def kC (l : List Ms) : Prop := ∀ (i : Nat) s, l[i]? = some s → s.1.x.size ≤ maxLen ∧ s.2.length ≤ maxLen ∧ dE s.2
theorem jB.good {l : List Ms} (h : jB w a l) : kC l := fun i s hs => by
 obtain ⟨b, off, sa, cap, ha, hlt, c0, c1, c2, c3, c4, c5, c6, c7, h1, h2, h3⟩ := h i s hs;exact ⟨h1, h2, h3.good⟩
def jw (l : List Ms) : Prop := ∀ (i : Nat) s, l[i]? = some s → s.2.length ≤ 1048576
structure Rc where
 num : Int
 of_ : Int
 up : Bool
 sp : Int
 sk : Int
 ss : List Sl
 dp : Int
 dk : Int
 ds : List Sl
 held : List Ms
 wish : List ByteArray
 lead : Bool
 tr : Bool
 ball : Int
 yes : List Int
 best : List Sl
 acks : List Ak
 heard : Int
structure fU where
 aS : Option Addr
 cS : Nat
 aD : Option Addr
 cD : Nat
 aH : Option Addr
 cH : Nat
 aW : Option Addr
 cW : Nat
 aY : Option Addr
 cY : Nat
 aB : Option Addr
 cB : Nat
 aA : Option Addr
 cA : Nat
abbrev au (r : Rc) (p : fU) : Array Value := #[.int .i64 r.num, .int .i64 r.of_, .bool r.up, .int .i64 r.sp, .int .i64 r.sk, .slice p.aS r.ss.length p.cS, .int .i64 r.dp, .int .i64 r.dk, .slice p.aD r.ds.length p.cD, .slice p.aH r.held.length p.cH, .slice p.aW r.wish.length p.cW, .bool r.lead, .bool r.tr, .int .i64 r.ball, .slice p.aY r.yes.length p.cY, .slice p.aB r.best.length p.cB, .slice p.aA r.acks.length p.cA, .int .i64 r.heard]
structure oL (w : World) (r : Rc) (p : fU) : Prop where
 hS : cO w p.aS r.ss
 lS : r.ss.length ≤ maxLen
 hD : cO w p.aD r.ds
 lD : r.ds.length ≤ maxLen
 hH : jB w p.aH r.held
 lH : r.held.length ≤ maxLen
 hW : kX w p.aW r.wish
 lW : r.wish.length ≤ maxLen
 hY : pG w p.aY r.yes
 lY : r.yes.length ≤ maxLen
 hB : cO w p.aB r.best
 lB : r.best.length ≤ maxLen
 hA : nP w p.aA r.acks
 lA : r.acks.length ≤ maxLen
theorem oL.ext {r : Rc} {p : fU} (h : oL w r p) (hb : Below w.heap.size w w') : oL w' r p :=
 ⟨h.hS.ext hb, h.lS, h.hD.ext hb, h.lD, h.hH.ext hb, h.lH, h.hW.ext hb, h.lW, h.hY.ext hb, h.lY, h.hB.ext hb, h.lB, h.hA.ext hb, h.lA⟩
structure bD (r : Rc) : Prop where
 lS : r.ss.length ≤ 1048576
 lD : r.ds.length ≤ 1048576
 lH : r.held.length ≤ 1048576
 lW : r.wish.length ≤ 1048576
 lY : r.yes.length ≤ 1048576
 lB : r.best.length ≤ 1048576
 lA : r.acks.length ≤ 1048576
 nH : jw r.held
 nA : jL r.acks
theorem af {ops : Array Oper} {rest : List Oper} {dst : Option Tmp} {x y : Operand} {τ : TypeId} {pos : String} {after : Array Edge} {a : Act} {w : World} {Q : Exit → Act → World → Prop}
  (g : Nat) (old cells : Array Value) (hs : cells.size = 18) (ho : old.size = 18) (hx : a.eval x = .pointer (some ⟨g, 0, none⟩)) (hy : a.eval y = .agg cells) (hg : aC w g old 31) (h1 : cells.all (·.oneCell') = true)
  (h : wpList Try.prog ops Q rest (a.put dst undef) (w.setRow g cells)) :
  wpList Try.prog ops Q ({ dst := dst, op := .store 31 x y, type := τ, pos := pos, after := after, guard := none } :: rest) a w :=
 wpList_store_row (o := { dst := dst, op := .store 31 x y, type := τ, pos := pos, after := after, guard := none }) rfl 31 x y rfl g cells hx hy 31 old hg (by rw [hs]; kernel_rfl) (by rw [ho, hs]) h1 h
theorem ay {B : Nat} {a : World} (h : Below B a w) {g : Nat} (hg : B ≤ g) (cs : Array Value) : Below B a (w.setRow g cs) :=
 h.trans ⟨rfl, rfl, rfl, by simp, fun k hk => setRow_other w g k cs (by omega)⟩

theorem hid {p : Prop} (h : p) : Hid p := h
def flat : List Sl → List Value
 | [] => []
 | s :: l => .int .i64 s.1 :: .string s.2 :: flat l
theorem qm : ∀ (l : List Sl), (flat l).length = l.length * 2
 | [] => rfl
 | s :: l => by simp [flat, qm l]; omega
theorem lm : ∀ (a b : List Sl), flat (a ++ b) = flat a ++ flat b
 | [], b => rfl
 | s :: l, b => by simp [flat, lm l b]
theorem iY : ∀ (l : List Sl) (i : Nat) (s : Sl), l[i]? = some s → (flat l)[i * 2]? = some (.int .i64 s.1) ∧ (flat l)[i * 2 + 1]? = some (.string s.2)
 | [], i, s, h => by simp at h
 | x :: l, 0, s, h => by simp at h; subst h; simp [flat]
 | x :: l, i + 1, s, h => by
  have := iY l i s (by simpa using h);rw [show (i + 1) * 2 = i * 2 + 1 + 1 by omega];simpa [flat] using this
theorem wR : ∀ (l : List Sl) (k : Nat) (s : Sl), flat (l.set k s) = ((flat l).set (k * 2) (.int .i64 s.1)).set (k * 2 + 1) (.string s.2)
 | [], k, s => by simp [flat]
 | x :: l, 0, s => by simp [flat]
 | x :: l, k + 1, s => by
  rw [show (k + 1) * 2 = k * 2 + 1 + 1 by omega];simp [flat, wR l k s]
theorem fM : ∀ (l : List Sl) (u : Value), u ∈ flat l → u.oneCell' = true
 | [], u, h => by simp [flat] at h
 | s :: l, u, h => by
  simp only [flat, List.mem_cons] at h;rcases h with rfl | rfl | h
  ·rfl
  ·rfl
  exact fM l u h
theorem yg : ∀ (l : List Sl) (k : Nat), flat (l.take k) = (flat l).take (k * 2)
 | [], k => by simp [flat]
 | s :: l, 0 => by simp [flat]
 | s :: l, k + 1 => by
  rw [show (k + 1) * 2 = k * 2 + 1 + 1 by omega];simp [flat, yg l k]
theorem yE : ∀ (l : List Sl) (k : Nat), flat (l.drop k) = (flat l).drop (k * 2)
 | [], k => by simp [flat]
 | s :: l, 0 => by simp [flat]
 | s :: l, k + 1 => by
  rw [show (k + 1) * 2 = k * 2 + 1 + 1 by omega];simp [flat, yE l k]
def mM (a b : List Sl) (i : Nat) : Sl :=
 match a[i]?, b[i]? with
 | some x, some y => if x.1 < y.1 then y else x
 | some x, none => x
 | none, some y => y
 | none, none => (0, ByteArray.empty)
def dY (a b : List Sl) : List Sl := (List.range (max a.length b.length)).map (mM a b)
theorem kT (a b : List Sl) : (dY a b).length = max a.length b.length := by simp [dY]
theorem jq (a b : List Sl) (i : Nat) : (dY a b)[i]? = if i < max a.length b.length then some (mM a b i) else none := by
 unfold dY;split
 ·rename_i h; simp [List.getElem?_map, List.getElem?_range h]
 rename_i h; rw [List.getElem?_eq_none (by simp; omega)]
theorem BI (a : List Sl) : dY a [] = a := by
 apply List.ext_getElem?;intro i;rw [jq];by_cases hi : i < a.length
 ·simp [mM, hi]
 simp [hi]
theorem BX {a b : List Sl} {k : Nat} (hk : a.length ≤ k) (hy : b[k]? = some y) : dY a (b.take (k + 1)) = dY a (b.take k) ++ [y] := by
 have hb : k < b.length := (List.getElem?_eq_some_iff.1 hy).1;apply List.ext_getElem?;intro i;rw [List.getElem?_append, jq, kT];simp only [List.length_take];have e1 : max a.length (min (k + 1) b.length) = k + 1 := by omega
 have e2 : max a.length (min k b.length) = k := by omega
 rw [e1, e2];by_cases h1 : i < k
 ·rw [if_pos (by omega), if_pos h1, jq];simp only [List.length_take];rw [e2, if_pos h1];simp [mM, List.getElem?_take, h1, show i < k + 1 by omega]
 rw [if_neg h1];by_cases h2 : i = k
 ·subst h2;simp [mM, List.getElem?_take, hy, List.getElem?_eq_none hk]
 rw [if_neg (by omega), List.getElem?_eq_none (by simp; omega)]
theorem Ag {a b : List Sl} {k : Nat} {x : Sl} (hx : a[k]? = some x) (hy : b[k]? = some y) (h : ¬ x.1 < y.1) : dY a (b.take (k + 1)) = dY a (b.take k) := by
 have ha : k < a.length := (List.getElem?_eq_some_iff.1 hx).1;have hb : k < b.length := (List.getElem?_eq_some_iff.1 hy).1;apply List.ext_getElem?;intro i;rw [jq, jq];simp only [List.length_take];have e1 : max a.length (min (k + 1) b.length) = a.length := by omega
 have e2 : max a.length (min k b.length) = a.length := by omega
 rw [e1, e2];by_cases h1 : i < a.length
 ·rw [if_pos h1, if_pos h1];by_cases h2 : i = k
  ·subst h2;simp [mM, List.getElem?_take, hy, hx, h]
  by_cases h3 : i < k
  ·simp [mM, List.getElem?_take, h3, show i < k + 1 by omega]
  simp [mM, List.getElem?_take, h3, show ¬ i < k + 1 by omega]
 rw [if_neg h1, if_neg h1]
theorem Bv {a b : List Sl} {k : Nat} {x : Sl} (hx : a[k]? = some x) (hy : b[k]? = some y) (h : x.1 < y.1) : dY a (b.take (k + 1)) = (dY a (b.take k)).set k y := by
 have ha : k < a.length := (List.getElem?_eq_some_iff.1 hx).1;have hb : k < b.length := (List.getElem?_eq_some_iff.1 hy).1;apply List.ext_getElem?;intro i;rw [List.getElem?_set, jq, jq, kT];simp only [List.length_take];have e1 : max a.length (min (k + 1) b.length) = a.length := by omega
 have e2 : max a.length (min k b.length) = a.length := by omega
 rw [e1, e2];by_cases h1 : i < a.length
 ·rw [if_pos h1];by_cases h2 : i = k
  ·subst h2;have ht : (b.take (i + 1))[i]? = some y := by rw [List.getElem?_take_of_lt (by omega)]; exact hy
   rw [if_pos rfl, if_pos h1];simp only [mM, hx, ht, if_pos h]
  rw [if_neg (by omega), if_pos h1];by_cases h3 : i < k
  ·simp [mM, List.getElem?_take, h3, show i < k + 1 by omega]
  simp [mM, List.getElem?_take, h3, show ¬ i < k + 1 by omega]
 rw [if_neg h1, if_neg (by omega), if_neg h1]
theorem BJ {a b : List Sl} {k : Nat} {x : Sl} (hx : a[k]? = some x) : (dY a (b.take k))[k]? = some x := by
 have ha : k < a.length := (List.getElem?_eq_some_iff.1 hx).1;rw [jq, if_pos (by omega)];simp [mM, hx, List.getElem?_take]
theorem Az (a b : List Sl) {k : Nat} (h : b.length ≤ k) : dY a (b.take k) = dY a b := by rw [List.take_of_length_le h]
theorem zS {a b : List Sl} (ha : dE a) (hb : dE b) : dE (dY a b) := fun i s hs => by
 rw [jq] at hs;split at hs
 ·simp only [Option.some.injEq] at hs;unfold mM at hs;cases hx : a[i]? with
  | some x =>
   cases hy : b[i]? with
   | some y =>
    simp only [hx, hy] at hs;split at hs
    ·subst hs; exact hb i _ hy
    subst hs; exact ha i _ hx
   | none => simp only [hx, hy] at hs; subst hs; exact ha i _ hx
  | none =>
   cases hy : b[i]? with
   | some y => simp only [hx, hy] at hs; subst hs; exact hb i _ hy
   | none =>
    rename_i h;rw [List.getElem?_eq_none_iff] at hx hy;omega
 simp at hs
end Go.Proofs.Ytjdceoimignnpaa
