/-
  One list of a recorder becomes another one: it grows, is made anew, or is written in place; the others stay.
-/
import Derived.Test.YtffklmlljekceaaGreatWishDef
namespace Go.Proofs.YtffklmlljekceaaGreat
open Go.ChangeShapes Go.WideShapes Go.ChangeAt Go.RowKit
set_option linter.unusedVariables false
set_option linter.unusedSimpArgs false

/-- a block that is in no list gets a colour -/
theorem RowC.paint {B : Nat} {w : World} {col : Nat → Nat} {t u : Nat} {e : TypeId} {k : Nat} {a a' : Option Addr} {n c : Nat} {xs : List Value} (h : RowC B w col t e k a n c xs) (ht : t ≤ 8) (hf : ∀ x, a' = some x → 8 < col x.block) : RowC B w (colN a' u col) t e k a n c xs :=
  ⟨h.own, fun x hx => (colN_else fun z hz he => by
    have h1 := hf z hz
    have h2 := h.col x hx
    rw [he] at h1
    omega).trans (h.col x hx)⟩
theorem RcHas.paint {B : Nat} {w : World} {r : Rc} {p : RcP} {X : RcX} {col : Nat → Nat} (h : RcHas B w r p X col) {a' : Option Addr} {u : Nat} (hf : ∀ x, a' = some x → 8 < col x.block) : RcHas B w r p X (colN a' u col) :=
  ⟨h.s.paint (by omega) hf, h.d.paint (by omega) hf, h.h.paint (by omega) hf, h.hm, ⟨fun m hm => (h.hi.row m hm).paint (by omega) hf, h.hi.apart⟩, h.t.paint (by omega) hf, h.y.paint (by omega) hf, h.b.paint (by omega) hf, h.a.paint (by omega) hf, h.am, ⟨fun m hm => (h.ai.row m hm).paint (by omega) hf, h.ai.apart⟩, h.gd⟩
theorem RcHas.set_s {B : Nat} {w : World} {r : Rc} {p : RcP} {X : RcX} {col : Nat → Nat} (h : RcHas B w r p X col) {a' : Option Addr} {c' : Nat} {l : List Sl} (hr : RowC B w col 0 108 2 a' l.length c' (flat l)) (hl : GoodSlots l) :
    RcHas B w { r with ss := l } { p with aS := a', cS := c' } X col :=
  ⟨hr, h.d, h.h, h.hm, h.hi, h.t, h.y, h.b, h.a, h.am, h.ai, ⟨hl, h.gd.d, h.gd.h, h.gd.t, h.gd.y, h.gd.b, h.gd.a⟩⟩
theorem RcHas.grow_s {B : Nat} {w w' : World} {r : Rc} {p : RcP} {X : RcX} {col : Nat → Nat} (h : RcHas B w r p X col) {a' : Option Addr} {c' : Nat} {l : List Sl} (hg : w.grownBy w' (Value.slice p.aS r.ss.length p.cS).ownBlock) (ho : w'.ownsRow B 108 2 (.slice a' l.length c') l.length (flat l)) (hn : NewOr w p.aS a') (hl : GoodSlots l) :
    RcHas B w' { r with ss := l } { p with aS := a', cS := c' } X (colN a' 0 col) :=
  ⟨⟨ho, fun x hx => colN_at hx⟩, h.d.grown h.s.col (by decide) hg hn, h.h.grown h.s.col (by decide) hg hn, h.hm, ⟨fun m hm => (h.hi.row m hm).grown h.s.col (by decide) hg hn, h.hi.apart⟩, h.t.grown h.s.col (by decide) hg hn, h.y.grown h.s.col (by decide) hg hn, h.b.grown h.s.col (by decide) hg hn, h.a.grown h.s.col (by decide) hg hn, h.am, ⟨fun m hm => (h.ai.row m hm).grown h.s.col (by decide) hg hn, h.ai.apart⟩, ⟨hl, h.gd.d, h.gd.h, h.gd.t, h.gd.y, h.gd.b, h.gd.a⟩⟩
theorem RcHas.put_s {B : Nat} {w w' : World} {r : Rc} {p : RcP} {X : RcX} {col : Nat → Nat} (h : RcHas B w r p X col) {l : List Sl} (hln : l.length = r.ss.length) (hs : ∀ b, b < w.heap.size → col b ≠ 0 → w'.heap[b]? = w.heap[b]?) (ho : w'.ownsRow B 108 2 (.slice p.aS r.ss.length p.cS) r.ss.length (flat l)) (hl : GoodSlots l) :
    RcHas B w' { r with ss := l } p X col := by
  have k : ∀ {t : Nat} {e : TypeId} {k : Nat} {a : Option Addr} {n c : Nat} {xs : List Value}, t ≠ 0 → RowC B w col t e k a n c xs → RowC B w' col t e k a n c xs := fun ht h => h.same fun x hx => hs _ (h.lt x hx).2 (by rw [h.col x hx]; exact ht)
  have hr : RowC B w' col 0 108 2 p.aS l.length p.cS (flat l) := by rw [hln]; exact ⟨ho, h.s.col⟩
  exact ⟨hr, k (by decide) h.d, k (by decide) h.h, h.hm, ⟨fun m hm => k (by decide) (h.hi.row m hm), h.hi.apart⟩, k (by decide) h.t, k (by decide) h.y, k (by decide) h.b, k (by decide) h.a, h.am, ⟨fun m hm => k (by decide) (h.ai.row m hm), h.ai.apart⟩, ⟨hl, h.gd.d, h.gd.h, h.gd.t, h.gd.y, h.gd.b, h.gd.a⟩⟩
theorem RcHas.set_d {B : Nat} {w : World} {r : Rc} {p : RcP} {X : RcX} {col : Nat → Nat} (h : RcHas B w r p X col) {a' : Option Addr} {c' : Nat} {l : List Sl} (hr : RowC B w col 1 108 2 a' l.length c' (flat l)) (hl : GoodSlots l) :
    RcHas B w { r with ds := l } { p with aD := a', cD := c' } X col :=
  ⟨h.s, hr, h.h, h.hm, h.hi, h.t, h.y, h.b, h.a, h.am, h.ai, ⟨h.gd.s, hl, h.gd.h, h.gd.t, h.gd.y, h.gd.b, h.gd.a⟩⟩
theorem RcHas.grow_d {B : Nat} {w w' : World} {r : Rc} {p : RcP} {X : RcX} {col : Nat → Nat} (h : RcHas B w r p X col) {a' : Option Addr} {c' : Nat} {l : List Sl} (hg : w.grownBy w' (Value.slice p.aD r.ds.length p.cD).ownBlock) (ho : w'.ownsRow B 108 2 (.slice a' l.length c') l.length (flat l)) (hn : NewOr w p.aD a') (hl : GoodSlots l) :
    RcHas B w' { r with ds := l } { p with aD := a', cD := c' } X (colN a' 1 col) :=
  ⟨h.s.grown h.d.col (by decide) hg hn, ⟨ho, fun x hx => colN_at hx⟩, h.h.grown h.d.col (by decide) hg hn, h.hm, ⟨fun m hm => (h.hi.row m hm).grown h.d.col (by decide) hg hn, h.hi.apart⟩, h.t.grown h.d.col (by decide) hg hn, h.y.grown h.d.col (by decide) hg hn, h.b.grown h.d.col (by decide) hg hn, h.a.grown h.d.col (by decide) hg hn, h.am, ⟨fun m hm => (h.ai.row m hm).grown h.d.col (by decide) hg hn, h.ai.apart⟩, ⟨h.gd.s, hl, h.gd.h, h.gd.t, h.gd.y, h.gd.b, h.gd.a⟩⟩
theorem RcHas.put_d {B : Nat} {w w' : World} {r : Rc} {p : RcP} {X : RcX} {col : Nat → Nat} (h : RcHas B w r p X col) {l : List Sl} (hln : l.length = r.ds.length) (hs : ∀ b, b < w.heap.size → col b ≠ 1 → w'.heap[b]? = w.heap[b]?) (ho : w'.ownsRow B 108 2 (.slice p.aD r.ds.length p.cD) r.ds.length (flat l)) (hl : GoodSlots l) :
    RcHas B w' { r with ds := l } p X col := by
  have k : ∀ {t : Nat} {e : TypeId} {k : Nat} {a : Option Addr} {n c : Nat} {xs : List Value}, t ≠ 1 → RowC B w col t e k a n c xs → RowC B w' col t e k a n c xs := fun ht h => h.same fun x hx => hs _ (h.lt x hx).2 (by rw [h.col x hx]; exact ht)
  have hr : RowC B w' col 1 108 2 p.aD l.length p.cD (flat l) := by rw [hln]; exact ⟨ho, h.d.col⟩
  exact ⟨k (by decide) h.s, hr, k (by decide) h.h, h.hm, ⟨fun m hm => k (by decide) (h.hi.row m hm), h.hi.apart⟩, k (by decide) h.t, k (by decide) h.y, k (by decide) h.b, k (by decide) h.a, h.am, ⟨fun m hm => k (by decide) (h.ai.row m hm), h.ai.apart⟩, ⟨h.gd.s, hl, h.gd.h, h.gd.t, h.gd.y, h.gd.b, h.gd.a⟩⟩
theorem RcHas.set_h {B : Nat} {w : World} {r : Rc} {p : RcP} {X : RcX} {col : Nat → Nat} (h : RcHas B w r p X col) {a' : Option Addr} {c' : Nat} {l : List Mp} (hr : RowC B w col 2 45 8 a' l.length c' (flatM l)) (hi : InnM B w col 7 l) (hl : MsgsGood (l.map (·.1))) :
    RcHas B w { r with held := l.map (·.1) } { p with aH := a', cH := c' } ⟨l, X.A⟩ col :=
  ⟨h.s, h.d, (by rw [List.length_map]; exact hr), rfl, hi, h.t, h.y, h.b, h.a, h.am, h.ai, ⟨h.gd.s, h.gd.d, hl, h.gd.t, h.gd.y, h.gd.b, h.gd.a⟩⟩
theorem RcHas.grow_h {B : Nat} {w w' : World} {r : Rc} {p : RcP} {X : RcX} {col : Nat → Nat} (h : RcHas B w r p X col) {a' : Option Addr} {c' : Nat} {l : List Mp} (hg : w.grownBy w' (Value.slice p.aH r.held.length p.cH).ownBlock) (ho : w'.ownsRow B 45 8 (.slice a' l.length c') l.length (flatM l)) (hn : NewOr w p.aH a') (hi : ∀ m ∈ l, RowC B w col 7 108 2 m.2.1 m.1.2.length m.2.2 (flat m.1.2)) (hap : l.Pairwise (fun m m' => ∀ x x', m.2.1 = some x → m'.2.1 = some x' → x.block ≠ x'.block)) (hl : MsgsGood (l.map (·.1))) :
    RcHas B w' { r with held := l.map (·.1) } { p with aH := a', cH := c' } ⟨l, X.A⟩ (colN a' 2 col) :=
  ⟨h.s.grown h.h.col (by decide) hg hn, h.d.grown h.h.col (by decide) hg hn, (by rw [List.length_map]; exact ⟨ho, fun x hx => colN_at hx⟩), rfl, ⟨fun m hm => (hi m hm).grown h.h.col (by decide) hg hn, hap⟩, h.t.grown h.h.col (by decide) hg hn, h.y.grown h.h.col (by decide) hg hn, h.b.grown h.h.col (by decide) hg hn, h.a.grown h.h.col (by decide) hg hn, h.am, ⟨fun m hm => (h.ai.row m hm).grown h.h.col (by decide) hg hn, h.ai.apart⟩, ⟨h.gd.s, h.gd.d, hl, h.gd.t, h.gd.y, h.gd.b, h.gd.a⟩⟩
theorem RcHas.put_h {B : Nat} {w w' : World} {r : Rc} {p : RcP} {X : RcX} {col : Nat → Nat} (h : RcHas B w r p X col) {l : List Mp} (hln : l.length = r.held.length) (hs : ∀ b, b < w.heap.size → col b ≠ 2 → w'.heap[b]? = w.heap[b]?) (ho : w'.ownsRow B 45 8 (.slice p.aH r.held.length p.cH) r.held.length (flatM l)) (hi : InnM B w col 7 l) (hl : MsgsGood (l.map (·.1))) :
    RcHas B w' { r with held := l.map (·.1) } p ⟨l, X.A⟩ col := by
  have k : ∀ {t : Nat} {e : TypeId} {k : Nat} {a : Option Addr} {n c : Nat} {xs : List Value}, t ≠ 2 → RowC B w col t e k a n c xs → RowC B w' col t e k a n c xs := fun ht h => h.same fun x hx => hs _ (h.lt x hx).2 (by rw [h.col x hx]; exact ht)
  have hr : RowC B w' col 2 45 8 p.aH l.length p.cH (flatM l) := by rw [hln]; exact ⟨ho, h.h.col⟩
  exact ⟨k (by decide) h.s, k (by decide) h.d, (by rw [List.length_map]; exact hr), rfl, ⟨fun m hm => k (by decide) (hi.row m hm), hi.apart⟩, k (by decide) h.t, k (by decide) h.y, k (by decide) h.b, k (by decide) h.a, h.am, ⟨fun m hm => k (by decide) (h.ai.row m hm), h.ai.apart⟩, ⟨h.gd.s, h.gd.d, hl, h.gd.t, h.gd.y, h.gd.b, h.gd.a⟩⟩
theorem RcHas.set_t {B : Nat} {w : World} {r : Rc} {p : RcP} {X : RcX} {col : Nat → Nat} (h : RcHas B w r p X col) {a' : Option Addr} {c' : Nat} {l : List ByteArray} (hr : RowC B w col 3 9 1 a' l.length c' (flatT l)) (hl : GoodOnes okS l) :
    RcHas B w { r with wish := l } { p with aW := a', cW := c' } X col :=
  ⟨h.s, h.d, h.h, h.hm, h.hi, hr, h.y, h.b, h.a, h.am, h.ai, ⟨h.gd.s, h.gd.d, h.gd.h, hl, h.gd.y, h.gd.b, h.gd.a⟩⟩
theorem RcHas.put_t {B : Nat} {w w' : World} {r : Rc} {p : RcP} {X : RcX} {col : Nat → Nat} (h : RcHas B w r p X col) {l : List ByteArray} (hln : l.length = r.wish.length) (hs : ∀ b, b < w.heap.size → col b ≠ 3 → w'.heap[b]? = w.heap[b]?) (ho : w'.ownsRow B 9 1 (.slice p.aW r.wish.length p.cW) r.wish.length (flatT l)) (hl : GoodOnes okS l) :
    RcHas B w' { r with wish := l } p X col := by
  have k : ∀ {t : Nat} {e : TypeId} {k : Nat} {a : Option Addr} {n c : Nat} {xs : List Value}, t ≠ 3 → RowC B w col t e k a n c xs → RowC B w' col t e k a n c xs := fun ht h => h.same fun x hx => hs _ (h.lt x hx).2 (by rw [h.col x hx]; exact ht)
  have hr : RowC B w' col 3 9 1 p.aW l.length p.cW (flatT l) := by rw [hln]; exact ⟨ho, h.t.col⟩
  exact ⟨k (by decide) h.s, k (by decide) h.d, k (by decide) h.h, h.hm, ⟨fun m hm => k (by decide) (h.hi.row m hm), h.hi.apart⟩, hr, k (by decide) h.y, k (by decide) h.b, k (by decide) h.a, h.am, ⟨fun m hm => k (by decide) (h.ai.row m hm), h.ai.apart⟩, ⟨h.gd.s, h.gd.d, h.gd.h, hl, h.gd.y, h.gd.b, h.gd.a⟩⟩
theorem RcHas.set_y {B : Nat} {w : World} {r : Rc} {p : RcP} {X : RcX} {col : Nat → Nat} (h : RcHas B w r p X col) {a' : Option Addr} {c' : Nat} {l : List Int} (hr : RowC B w col 4 3 1 a' l.length c' (flatI l)) (hl : GoodOnes wfI l) :
    RcHas B w { r with yes := l } { p with aY := a', cY := c' } X col :=
  ⟨h.s, h.d, h.h, h.hm, h.hi, h.t, hr, h.b, h.a, h.am, h.ai, ⟨h.gd.s, h.gd.d, h.gd.h, h.gd.t, hl, h.gd.b, h.gd.a⟩⟩
theorem RcHas.grow_y {B : Nat} {w w' : World} {r : Rc} {p : RcP} {X : RcX} {col : Nat → Nat} (h : RcHas B w r p X col) {a' : Option Addr} {c' : Nat} {l : List Int} (hg : w.grownBy w' (Value.slice p.aY r.yes.length p.cY).ownBlock) (ho : w'.ownsRow B 3 1 (.slice a' l.length c') l.length (flatI l)) (hn : NewOr w p.aY a') (hl : GoodOnes wfI l) :
    RcHas B w' { r with yes := l } { p with aY := a', cY := c' } X (colN a' 4 col) :=
  ⟨h.s.grown h.y.col (by decide) hg hn, h.d.grown h.y.col (by decide) hg hn, h.h.grown h.y.col (by decide) hg hn, h.hm, ⟨fun m hm => (h.hi.row m hm).grown h.y.col (by decide) hg hn, h.hi.apart⟩, h.t.grown h.y.col (by decide) hg hn, ⟨ho, fun x hx => colN_at hx⟩, h.b.grown h.y.col (by decide) hg hn, h.a.grown h.y.col (by decide) hg hn, h.am, ⟨fun m hm => (h.ai.row m hm).grown h.y.col (by decide) hg hn, h.ai.apart⟩, ⟨h.gd.s, h.gd.d, h.gd.h, h.gd.t, hl, h.gd.b, h.gd.a⟩⟩
theorem RcHas.put_y {B : Nat} {w w' : World} {r : Rc} {p : RcP} {X : RcX} {col : Nat → Nat} (h : RcHas B w r p X col) {l : List Int} (hln : l.length = r.yes.length) (hs : ∀ b, b < w.heap.size → col b ≠ 4 → w'.heap[b]? = w.heap[b]?) (ho : w'.ownsRow B 3 1 (.slice p.aY r.yes.length p.cY) r.yes.length (flatI l)) (hl : GoodOnes wfI l) :
    RcHas B w' { r with yes := l } p X col := by
  have k : ∀ {t : Nat} {e : TypeId} {k : Nat} {a : Option Addr} {n c : Nat} {xs : List Value}, t ≠ 4 → RowC B w col t e k a n c xs → RowC B w' col t e k a n c xs := fun ht h => h.same fun x hx => hs _ (h.lt x hx).2 (by rw [h.col x hx]; exact ht)
  have hr : RowC B w' col 4 3 1 p.aY l.length p.cY (flatI l) := by rw [hln]; exact ⟨ho, h.y.col⟩
  exact ⟨k (by decide) h.s, k (by decide) h.d, k (by decide) h.h, h.hm, ⟨fun m hm => k (by decide) (h.hi.row m hm), h.hi.apart⟩, k (by decide) h.t, hr, k (by decide) h.b, k (by decide) h.a, h.am, ⟨fun m hm => k (by decide) (h.ai.row m hm), h.ai.apart⟩, ⟨h.gd.s, h.gd.d, h.gd.h, h.gd.t, hl, h.gd.b, h.gd.a⟩⟩
theorem RcHas.set_b {B : Nat} {w : World} {r : Rc} {p : RcP} {X : RcX} {col : Nat → Nat} (h : RcHas B w r p X col) {a' : Option Addr} {c' : Nat} {l : List Sl} (hr : RowC B w col 5 108 2 a' l.length c' (flat l)) (hl : GoodSlots l) :
    RcHas B w { r with best := l } { p with aB := a', cB := c' } X col :=
  ⟨h.s, h.d, h.h, h.hm, h.hi, h.t, h.y, hr, h.a, h.am, h.ai, ⟨h.gd.s, h.gd.d, h.gd.h, h.gd.t, h.gd.y, hl, h.gd.a⟩⟩
theorem RcHas.grow_b {B : Nat} {w w' : World} {r : Rc} {p : RcP} {X : RcX} {col : Nat → Nat} (h : RcHas B w r p X col) {a' : Option Addr} {c' : Nat} {l : List Sl} (hg : w.grownBy w' (Value.slice p.aB r.best.length p.cB).ownBlock) (ho : w'.ownsRow B 108 2 (.slice a' l.length c') l.length (flat l)) (hn : NewOr w p.aB a') (hl : GoodSlots l) :
    RcHas B w' { r with best := l } { p with aB := a', cB := c' } X (colN a' 5 col) :=
  ⟨h.s.grown h.b.col (by decide) hg hn, h.d.grown h.b.col (by decide) hg hn, h.h.grown h.b.col (by decide) hg hn, h.hm, ⟨fun m hm => (h.hi.row m hm).grown h.b.col (by decide) hg hn, h.hi.apart⟩, h.t.grown h.b.col (by decide) hg hn, h.y.grown h.b.col (by decide) hg hn, ⟨ho, fun x hx => colN_at hx⟩, h.a.grown h.b.col (by decide) hg hn, h.am, ⟨fun m hm => (h.ai.row m hm).grown h.b.col (by decide) hg hn, h.ai.apart⟩, ⟨h.gd.s, h.gd.d, h.gd.h, h.gd.t, h.gd.y, hl, h.gd.a⟩⟩
theorem RcHas.put_b {B : Nat} {w w' : World} {r : Rc} {p : RcP} {X : RcX} {col : Nat → Nat} (h : RcHas B w r p X col) {l : List Sl} (hln : l.length = r.best.length) (hs : ∀ b, b < w.heap.size → col b ≠ 5 → w'.heap[b]? = w.heap[b]?) (ho : w'.ownsRow B 108 2 (.slice p.aB r.best.length p.cB) r.best.length (flat l)) (hl : GoodSlots l) :
    RcHas B w' { r with best := l } p X col := by
  have k : ∀ {t : Nat} {e : TypeId} {k : Nat} {a : Option Addr} {n c : Nat} {xs : List Value}, t ≠ 5 → RowC B w col t e k a n c xs → RowC B w' col t e k a n c xs := fun ht h => h.same fun x hx => hs _ (h.lt x hx).2 (by rw [h.col x hx]; exact ht)
  have hr : RowC B w' col 5 108 2 p.aB l.length p.cB (flat l) := by rw [hln]; exact ⟨ho, h.b.col⟩
  exact ⟨k (by decide) h.s, k (by decide) h.d, k (by decide) h.h, h.hm, ⟨fun m hm => k (by decide) (h.hi.row m hm), h.hi.apart⟩, k (by decide) h.t, k (by decide) h.y, hr, k (by decide) h.a, h.am, ⟨fun m hm => k (by decide) (h.ai.row m hm), h.ai.apart⟩, ⟨h.gd.s, h.gd.d, h.gd.h, h.gd.t, h.gd.y, hl, h.gd.a⟩⟩
theorem RcHas.set_a {B : Nat} {w : World} {r : Rc} {p : RcP} {X : RcX} {col : Nat → Nat} (h : RcHas B w r p X col) {a' : Option Addr} {c' : Nat} {l : List Ap} (hr : RowC B w col 6 105 2 a' l.length c' (flatA l)) (hi : InnA B w col 8 l) (hl : AcksGood (l.map (·.1))) :
    RcHas B w { r with acks := l.map (·.1) } { p with aA := a', cA := c' } ⟨X.H, l⟩ col :=
  ⟨h.s, h.d, h.h, h.hm, h.hi, h.t, h.y, h.b, (by rw [List.length_map]; exact hr), rfl, hi, ⟨h.gd.s, h.gd.d, h.gd.h, h.gd.t, h.gd.y, h.gd.b, hl⟩⟩
theorem RcHas.grow_a {B : Nat} {w w' : World} {r : Rc} {p : RcP} {X : RcX} {col : Nat → Nat} (h : RcHas B w r p X col) {a' : Option Addr} {c' : Nat} {l : List Ap} (hg : w.grownBy w' (Value.slice p.aA r.acks.length p.cA).ownBlock) (ho : w'.ownsRow B 105 2 (.slice a' l.length c') l.length (flatA l)) (hn : NewOr w p.aA a') (hi : ∀ m ∈ l, RowC B w col 8 3 1 m.2.1 m.1.2.length m.2.2 (flatI m.1.2)) (hap : l.Pairwise (fun m m' => ∀ x x', m.2.1 = some x → m'.2.1 = some x' → x.block ≠ x'.block)) (hl : AcksGood (l.map (·.1))) :
    RcHas B w' { r with acks := l.map (·.1) } { p with aA := a', cA := c' } ⟨X.H, l⟩ (colN a' 6 col) :=
  ⟨h.s.grown h.a.col (by decide) hg hn, h.d.grown h.a.col (by decide) hg hn, h.h.grown h.a.col (by decide) hg hn, h.hm, ⟨fun m hm => (h.hi.row m hm).grown h.a.col (by decide) hg hn, h.hi.apart⟩, h.t.grown h.a.col (by decide) hg hn, h.y.grown h.a.col (by decide) hg hn, h.b.grown h.a.col (by decide) hg hn, (by rw [List.length_map]; exact ⟨ho, fun x hx => colN_at hx⟩), rfl, ⟨fun m hm => (hi m hm).grown h.a.col (by decide) hg hn, hap⟩, ⟨h.gd.s, h.gd.d, h.gd.h, h.gd.t, h.gd.y, h.gd.b, hl⟩⟩
theorem RcHas.put_a {B : Nat} {w w' : World} {r : Rc} {p : RcP} {X : RcX} {col : Nat → Nat} (h : RcHas B w r p X col) {l : List Ap} (hln : l.length = r.acks.length) (hs : ∀ b, b < w.heap.size → col b ≠ 6 → w'.heap[b]? = w.heap[b]?) (ho : w'.ownsRow B 105 2 (.slice p.aA r.acks.length p.cA) r.acks.length (flatA l)) (hi : InnA B w col 8 l) (hl : AcksGood (l.map (·.1))) :
    RcHas B w' { r with acks := l.map (·.1) } p ⟨X.H, l⟩ col := by
  have k : ∀ {t : Nat} {e : TypeId} {k : Nat} {a : Option Addr} {n c : Nat} {xs : List Value}, t ≠ 6 → RowC B w col t e k a n c xs → RowC B w' col t e k a n c xs := fun ht h => h.same fun x hx => hs _ (h.lt x hx).2 (by rw [h.col x hx]; exact ht)
  have hr : RowC B w' col 6 105 2 p.aA l.length p.cA (flatA l) := by rw [hln]; exact ⟨ho, h.a.col⟩
  exact ⟨k (by decide) h.s, k (by decide) h.d, k (by decide) h.h, h.hm, ⟨fun m hm => k (by decide) (h.hi.row m hm), h.hi.apart⟩, k (by decide) h.t, k (by decide) h.y, k (by decide) h.b, (by rw [List.length_map]; exact hr), rfl, ⟨fun m hm => k (by decide) (hi.row m hm), hi.apart⟩, ⟨h.gd.s, h.gd.d, h.gd.h, h.gd.t, h.gd.y, h.gd.b, hl⟩⟩
end Go.Proofs.YtffklmlljekceaaGreat
