import Derived.Test.YtffklmlljekceaaGreatQ34
import Derived.Lib.SliceRun
namespace Go.Proofs.YtffklmlljekceaaGreat
open Go.ChangeShapes Go.WideShapes Go.ChangeAt Go.RowKit
set_option linter.unusedSimpArgs false
set_option linter.unusedVariables false
set_option maxHeartbeats 16000000
set_option maxRecDepth 20000
theorem RcHas.grow_t {B : Nat} {w w' : World} {r : Rc} {p : RcP} {X : RcX} {col : Nat → Nat} (h : RcHas B w r p X col) {a' : Option Addr} {c' : Nat} {l : List ByteArray} (hg : w.grownBy w' (Value.slice p.aW r.wish.length p.cW).ownBlock) (ho : w'.ownsRow B 9 1 (.slice a' l.length c') l.length (flatT l)) (hn : NewOr w p.aW a') (hl : GoodOnes okS l) :
  RcHas B w' { r with wish := l } { p with aW := a', cW := c' } X (colN a' 3 col) :=
 ⟨h.s.grown h.t.col (by decide) hg hn, h.d.grown h.t.col (by decide) hg hn, h.h.grown h.t.col (by decide) hg hn, h.hm, ⟨fun m hm => (h.hi.row m hm).grown h.t.col (by decide) hg hn, h.hi.apart⟩, ⟨ho, fun x hx => colN_at hx⟩, h.y.grown h.t.col (by decide) hg hn, h.b.grown h.t.col (by decide) hg hn, h.a.grown h.t.col (by decide) hg hn, h.am, ⟨fun m hm => (h.ai.row m hm).grown h.t.col (by decide) hg hn, h.ai.apart⟩, ⟨h.gd.s, h.gd.d, h.gd.h, hl, h.gd.y, h.gd.b, h.gd.a⟩⟩
theorem GPost.wish {B g : Nat} {w w1 : World} {r : Rc} {p : RcP} {X : RcX} {col : Nat → Nat} (hg : B ≤ g) (hk : Blk w g (rcV r p) 41) (hc : 8 < col g) (h : RcHas B w r p X col) {a' : Option Addr} {c' : Nat} {l : List ByteArray}
  (gr : w.grownBy w1 (Value.slice p.aW r.wish.length p.cW).ownBlock) (ho : w1.ownsRow B 9 1 (.slice a' l.length c') l.length (flatT l)) (hn : NewOr w p.aW a') (hl : GoodOnes okS l) : GPost B g w col { r with wish := l } (w1.setCell ⟨g, 10, none⟩ (.slice a' l.length c')) ∧ Blk w1 g (rcV r p) 41 := by
 have hne : ∀ b, 8 < col b → some b ≠ (Value.slice p.aW r.wish.length p.cW).ownBlock := fun b h8 e => by
  cases hs : p.aW with
  | none => rw [hs] at e; simp [Value.ownBlock] at e
  | some y =>
   rw [hs] at e
   simp only [Value.ownBlock, Option.some.injEq] at e
   have := h.t.col y hs
   rw [← e] at this
   omega
 have hB : B ≤ w.heap.size := Nat.le_trans hg (Nat.le_of_lt hk.lt)
 have k1 : Blk w1 g (rcV r p) 41 := (gr.block g hk.lt (hne g hc)).trans hk
 have hcol : ∀ b, b < w.heap.size → 8 < col b → colN a' 3 col b = col b := fun b hlt h8 => colN_else fun x hx e => by
  rcases hn x hx with ⟨y, hy, he⟩ | h1
  ·have := h.t.col y hy
   rw [he, e] at this
   omega
  omega
 have bel : Below B w w1 := ⟨gr.os, gr.tape, gr.output, gr.size, fun b hb => gr.block b (by omega) (fun e => by
  cases hs : p.aW with
  | none => rw [hs] at e; simp [Value.ownBlock] at e
  | some y =>
   rw [hs] at e
   simp only [Value.ownBlock, Option.some.injEq] at e
   have := (h.t.lt y hs).1
   omega)⟩
 refine ⟨⟨{ p with aW := a', cW := c' }, X, colN a' 3 col, ?_, ?_, by rw [hcol g hk.lt hc]; exact hc, below_set bel hg _, fun b hlt hbg h8 => ⟨(heap_setCell_other _ ⟨g, 10, none⟩ b _ hbg).trans (gr.block b hlt (hne b h8)), by rw [hcol b hlt h8]; exact h8⟩⟩, k1⟩
 ·have := k1.set (o := 10) (.slice a' l.length c')
  simpa using this
 exact (h.grow_t gr ho hn hl).setCell (q := ⟨g, 10, none⟩) (by show 8 < colN a' 3 col g; rw [hcol g hk.lt hc]; exact hc) _
structure DkS (g tb vb : Nat) (x : Rc) (p : RcP) (ct : Value) (w : World) : Prop where
 k : Blk w g (rcV x p) 41
 t : Blk w tb #[.pointer (some ⟨g, 0, none⟩), ct] 128
 v : Blk w vb #[.pointer (some ⟨tb, 0, none⟩)] 152
 s : SlotsAt w p.aD x.ds
theorem DkS.ext {g tb vb : Nat} {x : Rc} {p : RcP} {ct : Value} {w w' : World} (h : DkS g tb vb x p ct w) (hb : Below w.heap.size w w') : DkS g tb vb x p ct w' := ⟨h.k.ext hb, h.t.ext hb, h.v.ext hb, h.s.ext hb⟩
structure DkC (x : Rc) (p : RcP) (D : Nat) : Prop where
 l : x.ds.length ≤ 1048576
 d : x.dk = (D : Int)
 dl : D ≤ x.ds.length
 c : x.ds.length ≤ p.cD
 n : p.aD = none → p.cD = 0
theorem drop1 (g tb vb : Nat) (x : Rc) (p : RcP) (ct : Value) (D : Nat) (t : ByteArray) (w : World) (hc : DkC x p D) (h : DkS g tb vb x p ct w) :
  Calls Tryz.prog 143 #[.string t, .pointer (some ⟨vb, 0, none⟩)] w fun e w' => e = .returned (.bool (hasText (x.ds.take D) t)) ∧ Below w.heap.size w w' := by
 have S := hid h
 have C := hid hc
 have cV := h.v.cell
 have cT := h.t.cell
 have cK := h.k.cell
 clear h hc
 go_enter Tryz.func143, Tryz.ntmps143
 go_wp2_with fail
 refine (knows_any x.dp x.dk p.aD x.ds x.ds.length p.cD D t w rfl (by have := C.out.l; unfold maxLen; omega) C.out.d C.out.dl C.out.c C.out.n S.out.s).mono ?_
 rintro e z ⟨rfl, hz⟩
 have Z := hid hz
 clear hz
 go_wp2_with fail
 go_ret
 exact ⟨rfl, Z.out⟩
def FoundP (P : ByteArray → Bool) (l : List ByteArray) (n : Nat) (r : Int) : Prop := (r = -1 ∧ ∀ (q : Nat) u, l[q]? = some u → P u = false) ∨ ∃ k : Nat, r = (k : Int) ∧ k < n ∧ (∀ (q : Nat) u, q < k → l[q]? = some u → P u = false) ∧ ∃ u, l[k]? = some u ∧ P u = true
theorem dropIndex (g tb vb : Nat) (x : Rc) (p : RcP) (ct : Value) (D : Nat) (a : Option Addr) (l : List ByteArray) (n cap : Nat) (w : World) (hn : l.length = n) (hm : n ≤ 1048576) (hA : StrsAt w a l) (hc : DkC x p D) (h : DkS g tb vb x p ct w) :
  Calls Tryz.prog 155 #[.slice a n cap, .func (.func 143) #[] #[.pointer (some ⟨vb, 0, none⟩)]] w fun e w' => ∃ r : Int, e = .returned (.int .i64 r) ∧ FoundP (hasText (x.ds.take D)) l n r ∧ Below w.heap.size w w' := by
 have HL := hid hn
 have HC := hid hc
 have HD := hid h
 have HA := hid hA
 clear hn hc h hA
 go_enter Tryz.func155, Tryz.ntmps155
 go_wp2
 go_loopw [8] (fun i wr => ∃ (k : Nat), k ≤ n ∧ i = .int .i64 k ∧ (∀ (q : Nat) u, q < k → l[q]? = some u → hasText (x.ds.take D) u = false) ∧ Below w.heap.size w wr) (fun i _ => n - (intOf i).toNat)
 case atStart => exact ⟨0, Nat.zero_le _, rfl, fun q u hq => absurd hq (by omega), Below.refl _ _⟩
 obtain ⟨k, hk, rfl, hin0, hbel0⟩ := hrel
 have hin := hid hin0
 have hbel := hid hbel0
 clear hin0 hbel0
 by_cases hlt : k < n
 ·obtain ⟨u, hs0⟩ : ∃ s, l[k]? = some s := ⟨_, List.getElem?_eq_getElem (by rw [HL.out]; exact hlt)⟩
  have hs := hid hs0
  obtain ⟨b, off, rfl, hb1, c0, _⟩ := (HA.out.ext hbel.out) k u hs0
  clear hs0
  have e1 : (0 : Int) ≤ (k : Int) := by omega
  have e2 : (k : Int) < (n : Int) := by omega
  go_wp2_with fail
  refine (drop1 g tb vb x p ct D u _ HC.out (HD.out.ext hbel.out)).mono ?_
  rintro e z ⟨rfl, hz⟩
  have Z := hid (ext_trans hbel.out hz)
  clear hz
  cases hq : hasText (x.ds.take D) u
  ·have HQ := hid hq
   clear hq
   go_wp2
   go_roundw
   case rel =>
    refine ⟨k + 1, by omega, by go_num, fun q v hq hv => ?_, Z.out⟩
    by_cases he : q = k
    ·subst he; rw [hs.out] at hv; simp only [Option.some.injEq] at hv; rw [← hv]; exact HQ.out
    exact hin.out q v (by omega) hv
   case measure => simp [intOf]; omega
  have HQ := hid hq
  clear hq
  go_wp2
  go_ret
  exact ⟨k, rfl, .inr ⟨k, rfl, hlt, hin.out, u, hs.out, HQ.out⟩, Z.out⟩
 go_wp2
 go_ret
 refine ⟨-1, rfl, .inl ⟨rfl, fun q u hu => hin.out q u ?_ hu⟩, hbel.out⟩
 have := (List.getElem?_eq_some_iff.1 hu).1
 have := HL.out
 omega
structure DelS (P : ByteArray → Bool) (l : List ByteArray) (n cap i j : Nat) (cur : Array Value) : Prop where
 sz : cur.size = cap
 nn : l.length = n
 nc : n ≤ cap
 lo : ∀ q, q < i → cur[q]? = (((l.take j).filter (fun t => !P t))[q]?).map Value.string
 ln : ((l.take j).filter (fun t => !P t)).length = i
 hi : ∀ q, j ≤ q → q < n → cur[q]? = (l[q]?).map Value.string
 ij : i < j
 jn : j ≤ n
theorem DelS.start {P : ByteArray → Bool} {l : List ByteArray} {n cap k : Nat} {cur : Array Value} {u : ByteArray} (hn : l.length = n) (hsz : cur.size = cap) (hnc : n ≤ cap) (hcur : ∀ q, q < n → cur[q]? = (l[q]?).map Value.string) (hk : k < n) (hall : ∀ (q : Nat) u, q < k → l[q]? = some u → P u = false) (hu : l[k]? = some u) (hP : P u = true) : DelS P l n cap k (k + 1) cur := by
 have h1 : (l.take k).filter (fun t => !P t) = l.take k := List.filter_eq_self.2 (fun t ht => by
  obtain ⟨q, hq⟩ := List.getElem?_of_mem ht
  have hql := (List.getElem?_eq_some_iff.1 hq).1
  simp only [List.length_take] at hql
  rw [List.getElem?_take_of_lt (by omega)] at hq
  rw [hall q t (by omega) hq]; rfl)
 have h2 : (l.take (k + 1)).filter (fun t => !P t) = l.take k := by
  rw [List.take_add_one, hu, List.filter_append, h1]; simp [hP]
 refine ⟨hsz, hn, hnc, fun q hq => ?_, ?_, fun q _ hq => hcur q hq, by omega, by omega⟩
 ·rw [h2, hcur q (by omega), List.getElem?_take_of_lt hq]
 rw [h2, List.length_take]; omega
theorem DelS.keep {P : ByteArray → Bool} {l : List ByteArray} {n cap i j : Nat} {cur : Array Value} {u : ByteArray} (h : DelS P l n cap i j cur) (hj : j < n) (hu : l[j]? = some u) (hP : P u = false) : DelS P l n cap (i + 1) (j + 1) (cur.setIfInBounds i (.string u)) := by
 have h2 : (l.take (j + 1)).filter (fun t => !P t) = (l.take j).filter (fun t => !P t) ++ [u] := by
  rw [List.take_add_one, hu, List.filter_append]; simp [hP]
 have hnc := h.nc
 have hij := h.ij
 have hsz := h.sz
 refine ⟨by simp [h.sz], h.nn, h.nc, fun q hq => ?_, by rw [h2, List.length_append, h.ln]; rfl, fun q h1 h3 => ?_, by omega, by omega⟩
 ·rw [h2, Array.getElem?_setIfInBounds]
  by_cases e : i = q
  ·subst e
   rw [if_pos rfl, if_pos (by omega), List.getElem?_append_right (by rw [h.ln]; exact Nat.le_refl _), h.ln]
   simp
  rw [if_neg e, h.lo q (by omega), List.getElem?_append_left (by rw [h.ln]; omega)]
 rw [Array.getElem?_setIfInBounds, if_neg (by omega)]
 exact h.hi q (by omega) h3
theorem DelS.skip {P : ByteArray → Bool} {l : List ByteArray} {n cap i j : Nat} {cur : Array Value} {u : ByteArray} (h : DelS P l n cap i j cur) (hj : j < n) (hu : l[j]? = some u) (hP : P u = true) : DelS P l n cap i (j + 1) cur := by
 have h2 : (l.take (j + 1)).filter (fun t => !P t) = (l.take j).filter (fun t => !P t) := by
  rw [List.take_add_one, hu, List.filter_append]; simp [hP]
 have hij := h.ij
 exact ⟨h.sz, h.nn, h.nc, fun q hq => by rw [h2]; exact h.lo q hq, by rw [h2]; exact h.ln, fun q h1 h3 => h.hi q (by omega) h3, by omega, by omega⟩
theorem DelS.done {P : ByteArray → Bool} {l : List ByteArray} {n cap i : Nat} {cur cur' : Array Value} (h : DelS P l n cap i n cur) (hs : cur'.size = cur.size) (hl : ∀ q, q < i → cur'[q]? = cur[q]?) : i = (l.filter (fun t => !P t)).length ∧ cur'.toList.take i = flatT (l.filter (fun t => !P t)) := by
 have ht : l.take n = l := by rw [← h.nn, List.take_length]
 have hln := h.ln
 rw [ht] at hln
 refine ⟨hln.symm, List.ext_getElem? fun q => ?_⟩
 by_cases hq : q < i
 ·rw [List.getElem?_take_of_lt hq, Array.getElem?_toList, hl q hq, h.lo q hq, ht, flatT, List.getElem?_map]
 rw [List.getElem?_eq_none (by rw [List.length_take]; omega), List.getElem?_eq_none (by rw [flatT, List.length_map, hln]; omega)]
theorem blk_setCells {g : Nat} {t : TypeId} : ∀ (vs : List Value) (o : Nat) (w : World) (cur : Array Value), Blk w g cur t → ∃ cur', Blk (w.setCells g o vs) g cur' t ∧ cur'.size = cur.size ∧ ∀ q, q < o → cur'[q]? = cur[q]?
 | [], o, w, cur, h => ⟨cur, h, rfl, fun _ _ => rfl⟩
 | v :: r, o, w, cur, h => by
  obtain ⟨cur', h1, h2, h3⟩ := blk_setCells r (o + 1) (w.setCell ⟨g, o, none⟩ v) _ (h.set (o := o) v)
  refine ⟨cur', h1, by rw [h2]; simp, fun q hq => ?_⟩
  rw [h3 q (by omega)]
  rw [Array.getElem?_setIfInBounds, if_neg (by omega)]
theorem grown_setCells {g : Nat} {w : World} : ∀ (vs : List Value) (o : Nat) (wr : World), w.grownBy wr (some g) → w.grownBy (wr.setCells g o vs) (some g)
 | [], o, wr, h => h
 | v :: r, o, wr, h => grown_setCells r (o + 1) _ ⟨h.os, h.tape, h.output, by simpa using h.size, fun b hb hn => (heap_setCell_other _ ⟨g, o, none⟩ b _ (fun e => hn (by rw [e]))).trans (h.block b hb hn)⟩
def LD (x : Rc) (D : Nat) (l : List ByteArray) : List ByteArray := l.filter (fun t => !hasText (x.ds.take D) t)
def DelP (B : Nat) (x : Rc) (D : Nat) (a : Option Addr) (l : List ByteArray) (n cap : Nat) (w : World) (e : Ending) (w' : World) : Prop :=
 e = .returned (.slice a (LD x D l).length cap) ∧ w'.ownsRow B 9 1 (.slice a (LD x D l).length cap) (LD x D l).length (flatT (LD x D l)) ∧ w.grownBy w' (Value.slice a n cap).ownBlock
theorem grown_of {w w' : World} {row : Option Nat} (hb : Below w.heap.size w w') : w.grownBy w' row := ⟨hb.os, hb.tape, hb.output, hb.size, fun b hlt _ => hb.block b hlt⟩
theorem dropDelete (B g tb vb : Nat) (x : Rc) (p : RcP) (ct : Value) (D : Nat) (a : Option Addr) (l : List ByteArray) (n cap : Nat) (w : World) (hm : n ≤ 1048576) (row : RowC B w (fun _ => 0) 0 9 1 a n cap (flatT l)) (hA : StrsAt w a l) (hc : DkC x p D) (h : DkS g tb vb x p ct w)
  (hne : ∀ y, a = some y → y.block ≠ g ∧ y.block ≠ tb ∧ y.block ≠ vb ∧ ∀ z, p.aD = some z → z.block ≠ y.block) :
  Calls Tryz.prog 142 #[.slice a n cap, .func (.func 143) #[] #[.pointer (some ⟨vb, 0, none⟩)]] w (DelP B x D a l n cap w) := by
 have hn : l.length = n := by have := row.own.1; simpa [flatT] using this
 have HN := hid hn
 have HC := hid hc
 have HD := hid h
 have HA := hid hA
 have ROW := hid row
 have NE := hid hne
 clear hn hc h hA row hne
 go_enter Tryz.func142, Tryz.ntmps142
 go_wp2_with fail
 refine (dropIndex g tb vb x p ct D a l n cap w HN.out hm HA.out HC.out HD.out).mono ?_
 rintro e w1 ⟨r, rfl, hf, hb1⟩
 have B1 := hid hb1
 rcases hf with ⟨rfl, hall⟩ | ⟨k0, rfl, hk0, hall, u0, hu0, hP0⟩
 ·have EL := hid (show LD x D l = l from List.filter_eq_self.2 (fun t ht => by
   obtain ⟨q, hq⟩ := List.getElem?_of_mem ht
   rw [hall q t hq]; rfl))
  clear hall hb1
  go_wp2_with fail
  go_ret
  unfold DelP
  rw [EL.out, HN.out]
  exact ⟨rfl, (ROW.out.ext B1.out).own, grown_of B1.out⟩
 have hne1 : ((k0 : Int) == -1) = false := beq_eq_false_iff_ne.2 (by omega)
 have e9 : IntKind.i64.wrap ((k0 : Int) + 1) = (k0 : Int) + 1 := by go_arith
 obtain ⟨gW, cur0, ha, hBg, hg0, hnc, hcm, hsz, htk⟩ : ∃ gW cur0, a = some ⟨gW, 0, none⟩ ∧ B ≤ gW ∧ w.heap[gW]? = some (.cells cur0 9 (0, 0)) ∧ n ≤ cap ∧ cap ≤ maxLen ∧ cur0.size = cap * 1 ∧ cur0.toList.take (n * 1) = flatT l := by
  rcases ROW.out.own.2 with ⟨h1, h2⟩ | ⟨g1, cap1, cur1, h1, h2, h3, h4, h5, h6, h7⟩
  ·exact absurd h2 (by omega)
  simp only [Value.slice.injEq, true_and] at h1
  obtain ⟨h8, h9⟩ := h1
  subst h9
  exact ⟨g1, cur1, h8, h2, h3, h4, h5, h6, h7⟩
 subst ha
 have NEG := hid (NE.out _ rfl)
 have ST0 := hid (show DelS (hasText (x.ds.take D)) l n cap k0 (k0 + 1) cur0 from DelS.start HN.out (by omega) hnc (fun q hq => by
  have h9 : (cur0.toList.take (n * 1))[q]? = (flatT l)[q]? := by rw [htk]
  rw [List.getElem?_take_of_lt (by omega), Array.getElem?_toList] at h9
  rw [h9, flatT, List.getElem?_map]) hk0 hall hu0 hP0)
 have K1 := hid (show Blk w1 gW cur0 9 from (hb1.block gW (show gW < w.heap.size from (show Blk w gW cur0 9 from hg0).lt)).trans hg0)
 have GR1 := hid (show w.grownBy w1 (some gW) from grown_of hb1)
 have HB := hid (show B ≤ gW ∧ n ≤ cap ∧ cap ≤ maxLen from ⟨hBg, hnc, hcm⟩)
 clear hall hb1 hg0 hsz htk hu0 hP0 hBg hcm
 go_wp2_with fail
 go_loopw [5, 6, 7] (fun s5 s6 _ wr => ∃ (i j : Nat) (cur : Array Value), s5 = .int .i64 i ∧ s6 = .int .i64 j ∧ DelS (hasText (x.ds.take D)) l n cap i j cur ∧ Blk wr gW cur 9 ∧ w.grownBy wr (some gW)) (fun _ s6 _ _ => n - (intOf s6).toNat)
 case atStart => exact ⟨k0, k0 + 1, cur0, rfl, by go_num, ST0.out, K1.out, GR1.out⟩
 obtain ⟨i, j, cur, rfl, rfl, hds, hkb, hgr⟩ := hrel
 have DS := hid hds
 have KB := hid hkb
 have GR := hid hgr
 have hij := hds.ij
 have hjn := hds.jn
 have hLD := hid (show DkS g tb vb x p ct wr from ⟨(hgr.block g HD.out.k.lt (by simp only [ne_eq, Option.some.injEq]; exact Ne.symm NEG.out.1)).trans HD.out.k, (hgr.block tb HD.out.t.lt (by simp only [ne_eq, Option.some.injEq]; exact Ne.symm NEG.out.2.1)).trans HD.out.t, (hgr.block vb HD.out.v.lt (by simp only [ne_eq, Option.some.injEq]; exact Ne.symm NEG.out.2.2.1)).trans HD.out.v, fun q s hs => by
  obtain ⟨b, off, hab, hlt, c0, c1, r⟩ := HD.out.s q s hs
  have hbb := hgr.block b hlt (by simp only [ne_eq, Option.some.injEq]; exact NEG.out.2.2.2 _ hab)
  exact ⟨b, off, hab, Nat.lt_of_lt_of_le hlt hgr.size, (World.cell?_of_block (show wr.heap[(⟨b, off + q * 2, none⟩ : Addr).block]? = w.heap[(⟨b, off + q * 2, none⟩ : Addr).block]? from hbb)).trans c0, (World.cell?_of_block (show wr.heap[(⟨b, off + q * 2 + 1, none⟩ : Addr).block]? = w.heap[(⟨b, off + q * 2 + 1, none⟩ : Addr).block]? from hbb)).trans c1, r⟩⟩)
 clear hds hkb hgr
 by_cases hlt : j < n
 ·obtain ⟨u, hu0⟩ : ∃ s, l[j]? = some s := ⟨_, List.getElem?_eq_getElem (by rw [HN.out]; exact hlt)⟩
  have HU := hid hu0
  have cj : wr.cell? ⟨gW, j, none⟩ = some (.string u) := (KB.out.cell j).trans (by rw [DS.out.hi j (Nat.le_refl _) hlt, hu0]; rfl)
  clear hu0
  have e1 : (0 : Int) ≤ (j : Int) := by omega
  have e2 : (j : Int) < (n : Int) := by omega
  have e3 : IntKind.i64.wrap ((j : Int) + 1) = (j : Int) + 1 := by go_arith
  have e4 : IntKind.i64.wrap ((i : Int) + 1) = (i : Int) + 1 := by go_arith
  have e5 : (0 : Int) ≤ (i : Int) := by omega
  have e6 : (i : Int) < (n : Int) := by omega
  go_wp2_with fail
  refine (drop1 g tb vb x p ct D u wr HC.out hLD.out).mono ?_
  rintro e z ⟨rfl, hz⟩
  have KZ := hid (KB.out.ext hz)
  have GZ := hid (show w.grownBy z (some gW) from grown_ext GR.out hz)
  clear hz cj
  cases hq : hasText (x.ds.take D) u
  ·have HQ := hid hq
   clear hq
   have ci := KZ.out.cell i
   have fi := KZ.out.free i
   obtain ⟨old, hold⟩ : ∃ o, cur[i]? = some o := ⟨_, Array.getElem?_eq_getElem (by have := DS.out.sz; have := DS.out.nc; omega)⟩
   rw [hold] at ci
   clear hold
   go_wp2_with fail
   go_roundw
   case rel =>
    refine ⟨i + 1, j + 1, cur.setIfInBounds i (.string u), by go_num, by go_num, DS.out.keep hlt HU.out HQ.out, KZ.out.set (.string u), ?_⟩
    exact ⟨GZ.out.os, GZ.out.tape, GZ.out.output, by simpa using GZ.out.size, fun b hb hn => (heap_setCell_other _ ⟨gW, i, none⟩ b _ (fun e => hn (by rw [e]))).trans (GZ.out.block b hb hn)⟩
   case measure => simp [intOf]; omega
  have HQ := hid hq
  clear hq
  go_wp2_with fail
  go_roundw
  case rel => exact ⟨i, j + 1, cur, rfl, by go_num, DS.out.skip hlt HU.out HQ.out, KZ.out, GZ.out⟩
  case measure => simp [intOf]; omega
 have hjj : j = n := by omega
 subst hjj
 have e5 : (0 : Int) ≤ (i : Int) := by omega
 have e6 : (i : Int) ≤ (j : Int) := by omega
 have e7 : (i : Int) ≤ (cap : Int) := by omega
 have hcl : ∀ ty, (Builtin.clear_ #[26] ty #[.slice (some ⟨gW, i, none⟩) (j - i) (cap - i)]).run Tryz.prog wr = .ok (.tuple #[]) (wr.setCells gW i (List.replicate (j - i) (.string ⟨#[]⟩))) :=
  fun ty => Lib.run_clear_slice wr _ _ ty _ Tryz.underlying26 (fun w => by kernel_rfl) rfl rfl gW i _ _ (by omega) (fun t ht => by
   rw [KB.out.cell (i + t)]
   have : i + t < cur.size := by have := DS.out.sz; have := DS.out.nc; omega
   simp [this]) (fun t ht => KB.out.free (i + t))
 go_wp2_with fail
 go_ret
 obtain ⟨cur', k', s', l'⟩ := blk_setCells (List.replicate (j - i) (.string ⟨#[]⟩)) i wr cur KB.out
 obtain ⟨h1, h2⟩ := DS.out.done s' l'
 unfold DelP
 rw [show LD x D l = l.filter (fun t => !hasText (x.ds.take D) t) from rfl, ← h1]
 exact ⟨rfl, ⟨by rw [flatT, List.length_map, ← h1, Nat.mul_one], .inr ⟨gW, cap, cur', rfl, HB.out.1, k', by omega, HB.out.2.2, by rw [s', DS.out.sz, Nat.mul_one], by rw [Nat.mul_one]; exact h2⟩⟩, grown_setCells _ _ _ GR.out⟩
end Go.Proofs.YtffklmlljekceaaGreat
