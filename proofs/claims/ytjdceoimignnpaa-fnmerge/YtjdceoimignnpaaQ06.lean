import Derived.Test.YtjdceoimignnpaaQ05
namespace Go.Proofs.Ytjdceoimignnpaa
open Go.ChangeShapes Go.WideShapes Go.ChangeAt Go.RowKit
set_option linter.unusedVariables false
set_option linter.unusedSimpArgs false
set_option maxHeartbeats 16000000
set_option maxRecDepth 20000
variable {H : List Mp} {xs : List Value} {B c g hi2 lo2 n n1 n3 n4 n5 n6 n7 n8 z : Nat} {col : Nat → Nat} {e : TypeId} {v : Value} {V w w' : World}
theorem own_low {B' size : Nat} (h : w.ownsRow B e size v n xs) (hb : B' ≤ B) : w.ownsRow B' e size v n xs := by
 refine ⟨h.1, ?_⟩;rcases h.2 with h0 | ⟨g, cap, cur, hv, hB, r⟩
 ·exact .inl h0
 exact .inr ⟨g, cap, cur, hv, Nat.le_trans hb hB, r⟩
theorem l1Disk_at (x y : Int) (a : Option Addr) (l : List Sl) (n cap : Nat) (w : World) (hn : l.length = n) (hc : n ≤ 1048576) (ha : a = none → cap = 0) (hsp : ∀ x, a = some x → x.spot = none) (h : SlotsAt w a l) :
  Calls Try.prog 35 #[.agg #[.int .i64 x, .int .i64 y, .slice a n cap]] w fun e w' => ∃ g' cap', e = .returned (.agg #[.int .i64 x, .int .i64 y, .slice (some ⟨g', 0, none⟩) n cap']) ∧ w.heap.size ≤ g' ∧ w'.ownsRow w.heap.size 43 2 (.slice (some ⟨g', 0, none⟩) n cap') n (flat l) ∧ Below w.heap.size w w' := by
 have HL := hid hn;have hB := hid (show Below w.heap.size w ((w.alloc (.cells #[.int .i64 x, .int .i64 y, .slice a n cap] 25)).alloc (.cells #[.int .i64 0, .int .i64 0, .slice none 0 0] 25)) from ext_alloc (ext_alloc (Below.refl _ _) _) _);clear hn;go_enter Try.func35, Try.ntmps35;go_wp2_with fail;refine (l1Slots_at a l n cap _ HL.out hc ha hsp (h.ext hB.out)).mono ?_;rintro e w1 ⟨g, cap', rfl, hg, hown, hb1⟩;have b0 : Blk w1 w.heap.size #[.int .i64 x, .int .i64 y, .slice a n cap] 25 := ((Blk.new w _ _).alloc _).ext hb1;have b1 : Blk w1 (w.heap.size + 1) #[.int .i64 0, .int .i64 0, .slice none 0 0] 25 := (Blk.new' _ _ (by simp)).ext hb1;have c0 := b0.cell;have c1 := b1.cell;have f0 := b0.free;have f1 := b1.free;have hg' : w.heap.size + 1 < g := by simp at hg; omega
 have OW := hid (own_low hown (show w.heap.size + 1 + 1 ≤ _ by simp));have BB := hid (ext_trans hB.out hb1);clear b0 b1 h hown hb1 hg ha hsp;go_wp2;refine bodyPost_ret (v := .agg #[.int .i64 x, .int .i64 y, .slice (some ⟨g, 0, none⟩) n cap']) (by simp [results, Try.results35, go_sem, c0, c1]) rfl ⟨g, cap', rfl, by omega, ?_, ?_⟩
 ·refine own_low (B := w.heap.size + 1 + 1) ?_ (by omega);iterate 4 refine ownsRow_setCell_below ?_ (by simp; try omega) _
  exact OW.out
 iterate 4 refine Below.setCell ?_ (by simp; try omega) _
 exact BB.out
theorem l2Message_at (h : MsgH) (a : Option Addr) (l : List Sl) (n cap : Nat) (w : World) (hn : l.length = n) (hc : n ≤ 1048576) (ha : a = none → cap = 0) (hsp : ∀ x, a = some x → x.spot = none) (hs : SlotsAt w a l) :
  Calls Try.prog 83 #[.agg (msgV h (.slice a n cap))] w fun e w' => ∃ g' cap', e = .returned (.agg (msgV h (.slice (some ⟨g', 0, none⟩) n cap'))) ∧ w.heap.size ≤ g' ∧ w'.ownsRow w.heap.size 43 2 (.slice (some ⟨g', 0, none⟩) n cap') n (flat l) ∧ Below w.heap.size w w' := by
 have HL := hid hn;have hB := hid (show Below w.heap.size w ((w.alloc (.cells (msgV h (.slice a n cap)) 49)).alloc (.cells (msgV ⟨0, 0, 0, 0, 0, 0, ⟨#[]⟩⟩ (.slice none 0 0)) 49)) from ext_alloc (ext_alloc (Below.refl _ _) _) _);clear hn;go_enter Try.func83, Try.ntmps83;go_wp2_with fail;refine (l1Slots_at a l n cap _ HL.out hc ha hsp (hs.ext hB.out)).mono ?_;rintro e w1 ⟨g, cap', rfl, hg, hown, hb1⟩;have b0 : Blk w1 w.heap.size (msgV h (.slice a n cap)) 49 := ((Blk.new w _ _).alloc _).ext hb1;have b1 : Blk w1 (w.heap.size + 1) (msgV ⟨0, 0, 0, 0, 0, 0, ⟨#[]⟩⟩ (.slice none 0 0)) 49 := (Blk.new' _ _ (by simp)).ext hb1;have c0 := b0.cell;have c1 := b1.cell;have f0 := b0.free;have f1 := b1.free;have hg' : w.heap.size + 1 < g := by simp at hg; omega
 have OW := hid (own_low hown (show w.heap.size + 1 + 1 ≤ _ by simp));have BB := hid (ext_trans hB.out hb1);clear b0 b1 hs hown hb1 hg ha hsp;go_wp2;refine bodyPost_ret (v := .agg (msgV h (.slice (some ⟨g, 0, none⟩) n cap'))) (by simp [results, Try.results83, go_sem, c0, c1]) rfl ⟨g, cap', rfl, by omega, ?_, ?_⟩
 ·refine own_low (B := w.heap.size + 1 + 1) ?_ (by omega);iterate 9 refine ownsRow_setCell_below ?_ (by simp; try omega) _
  exact OW.out
 iterate 9 refine Below.setCell ?_ (by simp; try omega) _
 exact BB.out
def MsgsPlain (w : World) (a : Option Addr) (l : List Ms) : Prop := ∀ (i b off : Nat) (s : Ms) (sa : Option Addr) (m cap : Nat), l[i]? = some s → a = some ⟨b, off, none⟩ → w.cell? ⟨b, off + i * 8 + 7, none⟩ = some (.slice sa m cap) → (sa = none → cap = 0) ∧ ∀ x, sa = some x → x.spot = none
theorem own_ext' {k : Nat} (h : w.ownsRow B e k v n xs) (hb : Below w.heap.size w w') : w'.ownsRow B e k v n xs := by
 refine ⟨h.1, ?_⟩;rcases h.2 with h0 | ⟨g, cap, cur, hv, hB, hg, r⟩
 ·exact .inl h0
 exact .inr ⟨g, cap, cur, hv, hB, (hb.block g (Array.getElem?_eq_some_iff.1 hg).1).trans hg, r⟩
theorem own_none8 (w : World) (e : TypeId) (size : Nat) : (w.alloc (.cells #[] e)).ownsRow w.heap.size e size (.slice (some ⟨w.heap.size, 0, none⟩) 0 0) 0 [] :=
 ⟨by simp, .inr ⟨w.heap.size, 0, #[], rfl, Nat.le_refl _, heap_alloc_new w _, Nat.le_refl _, by unfold maxLen; omega, by simp, by simp⟩⟩
theorem own_formk {k : Nat} (h : w.ownsRow B e k v n xs) (hv : v ≠ .slice none 0 0) : ∃ g cap C, v = .slice (some ⟨g, 0, none⟩) n cap ∧ B ≤ g ∧ n ≤ cap ∧ Blk w g C e := by
 rcases h.2 with ⟨h0, _⟩ | ⟨g, cap, cur, rfl, hb, hg, hn, _⟩
 ·exact absurd h0 hv
 exact ⟨g, cap, cur, rfl, hb, hn, hg⟩
structure ReadAt (w : World) (a : Option Addr) (n c k : Nat) (xs : List Value) : Prop where
 len : xs.length = n * k
 nil : a = none → n = 0 ∧ c = 0
 cells : ∀ x, a = some x → x.spot = none ∧ ∀ j u, xs[j]? = some u → w.cell? (x.add j) = some u
theorem RowC.read {t : Nat} {k : Nat} {a : Option Addr} (h : RowC B w col t e k a n c xs) : ReadAt w a n c k xs := by
 refine ⟨h.own.1, fun ha => ?_, fun x hx => ⟨h.plain.2 x hx, fun j u hu => ?_⟩⟩
 ·rcases h.form with ⟨_, h1, h2, _⟩ | ⟨g, cur, h1, _⟩
  ·exact ⟨h1, h2⟩
  rw [ha] at h1; simp at h1
 obtain ⟨g, h1, _, h2, _⟩ := h.cell hu;rw [hx] at h1;simp only [Option.some.injEq] at h1;rw [h1, Addr.add_mid, Nat.zero_add];exact h2
theorem ReadAt.ext {a : Option Addr} {k : Nat} (h : ReadAt w a n c k xs) (hb : Below w.heap.size w w') : ReadAt w' a n c k xs :=
 ⟨h.len, h.nil, fun x hx => ⟨(h.cells x hx).1, fun j u hu => by
  have h0 := (h.cells x hx).2 j u hu
  exact (hb.cell (World.block_lt_of_cell? w _ h0)).trans h0⟩⟩
structure RowZ (lo hi : Nat) (w : World) (e : TypeId) (k : Nat) (a : Option Addr) (n c : Nat) (xs : List Value) : Prop where
 own : w.ownsRow lo e k (.slice a n c) n xs
 hi : ∀ x, a = some x → x.block < hi
theorem RowZ.lo {lo hi : Nat} {k : Nat} {a : Option Addr} (h : RowZ lo hi w e k a n c xs) : ∀ x, a = some x → lo ≤ x.block ∧ x.block < w.heap.size := fun x hx => by
 have := h.own.lt x.block (by rw [hx]; rfl);exact this
theorem RowZ.mk' {lo : Nat} {k : Nat} {a : Option Addr} (h : w.ownsRow lo e k (.slice a n c) n xs) : RowZ lo w.heap.size w e k a n c xs :=
 ⟨h, fun x hx => (h.lt x.block (by rw [hx]; rfl)).2⟩
theorem RowZ.same {lo hi : Nat} {k : Nat} {a : Option Addr} (h : RowZ lo hi w e k a n c xs) (hs : ∀ b, lo ≤ b → b < hi → b < w.heap.size → w'.heap[b]? = w.heap[b]?) : RowZ lo hi w' e k a n c xs := by
 refine ⟨⟨h.own.1, ?_⟩, h.hi⟩;rcases h.own.2 with h0 | ⟨g, cap, cur, hv, hB, hg, r⟩
 ·exact .inl h0
 refine .inr ⟨g, cap, cur, hv, hB, ?_, r⟩;simp only [Value.slice.injEq] at hv;exact (hs g hB (h.hi _ hv.1) (Array.getElem?_eq_some_iff.1 hg).1).trans hg
theorem RowZ.ext {lo hi : Nat} {k : Nat} {a : Option Addr} (h : RowZ lo hi w e k a n c xs) (hb : Below w.heap.size w w') : RowZ lo hi w' e k a n c xs :=
 h.same fun b _ _ hlt => hb.block b hlt
theorem RowZ.below {lo hi : Nat} {k : Nat} {a : Option Addr} (h : RowZ lo hi w e k a n c xs) (hb : Below B w w') (hB : hi ≤ B) : RowZ lo hi w' e k a n c xs :=
 h.same fun b _ hlt _ => hb.block b (by omega)
theorem RowZ.set {lo hi : Nat} {k : Nat} {a : Option Addr} (h : RowZ lo hi w e k a n c xs) {q : Addr} (hq : q.block < lo) (v : Value) : RowZ lo hi (w.setCell q v) e k a n c xs :=
 h.same fun b h1 _ _ => heap_setCell_other w q b v (by omega)
theorem RowZ.row {lo hi : Nat} {t : Nat} {k : Nat} {a : Option Addr} (h : RowZ lo hi w e k a n c xs) (hB : B ≤ lo) (hc : ∀ b, lo ≤ b → b < hi → col b = t) : RowC B w col t e k a n c xs :=
 (RowC.mk (B := lo) h.own (fun x hx => hc _ (h.lo x hx).1 (h.hi x hx))).low hB
theorem own_slice {k : Nat} (h : w.ownsRow B e k v n xs) : ∃ a c, v = .slice a n c := by
 rcases h.2 with ⟨rfl, rfl⟩ | ⟨g, cap, _, rfl, _⟩
 ·exact ⟨_, _, rfl⟩
 exact ⟨_, _, rfl⟩
theorem Blk.set {b o : Nat} {c : Array Value} {t : TypeId} (h : Blk w b c t) (v : Value) : Blk (w.setCell ⟨b, o, none⟩ v) b (c.setIfInBounds o v) t := heap_setCell_same _ _ o _ _ v h
def colZ (n1 n2 n3 n4 n5 n6 n7 n8 b : Nat) : Nat := if b < n1 then 0 else if b < n2 then 1 else if b < n3 then 2 else if b < n4 then 7 else if b < n5 then 3 else if b < n6 then 4 else if b < n7 then 5 else if b < n8 then 6 else 8
structure Lad (n1 n2 n3 n4 n5 n6 n7 n8 : Nat) : Prop where
 h1 : n1 ≤ n2
 h2 : n2 ≤ n3
 h3 : n3 ≤ n4
 h4 : n4 ≤ n5
 h5 : n5 ≤ n6
 h6 : n6 ≤ n7
 h7 : n7 ≤ n8
theorem colZ_0 {n2 b : Nat} (L : Lad n1 n2 n3 n4 n5 n6 n7 n8) (h2 : b < n1) : colZ n1 n2 n3 n4 n5 n6 n7 n8 b = 0 := by
 obtain ⟨l1, l2, l3, l4, l5, l6, l7⟩ := L;unfold colZ;rw [if_pos h2]
theorem colZ_1 {n2 b : Nat} (L : Lad n1 n2 n3 n4 n5 n6 n7 n8) (h : n1 ≤ b) (h2 : b < n2) : colZ n1 n2 n3 n4 n5 n6 n7 n8 b = 1 := by
 obtain ⟨l1, l2, l3, l4, l5, l6, l7⟩ := L;unfold colZ;rw [if_neg (by omega), if_pos h2]
theorem colZ_7 {n2 b : Nat} (L : Lad n1 n2 n3 n4 n5 n6 n7 n8) (h : n3 ≤ b) (h2 : b < n4) : colZ n1 n2 n3 n4 n5 n6 n7 n8 b = 7 := by
 obtain ⟨l1, l2, l3, l4, l5, l6, l7⟩ := L;unfold colZ;rw [if_neg (by omega), if_neg (by omega), if_neg (by omega), if_pos h2]
theorem colZ_3 {n2 b : Nat} (L : Lad n1 n2 n3 n4 n5 n6 n7 n8) (h : n4 ≤ b) (h2 : b < n5) : colZ n1 n2 n3 n4 n5 n6 n7 n8 b = 3 := by
 obtain ⟨l1, l2, l3, l4, l5, l6, l7⟩ := L;unfold colZ;rw [if_neg (by omega), if_neg (by omega), if_neg (by omega), if_neg (by omega), if_pos h2]
theorem colZ_4 {n2 b : Nat} (L : Lad n1 n2 n3 n4 n5 n6 n7 n8) (h : n5 ≤ b) (h2 : b < n6) : colZ n1 n2 n3 n4 n5 n6 n7 n8 b = 4 := by
 obtain ⟨l1, l2, l3, l4, l5, l6, l7⟩ := L;unfold colZ;rw [if_neg (by omega), if_neg (by omega), if_neg (by omega), if_neg (by omega), if_neg (by omega), if_pos h2]
theorem colZ_5 {n2 b : Nat} (L : Lad n1 n2 n3 n4 n5 n6 n7 n8) (h : n6 ≤ b) (h2 : b < n7) : colZ n1 n2 n3 n4 n5 n6 n7 n8 b = 5 := by
 obtain ⟨l1, l2, l3, l4, l5, l6, l7⟩ := L;unfold colZ;rw [if_neg (by omega), if_neg (by omega), if_neg (by omega), if_neg (by omega), if_neg (by omega), if_neg (by omega), if_pos h2]
theorem colZ_8 {n2 b : Nat} (L : Lad n1 n2 n3 n4 n5 n6 n7 n8) (h : n8 ≤ b) : colZ n1 n2 n3 n4 n5 n6 n7 n8 b = 8 := by
 obtain ⟨l1, l2, l3, l4, l5, l6, l7⟩ := L;unfold colZ;rw [if_neg (by omega), if_neg (by omega), if_neg (by omega), if_neg (by omega), if_neg (by omega), if_neg (by omega), if_neg (by omega), if_neg (by omega)]
theorem below_set {a : World} (h : Below B a w) {q : Addr} (hq : B ≤ q.block) (v : Value) : Below B a (w.setCell q v) := h.setCell hq v
structure BoxS (z : Nat) (V : World) (g : Nat) (c : Array Value) (w' : World) : Prop where
 blk : Blk w' g c 31
 bel : Below z V w'
theorem BoxS.drew {c : Array Value} (h : BoxS z V g c w') : BoxS z V g c w'.drew := ⟨h.blk, h.bel.drew⟩
theorem BoxS.ext {c : Array Value} {v' : World} (h : BoxS z V g c w') (hz : z ≤ V.heap.size) (hb : Below w'.heap.size w' v') : BoxS z V g c v' := ⟨h.blk.ext hb, h.bel.trans (hb.mono (Nat.le_trans hz h.bel.size))⟩
structure InnZM (lo hi : Nat) (w : World) (H : List Mp) : Prop where
 row : ∀ m ∈ H, RowZ lo hi w 43 2 m.2.1 m.1.2.length m.2.2 (flat m.1.2)
 apart : H.Pairwise (fun m m' => ∀ x x', m.2.1 = some x → m'.2.1 = some x' → x.block ≠ x'.block)
theorem InnZM.ext {lo hi : Nat} (h : InnZM lo hi w H) (hb : Below w.heap.size w w') : InnZM lo hi w' H := ⟨fun m hm => (h.row m hm).ext hb, h.apart⟩
theorem InnZM.set {lo hi : Nat} (h : InnZM lo hi w H) {q : Addr} (hq : q.block < lo) (v : Value) : InnZM lo hi (w.setCell q v) H := ⟨fun m hm => (h.row m hm).set hq v, h.apart⟩
theorem InnZM.below {lo hi : Nat} (h : InnZM lo hi w H) (hb : Below B w w') (hB : hi ≤ B) : InnZM lo hi w' H := ⟨fun m hm => (h.row m hm).below hb hB, h.apart⟩
theorem InnZM.nil (lo hi : Nat) (w : World) : InnZM lo hi w [] := ⟨fun m hm => absurd hm (by simp), List.Pairwise.nil⟩
theorem InnZM.snoc {lo hi : Nat} {m : Mp} (h : InnZM lo hi w H) (hm : RowZ lo2 hi2 w 43 2 m.2.1 m.1.2.length m.2.2 (flat m.1.2)) (h1 : lo ≤ lo2) (h2 : hi ≤ lo2) (h3 : lo2 ≤ hi2) : InnZM lo hi2 w (H ++ [m]) := by
 refine ⟨fun u hu => ?_, ?_⟩
 ·rcases List.mem_append.1 hu with hu | hu
  ·have := h.row u hu;exact ⟨this.own, fun x hx => by have := this.hi x hx; omega⟩
  simp only [List.mem_cons, List.not_mem_nil, or_false] at hu;subst hu;refine ⟨⟨hm.own.1, ?_⟩, hm.hi⟩;rcases hm.own.2 with h0 | ⟨g, cap, cur, hv, hB, r⟩
  ·exact .inl h0
  exact .inr ⟨g, cap, cur, hv, by omega, r⟩
 rw [List.pairwise_append];refine ⟨h.apart, List.pairwise_singleton _ _, fun u hu v hv x x' hx hx' => ?_⟩;simp only [List.mem_cons, List.not_mem_nil, or_false] at hv;subst hv;have q1 := (h.row u hu).hi x hx;have q2 := (hm.lo x' hx').1;omega
structure InnZA (lo hi : Nat) (w : World) (H : List Ap) : Prop where
 row : ∀ m ∈ H, RowZ lo hi w 3 1 m.2.1 m.1.2.length m.2.2 (flatI m.1.2)
 apart : H.Pairwise (fun m m' => ∀ x x', m.2.1 = some x → m'.2.1 = some x' → x.block ≠ x'.block)
theorem InnZA.ext {lo hi : Nat} {H : List Ap} (h : InnZA lo hi w H) (hb : Below w.heap.size w w') : InnZA lo hi w' H := ⟨fun m hm => (h.row m hm).ext hb, h.apart⟩
theorem InnZA.nil (lo hi : Nat) (w : World) : InnZA lo hi w [] := ⟨fun m hm => absurd hm (by simp), List.Pairwise.nil⟩
theorem InnZA.snoc {lo hi : Nat} {H : List Ap} {m : Ap} (h : InnZA lo hi w H) (hm : RowZ lo2 hi2 w 3 1 m.2.1 m.1.2.length m.2.2 (flatI m.1.2)) (h1 : lo ≤ lo2) (h2 : hi ≤ lo2) (h3 : lo2 ≤ hi2) : InnZA lo hi2 w (H ++ [m]) := by
 refine ⟨fun u hu => ?_, ?_⟩
 ·rcases List.mem_append.1 hu with hu | hu
  ·have := h.row u hu;exact ⟨this.own, fun x hx => by have := this.hi x hx; omega⟩
  simp only [List.mem_cons, List.not_mem_nil, or_false] at hu;subst hu;refine ⟨⟨hm.own.1, ?_⟩, hm.hi⟩;rcases hm.own.2 with h0 | ⟨g, cap, cur, hv, hB, r⟩
  ·exact .inl h0
  exact .inr ⟨g, cap, cur, hv, by omega, r⟩
 rw [List.pairwise_append];refine ⟨h.apart, List.pairwise_singleton _ _, fun u hu v hv x x' hx hx' => ?_⟩;simp only [List.mem_cons, List.not_mem_nil, or_false] at hv;subst hv;have q1 := (h.row u hu).hi x hx;have q2 := (hm.lo x' hx').1;omega
structure InnRM (w : World) (H : List Mp) : Prop where
 row : ∀ m ∈ H, ReadAt w m.2.1 m.1.2.length m.2.2 2 (flat m.1.2)
structure InnRA (w : World) (H : List Ap) : Prop where
 row : ∀ m ∈ H, ReadAt w m.2.1 m.1.2.length m.2.2 1 (flatI m.1.2)
structure RcRead (w : World) (r : Rc) (p : RcP) (X : RcX) : Prop where
 s : ReadAt w p.aS r.ss.length p.cS 2 (flat r.ss)
 d : ReadAt w p.aD r.ds.length p.cD 2 (flat r.ds)
 h : ReadAt w p.aH r.held.length p.cH 8 (flatM X.H)
 hm : X.H.map (·.1) = r.held
 hi : InnRM w X.H
 t : ReadAt w p.aW r.wish.length p.cW 1 (flatT r.wish)
 y : ReadAt w p.aY r.yes.length p.cY 1 (flatI r.yes)
 b : ReadAt w p.aB r.best.length p.cB 2 (flat r.best)
 a : ReadAt w p.aA r.acks.length p.cA 2 (flatA X.A)
 am : X.A.map (·.1) = r.acks
 ai : InnRA w X.A
 gd : RcGood r
theorem RcHas.reads {r : Rc} {p : RcP} {X : RcX} (h : RcHas B w r p X col) : RcRead w r p X :=
 ⟨h.s.read, h.d.read, h.h.read, h.hm, ⟨fun m hm => (h.hi.row m hm).read⟩, h.t.read, h.y.read, h.b.read, h.a.read, h.am, ⟨fun m hm => (h.ai.row m hm).read⟩, h.gd⟩
theorem xor_i64 (a b : Nat) (ha : a < 4611686018427387904) (hb : b < 4611686018427387904) : bits .xor .i64 (a : Int) (b : Int) = ((a ^^^ b : Nat) : Int) := by
 have hx : a ^^^ b < 4611686018427387904 := Nat.xor_lt_two_pow (n := 62) ha hb;have h1 : (BitVec.ofInt 64 (a : Int)).toNat = a := by
  rw [BitVec.ofInt_natCast, BitVec.toNat_ofNat]; exact Nat.mod_eq_of_lt (by omega)
 have h2 : (BitVec.ofInt 64 (b : Int)).toNat = b := by
  rw [BitVec.ofInt_natCast, BitVec.toNat_ofNat]; exact Nat.mod_eq_of_lt (by omega)
 show IntKind.i64.wrap ((BitVec.ofInt 64 (a : Int) ^^^ BitVec.ofInt 64 (b : Int)).toNat : Int) = _;rw [BitVec.toNat_xor, h1, h2];obtain ⟨z, hz⟩ : ∃ z, z = a ^^^ b := ⟨_, rfl⟩
 rw [← hz] at hx ⊢;clear hz
 go_arith
structure RdA (w : World) (g : Nat) (ca : Option Addr) (n cap p : Nat) : Prop where
 k : Blk w g #[.slice ca n cap, .int .i64 (p : Int)] 96
 by_ : ∀ i, i < n → ∃ b off v, ca = some ⟨b, off, none⟩ ∧ b < w.heap.size ∧ b ≠ g ∧ 0 ≤ v ∧ v < 256 ∧ w.cell? ⟨b, off + i, none⟩ = some (.int .u8 v)
 n2 : n ≤ 2000
structure RdU (g : Nat) (w w' : World) : Prop where
 os : w'.os = w.os
 tape : w'.tape = w.tape
 output : w'.output = w.output
 size : w'.heap.size = w.heap.size
 block : ∀ b, b ≠ g → w'.heap[b]? = w.heap[b]?
theorem pickN (w : World) (g : Nat) (ca : Option Addr) (n cap p : Nat) (m : Int) (h : RdA w g ca n cap p) (hp : p ≤ 1000000000) (hm : m ≤ 1000000) :
  Calls Try.prog 57 #[.pointer (some ⟨g, 0, none⟩), .int .i64 m] w fun e w' => ∃ v : Int, e = .returned (.int .i64 v) ∧ 0 ≤ v ∧ (m ≤ v → v = 0) ∧ RdU g w w' ∧ RdA w' g ca n cap (p + 1) := by
 have S := hid h;have n2 := h.n2;have cK := h.k.cell;have fK := h.k.free;have e1 : IntKind.i64.wrap ((p : Int) + 1) = (p : Int) + 1 := by go_arith
 have e2 : IntKind.i64.wrap ((p : Int) + 1 - 1) = (p : Int) := by go_arith
 have e3 : IntKind.i64.wrap (p : Int) = (p : Int) := by go_arith
 obtain ⟨W, hW⟩ : ∃ W, W = w.setCell ⟨g, 1, none⟩ (.int .i64 ((p : Int) + 1)) := ⟨_, rfl⟩
 have U := hid (show RdU g w W by rw [hW]; exact ⟨rfl, rfl, rfl, by simp, fun b hb => heap_setCell_other _ ⟨g, 1, none⟩ b _ hb⟩)
 have A := hid (show RdA W g ca n cap (p + 1) by
  rw [hW];refine ⟨?_, fun i hi => ?_, h.n2⟩
  ·have := h.k.set (o := 1) (.int .i64 ((p : Int) + 1));simpa using this
  ·obtain ⟨b, off, v, h1, h2, h3, h4, h5, h6⟩ := h.by_ i hi
   exact ⟨b, off, v, h1, by simpa using h2, h3, h4, h5, (World.cell?_of_block (show (w.setCell ⟨g, 1, none⟩ (.int .i64 ((p : Int) + 1))).heap[(⟨b, off + i, none⟩ : Addr).block]? = w.heap[(⟨b, off + i, none⟩ : Addr).block]? from heap_setCell_other _ ⟨g, 1, none⟩ b _ h3)).trans h6⟩)
 have cW := (show Blk W g #[.slice ca n cap, .int .i64 ((p : Int) + 1)] 96 from A.out.k).cell;rw [hW] at cW;clear h;by_cases h1 : m < 1
 ·have u1 : decide (m < 1) = true := decide_eq_true h1;go_enter Try.func57, Try.ntmps57;go_wp2_with fail;rw [← hW];go_ret;exact ⟨0, rfl, by omega, fun _ => rfl, U.out, A.out⟩
 ·have u1 : decide (m < 1) = false := decide_eq_false h1;have hm1 : 1 ≤ m := by omega
  by_cases h2 : n = 0
  ·subst h2;go_enter Try.func57, Try.ntmps57;go_wp2_with fail;rw [← hW];go_ret;exact ⟨0, rfl, by omega, fun _ => rfl, U.out, A.out⟩
  ·have u2 : ((n : Int) == 0) = false := beq_false_of_ne (by omega);by_cases h3 : p < n
   ·have u3 : (p : Int) < (n : Int) := by omega
    have u4 : (0 : Int) ≤ (p : Int) := by omega
    obtain ⟨b, off, v, rfl, _, hbg, v0, v1, cv⟩ := A.out.by_ p h3;rw [hW] at cv;have v3 : IntKind.i64.wrap v = v := by go_arith
    have hmz : (m == 0) = false := beq_false_of_ne (by omega);have hmn : m ≠ 0 := by omega
    go_enter Try.func57, Try.ntmps57;go_wp2_with fail;rw [← hW];go_ret;have r0 := Int.emod_nonneg v hmn;have r1 := Int.emod_lt_of_pos v (show 0 < m by omega);exact ⟨v % m, rfl, r0, fun h => by omega, U.out, A.out⟩
   ·have u3 : ¬ (p : Int) < (n : Int) := by omega
    have u4 : (0 : Int) ≤ (p : Int) := by omega
    have hn0 : ((n : Int) == 0) = false := u2;obtain ⟨q1, hq1⟩ : ∃ q : Nat, q = p % n := ⟨_, rfl⟩
    have l1 : q1 < n := by rw [hq1]; exact Nat.mod_lt _ (by omega)
    have m1 : (p : Int) % (n : Int) = (q1 : Int) := by rw [hq1]; rfl
    have m1t : (p : Int).tmod (n : Int) = (q1 : Int) := by rw [Int.tmod_eq_emod_of_nonneg u4]; exact m1
    obtain ⟨q2, hq2⟩ : ∃ q : Nat, q = (p * 7 + 3) % n := ⟨_, rfl⟩
    have l2 : q2 < n := by rw [hq2]; exact Nat.mod_lt _ (by omega)
    have m2 : ((p : Int) * 7 + 3) % (n : Int) = (q2 : Int) := by rw [hq2]; rfl
    have m2t : ((p : Int) * 7 + 3).tmod (n : Int) = (q2 : Int) := by rw [Int.tmod_eq_emod_of_nonneg (by omega)]; exact m2
    obtain ⟨q3, hq3⟩ : ∃ q : Nat, q = p / n := ⟨_, rfl⟩
    have l3 : q3 ≤ p := by rw [hq3]; exact Nat.div_le_self _ _
    have m3 : (p : Int) / (n : Int) = (q3 : Int) := by rw [hq3]; rfl
    have m3t : (p : Int).tdiv (n : Int) = (q3 : Int) := by rw [Int.tdiv_eq_ediv_of_nonneg u4]; exact m3
    clear hq1 hq2 hq3;obtain ⟨b, off, v, rfl, _, hbg, v0, v1, cv⟩ := A.out.by_ q1 l1;obtain ⟨b2, off2, x, eb, _, _, x0, x1, cx⟩ := A.out.by_ q2 l2;simp only [Option.some.injEq, Addr.mk.injEq, and_true] at eb;obtain ⟨rfl, rfl⟩ := eb;have hmn : m ≠ 0 := by omega
    have i1 : (0 : Int) ≤ (q1 : Int) := by omega
    have i2 : (q1 : Int) < (n : Int) := by omega
    have i3 : (0 : Int) ≤ (q2 : Int) := by omega
    have i4 : (q2 : Int) < (n : Int) := by omega
    have w1 : IntKind.i64.wrap v = v := by go_arith
    have w2 : IntKind.i64.wrap x = x := by go_arith
    have w3 : IntKind.i64.wrap (v * 131) = v * 131 := by go_arith
    have w4 : IntKind.i64.wrap (x * 1117) = x * 1117 := by go_arith
    have w5 : IntKind.i64.wrap ((p : Int) * 7) = (p : Int) * 7 := by go_arith
    have w6 : IntKind.i64.wrap ((p : Int) * 7 + 3) = (p : Int) * 7 + 3 := by go_arith
    have w7 : IntKind.i64.wrap (v * 131 + x * 1117) = v * 131 + x * 1117 := by go_arith
    have w8 : IntKind.i64.wrap ((p : Int) * 29) = (p : Int) * 29 := by go_arith
    have w9 : IntKind.i64.wrap (v * 131 + x * 1117 + (p : Int) * 29) = v * 131 + x * 1117 + (p : Int) * 29 := by go_arith
    have wa : IntKind.i64.wrap ((q3 : Int) * 53) = (q3 : Int) * 53 := by go_arith
    have wb : IntKind.i64.wrap (v * 131 + x * 1117 + (p : Int) * 29 + (q3 : Int) * 53) = v * 131 + x * 1117 + (p : Int) * 29 + (q3 : Int) * 53 := by go_arith
    have wc : IntKind.i64.wrap (q1 : Int) = (q1 : Int) := by go_arith
    have wd : IntKind.i64.wrap (q2 : Int) = (q2 : Int) := by go_arith
    have we : IntKind.i64.wrap (q3 : Int) = (q3 : Int) := by go_arith
    have cK2 := (show Blk W g #[.slice (some ⟨b, off, none⟩) n cap, .int .i64 ((p : Int) + 1)] 96 from A.out.k).cell;go_enter Try.func57, Try.ntmps57;go_wp2_with fail;rw [← hW];clear hW cW cK fK
    go_quiet (fail)
    go_wp2_with fail;obtain ⟨X, hX⟩ : ∃ X : Nat, v * 131 + x * 1117 + (p : Int) * 29 + (q3 : Int) * 53 = (X : Int) := ⟨(v * 131 + x * 1117 + (p : Int) * 29 + (q3 : Int) * 53).toNat, by omega⟩
    have hXl : X < 4611686018427387904 := by omega
    rw [hX, show ((X : Int) / 64) = ((X / 64 : Nat) : Int) by omega, xor_i64 X (X / 64) hXl (by omega), Int.tmod_eq_emod_of_nonneg (by omega)];go_ret;have r0 := Int.emod_nonneg ((X ^^^ X / 64 : Nat) : Int) hmn;have r1 := Int.emod_lt_of_pos ((X ^^^ X / 64 : Nat) : Int) (show 0 < m by omega);have U2 : RdU g w (W.drewN nq) := ⟨U.out.os, U.out.tape, U.out.output, U.out.size, U.out.block⟩
    have A2 : RdA (W.drewN nq) g (some ⟨b, off, none⟩) n cap (p + 1) := ⟨A.out.k, A.out.by_, A.out.n2⟩
    exact ⟨_, rfl, r0, fun h => by omega, U2, A2⟩
end Go.Proofs.Ytjdceoimignnpaa
