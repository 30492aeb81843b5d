/-
  RecBook: the texts of the Disk's first Known slots; spec.RecBook, impl.RecBook (no marks).
-/
import Derived.Test.YtgjommccflfjaaaImplValid
import Derived.Test.YtgjommccflfjaaaSpecValid
import Derived.Deep.DeepAppendWide
import Derived.Deep.DeepAppendRoom
import Derived.WalkSmall
import Derived.OwnWalk
import Derived.Laws.AppendOwnNone
namespace Go.Proofs.Ytgjommccflfjaaa
open Go.ChangeShapes Go.WideShapes Go.ChangeAt Go.RowKit
set_option linter.unusedVariables false
set_option linter.unusedSimpArgs false

theorem hid {p : Prop} (h : p) : Hid p := h
theorem blk_news {w : World} {g : Nat} {cs : List Value} {t : TypeId} (h : Blk w g cs.toArray t) : ∀ j u, cs[j]? = some u → w.cell? ((⟨g, 0, none⟩ : Addr).add j) = some u := fun j u hu => by
  rw [show (⟨g, 0, none⟩ : Addr).add j = ⟨g, j, none⟩ by unfold Addr.add; split <;> simp_all]
  rw [h.cell, List.getElem?_toArray]; exact hu
theorem ext_grown {a b c : World} {row : Option Nat} (h : Below a.heap.size a b) (k : b.grownBy c row) (hr : ∀ j, row = some j → a.heap.size ≤ j) : Below a.heap.size a c :=
  h.trans ⟨k.os, k.tape, k.output, k.size, fun i hi => k.block i (Nat.lt_of_lt_of_le hi h.size) (fun e => by have := hr i e.symm; omega)⟩
theorem own_ext' {w w' : World} {B n k : Nat} {e : TypeId} {v : Value} {xs : List Value} (h : w.ownsRow B e k v n xs) (hb : Below w.heap.size w w') : w'.ownsRow B e k v n xs := by
  refine ⟨h.1, ?_⟩
  rcases h.2 with h0 | ⟨g, cap, cur, hv, hB, hg, r⟩
  · exact .inl h0
  · exact .inr ⟨g, cap, cur, hv, hB, (hb.block g (Array.getElem?_eq_some_iff.1 hg).1).trans hg, r⟩
theorem own_formk {w : World} {B n k : Nat} {e : TypeId} {v : Value} {xs : List Value} (h : w.ownsRow B e k v n xs) (hv : v ≠ .slice none 0 0) : ∃ g cap C, v = .slice (some ⟨g, 0, none⟩) n cap ∧ B ≤ g ∧ n ≤ cap ∧ Blk w g C e := by
  rcases h.2 with ⟨h0, _⟩ | ⟨g, cap, cur, rfl, hb, hg, hn, _⟩
  · exact absurd h0 hv
  · exact ⟨g, cap, cur, rfl, hb, hn, hg⟩
theorem info_strs : ∃ i, Try.prog.info? 9 = some i ∧ i.zero = some (.string ⟨#[]⟩) ∧ i.size = 1 ∧ i.bytes = 16 := info_parts (by kernel_rfl)
theorem wpList_append_strs {ops : Array Oper} {rest : List Oper} {dst : Option Tmp} {s x : Operand} {τ : TypeId} {pos : String} {after : Array Edge} {a : Act} {w : World} {Q : Exit → Act → World → Prop}
    (B : Nat) (v : Value) (xs news : List Value) (n m c : Nat) (ad : Addr) (hs : a.eval s = v) (hx : a.eval x = .slice (some ad) m c) (hown : w.ownsRow B 9 1 v n xs) (hl : news.length = m * 1)
    (hnews : ∀ j u, news[j]? = some u → w.cell? (ad.add j) = some u) (h1 : ∀ u ∈ news, u.oneCell' = true) (hN : n + m ≤ 4194304) (hB : B ≤ w.heap.size)
    (h : ∀ v' w', w'.ownsRow B 9 1 v' (n + m) (xs ++ news) → w.grownBy w' v.ownBlock → (v' = .slice none 0 0 ↔ v = .slice none 0 0 ∧ m = 0) → wpList Try.prog ops Q rest (a.put dst v') w') :
    wpList Try.prog ops Q ({ dst := dst, op := .call { callee := .builtin .append, args := #[s, x], argTypes := #[47, 47] }, type := τ, pos := pos, after := after, guard := none } :: rest) a w := by
  obtain ⟨i, q1, q2, q3, q4⟩ := info_strs
  exact wpList_append_own_wide w rfl s x 47 rfl B 9 i (.string ⟨#[]⟩) 1 16 Try.underlying47 q1 q2 q3 q4 rfl (by omega) v n xs hs hown ad m c news hx hl hnews h1 (by unfold maxLen; omega) (by omega) hB h

def bookL (r : Rc) : List ByteArray := (r.ds.take r.dk.toNat).map (·.2)
def bookR (r : Rc) : List ByteArray := if validB r = true then bookL r else []
theorem bookR_yes {r : Rc} (h : validB r = true) : bookR r = bookL r := if_pos h
theorem bookR_no {r : Rc} (h : validB r = false) : bookR r = [] := by simp [bookR, h]
theorem valid_known {r : Rc} (h : validB r = true) : 0 ≤ r.dk ∧ r.dk ≤ r.ds.length ∧ r.ds.length ≤ 60 := by
  simp only [validB, Bool.and_eq_true] at h
  obtain ⟨⟨⟨⟨⟨⟨⟨⟨⟨⟨⟨_, _⟩, hd⟩, _⟩, _⟩, _⟩, _⟩, _⟩, _⟩, _⟩, _⟩, _⟩ := h
  simp only [diskOkB, slotsOkB, Bool.and_eq_true, decide_eq_true_eq] at hd
  obtain ⟨⟨⟨_, ⟨h1, _⟩⟩, h2⟩, _⟩ := hd
  exact ⟨(inB_iff.1 h2).1, (inB_iff.1 h2).2, h1⟩
theorem book_at {r : Rc} {k : Nat} {s : Sl} (hs : r.ds[k]? = some s) (hk : k < r.dk.toNat) : (bookL r)[k]? = some s.2 := by
  simp [bookL, List.getElem?_map, List.getElem?_take, hk, hs]
theorem book_len {r : Rc} {n : Nat} (hk : r.dk = (n : Int)) (hn : n ≤ r.ds.length) : (bookL r).length = n := by
  simp [bookL, hk]; omega
theorem book_good {r : Rc} (h : GoodSlots r.ds) : GoodOnes okS (bookL r) := fun i s hs => by
  have hi : i < (bookL r).length := (List.getElem?_eq_some_iff.1 hs).1
  simp only [bookL, List.length_map, List.length_take] at hi
  have hd : r.ds[i]? = some r.ds[i] := List.getElem?_eq_getElem (by omega)
  rw [book_at hd (by omega)] at hs
  simp only [Option.some.injEq] at hs
  rw [← hs]
  exact (h i _ hd).1

set_option maxHeartbeats 8000000 in
theorem implBook (r : Rc) (p : RcP) (w : World) (hW : Hid (r.wish.length ≤ p.cW)) (h : RcAt w r p) :
    Calls Try.prog 79 #[.agg (rcV r p)] w fun e w' => ∃ a c, e = .returned (.slice a (bookR r).length c) ∧ StrsAt w' a (bookR r) ∧ Below w.heap.size w w' := by
  have hB : Below w.heap.size w (w.alloc (.cells (rcV r p) 51)) := ext_alloc (Below.refl _ _) _
  have H := hid h
  have HB := hid hB
  have b0 := hid (Blk.new w (rcV r p) 51)
  have BB := b0.out
  clear h hB
  obtain ⟨L, hL0⟩ : ∃ L, L = bookR r := ⟨_, rfl⟩
  rw [← hL0]
  have HLr := hid hL0
  clear hL0
  go_enter Try.func79, Try.ntmps79
  go_wp2_with ((with_reducible refine wpList_load_rec w.heap.size (rcV r p) ?_ ?_ ?_ ?_); (· rfl); (· rfl); (· exact BB))
  refine (implValid r p _ hW (H.out.ext HB.out)).mono ?_
  rintro e w1 ⟨rfl, hb1⟩
  have B1 := hid (ext_trans HB.out hb1)
  have b1 := hid (b0.out.ext hb1)
  clear hb1 b0 BB
  cases hv : validB r
  · go_wp2_with fail
    go_ret
    have e9 := HLr.out
    rw [bookR_no hv] at e9
    subst e9
    exact ⟨none, 0, rfl, fun i s hs => by simp at hs, B1.out⟩
  · have e9 := HLr.out
    rw [bookR_yes hv] at e9
    subst e9
    clear HLr
    obtain ⟨v0, v1, v2⟩ := valid_known hv
    obtain ⟨n, hn0⟩ : ∃ n : Nat, r.dk = (n : Int) := ⟨r.dk.toNat, by omega⟩
    have HN := hid hn0
    have hn : n ≤ r.ds.length := by omega
    have BL := hid (book_len hn0 hn)
    have HD := hid (show r.dk.toNat = n by omega)
    have hn6 : n ≤ 60 := by omega
    have cb := (b1.out.cell 7).trans (show (rcV r p)[7]? = some (Value.int .i64 (n : Int)) by rw [← hn0]; rfl)
    have cs := (b1.out.cell 8).trans (show (rcV r p)[8]? = some (Value.slice p.aD r.ds.length p.cD) from rfl)
    have hmk := makeStrs n (by omega)
    clear hn0 v0 v1
    go_wp2_with fail
    go_loopw [14] (fun i wr => ∃ (k : Nat) (C : Array Value), k ≤ n ∧ i = .int .i64 k ∧ Blk wr w1.heap.size C 9 ∧ OnesTo (fun z => Value.string z) C (bookL r) k ∧ Below w1.heap.size w1 wr) (fun i _ => n - (intOf i).toNat)
    case atStart => exact ⟨0, _, Nat.zero_le _, rfl, Blk.new _ _ _, ⟨by rw [size_madeCells, BL.out], fun i s hi => absurd hi (by omega)⟩, ext_alloc (Below.refl _ _) _⟩
    case round =>
      obtain ⟨k, C, hk, rfl, hB, hH, hbel⟩ := hrel
      clear cb cs
      by_cases hlt : k < n
      · obtain ⟨s, hs⟩ : ∃ s, r.ds[k]? = some s := ⟨_, List.getElem?_eq_getElem (by omega)⟩
        obtain ⟨b, off, e0, hb, c0, c1, _⟩ := ((H.out.ext (ext_trans B1.out hbel)).hD) k s hs
        have cs : wr.cell? ⟨w.heap.size, 8, none⟩ = some (.slice (some ⟨b, off, none⟩) r.ds.length p.cD) := by rw [((b1.out.ext hbel).cell 8), ← e0]; rfl
        have HS := hid (hH.step (book_at hs (by rw [HD.out]; exact hlt)))
        have hz : C.size = n := by rw [hH.1, BL.out]
        obtain ⟨x0, hx0⟩ : ∃ v, C[k]? = some v := ⟨_, Array.getElem?_eq_getElem (by omega)⟩
        clear hs hH
        have e1 : (0 : Int) ≤ (k : Int) := by omega
        have e2 : (k : Int) < (n : Int) := by omega
        have e3 : (k : Int) < (r.ds.length : Int) := by omega
        have f0 := hB.free k
        have g0 := (hB.cell k).trans hx0
        clear hx0 hz c0
        have HB2 := hid hB
        have HBel := hid hbel
        clear hB hbel e0
        go_wp2
        go_roundw
        case rel => exact ⟨k + 1, _, by omega, by go_num, heap_setCell_same _ _ _ _ _ _ HB2.out, HS.out, HBel.out.setCell (Nat.le_refl _) _⟩
        case measure => simp [intOf]; omega
      · have hkk : k = n := by omega
        subst hkk
        go_wp2
        go_ret
        have OO : StrsOwn wr w1.heap.size (bookL r) := ⟨C, hB, by rw [BL.out]; exact hH⟩
        rw [BL.out]
        exact ⟨some ⟨w1.heap.size, 0, none⟩, k, rfl, OO.at (book_good H.out.hD.good), ext_trans B1.out hbel⟩

theorem bookL_take {r : Rc} {k : Nat} {s : Sl} (hs : r.ds[k]? = some s) (hk : k < r.dk.toNat) : (bookL r).take (k + 1) = (bookL r).take k ++ [s.2] := by
  rw [List.take_add_one, book_at hs hk]; rfl
theorem own_noneT (w : World) (e : TypeId) (size : Nat) : (w.alloc (.cells #[] e)).ownsRow w.heap.size e size (.slice (some ⟨w.heap.size, 0, none⟩) 0 0) 0 [] :=
  ⟨by simp, .inr ⟨w.heap.size, 0, #[], rfl, Nat.le_refl _, heap_alloc_new w _, Nat.le_refl _, by unfold maxLen; omega, by simp, by simp⟩⟩
theorem own_strs_at {w : World} {B g n cap : Nat} {l : List ByteArray} (h : w.ownsRow B 9 1 (.slice (some ⟨g, 0, none⟩) n cap) n (l.map (fun z => Value.string z))) (hg : GoodOnes okS l) : StrsAt w (some ⟨g, 0, none⟩) l := fun i s hs => by
  have hl := h.1
  have hi : i < l.length := (List.getElem?_eq_some_iff.1 hs).1
  simp only [List.length_map] at hl
  have c0 := (h.cellAt i (by omega)).trans (show (l.map (fun z => Value.string z))[i]? = some (.string s) by simp [hs])
  exact ⟨g, 0, rfl, World.block_lt_of_cell? w _ c0, by rw [Nat.zero_add]; exact c0, hg i s hs⟩

set_option maxHeartbeats 8000000 in
theorem specBook (r : Rc) (p : RcP) (w : World) (hS : RcSmall r) (h : RcAt w r p) :
    Calls Try.prog 46 #[.agg (rcV r p)] w fun e w' => ∃ a c, e = .returned (.slice a (bookR r).length c) ∧ StrsAt w' a (bookR r) ∧ Below w.heap.size w w' := by
  obtain ⟨W0, hW0⟩ : ∃ W0, W0 = w.alloc (.cells (rcV r p) 51) := ⟨_, rfl⟩
  have H := hid h
  have HB : Hid (Below w.heap.size w (W0.alloc (.cells #[] 9))) := by rw [hW0]; exact ext_alloc (ext_alloc (Below.refl _ _) _) _
  have b0 : Hid (Blk (W0.alloc (.cells #[] 9)) w.heap.size (rcV r p) 51) := by rw [hW0]; exact (Blk.new w (rcV r p) 51).alloc _
  have OW := hid (own_noneT W0 9 1)
  have SZ := hid (show w.heap.size < W0.heap.size by rw [hW0]; simp)
  have E1 := hid (show W0.heap.size = w.heap.size + 1 by rw [hW0]; simp)
  have BB := b0.out
  rw [hW0] at BB
  clear h
  obtain ⟨L, hL0⟩ : ∃ L, L = bookR r := ⟨_, rfl⟩
  rw [← hL0]
  have HLr := hid hL0
  clear hL0
  go_enter Try.func46, Try.ntmps46
  go_wp2_with ((with_reducible refine wpList_load_rec w.heap.size (rcV r p) ?_ ?_ ?_ ?_); (· rfl); (· rfl); (· exact BB))
  rw [← hW0]
  refine (specValid r p _ hS (H.out.ext HB.out)).mono ?_
  rintro e w1 ⟨rfl, hb1⟩
  have B1 := hid (ext_trans HB.out hb1)
  have b1 := hid (b0.out.ext hb1)
  have O1 := hid (own_ext' OW.out hb1)
  clear hb1 b0 BB OW HB
  cases hv : validB r
  · go_wp2_with fail
    go_ret
    have e9 := HLr.out
    rw [bookR_no hv] at e9
    subst e9
    exact ⟨_, 0, rfl, fun i s hs => by simp at hs, B1.out⟩
  · have e9 := HLr.out
    rw [bookR_yes hv] at e9
    subst e9
    clear HLr
    obtain ⟨v0, v1, v2⟩ := valid_known hv
    obtain ⟨n, hn0⟩ : ∃ n : Nat, r.dk = (n : Int) := ⟨r.dk.toNat, by omega⟩
    have hn : n ≤ r.ds.length := by omega
    have BL := hid (book_len hn0 hn)
    have HD := hid (show r.dk.toNat = n by omega)
    have hn6 : n ≤ 60 := by omega
    have CB := hid (show (rcV r p)[7]? = some (Value.int .i64 (n : Int)) by rw [← hn0]; rfl)
    clear hn0 v0 v1
    go_wp2_with fail
    go_loopw [3, 4] (fun v i wr => ∃ (k g cap : Nat), k ≤ n ∧ i = .int .i64 k ∧ v = .slice (some ⟨g, 0, none⟩) k cap ∧ wr.ownsRow W0.heap.size 9 1 (.slice (some ⟨g, 0, none⟩) k cap) k (((bookL r).take k).map (fun z => Value.string z)) ∧ Blk wr w.heap.size (rcV r p) 51 ∧ Below w.heap.size w wr) (fun _ i _ => n - (intOf i).toNat)
    case atStart => exact ⟨0, w.heap.size + 1, 0, Nat.zero_le _, rfl, rfl, by have h9 := O1.out; rw [E1.out] at h9 ⊢; exact h9, b1.out, B1.out⟩
    case round =>
      obtain ⟨k, g, cap, hk, rfl, rfl, hown, hB, hbel⟩ := hrel
      have OO := hid hown
      have HBl := hid hB
      have HBe := hid hbel
      have cb := (hB.cell 7).trans CB.out
      clear hown hB hbel
      by_cases hlt : k < n
      · obtain ⟨s, hs0⟩ : ∃ s, r.ds[k]? = some s := ⟨_, List.getElem?_eq_getElem (by omega)⟩
        have hs := hid hs0
        obtain ⟨b, off, e0, hb, c0, c1, _⟩ := ((H.out.ext HBe.out).hD) k s hs0
        have cs : wr.cell? ⟨w.heap.size, 8, none⟩ = some (.slice (some ⟨b, off, none⟩) r.ds.length p.cD) := by rw [HBl.out.cell 8, ← e0]; rfl
        clear hs0 c0 e0
        have e1 : (0 : Int) ≤ (k : Int) := by omega
        have e2 : (k : Int) < (n : Int) := by omega
        have e3 : (k : Int) < (r.ds.length : Int) := by omega
        have NEWS := hid (blk_news (show Blk (wr.alloc (.cells #[.string s.2] 9)) wr.heap.size ([Value.string s.2]).toArray 9 from Blk.new wr _ _))
        have OA := hid (OO.out.alloc (.cells #[.string s.2] 9))
        have SZ2 := hid (show W0.heap.size ≤ (wr.alloc (.cells #[.string s.2] 9)).heap.size by have := (OO.out.lt g rfl); simp; omega)
        have GG := hid (show w.heap.size < g by have := (OO.out.lt g rfl); have := SZ.out; omega)
        go_wp2_with ((with_reducible refine wpList_append_strs W0.heap.size (.slice (some ⟨g, 0, none⟩) k cap) (((bookL r).take k).map (fun z => Value.string z)) [.string s.2] k 1 1 ⟨wr.heap.size, 0, none⟩ ?_ ?_ ?_ ?_ ?_ ?_ ?_ ?_ ?_); (· rfl); (· rfl); (· exact OA.out); (· rfl); (· exact NEWS.out); (· intro u hu; simp at hu; subst hu; rfl); (· omega); (· exact SZ2.out); intro v' w' r1 r2 r3; have R1 := hid r1; have R2 := hid r2; have R3 := hid r3; clear r1 r2 r3)
        obtain ⟨g2, cap2, C2, rfl, hb9, hn9, _⟩ := own_formk R1.out (fun e => by have := (R3.out.1 e).1; simp at this)
        go_roundw
        case rel =>
          refine ⟨k + 1, g2, cap2, by omega, by go_num, rfl, ?_, ?_, ?_⟩
          · rw [bookL_take hs.out (by rw [HD.out]; exact hlt), List.map_append]
            exact R1.out
          · have hb0 : Blk (wr.alloc (.cells #[.string s.2] 9)) w.heap.size (rcV r p) 51 := HBl.out.alloc _
            exact (R2.out.block w.heap.size hb0.lt (by have := GG.out; simp [Value.ownBlock]; omega)).trans hb0
          · exact ext_grown (ext_alloc HBe.out _) R2.out (fun j hj => by have := GG.out; simp [Value.ownBlock] at hj; omega)
        case measure => simp [intOf]; omega
      · have hkk : k = n := by omega
        subst hkk
        go_wp2
        go_ret
        rw [BL.out]
        have h9 := OO.out
        rw [List.take_of_length_le (by rw [BL.out]; omega)] at h9
        exact ⟨_, cap, rfl, own_strs_at h9 (book_good H.out.hD.good), HBe.out⟩
end Go.Proofs.Ytgjommccflfjaaa
