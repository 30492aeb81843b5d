/-
  Lists of recorders (18 cells each): sz, to, eq of the same data twice.
-/
import Derived.Test.YtgjommccflfjaaaToRecOwn
namespace Go.Proofs.Ytgjommccflfjaaa
open Go.ChangeShapes Go.WideShapes Go.ChangeAt Go.RowKit Go.Deep Go.Joins
set_option linter.unusedVariables false
set_option linter.unusedSimpArgs false

/-- the recorders 'l' lie behind the address 'a' -/
def RecsAt (w : World) (a : Option Addr) (l : List Rc) : Prop :=
  ∀ (i : Nat) r, l[i]? = some r → ∃ b off p, a = some ⟨b, off, none⟩ ∧ b < w.heap.size ∧ w.rangeAt b (off + i * 18) (rcV r p).toList ∧ RcAt w r p
/-- so too, and there is room where their wishes lie -/
def RecsTo (w : World) (a : Option Addr) (l : List Rc) : Prop :=
  ∀ (i : Nat) r, l[i]? = some r → ∃ b off p, a = some ⟨b, off, none⟩ ∧ b < w.heap.size ∧ w.rangeAt b (off + i * 18) (rcV r p).toList ∧ RcAt w r p ∧ r.wish.length ≤ p.cW
theorem range_ext {w w' : World} {b o : Nat} {cs : List Value} (h : w.rangeAt b o cs) (hb : Below w.heap.size w w') (hlt : b < w.heap.size) : w'.rangeAt b o cs := fun j v hv =>
  (hb.cell (p := ⟨b, o + j, none⟩) hlt).trans (h j v hv)
theorem RecsAt.ext {w w' : World} {a : Option Addr} {l : List Rc} (h : RecsAt w a l) (hb : Below w.heap.size w w') : RecsAt w' a l := fun i r hr => by
  obtain ⟨b, off, p, ha, hlt, hc, hR⟩ := h i r hr
  exact ⟨b, off, p, ha, Nat.lt_of_lt_of_le hlt hb.size, range_ext hc hb hlt, hR.ext hb⟩
theorem RecsTo.ext {w w' : World} {a : Option Addr} {l : List Rc} (h : RecsTo w a l) (hb : Below w.heap.size w w') : RecsTo w' a l := fun i r hr => by
  obtain ⟨b, off, p, ha, hlt, hc, hR, hw⟩ := h i r hr
  exact ⟨b, off, p, ha, Nat.lt_of_lt_of_le hlt hb.size, range_ext hc hb hlt, hR.ext hb, hw⟩
theorem RecsTo.at {w : World} {a : Option Addr} {l : List Rc} (h : RecsTo w a l) : RecsAt w a l := fun i r hr => by
  obtain ⟨b, off, p, ha, hlt, hc, hR, hw⟩ := h i r hr
  exact ⟨b, off, p, ha, hlt, hc, hR⟩
def RecsSmall (l : List Rc) : Prop := ∀ (i : Nat) r, l[i]? = some r → RcSmall r

/-- a laws.Recorder out of the middle of a block -/
theorem wpList_load_lmid {ops : Array Oper} {rest : List Oper} {dst : Option Tmp} {x : Operand} {τ : TypeId} {pos : String} {after : Array Edge} {a : Act} {w : World} {Q : Exit → Act → World → Prop}
    (b o : Nat) (cs : Array Value) (hs : cs.size = 18) (hx : a.eval x = .pointer (some ⟨b, o, none⟩)) (hg : w.rangeAt b o cs.toList)
    (h : wpList Try.prog ops Q rest (a.put dst (.agg cs)) w) :
    wpList Try.prog ops Q ({ dst := dst, op := .load 91 x, type := τ, pos := pos, after := after, guard := none } :: rest) a w :=
  wpList_load_mid (op := { dst := dst, op := .load 91 x, type := τ, pos := pos, after := after, guard := none }) rfl 91 x rfl b o hx cs.toList _ hg Try.underlying91 rfl (by rw [Array.length_toList, hs]; kernel_rfl) (by rw [Array.toArray_toList]; exact h)
/-- an impl.Recorder out of the middle of a block -/
theorem wpList_load_imid {ops : Array Oper} {rest : List Oper} {dst : Option Tmp} {x : Operand} {τ : TypeId} {pos : String} {after : Array Edge} {a : Act} {w : World} {Q : Exit → Act → World → Prop}
    (b o : Nat) (cs : Array Value) (hs : cs.size = 18) (hx : a.eval x = .pointer (some ⟨b, o, none⟩)) (hg : w.rangeAt b o cs.toList)
    (h : wpList Try.prog ops Q rest (a.put dst (.agg cs)) w) :
    wpList Try.prog ops Q ({ dst := dst, op := .load 51 x, type := τ, pos := pos, after := after, guard := none } :: rest) a w :=
  wpList_load_mid (op := { dst := dst, op := .load 51 x, type := τ, pos := pos, after := after, guard := none }) rfl 51 x rfl b o hx cs.toList _ hg Try.underlying51 rfl (by rw [Array.length_toList, hs]; kernel_rfl) (by rw [Array.toArray_toList]; exact h)
/-- an impl.Recorder into the middle of a block -/
theorem wpList_store_imid {ops : Array Oper} {rest : List Oper} {dst : Option Tmp} {x y : Operand} {τ : TypeId} {pos : String} {after : Array Edge} {a : Act} {w : World} {Q : Exit → Act → World → Prop}
    (b o : Nat) (cells : Array Value) (hs : cells.size = 18) (hx : a.eval x = .pointer (some ⟨b, o, none⟩)) (hy : a.eval y = .agg cells) (ht : w.there b o 18) (h1 : cells.all (·.oneCell') = true)
    (h : wpList Try.prog ops Q rest (a.put dst undef) (w.setCells b o cells.toList)) :
    wpList Try.prog ops Q ({ dst := dst, op := .store 51 x y, type := τ, pos := pos, after := after, guard := none } :: rest) a w :=
  wpList_store_mid (op := { dst := dst, op := .store 51 x y, type := τ, pos := pos, after := after, guard := none }) rfl 51 x y rfl b o cells hx hy (by rw [hs]; exact ht) (by rw [hs]; kernel_rfl) h1 h

theorem rcV_one (r : Rc) (p : RcP) : (rcV r p).all (·.oneCell') = true := by simp [Value.oneCell']

set_option maxHeartbeats 1600000 in
theorem szRecs (a : Option Addr) (l : List Rc) (n cap : Nat) (left : Int) (w : World) (hn : l.length = n) (hl : 0 ≤ left) (hm : left ≤ 1048576) (hc : n ≤ maxLen) (h : RecsAt w a l) :
    Calls Try.prog 33 #[.slice a n cap, .int .i64 left] w fun e w' => ∃ r : Int, e = .returned (.int .i64 r) ∧ -1 ≤ r ∧ r ≤ left ∧ (0 ≤ r → n ≤ 1048576 ∧ RecsSmall l) ∧ Below w.heap.size w w' := by
  unfold maxLen at hc
  have HL : Hid (l.length = n) := hn
  clear hn
  by_cases hz : left < n
  · go_enter Try.func33, Try.ntmps33
    go_wp2
    go_ret
    exact ⟨-1, rfl, by omega, by omega, fun h => absurd h (by omega), Below.refl _ _⟩
  · go_enter Try.func33, Try.ntmps33
    go_wp2
    go_loopw [1, 5] (fun v i wr => ∃ (k : Nat) (r : Int), k ≤ n ∧ i = .int .i64 k ∧ v = .int .i64 r ∧ 0 ≤ r ∧ r ≤ left ∧ (∀ (j : Nat) s, j < k → l[j]? = some s → RcSmall s) ∧ Below w.heap.size w wr) (fun _ i _ => n - (intOf i).toNat)
    case atStart => exact ⟨0, _, Nat.zero_le _, rfl, rfl, by omega, by omega, fun j s hj => absurd hj (by omega), Below.refl _ _⟩
    case round =>
      obtain ⟨k, r, hk, rfl, rfl, hr0, hr1, hall0, hbel⟩ := hrel
      have hall : Hid (∀ (j : Nat) s, j < k → l[j]? = some s → RcSmall s) := hall0
      clear hall0
      by_cases hlt : k < n
      · obtain ⟨s, hs0⟩ : ∃ s, l[k]? = some s := ⟨_, List.getElem?_eq_getElem (by rw [HL.out]; exact hlt)⟩
        obtain ⟨b, off, p, rfl, hb, hcs0, hR⟩ := (h.ext hbel) k s hs0
        have hcs : Hid (wr.rangeAt b (off + k * 18) (rcV s p).toList) := hcs0
        have hs : Hid (l[k]? = some s) := hs0
        clear hs0 hcs0
        have e1 : (0 : Int) ≤ (k : Int) := by omega
        have e2 : (k : Int) < (n : Int) := by omega
        go_wp2_with (first | ((with_reducible refine wpList_load_lmid b (off + k * 18) (rcV s p) rfl ?_ ?_ ?_); (· rfl); (· exact hcs.out)) | (go_at_call 63; refine (szRec s p _ _ (by omega) (by omega) hR).mono ?_; rintro e w' ⟨r', rfl, h1, h2, h3, hb'⟩))
        · go_ret
          exact ⟨-1, rfl, by omega, by omega, fun h => absurd h (by omega), ext_trans hbel hb'⟩
        · go_roundw
          case rel =>
            refine ⟨k + 1, r', by omega, by go_num, rfl, by omega, by omega, fun j u hj hu => ?_, ext_trans hbel hb'⟩
            by_cases he : j = k
            · subst he; rw [hs.out] at hu; simp only [Option.some.injEq] at hu; rw [← hu]; exact h3 (by omega)
            · exact hall.out j u (by omega) hu
          case measure => simp [intOf]; omega
      · go_wp2
        go_ret
        exact ⟨r, rfl, by omega, by omega, fun _ => ⟨by omega, fun i s hs => hall.out i s (by have := (List.getElem?_eq_some_iff.1 hs).1; have := HL.out; omega) hs⟩, hbel⟩

theorem setCells_other (b : Nat) : ∀ (vs : List Value) (o : Nat) (w : World) (i : Nat), i ≠ b → (w.setCells b o vs).heap[i]? = w.heap[i]?
  | [], _, _, _, _ => by simp [World.setCells]
  | v :: r, o, w, i, h => by
    rw [World.setCells]
    exact (setCells_other b r (o + 1) _ i h).trans (heap_setCell_other w ⟨b, o, none⟩ i v h)
theorem setCells_size (b : Nat) : ∀ (vs : List Value) (o : Nat) (w : World), (w.setCells b o vs).heap.size = w.heap.size
  | [], _, _ => by simp [World.setCells]
  | v :: r, o, w => by
    rw [World.setCells]
    exact (setCells_size b r (o + 1) _).trans (World.size_setCell _ _ _)
theorem below_setCells {B : Nat} {w w' : World} (h : Below B w w') (b : Nat) (hb : B ≤ b) : ∀ (vs : List Value) (o : Nat), Below B w (w'.setCells b o vs) := fun vs => by
  induction vs generalizing w' with
  | nil => intro o; simpa [World.setCells] using h
  | cons v r ih =>
    intro o
    rw [World.setCells]
    exact ih (h.setCell hb v) (o + 1)
theorem Blk.setCells {b : Nat} {t : TypeId} : ∀ (vs : List Value) (o : Nat) (w : World) (C : Array Value), Blk w b C t → ∃ C', Blk (w.setCells b o vs) b C' t ∧ C'.size = C.size
  | [], _, w, C, h => ⟨C, by simpa [World.setCells] using h, rfl⟩
  | v :: r, o, w, C, h => by
    rw [World.setCells]
    obtain ⟨C', h1, h2⟩ := Blk.setCells r (o + 1) _ _ (heap_setCell_same w b o C t v h)
    exact ⟨C', h1, by rw [h2]; simp⟩
theorem Blk.there {w : World} {b : Nat} {C : Array Value} {t : TypeId} (h : Blk w b C t) {o n : Nat} (hs : o + n ≤ C.size) : w.there b o n := fun j hj =>
  ⟨by rw [h.cell, Array.getElem?_eq_getElem (by omega)]; rfl, h.free _⟩

theorem RcOwn.same {w w' : World} {r : Rc} {p : RcP} {B : Nat} (h : RcOwn w r p) (hB : ∀ x, p.aS = some x → B ≤ x.block) (hs : ∀ b, B ≤ b → w'.heap[b]? = w.heap[b]?) : RcOwn w' r p := by
  obtain ⟨gS, gD, gH, BH, gW, gY, gB, gA, rfl, ⟨o1, o2, o3, o4, o5, o6, o7⟩, h1, h2, h3, h4, h5, h6, h7⟩ := h
  have hg : B ≤ gS := hB ⟨gS, 0, none⟩ rfl
  exact ⟨gS, gD, gH, BH, gW, gY, gB, gA, rfl, ⟨o1, o2, o3, o4, o5, o6, o7⟩, h1.same (fun b hb => hs b (by omega)), h2.same (fun b hb => hs b (by omega)), h3.same (fun b hb => hs b (by omega)), h4.same (fun b hb => hs b (by omega)), h5.same (fun b hb => hs b (by omega)), h6.same (fun b hb => hs b (by omega)), h7.same (fun b hb => hs b (by omega))⟩
theorem RcOwn.ext {w w' : World} {r : Rc} {p : RcP} (h : RcOwn w r p) (hb : Below w.heap.size w w') : RcOwn w' r p := by
  obtain ⟨gS, gD, gH, BH, gW, gY, gB, gA, rfl, ho, h1, h2, h3, h4, h5, h6, h7⟩ := h
  exact ⟨gS, gD, gH, BH, gW, gY, gB, gA, rfl, ho, h1.ext hb, h2.ext hb, h3.ext hb, h4.ext hb, h5.ext hb, h6.ext hb, h7.ext hb⟩
theorem RcOwn.at' {w w0 : World} {r : Rc} {p p0 : RcP} (h : RcOwn w r p) (h0 : RcAt w0 r p0) : RcAt w r p := by
  obtain ⟨gS, gD, gH, BH, gW, gY, gB, gA, rfl, ho, h1, h2, h3, h4, h5, h6, h7⟩ := h
  exact ⟨h1.at h0.hS.good, h0.lS, h2.at h0.hD.good, h0.lD, h3.at h0.hH.good, h0.lH, h4.at h0.hW.good, h0.lW, h5.at h0.hY.good, h0.lY, h6.at h0.hB.good, h0.lB, h7.at h0.hA.good, h0.lA⟩
theorem RcOwn.room {w : World} {r : Rc} {p : RcP} (h : RcOwn w r p) : r.wish.length ≤ p.cW := by
  obtain ⟨gS, gD, gH, BH, gW, gY, gB, gA, rfl, ho, h1, h2, h3, h4, h5, h6, h7⟩ := h
  exact Nat.le_refl _

/-- the first k recorders of l lie in block g, their lists in blocks behind it -/
def RecsOwn (w : World) (g : Nat) (l : List Rc) (k : Nat) : Prop :=
  ∀ (i : Nat) r, i < k → l[i]? = some r → ∃ p, w.rangeAt g (i * 18) (rcV r p).toList ∧ RcOwn w r p ∧ ∀ x, p.aS = some x → g + 1 ≤ x.block
theorem RecsOwn.ext {w w' : World} {g : Nat} {l : List Rc} {k : Nat} (h : RecsOwn w g l k) (hg : g < w.heap.size) (hb : Below w.heap.size w w') : RecsOwn w' g l k := fun i r hi hr => by
  obtain ⟨p, h1, h2, h3⟩ := h i r hi hr
  exact ⟨p, range_ext h1 hb hg, h2.ext hb, h3⟩
theorem RecsOwn.step {w : World} {g : Nat} {l : List Rc} {k : Nat} {r : Rc} {p : RcP} (h : RecsOwn w g l k) (hr : l[k]? = some r) (ht : w.there g (k * 18) 18) (ho : RcOwn w r p) (hx : ∀ x, p.aS = some x → g + 1 ≤ x.block) :
    RecsOwn (w.setCells g (k * 18) (rcV r p).toList) g l (k + 1) := fun i u hi hu => by
  have hs : ∀ b, g + 1 ≤ b → (w.setCells g (k * 18) (rcV r p).toList).heap[b]? = w.heap[b]? := fun b hb => setCells_other g _ _ w b (by omega)
  by_cases he : i = k
  · subst he
    rw [hr] at hu
    simp only [Option.some.injEq] at hu
    subst hu
    exact ⟨p, World.rangeAt_setCells_same w g _ _ ht, ho.same hx hs, hx⟩
  · obtain ⟨q, h1, h2, h3⟩ := h i u (by omega) hu
    exact ⟨q, World.rangeAt_setCells_apart h1 g _ _ (Or.inr (Or.inl (by simp; omega))), h2.same h3 hs, h3⟩
theorem RecsOwn.to {w w0 : World} {g : Nat} {l : List Rc} {a : Option Addr} (h : RecsOwn w g l l.length) (hg : g < w.heap.size) (h0 : RecsAt w0 a l) : RecsTo w (some ⟨g, 0, none⟩) l := fun i r hr => by
  obtain ⟨p, h1, h2, h3⟩ := h i r (List.getElem?_eq_some_iff.1 hr).1 hr
  obtain ⟨_, _, p0, _, _, _, hR⟩ := h0 i r hr
  exact ⟨g, 0, p, rfl, hg, by rw [Nat.zero_add]; exact h1, h2.at' hR, h2.room⟩

theorem infoRec : (Try.prog.info? 51).map (fun i => (i.zero, i.size, i.bytes)) = some (some (.agg #[.int .i64 0, .int .i64 0, .bool false, .int .i64 0, .int .i64 0, .slice none 0 0, .int .i64 0, .int .i64 0, .slice none 0 0, .slice none 0 0, .slice none 0 0, .bool false, .bool false, .int .i64 0, .slice none 0 0, .slice none 0 0, .slice none 0 0, .int .i64 0]), 18, 248) := by kernel_rfl
def zeroRec : Array Value := #[.int .i64 0, .int .i64 0, .bool false, .int .i64 0, .int .i64 0, .slice none 0 0, .int .i64 0, .int .i64 0, .slice none 0 0, .slice none 0 0, .slice none 0 0, .bool false, .bool false, .int .i64 0, .slice none 0 0, .slice none 0 0, .slice none 0 0, .int .i64 0]
theorem makeRecs (n : Nat) (hn : n ≤ 1048576) (w : World) :
    (Instr.makeSlice 22 (.int .i64 (n : Int)) (.int .i64 (n : Int))).run Try.prog w = .ok (.slice (some ⟨w.heap.size, 0, none⟩) n n) (w.alloc (.cells (madeCells zeroRec (n * 18)) 51)) := by
  obtain ⟨i0, hi, hz0, hz1, hz2⟩ := info_parts infoRec
  have hm := run_make (P := Try.prog) w 22 51 i0 _ Try.underlying22 hi hz0 .i64 .i64 (n : Int) (n : Int) (by omega) (by omega) (by rw [hz2]; omega) (by omega)
  rw [hz1] at hm
  simpa [Value.cells, zeroRec] using hm

set_option maxHeartbeats 2000000 in
theorem toRecs (a : Option Addr) (l : List Rc) (n cap : Nat) (w : World) (hn : l.length = n) (hc : n ≤ 1048576) (hsm0 : RecsSmall l) (h : RecsAt w a l) :
    Calls Try.prog 38 #[.slice a n cap] w fun e w' => ∃ g, e = .returned (.slice (some ⟨g, 0, none⟩) n n) ∧ w.heap.size ≤ g ∧ g < w'.heap.size ∧ RecsOwn w' g l n ∧ Below w.heap.size w w' := by
  have HL : Hid (l.length = n) := hn
  have hsm : Hid (RecsSmall l) := hsm0
  clear hn hsm0
  have hmk := makeRecs n hc
  go_enter Try.func38, Try.ntmps38
  go_wp2
  go_loopw [4] (fun i wr => ∃ (k : Nat) (C : Array Value), k ≤ n ∧ i = .int .i64 k ∧ Blk wr w.heap.size C 51 ∧ C.size = n * 18 ∧ RecsOwn wr w.heap.size l k ∧ Below w.heap.size w wr) (fun i _ => n - (intOf i).toNat)
  case atStart => exact ⟨0, _, Nat.zero_le _, rfl, Blk.new _ _ _, by rw [size_madeCells], fun i s hi => absurd hi (by omega), ext_alloc (Below.refl _ _) _⟩
  case round =>
    obtain ⟨k, C, hk, rfl, hB, hz, hH, hbel⟩ := hrel
    have HZ : Hid (C.size = n * 18) := hz
    by_cases hlt : k < n
    · obtain ⟨s, hs0⟩ : ∃ s, l[k]? = some s := ⟨_, List.getElem?_eq_getElem (by rw [HL.out]; exact hlt)⟩
      obtain ⟨b, off, p, rfl, hb, hcs0, hR⟩ := (h.ext hbel) k s hs0
      have hcs : Hid (wr.rangeAt b (off + k * 18) (rcV s p).toList) := hcs0
      have hs : Hid (l[k]? = some s) := hs0
      have hS : Hid (RcSmall s) := hsm.out k s hs0
      have HH : Hid (RecsOwn wr w.heap.size l k ∧ Blk wr w.heap.size C 51) := ⟨hH, hB⟩
      have hlB := hB.lt
      clear hs0 hcs0 hH hz hB
      have e1 : (0 : Int) ≤ (k : Int) := by omega
      have e2 : (k : Int) < (n : Int) := by omega
      go_wp2_with (first | ((with_reducible refine wpList_load_lmid b (off + k * 18) (rcV s p) rfl ?_ ?_ ?_); (· rfl); (· exact hcs.out)) | (go_at_call 72; refine (toRecO s p _ hS.out hR).mono ?_; rintro e w' ⟨p', rfl, hA', hW', hb', hO', hx'⟩) | ((with_reducible refine wpList_store_imid w.heap.size (k * 18) (rcV s p') rfl ?_ ?_ ?_ ?_ ?_); (· first | rfl | simp [go_sem] ); (· rfl); (· exact (HH.out.2.ext hb').there (by have := HZ.out; omega)); (· exact rcV_one _ _)))
      go_roundw
      case rel =>
        obtain ⟨C', hC1, hC2⟩ := Blk.setCells (rcV s p').toList (k * 18) w' C (HH.out.2.ext hb')
        exact ⟨k + 1, C', by omega, by go_num, hC1, by rw [hC2]; exact HZ.out, (HH.out.1.ext hlB hb').step hs.out ((HH.out.2.ext hb').there (by have := HZ.out; omega)) hO' (fun x hx => by have := hx' x hx; omega), below_setCells (ext_trans hbel hb') _ (Nat.le_refl _) _ _⟩
      case measure => simp [intOf]; omega
    · go_wp2
      go_ret
      exact ⟨w.heap.size, rfl, Nat.le_refl _, hB.lt, by rw [show n = k by omega]; exact hH, hbel⟩

end Go.Proofs.Ytgjommccflfjaaa
