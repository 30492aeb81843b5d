import Derived.Test.YtffklmlljekceaaGreatApps
import Derived.Test.YtffklmlljekceaaGreatCopyRec
import Derived.Test.YtffklmlljekceaaGreatTakeDef
import Derived.Test.YtffklmlljekceaaGreatTakeSpecB
/-
  The specification's copy of messages, their places told apart: spec.l2Messages.
-/
namespace Go.Proofs.YtffklmlljekceaaGreat
open Go.ChangeShapes Go.WideShapes Go.ChangeAt Go.RowKit
set_option linter.unusedVariables false
set_option linter.unusedSimpArgs false

theorem RowZ.kept {lo hi hi' g : Nat} {w w' : World} {e e' : TypeId} {k : Nat} {a : Option Addr} {n c : Nat} {xs : List Value} {C : Array Value} (h : RowZ lo hi w e k a n c xs) (hg : w.grownBy w' (some g)) (hb : Blk w g C e') (hne : e ≠ e') (hh : hi ≤ hi') : RowZ lo hi' w' e k a n c xs := by
  refine ⟨h.own.kept hg ?_, fun x hx => Nat.lt_of_lt_of_le (h.hi x hx) hh⟩
  rcases h.own.2 with ⟨h1, _⟩ | ⟨g1, cap, cur, hv, _, hb1, _⟩
  · rw [h1]; exact .inl rfl
  · refine .inr fun e9 => ?_
    rw [hv] at e9
    simp only [Value.ownBlock, Option.some.injEq] at e9
    subst e9
    have h9 : Blk w g1 C e' := hb
    unfold Blk at h9
    rw [hb1] at h9
    simp only [Option.some.injEq, Obj.cells.injEq] at h9
    exact hne h9.2.1
theorem InnZM.kept {lo hi hi' g : Nat} {w w' : World} {H : List Mp} {C : Array Value} (h : InnZM lo hi w H) (hg : w.grownBy w' (some g)) (hb : Blk w g C 45) (hh : hi ≤ hi') : InnZM lo hi' w' H :=
  ⟨fun m hm => (h.row m hm).kept hg hb (by decide) hh, h.apart⟩
theorem InnZA.kept {lo hi hi' g : Nat} {w w' : World} {H : List Ap} {C : Array Value} (h : InnZA lo hi w H) (hg : w.grownBy w' (some g)) (hb : Blk w g C 105) (hh : hi ≤ hi') : InnZA lo hi' w' H :=
  ⟨fun m hm => (h.row m hm).kept hg hb (by decide) hh, h.apart⟩
/-- rows of different types lie in different blocks -/
theorem RowZ.ne {lo hi lo' hi' : Nat} {w : World} {e e' : TypeId} {k k' : Nat} {a a' : Option Addr} {n c n' c' : Nat} {xs xs' : List Value} (h : RowZ lo hi w e k a n c xs) (h' : RowZ lo' hi' w e' k' a' n' c' xs') (hne : e ≠ e') : ∀ x x', a = some x → a' = some x' → x.block ≠ x'.block := fun x x' hx hx' he => by
  rcases h.own.2 with ⟨h1, _⟩ | ⟨g1, cap, cur, hv, _, hb1, _⟩
  · simp only [Value.slice.injEq] at h1; rw [h1.1] at hx; simp at hx
  rcases h'.own.2 with ⟨h1, _⟩ | ⟨g2, cap2, cur2, hv2, _, hb2, _⟩
  · simp only [Value.slice.injEq] at h1; rw [h1.1] at hx'; simp at hx'
  simp only [Value.slice.injEq] at hv hv2
  rw [hv.1] at hx
  rw [hv2.1] at hx'
  simp only [Option.some.injEq] at hx hx'
  rw [← hx, ← hx'] at he
  dsimp only at he
  rw [he, hb2] at hb1
  simp only [Option.some.injEq, Obj.cells.injEq] at hb1
  exact hne hb1.2.1.symm
theorem msgs_plain {B : Nat} {w : World} {col : Nat → Nat} {t u : Nat} {a : Option Addr} {n c : Nat} {H : List Mp} {l : List Ms} (h : RowC B w col t 45 8 a n c (flatM H)) (hm : H.map (·.1) = l) (hi : InnM B w col u H) : MsgsPlain w a l := fun i b off s sa m cap hs ha hc => by
  rw [← hm, List.getElem?_map, Option.map_eq_some_iff] at hs
  obtain ⟨q, h0, rfl⟩ := hs
  obtain ⟨g, e0, _, c7, _⟩ := h.cellM h0 (q := 7) (by omega) rfl
  rw [ha] at e0
  simp only [Option.some.injEq, Addr.mk.injEq, and_true] at e0
  obtain ⟨rfl, rfl⟩ := e0
  rw [Nat.zero_add, c7] at hc
  simp only [Option.some.injEq, Value.slice.injEq] at hc
  obtain ⟨rfl, _, rfl⟩ := hc
  exact (hi.row q (List.mem_of_getElem? h0)).plain

set_option maxHeartbeats 8000000 in
theorem l2MsgsZ (a : Option Addr) (l : List Ms) (n cap : Nat) (w : World) (hn : l.length = n) (hc : n ≤ 1048576) (hsm : MsgsSmall l) (hpl : MsgsPlain w a l) (h : MsgsAt w a l) :
    Calls Tryz.prog 61 #[.slice a n cap] w fun e w' => ∃ g' cap' H', e = .returned (.slice (some ⟨g', 0, none⟩) n cap') ∧ RowZ w.heap.size w'.heap.size w' 45 8 (some ⟨g', 0, none⟩) n cap' (flatM H') ∧ H'.map (·.1) = l ∧ InnZM w.heap.size w'.heap.size w' H' ∧ Below w.heap.size w w' := by
  have HL := hid hn
  have H := hid h
  have HP := hid hpl
  have HM := hid hsm
  have HO := hid (own_none8 w 45 8)
  clear hn h hpl hsm
  go_enter Tryz.func61, Tryz.ntmps61
  go_wp2
  go_loopw [3, 4] (fun v i wr => ∃ (k g cap : Nat) (H' : List Mp), k ≤ n ∧ i = .int .i64 k ∧ v = .slice (some ⟨g, 0, none⟩) k cap ∧ wr.ownsRow w.heap.size 45 8 (.slice (some ⟨g, 0, none⟩) k cap) k (flatM H') ∧ H'.map (·.1) = l.take k ∧ InnZM w.heap.size wr.heap.size wr H' ∧ Below w.heap.size w wr) (fun _ i _ => n - (intOf i).toNat)
  case atStart => exact ⟨0, w.heap.size, 0, [], Nat.zero_le _, rfl, rfl, HO.out, by simp, InnZM.nil _ _ _, ext_alloc (Below.refl _ _) _⟩
  case round =>
    obtain ⟨k, g, cp0, H', hk, rfl, rfl, hown, hmap, hinn, hbel⟩ := hrel
    have HW := hid hown
    have HC := hid hmap
    have HI := hid hinn
    have HBe := hid hbel
    clear hown hmap hinn hbel HO
    by_cases hlt : k < n
    · obtain ⟨s, hs0⟩ : ∃ s, l[k]? = some s := ⟨_, List.getElem?_eq_getElem (by rw [HL.out]; exact hlt)⟩
      have hs := hid hs0
      obtain ⟨b, off, sa, cp, e0, hb, c0, c1, c2, c3, c4, c5, c6, c7, q1, q2, q3⟩ := (H.out.ext HBe.out) k s hs0
      subst e0
      have hb2 : b < w.heap.size := by
        obtain ⟨b', off', _, _, e9, hb9, _⟩ := H.out k s hs0
        simp only [Option.some.injEq, Addr.mk.injEq, and_true] at e9
        omega
      have PL := hid (HP.out k b off s sa s.2.length cp hs0 rfl (by rw [← HBe.out.cell (p := ⟨b, off + k * 8 + 7, none⟩) hb2]; exact c7))
      have SM := hid (HM.out k s hs0)
      have Q3 := hid q3
      clear hs0 q3 q1 q2
      have e1 : (0 : Int) ≤ (k : Int) := by omega
      have e2 : (k : Int) < (n : Int) := by omega
      go_wp2_with fail
      refine (l2Message_at s.1 sa s.2 s.2.length cp _ rfl SM.out PL.out.1 PL.out.2 Q3.out).mono ?_
      rintro e z ⟨g', cap', rfl, hg', ho', hz⟩
      obtain ⟨Z, hZ⟩ : ∃ Z, Z = z.alloc (.cells (msgV s.1 (.slice (some ⟨g', 0, none⟩) s.2.length cap')) 45) := ⟨_, rfl⟩
      have EZ := hid (show Below z.heap.size z Z by rw [hZ]; exact ext_alloc (Below.refl _ _) _)
      have NEWS := hid (show ReadAt Z (some ⟨z.heap.size, 0, none⟩) 1 1 8 (cellsM (s, some ⟨g', 0, none⟩, cap')) from
        ⟨rfl, fun e => by simp at e, fun x hx => by
          simp only [Option.some.injEq] at hx
          subst hx
          exact ⟨rfl, by rw [hZ]; exact blk_news (Blk.new z (msgV s.1 (.slice (some ⟨g', 0, none⟩) s.2.length cap')) 45)⟩⟩)
      have ZB := hid (ext_trans (ext_trans HBe.out hz) EZ.out)
      have ZW := hid (own_ext' (own_ext' HW.out hz) EZ.out)
      have ZN := hid (show RowZ wr.heap.size z.heap.size Z 108 2 (some ⟨g', 0, none⟩) s.2.length cap' (flat s.2) from (RowZ.mk' ho').ext EZ.out)
      have ZI := hid ((HI.out.ext hz).ext EZ.out)
      have SZ := hid (show w.heap.size ≤ Z.heap.size from ZB.out.size)
      have S1 := hid hz.size
      have S2 := hid EZ.out.size
      clear hz ho' hg' c0 c1 c2 c3 c4 c5 c6 c7
      go_wp2_with ((with_reducible refine wpList_appM w.heap.size (some ⟨g, 0, none⟩) k cp0 (flatM H') (some ⟨z.heap.size, 0, none⟩) 1 1 (cellsM (s, some ⟨g', 0, none⟩, cap')) ?_ ?_ ?_ ?_ ?_ ?_ ?_ ?_); (· rfl); (· rfl); (· rw [← hZ]; exact ZW.out); (· rw [← hZ]; exact NEWS.out); (· intro u hu; simp [cellsM] at hu; rcases hu with rfl | rfl | rfl | rfl | rfl | rfl | rfl | rfl <;> rfl); (· omega); (· rw [← hZ]; exact SZ.out); rw [← hZ]; intro a2 c2 w' r1 r2 r3; have R1 := hid r1; have R2 := hid r2; clear r1 r2 r3)
      obtain ⟨g2, cap2, C2, e4, hb9, hn9, _⟩ := own_formk R1.out (fun e => by have := congrArg (fun v => match v with | Value.slice _ n _ => n | _ => 0) e; simp at this)
      simp only [Value.slice.injEq, true_and] at e4
      obtain ⟨rfl, rfl⟩ := e4
      obtain ⟨g3, cap3, C3, e3, _, _, hblk⟩ := own_formk ZW.out (by simp)
      simp only [Value.slice.injEq, Option.some.injEq, Addr.mk.injEq, and_true, true_and] at e3
      obtain ⟨rfl, rfl⟩ := e3
      go_roundw
      case rel =>
        refine ⟨k + 1, g2, c2, H' ++ [(s, some ⟨g', 0, none⟩, cap')], by omega, by go_num, rfl, ?_, ?_, ?_, ext_grown ZB.out R2.out (fun j hj => by simp [Value.ownBlock] at hj; have := (ZW.out.lt g rfl).1; omega)⟩
        · have := R1.out
          rw [show flatM (H' ++ [(s, some ⟨g', 0, none⟩, cap')]) = flatM H' ++ cellsM (s, some ⟨g', 0, none⟩, cap') by simp [flatM]]
          exact this
        · rw [List.map_append, HC.out, List.take_add_one, hs.out]; rfl
        · have := (ZI.out.snoc (m := (s, some ⟨g', 0, none⟩, cap')) ZN.out HBe.out.size (Nat.le_refl _) S1.out)
          exact this.kept (by simpa [Value.ownBlock] using R2.out) hblk (Nat.le_trans S2.out R2.out.size)
      case measure => simp [intOf]; omega
    · have hkk : k = n := by omega
      subst hkk
      go_wp2
      go_ret
      have h9 := HC.out
      rw [List.take_of_length_le (by rw [HL.out]; omega)] at h9
      exact ⟨g, cp0, H', rfl, RowZ.mk' HW.out, h9, HI.out, HBe.out⟩
end Go.Proofs.YtffklmlljekceaaGreat

/-
  spec.l2Copy: each list on its own.
-/
namespace Go.Proofs.YtffklmlljekceaaGreat
open Go.ChangeShapes Go.WideShapes Go.ChangeAt Go.RowKit
set_option linter.unusedVariables false
set_option linter.unusedSimpArgs false

theorem wp_newT {dst : Option Tmp} {s x : Operand} {τ : TypeId} {pos : String} {after : Array Edge} {g : Option (Nat × Bool)} {a : Act} {w : World} {K : Act → World → Prop} {Q : Exit → Act → World → Prop}
    (b : Nat) (xa : Option Addr) (m c : Nat) (news : List Value) (hs : a.eval s = .slice (some ⟨b, 0, none⟩) 0 0) (hx : a.eval x = .slice xa m c) (hb : Blk w b #[] 9) (hr : ReadAt w xa m c 1 news)
    (h1 : ∀ u ∈ news, u.oneCell' = true) (hN : m ≤ 4194304)
    (h : ∀ a' c' w', w'.ownsRow b 9 1 (.slice a' m c') m news → w.grownBy w' (some b) → K (a.put dst (.slice a' m c')) w') :
    Oper.wp Tryz.prog ({ dst := dst, op := .call { callee := .builtin .append, args := #[s, x], argTypes := #[26, 26] }, type := τ, pos := pos, after := after, guard := g } : Oper) a w K Q :=
  wp_appT b (some ⟨b, 0, none⟩) 0 0 [] xa m c news hs hx ⟨by simp, .inr ⟨b, 0, #[], rfl, Nat.le_refl _, hb, Nat.le_refl _, by unfold maxLen; omega, by simp, by simp⟩⟩ hr h1 (by omega) (Nat.le_of_lt hb.lt) fun a' c' w' h2 h3 _ => by
    simp only [Nat.zero_add, List.nil_append] at h2 ⊢
    exact h a' c' w' h2 h3
theorem wpList_newT {ops : Array Oper} {rest : List Oper} {dst : Option Tmp} {s x : Operand} {τ : TypeId} {pos : String} {after : Array Edge} {a : Act} {w : World} {Q : Exit → Act → World → Prop}
    (b : Nat) (xa : Option Addr) (m c : Nat) (news : List Value) (hs : a.eval s = .slice (some ⟨b, 0, none⟩) 0 0) (hx : a.eval x = .slice xa m c) (hb : Blk w b #[] 9) (hr : ReadAt w xa m c 1 news)
    (h1 : ∀ u ∈ news, u.oneCell' = true) (hN : m ≤ 4194304)
    (h : ∀ a' c' w', w'.ownsRow b 9 1 (.slice a' m c') m news → w.grownBy w' (some b) → wpList Tryz.prog ops Q rest (a.put dst (.slice a' m c')) w') :
    wpList Tryz.prog ops Q ({ dst := dst, op := .call { callee := .builtin .append, args := #[s, x], argTypes := #[26, 26] }, type := τ, pos := pos, after := after, guard := none } :: rest) a w :=
  wpList_plain rfl fun _ hK => wp_newT b xa m c news hs hx hb hr h1 hN fun a' c' w' h2 h3 => hK _ _ (h a' c' w' h2 h3)

theorem wp_newI {dst : Option Tmp} {s x : Operand} {τ : TypeId} {pos : String} {after : Array Edge} {g : Option (Nat × Bool)} {a : Act} {w : World} {K : Act → World → Prop} {Q : Exit → Act → World → Prop}
    (b : Nat) (xa : Option Addr) (m c : Nat) (news : List Value) (hs : a.eval s = .slice (some ⟨b, 0, none⟩) 0 0) (hx : a.eval x = .slice xa m c) (hb : Blk w b #[] 3) (hr : ReadAt w xa m c 1 news)
    (h1 : ∀ u ∈ news, u.oneCell' = true) (hN : m ≤ 4194304)
    (h : ∀ a' c' w', w'.ownsRow b 3 1 (.slice a' m c') m news → w.grownBy w' (some b) → K (a.put dst (.slice a' m c')) w') :
    Oper.wp Tryz.prog ({ dst := dst, op := .call { callee := .builtin .append, args := #[s, x], argTypes := #[27, 27] }, type := τ, pos := pos, after := after, guard := g } : Oper) a w K Q :=
  wp_appI b (some ⟨b, 0, none⟩) 0 0 [] xa m c news hs hx ⟨by simp, .inr ⟨b, 0, #[], rfl, Nat.le_refl _, hb, Nat.le_refl _, by unfold maxLen; omega, by simp, by simp⟩⟩ hr h1 (by omega) (Nat.le_of_lt hb.lt) fun a' c' w' h2 h3 _ => by
    simp only [Nat.zero_add, List.nil_append] at h2 ⊢
    exact h a' c' w' h2 h3
theorem wpList_newI {ops : Array Oper} {rest : List Oper} {dst : Option Tmp} {s x : Operand} {τ : TypeId} {pos : String} {after : Array Edge} {a : Act} {w : World} {Q : Exit → Act → World → Prop}
    (b : Nat) (xa : Option Addr) (m c : Nat) (news : List Value) (hs : a.eval s = .slice (some ⟨b, 0, none⟩) 0 0) (hx : a.eval x = .slice xa m c) (hb : Blk w b #[] 3) (hr : ReadAt w xa m c 1 news)
    (h1 : ∀ u ∈ news, u.oneCell' = true) (hN : m ≤ 4194304)
    (h : ∀ a' c' w', w'.ownsRow b 3 1 (.slice a' m c') m news → w.grownBy w' (some b) → wpList Tryz.prog ops Q rest (a.put dst (.slice a' m c')) w') :
    wpList Tryz.prog ops Q ({ dst := dst, op := .call { callee := .builtin .append, args := #[s, x], argTypes := #[27, 27] }, type := τ, pos := pos, after := after, guard := none } :: rest) a w :=
  wpList_plain rfl fun _ hK => wp_newI b xa m c news hs hx hb hr h1 hN fun a' c' w' h2 h3 => hK _ _ (h a' c' w' h2 h3)

def colX (gH gA n1 n2 n3 n4 n5 n6 n7 n8 b : Nat) : Nat := if b = gH then 2 else if b = gA then 6 else colZ n1 n2 n3 n4 n5 n6 n7 n8 b
theorem colX_of {gH gA n1 n2 n3 n4 n5 n6 n7 n8 b : Nat} (h1 : b ≠ gH) (h2 : b ≠ gA) : colX gH gA n1 n2 n3 n4 n5 n6 n7 n8 b = colZ n1 n2 n3 n4 n5 n6 n7 n8 b := by unfold colX; rw [if_neg h1, if_neg h2]
theorem colX_H (gH gA n1 n2 n3 n4 n5 n6 n7 n8 : Nat) : colX gH gA n1 n2 n3 n4 n5 n6 n7 n8 gH = 2 := by unfold colX; rw [if_pos rfl]
theorem colX_A {gH gA n1 n2 n3 n4 n5 n6 n7 n8 : Nat} (h : gA ≠ gH) : colX gH gA n1 n2 n3 n4 n5 n6 n7 n8 gA = 6 := by unfold colX; rw [if_neg h, if_pos rfl]
theorem RowZ.rowOne {lo hi : Nat} {B : Nat} {w : World} {col : Nat → Nat} {t : Nat} {e : TypeId} {k : Nat} {g n c : Nat} {xs : List Value} (h : RowZ lo hi w e k (some ⟨g, 0, none⟩) n c xs) (hB : B ≤ lo) (hc : col g = t) : RowC B w col t e k (some ⟨g, 0, none⟩) n c xs :=
  (RowC.mk (B := lo) h.own (fun x hx => by simp only [Option.some.injEq] at hx; rw [← hx]; exact hc)).low hB
theorem InnZM.inn' {lo hi B : Nat} {w : World} {H : List Mp} {col : Nat → Nat} {t : Nat} (h : InnZM lo hi w H) (hB : B ≤ lo) (hc : ∀ m ∈ H, ∀ x, m.2.1 = some x → col x.block = t) : InnM B w col t H :=
  ⟨fun m hm => (RowC.mk (B := lo) (h.row m hm).own (hc m hm)).low hB, h.apart⟩
theorem InnZA.inn' {lo hi B : Nat} {w : World} {H : List Ap} {col : Nat → Nat} {t : Nat} (h : InnZA lo hi w H) (hB : B ≤ lo) (hc : ∀ m ∈ H, ∀ x, m.2.1 = some x → col x.block = t) : InnA B w col t H :=
  ⟨fun m hm => (RowC.mk (B := lo) (h.row m hm).own (hc m hm)).low hB, h.apart⟩
theorem below_grown {B g : Nat} {a w w' : World} (h : Below B a w) (k : w.grownBy w' (some g)) (hg : B ≤ g) (ha : B ≤ w.heap.size) : Below B a w' :=
  h.trans ⟨k.os, k.tape, k.output, k.size, fun i hi => k.block i (by omega) (by simp; omega)⟩
theorem grown_below {w w' : World} {b : Nat} (h : w.grownBy w' (some b)) (hb : b ≤ w.heap.size) : Below b w w' := ⟨h.os, h.tape, h.output, h.size, fun k hk => h.block k (by omega) (by simp; omega)⟩

set_option maxHeartbeats 16000000 in
set_option maxRecDepth 20000 in
theorem specCopy (B : Nat) (r : Rc) (p : RcP) (X : RcX) (col : Nat → Nat) (w : World) (hS : RcSmall r) (h : RcHas B w r p X col) :
    Calls Tryz.prog 28 #[.agg (rcV r p)] w fun e w' => ∃ p' X' col', e = .returned (.agg (rcV r p')) ∧ RcHas w.heap.size w' r p' X' col' ∧ Below w.heap.size w w' := by
  obtain ⟨aS, cS, aD, cD, aH, cH, aW, cW, aY, cY, aB, cB, aA, cA⟩ := p
  have RD := hid h
  have HS := hid hS
  clear h hS
  have XA := hid (show X.A.length = r.acks.length by rw [← RD.out.am, List.length_map])
  obtain ⟨V, hV⟩ : ∃ V, V = (w.alloc (.cells (rcV r ⟨aS, cS, aD, cD, aH, cH, aW, cW, aY, cY, aB, cB, aA, cA⟩) 41)).alloc (.cells #[.int .i64 0, .int .i64 0, .bool false, .int .i64 0, .int .i64 0, .slice none 0 0, .int .i64 0, .int .i64 0, .slice none 0 0, .slice none 0 0, .slice none 0 0, .bool false, .bool false, .int .i64 0, .slice none 0 0, .slice none 0 0, .slice none 0 0, .int .i64 0] 41) := ⟨_, rfl⟩
  have BV := hid (show Below w.heap.size w V by rw [hV]; exact ext_alloc (ext_alloc (Below.refl _ _) _) _)
  have K1 := hid (show Blk V w.heap.size (rcV r ⟨aS, cS, aD, cD, aH, cH, aW, cW, aY, cY, aB, cB, aA, cA⟩) 41 by rw [hV]; exact (Blk.new _ _ _).alloc _)
  have K2 := hid (show Blk V (w.heap.size + 1) #[.int .i64 0, .int .i64 0, .bool false, .int .i64 0, .int .i64 0, .slice none 0 0, .int .i64 0, .int .i64 0, .slice none 0 0, .slice none 0 0, .slice none 0 0, .bool false, .bool false, .int .i64 0, .slice none 0 0, .slice none 0 0, .slice none 0 0, .int .i64 0] 41 by rw [hV]; exact Blk.new' _ _ (by simp))
  have SZ := hid (show w.heap.size + 1 < V.heap.size from K2.out.lt)
  have cK := K1.out.cell
  rw [hV] at cK
  go_enter Tryz.func28, Tryz.ntmps28
  go_wp2_with fail
  rw [← hV]
  clear hV cK
  refine (l1Disk_at r.sp r.sk aS r.ss r.ss.length cS _ rfl HS.out.lS (RD.out.ext BV.out).s.plain.1 (RD.out.ext BV.out).s.plain.2 (RD.out.ext BV.out).at.hS).mono ?_
  rintro e w1 ⟨gS, cS', rfl, _, oR0, hb⟩
  have oR := RowZ.mk' oR0
  clear oR0
  have LZ1 := hid (show V.heap.size ≤ w1.heap.size from hb.size)
  have LOS := hid (show w.heap.size + 1 < V.heap.size from SZ.out)
  have K1b := hid (K1.out.ext hb)
  have K2b := hid (K2.out.ext hb)
  have BVb := hid (ext_trans BV.out hb)
  clear K1 K2 BV SZ 
  have ZSb := hid oR
  clear oR hb
  obtain ⟨V1, hV1⟩ : ∃ v, v = (((w1.setCell ⟨w.heap.size, 3, none⟩ (.int .i64 r.sp)).setCell ⟨w.heap.size, 4, none⟩ (.int .i64 r.sk)).setCell ⟨w.heap.size, 5, none⟩ (.slice (some ⟨gS, 0, none⟩) r.ss.length cS')) := ⟨_, rfl⟩
  have k1 : Blk (((w1.setCell ⟨w.heap.size, 3, none⟩ (.int .i64 r.sp)).setCell ⟨w.heap.size, 4, none⟩ (.int .i64 r.sk)).setCell ⟨w.heap.size, 5, none⟩ (.slice (some ⟨gS, 0, none⟩) r.ss.length cS')) w.heap.size (rcV r ⟨(some ⟨gS, 0, none⟩), cS', aD, cD, aH, cH, aW, cW, aY, cY, aB, cB, aA, cA⟩) 41 := by (have h9 := ((((K1b.out).set (o := 3) (.int .i64 r.sp)).set (o := 4) (.int .i64 r.sk)).set (o := 5) (.slice (some ⟨gS, 0, none⟩) r.ss.length cS')); simpa using h9)
  have cK := K1b.out.cell
  have fK := K1b.out.free
  have cL := k1.cell
  have fL := k1.free
  skip
  have K1 := hid (show Blk V1 w.heap.size (rcV r ⟨(some ⟨gS, 0, none⟩), cS', aD, cD, aH, cH, aW, cW, aY, cY, aB, cB, aA, cA⟩) 41 by rw [hV1]; exact k1)
  have K2 := hid (show Blk V1 (w.heap.size + 1) #[.int .i64 0, .int .i64 0, .bool false, .int .i64 0, .int .i64 0, .slice none 0 0, .int .i64 0, .int .i64 0, .slice none 0 0, .slice none 0 0, .slice none 0 0, .bool false, .bool false, .int .i64 0, .slice none 0 0, .slice none 0 0, .slice none 0 0, .int .i64 0] 41 by rw [hV1]; exact (((K2b.out.setCell (by simp) _).setCell (by simp) _).setCell (by simp) _))
  have BV := hid (show Below w.heap.size w V1 by rw [hV1]; exact (below_set (below_set (below_set BVb.out (Nat.le_refl _) _) (Nat.le_refl _) _) (Nat.le_refl _) _))
  have SE1 := hid (show w1.heap.size = V1.heap.size by rw [hV1]; simp)
  have SZ := hid (show w.heap.size + 1 < V1.heap.size from K2.out.lt)
  clear k1 K1b K2b BVb
  have ZS := hid (show RowZ V.heap.size w1.heap.size V1 108 2 (some ⟨gS, 0, none⟩) r.ss.length cS' (flat r.ss) by rw [hV1]; exact (((ZSb.out.set (by have := LOS.out; simp; omega) _).set (by have := LOS.out; simp; omega) _).set (by have := LOS.out; simp; omega) _))
  clear ZSb
  go_wp2_with fail
  rw [← hV1]
  clear cK fK cL fL
  refine (l1Disk_at r.dp r.dk aD r.ds r.ds.length cD _ rfl HS.out.lD (RD.out.ext BV.out).d.plain.1 (RD.out.ext BV.out).d.plain.2 (RD.out.ext BV.out).at.hD).mono ?_
  rintro e w2 ⟨gD, cD', rfl, _, oR0, hb⟩
  have oR := RowZ.mk' oR0
  clear oR0
  have LZ2 := hid (show V1.heap.size ≤ w2.heap.size from hb.size)
  have LOD := hid (show w.heap.size + 1 < V1.heap.size from SZ.out)
  have K1b := hid (K1.out.ext hb)
  have K2b := hid (K2.out.ext hb)
  have BVb := hid (ext_trans BV.out hb)
  have ZSb := hid (ZS.out.ext hb)
  clear K1 K2 BV SZ ZS
  have ZDb := hid oR
  clear oR hb
  obtain ⟨V2, hV2⟩ : ∃ v, v = (((w2.setCell ⟨w.heap.size, 6, none⟩ (.int .i64 r.dp)).setCell ⟨w.heap.size, 7, none⟩ (.int .i64 r.dk)).setCell ⟨w.heap.size, 8, none⟩ (.slice (some ⟨gD, 0, none⟩) r.ds.length cD')) := ⟨_, rfl⟩
  have k1 : Blk (((w2.setCell ⟨w.heap.size, 6, none⟩ (.int .i64 r.dp)).setCell ⟨w.heap.size, 7, none⟩ (.int .i64 r.dk)).setCell ⟨w.heap.size, 8, none⟩ (.slice (some ⟨gD, 0, none⟩) r.ds.length cD')) w.heap.size (rcV r ⟨(some ⟨gS, 0, none⟩), cS', (some ⟨gD, 0, none⟩), cD', aH, cH, aW, cW, aY, cY, aB, cB, aA, cA⟩) 41 := by (have h9 := ((((K1b.out).set (o := 6) (.int .i64 r.dp)).set (o := 7) (.int .i64 r.dk)).set (o := 8) (.slice (some ⟨gD, 0, none⟩) r.ds.length cD')); simpa using h9)
  have cK := K1b.out.cell
  have fK := K1b.out.free
  have cL := k1.cell
  have fL := k1.free
  skip
  have K1 := hid (show Blk V2 w.heap.size (rcV r ⟨(some ⟨gS, 0, none⟩), cS', (some ⟨gD, 0, none⟩), cD', aH, cH, aW, cW, aY, cY, aB, cB, aA, cA⟩) 41 by rw [hV2]; exact k1)
  have K2 := hid (show Blk V2 (w.heap.size + 1) #[.int .i64 0, .int .i64 0, .bool false, .int .i64 0, .int .i64 0, .slice none 0 0, .int .i64 0, .int .i64 0, .slice none 0 0, .slice none 0 0, .slice none 0 0, .bool false, .bool false, .int .i64 0, .slice none 0 0, .slice none 0 0, .slice none 0 0, .int .i64 0] 41 by rw [hV2]; exact (((K2b.out.setCell (by simp) _).setCell (by simp) _).setCell (by simp) _))
  have BV := hid (show Below w.heap.size w V2 by rw [hV2]; exact (below_set (below_set (below_set BVb.out (Nat.le_refl _) _) (Nat.le_refl _) _) (Nat.le_refl _) _))
  have SE2 := hid (show w2.heap.size = V2.heap.size by rw [hV2]; simp)
  have SZ := hid (show w.heap.size + 1 < V2.heap.size from K2.out.lt)
  clear k1 K1b K2b BVb
  have ZS := hid (show RowZ V.heap.size w1.heap.size V2 108 2 (some ⟨gS, 0, none⟩) r.ss.length cS' (flat r.ss) by rw [hV2]; exact (((ZSb.out.set (by have := LOS.out; simp; omega) _).set (by have := LOS.out; simp; omega) _).set (by have := LOS.out; simp; omega) _))
  have ZD := hid (show RowZ V1.heap.size w2.heap.size V2 108 2 (some ⟨gD, 0, none⟩) r.ds.length cD' (flat r.ds) by rw [hV2]; exact (((ZDb.out.set (by have := LOD.out; simp; omega) _).set (by have := LOD.out; simp; omega) _).set (by have := LOD.out; simp; omega) _))
  clear ZSb ZDb
  go_wp2_with fail
  rw [← hV2]
  clear cK fK cL fL
  refine (l2MsgsZ aH r.held r.held.length cH _ rfl HS.out.lH HS.out.nH (msgs_plain (RD.out.ext BV.out).h (RD.out.ext BV.out).hm (RD.out.ext BV.out).hi) (RD.out.ext BV.out).at.hH).mono ?_
  rintro e w3 ⟨gH, cH', LH, rfl, oR, oM, oI, hb⟩
  have LZ3 := hid (show V2.heap.size ≤ w3.heap.size from hb.size)
  have LOH := hid (show w.heap.size + 1 < V2.heap.size from SZ.out)
  have K1b := hid (K1.out.ext hb)
  have K2b := hid (K2.out.ext hb)
  have BVb := hid (ext_trans BV.out hb)
  have ZSb := hid (ZS.out.ext hb)
  have ZDb := hid (ZD.out.ext hb)
  clear K1 K2 BV SZ ZS ZD
  have ZHb := hid oR
  clear oR hb
  have ZIb := hid oI
  have HFH := hid oM
  clear oI oM
  obtain ⟨V3, hV3⟩ : ∃ v, v = (w3.setCell ⟨w.heap.size, 9, none⟩ (.slice (some ⟨gH, 0, none⟩) r.held.length cH')) := ⟨_, rfl⟩
  have k1 : Blk (w3.setCell ⟨w.heap.size, 9, none⟩ (.slice (some ⟨gH, 0, none⟩) r.held.length cH')) w.heap.size (rcV r ⟨(some ⟨gS, 0, none⟩), cS', (some ⟨gD, 0, none⟩), cD', (some ⟨gH, 0, none⟩), cH', aW, cW, aY, cY, aB, cB, aA, cA⟩) 41 := by (have h9 := ((K1b.out).set (o := 9) (.slice (some ⟨gH, 0, none⟩) r.held.length cH')); simpa using h9)
  have cK := K1b.out.cell
  have fK := K1b.out.free
  have cL := k1.cell
  have fL := k1.free
  have cM := (k1.alloc (.cells #[] 9)).cell
  have K1 := hid (show Blk V3 w.heap.size (rcV r ⟨(some ⟨gS, 0, none⟩), cS', (some ⟨gD, 0, none⟩), cD', (some ⟨gH, 0, none⟩), cH', aW, cW, aY, cY, aB, cB, aA, cA⟩) 41 by rw [hV3]; exact k1)
  have K2 := hid (show Blk V3 (w.heap.size + 1) #[.int .i64 0, .int .i64 0, .bool false, .int .i64 0, .int .i64 0, .slice none 0 0, .int .i64 0, .int .i64 0, .slice none 0 0, .slice none 0 0, .slice none 0 0, .bool false, .bool false, .int .i64 0, .slice none 0 0, .slice none 0 0, .slice none 0 0, .int .i64 0] 41 by rw [hV3]; exact (K2b.out.setCell (by simp) _))
  have BV := hid (show Below w.heap.size w V3 by rw [hV3]; exact (below_set BVb.out (Nat.le_refl _) _))
  have SE3 := hid (show w3.heap.size = V3.heap.size by rw [hV3]; simp)
  have SZ := hid (show w.heap.size + 1 < V3.heap.size from K2.out.lt)
  clear k1 K1b K2b BVb
  have ZS := hid (show RowZ V.heap.size w1.heap.size V3 108 2 (some ⟨gS, 0, none⟩) r.ss.length cS' (flat r.ss) by rw [hV3]; exact (ZSb.out.set (by have := LOS.out; simp; omega) _))
  have ZD := hid (show RowZ V1.heap.size w2.heap.size V3 108 2 (some ⟨gD, 0, none⟩) r.ds.length cD' (flat r.ds) by rw [hV3]; exact (ZDb.out.set (by have := LOD.out; simp; omega) _))
  have ZH := hid (show RowZ V2.heap.size w3.heap.size V3 45 8 (some ⟨gH, 0, none⟩) r.held.length cH' (flatM LH) by rw [hV3]; exact (ZHb.out.set (by have := LOH.out; simp; omega) _))
  have ZI := hid (show InnZM V2.heap.size w3.heap.size V3 LH by rw [hV3]; exact (ZIb.out.set (by have := LOH.out; simp; omega) _))
  clear ZSb ZDb ZHb ZIb
  go_wp2_with (first
    | ((with_reducible refine wpList_newT w3.heap.size aW r.wish.length cW (flatT r.wish) ?_ ?_ ?_ ?_ ?_ ?_ ?_); (· rfl); (· rfl); (· rw [← hV3]; exact Blk.new' _ _ SE3.out); (· rw [← hV3]; exact (RD.out.ext (ext_alloc BV.out _)).t.read); (· exact flatT_one _); (· exact Nat.le_trans HS.out.lW (by omega)); (rw [← hV3]); (intro aW' cW' w4 q1 q2); (have EB := hid (grown_below q2 (by have := SE1.out; have := LZ1.out; have := SE2.out; have := LZ2.out; have := SE3.out; have := LZ3.out; have := SZ.out; simp; omega))); (have LZ4 := hid (show w3.heap.size ≤ w4.heap.size by have hq := EB.out.size; have := SE1.out; have := LZ1.out; have := SE2.out; have := LZ2.out; have := SE3.out; have := LZ3.out; have := SZ.out; simp at hq; omega)); (have LOW := hid (show w.heap.size + 1 < w3.heap.size by have := SE1.out; have := LZ1.out; have := SE2.out; have := LZ2.out; have := SE3.out; have := LZ3.out; have := SZ.out; omega)); (have K1b := hid ((K1.out.alloc (.cells #[] 9)).below EB.out (by have := SE1.out; have := LZ1.out; have := SE2.out; have := LZ2.out; have := SE3.out; have := LZ3.out; have := SZ.out; omega))); (have K2b := hid ((K2.out.alloc (.cells #[] 9)).below EB.out (by have := SE1.out; have := LZ1.out; have := SE2.out; have := LZ2.out; have := SE3.out; have := LZ3.out; have := SZ.out; omega))); (have BVb := hid (show Below w.heap.size w w4 from (ext_alloc BV.out (.cells #[] 9)).trans (EB.out.mono (by have := SE1.out; have := LZ1.out; have := SE2.out; have := LZ2.out; have := SE3.out; have := LZ3.out; have := SZ.out; omega)))); (have ZSb := hid ((ZS.out.ext (ext_alloc (Below.refl _ _) (.cells #[] 9))).below EB.out (by have := SE1.out; have := LZ1.out; have := SE2.out; have := LZ2.out; have := SE3.out; have := LZ3.out; have := SZ.out; omega))); (have ZDb := hid ((ZD.out.ext (ext_alloc (Below.refl _ _) (.cells #[] 9))).below EB.out (by have := SE1.out; have := LZ1.out; have := SE2.out; have := LZ2.out; have := SE3.out; have := LZ3.out; have := SZ.out; omega))); (have ZHb := hid ((ZH.out.ext (ext_alloc (Below.refl _ _) (.cells #[] 9))).below EB.out (by have := SE1.out; have := LZ1.out; have := SE2.out; have := LZ2.out; have := SE3.out; have := LZ3.out; have := SZ.out; omega))); (have ZIb := hid ((ZI.out.ext (ext_alloc (Below.refl _ _) (.cells #[] 9))).below EB.out (by have := SE1.out; have := LZ1.out; have := SE2.out; have := LZ2.out; have := SE3.out; have := LZ3.out; have := SZ.out; omega))); (clear K1 K2 BV SZ ZS ZD ZH ZI); (have ZWb := hid (RowZ.mk' q1)); (clear q1 q2 EB cK fK cL fL cM); (obtain ⟨V4, hV4⟩ : ∃ v, v = (w4.setCell ⟨w.heap.size, 10, none⟩ (.slice aW' r.wish.length cW')) := ⟨_, rfl⟩); (have k1 : Blk (w4.setCell ⟨w.heap.size, 10, none⟩ (.slice aW' r.wish.length cW')) w.heap.size (rcV r ⟨(some ⟨gS, 0, none⟩), cS', (some ⟨gD, 0, none⟩), cD', (some ⟨gH, 0, none⟩), cH', aW', cW', aY, cY, aB, cB, aA, cA⟩) 41 := by (have h9 := ((K1b.out).set (o := 10) (.slice aW' r.wish.length cW')); simpa using h9)); (have cK := K1b.out.cell); (have fK := K1b.out.free); (have cL := k1.cell); (have fL := k1.free); (have cM := (k1.alloc (.cells #[] 3)).cell); (have K1 := hid (show Blk V4 w.heap.size (rcV r ⟨(some ⟨gS, 0, none⟩), cS', (some ⟨gD, 0, none⟩), cD', (some ⟨gH, 0, none⟩), cH', aW', cW', aY, cY, aB, cB, aA, cA⟩) 41 by rw [hV4]; exact k1)); (have K2 := hid (show Blk V4 (w.heap.size + 1) #[.int .i64 0, .int .i64 0, .bool false, .int .i64 0, .int .i64 0, .slice none 0 0, .int .i64 0, .int .i64 0, .slice none 0 0, .slice none 0 0, .slice none 0 0, .bool false, .bool false, .int .i64 0, .slice none 0 0, .slice none 0 0, .slice none 0 0, .int .i64 0] 41 by rw [hV4]; exact (K2b.out.setCell (by simp) _))); (have BV := hid (show Below w.heap.size w V4 by rw [hV4]; exact (below_set BVb.out (Nat.le_refl _) _))); (have SE4 := hid (show w4.heap.size = V4.heap.size by rw [hV4]; simp)); (have SZ := hid (show w.heap.size + 1 < V4.heap.size from K2.out.lt)); (clear k1 K1b K2b BVb); (have ZS := hid (show RowZ V.heap.size w1.heap.size V4 108 2 (some ⟨gS, 0, none⟩) r.ss.length cS' (flat r.ss) by rw [hV4]; exact (ZSb.out.set (by have := LOS.out; simp; omega) _))); (have ZD := hid (show RowZ V1.heap.size w2.heap.size V4 108 2 (some ⟨gD, 0, none⟩) r.ds.length cD' (flat r.ds) by rw [hV4]; exact (ZDb.out.set (by have := LOD.out; simp; omega) _))); (have ZH := hid (show RowZ V2.heap.size w3.heap.size V4 45 8 (some ⟨gH, 0, none⟩) r.held.length cH' (flatM LH) by rw [hV4]; exact (ZHb.out.set (by have := LOH.out; simp; omega) _))); (have ZW := hid (show RowZ w3.heap.size w4.heap.size V4 9 1 aW' r.wish.length cW' (flatT r.wish) by rw [hV4]; exact (ZWb.out.set (by have := LOW.out; simp; omega) _))); (have ZI := hid (show InnZM V2.heap.size w3.heap.size V4 LH by rw [hV4]; exact (ZIb.out.set (by have := LOH.out; simp; omega) _))); (clear ZSb ZDb ZHb ZWb ZIb))
    | ((with_reducible refine wpList_newI w4.heap.size aY r.yes.length cY (flatI r.yes) ?_ ?_ ?_ ?_ ?_ ?_ ?_); (· rfl); (· rfl); (· rw [← hV4]; exact Blk.new' _ _ SE4.out); (· rw [← hV4]; exact (RD.out.ext (ext_alloc BV.out _)).y.read); (· exact flatI_one _); (· exact Nat.le_trans HS.out.lY (by omega)); (rw [← hV4]); (intro aY' cY' w5 q1 q2); (have EB := hid (grown_below q2 (by have := SE1.out; have := LZ1.out; have := SE2.out; have := LZ2.out; have := SE3.out; have := LZ3.out; have := SE4.out; have := LZ4.out; have := SZ.out; simp; omega))); (have LZ5 := hid (show w4.heap.size ≤ w5.heap.size by have hq := EB.out.size; have := SE1.out; have := LZ1.out; have := SE2.out; have := LZ2.out; have := SE3.out; have := LZ3.out; have := SE4.out; have := LZ4.out; have := SZ.out; simp at hq; omega)); (have LOY := hid (show w.heap.size + 1 < w4.heap.size by have := SE1.out; have := LZ1.out; have := SE2.out; have := LZ2.out; have := SE3.out; have := LZ3.out; have := SE4.out; have := LZ4.out; have := SZ.out; omega)); (have K1b := hid ((K1.out.alloc (.cells #[] 3)).below EB.out (by have := SE1.out; have := LZ1.out; have := SE2.out; have := LZ2.out; have := SE3.out; have := LZ3.out; have := SE4.out; have := LZ4.out; have := SZ.out; omega))); (have K2b := hid ((K2.out.alloc (.cells #[] 3)).below EB.out (by have := SE1.out; have := LZ1.out; have := SE2.out; have := LZ2.out; have := SE3.out; have := LZ3.out; have := SE4.out; have := LZ4.out; have := SZ.out; omega))); (have BVb := hid (show Below w.heap.size w w5 from (ext_alloc BV.out (.cells #[] 3)).trans (EB.out.mono (by have := SE1.out; have := LZ1.out; have := SE2.out; have := LZ2.out; have := SE3.out; have := LZ3.out; have := SE4.out; have := LZ4.out; have := SZ.out; omega)))); (have ZSb := hid ((ZS.out.ext (ext_alloc (Below.refl _ _) (.cells #[] 3))).below EB.out (by have := SE1.out; have := LZ1.out; have := SE2.out; have := LZ2.out; have := SE3.out; have := LZ3.out; have := SE4.out; have := LZ4.out; have := SZ.out; omega))); (have ZDb := hid ((ZD.out.ext (ext_alloc (Below.refl _ _) (.cells #[] 3))).below EB.out (by have := SE1.out; have := LZ1.out; have := SE2.out; have := LZ2.out; have := SE3.out; have := LZ3.out; have := SE4.out; have := LZ4.out; have := SZ.out; omega))); (have ZHb := hid ((ZH.out.ext (ext_alloc (Below.refl _ _) (.cells #[] 3))).below EB.out (by have := SE1.out; have := LZ1.out; have := SE2.out; have := LZ2.out; have := SE3.out; have := LZ3.out; have := SE4.out; have := LZ4.out; have := SZ.out; omega))); (have ZWb := hid ((ZW.out.ext (ext_alloc (Below.refl _ _) (.cells #[] 3))).below EB.out (by have := SE1.out; have := LZ1.out; have := SE2.out; have := LZ2.out; have := SE3.out; have := LZ3.out; have := SE4.out; have := LZ4.out; have := SZ.out; omega))); (have ZIb := hid ((ZI.out.ext (ext_alloc (Below.refl _ _) (.cells #[] 3))).below EB.out (by have := SE1.out; have := LZ1.out; have := SE2.out; have := LZ2.out; have := SE3.out; have := LZ3.out; have := SE4.out; have := LZ4.out; have := SZ.out; omega))); (clear K1 K2 BV SZ ZS ZD ZH ZW ZI); (have ZYb := hid (RowZ.mk' q1)); (clear q1 q2 EB cK fK cL fL cM); (obtain ⟨V5, hV5⟩ : ∃ v, v = (w5.setCell ⟨w.heap.size, 14, none⟩ (.slice aY' r.yes.length cY')) := ⟨_, rfl⟩); (have k1 : Blk (w5.setCell ⟨w.heap.size, 14, none⟩ (.slice aY' r.yes.length cY')) w.heap.size (rcV r ⟨(some ⟨gS, 0, none⟩), cS', (some ⟨gD, 0, none⟩), cD', (some ⟨gH, 0, none⟩), cH', aW', cW', aY', cY', aB, cB, aA, cA⟩) 41 := by (have h9 := ((K1b.out).set (o := 14) (.slice aY' r.yes.length cY')); simpa using h9)); (have cK := K1b.out.cell); (have fK := K1b.out.free); (have cL := k1.cell); (have fL := k1.free); (skip); (have K1 := hid (show Blk V5 w.heap.size (rcV r ⟨(some ⟨gS, 0, none⟩), cS', (some ⟨gD, 0, none⟩), cD', (some ⟨gH, 0, none⟩), cH', aW', cW', aY', cY', aB, cB, aA, cA⟩) 41 by rw [hV5]; exact k1)); (have K2 := hid (show Blk V5 (w.heap.size + 1) #[.int .i64 0, .int .i64 0, .bool false, .int .i64 0, .int .i64 0, .slice none 0 0, .int .i64 0, .int .i64 0, .slice none 0 0, .slice none 0 0, .slice none 0 0, .bool false, .bool false, .int .i64 0, .slice none 0 0, .slice none 0 0, .slice none 0 0, .int .i64 0] 41 by rw [hV5]; exact (K2b.out.setCell (by simp) _))); (have BV := hid (show Below w.heap.size w V5 by rw [hV5]; exact (below_set BVb.out (Nat.le_refl _) _))); (have SE5 := hid (show w5.heap.size = V5.heap.size by rw [hV5]; simp)); (have SZ := hid (show w.heap.size + 1 < V5.heap.size from K2.out.lt)); (clear k1 K1b K2b BVb); (have ZS := hid (show RowZ V.heap.size w1.heap.size V5 108 2 (some ⟨gS, 0, none⟩) r.ss.length cS' (flat r.ss) by rw [hV5]; exact (ZSb.out.set (by have := LOS.out; simp; omega) _))); (have ZD := hid (show RowZ V1.heap.size w2.heap.size V5 108 2 (some ⟨gD, 0, none⟩) r.ds.length cD' (flat r.ds) by rw [hV5]; exact (ZDb.out.set (by have := LOD.out; simp; omega) _))); (have ZH := hid (show RowZ V2.heap.size w3.heap.size V5 45 8 (some ⟨gH, 0, none⟩) r.held.length cH' (flatM LH) by rw [hV5]; exact (ZHb.out.set (by have := LOH.out; simp; omega) _))); (have ZW := hid (show RowZ w3.heap.size w4.heap.size V5 9 1 aW' r.wish.length cW' (flatT r.wish) by rw [hV5]; exact (ZWb.out.set (by have := LOW.out; simp; omega) _))); (have ZY := hid (show RowZ w4.heap.size w5.heap.size V5 3 1 aY' r.yes.length cY' (flatI r.yes) by rw [hV5]; exact (ZYb.out.set (by have := LOY.out; simp; omega) _))); (have ZI := hid (show InnZM V2.heap.size w3.heap.size V5 LH by rw [hV5]; exact (ZIb.out.set (by have := LOH.out; simp; omega) _))); (clear ZSb ZDb ZHb ZWb ZYb ZIb)))
  rw [← hV5]
  clear cK fK cL fL
  refine (l1Slots_at aB r.best r.best.length cB _ rfl HS.out.lB (RD.out.ext BV.out).b.plain.1 (RD.out.ext BV.out).b.plain.2 (RD.out.ext BV.out).at.hB).mono ?_
  rintro e w6 ⟨gB, cB', rfl, _, oR0, hb⟩
  have oR := RowZ.mk' oR0
  clear oR0
  have LZ6 := hid (show V5.heap.size ≤ w6.heap.size from hb.size)
  have LOB := hid (show w.heap.size + 1 < V5.heap.size from SZ.out)
  have K1b := hid (K1.out.ext hb)
  have K2b := hid (K2.out.ext hb)
  have BVb := hid (ext_trans BV.out hb)
  have ZSb := hid (ZS.out.ext hb)
  have ZDb := hid (ZD.out.ext hb)
  have ZHb := hid (ZH.out.ext hb)
  have ZWb := hid (ZW.out.ext hb)
  have ZYb := hid (ZY.out.ext hb)
  have ZIb := hid (ZI.out.ext hb)
  clear K1 K2 BV SZ ZS ZD ZH ZW ZY ZI
  have ZBb := hid oR
  clear oR hb
  obtain ⟨V6, hV6⟩ : ∃ v, v = (w6.setCell ⟨w.heap.size, 15, none⟩ (.slice (some ⟨gB, 0, none⟩) r.best.length cB')) := ⟨_, rfl⟩
  have k1 : Blk (w6.setCell ⟨w.heap.size, 15, none⟩ (.slice (some ⟨gB, 0, none⟩) r.best.length cB')) w.heap.size (rcV r ⟨(some ⟨gS, 0, none⟩), cS', (some ⟨gD, 0, none⟩), cD', (some ⟨gH, 0, none⟩), cH', aW', cW', aY', cY', (some ⟨gB, 0, none⟩), cB', aA, cA⟩) 41 := by (have h9 := ((K1b.out).set (o := 15) (.slice (some ⟨gB, 0, none⟩) r.best.length cB')); simpa using h9)
  have cK := K1b.out.cell
  have fK := K1b.out.free
  have cL := k1.cell
  have fL := k1.free
  have cM := (k1.alloc (.cells #[] 105)).cell
  have K1 := hid (show Blk V6 w.heap.size (rcV r ⟨(some ⟨gS, 0, none⟩), cS', (some ⟨gD, 0, none⟩), cD', (some ⟨gH, 0, none⟩), cH', aW', cW', aY', cY', (some ⟨gB, 0, none⟩), cB', aA, cA⟩) 41 by rw [hV6]; exact k1)
  have K2 := hid (show Blk V6 (w.heap.size + 1) #[.int .i64 0, .int .i64 0, .bool false, .int .i64 0, .int .i64 0, .slice none 0 0, .int .i64 0, .int .i64 0, .slice none 0 0, .slice none 0 0, .slice none 0 0, .bool false, .bool false, .int .i64 0, .slice none 0 0, .slice none 0 0, .slice none 0 0, .int .i64 0] 41 by rw [hV6]; exact (K2b.out.setCell (by simp) _))
  have BV := hid (show Below w.heap.size w V6 by rw [hV6]; exact (below_set BVb.out (Nat.le_refl _) _))
  have SE6 := hid (show w6.heap.size = V6.heap.size by rw [hV6]; simp)
  have SZ := hid (show w.heap.size + 1 < V6.heap.size from K2.out.lt)
  clear k1 K1b K2b BVb
  have ZS := hid (show RowZ V.heap.size w1.heap.size V6 108 2 (some ⟨gS, 0, none⟩) r.ss.length cS' (flat r.ss) by rw [hV6]; exact (ZSb.out.set (by have := LOS.out; simp; omega) _))
  have ZD := hid (show RowZ V1.heap.size w2.heap.size V6 108 2 (some ⟨gD, 0, none⟩) r.ds.length cD' (flat r.ds) by rw [hV6]; exact (ZDb.out.set (by have := LOD.out; simp; omega) _))
  have ZH := hid (show RowZ V2.heap.size w3.heap.size V6 45 8 (some ⟨gH, 0, none⟩) r.held.length cH' (flatM LH) by rw [hV6]; exact (ZHb.out.set (by have := LOH.out; simp; omega) _))
  have ZW := hid (show RowZ w3.heap.size w4.heap.size V6 9 1 aW' r.wish.length cW' (flatT r.wish) by rw [hV6]; exact (ZWb.out.set (by have := LOW.out; simp; omega) _))
  have ZY := hid (show RowZ w4.heap.size w5.heap.size V6 3 1 aY' r.yes.length cY' (flatI r.yes) by rw [hV6]; exact (ZYb.out.set (by have := LOY.out; simp; omega) _))
  have ZB := hid (show RowZ V5.heap.size w6.heap.size V6 108 2 (some ⟨gB, 0, none⟩) r.best.length cB' (flat r.best) by rw [hV6]; exact (ZBb.out.set (by have := LOB.out; simp; omega) _))
  have ZI := hid (show InnZM V2.heap.size w3.heap.size V6 LH by rw [hV6]; exact (ZIb.out.set (by have := LOH.out; simp; omega) _))
  clear ZSb ZDb ZHb ZWb ZYb ZBb ZIb
  go_wp2_with fail
  try rw [← hV6]
  clear cK fK cL fL
  go_loopw [3, 4] (fun v i wr => ∃ (k g cap : Nat) (A' : List Ap), k ≤ r.acks.length ∧ i = .int .i64 k ∧ v = .slice (some ⟨g, 0, none⟩) k cap ∧ wr.ownsRow w6.heap.size 105 2 (.slice (some ⟨g, 0, none⟩) k cap) k (flatA A') ∧ A'.map (·.1) = r.acks.take k ∧ InnZA w6.heap.size wr.heap.size wr A' ∧ Below w6.heap.size V6 wr) (fun _ i _ => r.acks.length - (intOf i).toNat)
  case atStart => exact ⟨0, w6.heap.size, 0, [], Nat.zero_le _, rfl, rfl, by (have h9 := own_none8 V6 105 2; rw [← SE6.out] at h9; exact h9), by simp, InnZA.nil _ _ _, (Below.refl _ _).alloc (Nat.le_of_eq SE6.out) _⟩
  case round =>
    obtain ⟨k, g, cp0, A', hk, rfl, rfl, hown, hmap, hinn, hbel⟩ := hrel
    have HM := hid hmap
    have HR := hid hown
    have HI := hid hinn
    have HB := hid hbel
    have LH9 := hid (show A'.length = k by have := congrArg List.length hmap; simp at this; omega)
    have LV := hid (show w6.heap.size ≤ V6.heap.size by have := SE6.out; omega)
    have LW := hid (show w.heap.size + 1 < w6.heap.size by have := SZ.out; have := SE6.out; omega)
    have hlen : r.acks.length ≤ 1048576 := HS.out.lA
    clear hmap hown hinn hbel
    by_cases hlt : k < r.acks.length
    · obtain ⟨m, hm0⟩ : ∃ m, X.A[k]? = some m := ⟨_, List.getElem?_eq_getElem (by rw [XA.out]; exact hlt)⟩
      have RM := hid (show r.acks[k]? = some m.1 by rw [← RD.out.am, List.getElem?_map, hm0]; rfl)
      have MI := hid (RD.out.ai.row m (List.mem_of_getElem? hm0)).read
      have MS := hid (HS.out.nA k m.1 RM.out)
      obtain ⟨ga', e0, _, c6, _⟩ := (RD.out.ext BV.out).a.cellA hm0 (q := 0) (by omega) rfl
      obtain ⟨ga', e1, _, c7, _⟩ := (RD.out.ext BV.out).a.cellA hm0 (q := 1) (by omega) rfl
      have e2 := some_inj_addr e0 e1
      subst e2
      clear e1
      dsimp only at e0
      subst e0
      have C6 := hid (show V6.cell? ⟨ga', k * 2, none⟩ = some (.int .i64 m.1.1) from c6)
      have C7 := hid (show V6.cell? ⟨ga', k * 2 + 1, none⟩ = some (.slice m.2.1 m.1.2.length m.2.2) from c7)
      have GLT := hid (show ga' < w6.heap.size by have := (RD.out.a.lt _ rfl).2; have := LW.out; dsimp only at *; omega)
      clear c6 c7 hm0
      have BW := hid (show Below w.heap.size w wr from BV.out.trans (HB.out.mono (by have := LW.out; omega)))
      have hK0 : BoxS w6.heap.size V6 w.heap.size (rcV r ⟨(some ⟨gS, 0, none⟩), cS', (some ⟨gD, 0, none⟩), cD', (some ⟨gH, 0, none⟩), cH', aW', cW', aY', cY', (some ⟨gB, 0, none⟩), cB', some ⟨ga', 0, none⟩, cA⟩) wr := ⟨K1.out.below HB.out (by have := LW.out; omega), HB.out⟩
      have cW9 := hK0.blk.cell
      have e1 : (0 : Int) ≤ (k : Int) := by omega
      have e2 : (k : Int) < (r.acks.length : Int) := by omega
      go_wp2_with fail
      clear cW9
      refine wp_region_held_drew (S := BoxS w6.heap.size V6 w.heap.size (rcV r ⟨(some ⟨gS, 0, none⟩), cS', (some ⟨gD, 0, none⟩), cD', (some ⟨gH, 0, none⟩), cH', aW', cW', aY', cY', (some ⟨gB, 0, none⟩), cB', some ⟨ga', 0, none⟩, cA⟩)) (by kernel_rfl) hK0.drew (fun hHeld => ?_)
      clear hK0
      simp only [List.size_toArray, List.length_cons, List.length_nil, Nat.reduceAdd, Array.replicate_succ, Array.replicate_zero, List.push_toArray, List.append_toArray, List.nil_append, List.cons_append]
      refine wpAnyH_take (i := 0) (v := ?_) (at_lit rfl) (by kernel_rfl) (by kernel_rfl) (by kernel_rfl) (fun _ _ _ h => h) (Or.inl ⟨by rfl, ?_⟩) hHeld ?_
      rotate_left
      · (intro w9 hSw; have hq := hSw.blk.cell; have h6 := (hSw.bel.cell (p := ⟨ga', k * 2, none⟩) GLT.out).trans C6.out; have h7 := (hSw.bel.cell (p := ⟨ga', k * 2 + 1, none⟩) GLT.out).trans C7.out; clear hSw; go_simp; try with_reducible rfl)
      try simp only [Act.put, List.setIfInBounds_toArray, List.set_cons_zero, List.set_cons_succ]
      refine wpAnyH_take (i := 1) (v := ?_) (at_lit rfl) (by kernel_rfl) (by kernel_rfl) (by kernel_rfl) (fun _ _ _ h => h) (Or.inl ⟨by rfl, ?_⟩) hHeld ?_
      rotate_left
      · (intro w9 hSw; have hq := hSw.blk.cell; have h6 := (hSw.bel.cell (p := ⟨ga', k * 2, none⟩) GLT.out).trans C6.out; have h7 := (hSw.bel.cell (p := ⟨ga', k * 2 + 1, none⟩) GLT.out).trans C7.out; clear hSw; go_simp; try with_reducible rfl)
      try simp only [Act.put, List.setIfInBounds_toArray, List.set_cons_zero, List.set_cons_succ]
      refine wpAnyH_take (i := 2) (v := ?_) (at_lit rfl) (by kernel_rfl) (by kernel_rfl) (by kernel_rfl) (fun _ _ _ h => h) (Or.inl ⟨by rfl, ?_⟩) hHeld ?_
      rotate_left
      · (intro w9 hSw; have hq := hSw.blk.cell; have h6 := (hSw.bel.cell (p := ⟨ga', k * 2, none⟩) GLT.out).trans C6.out; have h7 := (hSw.bel.cell (p := ⟨ga', k * 2 + 1, none⟩) GLT.out).trans C7.out; clear hSw; go_simp; try with_reducible rfl)
      try simp only [Act.put, List.setIfInBounds_toArray, List.set_cons_zero, List.set_cons_succ]
      refine wpAnyH_take (i := 3) (v := ?_) (at_lit rfl) (by kernel_rfl) (by kernel_rfl) (by kernel_rfl) (fun _ _ _ h => h) (Or.inl ⟨by rfl, ?_⟩) hHeld ?_
      rotate_left
      · (intro w9 hSw; have hq := hSw.blk.cell; have h6 := (hSw.bel.cell (p := ⟨ga', k * 2, none⟩) GLT.out).trans C6.out; have h7 := (hSw.bel.cell (p := ⟨ga', k * 2 + 1, none⟩) GLT.out).trans C7.out; clear hSw; go_simp; try with_reducible rfl)
      try simp only [Act.put, List.setIfInBounds_toArray, List.set_cons_zero, List.set_cons_succ]
      refine wpAnyH_take (i := 4) (v := ?_) (at_lit rfl) (by kernel_rfl) (by kernel_rfl) (by kernel_rfl) (fun _ _ _ h => h) (Or.inl ⟨by rfl, ?_⟩) hHeld ?_
      rotate_left
      · (intro w9 hSw; have hq := hSw.blk.cell; have h6 := (hSw.bel.cell (p := ⟨ga', k * 2, none⟩) GLT.out).trans C6.out; have h7 := (hSw.bel.cell (p := ⟨ga', k * 2 + 1, none⟩) GLT.out).trans C7.out; clear hSw; go_simp; try with_reducible rfl)
      try simp only [Act.put, List.setIfInBounds_toArray, List.set_cons_zero, List.set_cons_succ]
      refine wpAnyH_take (i := 5) (v := ?_) (at_lit rfl) (by kernel_rfl) (by kernel_rfl) (by kernel_rfl) (fun _ _ _ h => h) (Or.inl ⟨by rfl, ?_⟩) hHeld ?_
      rotate_left
      · (intro w9 hSw; have hq := hSw.blk.cell; have h6 := (hSw.bel.cell (p := ⟨ga', k * 2, none⟩) GLT.out).trans C6.out; have h7 := (hSw.bel.cell (p := ⟨ga', k * 2 + 1, none⟩) GLT.out).trans C7.out; clear hSw; go_simp; try with_reducible rfl)
      try simp only [Act.put, List.setIfInBounds_toArray, List.set_cons_zero, List.set_cons_succ]
      refine wpAnyH_take (i := 6) (v := ?_) (at_lit rfl) (by kernel_rfl) (by kernel_rfl) (by kernel_rfl) (fun _ _ _ h => h) (Or.inl ⟨by rfl, ?_⟩) hHeld ?_
      rotate_left
      · (intro w9 hSw; have hq := hSw.blk.cell; have h6 := (hSw.bel.cell (p := ⟨ga', k * 2, none⟩) GLT.out).trans C6.out; have h7 := (hSw.bel.cell (p := ⟨ga', k * 2 + 1, none⟩) GLT.out).trans C7.out; clear hSw; go_simp; try with_reducible rfl)
      try simp only [Act.put, List.setIfInBounds_toArray, List.set_cons_zero, List.set_cons_succ]
      refine wpAnyH_take (i := 8) (v := ?_) (at_lit rfl) (by kernel_rfl) (by kernel_rfl) (by kernel_rfl) (fun _ _ _ h => h) (Or.inl ⟨by rfl, ?_⟩) hHeld ?_
      rotate_left
      · (intro w9 hSw; have hq := hSw.blk.cell; have h6 := (hSw.bel.cell (p := ⟨ga', k * 2, none⟩) GLT.out).trans C6.out; have h7 := (hSw.bel.cell (p := ⟨ga', k * 2 + 1, none⟩) GLT.out).trans C7.out; clear hSw; go_simp; try with_reducible rfl)
      try simp only [Act.put, List.setIfInBounds_toArray, List.set_cons_zero, List.set_cons_succ]
      refine wpAnyH_take (i := 9) (v := ?_) (at_lit rfl) (by kernel_rfl) (by kernel_rfl) (by kernel_rfl) (fun _ _ _ h => h) (Or.inl ⟨by rfl, ?_⟩) hHeld ?_
      rotate_left
      · (intro w9 hSw; have hq := hSw.blk.cell; have h6 := (hSw.bel.cell (p := ⟨ga', k * 2, none⟩) GLT.out).trans C6.out; have h7 := (hSw.bel.cell (p := ⟨ga', k * 2 + 1, none⟩) GLT.out).trans C7.out; clear hSw; go_simp; try with_reducible rfl)
      try simp only [Act.put, List.setIfInBounds_toArray, List.set_cons_zero, List.set_cons_succ]
      refine wpAnyH_take (i := 10) (v := ?_) (at_lit rfl) (by kernel_rfl) (by kernel_rfl) (by kernel_rfl) (fun _ _ _ h => h) (Or.inl ⟨by rfl, ?_⟩) hHeld ?_
      rotate_left
      · (intro w9 hSw; have hq := hSw.blk.cell; have h6 := (hSw.bel.cell (p := ⟨ga', k * 2, none⟩) GLT.out).trans C6.out; have h7 := (hSw.bel.cell (p := ⟨ga', k * 2 + 1, none⟩) GLT.out).trans C7.out; clear hSw; go_simp; try with_reducible rfl)
      try simp only [Act.put, List.setIfInBounds_toArray, List.set_cons_zero, List.set_cons_succ]
      refine wpAnyH_take (i := 11) (v := ?_) (at_lit rfl) (by kernel_rfl) (by kernel_rfl) (by kernel_rfl) (fun _ _ _ h => h) (Or.inl ⟨by rfl, ?_⟩) hHeld ?_
      rotate_left
      · (intro w9 hSw; have hq := hSw.blk.cell; have h6 := (hSw.bel.cell (p := ⟨ga', k * 2, none⟩) GLT.out).trans C6.out; have h7 := (hSw.bel.cell (p := ⟨ga', k * 2 + 1, none⟩) GLT.out).trans C7.out; clear hSw; go_simp; try with_reducible rfl)
      try simp only [Act.put, List.setIfInBounds_toArray, List.set_cons_zero, List.set_cons_succ]
      refine wpAnyH_take (i := 12) (v := ?_) (at_lit rfl) (by kernel_rfl) (by kernel_rfl) (by kernel_rfl) (fun _ _ _ h => h) (Or.inl ⟨by rfl, ?_⟩) hHeld ?_
      rotate_left
      · (intro w9 hSw; have hq := hSw.blk.cell; have h6 := (hSw.bel.cell (p := ⟨ga', k * 2, none⟩) GLT.out).trans C6.out; have h7 := (hSw.bel.cell (p := ⟨ga', k * 2 + 1, none⟩) GLT.out).trans C7.out; clear hSw; go_simp; try with_reducible rfl)
      try simp only [Act.put, List.setIfInBounds_toArray, List.set_cons_zero, List.set_cons_succ]
      refine wpAnyH_take (i := 13) (v := ?_) (at_lit rfl) (by kernel_rfl) (by kernel_rfl) (by kernel_rfl) (fun _ _ _ h => h) (Or.inl ⟨by rfl, ?_⟩) hHeld ?_
      rotate_left
      · (intro w9 hSw; have hq := hSw.blk.cell; have h6 := (hSw.bel.cell (p := ⟨ga', k * 2, none⟩) GLT.out).trans C6.out; have h7 := (hSw.bel.cell (p := ⟨ga', k * 2 + 1, none⟩) GLT.out).trans C7.out; clear hSw; go_simp; try with_reducible rfl)
      try simp only [Act.put, List.setIfInBounds_toArray, List.set_cons_zero, List.set_cons_succ]
      refine wpAnyH_ready (rs := [7]) (by kernel_rfl) (by simp) ?_
      refine AllReadyH.cons (at_lit rfl) (fun K hK => ?_) AllReadyH.nil
      go_simp
      refine hK.out _ _ ⟨hHeld.blk.alloc _, hHeld.bel.alloc (Nat.le_trans LV.out hHeld.bel.size) _⟩ (fun hNew => ?_)
      clear hK K hHeld
      have hHeld := hNew
      clear hNew
      try simp only [Act.put, List.setIfInBounds_toArray, List.set_cons_zero, List.set_cons_succ]
      refine wpAnyH_ready (rs := [14]) (by kernel_rfl) (by simp) ?_
      refine AllReadyH.cons (at_lit rfl) (fun K hK => ?_) AllReadyH.nil
      rw [if_pos (by rfl)]
      refine wp_newI wr.heap.size m.2.1 m.1.2.length m.2.2 (flatI m.1.2) rfl rfl (Blk.new' _ _ rfl) (MI.out.ext (ext_alloc BW.out.drew _)) (flatI_one _) (Nat.le_trans MS.out (by omega)) ?_
      intro a9 c9 z q1 q2
      have EB := hid (show Below wr.heap.size (wr.drew.alloc (.cells #[] 3)) z from grown_below q2 (by simp))
      have HZ := hid (show Below wr.heap.size wr z from ((Below.refl _ _).drew.alloc (Nat.le_refl _) _).trans EB.out)
      have O9 := hid (show RowZ wr.heap.size z.heap.size z 3 1 a9 m.1.2.length c9 (flatI m.1.2) from RowZ.mk' q1)
      have LB := hid (show w6.heap.size ≤ wr.heap.size from Nat.le_trans LV.out HB.out.size)
      clear q1 q2
      refine hK.out _ _ ⟨hHeld.blk.below EB.out (by have := LB.out; have := LW.out; omega), hHeld.bel.trans (EB.out.mono LB.out)⟩ (fun hNew => ?_)
      clear hK K hHeld EB
      have hHeld := hNew
      clear hNew
      try simp only [Act.put, List.setIfInBounds_toArray, List.set_cons_zero, List.set_cons_succ]
      refine wpAnyH_take (i := 15) (v := ?_) (at_lit rfl) (by kernel_rfl) (by kernel_rfl) (by kernel_rfl) (fun _ _ _ h => h) (Or.inl ⟨by rfl, ?_⟩) hHeld ?_
      rotate_left
      · (intro w9 hSw; have hq := hSw.blk.cell; have h6 := (hSw.bel.cell (p := ⟨ga', k * 2, none⟩) GLT.out).trans C6.out; have h7 := (hSw.bel.cell (p := ⟨ga', k * 2 + 1, none⟩) GLT.out).trans C7.out; clear hSw; go_simp; try with_reducible rfl)
      try simp only [Act.put, List.setIfInBounds_toArray, List.set_cons_zero, List.set_cons_succ]
      refine wpAnyH_ready (rs := [16]) (by kernel_rfl) (by simp) ?_
      refine AllReadyH.cons (at_lit rfl) (fun K hK => ?_) AllReadyH.nil
      go_simp
      refine hK.out _ _ ⟨hHeld.blk.alloc _, hHeld.bel.alloc (Nat.le_trans LV.out hHeld.bel.size) _⟩ (fun hNew => ?_)
      clear hK K hHeld
      have hHeld := hNew
      clear hNew
      try simp only [Act.put, List.setIfInBounds_toArray, List.set_cons_zero, List.set_cons_succ]
      obtain ⟨Z, hZ⟩ : ∃ Z, Z = z.alloc (.cells #[.int .i64 m.1.1, .slice a9 m.1.2.length c9] 105) := ⟨_, rfl⟩
      have EZ := hid (show Below z.heap.size z Z by rw [hZ]; exact ext_alloc (Below.refl _ _) _)
      have NEWS := hid (show ReadAt Z (some ⟨z.heap.size, 0, none⟩) 1 1 2 (cellsA (m.1, a9, c9)) from
        ⟨rfl, fun e => by simp at e, fun x hx => by
          simp only [Option.some.injEq] at hx
          subst hx
          exact ⟨rfl, by rw [hZ]; exact blk_news (Blk.new z #[.int .i64 m.1.1, .slice a9 m.1.2.length c9] 105)⟩⟩)
      have ZW := hid (own_ext' (own_ext' HR.out HZ.out) EZ.out)
      have ZN := hid (O9.out.ext EZ.out)
      have ZJ := hid ((HI.out.ext HZ.out).ext EZ.out)
      have SZ9 := hid (show w6.heap.size ≤ Z.heap.size from Nat.le_trans LB.out (Nat.le_trans HZ.out.size EZ.out.size))
      have S1 := hid HZ.out.size
      have S2 := hid EZ.out.size
      have GL := hid (show w6.heap.size ≤ g from (HR.out.lt g rfl).1)
      clear O9
      rw [← hZ] at hHeld ⊢
      refine wpAnyH_ready (rs := [17]) (by kernel_rfl) (by simp) ?_
      refine AllReadyH.cons (at_lit rfl) (fun K hK => ?_) AllReadyH.nil
      rw [if_pos (by rfl)]
      refine wp_appA w6.heap.size (some ⟨g, 0, none⟩) k cp0 (flatA A') (some ⟨z.heap.size, 0, none⟩) 1 1 (cellsA (m.1, a9, c9)) rfl rfl ZW.out NEWS.out (fun u hu => by simp [cellsA] at hu; rcases hu with rfl | rfl <;> rfl) (by omega) SZ9.out ?_
      intro a2 c2 w' r1 r2 r3
      have R1 := hid r1
      have R2 := hid (show Z.grownBy w' (some g) from r2)
      clear r1 r2 r3
      refine hK.out _ _ ⟨(R2.out.block w.heap.size hHeld.blk.lt (by have := GL.out; have := LW.out; simp; omega)).trans hHeld.blk, below_grown hHeld.bel R2.out GL.out SZ9.out⟩ (fun hNew => ?_)
      clear hK K hHeld
      have hHeld := hNew
      clear hNew
      try simp only [Act.put, List.setIfInBounds_toArray, List.set_cons_zero, List.set_cons_succ]
      obtain ⟨g2, cap2, C2, e4, hb9, hn9, _⟩ := own_formk R1.out (fun e => by have := congrArg (fun v => match v with | Value.slice _ n _ => n | _ => 0) e; simp at this)
      simp only [Value.slice.injEq, true_and] at e4
      obtain ⟨rfl, rfl⟩ := e4
      obtain ⟨g3, cap3, C3, e3, _, _, hblk⟩ := own_formk ZW.out (by simp)
      simp only [Value.slice.injEq, Option.some.injEq, Addr.mk.injEq, and_true, true_and] at e3
      obtain ⟨rfl, rfl⟩ := e3
      refine wpAnyH_take (i := 18) (v := ?_) (at_lit rfl) (by kernel_rfl) (by kernel_rfl) (by kernel_rfl) (fun _ _ _ h => h) (Or.inl ⟨by rfl, ?_⟩) hHeld ?_
      rotate_left
      · (intro w9 hSw; have hq := hSw.blk.cell; have h6 := (hSw.bel.cell (p := ⟨ga', k * 2, none⟩) GLT.out).trans C6.out; have h7 := (hSw.bel.cell (p := ⟨ga', k * 2 + 1, none⟩) GLT.out).trans C7.out; clear hSw; go_simp; try with_reducible rfl)
      try simp only [Act.put, List.setIfInBounds_toArray, List.set_cons_zero, List.set_cons_succ]
      refine wpAnyH_done (by kernel_rfl) ?_ _
      have HH := hid hHeld
      clear hHeld
      go_wp2_with fail
      go_roundw
      case rel =>
        refine ⟨k + 1, g2, c2, A' ++ [(m.1, a9, c9)], by omega, by go_num, rfl, ?_, ?_, ?_, HH.out.bel⟩
        · have := R1.out
          rw [show flatA (A' ++ [(m.1, a9, c9)]) = flatA A' ++ cellsA (m.1, a9, c9) by simp [flatA]]
          exact this
        · rw [List.map_append, HM.out, List.take_add_one, RM.out]; rfl
        · have := (ZJ.out.snoc (m := (m.1, a9, c9)) ZN.out LB.out (Nat.le_refl _) S1.out)
          exact this.kept R2.out hblk (Nat.le_trans S2.out R2.out.size)
      case measure => simp [intOf]; omega
    · have hkk : k = r.acks.length := by omega
      subst hkk
      have HF := hid (show A'.map (·.1) = r.acks by rw [HM.out, List.take_length])
      have K1b := hid (K1.out.below HB.out (by have := LW.out; omega))
      have K2b := hid (K2.out.below HB.out (by have := LW.out; omega))
      have BVb := hid (show Below w.heap.size w wr from BV.out.trans (HB.out.mono (by have := LW.out; omega)))
      have ZA := hid (RowZ.mk' HR.out)
      have k1 : Blk (wr.setCell ⟨w.heap.size, 16, none⟩ (.slice (some ⟨g, 0, none⟩) r.acks.length cp0)) w.heap.size (rcV r ⟨(some ⟨gS, 0, none⟩), cS', (some ⟨gD, 0, none⟩), cD', (some ⟨gH, 0, none⟩), cH', aW', cW', aY', cY', (some ⟨gB, 0, none⟩), cB', (some ⟨g, 0, none⟩), cp0⟩) 41 := by (have h9 := (K1b.out.set (o := 16) (.slice (some ⟨g, 0, none⟩) r.acks.length cp0)); simpa using h9)
      have k2 : Blk (wr.setCell ⟨w.heap.size, 16, none⟩ (.slice (some ⟨g, 0, none⟩) r.acks.length cp0)) (w.heap.size + 1) #[.int .i64 0, .int .i64 0, .bool false, .int .i64 0, .int .i64 0, .slice none 0 0, .int .i64 0, .int .i64 0, .slice none 0 0, .slice none 0 0, .slice none 0 0, .bool false, .bool false, .int .i64 0, .slice none 0 0, .slice none 0 0, .slice none 0 0, .int .i64 0] 41 := K2b.out.setCell (by simp) _
      have cK := K1b.out.cell
      have fK := K1b.out.free
      go_wp2_with (first
        | ((with_reducible refine wpList_load_rec w.heap.size (rcV r ⟨(some ⟨gS, 0, none⟩), cS', (some ⟨gD, 0, none⟩), cD', (some ⟨gH, 0, none⟩), cH', aW', cW', aY', cY', (some ⟨gB, 0, none⟩), cB', (some ⟨g, 0, none⟩), cp0⟩) rfl ?_ ?_ ?_); (· rfl); (· exact k1))
        | ((with_reducible refine wpList_store_rec_at (w.heap.size + 1) #[.int .i64 0, .int .i64 0, .bool false, .int .i64 0, .int .i64 0, .slice none 0 0, .int .i64 0, .int .i64 0, .slice none 0 0, .slice none 0 0, .slice none 0 0, .bool false, .bool false, .int .i64 0, .slice none 0 0, .slice none 0 0, .slice none 0 0, .int .i64 0] (rcV r ⟨(some ⟨gS, 0, none⟩), cS', (some ⟨gD, 0, none⟩), cD', (some ⟨gH, 0, none⟩), cH', aW', cW', aY', cY', (some ⟨gB, 0, none⟩), cB', (some ⟨g, 0, none⟩), cp0⟩) rfl rfl ?_ ?_ ?_ ?_ ?_); (· rfl); (· rfl); (· exact k2); (· simp [Value.oneCell'])))
      have hz := setRow_heap _ (w.heap.size + 1) _ (rcV r ⟨(some ⟨gS, 0, none⟩), cS', (some ⟨gD, 0, none⟩), cD', (some ⟨gH, 0, none⟩), cH', aW', cW', aY', cY', (some ⟨gB, 0, none⟩), cB', (some ⟨g, 0, none⟩), cp0⟩) _ _ k2
      refine ret_cell (ty := 41) Tryz.results28 (w.heap.size + 1) (rcV r ⟨(some ⟨gS, 0, none⟩), cS', (some ⟨gD, 0, none⟩), cD', (some ⟨gH, 0, none⟩), cH', aW', cW', aY', cY', (some ⟨gB, 0, none⟩), cB', (some ⟨g, 0, none⟩), cp0⟩) _ ?_ ?_ hz Tryz.underlying41 rfl (by kernel_rfl) ⟨⟨(some ⟨gS, 0, none⟩), cS', (some ⟨gD, 0, none⟩), cD', (some ⟨gH, 0, none⟩), cH', aW', cW', aY', cY', (some ⟨gB, 0, none⟩), cB', (some ⟨g, 0, none⟩), cp0⟩, ⟨LH, A'⟩, colX gH g w1.heap.size w2.heap.size w2.heap.size w3.heap.size w4.heap.size w5.heap.size w6.heap.size w6.heap.size, rfl, ?_, below_setRow' (below_set BVb.out (Nat.le_refl _) _) (by omega) _⟩
      · rfl
      · rfl
      clear hz k1 k2 K1 K2 K1b K2b cK fK
      have LD := hid (show Lad w1.heap.size w2.heap.size w2.heap.size w3.heap.size w4.heap.size w5.heap.size w6.heap.size w6.heap.size by have := SE1.out; have := LZ1.out; have := SE2.out; have := LZ2.out; have := SE3.out; have := LZ3.out; have := SE4.out; have := LZ4.out; have := SE5.out; have := LZ5.out; have := SE6.out; have := LZ6.out; exact ⟨by omega, by omega, by omega, by omega, by omega, by omega, by omega⟩)
      have GH := hid (show w2.heap.size ≤ gH ∧ gH < w3.heap.size by have h1 := (ZH.out.lo _ rfl).1; have h2 := ZH.out.hi _ rfl; have := SE1.out; have := LZ1.out; have := SE2.out; have := LZ2.out; have := SE3.out; have := LZ3.out; have := SE4.out; have := LZ4.out; have := SE5.out; have := LZ5.out; have := SE6.out; have := LZ6.out; dsimp only at h1 h2; omega)
      have GA := hid (show w6.heap.size ≤ g from (ZA.out.lo _ rfl).1)
      have LC := hid (show w1.heap.size ≤ w2.heap.size ∧ w2.heap.size ≤ w3.heap.size ∧ w3.heap.size ≤ w4.heap.size ∧ w4.heap.size ≤ w5.heap.size ∧ w5.heap.size ≤ w6.heap.size by have := SE1.out; have := LZ1.out; have := SE2.out; have := LZ2.out; have := SE3.out; have := LZ3.out; have := SE4.out; have := LZ4.out; have := SE5.out; have := LZ5.out; have := SE6.out; have := LZ6.out; omega)
      have LOA := hid (show w.heap.size + 1 < w6.heap.size from LW.out)
      have SA := hid (fun (b : Nat) (hb : w.heap.size + 1 < b) => setRow_other (wr.setCell ⟨w.heap.size, 16, none⟩ (.slice (some ⟨g, 0, none⟩) r.acks.length cp0)) (w.heap.size + 1) b (rcV r ⟨(some ⟨gS, 0, none⟩), cS', (some ⟨gD, 0, none⟩), cD', (some ⟨gH, 0, none⟩), cH', aW', cW', aY', cY', (some ⟨gB, 0, none⟩), cB', (some ⟨g, 0, none⟩), cp0⟩) (by omega))
      have RS9 := hid (((((ZS.out.below HB.out (by have := LC.out; omega))).set (q := ⟨w.heap.size, 16, none⟩) (by have := LOS.out; simp; omega) (.slice (some ⟨g, 0, none⟩) r.acks.length cp0)).same (fun b h1 _ _ => SA.out b (by have := LOS.out; omega))).row (B := w.heap.size) (col := colX gH g w1.heap.size w2.heap.size w2.heap.size w3.heap.size w4.heap.size w5.heap.size w6.heap.size w6.heap.size) (by have := LOS.out; omega) (fun b h1 h2 => (colX_of (by have := GH.out; have := GA.out; have := LC.out; omega) (by have := GH.out; have := GA.out; have := LC.out; omega)).trans (colZ_0 LD.out h2)))
      have RD9 := hid (((((ZD.out.below HB.out (by have := LC.out; omega))).set (q := ⟨w.heap.size, 16, none⟩) (by have := LOD.out; simp; omega) (.slice (some ⟨g, 0, none⟩) r.acks.length cp0)).same (fun b h1 _ _ => SA.out b (by have := LOD.out; omega))).row (B := w.heap.size) (col := colX gH g w1.heap.size w2.heap.size w2.heap.size w3.heap.size w4.heap.size w5.heap.size w6.heap.size w6.heap.size) (by have := LOD.out; omega) (fun b h1 h2 => (colX_of (by have := GH.out; have := GA.out; have := LC.out; omega) (by have := GH.out; have := GA.out; have := LC.out; omega)).trans (colZ_1 LD.out (by rw [SE1.out]; exact h1) h2)))
      have RW9 := hid (((((ZW.out.below HB.out (by have := LC.out; omega))).set (q := ⟨w.heap.size, 16, none⟩) (by have := LOW.out; simp; omega) (.slice (some ⟨g, 0, none⟩) r.acks.length cp0)).same (fun b h1 _ _ => SA.out b (by have := LOW.out; omega))).row (B := w.heap.size) (col := colX gH g w1.heap.size w2.heap.size w2.heap.size w3.heap.size w4.heap.size w5.heap.size w6.heap.size w6.heap.size) (by have := LOW.out; omega) (fun b h1 h2 => (colX_of (by have := GH.out; have := GA.out; have := LC.out; omega) (by have := GH.out; have := GA.out; have := LC.out; omega)).trans (colZ_3 LD.out h1 h2)))
      have RY9 := hid (((((ZY.out.below HB.out (by have := LC.out; omega))).set (q := ⟨w.heap.size, 16, none⟩) (by have := LOY.out; simp; omega) (.slice (some ⟨g, 0, none⟩) r.acks.length cp0)).same (fun b h1 _ _ => SA.out b (by have := LOY.out; omega))).row (B := w.heap.size) (col := colX gH g w1.heap.size w2.heap.size w2.heap.size w3.heap.size w4.heap.size w5.heap.size w6.heap.size w6.heap.size) (by have := LOY.out; omega) (fun b h1 h2 => (colX_of (by have := GH.out; have := GA.out; have := LC.out; omega) (by have := GH.out; have := GA.out; have := LC.out; omega)).trans (colZ_4 LD.out h1 h2)))
      have RB9 := hid (((((ZB.out.below HB.out (by have := LC.out; omega))).set (q := ⟨w.heap.size, 16, none⟩) (by have := LOB.out; simp; omega) (.slice (some ⟨g, 0, none⟩) r.acks.length cp0)).same (fun b h1 _ _ => SA.out b (by have := LOB.out; omega))).row (B := w.heap.size) (col := colX gH g w1.heap.size w2.heap.size w2.heap.size w3.heap.size w4.heap.size w5.heap.size w6.heap.size w6.heap.size) (by have := LOB.out; omega) (fun b h1 h2 => (colX_of (by have := GH.out; have := GA.out; have := LC.out; have := SE5.out; omega) (by have := GH.out; have := GA.out; have := LC.out; have := SE5.out; omega)).trans (colZ_5 LD.out (by rw [SE5.out]; exact h1) h2)))
      have RH9 := hid (((((ZH.out.below HB.out (by have := LC.out; omega))).set (q := ⟨w.heap.size, 16, none⟩) (by have := LOH.out; simp; omega) (.slice (some ⟨g, 0, none⟩) r.acks.length cp0)).same (fun b h1 _ _ => SA.out b (by have := LOH.out; omega))).rowOne (B := w.heap.size) (col := colX gH g w1.heap.size w2.heap.size w2.heap.size w3.heap.size w4.heap.size w5.heap.size w6.heap.size w6.heap.size) (by have := LOH.out; omega) (colX_H _ _ _ _ _ _ _ _ _ _))
      have RA9 := hid ((((ZA.out).set (q := ⟨w.heap.size, 16, none⟩) (by have := LOA.out; simp; omega) (.slice (some ⟨g, 0, none⟩) r.acks.length cp0)).same (fun b h1 _ _ => SA.out b (by have := LOA.out; omega))).rowOne (B := w.heap.size) (col := colX gH g w1.heap.size w2.heap.size w2.heap.size w3.heap.size w4.heap.size w5.heap.size w6.heap.size w6.heap.size) (by have := LOA.out; omega) (colX_A (by have := GH.out; have := GA.out; have := LC.out; omega)))
      have RI9 := hid (InnZM.inn' (B := w.heap.size) (col := colX gH g w1.heap.size w2.heap.size w2.heap.size w3.heap.size w4.heap.size w5.heap.size w6.heap.size w6.heap.size) (t := 7) (InnZM.mk (fun m hm => ((((ZI.out.below HB.out (by have := LC.out; omega)).row m hm).set (q := ⟨w.heap.size, 16, none⟩) (by have := LOH.out; simp; omega) (.slice (some ⟨g, 0, none⟩) r.acks.length cp0)).same (fun b h1 _ _ => SA.out b (by have := LOH.out; omega)))) ZI.out.apart) (by have := LOH.out; omega)
        (fun m hm x hx => (colX_of ((ZI.out.row m hm).ne ZH.out (by decide) x _ hx rfl) (by have := (ZI.out.row m hm).hi x hx; have := GA.out; have := LC.out; omega)).trans (colZ_7 LD.out (by have := ((ZI.out.row m hm).lo x hx).1; have := SE2.out; omega) ((ZI.out.row m hm).hi x hx))))
      have RJ9 := hid (InnZA.inn' (B := w.heap.size) (col := colX gH g w1.heap.size w2.heap.size w2.heap.size w3.heap.size w4.heap.size w5.heap.size w6.heap.size w6.heap.size) (t := 8) (InnZA.mk (fun m hm => (((HI.out.row m hm).set (q := ⟨w.heap.size, 16, none⟩) (by have := LW.out; simp; omega) (.slice (some ⟨g, 0, none⟩) r.acks.length cp0)).same (fun b h1 _ _ => SA.out b (by have := LW.out; omega)))) HI.out.apart) (by have := LW.out; omega)
        (fun m hm x hx => (colX_of (by have := ((HI.out.row m hm).lo x hx).1; have := GH.out; have := LC.out; omega) ((HI.out.row m hm).ne ZA.out (by decide) x _ hx rfl)).trans (colZ_8 LD.out ((HI.out.row m hm).lo x hx).1)))
      exact ⟨RS9.out, RD9.out, RH9.out, HFH.out, RI9.out, RW9.out, RY9.out, RB9.out, RA9.out, HF.out, RJ9.out, RD.out.gd⟩
end Go.Proofs.YtffklmlljekceaaGreat

/-
  spec.l2Add: a number in its place.
-/
namespace Go.Proofs.YtffklmlljekceaaGreat
open Go.ChangeShapes Go.WideShapes Go.ChangeAt Go.RowKit
set_option linter.unusedVariables false
set_option linter.unusedSimpArgs false

theorem addL_same : ∀ {l : List Int} {n : Int} {k : Nat}, (∀ (j : Nat) x, j < k → l[j]? = some x → x < n) → l[k]? = some n → addL l n = l
  | [], n, k, _, h => by simp at h
  | x :: l, n, 0, _, h => by
    simp only [List.getElem?_cons_zero, Option.some.injEq] at h
    subst h
    simp [addL]
  | x :: l, n, k + 1, ha, h => by
    have h0 := ha 0 x (by omega) rfl
    simp only [addL, if_pos h0, List.cons.injEq, true_and]
    exact addL_same (k := k) (fun j y hj hy => ha (j + 1) y (by omega) (by simpa using hy)) (by simpa using h)
theorem addL_new : ∀ {l : List Int} {n : Int} {k : Nat}, (∀ (j : Nat) x, j < k → l[j]? = some x → x < n) → k ≤ l.length → (∀ x, l[k]? = some x → n < x) → addL l n = l.take k ++ [n] ++ l.drop k
  | [], n, k, _, _, _ => by simp [addL]
  | x :: l, n, 0, _, _, h => by
    have h0 := h x rfl
    simp only [addL, if_neg (show ¬ x < n by omega), if_neg (show ¬ x = n by omega), List.take_zero, List.nil_append, List.drop_zero, List.cons_append]
  | x :: l, n, k + 1, ha, hk, h => by
    have h0 := ha 0 x (by omega) rfl
    simp only [addL, if_pos h0, List.take_succ_cons, List.drop_succ_cons, List.cons_append, List.cons.injEq, true_and]
    have := addL_new (l := l) (n := n) (k := k) (fun j y hj hy => ha (j + 1) y (by omega) (by simpa using hy)) (by simpa using hk) (fun y hy => h y (by simpa using hy))
    simpa using this
theorem addL_len_new {l : List Int} {n : Int} {k : Nat} (e : addL l n = l.take k ++ [n] ++ l.drop k) (hk : k ≤ l.length) : (addL l n).length = l.length + 1 := by
  rw [e]
  simp
  omega
/-- below z all is as it was at V -/
structure JustS (z : Nat) (V w' : World) : Prop where
  bel : Below z V w'
theorem JustS.drew {z : Nat} {V w' : World} (h : JustS z V w') : JustS z V w'.drew := ⟨h.bel.drew⟩
/-- the answer: the list itself, or one in new memory -/
def AddPost (w : World) (a : Option Addr) (c : Nat) (l : List Int) (n : Int) (e : Ending) (w' : World) : Prop := ∃ a' c', e = .returned (.slice a' (addL l n).length c') ∧ ((a' = a ∧ c' = c ∧ addL l n = l) ∨ RowZ w.heap.size w'.heap.size w' 3 1 a' (addL l n).length c' (flatI (addL l n))) ∧ Below w.heap.size w w'
theorem readI_take {w : World} {x : Addr} {n c k : Nat} {l : List Int} (h : ReadAt w (some x) n c 1 (flatI l)) (hk : k ≤ n) (hn : l.length = n) : ReadAt w (some x) k c 1 (flatI (l.take k)) :=
  ⟨by simp [flatI]; omega, fun h0 => by simp at h0, fun y hy => ⟨(h.cells y hy).1, fun j u hu => (h.cells y hy).2 j u (by
    simp only [flatI, List.map_take, List.getElem?_take] at hu ⊢
    split at hu
    · exact hu
    · simp at hu)⟩⟩
theorem readI_drop {w : World} {b off : Nat} {n c k c' : Nat} {l : List Int} (h : ReadAt w (some ⟨b, off, none⟩) n c 1 (flatI l)) (hk : k ≤ n) (hn : l.length = n) (hnc : n ≤ c) : ReadAt w (if c = k then some ⟨b, off, none⟩ else some ⟨b, off + k, none⟩) (n - k) c' 1 (flatI (l.drop k)) :=
  ⟨by simp [flatI]; omega, fun h0 => by split at h0 <;> simp at h0, fun y hy => by
    refine ⟨by split at hy <;> (simp only [Option.some.injEq] at hy; rw [← hy]), fun j u hu => ?_⟩
    have hlt : k + j < l.length := by
      have := (List.getElem?_eq_some_iff.1 hu).1
      simp only [flatI, List.length_map, List.length_drop] at this
      omega
    rw [if_neg (by omega)] at hy
    simp only [Option.some.injEq] at hy
    subst hy
    have h0 := (h.cells _ rfl).2 (k + j) u (by
      simp only [flatI, List.map_drop, List.getElem?_drop] at hu ⊢
      exact hu)
    rw [Addr.add_mid] at h0 ⊢
    rw [show off + k + j = off + (k + j) by omega]
    exact h0⟩
theorem own_empty {w : World} {B g : Nat} (h : Blk w g #[] 3) (hB : B ≤ g) : w.ownsRow B 3 1 (.slice (some ⟨g, 0, none⟩) 0 0) 0 [] :=
  ⟨by simp, .inr ⟨g, 0, #[], rfl, hB, h, Nat.le_refl _, by unfold maxLen; omega, by simp, by simp⟩⟩
theorem read_one {w : World} {g : Nat} {v : Value} (h : Blk w g #[v] 3) : ReadAt w (some ⟨g, 0, none⟩) 1 1 1 [v] :=
  ⟨by simp, fun h0 => by simp at h0, fun y hy => by
    simp only [Option.some.injEq] at hy
    subst hy
    refine ⟨rfl, fun j u hu => ?_⟩
    rw [Addr.add_mid, Nat.zero_add, h.cell j]
    simpa using hu⟩

set_option maxHeartbeats 8000000 in
set_option maxRecDepth 20000 in
theorem specAdd (a : Option Addr) (l : List Int) (c : Nat) (n0 : Int) (w : World) (hc : l.length ≤ 1048576) (hlc : l.length ≤ c) (h : ReadAt w a l.length c 1 (flatI l)) :
    Calls Tryz.prog 112 #[.slice a l.length c, .int .i64 n0] w (AddPost w a c l n0) := by
  go_enter Tryz.func112, Tryz.ntmps112
  go_wp2
  go_loopw [5] (fun i wr => ∃ (k : Nat), k ≤ l.length ∧ i = .int .i64 k ∧ (∀ (j : Nat) x, j < k → l[j]? = some x → x < n0) ∧ w = wr) (fun i _ => l.length - (intOf i).toNat)
  case atStart => exact ⟨0, Nat.zero_le _, rfl, fun j s hj => absurd hj (by omega), rfl⟩
  case round =>
    obtain ⟨k, hk, rfl, hall0, rfl⟩ := hrel
    have hall : Hid (∀ (j : Nat) x, j < k → l[j]? = some x → x < n0) := hall0
    clear hall0
    have RD := hid h
    by_cases hlt : k < l.length
    · obtain ⟨x, hs0⟩ : ∃ x, l[k]? = some x := ⟨_, List.getElem?_eq_getElem hlt⟩
      have hs : Hid (l[k]? = some x) := hs0
      obtain ⟨ad, rfl⟩ : ∃ ad, a = some ad := by
        cases a with
        | none => have := (h.nil rfl).1; omega
        | some ad => exact ⟨ad, rfl⟩
      obtain ⟨b, off, sp⟩ := ad
      obtain ⟨sp0, hcell⟩ := h.cells _ rfl
      obtain rfl : sp = none := sp0
      have c0 := hcell k (.int .i64 x) (by simp [flatI, hs0])
      rw [Addr.add_mid] at c0
      clear hs0 hcell h
      have e1 : (0 : Int) ≤ (k : Int) := by omega
      have e2 : (k : Int) < (l.length : Int) := by omega
      by_cases hp : x < n0
      · have u1 : decide (x < n0) = true := decide_eq_true hp
        go_wp2
        go_roundw
        case rel =>
          refine ⟨k + 1, by omega, by go_num, fun j u hj hu => ?_, by first | rfl | trivial⟩
          by_cases he : j = k
          · subst he; rw [hs.out] at hu; simp only [Option.some.injEq] at hu; omega
          · exact hall.out j u (by omega) hu
        case measure => simp [intOf]; omega
      · have u1 : decide (x < n0) = false := decide_eq_false hp
        by_cases hq : x = n0
        · have u2 : decide (x = n0) = true := decide_eq_true hq
          go_wp2
          go_ret
          have e := addL_same hall.out (by rw [hs.out, hq])
          exact ⟨some ⟨b, off, none⟩, c, by rw [e]; rfl, .inl ⟨rfl, rfl, e⟩, Below.refl _ _⟩
        · have u2 : decide (x = n0) = false := decide_eq_false hq
          have EQ := hid (addL_new hall.out (Nat.le_of_lt hlt) (fun y hy => by rw [hs.out] at hy; simp only [Option.some.injEq] at hy; omega))
          have e3 : (k : Int) ≤ (c : Int) := by omega
          have e4 : (k : Int) ≤ (l.length : Int) := by omega
          have e5 : (l.length : Int) ≤ (c : Int) := by omega
          go_wp2_with fail
          refine wp_region_held_drew (S := JustS w.heap.size w) (by kernel_rfl) (JustS.mk (Below.refl _ _)).drew (fun hHeld => ?_)
          simp only [List.size_toArray, List.length_cons, List.length_nil, Nat.reduceAdd, Array.replicate_succ, Array.replicate_zero, List.push_toArray, List.append_toArray, List.nil_append, List.cons_append]
          refine wpAnyH_take (i := 1) (v := ?_) (at_lit rfl) (by kernel_rfl) (by kernel_rfl) (by kernel_rfl) (fun _ _ _ h => h) (Or.inl ⟨by rfl, ?_⟩) hHeld ?_
          rotate_left
          · (intro w9 hSw; clear hSw; go_simp; try with_reducible rfl)
          try simp only [Act.put, List.setIfInBounds_toArray, List.set_cons_zero, List.set_cons_succ]
          refine wpAnyH_take (i := 2) (v := ?_) (at_lit rfl) (by kernel_rfl) (by kernel_rfl) (by kernel_rfl) (fun _ _ _ h => h) (Or.inl ⟨by rfl, ?_⟩) hHeld ?_
          rotate_left
          · (intro w9 hSw; clear hSw; go_simp; try with_reducible rfl)
          try simp only [Act.put, List.setIfInBounds_toArray, List.set_cons_zero, List.set_cons_succ]
          refine wpAnyH_take (i := 3) (v := ?_) (at_lit rfl) (by kernel_rfl) (by kernel_rfl) (by kernel_rfl) (fun _ _ _ h => h) (Or.inl ⟨by rfl, ?_⟩) hHeld ?_
          rotate_left
          · (intro w9 hSw; clear hSw; go_simp; try with_reducible rfl)
          try simp only [Act.put, List.setIfInBounds_toArray, List.set_cons_zero, List.set_cons_succ]
          refine wpAnyH_take (i := 5) (v := ?_) (at_lit rfl) (by kernel_rfl) (by kernel_rfl) (by kernel_rfl) (fun _ _ _ h => h) (Or.inl ⟨by rfl, ?_⟩) hHeld ?_
          rotate_left
          · (intro w9 hSw; clear hSw; go_simp; try with_reducible rfl)
          try simp only [Act.put, List.setIfInBounds_toArray, List.set_cons_zero, List.set_cons_succ]
          refine wpAnyH_take (i := 8) (v := ?_) (at_lit rfl) (by kernel_rfl) (by kernel_rfl) (by kernel_rfl) (fun _ _ _ h => h) (Or.inl ⟨by rfl, ?_⟩) hHeld ?_
          rotate_left
          · (intro w9 hSw; clear hSw; go_simp; try with_reducible rfl)
          try simp only [Act.put, List.setIfInBounds_toArray, List.set_cons_zero, List.set_cons_succ]
          refine wpAnyH_take (i := 9) (v := ?_) (at_lit rfl) (by kernel_rfl) (by kernel_rfl) (by kernel_rfl) (fun _ _ _ h => h) (Or.inl ⟨by rfl, ?_⟩) hHeld ?_
          rotate_left
          · (intro w9 hSw; clear hSw; go_simp; try with_reducible rfl)
          try simp only [Act.put, List.setIfInBounds_toArray, List.set_cons_zero, List.set_cons_succ]
          refine wpAnyH_take (i := 10) (v := ?_) (at_lit rfl) (by kernel_rfl) (by kernel_rfl) (by kernel_rfl) (fun _ _ _ h => h) (Or.inl ⟨by rfl, ?_⟩) hHeld ?_
          rotate_left
          · (intro w9 hSw; clear hSw; go_simp; try with_reducible rfl)
          try simp only [Act.put, List.setIfInBounds_toArray, List.set_cons_zero, List.set_cons_succ]
          obtain ⟨v0, hv0⟩ : ∃ v, v = w.drew := ⟨_, rfl⟩
          rw [← hv0] at hHeld ⊢
          have BV0 := hid hHeld.bel
          clear hv0 hHeld
          obtain ⟨da, hda⟩ : ∃ d : Option Addr, d = (if c = k then some ⟨b, off, none⟩ else some ⟨b, off + k, none⟩) := ⟨_, rfl⟩
          rw [← hda]
          have DR := hid (show ReadAt w da (l.length - k) (c - k) 1 (flatI (l.drop k)) by rw [hda]; exact readI_drop RD.out (Nat.le_of_lt hlt) rfl hlc)
          clear hda
          refine wpAnyH_ready (rs := [0, 6]) (by kernel_rfl) (by simp) ?_
          refine AllReadyH.cons (at_lit rfl) (fun K hK => ?_) (AllReadyH.cons (at_lit rfl) (fun K hK => ?_) AllReadyH.nil)
          · skip
            go_simp
            obtain ⟨v1, hv1⟩ : ∃ v, v = v0.alloc (.cells #[] 3) := ⟨_, rfl⟩
            have BV1 := hid (show Below w.heap.size w v1 by rw [hv1]; exact ext_alloc BV0.out _)
            have EX1 := hid (show Below v0.heap.size v0 v1 by rw [hv1]; exact ext_alloc (Below.refl _ _) _)
            have kA1 := hid (show Blk v1 v0.heap.size #[] 3 by rw [hv1]; exact Blk.new _ _ _)
            rw [← hv1]
            refine hK.out _ _ ⟨BV1.out⟩ (fun _ => ?_)
            clear hK K hv1
            try simp only [Act.put, List.setIfInBounds_toArray, List.set_cons_zero, List.set_cons_succ]
            refine wpAnyH_ready (rs := [4, 6]) (by kernel_rfl) (by simp) ?_
            refine AllReadyH.cons (at_lit rfl) (fun K hK => ?_) (AllReadyH.cons (at_lit rfl) (fun K hK => ?_) AllReadyH.nil)
            · skip
              rw [if_pos (by rfl)]
              refine wp_newI v0.heap.size (some ⟨b, off, none⟩) k c (flatI (l.take k)) rfl rfl kA1.out (readI_take (RD.out.ext BV1.out) (Nat.le_of_lt hlt) rfl) (flatI_one _) (by omega) (fun a2 c2 v2 ow2 gr2 => ?_)
              have BV2 := hid (below_grow BV1.out gr2 (fun j hj => by simp only [Option.some.injEq] at hj; have := BV0.out.size; omega) BV1.out.size)
              have o2 := hid (RowZ.mk' (own_low ow2 (show w.heap.size ≤ _ by have := BV0.out.size; omega)))
              refine hK.out _ _ ⟨BV2.out⟩ (fun _ => ?_)
              clear hK K ow2
              try simp only [Act.put, List.setIfInBounds_toArray, List.set_cons_zero, List.set_cons_succ]
              refine wpAnyH_ready (rs := [6]) (by kernel_rfl) (by simp) ?_
              refine AllReadyH.cons (at_lit rfl) (fun K hK => ?_) AllReadyH.nil
              go_simp
              obtain ⟨v3, hv3⟩ : ∃ v, v = v2.alloc (.cells #[.int .i64 n0] 3) := ⟨_, rfl⟩
              have BV3 := hid (show Below w.heap.size w v3 by rw [hv3]; exact ext_alloc BV2.out _)
              have EX3 := hid (show Below v2.heap.size v2 v3 by rw [hv3]; exact ext_alloc (Below.refl _ _) _)
              have kN3 := hid (show Blk v3 v2.heap.size #[.int .i64 n0] 3 by rw [hv3]; exact Blk.new _ _ _)
              rw [← hv3]
              refine hK.out _ _ ⟨BV3.out⟩ (fun _ => ?_)
              clear hK K hv3
              try simp only [Act.put, List.setIfInBounds_toArray, List.set_cons_zero, List.set_cons_succ]
              have o3 := hid (o2.out.ext EX3.out)
              refine wpAnyH_ready (rs := [7]) (by kernel_rfl) (by simp) ?_
              refine AllReadyH.cons (at_lit rfl) (fun K hK => ?_) AllReadyH.nil
              rw [if_pos (by rfl)]
              refine wp_appI w.heap.size a2 k c2 (flatI (l.take k)) (some ⟨v2.heap.size, 0, none⟩) 1 1 [.int .i64 n0] rfl rfl o3.out.own (read_one kN3.out) (fun u hu => by simp only [List.mem_singleton] at hu; subst hu; rfl) (by omega) BV3.out.size (fun a4 c4 v4 ow4 gr4 _ => ?_)
              have BV4 := hid (below_grow BV3.out gr4 (fun j hj => (o3.out.own.lt j hj).1) BV3.out.size)
              have o4 := hid (RowZ.mk' ow4)
              refine hK.out _ _ ⟨BV4.out⟩ (fun _ => ?_)
              clear hK K ow4
              try simp only [Act.put, List.setIfInBounds_toArray, List.set_cons_zero, List.set_cons_succ]
              refine wpAnyH_ready (rs := [11]) (by kernel_rfl) (by simp) ?_
              refine AllReadyH.cons (at_lit rfl) (fun K hK => ?_) AllReadyH.nil
              rw [if_pos (by rfl)]
              refine wp_appI w.heap.size a4 (k + 1) c4 ((flatI (l.take k)) ++ [.int .i64 n0]) da (l.length - k) (c - k) (flatI (l.drop k)) rfl rfl o4.out.own (DR.out.ext BV4.out) (flatI_one _) (by omega) BV4.out.size (fun a5 c5 v5 ow5 gr5 _ => ?_)
              have BV5 := hid (below_grow BV4.out gr5 (fun j hj => (o4.out.own.lt j hj).1) BV4.out.size)
              have o5 := hid (RowZ.mk' ow5)
              refine hK.out _ _ ⟨BV5.out⟩ (fun hHeld => ?_)
              clear hK K ow5
              try simp only [Act.put, List.setIfInBounds_toArray, List.set_cons_zero, List.set_cons_succ]
              refine wpAnyH_take (i := 12) (v := ?_) (at_lit rfl) (by kernel_rfl) (by kernel_rfl) (by kernel_rfl) (fun _ _ _ h => h) (Or.inl ⟨by rfl, ?_⟩) hHeld ?_
              rotate_left
              · (intro w9 hSw; clear hSw; go_simp; try with_reducible rfl)
              try simp only [Act.put, List.setIfInBounds_toArray, List.set_cons_zero, List.set_cons_succ]
              refine wpAnyH_done (by kernel_rfl) ?_ _
              clear hHeld
              go_wp2_with fail
              go_ret
              have LE := addL_len_new EQ.out (by first | omega | simp)
              refine ⟨a5, c5, ?_, .inr ?_, BV5.out⟩
              · rw [LE] <;> congr 2 <;> try (first | omega | (simp; omega) | simp)
              · have := o5.out
                have e1 : flatI (addL l n0) = (flatI (l.take k)) ++ [.int .i64 n0] ++ flatI (l.drop k) := by rw [EQ.out] <;> simp [flatI]
                have e2 : (addL l n0).length = k + 1 + (l.length - k) := by rw [LE] <;> first | omega | (simp; omega) | simp
                rw [e1, e2]
                exact this
            · skip
              go_simp
              obtain ⟨v6, hv6⟩ : ∃ v, v = v1.alloc (.cells #[.int .i64 n0] 3) := ⟨_, rfl⟩
              have BV6 := hid (show Below w.heap.size w v6 by rw [hv6]; exact ext_alloc BV1.out _)
              have EX6 := hid (show Below v1.heap.size v1 v6 by rw [hv6]; exact ext_alloc (Below.refl _ _) _)
              have kN6 := hid (show Blk v6 v1.heap.size #[.int .i64 n0] 3 by rw [hv6]; exact Blk.new _ _ _)
              rw [← hv6]
              refine hK.out _ _ ⟨BV6.out⟩ (fun _ => ?_)
              clear hK K hv6
              try simp only [Act.put, List.setIfInBounds_toArray, List.set_cons_zero, List.set_cons_succ]
              have kA6 := hid (kA1.out.ext EX6.out)
              refine wpAnyH_ready (rs := [4]) (by kernel_rfl) (by simp) ?_
              refine AllReadyH.cons (at_lit rfl) (fun K hK => ?_) AllReadyH.nil
              rw [if_pos (by rfl)]
              refine wp_newI v0.heap.size (some ⟨b, off, none⟩) k c (flatI (l.take k)) rfl rfl kA6.out (readI_take (RD.out.ext BV6.out) (Nat.le_of_lt hlt) rfl) (flatI_one _) (by omega) (fun a7 c7 v7 ow7 gr7 => ?_)
              have BV7 := hid (below_grow BV6.out gr7 (fun j hj => by simp only [Option.some.injEq] at hj; have := BV0.out.size; have := BV1.out.size; omega) BV6.out.size)
              have o7 := hid (RowZ.mk' (own_low ow7 (show w.heap.size ≤ _ by have := BV0.out.size; have := BV1.out.size; omega)))
              refine hK.out _ _ ⟨BV7.out⟩ (fun _ => ?_)
              clear hK K ow7
              try simp only [Act.put, List.setIfInBounds_toArray, List.set_cons_zero, List.set_cons_succ]
              have kN7 := hid (show Blk v7 v1.heap.size #[.int .i64 n0] 3 from (gr7.block _ kN6.out.lt (fun e => by simp only [Option.some.injEq] at e; have := kA1.out.lt; omega)).trans kN6.out)
              refine wpAnyH_ready (rs := [7]) (by kernel_rfl) (by simp) ?_
              refine AllReadyH.cons (at_lit rfl) (fun K hK => ?_) AllReadyH.nil
              rw [if_pos (by rfl)]
              refine wp_appI w.heap.size a7 k c7 (flatI (l.take k)) (some ⟨v1.heap.size, 0, none⟩) 1 1 [.int .i64 n0] rfl rfl o7.out.own (read_one kN7.out) (fun u hu => by simp only [List.mem_singleton] at hu; subst hu; rfl) (by omega) BV7.out.size (fun a8 c8 v8 ow8 gr8 _ => ?_)
              have BV8 := hid (below_grow BV7.out gr8 (fun j hj => (o7.out.own.lt j hj).1) BV7.out.size)
              have o8 := hid (RowZ.mk' ow8)
              refine hK.out _ _ ⟨BV8.out⟩ (fun _ => ?_)
              clear hK K ow8
              try simp only [Act.put, List.setIfInBounds_toArray, List.set_cons_zero, List.set_cons_succ]
              refine wpAnyH_ready (rs := [11]) (by kernel_rfl) (by simp) ?_
              refine AllReadyH.cons (at_lit rfl) (fun K hK => ?_) AllReadyH.nil
              rw [if_pos (by rfl)]
              refine wp_appI w.heap.size a8 (k + 1) c8 ((flatI (l.take k)) ++ [.int .i64 n0]) da (l.length - k) (c - k) (flatI (l.drop k)) rfl rfl o8.out.own (DR.out.ext BV8.out) (flatI_one _) (by omega) BV8.out.size (fun a9 c9 v9 ow9 gr9 _ => ?_)
              have BV9 := hid (below_grow BV8.out gr9 (fun j hj => (o8.out.own.lt j hj).1) BV8.out.size)
              have o9 := hid (RowZ.mk' ow9)
              refine hK.out _ _ ⟨BV9.out⟩ (fun hHeld => ?_)
              clear hK K ow9
              try simp only [Act.put, List.setIfInBounds_toArray, List.set_cons_zero, List.set_cons_succ]
              refine wpAnyH_take (i := 12) (v := ?_) (at_lit rfl) (by kernel_rfl) (by kernel_rfl) (by kernel_rfl) (fun _ _ _ h => h) (Or.inl ⟨by rfl, ?_⟩) hHeld ?_
              rotate_left
              · (intro w9 hSw; clear hSw; go_simp; try with_reducible rfl)
              try simp only [Act.put, List.setIfInBounds_toArray, List.set_cons_zero, List.set_cons_succ]
              refine wpAnyH_done (by kernel_rfl) ?_ _
              clear hHeld
              go_wp2_with fail
              go_ret
              have LE := addL_len_new EQ.out (by first | omega | simp)
              refine ⟨a9, c9, ?_, .inr ?_, BV9.out⟩
              · rw [LE] <;> congr 2 <;> try (first | omega | (simp; omega) | simp)
              · have := o9.out
                have e1 : flatI (addL l n0) = (flatI (l.take k)) ++ [.int .i64 n0] ++ flatI (l.drop k) := by rw [EQ.out] <;> simp [flatI]
                have e2 : (addL l n0).length = k + 1 + (l.length - k) := by rw [LE] <;> first | omega | (simp; omega) | simp
                rw [e1, e2]
                exact this
          · skip
            go_simp
            obtain ⟨v10, hv10⟩ : ∃ v, v = v0.alloc (.cells #[.int .i64 n0] 3) := ⟨_, rfl⟩
            have BV10 := hid (show Below w.heap.size w v10 by rw [hv10]; exact ext_alloc BV0.out _)
            have EX10 := hid (show Below v0.heap.size v0 v10 by rw [hv10]; exact ext_alloc (Below.refl _ _) _)
            have kN10 := hid (show Blk v10 v0.heap.size #[.int .i64 n0] 3 by rw [hv10]; exact Blk.new _ _ _)
            rw [← hv10]
            refine hK.out _ _ ⟨BV10.out⟩ (fun _ => ?_)
            clear hK K hv10
            try simp only [Act.put, List.setIfInBounds_toArray, List.set_cons_zero, List.set_cons_succ]
            refine wpAnyH_ready (rs := [0]) (by kernel_rfl) (by simp) ?_
            refine AllReadyH.cons (at_lit rfl) (fun K hK => ?_) AllReadyH.nil
            go_simp
            obtain ⟨v11, hv11⟩ : ∃ v, v = v10.alloc (.cells #[] 3) := ⟨_, rfl⟩
            have BV11 := hid (show Below w.heap.size w v11 by rw [hv11]; exact ext_alloc BV10.out _)
            have EX11 := hid (show Below v10.heap.size v10 v11 by rw [hv11]; exact ext_alloc (Below.refl _ _) _)
            have kA11 := hid (show Blk v11 v10.heap.size #[] 3 by rw [hv11]; exact Blk.new _ _ _)
            rw [← hv11]
            refine hK.out _ _ ⟨BV11.out⟩ (fun _ => ?_)
            clear hK K hv11
            try simp only [Act.put, List.setIfInBounds_toArray, List.set_cons_zero, List.set_cons_succ]
            have kN11 := hid (kN10.out.ext EX11.out)
            refine wpAnyH_ready (rs := [4]) (by kernel_rfl) (by simp) ?_
            refine AllReadyH.cons (at_lit rfl) (fun K hK => ?_) AllReadyH.nil
            rw [if_pos (by rfl)]
            refine wp_newI v10.heap.size (some ⟨b, off, none⟩) k c (flatI (l.take k)) rfl rfl kA11.out (readI_take (RD.out.ext BV11.out) (Nat.le_of_lt hlt) rfl) (flatI_one _) (by omega) (fun a12 c12 v12 ow12 gr12 => ?_)
            have BV12 := hid (below_grow BV11.out gr12 (fun j hj => by simp only [Option.some.injEq] at hj; have := BV0.out.size; have := BV10.out.size; omega) BV11.out.size)
            have o12 := hid (RowZ.mk' (own_low ow12 (show w.heap.size ≤ _ by have := BV0.out.size; have := BV10.out.size; omega)))
            refine hK.out _ _ ⟨BV12.out⟩ (fun _ => ?_)
            clear hK K ow12
            try simp only [Act.put, List.setIfInBounds_toArray, List.set_cons_zero, List.set_cons_succ]
            have kN12 := hid (show Blk v12 v0.heap.size #[.int .i64 n0] 3 from (gr12.block _ kN11.out.lt (fun e => by simp only [Option.some.injEq] at e; have := kN10.out.lt; omega)).trans kN11.out)
            refine wpAnyH_ready (rs := [7]) (by kernel_rfl) (by simp) ?_
            refine AllReadyH.cons (at_lit rfl) (fun K hK => ?_) AllReadyH.nil
            rw [if_pos (by rfl)]
            refine wp_appI w.heap.size a12 k c12 (flatI (l.take k)) (some ⟨v0.heap.size, 0, none⟩) 1 1 [.int .i64 n0] rfl rfl o12.out.own (read_one kN12.out) (fun u hu => by simp only [List.mem_singleton] at hu; subst hu; rfl) (by omega) BV12.out.size (fun a13 c13 v13 ow13 gr13 _ => ?_)
            have BV13 := hid (below_grow BV12.out gr13 (fun j hj => (o12.out.own.lt j hj).1) BV12.out.size)
            have o13 := hid (RowZ.mk' ow13)
            refine hK.out _ _ ⟨BV13.out⟩ (fun _ => ?_)
            clear hK K ow13
            try simp only [Act.put, List.setIfInBounds_toArray, List.set_cons_zero, List.set_cons_succ]
            refine wpAnyH_ready (rs := [11]) (by kernel_rfl) (by simp) ?_
            refine AllReadyH.cons (at_lit rfl) (fun K hK => ?_) AllReadyH.nil
            rw [if_pos (by rfl)]
            refine wp_appI w.heap.size a13 (k + 1) c13 ((flatI (l.take k)) ++ [.int .i64 n0]) da (l.length - k) (c - k) (flatI (l.drop k)) rfl rfl o13.out.own (DR.out.ext BV13.out) (flatI_one _) (by omega) BV13.out.size (fun a14 c14 v14 ow14 gr14 _ => ?_)
            have BV14 := hid (below_grow BV13.out gr14 (fun j hj => (o13.out.own.lt j hj).1) BV13.out.size)
            have o14 := hid (RowZ.mk' ow14)
            refine hK.out _ _ ⟨BV14.out⟩ (fun hHeld => ?_)
            clear hK K ow14
            try simp only [Act.put, List.setIfInBounds_toArray, List.set_cons_zero, List.set_cons_succ]
            refine wpAnyH_take (i := 12) (v := ?_) (at_lit rfl) (by kernel_rfl) (by kernel_rfl) (by kernel_rfl) (fun _ _ _ h => h) (Or.inl ⟨by rfl, ?_⟩) hHeld ?_
            rotate_left
            · (intro w9 hSw; clear hSw; go_simp; try with_reducible rfl)
            try simp only [Act.put, List.setIfInBounds_toArray, List.set_cons_zero, List.set_cons_succ]
            refine wpAnyH_done (by kernel_rfl) ?_ _
            clear hHeld
            go_wp2_with fail
            go_ret
            have LE := addL_len_new EQ.out (by first | omega | simp)
            refine ⟨a14, c14, ?_, .inr ?_, BV14.out⟩
            · rw [LE] <;> congr 2 <;> try (first | omega | (simp; omega) | simp)
            · have := o14.out
              have e1 : flatI (addL l n0) = (flatI (l.take k)) ++ [.int .i64 n0] ++ flatI (l.drop k) := by rw [EQ.out] <;> simp [flatI]
              have e2 : (addL l n0).length = k + 1 + (l.length - k) := by rw [LE] <;> first | omega | (simp; omega) | simp
              rw [e1, e2]
              exact this
    · obtain rfl : k = l.length := by omega
      have EQ := hid (addL_new hall.out (Nat.le_refl _) (fun y hy => by rw [List.getElem?_eq_none (Nat.le_refl _)] at hy; simp at hy))
      have e3 : (l.length : Int) ≤ (c : Int) := by omega
      have e1 : (0 : Int) ≤ (l.length : Int) := by omega
      cases a with
      | none =>
        obtain ⟨l0, rfl⟩ := h.nil rfl
        obtain rfl : l = [] := List.length_eq_zero_iff.1 l0
        clear h
        go_wp2_with fail
        refine wp_region_held_drew (S := JustS w.heap.size w) (by kernel_rfl) (JustS.mk (Below.refl _ _)).drew (fun hHeld => ?_)
        simp only [List.size_toArray, List.length_cons, List.length_nil, Nat.reduceAdd, Array.replicate_succ, Array.replicate_zero, List.push_toArray, List.append_toArray, List.nil_append, List.cons_append]
        refine wpAnyH_take (i := 1) (v := ?_) (at_lit rfl) (by kernel_rfl) (by kernel_rfl) (by kernel_rfl) (fun _ _ _ h => h) (Or.inl ⟨by rfl, ?_⟩) hHeld ?_
        rotate_left
        · (intro w9 hSw; clear hSw; go_simp; try with_reducible rfl)
        try simp only [Act.put, List.setIfInBounds_toArray, List.set_cons_zero, List.set_cons_succ]
        refine wpAnyH_take (i := 2) (v := ?_) (at_lit rfl) (by kernel_rfl) (by kernel_rfl) (by kernel_rfl) (fun _ _ _ h => h) (Or.inl ⟨by rfl, ?_⟩) hHeld ?_
        rotate_left
        · (intro w9 hSw; clear hSw; go_simp; try with_reducible rfl)
        try simp only [Act.put, List.setIfInBounds_toArray, List.set_cons_zero, List.set_cons_succ]
        refine wpAnyH_take (i := 3) (v := ?_) (at_lit rfl) (by kernel_rfl) (by kernel_rfl) (by kernel_rfl) (fun _ _ _ h => h) (Or.inl ⟨by rfl, ?_⟩) hHeld ?_
        rotate_left
        · (intro w9 hSw; clear hSw; go_simp; try with_reducible rfl)
        try simp only [Act.put, List.setIfInBounds_toArray, List.set_cons_zero, List.set_cons_succ]
        refine wpAnyH_take (i := 5) (v := ?_) (at_lit rfl) (by kernel_rfl) (by kernel_rfl) (by kernel_rfl) (fun _ _ _ h => h) (Or.inl ⟨by rfl, ?_⟩) hHeld ?_
        rotate_left
        · (intro w9 hSw; clear hSw; go_simp; try with_reducible rfl)
        try simp only [Act.put, List.setIfInBounds_toArray, List.set_cons_zero, List.set_cons_succ]
        refine wpAnyH_take (i := 8) (v := ?_) (at_lit rfl) (by kernel_rfl) (by kernel_rfl) (by kernel_rfl) (fun _ _ _ h => h) (Or.inl ⟨by rfl, ?_⟩) hHeld ?_
        rotate_left
        · (intro w9 hSw; clear hSw; go_simp; try with_reducible rfl)
        try simp only [Act.put, List.setIfInBounds_toArray, List.set_cons_zero, List.set_cons_succ]
        refine wpAnyH_take (i := 9) (v := ?_) (at_lit rfl) (by kernel_rfl) (by kernel_rfl) (by kernel_rfl) (fun _ _ _ h => h) (Or.inl ⟨by rfl, ?_⟩) hHeld ?_
        rotate_left
        · (intro w9 hSw; clear hSw; go_simp; try with_reducible rfl)
        try simp only [Act.put, List.setIfInBounds_toArray, List.set_cons_zero, List.set_cons_succ]
        refine wpAnyH_take (i := 10) (v := ?_) (at_lit rfl) (by kernel_rfl) (by kernel_rfl) (by kernel_rfl) (fun _ _ _ h => h) (Or.inl ⟨by rfl, ?_⟩) hHeld ?_
        rotate_left
        · (intro w9 hSw; clear hSw; go_simp; try with_reducible rfl)
        try simp only [Act.put, List.setIfInBounds_toArray, List.set_cons_zero, List.set_cons_succ]
        obtain ⟨v0, hv0⟩ : ∃ v, v = w.drew := ⟨_, rfl⟩
        rw [← hv0] at hHeld ⊢
        have BV0 := hid hHeld.bel
        clear hv0 hHeld
        have DR := hid (show ReadAt w none 0 0 1 (flatI (([] : List Int).drop 0)) from RD.out)
        refine wpAnyH_ready (rs := [0, 6]) (by kernel_rfl) (by simp) ?_
        refine AllReadyH.cons (at_lit rfl) (fun K hK => ?_) (AllReadyH.cons (at_lit rfl) (fun K hK => ?_) AllReadyH.nil)
        · skip
          go_simp
          obtain ⟨v1, hv1⟩ : ∃ v, v = v0.alloc (.cells #[] 3) := ⟨_, rfl⟩
          have BV1 := hid (show Below w.heap.size w v1 by rw [hv1]; exact ext_alloc BV0.out _)
          have EX1 := hid (show Below v0.heap.size v0 v1 by rw [hv1]; exact ext_alloc (Below.refl _ _) _)
          have kA1 := hid (show Blk v1 v0.heap.size #[] 3 by rw [hv1]; exact Blk.new _ _ _)
          rw [← hv1]
          refine hK.out _ _ ⟨BV1.out⟩ (fun _ => ?_)
          clear hK K hv1
          try simp only [Act.put, List.setIfInBounds_toArray, List.set_cons_zero, List.set_cons_succ]
          refine wpAnyH_ready (rs := [4, 6]) (by kernel_rfl) (by simp) ?_
          refine AllReadyH.cons (at_lit rfl) (fun K hK => ?_) (AllReadyH.cons (at_lit rfl) (fun K hK => ?_) AllReadyH.nil)
          · skip
            rw [if_pos (by rfl)]
            refine wp_newI v0.heap.size none 0 0 (flatI (([] : List Int).take 0)) rfl rfl kA1.out ((RD.out.ext BV1.out)) (flatI_one _) (by omega) (fun a2 c2 v2 ow2 gr2 => ?_)
            have BV2 := hid (below_grow BV1.out gr2 (fun j hj => by simp only [Option.some.injEq] at hj; have := BV0.out.size; omega) BV1.out.size)
            have o2 := hid (RowZ.mk' (own_low ow2 (show w.heap.size ≤ _ by have := BV0.out.size; omega)))
            refine hK.out _ _ ⟨BV2.out⟩ (fun _ => ?_)
            clear hK K ow2
            try simp only [Act.put, List.setIfInBounds_toArray, List.set_cons_zero, List.set_cons_succ]
            refine wpAnyH_ready (rs := [6]) (by kernel_rfl) (by simp) ?_
            refine AllReadyH.cons (at_lit rfl) (fun K hK => ?_) AllReadyH.nil
            go_simp
            obtain ⟨v3, hv3⟩ : ∃ v, v = v2.alloc (.cells #[.int .i64 n0] 3) := ⟨_, rfl⟩
            have BV3 := hid (show Below w.heap.size w v3 by rw [hv3]; exact ext_alloc BV2.out _)
            have EX3 := hid (show Below v2.heap.size v2 v3 by rw [hv3]; exact ext_alloc (Below.refl _ _) _)
            have kN3 := hid (show Blk v3 v2.heap.size #[.int .i64 n0] 3 by rw [hv3]; exact Blk.new _ _ _)
            rw [← hv3]
            refine hK.out _ _ ⟨BV3.out⟩ (fun _ => ?_)
            clear hK K hv3
            try simp only [Act.put, List.setIfInBounds_toArray, List.set_cons_zero, List.set_cons_succ]
            have o3 := hid (o2.out.ext EX3.out)
            refine wpAnyH_ready (rs := [7]) (by kernel_rfl) (by simp) ?_
            refine AllReadyH.cons (at_lit rfl) (fun K hK => ?_) AllReadyH.nil
            rw [if_pos (by rfl)]
            refine wp_appI w.heap.size a2 0 c2 (flatI (([] : List Int).take 0)) (some ⟨v2.heap.size, 0, none⟩) 1 1 [.int .i64 n0] rfl rfl o3.out.own (read_one kN3.out) (fun u hu => by simp only [List.mem_singleton] at hu; subst hu; rfl) (by omega) BV3.out.size (fun a4 c4 v4 ow4 gr4 _ => ?_)
            have BV4 := hid (below_grow BV3.out gr4 (fun j hj => (o3.out.own.lt j hj).1) BV3.out.size)
            have o4 := hid (RowZ.mk' ow4)
            refine hK.out _ _ ⟨BV4.out⟩ (fun _ => ?_)
            clear hK K ow4
            try simp only [Act.put, List.setIfInBounds_toArray, List.set_cons_zero, List.set_cons_succ]
            refine wpAnyH_ready (rs := [11]) (by kernel_rfl) (by simp) ?_
            refine AllReadyH.cons (at_lit rfl) (fun K hK => ?_) AllReadyH.nil
            rw [if_pos (by rfl)]
            refine wp_appI w.heap.size a4 (0 + 1) c4 ((flatI (([] : List Int).take 0)) ++ [.int .i64 n0]) none 0 0 (flatI (([] : List Int).drop 0)) rfl rfl o4.out.own (DR.out.ext BV4.out) (flatI_one _) (by omega) BV4.out.size (fun a5 c5 v5 ow5 gr5 _ => ?_)
            have BV5 := hid (below_grow BV4.out gr5 (fun j hj => (o4.out.own.lt j hj).1) BV4.out.size)
            have o5 := hid (RowZ.mk' ow5)
            refine hK.out _ _ ⟨BV5.out⟩ (fun hHeld => ?_)
            clear hK K ow5
            try simp only [Act.put, List.setIfInBounds_toArray, List.set_cons_zero, List.set_cons_succ]
            refine wpAnyH_take (i := 12) (v := ?_) (at_lit rfl) (by kernel_rfl) (by kernel_rfl) (by kernel_rfl) (fun _ _ _ h => h) (Or.inl ⟨by rfl, ?_⟩) hHeld ?_
            rotate_left
            · (intro w9 hSw; clear hSw; go_simp; try with_reducible rfl)
            try simp only [Act.put, List.setIfInBounds_toArray, List.set_cons_zero, List.set_cons_succ]
            refine wpAnyH_done (by kernel_rfl) ?_ _
            clear hHeld
            go_wp2_with fail
            go_ret
            have LE := addL_len_new EQ.out (by first | omega | simp)
            refine ⟨a5, c5, ?_, .inr ?_, BV5.out⟩
            · rw [LE] <;> congr 2 <;> try (first | omega | (simp; omega) | simp)
            · have := o5.out
              have e1 : flatI (addL ([] : List Int) n0) = (flatI (([] : List Int).take 0)) ++ [.int .i64 n0] ++ flatI (([] : List Int).drop 0) := by rw [EQ.out] <;> simp [flatI]
              have e2 : (addL ([] : List Int) n0).length = 0 + 1 + 0 := by rw [LE] <;> first | omega | (simp; omega) | simp
              rw [e1, e2]
              exact this
          · skip
            go_simp
            obtain ⟨v6, hv6⟩ : ∃ v, v = v1.alloc (.cells #[.int .i64 n0] 3) := ⟨_, rfl⟩
            have BV6 := hid (show Below w.heap.size w v6 by rw [hv6]; exact ext_alloc BV1.out _)
            have EX6 := hid (show Below v1.heap.size v1 v6 by rw [hv6]; exact ext_alloc (Below.refl _ _) _)
            have kN6 := hid (show Blk v6 v1.heap.size #[.int .i64 n0] 3 by rw [hv6]; exact Blk.new _ _ _)
            rw [← hv6]
            refine hK.out _ _ ⟨BV6.out⟩ (fun _ => ?_)
            clear hK K hv6
            try simp only [Act.put, List.setIfInBounds_toArray, List.set_cons_zero, List.set_cons_succ]
            have kA6 := hid (kA1.out.ext EX6.out)
            refine wpAnyH_ready (rs := [4]) (by kernel_rfl) (by simp) ?_
            refine AllReadyH.cons (at_lit rfl) (fun K hK => ?_) AllReadyH.nil
            rw [if_pos (by rfl)]
            refine wp_newI v0.heap.size none 0 0 (flatI (([] : List Int).take 0)) rfl rfl kA6.out ((RD.out.ext BV6.out)) (flatI_one _) (by omega) (fun a7 c7 v7 ow7 gr7 => ?_)
            have BV7 := hid (below_grow BV6.out gr7 (fun j hj => by simp only [Option.some.injEq] at hj; have := BV0.out.size; have := BV1.out.size; omega) BV6.out.size)
            have o7 := hid (RowZ.mk' (own_low ow7 (show w.heap.size ≤ _ by have := BV0.out.size; have := BV1.out.size; omega)))
            refine hK.out _ _ ⟨BV7.out⟩ (fun _ => ?_)
            clear hK K ow7
            try simp only [Act.put, List.setIfInBounds_toArray, List.set_cons_zero, List.set_cons_succ]
            have kN7 := hid (show Blk v7 v1.heap.size #[.int .i64 n0] 3 from (gr7.block _ kN6.out.lt (fun e => by simp only [Option.some.injEq] at e; have := kA1.out.lt; omega)).trans kN6.out)
            refine wpAnyH_ready (rs := [7]) (by kernel_rfl) (by simp) ?_
            refine AllReadyH.cons (at_lit rfl) (fun K hK => ?_) AllReadyH.nil
            rw [if_pos (by rfl)]
            refine wp_appI w.heap.size a7 0 c7 (flatI (([] : List Int).take 0)) (some ⟨v1.heap.size, 0, none⟩) 1 1 [.int .i64 n0] rfl rfl o7.out.own (read_one kN7.out) (fun u hu => by simp only [List.mem_singleton] at hu; subst hu; rfl) (by omega) BV7.out.size (fun a8 c8 v8 ow8 gr8 _ => ?_)
            have BV8 := hid (below_grow BV7.out gr8 (fun j hj => (o7.out.own.lt j hj).1) BV7.out.size)
            have o8 := hid (RowZ.mk' ow8)
            refine hK.out _ _ ⟨BV8.out⟩ (fun _ => ?_)
            clear hK K ow8
            try simp only [Act.put, List.setIfInBounds_toArray, List.set_cons_zero, List.set_cons_succ]
            refine wpAnyH_ready (rs := [11]) (by kernel_rfl) (by simp) ?_
            refine AllReadyH.cons (at_lit rfl) (fun K hK => ?_) AllReadyH.nil
            rw [if_pos (by rfl)]
            refine wp_appI w.heap.size a8 (0 + 1) c8 ((flatI (([] : List Int).take 0)) ++ [.int .i64 n0]) none 0 0 (flatI (([] : List Int).drop 0)) rfl rfl o8.out.own (DR.out.ext BV8.out) (flatI_one _) (by omega) BV8.out.size (fun a9 c9 v9 ow9 gr9 _ => ?_)
            have BV9 := hid (below_grow BV8.out gr9 (fun j hj => (o8.out.own.lt j hj).1) BV8.out.size)
            have o9 := hid (RowZ.mk' ow9)
            refine hK.out _ _ ⟨BV9.out⟩ (fun hHeld => ?_)
            clear hK K ow9
            try simp only [Act.put, List.setIfInBounds_toArray, List.set_cons_zero, List.set_cons_succ]
            refine wpAnyH_take (i := 12) (v := ?_) (at_lit rfl) (by kernel_rfl) (by kernel_rfl) (by kernel_rfl) (fun _ _ _ h => h) (Or.inl ⟨by rfl, ?_⟩) hHeld ?_
            rotate_left
            · (intro w9 hSw; clear hSw; go_simp; try with_reducible rfl)
            try simp only [Act.put, List.setIfInBounds_toArray, List.set_cons_zero, List.set_cons_succ]
            refine wpAnyH_done (by kernel_rfl) ?_ _
            clear hHeld
            go_wp2_with fail
            go_ret
            have LE := addL_len_new EQ.out (by first | omega | simp)
            refine ⟨a9, c9, ?_, .inr ?_, BV9.out⟩
            · rw [LE] <;> congr 2 <;> try (first | omega | (simp; omega) | simp)
            · have := o9.out
              have e1 : flatI (addL ([] : List Int) n0) = (flatI (([] : List Int).take 0)) ++ [.int .i64 n0] ++ flatI (([] : List Int).drop 0) := by rw [EQ.out] <;> simp [flatI]
              have e2 : (addL ([] : List Int) n0).length = 0 + 1 + 0 := by rw [LE] <;> first | omega | (simp; omega) | simp
              rw [e1, e2]
              exact this
        · skip
          go_simp
          obtain ⟨v10, hv10⟩ : ∃ v, v = v0.alloc (.cells #[.int .i64 n0] 3) := ⟨_, rfl⟩
          have BV10 := hid (show Below w.heap.size w v10 by rw [hv10]; exact ext_alloc BV0.out _)
          have EX10 := hid (show Below v0.heap.size v0 v10 by rw [hv10]; exact ext_alloc (Below.refl _ _) _)
          have kN10 := hid (show Blk v10 v0.heap.size #[.int .i64 n0] 3 by rw [hv10]; exact Blk.new _ _ _)
          rw [← hv10]
          refine hK.out _ _ ⟨BV10.out⟩ (fun _ => ?_)
          clear hK K hv10
          try simp only [Act.put, List.setIfInBounds_toArray, List.set_cons_zero, List.set_cons_succ]
          refine wpAnyH_ready (rs := [0]) (by kernel_rfl) (by simp) ?_
          refine AllReadyH.cons (at_lit rfl) (fun K hK => ?_) AllReadyH.nil
          go_simp
          obtain ⟨v11, hv11⟩ : ∃ v, v = v10.alloc (.cells #[] 3) := ⟨_, rfl⟩
          have BV11 := hid (show Below w.heap.size w v11 by rw [hv11]; exact ext_alloc BV10.out _)
          have EX11 := hid (show Below v10.heap.size v10 v11 by rw [hv11]; exact ext_alloc (Below.refl _ _) _)
          have kA11 := hid (show Blk v11 v10.heap.size #[] 3 by rw [hv11]; exact Blk.new _ _ _)
          rw [← hv11]
          refine hK.out _ _ ⟨BV11.out⟩ (fun _ => ?_)
          clear hK K hv11
          try simp only [Act.put, List.setIfInBounds_toArray, List.set_cons_zero, List.set_cons_succ]
          have kN11 := hid (kN10.out.ext EX11.out)
          refine wpAnyH_ready (rs := [4]) (by kernel_rfl) (by simp) ?_
          refine AllReadyH.cons (at_lit rfl) (fun K hK => ?_) AllReadyH.nil
          rw [if_pos (by rfl)]
          refine wp_newI v10.heap.size none 0 0 (flatI (([] : List Int).take 0)) rfl rfl kA11.out ((RD.out.ext BV11.out)) (flatI_one _) (by omega) (fun a12 c12 v12 ow12 gr12 => ?_)
          have BV12 := hid (below_grow BV11.out gr12 (fun j hj => by simp only [Option.some.injEq] at hj; have := BV0.out.size; have := BV10.out.size; omega) BV11.out.size)
          have o12 := hid (RowZ.mk' (own_low ow12 (show w.heap.size ≤ _ by have := BV0.out.size; have := BV10.out.size; omega)))
          refine hK.out _ _ ⟨BV12.out⟩ (fun _ => ?_)
          clear hK K ow12
          try simp only [Act.put, List.setIfInBounds_toArray, List.set_cons_zero, List.set_cons_succ]
          have kN12 := hid (show Blk v12 v0.heap.size #[.int .i64 n0] 3 from (gr12.block _ kN11.out.lt (fun e => by simp only [Option.some.injEq] at e; have := kN10.out.lt; omega)).trans kN11.out)
          refine wpAnyH_ready (rs := [7]) (by kernel_rfl) (by simp) ?_
          refine AllReadyH.cons (at_lit rfl) (fun K hK => ?_) AllReadyH.nil
          rw [if_pos (by rfl)]
          refine wp_appI w.heap.size a12 0 c12 (flatI (([] : List Int).take 0)) (some ⟨v0.heap.size, 0, none⟩) 1 1 [.int .i64 n0] rfl rfl o12.out.own (read_one kN12.out) (fun u hu => by simp only [List.mem_singleton] at hu; subst hu; rfl) (by omega) BV12.out.size (fun a13 c13 v13 ow13 gr13 _ => ?_)
          have BV13 := hid (below_grow BV12.out gr13 (fun j hj => (o12.out.own.lt j hj).1) BV12.out.size)
          have o13 := hid (RowZ.mk' ow13)
          refine hK.out _ _ ⟨BV13.out⟩ (fun _ => ?_)
          clear hK K ow13
          try simp only [Act.put, List.setIfInBounds_toArray, List.set_cons_zero, List.set_cons_succ]
          refine wpAnyH_ready (rs := [11]) (by kernel_rfl) (by simp) ?_
          refine AllReadyH.cons (at_lit rfl) (fun K hK => ?_) AllReadyH.nil
          rw [if_pos (by rfl)]
          refine wp_appI w.heap.size a13 (0 + 1) c13 ((flatI (([] : List Int).take 0)) ++ [.int .i64 n0]) none 0 0 (flatI (([] : List Int).drop 0)) rfl rfl o13.out.own (DR.out.ext BV13.out) (flatI_one _) (by omega) BV13.out.size (fun a14 c14 v14 ow14 gr14 _ => ?_)
          have BV14 := hid (below_grow BV13.out gr14 (fun j hj => (o13.out.own.lt j hj).1) BV13.out.size)
          have o14 := hid (RowZ.mk' ow14)
          refine hK.out _ _ ⟨BV14.out⟩ (fun hHeld => ?_)
          clear hK K ow14
          try simp only [Act.put, List.setIfInBounds_toArray, List.set_cons_zero, List.set_cons_succ]
          refine wpAnyH_take (i := 12) (v := ?_) (at_lit rfl) (by kernel_rfl) (by kernel_rfl) (by kernel_rfl) (fun _ _ _ h => h) (Or.inl ⟨by rfl, ?_⟩) hHeld ?_
          rotate_left
          · (intro w9 hSw; clear hSw; go_simp; try with_reducible rfl)
          try simp only [Act.put, List.setIfInBounds_toArray, List.set_cons_zero, List.set_cons_succ]
          refine wpAnyH_done (by kernel_rfl) ?_ _
          clear hHeld
          go_wp2_with fail
          go_ret
          have LE := addL_len_new EQ.out (by first | omega | simp)
          refine ⟨a14, c14, ?_, .inr ?_, BV14.out⟩
          · rw [LE] <;> congr 2 <;> try (first | omega | (simp; omega) | simp)
          · have := o14.out
            have e1 : flatI (addL ([] : List Int) n0) = (flatI (([] : List Int).take 0)) ++ [.int .i64 n0] ++ flatI (([] : List Int).drop 0) := by rw [EQ.out] <;> simp [flatI]
            have e2 : (addL ([] : List Int) n0).length = 0 + 1 + 0 := by rw [LE] <;> first | omega | (simp; omega) | simp
            rw [e1, e2]
            exact this
      | some ad =>
        obtain ⟨b, off, sp⟩ := ad
        obtain rfl : sp = none := (h.cells _ rfl).1
        clear h
        go_wp2_with fail
        refine wp_region_held_drew (S := JustS w.heap.size w) (by kernel_rfl) (JustS.mk (Below.refl _ _)).drew (fun hHeld => ?_)
        simp only [List.size_toArray, List.length_cons, List.length_nil, Nat.reduceAdd, Array.replicate_succ, Array.replicate_zero, List.push_toArray, List.append_toArray, List.nil_append, List.cons_append]
        refine wpAnyH_take (i := 1) (v := ?_) (at_lit rfl) (by kernel_rfl) (by kernel_rfl) (by kernel_rfl) (fun _ _ _ h => h) (Or.inl ⟨by rfl, ?_⟩) hHeld ?_
        rotate_left
        · (intro w9 hSw; clear hSw; go_simp; try with_reducible rfl)
        try simp only [Act.put, List.setIfInBounds_toArray, List.set_cons_zero, List.set_cons_succ]
        refine wpAnyH_take (i := 2) (v := ?_) (at_lit rfl) (by kernel_rfl) (by kernel_rfl) (by kernel_rfl) (fun _ _ _ h => h) (Or.inl ⟨by rfl, ?_⟩) hHeld ?_
        rotate_left
        · (intro w9 hSw; clear hSw; go_simp; try with_reducible rfl)
        try simp only [Act.put, List.setIfInBounds_toArray, List.set_cons_zero, List.set_cons_succ]
        refine wpAnyH_take (i := 3) (v := ?_) (at_lit rfl) (by kernel_rfl) (by kernel_rfl) (by kernel_rfl) (fun _ _ _ h => h) (Or.inl ⟨by rfl, ?_⟩) hHeld ?_
        rotate_left
        · (intro w9 hSw; clear hSw; go_simp; try with_reducible rfl)
        try simp only [Act.put, List.setIfInBounds_toArray, List.set_cons_zero, List.set_cons_succ]
        refine wpAnyH_take (i := 5) (v := ?_) (at_lit rfl) (by kernel_rfl) (by kernel_rfl) (by kernel_rfl) (fun _ _ _ h => h) (Or.inl ⟨by rfl, ?_⟩) hHeld ?_
        rotate_left
        · (intro w9 hSw; clear hSw; go_simp; try with_reducible rfl)
        try simp only [Act.put, List.setIfInBounds_toArray, List.set_cons_zero, List.set_cons_succ]
        refine wpAnyH_take (i := 8) (v := ?_) (at_lit rfl) (by kernel_rfl) (by kernel_rfl) (by kernel_rfl) (fun _ _ _ h => h) (Or.inl ⟨by rfl, ?_⟩) hHeld ?_
        rotate_left
        · (intro w9 hSw; clear hSw; go_simp; try with_reducible rfl)
        try simp only [Act.put, List.setIfInBounds_toArray, List.set_cons_zero, List.set_cons_succ]
        refine wpAnyH_take (i := 9) (v := ?_) (at_lit rfl) (by kernel_rfl) (by kernel_rfl) (by kernel_rfl) (fun _ _ _ h => h) (Or.inl ⟨by rfl, ?_⟩) hHeld ?_
        rotate_left
        · (intro w9 hSw; clear hSw; go_simp; try with_reducible rfl)
        try simp only [Act.put, List.setIfInBounds_toArray, List.set_cons_zero, List.set_cons_succ]
        refine wpAnyH_take (i := 10) (v := ?_) (at_lit rfl) (by kernel_rfl) (by kernel_rfl) (by kernel_rfl) (fun _ _ _ h => h) (Or.inl ⟨by rfl, ?_⟩) hHeld ?_
        rotate_left
        · (intro w9 hSw; clear hSw; go_simp; try with_reducible rfl)
        try simp only [Act.put, List.setIfInBounds_toArray, List.set_cons_zero, List.set_cons_succ]
        obtain ⟨v0, hv0⟩ : ∃ v, v = w.drew := ⟨_, rfl⟩
        rw [← hv0] at hHeld ⊢
        have BV0 := hid hHeld.bel
        clear hv0 hHeld
        obtain ⟨da, hda⟩ : ∃ d : Option Addr, d = (if c = l.length then some ⟨b, off, none⟩ else some ⟨b, off + l.length, none⟩) := ⟨_, rfl⟩
        rw [← hda]
        have DR := hid (show ReadAt w da 0 (c - l.length) 1 (flatI (l.drop l.length)) by rw [hda]; exact (by have h9 := readI_drop (c' := c - l.length) RD.out (Nat.le_refl _) rfl hlc; rw [Nat.sub_self] at h9; exact h9))
        clear hda
        refine wpAnyH_ready (rs := [0, 6]) (by kernel_rfl) (by simp) ?_
        refine AllReadyH.cons (at_lit rfl) (fun K hK => ?_) (AllReadyH.cons (at_lit rfl) (fun K hK => ?_) AllReadyH.nil)
        · skip
          go_simp
          obtain ⟨v1, hv1⟩ : ∃ v, v = v0.alloc (.cells #[] 3) := ⟨_, rfl⟩
          have BV1 := hid (show Below w.heap.size w v1 by rw [hv1]; exact ext_alloc BV0.out _)
          have EX1 := hid (show Below v0.heap.size v0 v1 by rw [hv1]; exact ext_alloc (Below.refl _ _) _)
          have kA1 := hid (show Blk v1 v0.heap.size #[] 3 by rw [hv1]; exact Blk.new _ _ _)
          rw [← hv1]
          refine hK.out _ _ ⟨BV1.out⟩ (fun _ => ?_)
          clear hK K hv1
          try simp only [Act.put, List.setIfInBounds_toArray, List.set_cons_zero, List.set_cons_succ]
          refine wpAnyH_ready (rs := [4, 6]) (by kernel_rfl) (by simp) ?_
          refine AllReadyH.cons (at_lit rfl) (fun K hK => ?_) (AllReadyH.cons (at_lit rfl) (fun K hK => ?_) AllReadyH.nil)
          · skip
            rw [if_pos (by rfl)]
            refine wp_newI v0.heap.size (some ⟨b, off, none⟩) l.length c (flatI (l.take l.length)) rfl rfl kA1.out (readI_take (RD.out.ext BV1.out) (Nat.le_refl _) rfl) (flatI_one _) (by omega) (fun a2 c2 v2 ow2 gr2 => ?_)
            have BV2 := hid (below_grow BV1.out gr2 (fun j hj => by simp only [Option.some.injEq] at hj; have := BV0.out.size; omega) BV1.out.size)
            have o2 := hid (RowZ.mk' (own_low ow2 (show w.heap.size ≤ _ by have := BV0.out.size; omega)))
            refine hK.out _ _ ⟨BV2.out⟩ (fun _ => ?_)
            clear hK K ow2
            try simp only [Act.put, List.setIfInBounds_toArray, List.set_cons_zero, List.set_cons_succ]
            refine wpAnyH_ready (rs := [6]) (by kernel_rfl) (by simp) ?_
            refine AllReadyH.cons (at_lit rfl) (fun K hK => ?_) AllReadyH.nil
            go_simp
            obtain ⟨v3, hv3⟩ : ∃ v, v = v2.alloc (.cells #[.int .i64 n0] 3) := ⟨_, rfl⟩
            have BV3 := hid (show Below w.heap.size w v3 by rw [hv3]; exact ext_alloc BV2.out _)
            have EX3 := hid (show Below v2.heap.size v2 v3 by rw [hv3]; exact ext_alloc (Below.refl _ _) _)
            have kN3 := hid (show Blk v3 v2.heap.size #[.int .i64 n0] 3 by rw [hv3]; exact Blk.new _ _ _)
            rw [← hv3]
            refine hK.out _ _ ⟨BV3.out⟩ (fun _ => ?_)
            clear hK K hv3
            try simp only [Act.put, List.setIfInBounds_toArray, List.set_cons_zero, List.set_cons_succ]
            have o3 := hid (o2.out.ext EX3.out)
            refine wpAnyH_ready (rs := [7]) (by kernel_rfl) (by simp) ?_
            refine AllReadyH.cons (at_lit rfl) (fun K hK => ?_) AllReadyH.nil
            rw [if_pos (by rfl)]
            refine wp_appI w.heap.size a2 l.length c2 (flatI (l.take l.length)) (some ⟨v2.heap.size, 0, none⟩) 1 1 [.int .i64 n0] rfl rfl o3.out.own (read_one kN3.out) (fun u hu => by simp only [List.mem_singleton] at hu; subst hu; rfl) (by omega) BV3.out.size (fun a4 c4 v4 ow4 gr4 _ => ?_)
            have BV4 := hid (below_grow BV3.out gr4 (fun j hj => (o3.out.own.lt j hj).1) BV3.out.size)
            have o4 := hid (RowZ.mk' ow4)
            refine hK.out _ _ ⟨BV4.out⟩ (fun _ => ?_)
            clear hK K ow4
            try simp only [Act.put, List.setIfInBounds_toArray, List.set_cons_zero, List.set_cons_succ]
            refine wpAnyH_ready (rs := [11]) (by kernel_rfl) (by simp) ?_
            refine AllReadyH.cons (at_lit rfl) (fun K hK => ?_) AllReadyH.nil
            rw [if_pos (by rfl)]
            refine wp_appI w.heap.size a4 (l.length + 1) c4 ((flatI (l.take l.length)) ++ [.int .i64 n0]) da 0 (c - l.length) (flatI (l.drop l.length)) rfl rfl o4.out.own (DR.out.ext BV4.out) (flatI_one _) (by omega) BV4.out.size (fun a5 c5 v5 ow5 gr5 _ => ?_)
            have BV5 := hid (below_grow BV4.out gr5 (fun j hj => (o4.out.own.lt j hj).1) BV4.out.size)
            have o5 := hid (RowZ.mk' ow5)
            refine hK.out _ _ ⟨BV5.out⟩ (fun hHeld => ?_)
            clear hK K ow5
            try simp only [Act.put, List.setIfInBounds_toArray, List.set_cons_zero, List.set_cons_succ]
            refine wpAnyH_take (i := 12) (v := ?_) (at_lit rfl) (by kernel_rfl) (by kernel_rfl) (by kernel_rfl) (fun _ _ _ h => h) (Or.inl ⟨by rfl, ?_⟩) hHeld ?_
            rotate_left
            · (intro w9 hSw; clear hSw; go_simp; try with_reducible rfl)
            try simp only [Act.put, List.setIfInBounds_toArray, List.set_cons_zero, List.set_cons_succ]
            refine wpAnyH_done (by kernel_rfl) ?_ _
            clear hHeld
            go_wp2_with fail
            go_ret
            have LE := addL_len_new EQ.out (by first | omega | simp)
            refine ⟨a5, c5, ?_, .inr ?_, BV5.out⟩
            · rw [LE] <;> congr 2 <;> try (first | omega | (simp; omega) | simp)
            · have := o5.out
              have e1 : flatI (addL l n0) = (flatI (l.take l.length)) ++ [.int .i64 n0] ++ flatI (l.drop l.length) := by rw [EQ.out] <;> simp [flatI]
              have e2 : (addL l n0).length = l.length + 1 + 0 := by rw [LE] <;> first | omega | (simp; omega) | simp
              rw [e1, e2]
              exact this
          · skip
            go_simp
            obtain ⟨v6, hv6⟩ : ∃ v, v = v1.alloc (.cells #[.int .i64 n0] 3) := ⟨_, rfl⟩
            have BV6 := hid (show Below w.heap.size w v6 by rw [hv6]; exact ext_alloc BV1.out _)
            have EX6 := hid (show Below v1.heap.size v1 v6 by rw [hv6]; exact ext_alloc (Below.refl _ _) _)
            have kN6 := hid (show Blk v6 v1.heap.size #[.int .i64 n0] 3 by rw [hv6]; exact Blk.new _ _ _)
            rw [← hv6]
            refine hK.out _ _ ⟨BV6.out⟩ (fun _ => ?_)
            clear hK K hv6
            try simp only [Act.put, List.setIfInBounds_toArray, List.set_cons_zero, List.set_cons_succ]
            have kA6 := hid (kA1.out.ext EX6.out)
            refine wpAnyH_ready (rs := [4]) (by kernel_rfl) (by simp) ?_
            refine AllReadyH.cons (at_lit rfl) (fun K hK => ?_) AllReadyH.nil
            rw [if_pos (by rfl)]
            refine wp_newI v0.heap.size (some ⟨b, off, none⟩) l.length c (flatI (l.take l.length)) rfl rfl kA6.out (readI_take (RD.out.ext BV6.out) (Nat.le_refl _) rfl) (flatI_one _) (by omega) (fun a7 c7 v7 ow7 gr7 => ?_)
            have BV7 := hid (below_grow BV6.out gr7 (fun j hj => by simp only [Option.some.injEq] at hj; have := BV0.out.size; have := BV1.out.size; omega) BV6.out.size)
            have o7 := hid (RowZ.mk' (own_low ow7 (show w.heap.size ≤ _ by have := BV0.out.size; have := BV1.out.size; omega)))
            refine hK.out _ _ ⟨BV7.out⟩ (fun _ => ?_)
            clear hK K ow7
            try simp only [Act.put, List.setIfInBounds_toArray, List.set_cons_zero, List.set_cons_succ]
            have kN7 := hid (show Blk v7 v1.heap.size #[.int .i64 n0] 3 from (gr7.block _ kN6.out.lt (fun e => by simp only [Option.some.injEq] at e; have := kA1.out.lt; omega)).trans kN6.out)
            refine wpAnyH_ready (rs := [7]) (by kernel_rfl) (by simp) ?_
            refine AllReadyH.cons (at_lit rfl) (fun K hK => ?_) AllReadyH.nil
            rw [if_pos (by rfl)]
            refine wp_appI w.heap.size a7 l.length c7 (flatI (l.take l.length)) (some ⟨v1.heap.size, 0, none⟩) 1 1 [.int .i64 n0] rfl rfl o7.out.own (read_one kN7.out) (fun u hu => by simp only [List.mem_singleton] at hu; subst hu; rfl) (by omega) BV7.out.size (fun a8 c8 v8 ow8 gr8 _ => ?_)
            have BV8 := hid (below_grow BV7.out gr8 (fun j hj => (o7.out.own.lt j hj).1) BV7.out.size)
            have o8 := hid (RowZ.mk' ow8)
            refine hK.out _ _ ⟨BV8.out⟩ (fun _ => ?_)
            clear hK K ow8
            try simp only [Act.put, List.setIfInBounds_toArray, List.set_cons_zero, List.set_cons_succ]
            refine wpAnyH_ready (rs := [11]) (by kernel_rfl) (by simp) ?_
            refine AllReadyH.cons (at_lit rfl) (fun K hK => ?_) AllReadyH.nil
            rw [if_pos (by rfl)]
            refine wp_appI w.heap.size a8 (l.length + 1) c8 ((flatI (l.take l.length)) ++ [.int .i64 n0]) da 0 (c - l.length) (flatI (l.drop l.length)) rfl rfl o8.out.own (DR.out.ext BV8.out) (flatI_one _) (by omega) BV8.out.size (fun a9 c9 v9 ow9 gr9 _ => ?_)
            have BV9 := hid (below_grow BV8.out gr9 (fun j hj => (o8.out.own.lt j hj).1) BV8.out.size)
            have o9 := hid (RowZ.mk' ow9)
            refine hK.out _ _ ⟨BV9.out⟩ (fun hHeld => ?_)
            clear hK K ow9
            try simp only [Act.put, List.setIfInBounds_toArray, List.set_cons_zero, List.set_cons_succ]
            refine wpAnyH_take (i := 12) (v := ?_) (at_lit rfl) (by kernel_rfl) (by kernel_rfl) (by kernel_rfl) (fun _ _ _ h => h) (Or.inl ⟨by rfl, ?_⟩) hHeld ?_
            rotate_left
            · (intro w9 hSw; clear hSw; go_simp; try with_reducible rfl)
            try simp only [Act.put, List.setIfInBounds_toArray, List.set_cons_zero, List.set_cons_succ]
            refine wpAnyH_done (by kernel_rfl) ?_ _
            clear hHeld
            go_wp2_with fail
            go_ret
            have LE := addL_len_new EQ.out (by first | omega | simp)
            refine ⟨a9, c9, ?_, .inr ?_, BV9.out⟩
            · rw [LE] <;> congr 2 <;> try (first | omega | (simp; omega) | simp)
            · have := o9.out
              have e1 : flatI (addL l n0) = (flatI (l.take l.length)) ++ [.int .i64 n0] ++ flatI (l.drop l.length) := by rw [EQ.out] <;> simp [flatI]
              have e2 : (addL l n0).length = l.length + 1 + 0 := by rw [LE] <;> first | omega | (simp; omega) | simp
              rw [e1, e2]
              exact this
        · skip
          go_simp
          obtain ⟨v10, hv10⟩ : ∃ v, v = v0.alloc (.cells #[.int .i64 n0] 3) := ⟨_, rfl⟩
          have BV10 := hid (show Below w.heap.size w v10 by rw [hv10]; exact ext_alloc BV0.out _)
          have EX10 := hid (show Below v0.heap.size v0 v10 by rw [hv10]; exact ext_alloc (Below.refl _ _) _)
          have kN10 := hid (show Blk v10 v0.heap.size #[.int .i64 n0] 3 by rw [hv10]; exact Blk.new _ _ _)
          rw [← hv10]
          refine hK.out _ _ ⟨BV10.out⟩ (fun _ => ?_)
          clear hK K hv10
          try simp only [Act.put, List.setIfInBounds_toArray, List.set_cons_zero, List.set_cons_succ]
          refine wpAnyH_ready (rs := [0]) (by kernel_rfl) (by simp) ?_
          refine AllReadyH.cons (at_lit rfl) (fun K hK => ?_) AllReadyH.nil
          go_simp
          obtain ⟨v11, hv11⟩ : ∃ v, v = v10.alloc (.cells #[] 3) := ⟨_, rfl⟩
          have BV11 := hid (show Below w.heap.size w v11 by rw [hv11]; exact ext_alloc BV10.out _)
          have EX11 := hid (show Below v10.heap.size v10 v11 by rw [hv11]; exact ext_alloc (Below.refl _ _) _)
          have kA11 := hid (show Blk v11 v10.heap.size #[] 3 by rw [hv11]; exact Blk.new _ _ _)
          rw [← hv11]
          refine hK.out _ _ ⟨BV11.out⟩ (fun _ => ?_)
          clear hK K hv11
          try simp only [Act.put, List.setIfInBounds_toArray, List.set_cons_zero, List.set_cons_succ]
          have kN11 := hid (kN10.out.ext EX11.out)
          refine wpAnyH_ready (rs := [4]) (by kernel_rfl) (by simp) ?_
          refine AllReadyH.cons (at_lit rfl) (fun K hK => ?_) AllReadyH.nil
          rw [if_pos (by rfl)]
          refine wp_newI v10.heap.size (some ⟨b, off, none⟩) l.length c (flatI (l.take l.length)) rfl rfl kA11.out (readI_take (RD.out.ext BV11.out) (Nat.le_refl _) rfl) (flatI_one _) (by omega) (fun a12 c12 v12 ow12 gr12 => ?_)
          have BV12 := hid (below_grow BV11.out gr12 (fun j hj => by simp only [Option.some.injEq] at hj; have := BV0.out.size; have := BV10.out.size; omega) BV11.out.size)
          have o12 := hid (RowZ.mk' (own_low ow12 (show w.heap.size ≤ _ by have := BV0.out.size; have := BV10.out.size; omega)))
          refine hK.out _ _ ⟨BV12.out⟩ (fun _ => ?_)
          clear hK K ow12
          try simp only [Act.put, List.setIfInBounds_toArray, List.set_cons_zero, List.set_cons_succ]
          have kN12 := hid (show Blk v12 v0.heap.size #[.int .i64 n0] 3 from (gr12.block _ kN11.out.lt (fun e => by simp only [Option.some.injEq] at e; have := kN10.out.lt; omega)).trans kN11.out)
          refine wpAnyH_ready (rs := [7]) (by kernel_rfl) (by simp) ?_
          refine AllReadyH.cons (at_lit rfl) (fun K hK => ?_) AllReadyH.nil
          rw [if_pos (by rfl)]
          refine wp_appI w.heap.size a12 l.length c12 (flatI (l.take l.length)) (some ⟨v0.heap.size, 0, none⟩) 1 1 [.int .i64 n0] rfl rfl o12.out.own (read_one kN12.out) (fun u hu => by simp only [List.mem_singleton] at hu; subst hu; rfl) (by omega) BV12.out.size (fun a13 c13 v13 ow13 gr13 _ => ?_)
          have BV13 := hid (below_grow BV12.out gr13 (fun j hj => (o12.out.own.lt j hj).1) BV12.out.size)
          have o13 := hid (RowZ.mk' ow13)
          refine hK.out _ _ ⟨BV13.out⟩ (fun _ => ?_)
          clear hK K ow13
          try simp only [Act.put, List.setIfInBounds_toArray, List.set_cons_zero, List.set_cons_succ]
          refine wpAnyH_ready (rs := [11]) (by kernel_rfl) (by simp) ?_
          refine AllReadyH.cons (at_lit rfl) (fun K hK => ?_) AllReadyH.nil
          rw [if_pos (by rfl)]
          refine wp_appI w.heap.size a13 (l.length + 1) c13 ((flatI (l.take l.length)) ++ [.int .i64 n0]) da 0 (c - l.length) (flatI (l.drop l.length)) rfl rfl o13.out.own (DR.out.ext BV13.out) (flatI_one _) (by omega) BV13.out.size (fun a14 c14 v14 ow14 gr14 _ => ?_)
          have BV14 := hid (below_grow BV13.out gr14 (fun j hj => (o13.out.own.lt j hj).1) BV13.out.size)
          have o14 := hid (RowZ.mk' ow14)
          refine hK.out _ _ ⟨BV14.out⟩ (fun hHeld => ?_)
          clear hK K ow14
          try simp only [Act.put, List.setIfInBounds_toArray, List.set_cons_zero, List.set_cons_succ]
          refine wpAnyH_take (i := 12) (v := ?_) (at_lit rfl) (by kernel_rfl) (by kernel_rfl) (by kernel_rfl) (fun _ _ _ h => h) (Or.inl ⟨by rfl, ?_⟩) hHeld ?_
          rotate_left
          · (intro w9 hSw; clear hSw; go_simp; try with_reducible rfl)
          try simp only [Act.put, List.setIfInBounds_toArray, List.set_cons_zero, List.set_cons_succ]
          refine wpAnyH_done (by kernel_rfl) ?_ _
          clear hHeld
          go_wp2_with fail
          go_ret
          have LE := addL_len_new EQ.out (by first | omega | simp)
          refine ⟨a14, c14, ?_, .inr ?_, BV14.out⟩
          · rw [LE] <;> congr 2 <;> try (first | omega | (simp; omega) | simp)
          · have := o14.out
            have e1 : flatI (addL l n0) = (flatI (l.take l.length)) ++ [.int .i64 n0] ++ flatI (l.drop l.length) := by rw [EQ.out] <;> simp [flatI]
            have e2 : (addL l n0).length = l.length + 1 + 0 := by rw [LE] <;> first | omega | (simp; omega) | simp
            rw [e1, e2]
            exact this
end Go.Proofs.YtffklmlljekceaaGreat
