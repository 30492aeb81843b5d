/-
  impl.copyList at its five types; rows with both bounds.
-/
import Derived.Test.YtffklmlljekceaaGreatHasRec
import Derived.Test.YtffklmlljekceaaGreatSpecMsgs
namespace Go.Proofs.YtffklmlljekceaaGreat
open Go.ChangeShapes Go.WideShapes Go.ChangeAt Go.RowKit
set_option linter.unusedVariables false
set_option linter.unusedSimpArgs false

/-- n elements of k cells each are read behind a slice -/
structure ReadAt (w : World) (a : Option Addr) (n c k : Nat) (xs : List Value) : Prop where
  len : xs.length = n * k
  nil : a = none → n = 0 ∧ c = 0
  cells : ∀ x, a = some x → x.spot = none ∧ ∀ j u, xs[j]? = some u → w.cell? (x.add j) = some u
theorem RowC.read {B : Nat} {w : World} {col : Nat → Nat} {t : Nat} {e : TypeId} {k : Nat} {a : Option Addr} {n c : Nat} {xs : List Value} (h : RowC B w col t e k a n c xs) : ReadAt w a n c k xs := by
  refine ⟨h.own.1, fun ha => ?_, fun x hx => ⟨h.plain.2 x hx, fun j u hu => ?_⟩⟩
  · rcases h.form with ⟨_, h1, h2, _⟩ | ⟨g, cur, h1, _⟩
    · exact ⟨h1, h2⟩
    · rw [ha] at h1; simp at h1
  · obtain ⟨g, h1, _, h2, _⟩ := h.cell hu
    rw [hx] at h1
    simp only [Option.some.injEq] at h1
    rw [h1, Addr.add_mid, Nat.zero_add]
    exact h2
theorem ReadAt.ext {w w' : World} {a : Option Addr} {n c k : Nat} {xs : List Value} (h : ReadAt w a n c k xs) (hb : Below w.heap.size w w') : ReadAt w' a n c k xs :=
  ⟨h.len, h.nil, fun x hx => ⟨(h.cells x hx).1, fun j u hu => by
    have h0 := (h.cells x hx).2 j u hu
    exact (hb.cell (World.block_lt_of_cell? w _ h0)).trans h0⟩⟩
/-- a row in a block of lo .. hi - 1 -/
structure RowZ (lo hi : Nat) (w : World) (e : TypeId) (k : Nat) (a : Option Addr) (n c : Nat) (xs : List Value) : Prop where
  own : w.ownsRow lo e k (.slice a n c) n xs
  hi : ∀ x, a = some x → x.block < hi
theorem RowZ.lo {lo hi : Nat} {w : World} {e : TypeId} {k : Nat} {a : Option Addr} {n c : Nat} {xs : List Value} (h : RowZ lo hi w e k a n c xs) : ∀ x, a = some x → lo ≤ x.block ∧ x.block < w.heap.size := fun x hx => by
  have := h.own.lt x.block (by rw [hx]; rfl)
  exact this
theorem RowZ.mk' {lo : Nat} {w : World} {e : TypeId} {k : Nat} {a : Option Addr} {n c : Nat} {xs : List Value} (h : w.ownsRow lo e k (.slice a n c) n xs) : RowZ lo w.heap.size w e k a n c xs :=
  ⟨h, fun x hx => (h.lt x.block (by rw [hx]; rfl)).2⟩
theorem RowZ.same {lo hi : Nat} {w w' : World} {e : TypeId} {k : Nat} {a : Option Addr} {n c : Nat} {xs : List Value} (h : RowZ lo hi w e k a n c xs) (hs : ∀ b, lo ≤ b → b < hi → b < w.heap.size → w'.heap[b]? = w.heap[b]?) : RowZ lo hi w' e k a n c xs := by
  refine ⟨⟨h.own.1, ?_⟩, h.hi⟩
  rcases h.own.2 with h0 | ⟨g, cap, cur, hv, hB, hg, r⟩
  · exact .inl h0
  · refine .inr ⟨g, cap, cur, hv, hB, ?_, r⟩
    simp only [Value.slice.injEq] at hv
    exact (hs g hB (h.hi _ hv.1) (Array.getElem?_eq_some_iff.1 hg).1).trans hg
theorem RowZ.ext {lo hi : Nat} {w w' : World} {e : TypeId} {k : Nat} {a : Option Addr} {n c : Nat} {xs : List Value} (h : RowZ lo hi w e k a n c xs) (hb : Below w.heap.size w w') : RowZ lo hi w' e k a n c xs :=
  h.same fun b _ _ hlt => hb.block b hlt
theorem RowZ.below {lo hi B : Nat} {w w' : World} {e : TypeId} {k : Nat} {a : Option Addr} {n c : Nat} {xs : List Value} (h : RowZ lo hi w e k a n c xs) (hb : Below B w w') (hB : hi ≤ B) : RowZ lo hi w' e k a n c xs :=
  h.same fun b _ hlt _ => hb.block b (by omega)
theorem RowZ.set {lo hi : Nat} {w : World} {e : TypeId} {k : Nat} {a : Option Addr} {n c : Nat} {xs : List Value} (h : RowZ lo hi w e k a n c xs) {q : Addr} (hq : q.block < lo) (v : Value) : RowZ lo hi (w.setCell q v) e k a n c xs :=
  h.same fun b h1 _ _ => heap_setCell_other w q b v (by omega)
theorem RowZ.row {lo hi : Nat} {B : Nat} {w : World} {col : Nat → Nat} {t : Nat} {e : TypeId} {k : Nat} {a : Option Addr} {n c : Nat} {xs : List Value} (h : RowZ lo hi w e k a n c xs) (hB : B ≤ lo) (hc : ∀ b, lo ≤ b → b < hi → col b = t) : RowC B w col t e k a n c xs :=
  (RowC.mk (B := lo) h.own (fun x hx => hc _ (h.lo x hx).1 (h.hi x hx))).low hB
theorem own_slice {w : World} {B n k : Nat} {e : TypeId} {v : Value} {xs : List Value} (h : w.ownsRow B e k v n xs) : ∃ a c, v = .slice a n c := by
  rcases h.2 with ⟨rfl, rfl⟩ | ⟨g, cap, _, rfl, _⟩
  · exact ⟨_, _, rfl⟩
  · exact ⟨_, _, rfl⟩

theorem wpList_append_sl {ops : Array Oper} {rest : List Oper} {dst : Option Tmp} {s x : Operand} {τ : TypeId} {pos : String} {after : Array Edge} {a : Act} {w : World} {Q : Exit → Act → World → Prop}
    (B : Nat) (v : Value) (xs news : List Value) (n m c : Nat) (ad : Addr) (hs : a.eval s = v) (hx : a.eval x = .slice (some ad) m c) (hown : w.ownsRow B 108 2 v n xs) (hl : news.length = m * 2)
    (hnews : ∀ j u, news[j]? = some u → w.cell? (ad.add j) = some u) (h1 : ∀ u ∈ news, u.oneCell' = true) (hN : n + m ≤ 4194304) (hB : B ≤ w.heap.size)
    (h : ∀ v' w', w'.ownsRow B 108 2 v' (n + m) (xs ++ news) → w.grownBy w' v.ownBlock → (v' = .slice none 0 0 ↔ v = .slice none 0 0 ∧ m = 0) → wpList Tryz.prog ops Q rest (a.put dst v') w') :
    wpList Tryz.prog ops Q ({ dst := dst, op := .call { callee := .builtin .append, args := #[s, x], argTypes := #[35, 35] }, type := τ, pos := pos, after := after, guard := none } :: rest) a w := by
  obtain ⟨i, q1, q2, q3, q4⟩ := slotInfo
  exact wpList_append_own_wide w rfl s x 35 rfl B 108 i (.agg #[.int .i64 0, .string ⟨#[]⟩]) 2 24 Tryz.underlying35 q1 q2 q3 q4 rfl (by omega) v n xs hs hown ad m c news hx hl hnews h1 (by unfold maxLen; omega) (by omega) hB h

set_option maxHeartbeats 2000000 in
theorem copyS (a : Option Addr) (n c : Nat) (xs : List Value) (w : World) (h : ReadAt w a n c 2 xs) (hc : n ≤ 1048576) (h1 : ∀ u ∈ xs, u.oneCell' = true) :
    Calls Tryz.prog 95 #[.slice a n c] w fun e w' => ∃ a' c', e = .returned (.slice a' n c') ∧ RowZ w.heap.size w'.heap.size w' 108 2 a' n c' xs ∧ Below w.heap.size w w' := by
  have HL := hid h.len
  have H1 := hid h1
  cases a with
  | some x =>
    have HC := hid (h.cells x rfl).2
    have HO := hid (World.ownsRow_nil w w.heap.size 108 2)
    clear h h1
    go_enter Tryz.func95, Tryz.ntmps95
    go_wp2_with ((with_reducible refine wpList_append_sl w.heap.size (.slice none 0 0) [] xs 0 n c x ?_ ?_ ?_ ?_ ?_ ?_ ?_ ?_ ?_); (· rfl); (· rfl); (· exact HO.out); (· exact HL.out); (· exact HC.out); (· exact H1.out); (· omega); (· exact Nat.le_refl _); intro v' w' q1 q2 q3; have Q1 := hid q1; have Q2 := hid q2; clear q1 q2 q3)
    go_ret
    have o := Q1.out
    simp only [Nat.zero_add, List.nil_append] at o
    obtain ⟨a', c', rfl⟩ := own_slice o
    exact ⟨a', c', rfl, RowZ.mk' o, ext_grown (Below.refl _ _) Q2.out (fun j hj => by simp [Value.ownBlock] at hj)⟩
  | none =>
    obtain ⟨rfl, rfl⟩ := h.nil rfl
    have e9 : xs = [] := by have := h.len; simpa using this
    subst e9
    clear h h1
    go_enter Tryz.func95, Tryz.ntmps95
    go_wp2_with fail
    go_ret
    exact ⟨none, 0, rfl, RowZ.mk' (World.ownsRow_nil _ _ _ _), Below.refl _ _⟩

set_option maxHeartbeats 2000000 in
theorem copyM (a : Option Addr) (n c : Nat) (xs : List Value) (w : World) (h : ReadAt w a n c 8 xs) (hc : n ≤ 1048576) (h1 : ∀ u ∈ xs, u.oneCell' = true) :
    Calls Tryz.prog 132 #[.slice a n c] w fun e w' => ∃ a' c', e = .returned (.slice a' n c') ∧ RowZ w.heap.size w'.heap.size w' 45 8 a' n c' xs ∧ Below w.heap.size w w' := by
  have HL := hid h.len
  have H1 := hid h1
  cases a with
  | some x =>
    have HC := hid (h.cells x rfl).2
    have HO := hid (World.ownsRow_nil w w.heap.size 45 8)
    clear h h1
    go_enter Tryz.func132, Tryz.ntmps132
    go_wp2_with ((with_reducible refine wpList_append_msgs w.heap.size (.slice none 0 0) [] xs 0 n c x ?_ ?_ ?_ ?_ ?_ ?_ ?_ ?_ ?_); (· rfl); (· rfl); (· exact HO.out); (· exact HL.out); (· exact HC.out); (· exact H1.out); (· omega); (· exact Nat.le_refl _); intro v' w' q1 q2 q3; have Q1 := hid q1; have Q2 := hid q2; clear q1 q2 q3)
    go_ret
    have o := Q1.out
    simp only [Nat.zero_add, List.nil_append] at o
    obtain ⟨a', c', rfl⟩ := own_slice o
    exact ⟨a', c', rfl, RowZ.mk' o, ext_grown (Below.refl _ _) Q2.out (fun j hj => by simp [Value.ownBlock] at hj)⟩
  | none =>
    obtain ⟨rfl, rfl⟩ := h.nil rfl
    have e9 : xs = [] := by have := h.len; simpa using this
    subst e9
    clear h h1
    go_enter Tryz.func132, Tryz.ntmps132
    go_wp2_with fail
    go_ret
    exact ⟨none, 0, rfl, RowZ.mk' (World.ownsRow_nil _ _ _ _), Below.refl _ _⟩

set_option maxHeartbeats 2000000 in
theorem copyT (a : Option Addr) (n c : Nat) (xs : List Value) (w : World) (h : ReadAt w a n c 1 xs) (hc : n ≤ 1048576) (h1 : ∀ u ∈ xs, u.oneCell' = true) :
    Calls Tryz.prog 97 #[.slice a n c] w fun e w' => ∃ a' c', e = .returned (.slice a' n c') ∧ RowZ w.heap.size w'.heap.size w' 9 1 a' n c' xs ∧ Below w.heap.size w w' := by
  have HL := hid h.len
  have H1 := hid h1
  cases a with
  | some x =>
    have HC := hid (h.cells x rfl).2
    have HO := hid (World.ownsRow_nil w w.heap.size 9 1)
    clear h h1
    go_enter Tryz.func97, Tryz.ntmps97
    go_wp2_with ((with_reducible refine wpList_append_strs w.heap.size (.slice none 0 0) [] xs 0 n c x ?_ ?_ ?_ ?_ ?_ ?_ ?_ ?_ ?_); (· rfl); (· rfl); (· exact HO.out); (· exact HL.out); (· exact HC.out); (· exact H1.out); (· omega); (· exact Nat.le_refl _); intro v' w' q1 q2 q3; have Q1 := hid q1; have Q2 := hid q2; clear q1 q2 q3)
    go_ret
    have o := Q1.out
    simp only [Nat.zero_add, List.nil_append] at o
    obtain ⟨a', c', rfl⟩ := own_slice o
    exact ⟨a', c', rfl, RowZ.mk' o, ext_grown (Below.refl _ _) Q2.out (fun j hj => by simp [Value.ownBlock] at hj)⟩
  | none =>
    obtain ⟨rfl, rfl⟩ := h.nil rfl
    have e9 : xs = [] := by have := h.len; simpa using this
    subst e9
    clear h h1
    go_enter Tryz.func97, Tryz.ntmps97
    go_wp2_with fail
    go_ret
    exact ⟨none, 0, rfl, RowZ.mk' (World.ownsRow_nil _ _ _ _), Below.refl _ _⟩

set_option maxHeartbeats 2000000 in
theorem copyI (a : Option Addr) (n c : Nat) (xs : List Value) (w : World) (h : ReadAt w a n c 1 xs) (hc : n ≤ 1048576) (h1 : ∀ u ∈ xs, u.oneCell' = true) :
    Calls Tryz.prog 98 #[.slice a n c] w fun e w' => ∃ a' c', e = .returned (.slice a' n c') ∧ RowZ w.heap.size w'.heap.size w' 3 1 a' n c' xs ∧ Below w.heap.size w w' := by
  have HL := hid h.len
  have H1 := hid h1
  cases a with
  | some x =>
    have HC := hid (h.cells x rfl).2
    have HO := hid (World.ownsRow_nil w w.heap.size 3 1)
    clear h h1
    go_enter Tryz.func98, Tryz.ntmps98
    go_wp2_with ((with_reducible refine wpList_append_ints w.heap.size (.slice none 0 0) [] xs 0 n c x ?_ ?_ ?_ ?_ ?_ ?_ ?_ ?_ ?_); (· rfl); (· rfl); (· exact HO.out); (· exact HL.out); (· exact HC.out); (· exact H1.out); (· omega); (· exact Nat.le_refl _); intro v' w' q1 q2 q3; have Q1 := hid q1; have Q2 := hid q2; clear q1 q2 q3)
    go_ret
    have o := Q1.out
    simp only [Nat.zero_add, List.nil_append] at o
    obtain ⟨a', c', rfl⟩ := own_slice o
    exact ⟨a', c', rfl, RowZ.mk' o, ext_grown (Below.refl _ _) Q2.out (fun j hj => by simp [Value.ownBlock] at hj)⟩
  | none =>
    obtain ⟨rfl, rfl⟩ := h.nil rfl
    have e9 : xs = [] := by have := h.len; simpa using this
    subst e9
    clear h h1
    go_enter Tryz.func98, Tryz.ntmps98
    go_wp2_with fail
    go_ret
    exact ⟨none, 0, rfl, RowZ.mk' (World.ownsRow_nil _ _ _ _), Below.refl _ _⟩

set_option maxHeartbeats 2000000 in
theorem copyA (a : Option Addr) (n c : Nat) (xs : List Value) (w : World) (h : ReadAt w a n c 2 xs) (hc : n ≤ 1048576) (h1 : ∀ u ∈ xs, u.oneCell' = true) :
    Calls Tryz.prog 99 #[.slice a n c] w fun e w' => ∃ a' c', e = .returned (.slice a' n c') ∧ RowZ w.heap.size w'.heap.size w' 105 2 a' n c' xs ∧ Below w.heap.size w w' := by
  have HL := hid h.len
  have H1 := hid h1
  cases a with
  | some x =>
    have HC := hid (h.cells x rfl).2
    have HO := hid (World.ownsRow_nil w w.heap.size 105 2)
    clear h h1
    go_enter Tryz.func99, Tryz.ntmps99
    go_wp2_with ((with_reducible refine wpList_append_acks w.heap.size (.slice none 0 0) [] xs 0 n c x ?_ ?_ ?_ ?_ ?_ ?_ ?_ ?_ ?_); (· rfl); (· rfl); (· exact HO.out); (· exact HL.out); (· exact HC.out); (· exact H1.out); (· omega); (· exact Nat.le_refl _); intro v' w' q1 q2 q3; have Q1 := hid q1; have Q2 := hid q2; clear q1 q2 q3)
    go_ret
    have o := Q1.out
    simp only [Nat.zero_add, List.nil_append] at o
    obtain ⟨a', c', rfl⟩ := own_slice o
    exact ⟨a', c', rfl, RowZ.mk' o, ext_grown (Below.refl _ _) Q2.out (fun j hj => by simp [Value.ownBlock] at hj)⟩
  | none =>
    obtain ⟨rfl, rfl⟩ := h.nil rfl
    have e9 : xs = [] := by have := h.len; simpa using this
    subst e9
    clear h h1
    go_enter Tryz.func99, Tryz.ntmps99
    go_wp2_with fail
    go_ret
    exact ⟨none, 0, rfl, RowZ.mk' (World.ownsRow_nil _ _ _ _), Below.refl _ _⟩
end Go.Proofs.YtffklmlljekceaaGreat
