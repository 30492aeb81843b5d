import Derived.Test.YtchbdajgpfcjcaaSpecMerge
import Derived.Laws.AppendOwnNone
/-
  Slots copied by the specification, wherever they lie: spec.l1Slots.
-/
namespace Go.Proofs.Ytchbdajgpfcjcaa
open Go.ChangeShapes Go.WideShapes Go.ChangeAt Go.RowKit
set_option linter.unusedVariables false
set_option linter.unusedSimpArgs false

theorem SlotsAt.news {w : World} {b off : Nat} {l : List Sl} (h : SlotsAt w (some ⟨b, off, none⟩) l) : ∀ j u, (flat l)[j]? = some u → w.cell? ((⟨b, off, none⟩ : Addr).add j) = some u := fun j u hu => by
  have hj := (List.getElem?_eq_some_iff.1 hu).1
  rw [flat_len] at hj
  have hi : j / 2 < l.length := by omega
  have hs : l[j / 2]? = some l[j / 2] := List.getElem?_eq_getElem hi
  obtain ⟨b', off', e, hb, c0, c1, _⟩ := h _ _ hs
  simp only [Option.some.injEq, Addr.mk.injEq, and_true] at e
  obtain ⟨rfl, rfl⟩ := e
  have hf := flat_at l _ _ hs
  rw [Addr.add_mid]
  by_cases hp : j % 2 = 0
  · have e : j = j / 2 * 2 := by omega
    rw [e] at hu ⊢
    rw [← hu, c0, hf.1]
  · have e : j = j / 2 * 2 + 1 := by omega
    rw [e] at hu ⊢
    rw [← hu, hf.2, ← c1, Nat.add_assoc]

set_option maxHeartbeats 2000000 in
theorem l1Slots_at (a : Option Addr) (l : List Sl) (n cap : Nat) (w : World) (hn : l.length = n) (hc : n ≤ 1048576) (ha : a = none → cap = 0) (hsp : ∀ x, a = some x → x.spot = none) (h : SlotsAt w a l) :
    Calls Try.prog 48 #[.slice a n cap] w fun e w' => ∃ g' cap', e = .returned (.slice (some ⟨g', 0, none⟩) n cap') ∧ w.heap.size ≤ g' ∧ w'.ownsRow w.heap.size 74 2 (.slice (some ⟨g', 0, none⟩) n cap') n (flat l) ∧ Below w.heap.size w w' := by
  have HL : Hid (l.length = n) := hn
  have HO := hid (own_none w 74 2)
  clear hn
  cases a with
  | some x =>
    obtain ⟨b, off, sp⟩ := x
    have e9 := hsp _ rfl
    dsimp only at e9
    subst e9
    have HN := hid (show ∀ j u, (flat l)[j]? = some u → (w.alloc (.cells #[] 74)).cell? ((⟨b, off, none⟩ : Addr).add j) = some u from (h.ext (ext_alloc (Below.refl _ _) _)).news)
    clear h
    go_enter Try.func48, Try.ntmps48
    go_wp2_with ((with_reducible refine wpList_append_slots w.heap.size (.slice (some ⟨w.heap.size, 0, none⟩) 0 0) [] l 0 n cap ⟨b, off, none⟩ ?_ ?_ ?_ ?_ ?_ ?_ ?_ ?_); (· rfl); (· rfl); (· exact HO.out); (· exact HL.out); (· exact HN.out); (· omega); (· simp); intro v' w' q1 q2 q3; have Q1 := hid q1; have Q2 := hid q2; have Q3 := hid q3; clear q1 q2 q3)
    go_ret
    obtain ⟨g', cap', rfl, hb, _⟩ := own_form Q1.out (fun e => by have := (Q3.out.1 e).1; simp at this)
    exact ⟨g', cap', by simp, hb, by simpa using Q1.out, ext_grown (ext_alloc (Below.refl _ _) _) Q2.out (fun j hj => by simp [Value.ownBlock] at hj; omega)⟩
  | none =>
    have hl : l = [] := by
      cases l with
      | nil => rfl
      | cons s t => obtain ⟨b, off, e, _⟩ := h 0 s rfl; simp at e
    subst hl
    have hn0 : n = 0 := HL.out.symm
    subst hn0
    have e9 := ha rfl
    subst e9
    go_enter Try.func48, Try.ntmps48
    go_wp2_with fail
    go_ret
    exact ⟨w.heap.size, 0, rfl, Nat.le_refl _, HO.out, ext_alloc (Below.refl _ _) _⟩
end Go.Proofs.Ytchbdajgpfcjcaa

/-
  Appends that may grow, at the types of numbers, texts, messages and acks.
-/
namespace Go.Proofs.Ytchbdajgpfcjcaa
open Go.ChangeShapes Go.WideShapes Go.ChangeAt Go.RowKit
set_option linter.unusedVariables false
set_option linter.unusedSimpArgs false

theorem info_ints : ∃ i, Try.prog.info? 3 = some i ∧ i.zero = some (.int .i64 0) ∧ i.size = 1 ∧ i.bytes = 8 := info_parts (by kernel_rfl)
theorem wpList_append_ints {ops : Array Oper} {rest : List Oper} {dst : Option Tmp} {s x : Operand} {τ : TypeId} {pos : String} {after : Array Edge} {a : Act} {w : World} {Q : Exit → Act → World → Prop}
    (B : Nat) (v : Value) (xs news : List Value) (n m c : Nat) (ad : Addr) (hs : a.eval s = v) (hx : a.eval x = .slice (some ad) m c) (hown : w.ownsRow B 3 1 v n xs) (hl : news.length = m * 1)
    (hnews : ∀ j u, news[j]? = some u → w.cell? (ad.add j) = some u) (h1 : ∀ u ∈ news, u.oneCell' = true) (hN : n + m ≤ 4194304) (hB : B ≤ w.heap.size)
    (h : ∀ v' w', w'.ownsRow B 3 1 v' (n + m) (xs ++ news) → w.grownBy w' v.ownBlock → (v' = .slice none 0 0 ↔ v = .slice none 0 0 ∧ m = 0) → wpList Try.prog ops Q rest (a.put dst v') w') :
    wpList Try.prog ops Q ({ dst := dst, op := .call { callee := .builtin .append, args := #[s, x], argTypes := #[41, 41] }, type := τ, pos := pos, after := after, guard := none } :: rest) a w := by
  obtain ⟨i, q1, q2, q3, q4⟩ := info_ints
  exact wpList_append_own_wide w rfl s x 41 rfl B 3 i (.int .i64 0) 1 8 Try.underlying41 q1 q2 q3 q4 rfl (by omega) v n xs hs hown ad m c news hx hl hnews h1 (by unfold maxLen; omega) (by omega) hB h

theorem info_strs : ∃ i, Try.prog.info? 9 = some i ∧ i.zero = some (.string ⟨#[]⟩) ∧ i.size = 1 ∧ i.bytes = 16 := info_parts (by kernel_rfl)
theorem wpList_append_strs {ops : Array Oper} {rest : List Oper} {dst : Option Tmp} {s x : Operand} {τ : TypeId} {pos : String} {after : Array Edge} {a : Act} {w : World} {Q : Exit → Act → World → Prop}
    (B : Nat) (v : Value) (xs news : List Value) (n m c : Nat) (ad : Addr) (hs : a.eval s = v) (hx : a.eval x = .slice (some ad) m c) (hown : w.ownsRow B 9 1 v n xs) (hl : news.length = m * 1)
    (hnews : ∀ j u, news[j]? = some u → w.cell? (ad.add j) = some u) (h1 : ∀ u ∈ news, u.oneCell' = true) (hN : n + m ≤ 4194304) (hB : B ≤ w.heap.size)
    (h : ∀ v' w', w'.ownsRow B 9 1 v' (n + m) (xs ++ news) → w.grownBy w' v.ownBlock → (v' = .slice none 0 0 ↔ v = .slice none 0 0 ∧ m = 0) → wpList Try.prog ops Q rest (a.put dst v') w') :
    wpList Try.prog ops Q ({ dst := dst, op := .call { callee := .builtin .append, args := #[s, x], argTypes := #[40, 40] }, type := τ, pos := pos, after := after, guard := none } :: rest) a w := by
  obtain ⟨i, q1, q2, q3, q4⟩ := info_strs
  exact wpList_append_own_wide w rfl s x 40 rfl B 9 i (.string ⟨#[]⟩) 1 16 Try.underlying40 q1 q2 q3 q4 rfl (by omega) v n xs hs hown ad m c news hx hl hnews h1 (by unfold maxLen; omega) (by omega) hB h

theorem info_msgs : ∃ i, Try.prog.info? 62 = some i ∧ i.zero = some (.agg #[.int .i64 0, .int .i64 0, .int .i64 0, .int .i64 0, .int .i64 0, .int .i64 0, .string ⟨#[]⟩, .slice none 0 0]) ∧ i.size = 8 ∧ i.bytes = 88 := info_parts (by kernel_rfl)
theorem wpList_append_msgs {ops : Array Oper} {rest : List Oper} {dst : Option Tmp} {s x : Operand} {τ : TypeId} {pos : String} {after : Array Edge} {a : Act} {w : World} {Q : Exit → Act → World → Prop}
    (B : Nat) (v : Value) (xs news : List Value) (n m c : Nat) (ad : Addr) (hs : a.eval s = v) (hx : a.eval x = .slice (some ad) m c) (hown : w.ownsRow B 62 8 v n xs) (hl : news.length = m * 8)
    (hnews : ∀ j u, news[j]? = some u → w.cell? (ad.add j) = some u) (h1 : ∀ u ∈ news, u.oneCell' = true) (hN : n + m ≤ 4194304) (hB : B ≤ w.heap.size)
    (h : ∀ v' w', w'.ownsRow B 62 8 v' (n + m) (xs ++ news) → w.grownBy w' v.ownBlock → (v' = .slice none 0 0 ↔ v = .slice none 0 0 ∧ m = 0) → wpList Try.prog ops Q rest (a.put dst v') w') :
    wpList Try.prog ops Q ({ dst := dst, op := .call { callee := .builtin .append, args := #[s, x], argTypes := #[39, 39] }, type := τ, pos := pos, after := after, guard := none } :: rest) a w := by
  obtain ⟨i, q1, q2, q3, q4⟩ := info_msgs
  exact wpList_append_own_wide w rfl s x 39 rfl B 62 i (.agg #[.int .i64 0, .int .i64 0, .int .i64 0, .int .i64 0, .int .i64 0, .int .i64 0, .string ⟨#[]⟩, .slice none 0 0]) 8 88 Try.underlying39 q1 q2 q3 q4 rfl (by omega) v n xs hs hown ad m c news hx hl hnews h1 (by unfold maxLen; omega) (by omega) hB h

theorem info_acks : ∃ i, Try.prog.info? 114 = some i ∧ i.zero = some (.agg #[.int .i64 0, .slice none 0 0]) ∧ i.size = 2 ∧ i.bytes = 32 := info_parts (by kernel_rfl)
theorem wpList_append_acks {ops : Array Oper} {rest : List Oper} {dst : Option Tmp} {s x : Operand} {τ : TypeId} {pos : String} {after : Array Edge} {a : Act} {w : World} {Q : Exit → Act → World → Prop}
    (B : Nat) (v : Value) (xs news : List Value) (n m c : Nat) (ad : Addr) (hs : a.eval s = v) (hx : a.eval x = .slice (some ad) m c) (hown : w.ownsRow B 114 2 v n xs) (hl : news.length = m * 2)
    (hnews : ∀ j u, news[j]? = some u → w.cell? (ad.add j) = some u) (h1 : ∀ u ∈ news, u.oneCell' = true) (hN : n + m ≤ 4194304) (hB : B ≤ w.heap.size)
    (h : ∀ v' w', w'.ownsRow B 114 2 v' (n + m) (xs ++ news) → w.grownBy w' v.ownBlock → (v' = .slice none 0 0 ↔ v = .slice none 0 0 ∧ m = 0) → wpList Try.prog ops Q rest (a.put dst v') w') :
    wpList Try.prog ops Q ({ dst := dst, op := .call { callee := .builtin .append, args := #[s, x], argTypes := #[42, 42] }, type := τ, pos := pos, after := after, guard := none } :: rest) a w := by
  obtain ⟨i, q1, q2, q3, q4⟩ := info_acks
  exact wpList_append_own_wide w rfl s x 42 rfl B 114 i (.agg #[.int .i64 0, .slice none 0 0]) 2 32 Try.underlying42 q1 q2 q3 q4 rfl (by omega) v n xs hs hown ad m c news hx hl hnews h1 (by unfold maxLen; omega) (by omega) hB h
end Go.Proofs.Ytchbdajgpfcjcaa
