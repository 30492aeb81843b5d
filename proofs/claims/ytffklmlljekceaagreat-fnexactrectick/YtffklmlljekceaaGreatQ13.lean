import Derived.Test.YtffklmlljekceaaGreatQ05
import Derived.Test.YtffklmlljekceaaGreatQ12
import Derived.Laws.AppendOwnNone
namespace Go.Proofs.YtffklmlljekceaaGreat
open Go.ChangeShapes Go.WideShapes Go.ChangeAt Go.RowKit
set_option linter.unusedSimpArgs false
set_option linter.unusedVariables false
set_option maxHeartbeats 2000000
def lenM (l : List Ms) (i : Nat) : Nat := match l[i]? with | some s => s.2.length | none => 0
def lenA (l : List Ak) (i : Nat) : Nat := match l[i]? with | some s => s.2.length | none => 0
theorem SlotsAt.news {w : World} {b off : Nat} {l : List Sl} (h : SlotsAt w (some ⟨b, off, none⟩) l) : ∀ j u, (flat l)[j]? = some u → w.cell? ((⟨b, off, none⟩ : Addr).add j) = some u := fun j u hu => by
 have hj := (List.getElem?_eq_some_iff.1 hu).1
 rw [flat_len] at hj
 have hi : j / 2 < l.length := by omega
 have hs : l[j / 2]? = some l[j / 2] := List.getElem?_eq_getElem hi
 obtain ⟨b', off', e, hb, c0, c1, _⟩ := h _ _ hs
 simp only [Option.some.injEq, Addr.mk.injEq, and_true] at e
 obtain ⟨rfl, rfl⟩ := e
 have hf := flat_at l _ _ hs
 rw [Addr.add_mid]
 by_cases hp : j % 2 = 0
 ·have e : j = j / 2 * 2 := by omega
  rw [e] at hu ⊢
  rw [← hu, c0, hf.1]
 have e : j = j / 2 * 2 + 1 := by omega
 rw [e] at hu ⊢
 rw [← hu, hf.2, ← c1, Nat.add_assoc]
theorem l1Slots_at (a : Option Addr) (l : List Sl) (n cap : Nat) (w : World) (hn : l.length = n) (hc : n ≤ 1048576) (ha : a = none → cap = 0) (hsp : ∀ x, a = some x → x.spot = none) (h : SlotsAt w a l) :
  Calls Tryz.prog 77 #[.slice a n cap] w fun e w' => ∃ g' cap', e = .returned (.slice (some ⟨g', 0, none⟩) n cap') ∧ w.heap.size ≤ g' ∧ w'.ownsRow w.heap.size 108 2 (.slice (some ⟨g', 0, none⟩) n cap') n (flat l) ∧ Below w.heap.size w w' := by
 have HL : Hid (l.length = n) := hn
 have HO := hid (own_none w 108 2)
 clear hn
 cases a with
 | some x =>
  obtain ⟨b, off, sp⟩ := x
  have e9 := hsp _ rfl
  dsimp only at e9
  subst e9
  have HN := hid (show ∀ j u, (flat l)[j]? = some u → (w.alloc (.cells #[] 108)).cell? ((⟨b, off, none⟩ : Addr).add j) = some u from (h.ext (ext_alloc (Below.refl _ _) _)).news)
  clear h
  go_enter Tryz.func77, Tryz.ntmps77
  go_wp2_with ((with_reducible refine wpList_append_slots w.heap.size (.slice (some ⟨w.heap.size, 0, none⟩) 0 0) [] l 0 n cap ⟨b, off, none⟩ ?_ ?_ ?_ ?_ ?_ ?_ ?_ ?_); (· rfl); (· rfl); (· exact HO.out); (· exact HL.out); (· exact HN.out); (· omega); (· simp); intro v' w' q1 q2 q3; have Q1 := hid q1; have Q2 := hid q2; have Q3 := hid q3; clear q1 q2 q3)
  go_ret
  obtain ⟨g', cap', rfl, hb, _⟩ := own_form Q1.out (fun e => by have := (Q3.out.1 e).1; simp at this)
  exact ⟨g', cap', by simp, hb, by simpa using Q1.out, ext_grown (ext_alloc (Below.refl _ _) _) Q2.out (fun j hj => by simp [Value.ownBlock] at hj; omega)⟩
 | none =>
  have hl : l = [] := by
   cases l with
   | nil => rfl
   | cons s t => obtain ⟨b, off, e, _⟩ := h 0 s rfl; simp at e
  subst hl
  have hn0 : n = 0 := HL.out.symm
  subst hn0
  have e9 := ha rfl
  subst e9
  go_enter Tryz.func77, Tryz.ntmps77
  go_wp2_with fail
  go_ret
  exact ⟨w.heap.size, 0, rfl, Nat.le_refl _, HO.out, ext_alloc (Below.refl _ _) _⟩
theorem info_ints : ∃ i, Tryz.prog.info? 3 = some i ∧ i.zero = some (.int .i64 0) ∧ i.size = 1 ∧ i.bytes = 8 := info_parts (by kernel_rfl)
theorem wpList_append_ints {ops : Array Oper} {rest : List Oper} {dst : Option Tmp} {s x : Operand} {τ : TypeId} {pos : String} {after : Array Edge} {a : Act} {w : World} {Q : Exit → Act → World → Prop}
  (B : Nat) (v : Value) (xs news : List Value) (n m c : Nat) (ad : Addr) (hs : a.eval s = v) (hx : a.eval x = .slice (some ad) m c) (hown : w.ownsRow B 3 1 v n xs) (hl : news.length = m * 1)
  (hnews : ∀ j u, news[j]? = some u → w.cell? (ad.add j) = some u) (h1 : ∀ u ∈ news, u.oneCell' = true) (hN : n + m ≤ 4194304) (hB : B ≤ w.heap.size)
  (h : ∀ v' w', w'.ownsRow B 3 1 v' (n + m) (xs ++ news) → w.grownBy w' v.ownBlock → (v' = .slice none 0 0 ↔ v = .slice none 0 0 ∧ m = 0) → wpList Tryz.prog ops Q rest (a.put dst v') w') :
  wpList Tryz.prog ops Q ({ dst := dst, op := .call { callee := .builtin .append, args := #[s, x], argTypes := #[27, 27] }, type := τ, pos := pos, after := after, guard := none } :: rest) a w := by
 obtain ⟨i, q1, q2, q3, q4⟩ := info_ints
 exact wpList_append_own_wide w rfl s x 27 rfl B 3 i (.int .i64 0) 1 8 Tryz.underlying27 q1 q2 q3 q4 rfl (by omega) v n xs hs hown ad m c news hx hl hnews h1 (by unfold maxLen; omega) (by omega) hB h
theorem info_strs : ∃ i, Tryz.prog.info? 9 = some i ∧ i.zero = some (.string ⟨#[]⟩) ∧ i.size = 1 ∧ i.bytes = 16 := info_parts (by kernel_rfl)
theorem wpList_append_strs {ops : Array Oper} {rest : List Oper} {dst : Option Tmp} {s x : Operand} {τ : TypeId} {pos : String} {after : Array Edge} {a : Act} {w : World} {Q : Exit → Act → World → Prop}
  (B : Nat) (v : Value) (xs news : List Value) (n m c : Nat) (ad : Addr) (hs : a.eval s = v) (hx : a.eval x = .slice (some ad) m c) (hown : w.ownsRow B 9 1 v n xs) (hl : news.length = m * 1)
  (hnews : ∀ j u, news[j]? = some u → w.cell? (ad.add j) = some u) (h1 : ∀ u ∈ news, u.oneCell' = true) (hN : n + m ≤ 4194304) (hB : B ≤ w.heap.size)
  (h : ∀ v' w', w'.ownsRow B 9 1 v' (n + m) (xs ++ news) → w.grownBy w' v.ownBlock → (v' = .slice none 0 0 ↔ v = .slice none 0 0 ∧ m = 0) → wpList Tryz.prog ops Q rest (a.put dst v') w') :
  wpList Tryz.prog ops Q ({ dst := dst, op := .call { callee := .builtin .append, args := #[s, x], argTypes := #[26, 26] }, type := τ, pos := pos, after := after, guard := none } :: rest) a w := by
 obtain ⟨i, q1, q2, q3, q4⟩ := info_strs
 exact wpList_append_own_wide w rfl s x 26 rfl B 9 i (.string ⟨#[]⟩) 1 16 Tryz.underlying26 q1 q2 q3 q4 rfl (by omega) v n xs hs hown ad m c news hx hl hnews h1 (by unfold maxLen; omega) (by omega) hB h
theorem info_msgs : ∃ i, Tryz.prog.info? 45 = some i ∧ i.zero = some (.agg #[.int .i64 0, .int .i64 0, .int .i64 0, .int .i64 0, .int .i64 0, .int .i64 0, .string ⟨#[]⟩, .slice none 0 0]) ∧ i.size = 8 ∧ i.bytes = 88 := info_parts (by kernel_rfl)
theorem wpList_append_msgs {ops : Array Oper} {rest : List Oper} {dst : Option Tmp} {s x : Operand} {τ : TypeId} {pos : String} {after : Array Edge} {a : Act} {w : World} {Q : Exit → Act → World → Prop}
  (B : Nat) (v : Value) (xs news : List Value) (n m c : Nat) (ad : Addr) (hs : a.eval s = v) (hx : a.eval x = .slice (some ad) m c) (hown : w.ownsRow B 45 8 v n xs) (hl : news.length = m * 8)
  (hnews : ∀ j u, news[j]? = some u → w.cell? (ad.add j) = some u) (h1 : ∀ u ∈ news, u.oneCell' = true) (hN : n + m ≤ 4194304) (hB : B ≤ w.heap.size)
  (h : ∀ v' w', w'.ownsRow B 45 8 v' (n + m) (xs ++ news) → w.grownBy w' v.ownBlock → (v' = .slice none 0 0 ↔ v = .slice none 0 0 ∧ m = 0) → wpList Tryz.prog ops Q rest (a.put dst v') w') :
  wpList Tryz.prog ops Q ({ dst := dst, op := .call { callee := .builtin .append, args := #[s, x], argTypes := #[38, 38] }, type := τ, pos := pos, after := after, guard := none } :: rest) a w := by
 obtain ⟨i, q1, q2, q3, q4⟩ := info_msgs
 exact wpList_append_own_wide w rfl s x 38 rfl B 45 i (.agg #[.int .i64 0, .int .i64 0, .int .i64 0, .int .i64 0, .int .i64 0, .int .i64 0, .string ⟨#[]⟩, .slice none 0 0]) 8 88 Tryz.underlying38 q1 q2 q3 q4 rfl (by omega) v n xs hs hown ad m c news hx hl hnews h1 (by unfold maxLen; omega) (by omega) hB h
theorem info_acks : ∃ i, Tryz.prog.info? 105 = some i ∧ i.zero = some (.agg #[.int .i64 0, .slice none 0 0]) ∧ i.size = 2 ∧ i.bytes = 32 := info_parts (by kernel_rfl)
theorem wpList_append_acks {ops : Array Oper} {rest : List Oper} {dst : Option Tmp} {s x : Operand} {τ : TypeId} {pos : String} {after : Array Edge} {a : Act} {w : World} {Q : Exit → Act → World → Prop}
  (B : Nat) (v : Value) (xs news : List Value) (n m c : Nat) (ad : Addr) (hs : a.eval s = v) (hx : a.eval x = .slice (some ad) m c) (hown : w.ownsRow B 105 2 v n xs) (hl : news.length = m * 2)
  (hnews : ∀ j u, news[j]? = some u → w.cell? (ad.add j) = some u) (h1 : ∀ u ∈ news, u.oneCell' = true) (hN : n + m ≤ 4194304) (hB : B ≤ w.heap.size)
  (h : ∀ v' w', w'.ownsRow B 105 2 v' (n + m) (xs ++ news) → w.grownBy w' v.ownBlock → (v' = .slice none 0 0 ↔ v = .slice none 0 0 ∧ m = 0) → wpList Tryz.prog ops Q rest (a.put dst v') w') :
  wpList Tryz.prog ops Q ({ dst := dst, op := .call { callee := .builtin .append, args := #[s, x], argTypes := #[39, 39] }, type := τ, pos := pos, after := after, guard := none } :: rest) a w := by
 obtain ⟨i, q1, q2, q3, q4⟩ := info_acks
 exact wpList_append_own_wide w rfl s x 39 rfl B 105 i (.agg #[.int .i64 0, .slice none 0 0]) 2 32 Tryz.underlying39 q1 q2 q3 q4 rfl (by omega) v n xs hs hown ad m c news hx hl hnews h1 (by unfold maxLen; omega) (by omega) hB h
abbrev Mp := Ms × Option Addr × Nat
abbrev Ap := Ak × Option Addr × Nat
def cellsM (m : Mp) : List Value := (msgV m.1.1 (.slice m.2.1 m.1.2.length m.2.2)).toList
def cellsA (m : Ap) : List Value := [.int .i64 m.1.1, .slice m.2.1 m.1.2.length m.2.2]
def flatM (l : List Mp) : List Value := l.flatMap cellsM
def flatA (l : List Ap) : List Value := l.flatMap cellsA
def flatI (l : List Int) : List Value := l.map (fun z => Value.int .i64 z)
def flatT (l : List ByteArray) : List Value := l.map (fun z => Value.string z)
theorem flatMap_len {α : Type} {f : α → List Value} {k : Nat} (hf : ∀ a, (f a).length = k) : ∀ (l : List α), (l.flatMap f).length = l.length * k
 | [] => by simp
 | a :: l => by simp only [List.flatMap_cons, List.length_append, hf, flatMap_len hf l, List.length_cons]; rw [Nat.add_mul]; omega
theorem flatMap_at {α : Type} {f : α → List Value} {k : Nat} (hf : ∀ a, (f a).length = k) : ∀ (l : List α) (i t : Nat) (a : α), l[i]? = some a → t < k → (l.flatMap f)[i * k + t]? = (f a)[t]?
 | [], i, t, a, h, _ => by simp at h
 | b :: l, 0, t, a, h, ht => by
  simp only [List.getElem?_cons_zero, Option.some.injEq] at h
  subst h
  rw [List.flatMap_cons, Nat.zero_mul, Nat.zero_add, List.getElem?_append_left (by rw [hf]; exact ht)]
 | b :: l, i + 1, t, a, h, ht => by
  simp only [List.getElem?_cons_succ] at h
  rw [List.flatMap_cons, List.getElem?_append_right (by rw [hf, Nat.add_mul]; omega), hf, ← flatMap_at hf l i t a h ht]
  congr 1
  rw [Nat.add_mul]; omega
theorem cellsM_len (m : Mp) : (cellsM m).length = 8 := rfl
theorem cellsA_len (m : Ap) : (cellsA m).length = 2 := rfl
theorem flatM_len (l : List Mp) : (flatM l).length = l.length * 8 := flatMap_len cellsM_len l
theorem flatA_len (l : List Ap) : (flatA l).length = l.length * 2 := flatMap_len cellsA_len l
theorem flatM_at (l : List Mp) (i t : Nat) (m : Mp) (h : l[i]? = some m) (ht : t < 8) : (flatM l)[i * 8 + t]? = (cellsM m)[t]? := flatMap_at cellsM_len l i t m h ht
theorem flatA_at (l : List Ap) (i t : Nat) (m : Ap) (h : l[i]? = some m) (ht : t < 2) : (flatA l)[i * 2 + t]? = (cellsA m)[t]? := flatMap_at cellsA_len l i t m h ht
theorem flatM_one (l : List Mp) : ∀ u ∈ flatM l, u.oneCell' = true := fun u hu => by
 simp only [flatM, List.mem_flatMap] at hu
 obtain ⟨m, _, hm⟩ := hu
 simp only [cellsM, List.mem_cons, List.not_mem_nil, or_false] at hm
 rcases hm with rfl | rfl | rfl | rfl | rfl | rfl | rfl | rfl <;> rfl
theorem flatA_one (l : List Ap) : ∀ u ∈ flatA l, u.oneCell' = true := fun u hu => by
 simp only [flatA, List.mem_flatMap] at hu
 obtain ⟨m, _, hm⟩ := hu
 simp only [cellsA, List.mem_cons, List.not_mem_nil, or_false] at hm
 rcases hm with rfl | rfl <;> rfl
theorem flatI_one (l : List Int) : ∀ u ∈ flatI l, u.oneCell' = true := fun u hu => by
 simp only [flatI, List.mem_map] at hu
 obtain ⟨z, _, rfl⟩ := hu
 rfl
theorem flatT_one (l : List ByteArray) : ∀ u ∈ flatT l, u.oneCell' = true := fun u hu => by
 simp only [flatT, List.mem_map] at hu
 obtain ⟨z, _, rfl⟩ := hu
 rfl
structure RowC (B : Nat) (w : World) (col : Nat → Nat) (t : Nat) (e : TypeId) (k : Nat) (a : Option Addr) (n c : Nat) (xs : List Value) : Prop where
 own : w.ownsRow B e k (.slice a n c) n xs
 col : ∀ x, a = some x → col x.block = t
theorem RowC.form {B : Nat} {w : World} {col : Nat → Nat} {t : Nat} {e : TypeId} {k : Nat} {a : Option Addr} {n c : Nat} {xs : List Value} (h : RowC B w col t e k a n c xs) :
  (a = none ∧ n = 0 ∧ c = 0 ∧ xs = []) ∨ ∃ g cur, a = some ⟨g, 0, none⟩ ∧ B ≤ g ∧ Blk w g cur e ∧ n ≤ c ∧ c ≤ maxLen ∧ cur.size = c * k ∧ cur.toList.take (n * k) = xs ∧ col g = t := by
 rcases h.own.2 with ⟨h1, h2⟩ | ⟨g, cap, cur, hv, hB, hg, hn, hm, hz, hx⟩
 ·simp only [Value.slice.injEq] at h1
  obtain ⟨rfl, rfl, rfl⟩ := h1
  refine .inl ⟨rfl, rfl, rfl, ?_⟩
  have := h.own.1
  simp only [Nat.zero_mul, List.length_eq_zero_iff] at this
  exact this
 simp only [Value.slice.injEq] at hv
 obtain ⟨rfl, _, rfl⟩ := hv
 exact .inr ⟨g, cur, rfl, hB, hg, hn, hm, hz, hx, h.col _ rfl⟩
theorem RowC.lt {B : Nat} {w : World} {col : Nat → Nat} {t : Nat} {e : TypeId} {k : Nat} {a : Option Addr} {n c : Nat} {xs : List Value} (h : RowC B w col t e k a n c xs) : ∀ x, a = some x → B ≤ x.block ∧ x.block < w.heap.size := fun x hx => by
 rcases h.form with ⟨rfl, _⟩ | ⟨g, cur, rfl, hB, hg, _⟩
 ·simp at hx
 simp only [Option.some.injEq] at hx
 subst hx
 exact ⟨hB, hg.lt⟩
theorem RowC.cell {B : Nat} {w : World} {col : Nat → Nat} {t : Nat} {e : TypeId} {k : Nat} {a : Option Addr} {n c : Nat} {xs : List Value} (h : RowC B w col t e k a n c xs) {j : Nat} {u : Value} (hu : xs[j]? = some u) :
  ∃ g, a = some ⟨g, 0, none⟩ ∧ g < w.heap.size ∧ w.cell? ⟨g, j, none⟩ = some u ∧ w.frozen? ⟨g, j, none⟩ = false := by
 rcases h.form with ⟨_, _, _, rfl⟩ | ⟨g, cur, rfl, hB, hg, h1, h2, h3, h4, _⟩
 ·simp at hu
 refine ⟨g, rfl, hg.lt, ?_, hg.free j⟩
 rw [hg.cell j]
 rw [← h4, List.getElem?_take] at hu
 split at hu
 ·rw [← Array.getElem?_toList]; exact hu
 simp at hu
theorem RowC.room {B : Nat} {w : World} {col : Nat → Nat} {t : Nat} {e : TypeId} {k : Nat} {a : Option Addr} {n c : Nat} {xs : List Value} (h : RowC B w col t e k a n c xs) {m : Nat} (hm : m = n * k) : Room w a m := fun j hj => by
 obtain ⟨u, hu⟩ : ∃ u, xs[j]? = some u := ⟨_, List.getElem?_eq_getElem (by rw [h.own.1, ← hm]; exact hj)⟩
 obtain ⟨g, rfl, hg, hc, hf⟩ := h.cell hu
 exact ⟨g, 0, rfl, hg, by rw [Nat.zero_add, hc]; rfl, by rw [Nat.zero_add]; exact hf⟩
theorem RowC.len {B : Nat} {w : World} {col : Nat → Nat} {t : Nat} {e : TypeId} {k : Nat} {a : Option Addr} {n c : Nat} {xs : List Value} (h : RowC B w col t e k a n c xs) : n ≤ maxLen ∧ n ≤ c := by
 rcases h.form with ⟨_, rfl, rfl, _⟩ | ⟨g, cur, _, _, _, h1, h2, _⟩
 ·exact ⟨Nat.zero_le _, Nat.le_refl _⟩
 exact ⟨Nat.le_trans h1 h2, h1⟩
theorem RowC.plain {B : Nat} {w : World} {col : Nat → Nat} {t : Nat} {e : TypeId} {k : Nat} {a : Option Addr} {n c : Nat} {xs : List Value} (h : RowC B w col t e k a n c xs) : (a = none → c = 0) ∧ ∀ x, a = some x → x.spot = none := by
 rcases h.form with ⟨rfl, _, rfl, _⟩ | ⟨g, cur, rfl, _⟩
 ·exact ⟨fun _ => rfl, fun x hx => by simp at hx⟩
 refine ⟨fun hx => by simp at hx, fun x hx => ?_⟩
 simp only [Option.some.injEq] at hx
 rw [← hx]
theorem RowC.same {B : Nat} {w w' : World} {col : Nat → Nat} {t : Nat} {e : TypeId} {k : Nat} {a : Option Addr} {n c : Nat} {xs : List Value} (h : RowC B w col t e k a n c xs) (hs : ∀ x, a = some x → w'.heap[x.block]? = w.heap[x.block]?) : RowC B w' col t e k a n c xs := by
 refine ⟨⟨h.own.1, ?_⟩, h.col⟩
 rcases h.own.2 with h0 | ⟨g, cap, cur, hv, hB, hg, r⟩
 ·exact .inl h0
 refine .inr ⟨g, cap, cur, hv, hB, ?_, r⟩
 simp only [Value.slice.injEq] at hv
 exact (hs _ hv.1).trans hg
theorem RowC.ext {B : Nat} {w w' : World} {col : Nat → Nat} {t : Nat} {e : TypeId} {k : Nat} {a : Option Addr} {n c : Nat} {xs : List Value} (h : RowC B w col t e k a n c xs) (hb : Below w.heap.size w w') : RowC B w' col t e k a n c xs :=
 h.same fun x hx => hb.block _ (h.lt x hx).2
theorem RowC.recol {B : Nat} {w : World} {col col' : Nat → Nat} {t : Nat} {e : TypeId} {k : Nat} {a : Option Addr} {n c : Nat} {xs : List Value} (h : RowC B w col t e k a n c xs) (hc : ∀ b, b < w.heap.size → col' b = col b) : RowC B w col' t e k a n c xs :=
 ⟨h.own, fun x hx => (hc _ (h.lt x hx).2).trans (h.col x hx)⟩
theorem RowC.low {B B' : Nat} {w : World} {col : Nat → Nat} {t : Nat} {e : TypeId} {k : Nat} {a : Option Addr} {n c : Nat} {xs : List Value} (h : RowC B w col t e k a n c xs) (hB : B' ≤ B) : RowC B' w col t e k a n c xs :=
 ⟨⟨h.own.1, by
  rcases h.own.2 with h0 | ⟨g, cap, cur, hv, hb, r⟩
  ·exact .inl h0
  exact .inr ⟨g, cap, cur, hv, Nat.le_trans hB hb, r⟩⟩, h.col⟩
theorem RowC.slots {B : Nat} {w : World} {col : Nat → Nat} {t : Nat} {a : Option Addr} {n c : Nat} {l : List Sl} (h : RowC B w col t 108 2 a n c (flat l)) (hg : GoodSlots l) : SlotsAt w a l := fun i s hs => by
 have hf := flat_at l i s hs
 obtain ⟨g, e1, h1, c0, _⟩ := h.cell hf.1
 obtain ⟨g', e2, _, c1, _⟩ := h.cell hf.2
 rw [e1] at e2
 simp only [Option.some.injEq, Addr.mk.injEq, and_true] at e2
 subst e2
 exact ⟨g, 0, e1, h1, by rw [Nat.zero_add]; exact c0, by rw [Nat.zero_add]; exact c1, (hg i s hs).1, (hg i s hs).2⟩
theorem RowC.ints {B : Nat} {w : World} {col : Nat → Nat} {t : Nat} {a : Option Addr} {n c : Nat} {l : List Int} (h : RowC B w col t 3 1 a n c (flatI l)) (hg : GoodOnes wfI l) : IntsAt w a l := fun i s hs => by
 obtain ⟨g, e1, h1, c0, _⟩ := h.cell (j := i) (u := .int .i64 s) (by simp [flatI, hs])
 exact ⟨g, 0, e1, h1, by rw [Nat.zero_add]; exact c0, hg i s hs⟩
theorem RowC.strs {B : Nat} {w : World} {col : Nat → Nat} {t : Nat} {a : Option Addr} {n c : Nat} {l : List ByteArray} (h : RowC B w col t 9 1 a n c (flatT l)) (hg : GoodOnes okS l) : StrsAt w a l := fun i s hs => by
 obtain ⟨g, e1, h1, c0, _⟩ := h.cell (j := i) (u := .string s) (by simp [flatT, hs])
 exact ⟨g, 0, e1, h1, by rw [Nat.zero_add]; exact c0, hg i s hs⟩
end Go.Proofs.YtffklmlljekceaaGreat
