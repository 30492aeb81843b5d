/-
  A recorder whose lists each lie in blocks of their own (made since the heap had B blocks): colours keep the lists apart.
-/
import Derived.Test.YtffklmlljekceaaGreatRecLay
import Derived.Test.YtffklmlljekceaaGreatAppends
namespace Go.Proofs.YtffklmlljekceaaGreat
open Go.ChangeShapes Go.WideShapes Go.ChangeAt Go.RowKit
set_option linter.unusedVariables false
set_option linter.unusedSimpArgs false

/-- a message and where its slots lie; an ack and where its numbers lie -/
abbrev Mp := Ms × Option Addr × Nat
abbrev Ap := Ak × Option Addr × Nat
def cellsM (m : Mp) : List Value := (msgV m.1.1 (.slice m.2.1 m.1.2.length m.2.2)).toList
def cellsA (m : Ap) : List Value := [.int .i64 m.1.1, .slice m.2.1 m.1.2.length m.2.2]
def flatM (l : List Mp) : List Value := l.flatMap cellsM
def flatA (l : List Ap) : List Value := l.flatMap cellsA
def flatI (l : List Int) : List Value := l.map (fun z => Value.int .i64 z)
def flatT (l : List ByteArray) : List Value := l.map (fun z => Value.string z)

theorem flatMap_len {α : Type} {f : α → List Value} {k : Nat} (hf : ∀ a, (f a).length = k) : ∀ (l : List α), (l.flatMap f).length = l.length * k
  | [] => by simp
  | a :: l => by simp only [List.flatMap_cons, List.length_append, hf, flatMap_len hf l, List.length_cons]; rw [Nat.add_mul]; omega
theorem flatMap_at {α : Type} {f : α → List Value} {k : Nat} (hf : ∀ a, (f a).length = k) : ∀ (l : List α) (i t : Nat) (a : α), l[i]? = some a → t < k → (l.flatMap f)[i * k + t]? = (f a)[t]?
  | [], i, t, a, h, _ => by simp at h
  | b :: l, 0, t, a, h, ht => by
    simp only [List.getElem?_cons_zero, Option.some.injEq] at h
    subst h
    rw [List.flatMap_cons, Nat.zero_mul, Nat.zero_add, List.getElem?_append_left (by rw [hf]; exact ht)]
  | b :: l, i + 1, t, a, h, ht => by
    simp only [List.getElem?_cons_succ] at h
    rw [List.flatMap_cons, List.getElem?_append_right (by rw [hf, Nat.add_mul]; omega), hf, ← flatMap_at hf l i t a h ht]
    congr 1
    rw [Nat.add_mul]; omega
theorem cellsM_len (m : Mp) : (cellsM m).length = 8 := rfl
theorem cellsA_len (m : Ap) : (cellsA m).length = 2 := rfl
theorem flatM_len (l : List Mp) : (flatM l).length = l.length * 8 := flatMap_len cellsM_len l
theorem flatA_len (l : List Ap) : (flatA l).length = l.length * 2 := flatMap_len cellsA_len l
theorem flatM_at (l : List Mp) (i t : Nat) (m : Mp) (h : l[i]? = some m) (ht : t < 8) : (flatM l)[i * 8 + t]? = (cellsM m)[t]? := flatMap_at cellsM_len l i t m h ht
theorem flatA_at (l : List Ap) (i t : Nat) (m : Ap) (h : l[i]? = some m) (ht : t < 2) : (flatA l)[i * 2 + t]? = (cellsA m)[t]? := flatMap_at cellsA_len l i t m h ht
theorem flatM_one (l : List Mp) : ∀ u ∈ flatM l, u.oneCell' = true := fun u hu => by
  simp only [flatM, List.mem_flatMap] at hu
  obtain ⟨m, _, hm⟩ := hu
  simp only [cellsM, List.mem_cons, List.not_mem_nil, or_false] at hm
  rcases hm with rfl | rfl | rfl | rfl | rfl | rfl | rfl | rfl <;> rfl
theorem flatA_one (l : List Ap) : ∀ u ∈ flatA l, u.oneCell' = true := fun u hu => by
  simp only [flatA, List.mem_flatMap] at hu
  obtain ⟨m, _, hm⟩ := hu
  simp only [cellsA, List.mem_cons, List.not_mem_nil, or_false] at hm
  rcases hm with rfl | rfl <;> rfl
theorem flatI_one (l : List Int) : ∀ u ∈ flatI l, u.oneCell' = true := fun u hu => by
  simp only [flatI, List.mem_map] at hu
  obtain ⟨z, _, rfl⟩ := hu
  rfl
theorem flatT_one (l : List ByteArray) : ∀ u ∈ flatT l, u.oneCell' = true := fun u hu => by
  simp only [flatT, List.mem_map] at hu
  obtain ⟨z, _, rfl⟩ := hu
  rfl

/-- a row of its own, of colour t -/
structure RowC (B : Nat) (w : World) (col : Nat → Nat) (t : Nat) (e : TypeId) (k : Nat) (a : Option Addr) (n c : Nat) (xs : List Value) : Prop where
  own : w.ownsRow B e k (.slice a n c) n xs
  col : ∀ x, a = some x → col x.block = t
/-- a nil slice, or one that begins a block -/
theorem RowC.form {B : Nat} {w : World} {col : Nat → Nat} {t : Nat} {e : TypeId} {k : Nat} {a : Option Addr} {n c : Nat} {xs : List Value} (h : RowC B w col t e k a n c xs) :
    (a = none ∧ n = 0 ∧ c = 0 ∧ xs = []) ∨ ∃ g cur, a = some ⟨g, 0, none⟩ ∧ B ≤ g ∧ Blk w g cur e ∧ n ≤ c ∧ c ≤ maxLen ∧ cur.size = c * k ∧ cur.toList.take (n * k) = xs ∧ col g = t := by
  rcases h.own.2 with ⟨h1, h2⟩ | ⟨g, cap, cur, hv, hB, hg, hn, hm, hz, hx⟩
  · simp only [Value.slice.injEq] at h1
    obtain ⟨rfl, rfl, rfl⟩ := h1
    refine .inl ⟨rfl, rfl, rfl, ?_⟩
    have := h.own.1
    simp only [Nat.zero_mul, List.length_eq_zero_iff] at this
    exact this
  · simp only [Value.slice.injEq] at hv
    obtain ⟨rfl, _, rfl⟩ := hv
    exact .inr ⟨g, cur, rfl, hB, hg, hn, hm, hz, hx, h.col _ rfl⟩
theorem RowC.lt {B : Nat} {w : World} {col : Nat → Nat} {t : Nat} {e : TypeId} {k : Nat} {a : Option Addr} {n c : Nat} {xs : List Value} (h : RowC B w col t e k a n c xs) : ∀ x, a = some x → B ≤ x.block ∧ x.block < w.heap.size := fun x hx => by
  rcases h.form with ⟨rfl, _⟩ | ⟨g, cur, rfl, hB, hg, _⟩
  · simp at hx
  · simp only [Option.some.injEq] at hx
    subst hx
    exact ⟨hB, hg.lt⟩
theorem RowC.cell {B : Nat} {w : World} {col : Nat → Nat} {t : Nat} {e : TypeId} {k : Nat} {a : Option Addr} {n c : Nat} {xs : List Value} (h : RowC B w col t e k a n c xs) {j : Nat} {u : Value} (hu : xs[j]? = some u) :
    ∃ g, a = some ⟨g, 0, none⟩ ∧ g < w.heap.size ∧ w.cell? ⟨g, j, none⟩ = some u ∧ w.frozen? ⟨g, j, none⟩ = false := by
  rcases h.form with ⟨_, _, _, rfl⟩ | ⟨g, cur, rfl, hB, hg, h1, h2, h3, h4, _⟩
  · simp at hu
  · refine ⟨g, rfl, hg.lt, ?_, hg.free j⟩
    rw [hg.cell j]
    rw [← h4, List.getElem?_take] at hu
    split at hu
    · rw [← Array.getElem?_toList]; exact hu
    · simp at hu
theorem RowC.room {B : Nat} {w : World} {col : Nat → Nat} {t : Nat} {e : TypeId} {k : Nat} {a : Option Addr} {n c : Nat} {xs : List Value} (h : RowC B w col t e k a n c xs) {m : Nat} (hm : m = n * k) : Room w a m := fun j hj => by
  obtain ⟨u, hu⟩ : ∃ u, xs[j]? = some u := ⟨_, List.getElem?_eq_getElem (by rw [h.own.1, ← hm]; exact hj)⟩
  obtain ⟨g, rfl, hg, hc, hf⟩ := h.cell hu
  exact ⟨g, 0, rfl, hg, by rw [Nat.zero_add, hc]; rfl, by rw [Nat.zero_add]; exact hf⟩
theorem RowC.len {B : Nat} {w : World} {col : Nat → Nat} {t : Nat} {e : TypeId} {k : Nat} {a : Option Addr} {n c : Nat} {xs : List Value} (h : RowC B w col t e k a n c xs) : n ≤ maxLen ∧ n ≤ c := by
  rcases h.form with ⟨_, rfl, rfl, _⟩ | ⟨g, cur, _, _, _, h1, h2, _⟩
  · exact ⟨Nat.zero_le _, Nat.le_refl _⟩
  · exact ⟨Nat.le_trans h1 h2, h1⟩
theorem RowC.plain {B : Nat} {w : World} {col : Nat → Nat} {t : Nat} {e : TypeId} {k : Nat} {a : Option Addr} {n c : Nat} {xs : List Value} (h : RowC B w col t e k a n c xs) : (a = none → c = 0) ∧ ∀ x, a = some x → x.spot = none := by
  rcases h.form with ⟨rfl, _, rfl, _⟩ | ⟨g, cur, rfl, _⟩
  · exact ⟨fun _ => rfl, fun x hx => by simp at hx⟩
  · refine ⟨fun hx => by simp at hx, fun x hx => ?_⟩
    simp only [Option.some.injEq] at hx
    rw [← hx]
/-- a row stays where its block stays -/
theorem RowC.same {B : Nat} {w w' : World} {col : Nat → Nat} {t : Nat} {e : TypeId} {k : Nat} {a : Option Addr} {n c : Nat} {xs : List Value} (h : RowC B w col t e k a n c xs) (hs : ∀ x, a = some x → w'.heap[x.block]? = w.heap[x.block]?) : RowC B w' col t e k a n c xs := by
  refine ⟨⟨h.own.1, ?_⟩, h.col⟩
  rcases h.own.2 with h0 | ⟨g, cap, cur, hv, hB, hg, r⟩
  · exact .inl h0
  · refine .inr ⟨g, cap, cur, hv, hB, ?_, r⟩
    simp only [Value.slice.injEq] at hv
    exact (hs _ hv.1).trans hg
theorem RowC.ext {B : Nat} {w w' : World} {col : Nat → Nat} {t : Nat} {e : TypeId} {k : Nat} {a : Option Addr} {n c : Nat} {xs : List Value} (h : RowC B w col t e k a n c xs) (hb : Below w.heap.size w w') : RowC B w' col t e k a n c xs :=
  h.same fun x hx => hb.block _ (h.lt x hx).2
/-- new colours that leave this row's colour -/
theorem RowC.recol {B : Nat} {w : World} {col col' : Nat → Nat} {t : Nat} {e : TypeId} {k : Nat} {a : Option Addr} {n c : Nat} {xs : List Value} (h : RowC B w col t e k a n c xs) (hc : ∀ b, b < w.heap.size → col' b = col b) : RowC B w col' t e k a n c xs :=
  ⟨h.own, fun x hx => (hc _ (h.lt x hx).2).trans (h.col x hx)⟩
theorem RowC.low {B B' : Nat} {w : World} {col : Nat → Nat} {t : Nat} {e : TypeId} {k : Nat} {a : Option Addr} {n c : Nat} {xs : List Value} (h : RowC B w col t e k a n c xs) (hB : B' ≤ B) : RowC B' w col t e k a n c xs :=
  ⟨⟨h.own.1, by
    rcases h.own.2 with h0 | ⟨g, cap, cur, hv, hb, r⟩
    · exact .inl h0
    · exact .inr ⟨g, cap, cur, hv, Nat.le_trans hB hb, r⟩⟩, h.col⟩

theorem RowC.slots {B : Nat} {w : World} {col : Nat → Nat} {t : Nat} {a : Option Addr} {n c : Nat} {l : List Sl} (h : RowC B w col t 108 2 a n c (flat l)) (hg : GoodSlots l) : SlotsAt w a l := fun i s hs => by
  have hf := flat_at l i s hs
  obtain ⟨g, e1, h1, c0, _⟩ := h.cell hf.1
  obtain ⟨g', e2, _, c1, _⟩ := h.cell hf.2
  rw [e1] at e2
  simp only [Option.some.injEq, Addr.mk.injEq, and_true] at e2
  subst e2
  exact ⟨g, 0, e1, h1, by rw [Nat.zero_add]; exact c0, by rw [Nat.zero_add]; exact c1, (hg i s hs).1, (hg i s hs).2⟩
theorem RowC.ints {B : Nat} {w : World} {col : Nat → Nat} {t : Nat} {a : Option Addr} {n c : Nat} {l : List Int} (h : RowC B w col t 3 1 a n c (flatI l)) (hg : GoodOnes wfI l) : IntsAt w a l := fun i s hs => by
  obtain ⟨g, e1, h1, c0, _⟩ := h.cell (j := i) (u := .int .i64 s) (by simp [flatI, hs])
  exact ⟨g, 0, e1, h1, by rw [Nat.zero_add]; exact c0, hg i s hs⟩
theorem RowC.strs {B : Nat} {w : World} {col : Nat → Nat} {t : Nat} {a : Option Addr} {n c : Nat} {l : List ByteArray} (h : RowC B w col t 9 1 a n c (flatT l)) (hg : GoodOnes okS l) : StrsAt w a l := fun i s hs => by
  obtain ⟨g, e1, h1, c0, _⟩ := h.cell (j := i) (u := .string s) (by simp [flatT, hs])
  exact ⟨g, 0, e1, h1, by rw [Nat.zero_add]; exact c0, hg i s hs⟩
end Go.Proofs.YtffklmlljekceaaGreat
