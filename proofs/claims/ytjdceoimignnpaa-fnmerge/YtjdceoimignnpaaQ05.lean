import Derived.Test.YtjdceoimignnpaaQ02
import Derived.Test.YtjdceoimignnpaaQ03
import Derived.Test.YtjdceoimignnpaaQ04
import Derived.Laws.BytesArg
import Derived.Laws.AppendOwnNone
namespace Go.Proofs.Ytjdceoimignnpaa
open Go.ChangeShapes Go.WideShapes Go.ChangeAt Go.RowKit Go.Deep Go.Joins
set_option linter.unusedVariables false
set_option linter.unusedSimpArgs false
set_option maxHeartbeats 8000000
set_option maxRecDepth 20000
variable {l : List Sl} {xs : List Value} {B c g k n u : Nat} {col' : Nat → Nat} {r : Rc} {p : RcP} {e : TypeId} {w w' : World}
def roleB (r : Rc) : Bool := if r.lead then leadB r else if r.tr then tryB r else calmB r
def validB (r : Rc) : Bool := (inB r.of_ 1 5 && inB r.num 1 r.of_) && diskOkB r.sp r.sk r.ss && diskOkB r.dp r.dk r.ds && heldOkB r.num r.of_ r.held && wishesOkB r.wish && inB r.heard 0 1000000 && numsOkB r.of_ r.yes && slotsOkB r.best && acksOkB r.of_ r.acks && (!(r.lead && r.tr)) && roleB r && (r.up || downB r)
theorem nv_g0 (h : (inB r.of_ 1 5 && inB r.num 1 r.of_) = false) : validB r = false := by
 unfold validB;rw [h];simp only [Bool.false_and, Bool.and_false]
theorem nv_g1 (h : diskOkB r.sp r.sk r.ss = false) : validB r = false := by
 unfold validB;rw [h];simp only [Bool.false_and, Bool.and_false]
theorem nv_g2 (h : diskOkB r.dp r.dk r.ds = false) : validB r = false := by
 unfold validB;rw [h];simp only [Bool.false_and, Bool.and_false]
theorem nv_g3 (h : heldOkB r.num r.of_ r.held = false) : validB r = false := by
 unfold validB;rw [h];simp only [Bool.false_and, Bool.and_false]
theorem nv_g4 (h : wishesOkB r.wish = false) : validB r = false := by
 unfold validB;rw [h];simp only [Bool.false_and, Bool.and_false]
theorem nv_g5 (h : inB r.heard 0 1000000 = false) : validB r = false := by
 unfold validB;rw [h];simp only [Bool.false_and, Bool.and_false]
theorem nv_g6 (h : numsOkB r.of_ r.yes = false) : validB r = false := by
 unfold validB;rw [h];simp only [Bool.false_and, Bool.and_false]
theorem nv_g7 (h : slotsOkB r.best = false) : validB r = false := by
 unfold validB;rw [h];simp only [Bool.false_and, Bool.and_false]
theorem nv_g8 (h : acksOkB r.of_ r.acks = false) : validB r = false := by
 unfold validB;rw [h];simp only [Bool.false_and, Bool.and_false]
theorem nv_g9 (h : (!(r.lead && r.tr)) = false) : validB r = false := by
 unfold validB;rw [h];simp only [Bool.false_and, Bool.and_false]
theorem nv_g10 (h : roleB r = false) : validB r = false := by
 unfold validB;rw [h];simp only [Bool.false_and, Bool.and_false]
theorem valid_last (hg0 : (inB r.of_ 1 5 && inB r.num 1 r.of_) = true) (hg1 : diskOkB r.sp r.sk r.ss = true) (hg2 : diskOkB r.dp r.dk r.ds = true) (hg3 : heldOkB r.num r.of_ r.held = true) (hg4 : wishesOkB r.wish = true) (hg5 : inB r.heard 0 1000000 = true) (hg6 : numsOkB r.of_ r.yes = true) (hg7 : slotsOkB r.best = true) (hg8 : acksOkB r.of_ r.acks = true) (hg9 : (!(r.lead && r.tr)) = true) (hg10 : roleB r = true) : validB r = (r.up || downB r) := by
 unfold validB;rw [hg0, hg1, hg2, hg3, hg4, hg5, hg6, hg7, hg8, hg9, hg10];simp only [Bool.true_and]
theorem below_eq (h : w' = w) : Below w.heap.size w w' := h ▸ Below.refl _ _
theorem wpList_load_rec_g {ops : Array Oper} {rest : List Oper} {dst : Option Tmp} {x : Operand} {τ : TypeId} {pos : String} {after : Array Edge} {gd : Option (Nat × Bool)} {a : Act} {w : World} {Q : Exit → Act → World → Prop}
  (g : Nat) (cs : Array Value) (hs : cs.size = 18) (hw : Region.wanted { dst := dst, op := .load 31 x, type := τ, pos := pos, after := after, guard := gd } (yielded ops a.tmps) = true) (hx : a.eval x = .pointer (some ⟨g, 0, none⟩)) (hg : Blk w g cs 31)
  (h : wpList Try.prog ops Q rest (a.put dst (.agg cs)) w) :
  wpList Try.prog ops Q ({ dst := dst, op := .load 31 x, type := τ, pos := pos, after := after, guard := gd } :: rest) a w :=
 wpList_step fun K hK => by
  rw [if_pos hw];exact wp_load_row 31 x rfl g hx 31 cs (0, 0) _ hg Try.underlying31 rfl (by rw [hs]; kernel_rfl) (hK _ _ h)
def nth : List Oper → Nat → Option Oper
 | [], _ => none
 | a :: _, 0 => some a
 | _ :: l, n + 1 => nth l n
theorem nth_eq : ∀ (l : List Oper) (i : Nat), nth l i = l[i]?
 | [], _ => by simp [nth]
 | a :: l, 0 => by simp [nth]
 | a :: l, n + 1 => by simp [nth, nth_eq l n]
theorem at_lit {l : List Oper} {i : Nat} {o : Oper} (h : nth l i = some o) : l.toArray[i]? = some o := by rw [List.getElem?_toArray, ← nth_eq, h]
structure RecS (B : World) (g : Nat) (r : Rc) (p : RcP) (w' : World) : Prop where
 blk : Blk w' g (rcV r p) 31
 bel : Below B.heap.size B w'
theorem RecS.ext {B : World} {v' : World} (h : RecS B g r p w') (hb : Below w'.heap.size w' v') : RecS B g r p v' := ⟨h.blk.ext hb, ext_trans h.bel hb⟩
theorem RecS.drew {B : World} (h : RecS B g r p w') : RecS B g r p w'.drew := ⟨h.blk, h.bel.drew⟩


def kA (N : Nat → Nat) (k : Nat) : Nat → Nat
 | 0 => k
 | n + 1 => kA N k n + 1 + N n
def kM (N : Nat → Nat) (k : Nat) : Nat → Nat
 | 0 => k
 | n + 1 => kM N k n + 7 + 2 * N n


theorem SlotsAt.news {b off : Nat} (h : SlotsAt w (some ⟨b, off, none⟩) l) : ∀ j u, (flat l)[j]? = some u → w.cell? ((⟨b, off, none⟩ : Addr).add j) = some u := fun j u hu => by
 have hj := (List.getElem?_eq_some_iff.1 hu).1;rw [flat_len] at hj;have hi : j / 2 < l.length := by omega
 have hs : l[j / 2]? = some l[j / 2] := List.getElem?_eq_getElem hi;obtain ⟨b', off', e, hb, c0, c1, _⟩ := h _ _ hs;simp only [Option.some.injEq, Addr.mk.injEq, and_true] at e;obtain ⟨rfl, rfl⟩ := e;have hf := flat_at l _ _ hs;rw [Addr.add_mid];by_cases hp : j % 2 = 0
 ·have e : j = j / 2 * 2 := by omega
  rw [e] at hu ⊢;rw [← hu, c0, hf.1]
 have e : j = j / 2 * 2 + 1 := by omega
 rw [e] at hu ⊢;rw [← hu, hf.2, ← c1, Nat.add_assoc]
theorem l1Slots_at (a : Option Addr) (l : List Sl) (n cap : Nat) (w : World) (hn : l.length = n) (hc : n ≤ 1048576) (ha : a = none → cap = 0) (hsp : ∀ x, a = some x → x.spot = none) (h : SlotsAt w a l) :
  Calls Try.prog 56 #[.slice a n cap] w fun e w' => ∃ g' cap', e = .returned (.slice (some ⟨g', 0, none⟩) n cap') ∧ w.heap.size ≤ g' ∧ w'.ownsRow w.heap.size 43 2 (.slice (some ⟨g', 0, none⟩) n cap') n (flat l) ∧ Below w.heap.size w w' := by
 have HL : Hid (l.length = n) := hn;have HO := hid (own_none w 43 2);clear hn;cases a with
 | some x =>
  obtain ⟨b, off, sp⟩ := x;have e9 := hsp _ rfl;dsimp only at e9;subst e9;have HN := hid (show ∀ j u, (flat l)[j]? = some u → (w.alloc (.cells #[] 43)).cell? ((⟨b, off, none⟩ : Addr).add j) = some u from (h.ext (ext_alloc (Below.refl _ _) _)).news);clear h;go_enter Try.func56, Try.ntmps56;go_wp2_with ((with_reducible refine wpList_append_slots w.heap.size (.slice (some ⟨w.heap.size, 0, none⟩) 0 0) [] l 0 n cap ⟨b, off, none⟩ ?_ ?_ ?_ ?_ ?_ ?_ ?_ ?_); (· rfl); (· rfl); (· exact HO.out); (· exact HL.out); (· exact HN.out); (· omega); (· simp); intro v' w' q1 q2 q3; have Q1 := hid q1; have Q2 := hid q2; have Q3 := hid q3; clear q1 q2 q3);go_ret;obtain ⟨g', cap', rfl, hb, _⟩ := own_form Q1.out (fun e => by have := (Q3.out.1 e).1; simp at this);exact ⟨g', cap', by simp, hb, by simpa using Q1.out, ext_grown (ext_alloc (Below.refl _ _) _) Q2.out (fun j hj => by simp [Value.ownBlock] at hj; omega)⟩
 | none =>
  have hl : l = [] := by
   cases l with
   | nil => rfl
   | cons s t => obtain ⟨b, off, e, _⟩ := h 0 s rfl; simp at e
  subst hl;have hn0 : n = 0 := HL.out.symm;subst hn0;have e9 := ha rfl;subst e9;go_enter Try.func56, Try.ntmps56;go_wp2_with fail;go_ret;exact ⟨w.heap.size, 0, rfl, Nat.le_refl _, HO.out, ext_alloc (Below.refl _ _) _⟩
theorem info_ints : ∃ i, Try.prog.info? 3 = some i ∧ i.zero = some (.int .i64 0) ∧ i.size = 1 ∧ i.bytes = 8 := info_parts (by kernel_rfl)
theorem info_strs : ∃ i, Try.prog.info? 9 = some i ∧ i.zero = some (.string ⟨#[]⟩) ∧ i.size = 1 ∧ i.bytes = 16 := info_parts (by kernel_rfl)
theorem info_msgs : ∃ i, Try.prog.info? 49 = some i ∧ i.zero = some (.agg #[.int .i64 0, .int .i64 0, .int .i64 0, .int .i64 0, .int .i64 0, .int .i64 0, .string ⟨#[]⟩, .slice none 0 0]) ∧ i.size = 8 ∧ i.bytes = 88 := info_parts (by kernel_rfl)
theorem info_acks : ∃ i, Try.prog.info? 69 = some i ∧ i.zero = some (.agg #[.int .i64 0, .slice none 0 0]) ∧ i.size = 2 ∧ i.bytes = 32 := info_parts (by kernel_rfl)
abbrev Mp := Ms × Option Addr × Nat
abbrev Ap := Ak × Option Addr × Nat
def cellsM (m : Mp) : List Value := (msgV m.1.1 (.slice m.2.1 m.1.2.length m.2.2)).toList
def cellsA (m : Ap) : List Value := [.int .i64 m.1.1, .slice m.2.1 m.1.2.length m.2.2]
def flatM (l : List Mp) : List Value := l.flatMap cellsM
def flatA (l : List Ap) : List Value := l.flatMap cellsA
def flatI (l : List Int) : List Value := l.map (fun z => Value.int .i64 z)
def flatT (l : List ByteArray) : List Value := l.map (fun z => Value.string z)
theorem flatMap_len {α : Type} {f : α → List Value} {k : Nat} (hf : ∀ a, (f a).length = k) : ∀ (l : List α), (l.flatMap f).length = l.length * k
 | [] => by simp
 | a :: l => by simp only [List.flatMap_cons, List.length_append, hf, flatMap_len hf l, List.length_cons]; rw [Nat.add_mul]; omega
theorem flatMap_at {α : Type} {f : α → List Value} {k : Nat} (hf : ∀ a, (f a).length = k) : ∀ (l : List α) (i t : Nat) (a : α), l[i]? = some a → t < k → (l.flatMap f)[i * k + t]? = (f a)[t]?
 | [], i, t, a, h, _ => by simp at h
 | b :: l, 0, t, a, h, ht => by
  simp only [List.getElem?_cons_zero, Option.some.injEq] at h;subst h;rw [List.flatMap_cons, Nat.zero_mul, Nat.zero_add, List.getElem?_append_left (by rw [hf]; exact ht)]
 | b :: l, i + 1, t, a, h, ht => by
  simp only [List.getElem?_cons_succ] at h;rw [List.flatMap_cons, List.getElem?_append_right (by rw [hf, Nat.add_mul]; omega), hf, ← flatMap_at hf l i t a h ht];congr 1;rw [Nat.add_mul]; omega
theorem cellsM_len (m : Mp) : (cellsM m).length = 8 := rfl
theorem cellsA_len (m : Ap) : (cellsA m).length = 2 := rfl
theorem flatM_len (l : List Mp) : (flatM l).length = l.length * 8 := flatMap_len cellsM_len l
theorem flatA_len (l : List Ap) : (flatA l).length = l.length * 2 := flatMap_len cellsA_len l
theorem flatM_at (l : List Mp) (i t : Nat) (m : Mp) (h : l[i]? = some m) (ht : t < 8) : (flatM l)[i * 8 + t]? = (cellsM m)[t]? := flatMap_at cellsM_len l i t m h ht
theorem flatA_at (l : List Ap) (i t : Nat) (m : Ap) (h : l[i]? = some m) (ht : t < 2) : (flatA l)[i * 2 + t]? = (cellsA m)[t]? := flatMap_at cellsA_len l i t m h ht
theorem flatM_one (l : List Mp) : ∀ u ∈ flatM l, u.oneCell' = true := fun u hu => by
 simp only [flatM, List.mem_flatMap] at hu;obtain ⟨m, _, hm⟩ := hu;simp only [cellsM, List.mem_cons, List.not_mem_nil, or_false] at hm;rcases hm with rfl | rfl | rfl | rfl | rfl | rfl | rfl | rfl <;> rfl
theorem flatA_one (l : List Ap) : ∀ u ∈ flatA l, u.oneCell' = true := fun u hu => by
 simp only [flatA, List.mem_flatMap] at hu;obtain ⟨m, _, hm⟩ := hu;simp only [cellsA, List.mem_cons, List.not_mem_nil, or_false] at hm;rcases hm with rfl | rfl <;> rfl
theorem flatI_one (l : List Int) : ∀ u ∈ flatI l, u.oneCell' = true := fun u hu => by
 simp only [flatI, List.mem_map] at hu;obtain ⟨z, _, rfl⟩ := hu;rfl
theorem flatT_one (l : List ByteArray) : ∀ u ∈ flatT l, u.oneCell' = true := fun u hu => by
 simp only [flatT, List.mem_map] at hu;obtain ⟨z, _, rfl⟩ := hu;rfl
structure RowC (B : Nat) (w : World) (col : Nat → Nat) (t : Nat) (e : TypeId) (k : Nat) (a : Option Addr) (n c : Nat) (xs : List Value) : Prop where
 own : w.ownsRow B e k (.slice a n c) n xs
 col : ∀ x, a = some x → col x.block = t
theorem RowC.form {col : Nat → Nat} {t : Nat} {a : Option Addr} (h : RowC B w col t e k a n c xs) :
  (a = none ∧ n = 0 ∧ c = 0 ∧ xs = []) ∨ ∃ g cur, a = some ⟨g, 0, none⟩ ∧ B ≤ g ∧ Blk w g cur e ∧ n ≤ c ∧ c ≤ maxLen ∧ cur.size = c * k ∧ cur.toList.take (n * k) = xs ∧ col g = t := by
 rcases h.own.2 with ⟨h1, h2⟩ | ⟨g, cap, cur, hv, hB, hg, hn, hm, hz, hx⟩
 ·simp only [Value.slice.injEq] at h1;obtain ⟨rfl, rfl, rfl⟩ := h1;refine .inl ⟨rfl, rfl, rfl, ?_⟩;have := h.own.1;simp only [Nat.zero_mul, List.length_eq_zero_iff] at this;exact this
 simp only [Value.slice.injEq] at hv;obtain ⟨rfl, _, rfl⟩ := hv;exact .inr ⟨g, cur, rfl, hB, hg, hn, hm, hz, hx, h.col _ rfl⟩
theorem RowC.lt {col : Nat → Nat} {t : Nat} {a : Option Addr} (h : RowC B w col t e k a n c xs) : ∀ x, a = some x → B ≤ x.block ∧ x.block < w.heap.size := fun x hx => by
 rcases h.form with ⟨rfl, _⟩ | ⟨g, cur, rfl, hB, hg, _⟩
 ·simp at hx
 simp only [Option.some.injEq] at hx;subst hx;exact ⟨hB, hg.lt⟩
theorem RowC.cell {col : Nat → Nat} {t : Nat} {a : Option Addr} (h : RowC B w col t e k a n c xs) {j : Nat} {u : Value} (hu : xs[j]? = some u) :
  ∃ g, a = some ⟨g, 0, none⟩ ∧ g < w.heap.size ∧ w.cell? ⟨g, j, none⟩ = some u ∧ w.frozen? ⟨g, j, none⟩ = false := by
 rcases h.form with ⟨_, _, _, rfl⟩ | ⟨g, cur, rfl, hB, hg, h1, h2, h3, h4, _⟩
 ·simp at hu
 refine ⟨g, rfl, hg.lt, ?_, hg.free j⟩;rw [hg.cell j];rw [← h4, List.getElem?_take] at hu;split at hu
 ·rw [← Array.getElem?_toList]; exact hu
 simp at hu
theorem RowC.len {col : Nat → Nat} {t : Nat} {a : Option Addr} (h : RowC B w col t e k a n c xs) : n ≤ maxLen ∧ n ≤ c := by
 rcases h.form with ⟨_, rfl, rfl, _⟩ | ⟨g, cur, _, _, _, h1, h2, _⟩
 ·exact ⟨Nat.zero_le _, Nat.le_refl _⟩
 exact ⟨Nat.le_trans h1 h2, h1⟩
theorem RowC.plain {col : Nat → Nat} {t : Nat} {a : Option Addr} (h : RowC B w col t e k a n c xs) : (a = none → c = 0) ∧ ∀ x, a = some x → x.spot = none := by
 rcases h.form with ⟨rfl, _, rfl, _⟩ | ⟨g, cur, rfl, _⟩
 ·exact ⟨fun _ => rfl, fun x hx => by simp at hx⟩
 refine ⟨fun hx => by simp at hx, fun x hx => ?_⟩;simp only [Option.some.injEq] at hx;rw [← hx]
theorem RowC.same {col : Nat → Nat} {t : Nat} {a : Option Addr} (h : RowC B w col t e k a n c xs) (hs : ∀ x, a = some x → w'.heap[x.block]? = w.heap[x.block]?) : RowC B w' col t e k a n c xs := by
 refine ⟨⟨h.own.1, ?_⟩, h.col⟩;rcases h.own.2 with h0 | ⟨g, cap, cur, hv, hB, hg, r⟩
 ·exact .inl h0
 refine .inr ⟨g, cap, cur, hv, hB, ?_, r⟩;simp only [Value.slice.injEq] at hv;exact (hs _ hv.1).trans hg
theorem RowC.ext {col : Nat → Nat} {t : Nat} {a : Option Addr} (h : RowC B w col t e k a n c xs) (hb : Below w.heap.size w w') : RowC B w' col t e k a n c xs :=
 h.same fun x hx => hb.block _ (h.lt x hx).2
theorem RowC.recol {col : Nat → Nat} {t : Nat} {a : Option Addr} (h : RowC B w col t e k a n c xs) (hc : ∀ b, b < w.heap.size → col' b = col b) : RowC B w col' t e k a n c xs :=
 ⟨h.own, fun x hx => (hc _ (h.lt x hx).2).trans (h.col x hx)⟩
theorem RowC.low {B' : Nat} {col : Nat → Nat} {t : Nat} {a : Option Addr} (h : RowC B w col t e k a n c xs) (hB : B' ≤ B) : RowC B' w col t e k a n c xs :=
 ⟨⟨h.own.1, by
  rcases h.own.2 with h0 | ⟨g, cap, cur, hv, hb, r⟩
  ·exact .inl h0
  exact .inr ⟨g, cap, cur, hv, Nat.le_trans hB hb, r⟩⟩, h.col⟩
theorem RowC.slots {col : Nat → Nat} {t : Nat} {a : Option Addr} (h : RowC B w col t 43 2 a n c (flat l)) (hg : GoodSlots l) : SlotsAt w a l := fun i s hs => by
 have hf := flat_at l i s hs;obtain ⟨g, e1, h1, c0, _⟩ := h.cell hf.1;obtain ⟨g', e2, _, c1, _⟩ := h.cell hf.2;rw [e1] at e2;simp only [Option.some.injEq, Addr.mk.injEq, and_true] at e2;subst e2;exact ⟨g, 0, e1, h1, by rw [Nat.zero_add]; exact c0, by rw [Nat.zero_add]; exact c1, (hg i s hs).1, (hg i s hs).2⟩
theorem RowC.ints {col : Nat → Nat} {t : Nat} {a : Option Addr} {l : List Int} (h : RowC B w col t 3 1 a n c (flatI l)) (hg : GoodOnes wfI l) : IntsAt w a l := fun i s hs => by
 obtain ⟨g, e1, h1, c0, _⟩ := h.cell (j := i) (u := .int .i64 s) (by simp [flatI, hs]);exact ⟨g, 0, e1, h1, by rw [Nat.zero_add]; exact c0, hg i s hs⟩
theorem RowC.strs {col : Nat → Nat} {t : Nat} {a : Option Addr} {l : List ByteArray} (h : RowC B w col t 9 1 a n c (flatT l)) (hg : GoodOnes okS l) : StrsAt w a l := fun i s hs => by
 obtain ⟨g, e1, h1, c0, _⟩ := h.cell (j := i) (u := .string s) (by simp [flatT, hs]);exact ⟨g, 0, e1, h1, by rw [Nat.zero_add]; exact c0, hg i s hs⟩
structure RcX where
 H : List Mp
 A : List Ap
structure RcGood (r : Rc) : Prop where
 s : GoodSlots r.ss
 d : GoodSlots r.ds
 h : MsgsGood r.held
 t : GoodOnes okS r.wish
 y : GoodOnes wfI r.yes
 b : GoodSlots r.best
 a : AcksGood r.acks
theorem RcAt.good (h : RcAt w r p) : RcGood r := ⟨h.hS.good, h.hD.good, h.hH.good, h.hW.good, h.hY.good, h.hB.good, h.hA.good⟩
structure InnM (B : Nat) (w : World) (col : Nat → Nat) (t : Nat) (H : List Mp) : Prop where
 row : ∀ m ∈ H, RowC B w col t 43 2 m.2.1 m.1.2.length m.2.2 (flat m.1.2)
 apart : H.Pairwise (fun m m' => ∀ x x', m.2.1 = some x → m'.2.1 = some x' → x.block ≠ x'.block)
structure InnA (B : Nat) (w : World) (col : Nat → Nat) (t : Nat) (H : List Ap) : Prop where
 row : ∀ m ∈ H, RowC B w col t 3 1 m.2.1 m.1.2.length m.2.2 (flatI m.1.2)
 apart : H.Pairwise (fun m m' => ∀ x x', m.2.1 = some x → m'.2.1 = some x' → x.block ≠ x'.block)
structure RcHas (B : Nat) (w : World) (r : Rc) (p : RcP) (X : RcX) (col : Nat → Nat) : Prop where
 s : RowC B w col 0 43 2 p.aS r.ss.length p.cS (flat r.ss)
 d : RowC B w col 1 43 2 p.aD r.ds.length p.cD (flat r.ds)
 h : RowC B w col 2 49 8 p.aH r.held.length p.cH (flatM X.H)
 hm : X.H.map (·.1) = r.held
 hi : InnM B w col 7 X.H
 t : RowC B w col 3 9 1 p.aW r.wish.length p.cW (flatT r.wish)
 y : RowC B w col 4 3 1 p.aY r.yes.length p.cY (flatI r.yes)
 b : RowC B w col 5 43 2 p.aB r.best.length p.cB (flat r.best)
 a : RowC B w col 6 69 2 p.aA r.acks.length p.cA (flatA X.A)
 am : X.A.map (·.1) = r.acks
 ai : InnA B w col 8 X.A
 gd : RcGood r
theorem InnM.same {col : Nat → Nat} {t : Nat} {H : List Mp} (h : InnM B w col t H) (hs : ∀ b, b < w.heap.size → col b = t → w'.heap[b]? = w.heap[b]?) : InnM B w' col t H :=
 ⟨fun m hm => (h.row m hm).same fun x hx => hs _ ((h.row m hm).lt x hx).2 ((h.row m hm).col x hx), h.apart⟩
theorem InnA.same {col : Nat → Nat} {t : Nat} {H : List Ap} (h : InnA B w col t H) (hs : ∀ b, b < w.heap.size → col b = t → w'.heap[b]? = w.heap[b]?) : InnA B w' col t H :=
 ⟨fun m hm => (h.row m hm).same fun x hx => hs _ ((h.row m hm).lt x hx).2 ((h.row m hm).col x hx), h.apart⟩
theorem InnM.recol {col : Nat → Nat} {t : Nat} {H : List Mp} (h : InnM B w col t H) (hc : ∀ b, b < w.heap.size → col' b = col b) : InnM B w col' t H :=
 ⟨fun m hm => (h.row m hm).recol hc, h.apart⟩
theorem InnA.recol {col : Nat → Nat} {t : Nat} {H : List Ap} (h : InnA B w col t H) (hc : ∀ b, b < w.heap.size → col' b = col b) : InnA B w col' t H :=
 ⟨fun m hm => (h.row m hm).recol hc, h.apart⟩
variable {X : RcX}
theorem RcHas.ext {col : Nat → Nat} (h : RcHas B w r p X col) (hb : Below w.heap.size w w') : RcHas B w' r p X col :=
 have k : ∀ t b, b < w.heap.size → col b = t → w'.heap[b]? = w.heap[b]? := fun t b hlt _ => hb.block b hlt
 ⟨h.s.ext hb, h.d.ext hb, h.h.ext hb, h.hm, h.hi.same (k 7), h.t.ext hb, h.y.ext hb, h.b.ext hb, h.a.ext hb, h.am, h.ai.same (k 8), h.gd⟩
theorem RcHas.same {col : Nat → Nat} (h : RcHas B w r p X col) (hs : ∀ b, B ≤ b → b < w.heap.size → col b ≤ 8 → w'.heap[b]? = w.heap[b]?) : RcHas B w' r p X col := by
 have k : ∀ {t : Nat} {e : TypeId} {k : Nat} {a : Option Addr} {n c : Nat} {xs : List Value}, t ≤ 8 → RowC B w col t e k a n c xs → RowC B w' col t e k a n c xs := fun ht h => h.same fun x hx => hs _ (h.lt x hx).1 (h.lt x hx).2 (by rw [h.col x hx]; exact ht)
 exact ⟨k (by omega) h.s, k (by omega) h.d, k (by omega) h.h, h.hm, ⟨fun m hm => k (by omega) (h.hi.row m hm), h.hi.apart⟩, k (by omega) h.t, k (by omega) h.y, k (by omega) h.b, k (by omega) h.a, h.am, ⟨fun m hm => k (by omega) (h.ai.row m hm), h.ai.apart⟩, h.gd⟩
theorem RowC.cellM {col : Nat → Nat} {t : Nat} {a : Option Addr} {H : List Mp} (h : RowC B w col t 49 8 a n c (flatM H)) {i : Nat} {m : Mp} (hm : H[i]? = some m) {q : Nat} {u : Value} (hq : q < 8) (hu : (cellsM m)[q]? = some u) :
  ∃ g, a = some ⟨g, 0, none⟩ ∧ g < w.heap.size ∧ w.cell? ⟨g, i * 8 + q, none⟩ = some u ∧ w.frozen? ⟨g, i * 8 + q, none⟩ = false := h.cell ((flatM_at H i q m hm hq).trans hu)
theorem RowC.cellA {col : Nat → Nat} {t : Nat} {a : Option Addr} {H : List Ap} (h : RowC B w col t 69 2 a n c (flatA H)) {i : Nat} {m : Ap} (hm : H[i]? = some m) {q : Nat} {u : Value} (hq : q < 2) (hu : (cellsA m)[q]? = some u) :
  ∃ g, a = some ⟨g, 0, none⟩ ∧ g < w.heap.size ∧ w.cell? ⟨g, i * 2 + q, none⟩ = some u ∧ w.frozen? ⟨g, i * 2 + q, none⟩ = false := h.cell ((flatA_at H i q m hm hq).trans hu)
theorem some_inj_addr {a : Option Addr} {g' : Nat} (h : a = some ⟨g, 0, none⟩) (h' : a = some ⟨g', 0, none⟩) : g' = g := by
 rw [h] at h';simp only [Option.some.injEq, Addr.mk.injEq, and_true] at h';exact h'.symm
theorem msgs_at {col : Nat → Nat} {t : Nat} {a : Option Addr} {H : List Mp} {l : List Ms} (h : RowC B w col t 49 8 a n c (flatM H)) (hm : H.map (·.1) = l) (hi : InnM B w col u H) (hg : MsgsGood l) : MsgsAt w a l := fun i s hs => by
 rw [← hm, List.getElem?_map, Option.map_eq_some_iff] at hs;obtain ⟨m, h0, rfl⟩ := hs;have hs' : l[i]? = some m.1 := by rw [← hm, List.getElem?_map, h0]; rfl
 obtain ⟨g, e0, hg0, c0, _⟩ := h.cellM h0 (q := 0) (by omega) rfl;obtain ⟨g1, e1, _, c1, _⟩ := h.cellM h0 (q := 1) (by omega) rfl;obtain ⟨g2, e2, _, c2, _⟩ := h.cellM h0 (q := 2) (by omega) rfl;obtain ⟨g3, e3, _, c3, _⟩ := h.cellM h0 (q := 3) (by omega) rfl;obtain ⟨g4, e4, _, c4, _⟩ := h.cellM h0 (q := 4) (by omega) rfl;obtain ⟨g5, e5, _, c5, _⟩ := h.cellM h0 (q := 5) (by omega) rfl;obtain ⟨g6, e6, _, c6, _⟩ := h.cellM h0 (q := 6) (by omega) rfl;obtain ⟨g7, e7, _, c7, _⟩ := h.cellM h0 (q := 7) (by omega) rfl;have q1 := some_inj_addr e0 e1;have q2 := some_inj_addr e0 e2;have q3 := some_inj_addr e0 e3;have q4 := some_inj_addr e0 e4;have q5 := some_inj_addr e0 e5;have q6 := some_inj_addr e0 e6;have q7 := some_inj_addr e0 e7;subst q1 q2 q3 q4 q5 q6 q7;obtain ⟨k1, k2, k3⟩ := hg i _ hs';refine ⟨g7, 0, m.2.1, m.2.2, e0, hg0, ?_, ?_, ?_, ?_, ?_, ?_, ?_, ?_, k1, k2, (hi.row m (List.mem_of_getElem? h0)).slots k3⟩;all_goals rw [Nat.zero_add]
 all_goals assumption
theorem acks_at {col : Nat → Nat} {t : Nat} {a : Option Addr} {H : List Ap} {l : List Ak} (h : RowC B w col t 69 2 a n c (flatA H)) (hm : H.map (·.1) = l) (hi : InnA B w col u H) (hg : AcksGood l) : AcksAt w a l := fun i s hs => by
 rw [← hm, List.getElem?_map, Option.map_eq_some_iff] at hs;obtain ⟨m, h0, rfl⟩ := hs;have hs' : l[i]? = some m.1 := by rw [← hm, List.getElem?_map, h0]; rfl
 obtain ⟨g, e0, hg0, c0, _⟩ := h.cellA h0 (q := 0) (by omega) rfl;obtain ⟨g1, e1, _, c1, _⟩ := h.cellA h0 (q := 1) (by omega) rfl;have q1 := some_inj_addr e0 e1;subst q1;obtain ⟨k1, k2, k3⟩ := hg i _ hs';refine ⟨g1, 0, m.2.1, m.2.2, e0, hg0, ?_, ?_, k1, k2, (hi.row m (List.mem_of_getElem? h0)).ints k3⟩;all_goals rw [Nat.zero_add]
 all_goals assumption
theorem RcHas.at {col : Nat → Nat} (h : RcHas B w r p X col) : RcAt w r p :=
 ⟨h.s.slots h.gd.s, h.s.len.1, h.d.slots h.gd.d, h.d.len.1, msgs_at h.h h.hm h.hi h.gd.h, h.h.len.1, h.t.strs h.gd.t, h.t.len.1, h.y.ints h.gd.y, h.y.len.1, h.b.slots h.gd.b, h.b.len.1, acks_at h.a h.am h.ai h.gd.a, h.a.len.1⟩
end Go.Proofs.Ytjdceoimignnpaa
