import Derived.Test.YtjdceoimignnpaaF03
import Derived.Test.YtjdceoimignnpaaF04
import Derived.Test.YtjdceoimignnpaaF05
import Derived.Laws.BytesArg
import Derived.Laws.AppendOwnNone
namespace Go.Proofs.Ytjdceoimignnpaa
open Go.ChangeShapes Go.WideShapes Go.ChangeAt Go.RowKit Go.Deep Go.Joins
set_option linter.unusedVariables false
set_option linter.unusedSimpArgs false
set_option maxHeartbeats 8000000
set_option maxRecDepth 20000
variable {l : List Sl} {xs : List Value} {B c g k n t : Nat} {o : Oper} {a : Option Addr} {r : Rc} {p : fU} {e : TypeId} {w w' : World}
def gU (r : Rc) : Bool := if r.lead then uB r else if r.tr then zD r else rH r
def bf (r : Rc) : Bool := (inB r.of_ 1 5 && inB r.num 1 r.of_) && bW r.sp r.sk r.ss && bW r.dp r.dk r.ds && fO r.num r.of_ r.held && dF r.wish && inB r.heard 0 1000000 && dh r.of_ r.yes && bM r.best && dZ r.of_ r.acks && (!(r.lead && r.tr)) && gU r && (r.up || lJ r)
theorem Ht (h : (inB r.of_ 1 5 && inB r.num 1 r.of_) = false) : bf r = false := by
 unfold bf;rw [h];simp only [Bool.false_and, Bool.and_false]
theorem JJ (h : bW r.sp r.sk r.ss = false) : bf r = false := by
 unfold bf;rw [h];simp only [Bool.false_and, Bool.and_false]
theorem GK (h : bW r.dp r.dk r.ds = false) : bf r = false := by
 unfold bf;rw [h];simp only [Bool.false_and, Bool.and_false]
theorem Dw (h : fO r.num r.of_ r.held = false) : bf r = false := by
 unfold bf;rw [h];simp only [Bool.false_and, Bool.and_false]
theorem JB (h : dF r.wish = false) : bf r = false := by
 unfold bf;rw [h];simp only [Bool.false_and, Bool.and_false]
theorem JO (h : inB r.heard 0 1000000 = false) : bf r = false := by
 unfold bf;rw [h];simp only [Bool.false_and, Bool.and_false]
theorem JI (h : dh r.of_ r.yes = false) : bf r = false := by
 unfold bf;rw [h];simp only [Bool.false_and, Bool.and_false]
theorem Jy (h : bM r.best = false) : bf r = false := by
 unfold bf;rw [h];simp only [Bool.false_and, Bool.and_false]
theorem JH (h : dZ r.of_ r.acks = false) : bf r = false := by
 unfold bf;rw [h];simp only [Bool.false_and, Bool.and_false]
theorem JP (h : (!(r.lead && r.tr)) = false) : bf r = false := by
 unfold bf;rw [h];simp only [Bool.false_and, Bool.and_false]
theorem qM (h : gU r = false) : bf r = false := by
 unfold bf;rw [h];simp only [Bool.false_and, Bool.and_false]
theorem kP (hg0 : (inB r.of_ 1 5 && inB r.num 1 r.of_) = true) (hg1 : bW r.sp r.sk r.ss = true) (hg2 : bW r.dp r.dk r.ds = true) (hg3 : fO r.num r.of_ r.held = true) (hg4 : dF r.wish = true) (hg5 : inB r.heard 0 1000000 = true) (hg6 : dh r.of_ r.yes = true) (hg7 : bM r.best = true) (hg8 : dZ r.of_ r.acks = true) (hg9 : (!(r.lead && r.tr)) = true) (hg10 : gU r = true) : bf r = (r.up || lJ r) := by
 unfold bf;rw [hg0, hg1, hg2, hg3, hg4, hg5, hg6, hg7, hg8, hg9, hg10];simp only [Bool.true_and]
theorem jY (h : w' = w) : Below w.heap.size w w' := h ▸ Below.refl _ _
theorem jh {ops : Array Oper} {rest : List Oper} {dst : Option Tmp} {x : Operand} {τ : TypeId} {pos : String} {after : Array Edge} {gd : Option (Nat × Bool)} {a : Act} {w : World} {Q : Exit → Act → World → Prop}
  (g : Nat) (cs : Array Value) (hs : cs.size = 18) (hw : Region.wanted { dst := dst, op := .load 31 x, type := τ, pos := pos, after := after, guard := gd } (yielded ops a.tmps) = true) (hx : a.eval x = .pointer (some ⟨g, 0, none⟩)) (hg : aC w g cs 31)
  (h : wpList Try.prog ops Q rest (a.put dst (.agg cs)) w) :
  wpList Try.prog ops Q ({ dst := dst, op := .load 31 x, type := τ, pos := pos, after := after, guard := gd } :: rest) a w :=
 wpList_step fun K hK => by
  rw [if_pos hw];exact wp_load_row 31 x rfl g hx 31 cs (0, 0) _ hg Try.underlying31 rfl (by rw [hs]; kernel_rfl) (hK _ _ h)
theorem nX (a b c : Int) (w : World) : Calls Try.prog 46 #[.int .i64 a, .int .i64 b, .int .i64 c] w fun e w' => e = .returned (.bool (inB a b c)) ∧ Below w.heap.size w w' :=
 (cZ a b c w).mono fun e w' ⟨h1, h2⟩ => ⟨h1, jY h2⟩
theorem iH (n o : Int) (w : World) : Calls Try.prog 43 #[.int .i64 n, .int .i64 o] w fun e w' => e = .returned (.bool (inB o 1 5 && inB n 1 o)) ∧ Below w.heap.size w w' :=
 (atNil.wU n o w).mono fun e w' ⟨h1, h2⟩ => ⟨h1, jY h2⟩
theorem jg (a : Option Addr) (l : List Int) (n cap : Nat) (of_ : Int) (w : World) (hn : l.length = n) (hc : n ≤ maxLen) (hof : of_ ≤ 1000000) (h : pG w a l) :
  Calls Try.prog 47 #[.slice a n cap, .int .i64 of_] w fun e w' => e = .returned (.bool (dh of_ l)) ∧ Below w.heap.size w w' :=
 (qy a l n cap of_ w hn hc hof h).mono fun e w' ⟨h1, h2⟩ => ⟨h1, jY h2⟩
def nth : List Oper → Nat → Option Oper
 | [], _ => none
 | a :: _, 0 => some a
 | _ :: l, n + 1 => nth l n
theorem Gs : ∀ (l : List Oper) (i : Nat), nth l i = l[i]?
 | [], _ => by simp [nth]
 | a :: l, 0 => by simp [nth]
 | a :: l, n + 1 => by simp [nth, Gs l n]
theorem ax {l : List Oper} {i : Nat} (h : nth l i = some o) : l.toArray[i]? = some o := by rw [List.getElem?_toArray, ← Gs, h]
structure mG (B : World) (g : Nat) (r : Rc) (p : fU) (w' : World) : Prop where
 blk : aC w' g (au r p) 31
 bel : Below B.heap.size B w'
theorem mG.ext {B : World} {v' : World} (h : mG B g r p w') (hb : Below w'.heap.size w' v') : mG B g r p v' := ⟨h.blk.ext hb, aj h.bel hb⟩
theorem mG.drew {B : World} (h : mG B g r p w') : mG B g r p w'.drew := ⟨h.blk, h.bel.drew⟩
theorem fC {ops : Array Oper} {a : Act} {B : World} (hw : Region.wanted o (yielded ops a.tmps) = true) (x : Operand) (ho : o.op = .load 31 x) (hx : a.eval x = .pointer (some ⟨g, 0, none⟩)) :
  YieldsIf Try.prog ops (mG B g r p) o (.agg (au r p)) a :=
 .inl ⟨hw, fun w hS => by
  unfold execOp
  simp only [ho, hx, Instr.loadAt, Instr.sureAddr, Sem.run_bind, Sem.run_pure, Result.andThen_ok, run_loadVar_row w g 31 31 (au r p) (0, 0) _ hS.blk Try.underlying31 rfl (by kernel_rfl)]⟩


def kA (N : Nat → Nat) (k : Nat) : Nat → Nat
 | 0 => k
 | n + 1 => kA N k n + 1 + N n
def kM (N : Nat → Nat) (k : Nat) : Nat → Nat
 | 0 => k
 | n + 1 => kM N k n + 7 + 2 * N n


theorem cO.news {b off : Nat} (h : cO w (some ⟨b, off, none⟩) l) : ∀ j u, (flat l)[j]? = some u → w.cell? ((⟨b, off, none⟩ : Addr).add j) = some u := fun j u hu => by
 have hj := (List.getElem?_eq_some_iff.1 hu).1;rw [qm] at hj;have hi : j / 2 < l.length := by omega
 have hs : l[j / 2]? = some l[j / 2] := List.getElem?_eq_getElem hi;obtain ⟨b', off', e, hb, c0, c1, _⟩ := h _ _ hs;simp only [Option.some.injEq, Addr.mk.injEq, and_true] at e;obtain ⟨rfl, rfl⟩ := e;have hf := iY l _ _ hs;rw [Addr.add_mid];by_cases hp : j % 2 = 0
 ·have e : j = j / 2 * 2 := by omega
  rw [e] at hu ⊢;rw [← hu, c0, hf.1]
 have e : j = j / 2 * 2 + 1 := by omega
 rw [e] at hu ⊢;rw [← hu, hf.2, ← c1, Nat.add_assoc]
theorem mV (a : Option Addr) (l : List Sl) (n cap : Nat) (w : World) (hn : l.length = n) (hc : n ≤ 1048576) (ha : a = none → cap = 0) (hsp : ∀ x, a = some x → x.spot = none) (h : cO w a l) :
  Calls Try.prog 56 #[.slice a n cap] w fun e w' => ∃ g' cap', e = .returned (.slice (some ⟨g', 0, none⟩) n cap') ∧ w.heap.size ≤ g' ∧ w'.ownsRow w.heap.size 43 2 (.slice (some ⟨g', 0, none⟩) n cap') n (flat l) ∧ Below w.heap.size w w' := by
 have HL : Hid (l.length = n) := hn;have HO := hid (Il w 43 2);clear hn;cases a with
 | some x =>
  obtain ⟨b, off, sp⟩ := x;have e9 := hsp _ rfl;dsimp only at e9;subst e9;have HN := hid (show ∀ j u, (flat l)[j]? = some u → (w.alloc (.cells #[] 43)).cell? ((⟨b, off, none⟩ : Addr).add j) = some u from (h.ext (ae (Below.refl _ _) _)).news);clear h;go_enter Try.func56, Try.ntmps56;go_wp2_with ((with_reducible refine lK w.heap.size (.slice (some ⟨w.heap.size, 0, none⟩) 0 0) [] l 0 n cap ⟨b, off, none⟩ ?_ ?_ ?_ ?_ ?_ ?_ ?_ ?_); rfl; rfl; exact HO.out; exact HL.out; exact HN.out; (· omega); (· simp); intro v' w' q1 q2 q3; have Q1 := hid q1; have Q2 := hid q2; have Q3 := hid q3; clear q1 q2 q3);go_ret;obtain ⟨g', cap', rfl, hb, _⟩ := Ai Q1.out (fun e => by have := (Q3.out.1 e).1; simp at this);exact ⟨g', cap', by simp, hb, by simpa using Q1.out, jS (ae (Below.refl _ _) _) Q2.out (fun j hj => by simp [Value.ownBlock] at hj; omega)⟩
 | none =>
  have hl : l = [] := by
   cases l with
   | nil => rfl
   | cons s t => obtain ⟨b, off, e, _⟩ := h 0 s rfl; simp at e
  subst hl;have hn0 : n = 0 := HL.out.symm;subst hn0;have e9 := ha rfl;subst e9;go_enter Try.func56, Try.ntmps56;go_wp2_with fail;go_ret;exact ⟨w.heap.size, 0, rfl, Nat.le_refl _, HO.out, ae (Below.refl _ _) _⟩
theorem y7 : ∃ i, Try.prog.info? 3 = some i ∧ i.zero = some (.int .i64 0) ∧ i.size = 1 ∧ i.bytes = 8 := info_parts (by kernel_rfl)
theorem sV {ops : Array Oper} {rest : List Oper} {dst : Option Tmp} {s x : Operand} {τ : TypeId} {pos : String} {after : Array Edge} {a : Act} {w : World} {Q : Exit → Act → World → Prop}
  (B : Nat) (v : Value) (xs news : List Value) (n m c : Nat) (ad : Addr) (hs : a.eval s = v) (hx : a.eval x = .slice (some ad) m c) (hown : w.ownsRow B 3 1 v n xs) (hl : news.length = m * 1)
  (hnews : ∀ j u, news[j]? = some u → w.cell? (ad.add j) = some u) (h1 : ∀ u ∈ news, u.oneCell' = true) (hN : n + m ≤ 4194304) (hB : B ≤ w.heap.size)
  (h : ∀ v' w', w'.ownsRow B 3 1 v' (n + m) (xs ++ news) → w.grownBy w' v.ownBlock → (v' = .slice none 0 0 ↔ v = .slice none 0 0 ∧ m = 0) → wpList Try.prog ops Q rest (a.put dst v') w') :
  wpList Try.prog ops Q ({ dst := dst, op := .call { callee := .builtin .append, args := #[s, x], argTypes := #[28, 28] }, type := τ, pos := pos, after := after, guard := none } :: rest) a w := by
 obtain ⟨i, q1, q2, q3, q4⟩ := y7;exact wpList_append_own_wide w rfl s x 28 rfl B 3 i (.int .i64 0) 1 8 Try.underlying28 q1 q2 q3 q4 rfl (by omega) v n xs hs hown ad m c news hx hl hnews h1 (by unfold maxLen; omega) (by omega) hB h
theorem yR : ∃ i, Try.prog.info? 9 = some i ∧ i.zero = some (.string ⟨#[]⟩) ∧ i.size = 1 ∧ i.bytes = 16 := info_parts (by kernel_rfl)
theorem sN {ops : Array Oper} {rest : List Oper} {dst : Option Tmp} {s x : Operand} {τ : TypeId} {pos : String} {after : Array Edge} {a : Act} {w : World} {Q : Exit → Act → World → Prop}
  (B : Nat) (v : Value) (xs news : List Value) (n m c : Nat) (ad : Addr) (hs : a.eval s = v) (hx : a.eval x = .slice (some ad) m c) (hown : w.ownsRow B 9 1 v n xs) (hl : news.length = m * 1)
  (hnews : ∀ j u, news[j]? = some u → w.cell? (ad.add j) = some u) (h1 : ∀ u ∈ news, u.oneCell' = true) (hN : n + m ≤ 4194304) (hB : B ≤ w.heap.size)
  (h : ∀ v' w', w'.ownsRow B 9 1 v' (n + m) (xs ++ news) → w.grownBy w' v.ownBlock → (v' = .slice none 0 0 ↔ v = .slice none 0 0 ∧ m = 0) → wpList Try.prog ops Q rest (a.put dst v') w') :
  wpList Try.prog ops Q ({ dst := dst, op := .call { callee := .builtin .append, args := #[s, x], argTypes := #[27, 27] }, type := τ, pos := pos, after := after, guard := none } :: rest) a w := by
 obtain ⟨i, q1, q2, q3, q4⟩ := yR;exact wpList_append_own_wide w rfl s x 27 rfl B 9 i (.string ⟨#[]⟩) 1 16 Try.underlying27 q1 q2 q3 q4 rfl (by omega) v n xs hs hown ad m c news hx hl hnews h1 (by unfold maxLen; omega) (by omega) hB h
theorem uU : ∃ i, Try.prog.info? 49 = some i ∧ i.zero = some (.agg #[.int .i64 0, .int .i64 0, .int .i64 0, .int .i64 0, .int .i64 0, .int .i64 0, .string ⟨#[]⟩, .slice none 0 0]) ∧ i.size = 8 ∧ i.bytes = 88 := info_parts (by kernel_rfl)
theorem sO {ops : Array Oper} {rest : List Oper} {dst : Option Tmp} {s x : Operand} {τ : TypeId} {pos : String} {after : Array Edge} {a : Act} {w : World} {Q : Exit → Act → World → Prop}
  (B : Nat) (v : Value) (xs news : List Value) (n m c : Nat) (ad : Addr) (hs : a.eval s = v) (hx : a.eval x = .slice (some ad) m c) (hown : w.ownsRow B 49 8 v n xs) (hl : news.length = m * 8)
  (hnews : ∀ j u, news[j]? = some u → w.cell? (ad.add j) = some u) (h1 : ∀ u ∈ news, u.oneCell' = true) (hN : n + m ≤ 4194304) (hB : B ≤ w.heap.size)
  (h : ∀ v' w', w'.ownsRow B 49 8 v' (n + m) (xs ++ news) → w.grownBy w' v.ownBlock → (v' = .slice none 0 0 ↔ v = .slice none 0 0 ∧ m = 0) → wpList Try.prog ops Q rest (a.put dst v') w') :
  wpList Try.prog ops Q ({ dst := dst, op := .call { callee := .builtin .append, args := #[s, x], argTypes := #[26, 26] }, type := τ, pos := pos, after := after, guard := none } :: rest) a w := by
 obtain ⟨i, q1, q2, q3, q4⟩ := uU;exact wpList_append_own_wide w rfl s x 26 rfl B 49 i (.agg #[.int .i64 0, .int .i64 0, .int .i64 0, .int .i64 0, .int .i64 0, .int .i64 0, .string ⟨#[]⟩, .slice none 0 0]) 8 88 Try.underlying26 q1 q2 q3 q4 rfl (by omega) v n xs hs hown ad m c news hx hl hnews h1 (by unfold maxLen; omega) (by omega) hB h
theorem yD : ∃ i, Try.prog.info? 69 = some i ∧ i.zero = some (.agg #[.int .i64 0, .slice none 0 0]) ∧ i.size = 2 ∧ i.bytes = 32 := info_parts (by kernel_rfl)
theorem rV {ops : Array Oper} {rest : List Oper} {dst : Option Tmp} {s x : Operand} {τ : TypeId} {pos : String} {after : Array Edge} {a : Act} {w : World} {Q : Exit → Act → World → Prop}
  (B : Nat) (v : Value) (xs news : List Value) (n m c : Nat) (ad : Addr) (hs : a.eval s = v) (hx : a.eval x = .slice (some ad) m c) (hown : w.ownsRow B 69 2 v n xs) (hl : news.length = m * 2)
  (hnews : ∀ j u, news[j]? = some u → w.cell? (ad.add j) = some u) (h1 : ∀ u ∈ news, u.oneCell' = true) (hN : n + m ≤ 4194304) (hB : B ≤ w.heap.size)
  (h : ∀ v' w', w'.ownsRow B 69 2 v' (n + m) (xs ++ news) → w.grownBy w' v.ownBlock → (v' = .slice none 0 0 ↔ v = .slice none 0 0 ∧ m = 0) → wpList Try.prog ops Q rest (a.put dst v') w') :
  wpList Try.prog ops Q ({ dst := dst, op := .call { callee := .builtin .append, args := #[s, x], argTypes := #[29, 29] }, type := τ, pos := pos, after := after, guard := none } :: rest) a w := by
 obtain ⟨i, q1, q2, q3, q4⟩ := yD;exact wpList_append_own_wide w rfl s x 29 rfl B 69 i (.agg #[.int .i64 0, .slice none 0 0]) 2 32 Try.underlying29 q1 q2 q3 q4 rfl (by omega) v n xs hs hown ad m c news hx hl hnews h1 (by unfold maxLen; omega) (by omega) hB h
abbrev Mp := Ms × Option Addr × Nat
abbrev Ap := Ak × Option Addr × Nat
def fP (m : Mp) : List Value := (bU m.1.1 (.slice m.2.1 m.1.2.length m.2.2)).toList
def cellsA (m : Ap) : List Value := [.int .i64 m.1.1, .slice m.2.1 m.1.2.length m.2.2]
def bZ (l : List Mp) : List Value := l.flatMap fP
def bi (l : List Ap) : List Value := l.flatMap cellsA
def aV (l : List Int) : List Value := l.map (fun z => Value.int .i64 z)
def fH (l : List ByteArray) : List Value := l.map (fun z => Value.string z)
theorem ql {α : Type} {f : α → List Value} {k : Nat} (hf : ∀ a, (f a).length = k) : ∀ (l : List α), (l.flatMap f).length = l.length * k
 | [] => by simp
 | a :: l => by simp only [List.flatMap_cons, List.length_append, hf, ql hf l, List.length_cons]; rw [Nat.add_mul]; omega
theorem rX {α : Type} {f : α → List Value} {k : Nat} (hf : ∀ a, (f a).length = k) : ∀ (l : List α) (i t : Nat) (a : α), l[i]? = some a → t < k → (l.flatMap f)[i * k + t]? = (f a)[t]?
 | [], i, t, a, h, _ => by simp at h
 | b :: l, 0, t, a, h, ht => by
  simp only [List.getElem?_cons_zero, Option.some.injEq] at h;subst h;rw [List.flatMap_cons, Nat.zero_mul, Nat.zero_add, List.getElem?_append_left (by rw [hf]; exact ht)]
 | b :: l, i + 1, t, a, h, ht => by
  simp only [List.getElem?_cons_succ] at h;rw [List.flatMap_cons, List.getElem?_append_right (by rw [hf, Nat.add_mul]; omega), hf, ← rX hf l i t a h ht];congr 1;rw [Nat.add_mul]; omega
theorem rQ (m : Mp) : (fP m).length = 8 := rfl
theorem sS (m : Ap) : (cellsA m).length = 2 := rfl
theorem qR (l : List Mp) : (bZ l).length = l.length * 8 := ql rQ l
theorem mr (l : List Ap) : (bi l).length = l.length * 2 := ql sS l
theorem tK (l : List Mp) (i t : Nat) (m : Mp) (h : l[i]? = some m) (ht : t < 8) : (bZ l)[i * 8 + t]? = (fP m)[t]? := rX rQ l i t m h ht
theorem Gy (l : List Ap) (i t : Nat) (m : Ap) (h : l[i]? = some m) (ht : t < 2) : (bi l)[i * 2 + t]? = (cellsA m)[t]? := rX sS l i t m h ht
theorem mD (l : List Mp) : ∀ u ∈ bZ l, u.oneCell' = true := fun u hu => by
 simp only [bZ, List.mem_flatMap] at hu;obtain ⟨m, _, hm⟩ := hu;simp only [fP, List.mem_cons, List.not_mem_nil, or_false] at hm;rcases hm with rfl | rfl | rfl | rfl | rfl | rfl | rfl | rfl <;> rfl
theorem eG (l : List Ap) : ∀ u ∈ bi l, u.oneCell' = true := fun u hu => by
 simp only [bi, List.mem_flatMap] at hu;obtain ⟨m, _, hm⟩ := hu;simp only [cellsA, List.mem_cons, List.not_mem_nil, or_false] at hm;rcases hm with rfl | rfl <;> rfl
theorem dK (l : List Int) : ∀ u ∈ aV l, u.oneCell' = true := fun u hu => by
 simp only [aV, List.mem_map] at hu;obtain ⟨z, _, rfl⟩ := hu;rfl
theorem yQ (l : List ByteArray) : ∀ u ∈ fH l, u.oneCell' = true := fun u hu => by
 simp only [fH, List.mem_map] at hu;obtain ⟨z, _, rfl⟩ := hu;rfl
structure aO (B : Nat) (w : World) (col : Nat → Nat) (t : Nat) (e : TypeId) (k : Nat) (a : Option Addr) (n c : Nat) (xs : List Value) : Prop where
 own : w.ownsRow B e k (.slice a n c) n xs
 col : ∀ x, a = some x → col x.block = t
theorem aO.form {col : Nat → Nat} (h : aO B w col t e k a n c xs) :
  (a = none ∧ n = 0 ∧ c = 0 ∧ xs = []) ∨ ∃ g cur, a = some ⟨g, 0, none⟩ ∧ B ≤ g ∧ aC w g cur e ∧ n ≤ c ∧ c ≤ maxLen ∧ cur.size = c * k ∧ cur.toList.take (n * k) = xs ∧ col g = t := by
 rcases h.own.2 with ⟨h1, h2⟩ | ⟨g, cap, cur, hv, hB, hg, hn, hm, hz, hx⟩
 ·simp only [Value.slice.injEq] at h1;obtain ⟨rfl, rfl, rfl⟩ := h1;refine .inl ⟨rfl, rfl, rfl, ?_⟩;have := h.own.1;simp only [Nat.zero_mul, List.length_eq_zero_iff] at this;exact this
 simp only [Value.slice.injEq] at hv;obtain ⟨rfl, _, rfl⟩ := hv;exact .inr ⟨g, cur, rfl, hB, hg, hn, hm, hz, hx, h.col _ rfl⟩
theorem aO.lt {col : Nat → Nat} (h : aO B w col t e k a n c xs) : ∀ x, a = some x → B ≤ x.block ∧ x.block < w.heap.size := fun x hx => by
 rcases h.form with ⟨rfl, _⟩ | ⟨g, cur, rfl, hB, hg, _⟩
 ·simp at hx
 simp only [Option.some.injEq] at hx;subst hx;exact ⟨hB, hg.lt⟩
theorem aO.cell {col : Nat → Nat} (h : aO B w col t e k a n c xs) {j : Nat} {u : Value} (hu : xs[j]? = some u) :
  ∃ g, a = some ⟨g, 0, none⟩ ∧ g < w.heap.size ∧ w.cell? ⟨g, j, none⟩ = some u ∧ w.frozen? ⟨g, j, none⟩ = false := by
 rcases h.form with ⟨_, _, _, rfl⟩ | ⟨g, cur, rfl, hB, hg, h1, h2, h3, h4, _⟩
 ·simp at hu
 refine ⟨g, rfl, hg.lt, ?_, hg.free j⟩;rw [hg.cell j];rw [← h4, List.getElem?_take] at hu;split at hu
 ·rw [← Array.getElem?_toList]; exact hu
 simp at hu
theorem aO.len {col : Nat → Nat} (h : aO B w col t e k a n c xs) : n ≤ maxLen ∧ n ≤ c := by
 rcases h.form with ⟨_, rfl, rfl, _⟩ | ⟨g, cur, _, _, _, h1, h2, _⟩
 ·exact ⟨Nat.zero_le _, Nat.le_refl _⟩
 exact ⟨Nat.le_trans h1 h2, h1⟩
theorem aO.plain {col : Nat → Nat} (h : aO B w col t e k a n c xs) : (a = none → c = 0) ∧ ∀ x, a = some x → x.spot = none := by
 rcases h.form with ⟨rfl, _, rfl, _⟩ | ⟨g, cur, rfl, _⟩
 ·exact ⟨fun _ => rfl, fun x hx => by simp at hx⟩
 refine ⟨fun hx => by simp at hx, fun x hx => ?_⟩;simp only [Option.some.injEq] at hx;rw [← hx]
theorem aO.same {col : Nat → Nat} (h : aO B w col t e k a n c xs) (hs : ∀ x, a = some x → w'.heap[x.block]? = w.heap[x.block]?) : aO B w' col t e k a n c xs := by
 refine ⟨⟨h.own.1, ?_⟩, h.col⟩;rcases h.own.2 with h0 | ⟨g, cap, cur, hv, hB, hg, r⟩
 ·exact .inl h0
 refine .inr ⟨g, cap, cur, hv, hB, ?_, r⟩;simp only [Value.slice.injEq] at hv;exact (hs _ hv.1).trans hg
theorem aO.ext {col : Nat → Nat} (h : aO B w col t e k a n c xs) (hb : Below w.heap.size w w') : aO B w' col t e k a n c xs :=
 h.same fun x hx => hb.block _ (h.lt x hx).2
theorem aO.jW {col col' : Nat → Nat} (h : aO B w col t e k a n c xs) (hc : ∀ b, b < w.heap.size → col' b = col b) : aO B w col' t e k a n c xs :=
 ⟨h.own, fun x hx => (hc _ (h.lt x hx).2).trans (h.col x hx)⟩
theorem aO.low {B' : Nat} {col : Nat → Nat} (h : aO B w col t e k a n c xs) (hB : B' ≤ B) : aO B' w col t e k a n c xs :=
 ⟨⟨h.own.1, by
  rcases h.own.2 with h0 | ⟨g, cap, cur, hv, hb, r⟩
  ·exact .inl h0
  exact .inr ⟨g, cap, cur, hv, Nat.le_trans hB hb, r⟩⟩, h.col⟩
theorem aO.slots {col : Nat → Nat} (h : aO B w col t 43 2 a n c (flat l)) (hg : dE l) : cO w a l := fun i s hs => by
 have hf := iY l i s hs;obtain ⟨g, e1, h1, c0, _⟩ := h.cell hf.1;obtain ⟨g', e2, _, c1, _⟩ := h.cell hf.2;rw [e1] at e2;simp only [Option.some.injEq, Addr.mk.injEq, and_true] at e2;subst e2;exact ⟨g, 0, e1, h1, by rw [Nat.zero_add]; exact c0, by rw [Nat.zero_add]; exact c1, (hg i s hs).1, (hg i s hs).2⟩
theorem aO.ints {col : Nat → Nat} {l : List Int} (h : aO B w col t 3 1 a n c (aV l)) (hg : fJ ny l) : pG w a l := fun i s hs => by
 obtain ⟨g, e1, h1, c0, _⟩ := h.cell (j := i) (u := .int .i64 s) (by simp [aV, hs]);exact ⟨g, 0, e1, h1, by rw [Nat.zero_add]; exact c0, hg i s hs⟩
theorem aO.strs {col : Nat → Nat} {l : List ByteArray} (h : aO B w col t 9 1 a n c (fH l)) (hg : fJ okS l) : kX w a l := fun i s hs => by
 obtain ⟨g, e1, h1, c0, _⟩ := h.cell (j := i) (u := .string s) (by simp [fH, hs]);exact ⟨g, 0, e1, h1, by rw [Nat.zero_add]; exact c0, hg i s hs⟩
end Go.Proofs.Ytjdceoimignnpaa
