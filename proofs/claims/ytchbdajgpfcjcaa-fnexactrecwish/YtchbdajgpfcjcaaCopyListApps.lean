import Derived.Test.YtchbdajgpfcjcaaHasHasRec
import Derived.Test.YtchbdajgpfcjcaaSpecCopySpecMsgs
/-
  impl.copyList at its five types; rows with both bounds.
-/
namespace Go.Proofs.Ytchbdajgpfcjcaa
open Go.ChangeShapes Go.WideShapes Go.ChangeAt Go.RowKit
set_option linter.unusedVariables false
set_option linter.unusedSimpArgs false

/-- n elements of k cells each are read behind a slice -/
structure ReadAt (w : World) (a : Option Addr) (n c k : Nat) (xs : List Value) : Prop where
  len : xs.length = n * k
  nil : a = none → n = 0 ∧ c = 0
  cells : ∀ x, a = some x → x.spot = none ∧ ∀ j u, xs[j]? = some u → w.cell? (x.add j) = some u
theorem RowC.read {B : Nat} {w : World} {col : Nat → Nat} {t : Nat} {e : TypeId} {k : Nat} {a : Option Addr} {n c : Nat} {xs : List Value} (h : RowC B w col t e k a n c xs) : ReadAt w a n c k xs := by
  refine ⟨h.own.1, fun ha => ?_, fun x hx => ⟨h.plain.2 x hx, fun j u hu => ?_⟩⟩
  · rcases h.form with ⟨_, h1, h2, _⟩ | ⟨g, cur, h1, _⟩
    · exact ⟨h1, h2⟩
    · rw [ha] at h1; simp at h1
  · obtain ⟨g, h1, _, h2, _⟩ := h.cell hu
    rw [hx] at h1
    simp only [Option.some.injEq] at h1
    rw [h1, Addr.add_mid, Nat.zero_add]
    exact h2
theorem ReadAt.ext {w w' : World} {a : Option Addr} {n c k : Nat} {xs : List Value} (h : ReadAt w a n c k xs) (hb : Below w.heap.size w w') : ReadAt w' a n c k xs :=
  ⟨h.len, h.nil, fun x hx => ⟨(h.cells x hx).1, fun j u hu => by
    have h0 := (h.cells x hx).2 j u hu
    exact (hb.cell (World.block_lt_of_cell? w _ h0)).trans h0⟩⟩
/-- a row in a block of lo .. hi - 1 -/
structure RowZ (lo hi : Nat) (w : World) (e : TypeId) (k : Nat) (a : Option Addr) (n c : Nat) (xs : List Value) : Prop where
  own : w.ownsRow lo e k (.slice a n c) n xs
  hi : ∀ x, a = some x → x.block < hi
theorem RowZ.lo {lo hi : Nat} {w : World} {e : TypeId} {k : Nat} {a : Option Addr} {n c : Nat} {xs : List Value} (h : RowZ lo hi w e k a n c xs) : ∀ x, a = some x → lo ≤ x.block ∧ x.block < w.heap.size := fun x hx => by
  have := h.own.lt x.block (by rw [hx]; rfl)
  exact this
theorem RowZ.mk' {lo : Nat} {w : World} {e : TypeId} {k : Nat} {a : Option Addr} {n c : Nat} {xs : List Value} (h : w.ownsRow lo e k (.slice a n c) n xs) : RowZ lo w.heap.size w e k a n c xs :=
  ⟨h, fun x hx => (h.lt x.block (by rw [hx]; rfl)).2⟩
theorem RowZ.same {lo hi : Nat} {w w' : World} {e : TypeId} {k : Nat} {a : Option Addr} {n c : Nat} {xs : List Value} (h : RowZ lo hi w e k a n c xs) (hs : ∀ b, lo ≤ b → b < hi → b < w.heap.size → w'.heap[b]? = w.heap[b]?) : RowZ lo hi w' e k a n c xs := by
  refine ⟨⟨h.own.1, ?_⟩, h.hi⟩
  rcases h.own.2 with h0 | ⟨g, cap, cur, hv, hB, hg, r⟩
  · exact .inl h0
  · refine .inr ⟨g, cap, cur, hv, hB, ?_, r⟩
    simp only [Value.slice.injEq] at hv
    exact (hs g hB (h.hi _ hv.1) (Array.getElem?_eq_some_iff.1 hg).1).trans hg
theorem RowZ.ext {lo hi : Nat} {w w' : World} {e : TypeId} {k : Nat} {a : Option Addr} {n c : Nat} {xs : List Value} (h : RowZ lo hi w e k a n c xs) (hb : Below w.heap.size w w') : RowZ lo hi w' e k a n c xs :=
  h.same fun b _ _ hlt => hb.block b hlt
theorem RowZ.below {lo hi B : Nat} {w w' : World} {e : TypeId} {k : Nat} {a : Option Addr} {n c : Nat} {xs : List Value} (h : RowZ lo hi w e k a n c xs) (hb : Below B w w') (hB : hi ≤ B) : RowZ lo hi w' e k a n c xs :=
  h.same fun b _ hlt _ => hb.block b (by omega)
theorem RowZ.set {lo hi : Nat} {w : World} {e : TypeId} {k : Nat} {a : Option Addr} {n c : Nat} {xs : List Value} (h : RowZ lo hi w e k a n c xs) {q : Addr} (hq : q.block < lo) (v : Value) : RowZ lo hi (w.setCell q v) e k a n c xs :=
  h.same fun b h1 _ _ => heap_setCell_other w q b v (by omega)
theorem RowZ.row {lo hi : Nat} {B : Nat} {w : World} {col : Nat → Nat} {t : Nat} {e : TypeId} {k : Nat} {a : Option Addr} {n c : Nat} {xs : List Value} (h : RowZ lo hi w e k a n c xs) (hB : B ≤ lo) (hc : ∀ b, lo ≤ b → b < hi → col b = t) : RowC B w col t e k a n c xs :=
  (RowC.mk (B := lo) h.own (fun x hx => hc _ (h.lo x hx).1 (h.hi x hx))).low hB
theorem own_slice {w : World} {B n k : Nat} {e : TypeId} {v : Value} {xs : List Value} (h : w.ownsRow B e k v n xs) : ∃ a c, v = .slice a n c := by
  rcases h.2 with ⟨rfl, rfl⟩ | ⟨g, cap, _, rfl, _⟩
  · exact ⟨_, _, rfl⟩
  · exact ⟨_, _, rfl⟩

theorem wpList_append_sl {ops : Array Oper} {rest : List Oper} {dst : Option Tmp} {s x : Operand} {τ : TypeId} {pos : String} {after : Array Edge} {a : Act} {w : World} {Q : Exit → Act → World → Prop}
    (B : Nat) (v : Value) (xs news : List Value) (n m c : Nat) (ad : Addr) (hs : a.eval s = v) (hx : a.eval x = .slice (some ad) m c) (hown : w.ownsRow B 74 2 v n xs) (hl : news.length = m * 2)
    (hnews : ∀ j u, news[j]? = some u → w.cell? (ad.add j) = some u) (h1 : ∀ u ∈ news, u.oneCell' = true) (hN : n + m ≤ 4194304) (hB : B ≤ w.heap.size)
    (h : ∀ v' w', w'.ownsRow B 74 2 v' (n + m) (xs ++ news) → w.grownBy w' v.ownBlock → (v' = .slice none 0 0 ↔ v = .slice none 0 0 ∧ m = 0) → wpList Try.prog ops Q rest (a.put dst v') w') :
    wpList Try.prog ops Q ({ dst := dst, op := .call { callee := .builtin .append, args := #[s, x], argTypes := #[27, 27] }, type := τ, pos := pos, after := after, guard := none } :: rest) a w := by
  obtain ⟨i, q1, q2, q3, q4⟩ := slotInfo
  exact wpList_append_own_wide w rfl s x 27 rfl B 74 i (.agg #[.int .i64 0, .string ⟨#[]⟩]) 2 24 Try.underlying27 q1 q2 q3 q4 rfl (by omega) v n xs hs hown ad m c news hx hl hnews h1 (by unfold maxLen; omega) (by omega) hB h

set_option maxHeartbeats 2000000 in
theorem copyS (a : Option Addr) (n c : Nat) (xs : List Value) (w : World) (h : ReadAt w a n c 2 xs) (hc : n ≤ 1048576) (h1 : ∀ u ∈ xs, u.oneCell' = true) :
    Calls Try.prog 102 #[.slice a n c] w fun e w' => ∃ a' c', e = .returned (.slice a' n c') ∧ RowZ w.heap.size w'.heap.size w' 74 2 a' n c' xs ∧ Below w.heap.size w w' := by
  have HL := hid h.len
  have H1 := hid h1
  cases a with
  | some x =>
    have HC := hid (h.cells x rfl).2
    have HO := hid (World.ownsRow_nil w w.heap.size 74 2)
    clear h h1
    go_enter Try.func102, Try.ntmps102
    go_wp2_with ((with_reducible refine wpList_append_sl w.heap.size (.slice none 0 0) [] xs 0 n c x ?_ ?_ ?_ ?_ ?_ ?_ ?_ ?_ ?_); (· rfl); (· rfl); (· exact HO.out); (· exact HL.out); (· exact HC.out); (· exact H1.out); (· omega); (· exact Nat.le_refl _); intro v' w' q1 q2 q3; have Q1 := hid q1; have Q2 := hid q2; clear q1 q2 q3)
    go_ret
    have o := Q1.out
    simp only [Nat.zero_add, List.nil_append] at o
    obtain ⟨a', c', rfl⟩ := own_slice o
    exact ⟨a', c', rfl, RowZ.mk' o, ext_grown (Below.refl _ _) Q2.out (fun j hj => by simp [Value.ownBlock] at hj)⟩
  | none =>
    obtain ⟨rfl, rfl⟩ := h.nil rfl
    have e9 : xs = [] := by have := h.len; simpa using this
    subst e9
    clear h h1
    go_enter Try.func102, Try.ntmps102
    go_wp2_with fail
    go_ret
    exact ⟨none, 0, rfl, RowZ.mk' (World.ownsRow_nil _ _ _ _), Below.refl _ _⟩

set_option maxHeartbeats 2000000 in
theorem copyM (a : Option Addr) (n c : Nat) (xs : List Value) (w : World) (h : ReadAt w a n c 8 xs) (hc : n ≤ 1048576) (h1 : ∀ u ∈ xs, u.oneCell' = true) :
    Calls Try.prog 103 #[.slice a n c] w fun e w' => ∃ a' c', e = .returned (.slice a' n c') ∧ RowZ w.heap.size w'.heap.size w' 62 8 a' n c' xs ∧ Below w.heap.size w w' := by
  have HL := hid h.len
  have H1 := hid h1
  cases a with
  | some x =>
    have HC := hid (h.cells x rfl).2
    have HO := hid (World.ownsRow_nil w w.heap.size 62 8)
    clear h h1
    go_enter Try.func103, Try.ntmps103
    go_wp2_with ((with_reducible refine wpList_append_msgs w.heap.size (.slice none 0 0) [] xs 0 n c x ?_ ?_ ?_ ?_ ?_ ?_ ?_ ?_ ?_); (· rfl); (· rfl); (· exact HO.out); (· exact HL.out); (· exact HC.out); (· exact H1.out); (· omega); (· exact Nat.le_refl _); intro v' w' q1 q2 q3; have Q1 := hid q1; have Q2 := hid q2; clear q1 q2 q3)
    go_ret
    have o := Q1.out
    simp only [Nat.zero_add, List.nil_append] at o
    obtain ⟨a', c', rfl⟩ := own_slice o
    exact ⟨a', c', rfl, RowZ.mk' o, ext_grown (Below.refl _ _) Q2.out (fun j hj => by simp [Value.ownBlock] at hj)⟩
  | none =>
    obtain ⟨rfl, rfl⟩ := h.nil rfl
    have e9 : xs = [] := by have := h.len; simpa using this
    subst e9
    clear h h1
    go_enter Try.func103, Try.ntmps103
    go_wp2_with fail
    go_ret
    exact ⟨none, 0, rfl, RowZ.mk' (World.ownsRow_nil _ _ _ _), Below.refl _ _⟩

set_option maxHeartbeats 2000000 in
theorem copyT (a : Option Addr) (n c : Nat) (xs : List Value) (w : World) (h : ReadAt w a n c 1 xs) (hc : n ≤ 1048576) (h1 : ∀ u ∈ xs, u.oneCell' = true) :
    Calls Try.prog 104 #[.slice a n c] w fun e w' => ∃ a' c', e = .returned (.slice a' n c') ∧ RowZ w.heap.size w'.heap.size w' 9 1 a' n c' xs ∧ Below w.heap.size w w' := by
  have HL := hid h.len
  have H1 := hid h1
  cases a with
  | some x =>
    have HC := hid (h.cells x rfl).2
    have HO := hid (World.ownsRow_nil w w.heap.size 9 1)
    clear h h1
    go_enter Try.func104, Try.ntmps104
    go_wp2_with ((with_reducible refine wpList_append_strs w.heap.size (.slice none 0 0) [] xs 0 n c x ?_ ?_ ?_ ?_ ?_ ?_ ?_ ?_ ?_); (· rfl); (· rfl); (· exact HO.out); (· exact HL.out); (· exact HC.out); (· exact H1.out); (· omega); (· exact Nat.le_refl _); intro v' w' q1 q2 q3; have Q1 := hid q1; have Q2 := hid q2; clear q1 q2 q3)
    go_ret
    have o := Q1.out
    simp only [Nat.zero_add, List.nil_append] at o
    obtain ⟨a', c', rfl⟩ := own_slice o
    exact ⟨a', c', rfl, RowZ.mk' o, ext_grown (Below.refl _ _) Q2.out (fun j hj => by simp [Value.ownBlock] at hj)⟩
  | none =>
    obtain ⟨rfl, rfl⟩ := h.nil rfl
    have e9 : xs = [] := by have := h.len; simpa using this
    subst e9
    clear h h1
    go_enter Try.func104, Try.ntmps104
    go_wp2_with fail
    go_ret
    exact ⟨none, 0, rfl, RowZ.mk' (World.ownsRow_nil _ _ _ _), Below.refl _ _⟩

set_option maxHeartbeats 2000000 in
theorem copyI (a : Option Addr) (n c : Nat) (xs : List Value) (w : World) (h : ReadAt w a n c 1 xs) (hc : n ≤ 1048576) (h1 : ∀ u ∈ xs, u.oneCell' = true) :
    Calls Try.prog 105 #[.slice a n c] w fun e w' => ∃ a' c', e = .returned (.slice a' n c') ∧ RowZ w.heap.size w'.heap.size w' 3 1 a' n c' xs ∧ Below w.heap.size w w' := by
  have HL := hid h.len
  have H1 := hid h1
  cases a with
  | some x =>
    have HC := hid (h.cells x rfl).2
    have HO := hid (World.ownsRow_nil w w.heap.size 3 1)
    clear h h1
    go_enter Try.func105, Try.ntmps105
    go_wp2_with ((with_reducible refine wpList_append_ints w.heap.size (.slice none 0 0) [] xs 0 n c x ?_ ?_ ?_ ?_ ?_ ?_ ?_ ?_ ?_); (· rfl); (· rfl); (· exact HO.out); (· exact HL.out); (· exact HC.out); (· exact H1.out); (· omega); (· exact Nat.le_refl _); intro v' w' q1 q2 q3; have Q1 := hid q1; have Q2 := hid q2; clear q1 q2 q3)
    go_ret
    have o := Q1.out
    simp only [Nat.zero_add, List.nil_append] at o
    obtain ⟨a', c', rfl⟩ := own_slice o
    exact ⟨a', c', rfl, RowZ.mk' o, ext_grown (Below.refl _ _) Q2.out (fun j hj => by simp [Value.ownBlock] at hj)⟩
  | none =>
    obtain ⟨rfl, rfl⟩ := h.nil rfl
    have e9 : xs = [] := by have := h.len; simpa using this
    subst e9
    clear h h1
    go_enter Try.func105, Try.ntmps105
    go_wp2_with fail
    go_ret
    exact ⟨none, 0, rfl, RowZ.mk' (World.ownsRow_nil _ _ _ _), Below.refl _ _⟩

set_option maxHeartbeats 2000000 in
theorem copyA (a : Option Addr) (n c : Nat) (xs : List Value) (w : World) (h : ReadAt w a n c 2 xs) (hc : n ≤ 1048576) (h1 : ∀ u ∈ xs, u.oneCell' = true) :
    Calls Try.prog 106 #[.slice a n c] w fun e w' => ∃ a' c', e = .returned (.slice a' n c') ∧ RowZ w.heap.size w'.heap.size w' 114 2 a' n c' xs ∧ Below w.heap.size w w' := by
  have HL := hid h.len
  have H1 := hid h1
  cases a with
  | some x =>
    have HC := hid (h.cells x rfl).2
    have HO := hid (World.ownsRow_nil w w.heap.size 114 2)
    clear h h1
    go_enter Try.func106, Try.ntmps106
    go_wp2_with ((with_reducible refine wpList_append_acks w.heap.size (.slice none 0 0) [] xs 0 n c x ?_ ?_ ?_ ?_ ?_ ?_ ?_ ?_ ?_); (· rfl); (· rfl); (· exact HO.out); (· exact HL.out); (· exact HC.out); (· exact H1.out); (· omega); (· exact Nat.le_refl _); intro v' w' q1 q2 q3; have Q1 := hid q1; have Q2 := hid q2; clear q1 q2 q3)
    go_ret
    have o := Q1.out
    simp only [Nat.zero_add, List.nil_append] at o
    obtain ⟨a', c', rfl⟩ := own_slice o
    exact ⟨a', c', rfl, RowZ.mk' o, ext_grown (Below.refl _ _) Q2.out (fun j hj => by simp [Value.ownBlock] at hj)⟩
  | none =>
    obtain ⟨rfl, rfl⟩ := h.nil rfl
    have e9 : xs = [] := by have := h.len; simpa using this
    subst e9
    clear h h1
    go_enter Try.func106, Try.ntmps106
    go_wp2_with fail
    go_ret
    exact ⟨none, 0, rfl, RowZ.mk' (World.ownsRow_nil _ _ _ _), Below.refl _ _⟩
end Go.Proofs.Ytchbdajgpfcjcaa

/-
  Appends onto a row of one's own, whatever is appended (nil or not); the answer lies in the row's own block or in a new one.
-/
namespace Go.Proofs.Ytchbdajgpfcjcaa
open Go.ChangeShapes Go.WideShapes Go.ChangeAt Go.RowKit
set_option linter.unusedVariables false
set_option linter.unusedSimpArgs false

/-- where an append's answer lies -/
def NewOr (w : World) (sa a' : Option Addr) : Prop := ∀ x, a' = some x → (∃ y, sa = some y ∧ y.block = x.block) ∨ w.heap.size ≤ x.block
theorem run_app {w : World} (base : Nat) (t ty e : TypeId) (i : TypeInfo) (z : Value) (size bytes : Nat) (ht : Try.prog.underlying t = some (.slice e)) (hi : Try.prog.info? e = some i) (hz : i.zero = some z)
    (hsize : i.size = size) (hby : i.bytes = bytes) (hzs : z.cells.size = size) (hsz : 0 < size)
    (sa : Option Addr) (n c0 : Nat) (xs : List Value) (hown : w.ownsRow base e size (.slice sa n c0) n xs)
    (xa : Option Addr) (m c : Nat) (news : List Value) (hr : ReadAt w xa m c size news) (h1 : ∀ u ∈ news, u.oneCell' = true)
    (h63 : n + m ≤ maxLen) (hbytes : ((n + m) + (n + m) / 4 + 192) * bytes ≤ 281474976710656) (hbase : base ≤ w.heap.size) :
    ∃ a' c' w', (Builtin.append_ #[t, t] ty #[.slice sa n c0, .slice xa m c]).run Try.prog w = .ok (.slice a' (n + m) c') w' ∧ w'.ownsRow base e size (.slice a' (n + m) c') (n + m) (xs ++ news) ∧ w.grownBy w' (Value.slice sa n c0).ownBlock ∧ NewOr w sa a' := by
  cases xa with
  | none =>
    obtain ⟨rfl, rfl⟩ := hr.nil rfl
    have e9 : news = [] := by have := hr.len; simpa using this
    subst e9
    exact ⟨sa, c0, w, run_append_owned_none (P := Try.prog) w base t ty e i size ht hi _ n xs hown, by simpa using hown, ⟨rfl, rfl, rfl, Nat.le_refl _, fun _ _ _ => rfl⟩, fun x hx => .inl ⟨x, hx, rfl⟩⟩
  | some ad =>
    have hl := hr.len
    have hnews := (hr.cells ad rfl).2
    obtain ⟨v', w', hrun, h2, h3, h4⟩ := run_append_own_wide (P := Try.prog) w base t ty e i z size bytes ht hi hz hsize hby hzs hsz _ n xs hown ad m c news hl hnews h1 h63 hbytes hbase
    obtain ⟨a', c', rfl⟩ := own_slice h2
    refine ⟨a', c', w', hrun, h2, h3, fun x hx => ?_⟩
    subst hx
    subst hsize
    subst hby
    have hsmall : n + m ≤ 9223372036854775807 := by simp only [maxLen] at h63; omega
    rcases hown.2 with ⟨hv, hn0⟩ | ⟨g, cap, cur, hv, hbg, hg, hnc, hcm, hcs, htake⟩
    · simp only [Value.slice.injEq] at hv
      obtain ⟨rfl, rfl, rfl⟩ := hv
      by_cases hm : m = 0
      · have := h4.2 ⟨rfl, hm⟩
        simp at this
      · have hr2 := run_append_nil (P := Try.prog) w t ty e i z ht hi hz ad m c news hl hnews (by omega) (by omega) (by have hb := hbytes; simp only [Nat.zero_add] at hb; exact Nat.le_trans (Nat.mul_le_mul_right _ (by omega)) hb)
        rw [hr2] at hrun
        simp only [Result.ok.injEq, Value.slice.injEq, Option.some.injEq] at hrun
        refine .inr ?_
        rw [← hrun.1.1]
        exact Nat.le_refl _
    · simp only [Value.slice.injEq] at hv
      obtain ⟨rfl, _, rfl⟩ := hv
      by_cases hroom : n + m ≤ c0
      · have hfit : n * i.size + news.length ≤ cur.size := by rw [hl, hcs, ← Nat.add_mul]; exact Nat.mul_le_mul_right _ hroom
        have hr2 := run_append_room (P := Try.prog) w t ty e i ht hi g n c0 cur hg ad m c news hl hnews h1 hroom hfit
        rw [hr2] at hrun
        simp only [Result.ok.injEq, Value.slice.injEq, Option.some.injEq] at hrun
        refine .inl ⟨_, rfl, ?_⟩
        rw [← hrun.1.1]
      · have holds : ∀ j u, xs[j]? = some u → w.cell? ((⟨g, 0, none⟩ : Addr).add j) = some u := hown.cells (g := g) rfl
        have hr2 := run_append_grow (P := Try.prog) w t ty e i z ht hi hz ⟨g, 0, none⟩ n c0 xs hown.1 holds ad m c news hl hnews (by omega) (by omega) (growslice_fits_wide (by omega) hbytes)
        rw [hr2] at hrun
        simp only [Result.ok.injEq, Value.slice.injEq, Option.some.injEq] at hrun
        refine .inr ?_
        rw [← hrun.1.1]
        exact Nat.le_refl _

theorem wp_appS {dst : Option Tmp} {s x : Operand} {τ : TypeId} {pos : String} {after : Array Edge} {g : Option (Nat × Bool)} {a : Act} {w : World} {K : Act → World → Prop} {Q : Exit → Act → World → Prop}
    (B : Nat) (sa : Option Addr) (n c0 : Nat) (xs : List Value) (xa : Option Addr) (m c : Nat) (news : List Value) (hs : a.eval s = .slice sa n c0) (hx : a.eval x = .slice xa m c) (hown : w.ownsRow B 74 2 (.slice sa n c0) n xs) (hr : ReadAt w xa m c 2 news)
    (h1 : ∀ u ∈ news, u.oneCell' = true) (hN : n + m ≤ 4194304) (hB : B ≤ w.heap.size)
    (h : ∀ a' c' w', w'.ownsRow B 74 2 (.slice a' (n + m) c') (n + m) (xs ++ news) → w.grownBy w' (Value.slice sa n c0).ownBlock → NewOr w sa a' → K (a.put dst (.slice a' (n + m) c')) w') :
    Oper.wp Try.prog ({ dst := dst, op := .call { callee := .builtin .append, args := #[s, x], argTypes := #[27, 27] }, type := τ, pos := pos, after := after, guard := g } : Oper) a w K Q := by
  obtain ⟨i, q1, q2, q3, q4⟩ := slotInfo
  obtain ⟨a', c', w', hrun, h2, h3, h4⟩ := run_app (w := w) B 27 τ 74 i (.agg #[.int .i64 0, .string ⟨#[]⟩]) 2 24 Try.underlying27 q1 q2 q3 q4 rfl (by omega) sa n c0 xs hown xa m c news hr h1 (by unfold maxLen; omega) (by omega) hB
  unfold Oper.wp execOp
  simp only [resolve, invoke, builtin, Sem.run_bind, Sem.run_pure, Result.andThen_ok, List.map_toArray, List.map_cons, List.map_nil, hs, hx, hrun]
  exact h a' c' w' h2 h3 h4
theorem wpList_appS {ops : Array Oper} {rest : List Oper} {dst : Option Tmp} {s x : Operand} {τ : TypeId} {pos : String} {after : Array Edge} {a : Act} {w : World} {Q : Exit → Act → World → Prop}
    (B : Nat) (sa : Option Addr) (n c0 : Nat) (xs : List Value) (xa : Option Addr) (m c : Nat) (news : List Value) (hs : a.eval s = .slice sa n c0) (hx : a.eval x = .slice xa m c) (hown : w.ownsRow B 74 2 (.slice sa n c0) n xs) (hr : ReadAt w xa m c 2 news)
    (h1 : ∀ u ∈ news, u.oneCell' = true) (hN : n + m ≤ 4194304) (hB : B ≤ w.heap.size)
    (h : ∀ a' c' w', w'.ownsRow B 74 2 (.slice a' (n + m) c') (n + m) (xs ++ news) → w.grownBy w' (Value.slice sa n c0).ownBlock → NewOr w sa a' → wpList Try.prog ops Q rest (a.put dst (.slice a' (n + m) c')) w') :
    wpList Try.prog ops Q ({ dst := dst, op := .call { callee := .builtin .append, args := #[s, x], argTypes := #[27, 27] }, type := τ, pos := pos, after := after, guard := none } :: rest) a w :=
  wpList_plain rfl fun _ hK => wp_appS B sa n c0 xs xa m c news hs hx hown hr h1 hN hB fun a' c' w' h2 h3 h4 => hK _ _ (h a' c' w' h2 h3 h4)

theorem wp_appI {dst : Option Tmp} {s x : Operand} {τ : TypeId} {pos : String} {after : Array Edge} {g : Option (Nat × Bool)} {a : Act} {w : World} {K : Act → World → Prop} {Q : Exit → Act → World → Prop}
    (B : Nat) (sa : Option Addr) (n c0 : Nat) (xs : List Value) (xa : Option Addr) (m c : Nat) (news : List Value) (hs : a.eval s = .slice sa n c0) (hx : a.eval x = .slice xa m c) (hown : w.ownsRow B 3 1 (.slice sa n c0) n xs) (hr : ReadAt w xa m c 1 news)
    (h1 : ∀ u ∈ news, u.oneCell' = true) (hN : n + m ≤ 4194304) (hB : B ≤ w.heap.size)
    (h : ∀ a' c' w', w'.ownsRow B 3 1 (.slice a' (n + m) c') (n + m) (xs ++ news) → w.grownBy w' (Value.slice sa n c0).ownBlock → NewOr w sa a' → K (a.put dst (.slice a' (n + m) c')) w') :
    Oper.wp Try.prog ({ dst := dst, op := .call { callee := .builtin .append, args := #[s, x], argTypes := #[41, 41] }, type := τ, pos := pos, after := after, guard := g } : Oper) a w K Q := by
  obtain ⟨i, q1, q2, q3, q4⟩ := info_ints
  obtain ⟨a', c', w', hrun, h2, h3, h4⟩ := run_app (w := w) B 41 τ 3 i (.int .i64 0) 1 8 Try.underlying41 q1 q2 q3 q4 rfl (by omega) sa n c0 xs hown xa m c news hr h1 (by unfold maxLen; omega) (by omega) hB
  unfold Oper.wp execOp
  simp only [resolve, invoke, builtin, Sem.run_bind, Sem.run_pure, Result.andThen_ok, List.map_toArray, List.map_cons, List.map_nil, hs, hx, hrun]
  exact h a' c' w' h2 h3 h4
theorem wpList_appI {ops : Array Oper} {rest : List Oper} {dst : Option Tmp} {s x : Operand} {τ : TypeId} {pos : String} {after : Array Edge} {a : Act} {w : World} {Q : Exit → Act → World → Prop}
    (B : Nat) (sa : Option Addr) (n c0 : Nat) (xs : List Value) (xa : Option Addr) (m c : Nat) (news : List Value) (hs : a.eval s = .slice sa n c0) (hx : a.eval x = .slice xa m c) (hown : w.ownsRow B 3 1 (.slice sa n c0) n xs) (hr : ReadAt w xa m c 1 news)
    (h1 : ∀ u ∈ news, u.oneCell' = true) (hN : n + m ≤ 4194304) (hB : B ≤ w.heap.size)
    (h : ∀ a' c' w', w'.ownsRow B 3 1 (.slice a' (n + m) c') (n + m) (xs ++ news) → w.grownBy w' (Value.slice sa n c0).ownBlock → NewOr w sa a' → wpList Try.prog ops Q rest (a.put dst (.slice a' (n + m) c')) w') :
    wpList Try.prog ops Q ({ dst := dst, op := .call { callee := .builtin .append, args := #[s, x], argTypes := #[41, 41] }, type := τ, pos := pos, after := after, guard := none } :: rest) a w :=
  wpList_plain rfl fun _ hK => wp_appI B sa n c0 xs xa m c news hs hx hown hr h1 hN hB fun a' c' w' h2 h3 h4 => hK _ _ (h a' c' w' h2 h3 h4)

theorem wp_appT {dst : Option Tmp} {s x : Operand} {τ : TypeId} {pos : String} {after : Array Edge} {g : Option (Nat × Bool)} {a : Act} {w : World} {K : Act → World → Prop} {Q : Exit → Act → World → Prop}
    (B : Nat) (sa : Option Addr) (n c0 : Nat) (xs : List Value) (xa : Option Addr) (m c : Nat) (news : List Value) (hs : a.eval s = .slice sa n c0) (hx : a.eval x = .slice xa m c) (hown : w.ownsRow B 9 1 (.slice sa n c0) n xs) (hr : ReadAt w xa m c 1 news)
    (h1 : ∀ u ∈ news, u.oneCell' = true) (hN : n + m ≤ 4194304) (hB : B ≤ w.heap.size)
    (h : ∀ a' c' w', w'.ownsRow B 9 1 (.slice a' (n + m) c') (n + m) (xs ++ news) → w.grownBy w' (Value.slice sa n c0).ownBlock → NewOr w sa a' → K (a.put dst (.slice a' (n + m) c')) w') :
    Oper.wp Try.prog ({ dst := dst, op := .call { callee := .builtin .append, args := #[s, x], argTypes := #[40, 40] }, type := τ, pos := pos, after := after, guard := g } : Oper) a w K Q := by
  obtain ⟨i, q1, q2, q3, q4⟩ := info_strs
  obtain ⟨a', c', w', hrun, h2, h3, h4⟩ := run_app (w := w) B 40 τ 9 i (.string ⟨#[]⟩) 1 16 Try.underlying40 q1 q2 q3 q4 rfl (by omega) sa n c0 xs hown xa m c news hr h1 (by unfold maxLen; omega) (by omega) hB
  unfold Oper.wp execOp
  simp only [resolve, invoke, builtin, Sem.run_bind, Sem.run_pure, Result.andThen_ok, List.map_toArray, List.map_cons, List.map_nil, hs, hx, hrun]
  exact h a' c' w' h2 h3 h4
theorem wpList_appT {ops : Array Oper} {rest : List Oper} {dst : Option Tmp} {s x : Operand} {τ : TypeId} {pos : String} {after : Array Edge} {a : Act} {w : World} {Q : Exit → Act → World → Prop}
    (B : Nat) (sa : Option Addr) (n c0 : Nat) (xs : List Value) (xa : Option Addr) (m c : Nat) (news : List Value) (hs : a.eval s = .slice sa n c0) (hx : a.eval x = .slice xa m c) (hown : w.ownsRow B 9 1 (.slice sa n c0) n xs) (hr : ReadAt w xa m c 1 news)
    (h1 : ∀ u ∈ news, u.oneCell' = true) (hN : n + m ≤ 4194304) (hB : B ≤ w.heap.size)
    (h : ∀ a' c' w', w'.ownsRow B 9 1 (.slice a' (n + m) c') (n + m) (xs ++ news) → w.grownBy w' (Value.slice sa n c0).ownBlock → NewOr w sa a' → wpList Try.prog ops Q rest (a.put dst (.slice a' (n + m) c')) w') :
    wpList Try.prog ops Q ({ dst := dst, op := .call { callee := .builtin .append, args := #[s, x], argTypes := #[40, 40] }, type := τ, pos := pos, after := after, guard := none } :: rest) a w :=
  wpList_plain rfl fun _ hK => wp_appT B sa n c0 xs xa m c news hs hx hown hr h1 hN hB fun a' c' w' h2 h3 h4 => hK _ _ (h a' c' w' h2 h3 h4)

theorem wp_appM {dst : Option Tmp} {s x : Operand} {τ : TypeId} {pos : String} {after : Array Edge} {g : Option (Nat × Bool)} {a : Act} {w : World} {K : Act → World → Prop} {Q : Exit → Act → World → Prop}
    (B : Nat) (sa : Option Addr) (n c0 : Nat) (xs : List Value) (xa : Option Addr) (m c : Nat) (news : List Value) (hs : a.eval s = .slice sa n c0) (hx : a.eval x = .slice xa m c) (hown : w.ownsRow B 62 8 (.slice sa n c0) n xs) (hr : ReadAt w xa m c 8 news)
    (h1 : ∀ u ∈ news, u.oneCell' = true) (hN : n + m ≤ 4194304) (hB : B ≤ w.heap.size)
    (h : ∀ a' c' w', w'.ownsRow B 62 8 (.slice a' (n + m) c') (n + m) (xs ++ news) → w.grownBy w' (Value.slice sa n c0).ownBlock → NewOr w sa a' → K (a.put dst (.slice a' (n + m) c')) w') :
    Oper.wp Try.prog ({ dst := dst, op := .call { callee := .builtin .append, args := #[s, x], argTypes := #[39, 39] }, type := τ, pos := pos, after := after, guard := g } : Oper) a w K Q := by
  obtain ⟨i, q1, q2, q3, q4⟩ := info_msgs
  obtain ⟨a', c', w', hrun, h2, h3, h4⟩ := run_app (w := w) B 39 τ 62 i (.agg #[.int .i64 0, .int .i64 0, .int .i64 0, .int .i64 0, .int .i64 0, .int .i64 0, .string ⟨#[]⟩, .slice none 0 0]) 8 88 Try.underlying39 q1 q2 q3 q4 rfl (by omega) sa n c0 xs hown xa m c news hr h1 (by unfold maxLen; omega) (by omega) hB
  unfold Oper.wp execOp
  simp only [resolve, invoke, builtin, Sem.run_bind, Sem.run_pure, Result.andThen_ok, List.map_toArray, List.map_cons, List.map_nil, hs, hx, hrun]
  exact h a' c' w' h2 h3 h4
theorem wpList_appM {ops : Array Oper} {rest : List Oper} {dst : Option Tmp} {s x : Operand} {τ : TypeId} {pos : String} {after : Array Edge} {a : Act} {w : World} {Q : Exit → Act → World → Prop}
    (B : Nat) (sa : Option Addr) (n c0 : Nat) (xs : List Value) (xa : Option Addr) (m c : Nat) (news : List Value) (hs : a.eval s = .slice sa n c0) (hx : a.eval x = .slice xa m c) (hown : w.ownsRow B 62 8 (.slice sa n c0) n xs) (hr : ReadAt w xa m c 8 news)
    (h1 : ∀ u ∈ news, u.oneCell' = true) (hN : n + m ≤ 4194304) (hB : B ≤ w.heap.size)
    (h : ∀ a' c' w', w'.ownsRow B 62 8 (.slice a' (n + m) c') (n + m) (xs ++ news) → w.grownBy w' (Value.slice sa n c0).ownBlock → NewOr w sa a' → wpList Try.prog ops Q rest (a.put dst (.slice a' (n + m) c')) w') :
    wpList Try.prog ops Q ({ dst := dst, op := .call { callee := .builtin .append, args := #[s, x], argTypes := #[39, 39] }, type := τ, pos := pos, after := after, guard := none } :: rest) a w :=
  wpList_plain rfl fun _ hK => wp_appM B sa n c0 xs xa m c news hs hx hown hr h1 hN hB fun a' c' w' h2 h3 h4 => hK _ _ (h a' c' w' h2 h3 h4)

theorem wp_appA {dst : Option Tmp} {s x : Operand} {τ : TypeId} {pos : String} {after : Array Edge} {g : Option (Nat × Bool)} {a : Act} {w : World} {K : Act → World → Prop} {Q : Exit → Act → World → Prop}
    (B : Nat) (sa : Option Addr) (n c0 : Nat) (xs : List Value) (xa : Option Addr) (m c : Nat) (news : List Value) (hs : a.eval s = .slice sa n c0) (hx : a.eval x = .slice xa m c) (hown : w.ownsRow B 114 2 (.slice sa n c0) n xs) (hr : ReadAt w xa m c 2 news)
    (h1 : ∀ u ∈ news, u.oneCell' = true) (hN : n + m ≤ 4194304) (hB : B ≤ w.heap.size)
    (h : ∀ a' c' w', w'.ownsRow B 114 2 (.slice a' (n + m) c') (n + m) (xs ++ news) → w.grownBy w' (Value.slice sa n c0).ownBlock → NewOr w sa a' → K (a.put dst (.slice a' (n + m) c')) w') :
    Oper.wp Try.prog ({ dst := dst, op := .call { callee := .builtin .append, args := #[s, x], argTypes := #[42, 42] }, type := τ, pos := pos, after := after, guard := g } : Oper) a w K Q := by
  obtain ⟨i, q1, q2, q3, q4⟩ := info_acks
  obtain ⟨a', c', w', hrun, h2, h3, h4⟩ := run_app (w := w) B 42 τ 114 i (.agg #[.int .i64 0, .slice none 0 0]) 2 32 Try.underlying42 q1 q2 q3 q4 rfl (by omega) sa n c0 xs hown xa m c news hr h1 (by unfold maxLen; omega) (by omega) hB
  unfold Oper.wp execOp
  simp only [resolve, invoke, builtin, Sem.run_bind, Sem.run_pure, Result.andThen_ok, List.map_toArray, List.map_cons, List.map_nil, hs, hx, hrun]
  exact h a' c' w' h2 h3 h4
theorem wpList_appA {ops : Array Oper} {rest : List Oper} {dst : Option Tmp} {s x : Operand} {τ : TypeId} {pos : String} {after : Array Edge} {a : Act} {w : World} {Q : Exit → Act → World → Prop}
    (B : Nat) (sa : Option Addr) (n c0 : Nat) (xs : List Value) (xa : Option Addr) (m c : Nat) (news : List Value) (hs : a.eval s = .slice sa n c0) (hx : a.eval x = .slice xa m c) (hown : w.ownsRow B 114 2 (.slice sa n c0) n xs) (hr : ReadAt w xa m c 2 news)
    (h1 : ∀ u ∈ news, u.oneCell' = true) (hN : n + m ≤ 4194304) (hB : B ≤ w.heap.size)
    (h : ∀ a' c' w', w'.ownsRow B 114 2 (.slice a' (n + m) c') (n + m) (xs ++ news) → w.grownBy w' (Value.slice sa n c0).ownBlock → NewOr w sa a' → wpList Try.prog ops Q rest (a.put dst (.slice a' (n + m) c')) w') :
    wpList Try.prog ops Q ({ dst := dst, op := .call { callee := .builtin .append, args := #[s, x], argTypes := #[42, 42] }, type := τ, pos := pos, after := after, guard := none } :: rest) a w :=
  wpList_plain rfl fun _ hK => wp_appA B sa n c0 xs xa m c news hs hx hown hr h1 hN hB fun a' c' w' h2 h3 h4 => hK _ _ (h a' c' w' h2 h3 h4)
end Go.Proofs.Ytchbdajgpfcjcaa
