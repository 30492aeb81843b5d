import Derived.Test.YtffklmlljekceaaGreatQ14
namespace Go.Proofs.YtffklmlljekceaaGreat
open Go.ChangeShapes Go.WideShapes Go.ChangeAt Go.RowKit
set_option linter.unusedSimpArgs false
set_option linter.unusedVariables false
def NewOr (w : World) (sa a' : Option Addr) : Prop := ∀ x, a' = some x → (∃ y, sa = some y ∧ y.block = x.block) ∨ w.heap.size ≤ x.block
theorem run_app {w : World} (base : Nat) (t ty e : TypeId) (i : TypeInfo) (z : Value) (size bytes : Nat) (ht : Tryz.prog.underlying t = some (.slice e)) (hi : Tryz.prog.info? e = some i) (hz : i.zero = some z)
  (hsize : i.size = size) (hby : i.bytes = bytes) (hzs : z.cells.size = size) (hsz : 0 < size)
  (sa : Option Addr) (n c0 : Nat) (xs : List Value) (hown : w.ownsRow base e size (.slice sa n c0) n xs)
  (xa : Option Addr) (m c : Nat) (news : List Value) (hr : ReadAt w xa m c size news) (h1 : ∀ u ∈ news, u.oneCell' = true)
  (h63 : n + m ≤ maxLen) (hbytes : ((n + m) + (n + m) / 4 + 192) * bytes ≤ 281474976710656) (hbase : base ≤ w.heap.size) :
  ∃ a' c' w', (Builtin.append_ #[t, t] ty #[.slice sa n c0, .slice xa m c]).run Tryz.prog w = .ok (.slice a' (n + m) c') w' ∧ w'.ownsRow base e size (.slice a' (n + m) c') (n + m) (xs ++ news) ∧ w.grownBy w' (Value.slice sa n c0).ownBlock ∧ NewOr w sa a' := by
 cases xa with
 | none =>
  obtain ⟨rfl, rfl⟩ := hr.nil rfl
  have e9 : news = [] := by have := hr.len; simpa using this
  subst e9
  exact ⟨sa, c0, w, run_append_owned_none (P := Tryz.prog) w base t ty e i size ht hi _ n xs hown, by simpa using hown, ⟨rfl, rfl, rfl, Nat.le_refl _, fun _ _ _ => rfl⟩, fun x hx => .inl ⟨x, hx, rfl⟩⟩
 | some ad =>
  have hl := hr.len
  have hnews := (hr.cells ad rfl).2
  obtain ⟨v', w', hrun, h2, h3, h4⟩ := run_append_own_wide (P := Tryz.prog) w base t ty e i z size bytes ht hi hz hsize hby hzs hsz _ n xs hown ad m c news hl hnews h1 h63 hbytes hbase
  obtain ⟨a', c', rfl⟩ := own_slice h2
  refine ⟨a', c', w', hrun, h2, h3, fun x hx => ?_⟩
  subst hx
  subst hsize
  subst hby
  have hsmall : n + m ≤ 9223372036854775807 := by simp only [maxLen] at h63; omega
  rcases hown.2 with ⟨hv, hn0⟩ | ⟨g, cap, cur, hv, hbg, hg, hnc, hcm, hcs, htake⟩
  ·simp only [Value.slice.injEq] at hv
   obtain ⟨rfl, rfl, rfl⟩ := hv
   by_cases hm : m = 0
   ·have := h4.2 ⟨rfl, hm⟩
    simp at this
   have hr2 := run_append_nil (P := Tryz.prog) w t ty e i z ht hi hz ad m c news hl hnews (by omega) (by omega) (by have hb := hbytes; simp only [Nat.zero_add] at hb; exact Nat.le_trans (Nat.mul_le_mul_right _ (by omega)) hb)
   rw [hr2] at hrun
   simp only [Result.ok.injEq, Value.slice.injEq, Option.some.injEq] at hrun
   refine .inr ?_
   rw [← hrun.1.1]
   exact Nat.le_refl _
  simp only [Value.slice.injEq] at hv
  obtain ⟨rfl, _, rfl⟩ := hv
  by_cases hroom : n + m ≤ c0
  ·have hfit : n * i.size + news.length ≤ cur.size := by rw [hl, hcs, ← Nat.add_mul]; exact Nat.mul_le_mul_right _ hroom
   have hr2 := run_append_room (P := Tryz.prog) w t ty e i ht hi g n c0 cur hg ad m c news hl hnews h1 hroom hfit
   rw [hr2] at hrun
   simp only [Result.ok.injEq, Value.slice.injEq, Option.some.injEq] at hrun
   refine .inl ⟨_, rfl, ?_⟩
   rw [← hrun.1.1]
  have holds : ∀ j u, xs[j]? = some u → w.cell? ((⟨g, 0, none⟩ : Addr).add j) = some u := hown.cells (g := g) rfl
  have hr2 := run_append_grow (P := Tryz.prog) w t ty e i z ht hi hz ⟨g, 0, none⟩ n c0 xs hown.1 holds ad m c news hl hnews (by omega) (by omega) (growslice_fits_wide (by omega) hbytes)
  rw [hr2] at hrun
  simp only [Result.ok.injEq, Value.slice.injEq, Option.some.injEq] at hrun
  refine .inr ?_
  rw [← hrun.1.1]
  exact Nat.le_refl _
theorem wp_appS {dst : Option Tmp} {s x : Operand} {τ : TypeId} {pos : String} {after : Array Edge} {g : Option (Nat × Bool)} {a : Act} {w : World} {K : Act → World → Prop} {Q : Exit → Act → World → Prop}
  (B : Nat) (sa : Option Addr) (n c0 : Nat) (xs : List Value) (xa : Option Addr) (m c : Nat) (news : List Value) (hs : a.eval s = .slice sa n c0) (hx : a.eval x = .slice xa m c) (hown : w.ownsRow B 108 2 (.slice sa n c0) n xs) (hr : ReadAt w xa m c 2 news)
  (h1 : ∀ u ∈ news, u.oneCell' = true) (hN : n + m ≤ 4194304) (hB : B ≤ w.heap.size)
  (h : ∀ a' c' w', w'.ownsRow B 108 2 (.slice a' (n + m) c') (n + m) (xs ++ news) → w.grownBy w' (Value.slice sa n c0).ownBlock → NewOr w sa a' → K (a.put dst (.slice a' (n + m) c')) w') :
  Oper.wp Tryz.prog ({ dst := dst, op := .call { callee := .builtin .append, args := #[s, x], argTypes := #[35, 35] }, type := τ, pos := pos, after := after, guard := g } : Oper) a w K Q := by
 obtain ⟨i, q1, q2, q3, q4⟩ := slotInfo
 obtain ⟨a', c', w', hrun, h2, h3, h4⟩ := run_app (w := w) B 35 τ 108 i (.agg #[.int .i64 0, .string ⟨#[]⟩]) 2 24 Tryz.underlying35 q1 q2 q3 q4 rfl (by omega) sa n c0 xs hown xa m c news hr h1 (by unfold maxLen; omega) (by omega) hB
 unfold Oper.wp execOp
 simp only [resolve, invoke, builtin, Sem.run_bind, Sem.run_pure, Result.andThen_ok, List.map_toArray, List.map_cons, List.map_nil, hs, hx, hrun]
 exact h a' c' w' h2 h3 h4
theorem wpList_appS {ops : Array Oper} {rest : List Oper} {dst : Option Tmp} {s x : Operand} {τ : TypeId} {pos : String} {after : Array Edge} {a : Act} {w : World} {Q : Exit → Act → World → Prop}
  (B : Nat) (sa : Option Addr) (n c0 : Nat) (xs : List Value) (xa : Option Addr) (m c : Nat) (news : List Value) (hs : a.eval s = .slice sa n c0) (hx : a.eval x = .slice xa m c) (hown : w.ownsRow B 108 2 (.slice sa n c0) n xs) (hr : ReadAt w xa m c 2 news)
  (h1 : ∀ u ∈ news, u.oneCell' = true) (hN : n + m ≤ 4194304) (hB : B ≤ w.heap.size)
  (h : ∀ a' c' w', w'.ownsRow B 108 2 (.slice a' (n + m) c') (n + m) (xs ++ news) → w.grownBy w' (Value.slice sa n c0).ownBlock → NewOr w sa a' → wpList Tryz.prog ops Q rest (a.put dst (.slice a' (n + m) c')) w') :
  wpList Tryz.prog ops Q ({ dst := dst, op := .call { callee := .builtin .append, args := #[s, x], argTypes := #[35, 35] }, type := τ, pos := pos, after := after, guard := none } :: rest) a w :=
 wpList_plain rfl fun _ hK => wp_appS B sa n c0 xs xa m c news hs hx hown hr h1 hN hB fun a' c' w' h2 h3 h4 => hK _ _ (h a' c' w' h2 h3 h4)
theorem wp_appI {dst : Option Tmp} {s x : Operand} {τ : TypeId} {pos : String} {after : Array Edge} {g : Option (Nat × Bool)} {a : Act} {w : World} {K : Act → World → Prop} {Q : Exit → Act → World → Prop}
  (B : Nat) (sa : Option Addr) (n c0 : Nat) (xs : List Value) (xa : Option Addr) (m c : Nat) (news : List Value) (hs : a.eval s = .slice sa n c0) (hx : a.eval x = .slice xa m c) (hown : w.ownsRow B 3 1 (.slice sa n c0) n xs) (hr : ReadAt w xa m c 1 news)
  (h1 : ∀ u ∈ news, u.oneCell' = true) (hN : n + m ≤ 4194304) (hB : B ≤ w.heap.size)
  (h : ∀ a' c' w', w'.ownsRow B 3 1 (.slice a' (n + m) c') (n + m) (xs ++ news) → w.grownBy w' (Value.slice sa n c0).ownBlock → NewOr w sa a' → K (a.put dst (.slice a' (n + m) c')) w') :
  Oper.wp Tryz.prog ({ dst := dst, op := .call { callee := .builtin .append, args := #[s, x], argTypes := #[27, 27] }, type := τ, pos := pos, after := after, guard := g } : Oper) a w K Q := by
 obtain ⟨i, q1, q2, q3, q4⟩ := info_ints
 obtain ⟨a', c', w', hrun, h2, h3, h4⟩ := run_app (w := w) B 27 τ 3 i (.int .i64 0) 1 8 Tryz.underlying27 q1 q2 q3 q4 rfl (by omega) sa n c0 xs hown xa m c news hr h1 (by unfold maxLen; omega) (by omega) hB
 unfold Oper.wp execOp
 simp only [resolve, invoke, builtin, Sem.run_bind, Sem.run_pure, Result.andThen_ok, List.map_toArray, List.map_cons, List.map_nil, hs, hx, hrun]
 exact h a' c' w' h2 h3 h4
theorem wpList_appI {ops : Array Oper} {rest : List Oper} {dst : Option Tmp} {s x : Operand} {τ : TypeId} {pos : String} {after : Array Edge} {a : Act} {w : World} {Q : Exit → Act → World → Prop}
  (B : Nat) (sa : Option Addr) (n c0 : Nat) (xs : List Value) (xa : Option Addr) (m c : Nat) (news : List Value) (hs : a.eval s = .slice sa n c0) (hx : a.eval x = .slice xa m c) (hown : w.ownsRow B 3 1 (.slice sa n c0) n xs) (hr : ReadAt w xa m c 1 news)
  (h1 : ∀ u ∈ news, u.oneCell' = true) (hN : n + m ≤ 4194304) (hB : B ≤ w.heap.size)
  (h : ∀ a' c' w', w'.ownsRow B 3 1 (.slice a' (n + m) c') (n + m) (xs ++ news) → w.grownBy w' (Value.slice sa n c0).ownBlock → NewOr w sa a' → wpList Tryz.prog ops Q rest (a.put dst (.slice a' (n + m) c')) w') :
  wpList Tryz.prog ops Q ({ dst := dst, op := .call { callee := .builtin .append, args := #[s, x], argTypes := #[27, 27] }, type := τ, pos := pos, after := after, guard := none } :: rest) a w :=
 wpList_plain rfl fun _ hK => wp_appI B sa n c0 xs xa m c news hs hx hown hr h1 hN hB fun a' c' w' h2 h3 h4 => hK _ _ (h a' c' w' h2 h3 h4)
theorem wp_appT {dst : Option Tmp} {s x : Operand} {τ : TypeId} {pos : String} {after : Array Edge} {g : Option (Nat × Bool)} {a : Act} {w : World} {K : Act → World → Prop} {Q : Exit → Act → World → Prop}
  (B : Nat) (sa : Option Addr) (n c0 : Nat) (xs : List Value) (xa : Option Addr) (m c : Nat) (news : List Value) (hs : a.eval s = .slice sa n c0) (hx : a.eval x = .slice xa m c) (hown : w.ownsRow B 9 1 (.slice sa n c0) n xs) (hr : ReadAt w xa m c 1 news)
  (h1 : ∀ u ∈ news, u.oneCell' = true) (hN : n + m ≤ 4194304) (hB : B ≤ w.heap.size)
  (h : ∀ a' c' w', w'.ownsRow B 9 1 (.slice a' (n + m) c') (n + m) (xs ++ news) → w.grownBy w' (Value.slice sa n c0).ownBlock → NewOr w sa a' → K (a.put dst (.slice a' (n + m) c')) w') :
  Oper.wp Tryz.prog ({ dst := dst, op := .call { callee := .builtin .append, args := #[s, x], argTypes := #[26, 26] }, type := τ, pos := pos, after := after, guard := g } : Oper) a w K Q := by
 obtain ⟨i, q1, q2, q3, q4⟩ := info_strs
 obtain ⟨a', c', w', hrun, h2, h3, h4⟩ := run_app (w := w) B 26 τ 9 i (.string ⟨#[]⟩) 1 16 Tryz.underlying26 q1 q2 q3 q4 rfl (by omega) sa n c0 xs hown xa m c news hr h1 (by unfold maxLen; omega) (by omega) hB
 unfold Oper.wp execOp
 simp only [resolve, invoke, builtin, Sem.run_bind, Sem.run_pure, Result.andThen_ok, List.map_toArray, List.map_cons, List.map_nil, hs, hx, hrun]
 exact h a' c' w' h2 h3 h4
theorem wpList_appT {ops : Array Oper} {rest : List Oper} {dst : Option Tmp} {s x : Operand} {τ : TypeId} {pos : String} {after : Array Edge} {a : Act} {w : World} {Q : Exit → Act → World → Prop}
  (B : Nat) (sa : Option Addr) (n c0 : Nat) (xs : List Value) (xa : Option Addr) (m c : Nat) (news : List Value) (hs : a.eval s = .slice sa n c0) (hx : a.eval x = .slice xa m c) (hown : w.ownsRow B 9 1 (.slice sa n c0) n xs) (hr : ReadAt w xa m c 1 news)
  (h1 : ∀ u ∈ news, u.oneCell' = true) (hN : n + m ≤ 4194304) (hB : B ≤ w.heap.size)
  (h : ∀ a' c' w', w'.ownsRow B 9 1 (.slice a' (n + m) c') (n + m) (xs ++ news) → w.grownBy w' (Value.slice sa n c0).ownBlock → NewOr w sa a' → wpList Tryz.prog ops Q rest (a.put dst (.slice a' (n + m) c')) w') :
  wpList Tryz.prog ops Q ({ dst := dst, op := .call { callee := .builtin .append, args := #[s, x], argTypes := #[26, 26] }, type := τ, pos := pos, after := after, guard := none } :: rest) a w :=
 wpList_plain rfl fun _ hK => wp_appT B sa n c0 xs xa m c news hs hx hown hr h1 hN hB fun a' c' w' h2 h3 h4 => hK _ _ (h a' c' w' h2 h3 h4)
theorem wp_appM {dst : Option Tmp} {s x : Operand} {τ : TypeId} {pos : String} {after : Array Edge} {g : Option (Nat × Bool)} {a : Act} {w : World} {K : Act → World → Prop} {Q : Exit → Act → World → Prop}
  (B : Nat) (sa : Option Addr) (n c0 : Nat) (xs : List Value) (xa : Option Addr) (m c : Nat) (news : List Value) (hs : a.eval s = .slice sa n c0) (hx : a.eval x = .slice xa m c) (hown : w.ownsRow B 45 8 (.slice sa n c0) n xs) (hr : ReadAt w xa m c 8 news)
  (h1 : ∀ u ∈ news, u.oneCell' = true) (hN : n + m ≤ 4194304) (hB : B ≤ w.heap.size)
  (h : ∀ a' c' w', w'.ownsRow B 45 8 (.slice a' (n + m) c') (n + m) (xs ++ news) → w.grownBy w' (Value.slice sa n c0).ownBlock → NewOr w sa a' → K (a.put dst (.slice a' (n + m) c')) w') :
  Oper.wp Tryz.prog ({ dst := dst, op := .call { callee := .builtin .append, args := #[s, x], argTypes := #[38, 38] }, type := τ, pos := pos, after := after, guard := g } : Oper) a w K Q := by
 obtain ⟨i, q1, q2, q3, q4⟩ := info_msgs
 obtain ⟨a', c', w', hrun, h2, h3, h4⟩ := run_app (w := w) B 38 τ 45 i (.agg #[.int .i64 0, .int .i64 0, .int .i64 0, .int .i64 0, .int .i64 0, .int .i64 0, .string ⟨#[]⟩, .slice none 0 0]) 8 88 Tryz.underlying38 q1 q2 q3 q4 rfl (by omega) sa n c0 xs hown xa m c news hr h1 (by unfold maxLen; omega) (by omega) hB
 unfold Oper.wp execOp
 simp only [resolve, invoke, builtin, Sem.run_bind, Sem.run_pure, Result.andThen_ok, List.map_toArray, List.map_cons, List.map_nil, hs, hx, hrun]
 exact h a' c' w' h2 h3 h4
theorem wpList_appM {ops : Array Oper} {rest : List Oper} {dst : Option Tmp} {s x : Operand} {τ : TypeId} {pos : String} {after : Array Edge} {a : Act} {w : World} {Q : Exit → Act → World → Prop}
  (B : Nat) (sa : Option Addr) (n c0 : Nat) (xs : List Value) (xa : Option Addr) (m c : Nat) (news : List Value) (hs : a.eval s = .slice sa n c0) (hx : a.eval x = .slice xa m c) (hown : w.ownsRow B 45 8 (.slice sa n c0) n xs) (hr : ReadAt w xa m c 8 news)
  (h1 : ∀ u ∈ news, u.oneCell' = true) (hN : n + m ≤ 4194304) (hB : B ≤ w.heap.size)
  (h : ∀ a' c' w', w'.ownsRow B 45 8 (.slice a' (n + m) c') (n + m) (xs ++ news) → w.grownBy w' (Value.slice sa n c0).ownBlock → NewOr w sa a' → wpList Tryz.prog ops Q rest (a.put dst (.slice a' (n + m) c')) w') :
  wpList Tryz.prog ops Q ({ dst := dst, op := .call { callee := .builtin .append, args := #[s, x], argTypes := #[38, 38] }, type := τ, pos := pos, after := after, guard := none } :: rest) a w :=
 wpList_plain rfl fun _ hK => wp_appM B sa n c0 xs xa m c news hs hx hown hr h1 hN hB fun a' c' w' h2 h3 h4 => hK _ _ (h a' c' w' h2 h3 h4)
theorem wp_appA {dst : Option Tmp} {s x : Operand} {τ : TypeId} {pos : String} {after : Array Edge} {g : Option (Nat × Bool)} {a : Act} {w : World} {K : Act → World → Prop} {Q : Exit → Act → World → Prop}
  (B : Nat) (sa : Option Addr) (n c0 : Nat) (xs : List Value) (xa : Option Addr) (m c : Nat) (news : List Value) (hs : a.eval s = .slice sa n c0) (hx : a.eval x = .slice xa m c) (hown : w.ownsRow B 105 2 (.slice sa n c0) n xs) (hr : ReadAt w xa m c 2 news)
  (h1 : ∀ u ∈ news, u.oneCell' = true) (hN : n + m ≤ 4194304) (hB : B ≤ w.heap.size)
  (h : ∀ a' c' w', w'.ownsRow B 105 2 (.slice a' (n + m) c') (n + m) (xs ++ news) → w.grownBy w' (Value.slice sa n c0).ownBlock → NewOr w sa a' → K (a.put dst (.slice a' (n + m) c')) w') :
  Oper.wp Tryz.prog ({ dst := dst, op := .call { callee := .builtin .append, args := #[s, x], argTypes := #[39, 39] }, type := τ, pos := pos, after := after, guard := g } : Oper) a w K Q := by
 obtain ⟨i, q1, q2, q3, q4⟩ := info_acks
 obtain ⟨a', c', w', hrun, h2, h3, h4⟩ := run_app (w := w) B 39 τ 105 i (.agg #[.int .i64 0, .slice none 0 0]) 2 32 Tryz.underlying39 q1 q2 q3 q4 rfl (by omega) sa n c0 xs hown xa m c news hr h1 (by unfold maxLen; omega) (by omega) hB
 unfold Oper.wp execOp
 simp only [resolve, invoke, builtin, Sem.run_bind, Sem.run_pure, Result.andThen_ok, List.map_toArray, List.map_cons, List.map_nil, hs, hx, hrun]
 exact h a' c' w' h2 h3 h4
theorem wpList_appA {ops : Array Oper} {rest : List Oper} {dst : Option Tmp} {s x : Operand} {τ : TypeId} {pos : String} {after : Array Edge} {a : Act} {w : World} {Q : Exit → Act → World → Prop}
  (B : Nat) (sa : Option Addr) (n c0 : Nat) (xs : List Value) (xa : Option Addr) (m c : Nat) (news : List Value) (hs : a.eval s = .slice sa n c0) (hx : a.eval x = .slice xa m c) (hown : w.ownsRow B 105 2 (.slice sa n c0) n xs) (hr : ReadAt w xa m c 2 news)
  (h1 : ∀ u ∈ news, u.oneCell' = true) (hN : n + m ≤ 4194304) (hB : B ≤ w.heap.size)
  (h : ∀ a' c' w', w'.ownsRow B 105 2 (.slice a' (n + m) c') (n + m) (xs ++ news) → w.grownBy w' (Value.slice sa n c0).ownBlock → NewOr w sa a' → wpList Tryz.prog ops Q rest (a.put dst (.slice a' (n + m) c')) w') :
  wpList Tryz.prog ops Q ({ dst := dst, op := .call { callee := .builtin .append, args := #[s, x], argTypes := #[39, 39] }, type := τ, pos := pos, after := after, guard := none } :: rest) a w :=
 wpList_plain rfl fun _ hK => wp_appA B sa n c0 xs xa m c news hs hx hown hr h1 hN hB fun a' c' w' h2 h3 h4 => hK _ _ (h a' c' w' h2 h3 h4)
end Go.Proofs.YtffklmlljekceaaGreat
