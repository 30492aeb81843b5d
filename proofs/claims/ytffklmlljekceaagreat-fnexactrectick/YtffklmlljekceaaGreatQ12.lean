import Derived.Test.YtffklmlljekceaaGreatQ11
namespace Go.Proofs.YtffklmlljekceaaGreat
open Go.ChangeShapes Go.WideShapes Go.ChangeAt Go.RowKit
set_option linter.unusedSimpArgs false
set_option linter.unusedVariables false
set_option maxHeartbeats 8000000
set_option maxRecDepth 20000
theorem Wrote.base {w w0 w' : World} {ws : Ws} (hb : Below w.heap.size w w0) (h : Wrote w0 w' ws) : Wrote w w' ws :=
 ⟨h.os.trans hb.os, h.tape.trans hb.tape, h.output.trans hb.output, Nat.le_trans hb.size h.size, fun k hk hn => (h.block k (Nat.lt_of_lt_of_le hk hb.size) hn).trans (hb.block k hk),
  fun a ha hn => (h.keep a (Nat.lt_of_lt_of_le ha hb.size) hn).trans (hb.cell (p := a) ha), h.new, fun a ha => (h.free a (Nat.lt_of_lt_of_le ha hb.size)).trans (World.frozen?_of_block (hb.block a.block ha))⟩
theorem Wrote.blk {w w' : World} {ws : Ws} {b : Nat} {c : Array Value} {t : TypeId} (h : Wrote w w' ws) (hb : Blk w b c t) (hn : ∀ p ∈ ws, p.1.block ≠ b) : Blk w' b c t := (h.block b hb.lt hn).trans hb
theorem Room.lt {w : World} {a : Option Addr} {m : Nat} (h : Room w a m) {j : Nat} (hj : j < m) : (adr a j).block < w.heap.size := by
 obtain ⟨b, off, rfl, hb, _⟩ := h j hj
 exact hb
theorem LayM.ext {w w' : World} {a : Option Addr} {A : Nat → Option Addr} {N cp : Nat → Nat} {n : Nat} (h : LayM w a A N cp n) (k : Below w.heap.size w w') : LayM w' a A N cp n :=
 ⟨h.room.ext k, fun i hi => (k.cell (p := adr a (i * 8 + 7)) (h.room.lt (by omega))).trans (h.hd i hi), fun i hi => (h.inner i hi).ext k, h.far, h.apart⟩
theorem LayM.wrote {w w' : World} {a : Option Addr} {A : Nat → Option Addr} {N cp : Nat → Nat} {n : Nat} {ws : Ws} (h : LayM w a A N cp n) (k : Wrote w w' ws) (hn : ∀ p ∈ ws, ∀ q, q < n * 8 → p.1 ≠ adr a q) : LayM w' a A N cp n :=
 ⟨h.room.wrote k, fun i hi => (k.keep _ (h.room.lt (by omega)) (fun p hp => hn p hp _ (by omega))).trans (h.hd i hi), fun i hi => (h.inner i hi).wrote k, h.far, h.apart⟩
theorem markM_int (a : Option Addr) (A : Nat → Option Addr) (N cp : Nat → Nat) (n cap k : Nat) (K : Int) (w : World) (hK : K = (k : Int)) (hk : kM N k n ≤ 1152921504606846900) (hn : n ≤ 1152921504606846976) (h : LayM w a A N cp n) :
  Calls Tryz.prog 19 #[.slice a n cap, .int .i64 K] w fun e w' => e = .returned (.int .i64 ((kM N k n : Nat) : Int)) ∧ Wrote w w' (wsM a A N k n) := by subst hK; exact markM_any a A N cp n cap k w hk hn h
theorem heldM_int (a : Option Addr) (A : Nat → Option Addr) (N cp : Nat → Nat) (n cap k : Nat) (K : Int) (w : World) (hK : K = (k : Int)) (hk : kM N k n ≤ 1152921504606846900) (hn : n ≤ 1152921504606846976) (h : LayM w a A N cp n) (hv : ∀ p ∈ wsM a A N k n, w.cell? p.1 = some p.2) :
  Calls Tryz.prog 20 #[.slice a n cap, .int .i64 K] w fun e w' => e = .returned (.int .i64 ((kM N k n : Nat) : Int)) ∧ Below w.heap.size w w' := by subst hK; exact heldM_any a A N cp n cap k w hk hn h hv
theorem LayA.ext {w w' : World} {a : Option Addr} {A : Nat → Option Addr} {N cp : Nat → Nat} {n : Nat} (h : LayA w a A N cp n) (k : Below w.heap.size w w') : LayA w' a A N cp n :=
 ⟨h.room.ext k, fun i hi => (k.cell (p := adr a (i * 2 + 1)) (h.room.lt (by omega))).trans (h.hd i hi), fun i hi => (h.inner i hi).ext k, h.far, h.apart⟩
theorem LayA.wrote {w w' : World} {a : Option Addr} {A : Nat → Option Addr} {N cp : Nat → Nat} {n : Nat} {ws : Ws} (h : LayA w a A N cp n) (k : Wrote w w' ws) (hn : ∀ p ∈ ws, ∀ q, q < n * 2 → p.1 ≠ adr a q) : LayA w' a A N cp n :=
 ⟨h.room.wrote k, fun i hi => (k.keep _ (h.room.lt (by omega)) (fun p hp => hn p hp _ (by omega))).trans (h.hd i hi), fun i hi => (h.inner i hi).wrote k, h.far, h.apart⟩
theorem markA_int (a : Option Addr) (A : Nat → Option Addr) (N cp : Nat → Nat) (n cap k : Nat) (K : Int) (w : World) (hK : K = (k : Int)) (hk : kA N k n ≤ 1152921504606846900) (hn : n ≤ 1152921504606846976) (h : LayA w a A N cp n) :
  Calls Tryz.prog 51 #[.slice a n cap, .int .i64 K] w fun e w' => e = .returned (.int .i64 ((kA N k n : Nat) : Int)) ∧ Wrote w w' (wsA a A N k n) := by subst hK; exact markA_any a A N cp n cap k w hk hn h
theorem heldA_int (a : Option Addr) (A : Nat → Option Addr) (N cp : Nat → Nat) (n cap k : Nat) (K : Int) (w : World) (hK : K = (k : Int)) (hk : kA N k n ≤ 1152921504606846900) (hn : n ≤ 1152921504606846976) (h : LayA w a A N cp n) (hv : ∀ p ∈ wsA a A N k n, w.cell? p.1 = some p.2) :
  Calls Tryz.prog 56 #[.slice a n cap, .int .i64 K] w fun e w' => e = .returned (.int .i64 ((kA N k n : Nat) : Int)) ∧ Below w.heap.size w w' := by subst hK; exact heldA_any a A N cp n cap k w hk hn h hv
theorem markT_int (a : Option Addr) (n cap k : Nat) (K : Int) (w : World) (hK : K = (k : Int)) (hk : k + n ≤ 1152921504606846900) (h : Room w a n) :
  Calls Tryz.prog 48 #[.slice a n cap, .int .i64 K] w fun e w' => e = .returned (.int .i64 ((k + n : Nat) : Int)) ∧ Wrote w w' (wsT a k n) := by subst hK; exact markT_any a n cap k w hk h
theorem heldT_int (a : Option Addr) (n cap k : Nat) (K : Int) (w : World) (hK : K = (k : Int)) (hk : k + n ≤ 1152921504606846900) (h : Room w a n) (hv : ∀ p ∈ wsT a k n, w.cell? p.1 = some p.2) :
  Calls Tryz.prog 53 #[.slice a n cap, .int .i64 K] w fun e w' => e = .returned (.int .i64 ((k + n : Nat) : Int)) ∧ Below w.heap.size w w' := by subst hK; exact heldT_any a n cap k w hk h hv
theorem markDisk (x y : Int) (a : Option Addr) (n cap k : Nat) (K : Int) (w : World) (hK : K = (k : Int)) (hk : k + 2 * n ≤ 1152921504606846900) (h : Room w a (n * 2)) :
  Calls Tryz.prog 47 #[.agg #[.int .i64 x, .int .i64 y, .slice a n cap], .int .i64 K] w fun e w' => e = .returned (.int .i64 ((k + 2 * n : Nat) : Int)) ∧ Wrote w w' (wsS a k n) := by
 subst hK
 have hB := hid (show Below w.heap.size w (w.alloc (.cells #[.int .i64 x, .int .i64 y, .slice a n cap] 37)) from ext_alloc (Below.refl _ _) _)
 go_enter Tryz.func47, Tryz.ntmps47
 go_wp2_with fail
 refine (markS_any a n cap k _ hk (h.ext hB.out)).mono ?_
 rintro e z ⟨rfl, hz⟩
 have WZ := hid (Wrote.base hB.out hz)
 clear hz
 go_wp2
 go_ret
 exact ⟨rfl, WZ.out⟩
theorem heldDisk (x y : Int) (a : Option Addr) (n cap k : Nat) (K : Int) (w : World) (hK : K = (k : Int)) (hk : k + 2 * n ≤ 1152921504606846900) (h : Room w a (n * 2)) (hv : ∀ p ∈ wsS a k n, w.cell? p.1 = some p.2) :
  Calls Tryz.prog 52 #[.agg #[.int .i64 x, .int .i64 y, .slice a n cap], .int .i64 K] w fun e w' => e = .returned (.int .i64 ((k + 2 * n : Nat) : Int)) ∧ Below w.heap.size w w' := by
 subst hK
 have hB := hid (show Below w.heap.size w (w.alloc (.cells #[.int .i64 x, .int .i64 y, .slice a n cap] 37)) from ext_alloc (Below.refl _ _) _)
 have HV := hid (show ∀ p ∈ wsS a k n, (w.alloc (.cells #[.int .i64 x, .int .i64 y, .slice a n cap] 37)).cell? p.1 = some p.2 from fun p hp => by
  obtain ⟨j, hj, e⟩ := wsS_mem _ _ _ p hp
  rw [hB.out.cell (p := p.1) (by rw [e]; exact h.lt hj)]
  exact hv p hp)
 clear hv
 go_enter Tryz.func52, Tryz.ntmps52
 go_wp2_with fail
 refine (heldS_any a n cap k _ hk (h.ext hB.out) HV.out).mono ?_
 rintro e z ⟨rfl, hz⟩
 have WZ := hid (ext_trans hB.out hz)
 have e9 : ¬ (((k + 2 * n : Nat) : Int)) < 0 := by omega
 clear hz
 go_wp2
 go_ret
 exact ⟨rfl, WZ.out⟩
def zR (a : Option Addr) (m : Nat) (x : Addr) : Prop := ∃ j, j < m ∧ x = adr a j
def zN (a : Option Addr) (m : Nat) (A : Nat → Option Addr) (N : Nat → Nat) (n : Nat) (x : Addr) : Prop := zR a m x ∨ ∃ i j, i < n ∧ j < N i ∧ x = adr (A i) j
def zone (r : Rc) (p : RcP) (AH : Nat → Option Addr) (NH : Nat → Nat) (AA : Nat → Option Addr) (NA : Nat → Nat) : Nat → Addr → Prop
 | 0 => zR p.aS (r.ss.length * 2)
 | 1 => zR p.aD (r.ds.length * 2)
 | 2 => zN p.aH (r.held.length * 8) AH (fun i => NH i * 2) r.held.length
 | 3 => zR p.aW r.wish.length
 | 4 => zR p.aY r.yes.length
 | 5 => zR p.aB (r.best.length * 2)
 | 6 => zN p.aA (r.acks.length * 2) AA NA r.acks.length
 | _ => fun _ => False
structure RcLay (w : World) (r : Rc) (p : RcP) (AH : Nat → Option Addr) (NH cH : Nat → Nat) (AA : Nat → Option Addr) (NA cA : Nat → Nat) : Prop where
 s : Room w p.aS (r.ss.length * 2)
 d : Room w p.aD (r.ds.length * 2)
 h : LayM w p.aH AH NH cH r.held.length
 t : Room w p.aW r.wish.length
 y : Room w p.aY r.yes.length
 b : Room w p.aB (r.best.length * 2)
 a : LayA w p.aA AA NA cA r.acks.length
 far : ∀ i j x, i ≠ j → zone r p AH NH AA NA i x → zone r p AH NH AA NA j x → False
theorem RcLay.ext {w w' : World} {r : Rc} {p : RcP} {AH : Nat → Option Addr} {NH cH : Nat → Nat} {AA : Nat → Option Addr} {NA cA : Nat → Nat} (h : RcLay w r p AH NH cH AA NA cA) (k : Below w.heap.size w w') : RcLay w' r p AH NH cH AA NA cA :=
 ⟨h.s.ext k, h.d.ext k, h.h.ext k, h.t.ext k, h.y.ext k, h.b.ext k, h.a.ext k, h.far⟩
theorem RcLay.lt {w : World} {r : Rc} {p : RcP} {AH : Nat → Option Addr} {NH cH : Nat → Nat} {AA : Nat → Option Addr} {NA cA : Nat → Nat} (h : RcLay w r p AH NH cH AA NA cA) : ∀ (i : Nat) (x : Addr), zone r p AH NH AA NA i x → x.block < w.heap.size
 | 0, x, hz => by obtain ⟨j, hj, rfl⟩ := hz; exact h.s.lt hj
 | 1, x, hz => by obtain ⟨j, hj, rfl⟩ := hz; exact h.d.lt hj
 | 2, x, hz => by
  rcases hz with ⟨j, hj, rfl⟩ | ⟨i, j, hi, hj, rfl⟩
  ·exact h.h.room.lt hj
  ·exact (h.h.inner i hi).lt hj
 | 3, x, hz => by obtain ⟨j, hj, rfl⟩ := hz; exact h.t.lt hj
 | 4, x, hz => by obtain ⟨j, hj, rfl⟩ := hz; exact h.y.lt hj
 | 5, x, hz => by obtain ⟨j, hj, rfl⟩ := hz; exact h.b.lt hj
 | 6, x, hz => by
  rcases hz with ⟨j, hj, rfl⟩ | ⟨i, j, hi, hj, rfl⟩
  ·exact h.a.room.lt hj
  exact (h.a.inner i hi).lt hj
 | _ + 7, x, hz => hz.elim
def cnt (r : Rc) (NH NA : Nat → Nat) (k : Nat) : Nat → Nat
 | 0 => k
 | 1 => k + 2 * r.ss.length
 | 2 => k + 2 * r.ss.length + 2 * r.ds.length
 | 3 => kM NH (k + 2 * r.ss.length + 2 * r.ds.length) r.held.length
 | 4 => kM NH (k + 2 * r.ss.length + 2 * r.ds.length) r.held.length + r.wish.length
 | 5 => kM NH (k + 2 * r.ss.length + 2 * r.ds.length) r.held.length + r.wish.length + r.yes.length
 | 6 => kM NH (k + 2 * r.ss.length + 2 * r.ds.length) r.held.length + r.wish.length + r.yes.length + 2 * r.best.length
 | _ => kA NA (kM NH (k + 2 * r.ss.length + 2 * r.ds.length) r.held.length + r.wish.length + r.yes.length + 2 * r.best.length) r.acks.length
def wsL (r : Rc) (p : RcP) (AH : Nat → Option Addr) (NH : Nat → Nat) (AA : Nat → Option Addr) (NA : Nat → Nat) (k : Nat) : Nat → Ws
 | 0 => wsS p.aS (cnt r NH NA k 0) r.ss.length
 | 1 => wsS p.aD (cnt r NH NA k 1) r.ds.length
 | 2 => wsM p.aH AH NH (cnt r NH NA k 2) r.held.length
 | 3 => wsT p.aW (cnt r NH NA k 3) r.wish.length
 | 4 => wsI p.aY (cnt r NH NA k 4) r.yes.length
 | 5 => wsS p.aB (cnt r NH NA k 5) r.best.length
 | 6 => wsA p.aA AA NA (cnt r NH NA k 6) r.acks.length
 | _ => []
theorem wsL_zone (r : Rc) (p : RcP) (AH : Nat → Option Addr) (NH : Nat → Nat) (AA : Nat → Option Addr) (NA : Nat → Nat) (k : Nat) : ∀ (i : Nat) (q : Addr × Value), q ∈ wsL r p AH NH AA NA k i → zone r p AH NH AA NA i q.1
 | 0, q, h => wsS_mem _ _ _ q h
 | 1, q, h => wsS_mem _ _ _ q h
 | 2, q, h => by
  rcases wsM_mem _ _ _ _ _ q h with ⟨i, t, h1, h2, h3⟩ | ⟨i, j, h1, h2, h3⟩
  ·exact .inl ⟨i * 8 + t, by omega, h3⟩
  ·exact .inr ⟨i, j, h1, h2, h3⟩
 | 3, q, h => wsT_mem _ _ _ q h
 | 4, q, h => wsI_mem _ _ _ q h
 | 5, q, h => wsS_mem _ _ _ q h
 | 6, q, h => by
  rcases wsA_mem _ _ _ _ _ q h with ⟨i, t, h1, h2, h3⟩ | ⟨i, j, h1, h2, h3⟩
  ·exact .inl ⟨i * 2 + t, by omega, h3⟩
  exact .inr ⟨i, j, h1, h2, h3⟩
 | _ + 7, q, h => by simp [wsL] at h
def wsTo (r : Rc) (p : RcP) (AH : Nat → Option Addr) (NH : Nat → Nat) (AA : Nat → Option Addr) (NA : Nat → Nat) (k : Nat) : Nat → Ws
 | 0 => []
 | m + 1 => wsTo r p AH NH AA NA k m ++ wsL r p AH NH AA NA k m
theorem wsTo_mem (r : Rc) (p : RcP) (AH : Nat → Option Addr) (NH : Nat → Nat) (AA : Nat → Option Addr) (NA : Nat → Nat) (k : Nat) : ∀ (m : Nat) (q : Addr × Value), q ∈ wsTo r p AH NH AA NA k m → ∃ i, i < m ∧ q ∈ wsL r p AH NH AA NA k i
 | 0, q, h => by simp [wsTo] at h
 | m + 1, q, h => by
  rcases List.mem_append.1 h with h | h
  ·obtain ⟨i, hi, hq⟩ := wsTo_mem r p AH NH AA NA k m q h
   exact ⟨i, by omega, hq⟩
  exact ⟨m, by omega, h⟩
theorem wsTo_sub (r : Rc) (p : RcP) (AH : Nat → Option Addr) (NH : Nat → Nat) (AA : Nat → Option Addr) (NA : Nat → Nat) (k : Nat) : ∀ (m i : Nat) (q : Addr × Value), i < m → q ∈ wsL r p AH NH AA NA k i → q ∈ wsTo r p AH NH AA NA k m
 | 0, i, q, h, _ => absurd h (by omega)
 | m + 1, i, q, h, hq => by
  by_cases e : i = m
  ·subst e; exact List.mem_append.2 (.inr hq)
  exact List.mem_append.2 (.inl (wsTo_sub r p AH NH AA NA k m i q (by omega) hq))
theorem RcLay.join {w0 w1 w2 : World} {r : Rc} {p : RcP} {AH : Nat → Option Addr} {NH cH : Nat → Nat} {AA : Nat → Option Addr} {NA cA : Nat → Nat} {k m : Nat} (h : RcLay w0 r p AH NH cH AA NA cA) (h1 : Wrote w0 w1 (wsTo r p AH NH AA NA k m)) (h2 : Wrote w1 w2 (wsL r p AH NH AA NA k m)) : Wrote w0 w2 (wsTo r p AH NH AA NA k (m + 1)) :=
 h1.trans h2 (fun q hq => by obtain ⟨i, _, hq'⟩ := wsTo_mem r p AH NH AA NA k m q hq; exact h.lt i _ (wsL_zone r p AH NH AA NA k i q hq'))
  (fun q hq q' hq' e => by
   obtain ⟨i, hi, h9⟩ := wsTo_mem r p AH NH AA NA k m q hq
   exact h.far m i q.1 (by omega) (e ▸ wsL_zone r p AH NH AA NA k m q' hq') (wsL_zone r p AH NH AA NA k i q h9))
theorem RcLay.headM {w0 : World} {r : Rc} {p : RcP} {AH : Nat → Option Addr} {NH cH : Nat → Nat} {AA : Nat → Option Addr} {NA cA : Nat → Nat} {k m : Nat} (h : RcLay w0 r p AH NH cH AA NA cA) (hm : m ≤ 2) : ∀ q ∈ wsTo r p AH NH AA NA k m, ∀ j, j < r.held.length * 8 → q.1 ≠ adr p.aH j := fun q hq j hj e => by
 obtain ⟨i, hi, h9⟩ := wsTo_mem r p AH NH AA NA k m q hq
 exact h.far i 2 q.1 (by omega) (wsL_zone r p AH NH AA NA k i q h9) (.inl ⟨j, hj, e⟩)
theorem RcLay.headA {w0 : World} {r : Rc} {p : RcP} {AH : Nat → Option Addr} {NH cH : Nat → Nat} {AA : Nat → Option Addr} {NA cA : Nat → Nat} {k m : Nat} (h : RcLay w0 r p AH NH cH AA NA cA) (hm : m ≤ 6) : ∀ q ∈ wsTo r p AH NH AA NA k m, ∀ j, j < r.acks.length * 2 → q.1 ≠ adr p.aA j := fun q hq j hj e => by
 obtain ⟨i, hi, h9⟩ := wsTo_mem r p AH NH AA NA k m q hq
 exact h.far i 6 q.1 (by omega) (wsL_zone r p AH NH AA NA k i q h9) (.inl ⟨j, hj, e⟩)
theorem markRec (r : Rc) (p : RcP) (AH : Nat → Option Addr) (NH cH : Nat → Nat) (AA : Nat → Option Addr) (NA cA : Nat → Nat) (k : Nat) (w : World) (hk : cnt r NH NA k 7 ≤ 1152921504606846900) (hS : RcSmall r) (h : RcLay w r p AH NH cH AA NA cA) :
  Calls Tryz.prog 13 #[.agg (rcV r p), .int .i64 k] w fun e w' => e = .returned (.int .i64 ((cnt r NH NA k 7 : Nat) : Int)) ∧ Wrote w w' (wsTo r p AH NH AA NA k 7) := by
 have hB := hid (show Below w.heap.size w (w.alloc (.cells (rcV r p) 41)) from ext_alloc (Below.refl _ _) _)
 have HL := hid (h.ext hB.out)
 have HLT := hid h.lt
 have b0 := hid (Blk.new w (rcV r p) 41)
 have HS := hid hS
 have c7 := hid hk
 have c6 := hid (show cnt r NH NA k 6 ≤ 1152921504606846900 from Nat.le_trans (kA_le NA _ 0 _ (Nat.zero_le _)) hk)
 have c5 := hid (show cnt r NH NA k 5 ≤ 1152921504606846900 from Nat.le_trans (Nat.le_add_right _ _) c6.out)
 have c4 := hid (show cnt r NH NA k 4 ≤ 1152921504606846900 from Nat.le_trans (Nat.le_add_right _ _) c5.out)
 have c3 := hid (show cnt r NH NA k 3 ≤ 1152921504606846900 from Nat.le_trans (Nat.le_add_right _ _) c4.out)
 have c2 := hid (show cnt r NH NA k 2 ≤ 1152921504606846900 from Nat.le_trans (kM_le NH _ 0 _ (Nat.zero_le _)) c3.out)
 have c1 := hid (show cnt r NH NA k 1 ≤ 1152921504606846900 from Nat.le_trans (Nat.le_add_right _ _) c2.out)
 have NB := hid (show ∀ m, ∀ q ∈ wsTo r p AH NH AA NA k m, q.1.block ≠ w.heap.size from fun m q hq e => by
  obtain ⟨i, hi, h9⟩ := wsTo_mem r p AH NH AA NA k m q hq
  have := HLT.out i _ (wsL_zone r p AH NH AA NA k i q h9)
  omega)
 have U0 := hid (show Wrote (w.alloc (.cells (rcV r p) 41)) (w.alloc (.cells (rcV r p) 41)) (wsTo r p AH NH AA NA k 0) from Wrote.refl _)
 clear h hk hS
 go_enter Tryz.func13, Tryz.ntmps13
 go_wp2_with fail
 refine (markDisk r.sp r.sk p.aS r.ss.length p.cS (cnt r NH NA k 0) _ _ rfl c1.out (HL.out.s.wrote U0.out)).mono ?_
 rintro e w1 ⟨rfl, hz⟩
 have U1 := hid (HL.out.join U0.out hz)
 have cb1 := (U1.out.blk b0.out (NB.out 1)).cell
 clear hz U0
 go_wp2_with fail
 refine (markDisk r.dp r.dk p.aD r.ds.length p.cD (cnt r NH NA k 1) _ _ rfl c2.out (HL.out.d.wrote U1.out)).mono ?_
 rintro e w2 ⟨rfl, hz⟩
 have U2 := hid (HL.out.join U1.out hz)
 have cb2 := (U2.out.blk b0.out (NB.out 2)).cell
 clear hz U1 cb1
 go_wp2_with fail
 refine (markM_int p.aH AH NH cH r.held.length p.cH (cnt r NH NA k 2) _ _ rfl c3.out (by have := HS.out.lH; omega) (HL.out.h.wrote U2.out (HL.out.headM (by omega)))).mono ?_
 rintro e w3 ⟨rfl, hz⟩
 have U3 := hid (HL.out.join U2.out hz)
 have cb3 := (U3.out.blk b0.out (NB.out 3)).cell
 clear hz U2 cb2
 go_wp2_with fail
 refine (markT_int p.aW r.wish.length p.cW (cnt r NH NA k 3) _ _ rfl c4.out (HL.out.t.wrote U3.out)).mono ?_
 rintro e w4 ⟨rfl, hz⟩
 have U4 := hid (HL.out.join U3.out hz)
 have cb4 := (U4.out.blk b0.out (NB.out 4)).cell
 clear hz U3 cb3
 go_wp2_with fail
 refine (markI_int p.aY r.yes.length p.cY (cnt r NH NA k 4) _ _ rfl c5.out (HL.out.y.wrote U4.out)).mono ?_
 rintro e w5 ⟨rfl, hz⟩
 have U5 := hid (HL.out.join U4.out hz)
 have cb5 := (U5.out.blk b0.out (NB.out 5)).cell
 clear hz U4 cb4
 go_wp2_with fail
 refine (markS_int p.aB r.best.length p.cB (cnt r NH NA k 5) _ _ rfl c6.out (HL.out.b.wrote U5.out)).mono ?_
 rintro e w6 ⟨rfl, hz⟩
 have U6 := hid (HL.out.join U5.out hz)
 have cb6 := (U6.out.blk b0.out (NB.out 6)).cell
 clear hz U5 cb5
 go_wp2_with fail
 refine (markA_int p.aA AA NA cA r.acks.length p.cA (cnt r NH NA k 6) _ _ rfl c7.out (by have := HS.out.lA; omega) (HL.out.a.wrote U6.out (HL.out.headA (by omega)))).mono ?_
 rintro e w7 ⟨rfl, hz⟩
 have U7 := hid (HL.out.join U6.out hz)
 have cb7 := (U7.out.blk b0.out (NB.out 7)).cell
 clear hz U6 cb6
 go_wp2
 go_ret
 exact ⟨rfl, Wrote.base hB.out U7.out⟩
theorem heldRec (r : Rc) (p : RcP) (AH : Nat → Option Addr) (NH cH : Nat → Nat) (AA : Nat → Option Addr) (NA cA : Nat → Nat) (k : Nat) (w : World) (hk : cnt r NH NA k 7 ≤ 1152921504606846900) (hS : RcSmall r) (h : RcLay w r p AH NH cH AA NA cA) (hv : ∀ q ∈ wsTo r p AH NH AA NA k 7, w.cell? q.1 = some q.2) :
  Calls Tryz.prog 15 #[.agg (rcV r p), .int .i64 k] w fun e w' => e = .returned (.int .i64 ((cnt r NH NA k 7 : Nat) : Int)) ∧ Below w.heap.size w w' := by
 have hB := hid (show Below w.heap.size w (w.alloc (.cells (rcV r p) 41)) from ext_alloc (Below.refl _ _) _)
 have HL := hid (h.ext hB.out)
 have HV := hid (show ∀ i, i < 7 → ∀ w', Below (w.alloc (.cells (rcV r p) 41)).heap.size (w.alloc (.cells (rcV r p) 41)) w' → ∀ q ∈ wsL r p AH NH AA NA k i, w'.cell? q.1 = some q.2 from fun i hi w' hb q hq => by
  have hl := h.lt i _ (wsL_zone r p AH NH AA NA k i q hq)
  rw [(ext_trans hB.out hb).cell (p := q.1) hl]
  exact hv q (wsTo_sub r p AH NH AA NA k 7 i q hi hq))
 have b0 := hid (Blk.new w (rcV r p) 41)
 have HS := hid hS
 have c7 := hid hk
 have c6 := hid (show cnt r NH NA k 6 ≤ 1152921504606846900 from Nat.le_trans (kA_le NA _ 0 _ (Nat.zero_le _)) hk)
 have c5 := hid (show cnt r NH NA k 5 ≤ 1152921504606846900 from Nat.le_trans (Nat.le_add_right _ _) c6.out)
 have c4 := hid (show cnt r NH NA k 4 ≤ 1152921504606846900 from Nat.le_trans (Nat.le_add_right _ _) c5.out)
 have c3 := hid (show cnt r NH NA k 3 ≤ 1152921504606846900 from Nat.le_trans (Nat.le_add_right _ _) c4.out)
 have c2 := hid (show cnt r NH NA k 2 ≤ 1152921504606846900 from Nat.le_trans (kM_le NH _ 0 _ (Nat.zero_le _)) c3.out)
 have c1 := hid (show cnt r NH NA k 1 ≤ 1152921504606846900 from Nat.le_trans (Nat.le_add_right _ _) c2.out)
 have U0 := hid (Below.refl (w.alloc (.cells (rcV r p) 41)).heap.size (w.alloc (.cells (rcV r p) 41)))
 clear h hk hS hv
 go_enter Tryz.func15, Tryz.ntmps15
 go_wp2_with fail
 refine (heldDisk r.sp r.sk p.aS r.ss.length p.cS (cnt r NH NA k 0) _ _ rfl c1.out (HL.out.s.ext U0.out) (HV.out 0 (by omega) _ U0.out)).mono ?_
 rintro e w1 ⟨rfl, hz⟩
 have U1 := hid (ext_trans U0.out hz)
 have cb1 := (b0.out.ext U1.out).cell
 have q1 : ¬ ((cnt r NH NA k 0 + 2 * r.ss.length : Nat) : Int) < 0 := by omega
 clear hz U0
 go_wp2_with fail
 refine (heldDisk r.dp r.dk p.aD r.ds.length p.cD (cnt r NH NA k 1) _ _ rfl c2.out (HL.out.d.ext U1.out) (HV.out 1 (by omega) _ U1.out)).mono ?_
 rintro e w2 ⟨rfl, hz⟩
 have U2 := hid (ext_trans U1.out hz)
 have cb2 := (b0.out.ext U2.out).cell
 have q2 : ¬ ((cnt r NH NA k 1 + 2 * r.ds.length : Nat) : Int) < 0 := by omega
 clear hz U1 cb1 q1
 go_wp2_with fail
 refine (heldM_int p.aH AH NH cH r.held.length p.cH (cnt r NH NA k 2) _ _ rfl c3.out (by have := HS.out.lH; omega) (HL.out.h.ext U2.out) (HV.out 2 (by omega) _ U2.out)).mono ?_
 rintro e w3 ⟨rfl, hz⟩
 have U3 := hid (ext_trans U2.out hz)
 have cb3 := (b0.out.ext U3.out).cell
 have q3 : ¬ ((kM NH (cnt r NH NA k 2) r.held.length : Nat) : Int) < 0 := by omega
 clear hz U2 cb2 q2
 go_wp2_with fail
 refine (heldT_int p.aW r.wish.length p.cW (cnt r NH NA k 3) _ _ rfl c4.out (HL.out.t.ext U3.out) (HV.out 3 (by omega) _ U3.out)).mono ?_
 rintro e w4 ⟨rfl, hz⟩
 have U4 := hid (ext_trans U3.out hz)
 have cb4 := (b0.out.ext U4.out).cell
 have q4 : ¬ ((cnt r NH NA k 3 + r.wish.length : Nat) : Int) < 0 := by omega
 clear hz U3 cb3 q3
 go_wp2_with fail
 refine (heldI_int p.aY r.yes.length p.cY (cnt r NH NA k 4) _ _ rfl c5.out (HL.out.y.ext U4.out) (HV.out 4 (by omega) _ U4.out)).mono ?_
 rintro e w5 ⟨rfl, hz⟩
 have U5 := hid (ext_trans U4.out hz)
 have cb5 := (b0.out.ext U5.out).cell
 have q5 : ¬ ((cnt r NH NA k 4 + r.yes.length : Nat) : Int) < 0 := by omega
 clear hz U4 cb4 q4
 go_wp2_with fail
 refine (heldS_int p.aB r.best.length p.cB (cnt r NH NA k 5) _ _ rfl c6.out (HL.out.b.ext U5.out) (HV.out 5 (by omega) _ U5.out)).mono ?_
 rintro e w6 ⟨rfl, hz⟩
 have U6 := hid (ext_trans U5.out hz)
 have cb6 := (b0.out.ext U6.out).cell
 have q6 : ¬ ((cnt r NH NA k 5 + 2 * r.best.length : Nat) : Int) < 0 := by omega
 clear hz U5 cb5 q5
 go_wp2_with fail
 refine (heldA_int p.aA AA NA cA r.acks.length p.cA (cnt r NH NA k 6) _ _ rfl c7.out (by have := HS.out.lA; omega) (HL.out.a.ext U6.out) (HV.out 6 (by omega) _ U6.out)).mono ?_
 rintro e w7 ⟨rfl, hz⟩
 have U7 := hid (ext_trans U6.out hz)
 have cb7 := (b0.out.ext U7.out).cell
 have q7 : ¬ ((kA NA (cnt r NH NA k 6) r.acks.length : Nat) : Int) < 0 := by omega
 clear hz U6 cb6 q6
 go_wp2
 go_ret
 exact ⟨rfl, ext_trans hB.out U7.out⟩
end Go.Proofs.YtffklmlljekceaaGreat
