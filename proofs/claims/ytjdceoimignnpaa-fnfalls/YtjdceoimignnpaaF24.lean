import Derived.Test.YtjdceoimignnpaaF22
import Derived.Test.YtjdceoimignnpaaF23
namespace Go.Proofs.Ytjdceoimignnpaa
open Go.ChangeShapes Go.WideShapes Go.ChangeAt Go.RowKit next
set_option linter.unusedVariables false
set_option linter.unusedSimpArgs false
variable {H : List Mp} {xs : List Value} {B B' b n t xb : Nat} {c c' c'' col col' : Nat → Nat} {a : Option Addr} {r r' x : Rc} {p p' : fU} {X X' : iU} {e : TypeId} {v v' w w' : World}
def pV : Rc := ⟨0, 0, false, 0, 0, [], 0, 0, [], [], [], false, false, 0, [], [], [], 0⟩
def IX : fU := ⟨none, 0, none, 0, none, 0, none, 0, none, 0, none, 0, none, 0⟩
theorem dV (B : Nat) (w : World) (col : Nat → Nat) (t : Nat) (e : TypeId) (k : Nat) : aO B w col t e k none 0 0 [] := ⟨World.ownsRow_nil _ _ _ _, fun x hx => by simp at hx⟩
theorem lT (B : Nat) (w : World) (col : Nat → Nat) : aG B w pV IX ⟨[], []⟩ col :=
 ⟨dV _ _ _ _ _ _, dV _ _ _ _ _ _, dV _ _ _ _ _ _, rfl, ⟨fun m hm => absurd hm (by simp), List.Pairwise.nil⟩, dV _ _ _ _ _ _, dV _ _ _ _ _ _, dV _ _ _ _ _ _, dV _ _ _ _ _ _, rfl, ⟨fun m hm => absurd hm (by simp), List.Pairwise.nil⟩,
  ⟨fun i s hs => by simp [pV] at hs, fun i s hs => by simp [pV] at hs, fun i s hs => by simp [pV] at hs, fun i s hs => by simp [pV] at hs, fun i s hs => by simp [pV] at hs, fun i s hs => by simp [pV] at hs, fun i s hs => by simp [pV] at hs⟩⟩
def yz (w : World) (r' : Rc) (e : Ending) (w' : World) : Prop := ∃ p' X' col', e = .returned (.agg (au r' p')) ∧ aG w.heap.size w' r' p' X' col' ∧ Below w.heap.size w w'
theorem aG.far (h : aG B w r p X col) {g : Nat} (hg : g < B) (cs : Array Value) : aG B (w.setRow g cs) r p X col :=
 h.same fun b hb _ _ => setRow_other w g b cs (by omega)
theorem aG.lower (h : aG B w r p X col) (hB : B' ≤ B) : aG B' w r p X col :=
 ⟨h.s.low hB, h.d.low hB, h.h.low hB, h.hm, ⟨fun m hm => (h.hi.row m hm).low hB, h.hi.apart⟩, h.t.low hB, h.y.low hB, h.b.low hB, h.a.low hB, h.am, ⟨fun m hm => (h.ai.row m hm).low hB, h.ai.apart⟩, h.gd⟩
def kE (r : Rc) : Nat → Rc
 | 0 => r
 | k + 1 => if (r.ss.getD k (0, ⟨#[]⟩)).1 = r.ball then lI (kE r k) ((k : Int) + 1) r.num else kE r k
def mJ (r : Rc) (t : ByteArray) : Rc := if iw r.ds t = false ∧ r.ds.length < 60 then { r with ds := r.ds ++ [(r.ball, t)] } else r
def oC (r : Rc) (l : List ByteArray) : Rc := l.foldl mJ r
def iD (r : Rc) : Rc := oC (kE r r.ss.length) r.wish
def vH (r : Rc) : gq := ⟨5, 0, 0, r.ball, 0, r.dk, ⟨#[]⟩⟩
def CB (r : Rc) (i : Nat) : gq := ⟨3, 0, 0, r.ball, (i : Int) + 1, 0, (r.ds.getD i (0, ⟨#[]⟩)).2⟩
def rF (r : Rc) : Nat → List Mp
 | 0 => []
 | n + 1 => rF r n ++ ji r.num (CB r (r.dk.toNat + n)) r.of_.toNat
def qJ (r : Rc) : List Mp := ji r.num (vH r) r.of_.toNat ++ rF r (r.ds.length - r.dk.toNat)
def iy (r : Rc) : Rc := { r with sp := r.dp, sk := r.dk, ss := r.ds, held := [], wish := r.wish.filter (fun t => !iw (r.ds.take r.dk.toNat) t), heard := if r.heard < 1000000 then r.heard + 1 else r.heard }
def fV (r : Rc) : Rc := if r.tr = true ∧ r.sp = r.ball then jl r r.num r.ds else r
def iW (r : Rc) (l : List Mp) : Rc := l.foldl (fun r m => dw r m.1.1 m.1.2) r
def qN (b : Int) : gq := ⟨1, 0, 0, b, 0, 0, ⟨#[]⟩⟩
def pq (r : Rc) : Rc :=
 if 4 + 3 * r.num < r.heard then
  (if 0 < jE r.dp r.num r.of_ then
   iW { aU r with heard := 0, dp := jE r.dp r.num r.of_, ball := jE r.dp r.num r.of_, tr := true } (ji r.num (qN (jE r.dp r.num r.of_)) r.of_.toNat)
  else { aU r with heard := 0 })
 else r
def A8 (r : Rc) : Rc := if (fV (iy r)).lead = true then iD (fV (iy r)) else pq (fV (iy r))
def Dc (r : Rc) : List Mp := if (fV (iy r)).lead = true then qJ (iD (fV (iy r))) else []
def iG (r : Rc) : Rc := if bf r = true then (if r.up = true then A8 r else r) else pV
def jc (r : Rc) : List Ms := if bf r = true ∧ r.up = true then r.held ++ (Dc r).map (·.1) else []
theorem Ep {k : Nat} (h : ¬ (r.ss.getD k (0, ⟨#[]⟩)).1 = r.ball) : kE r (k + 1) = kE r k := by rw [kE, if_neg h]
theorem EM {k : Nat} (h : (r.ss.getD k (0, ⟨#[]⟩)).1 = r.ball) : kE r (k + 1) = lI (kE r k) ((k : Int) + 1) r.num := by rw [kE, if_pos h]
def Dv (r x : Rc) : Prop := ∃ l d, x = { r with acks := l, dk := d }
theorem kJ (r : Rc) : ∀ k, Dv r (kE r k)
 | 0 => ⟨r.acks, r.dk, rfl⟩
 | k + 1 => by
  obtain ⟨l, d, h⟩ := kJ r k;unfold kE;split
  ·rw [h]; exact ⟨_, _, rfl⟩
  exact ⟨l, d, h⟩
structure mX (n : Nat) (r : Rc) : Prop where
 d0 : 0 ≤ r.dk
 d1 : r.dk ≤ r.ds.length
 sm : bD r
 a1 : r.acks.length ≤ 1000 + n
 a2 : ∀ a ∈ r.acks, a.2.length ≤ 1000 + n
 ba : ny r.ball
 nu : ny r.num
theorem xM (N : Nat) : ∀ (l : List Ak) (i f : Int), (∀ a ∈ l, a.2.length ≤ N) → ∀ a ∈ jy l i f, a.2.length ≤ N + 1
 | [], i, f, _, a, ha => by simp only [jy, List.mem_singleton] at ha; subst ha; simp
 | x :: l, i, f, h, a, ha => by
  unfold jy at ha;split at ha
  ·rcases List.mem_cons.1 ha with rfl | ha
   ·have := h a (by simp); omega
   exact xM N l i f (fun y hy => h y (by simp [hy])) a ha
  split at ha
  ·rcases List.mem_cons.1 ha with rfl | ha
   ·have := iP x.2 f; have := h x (by simp); simp only; omega
   have := h a (by simp [ha]); omega
  rcases List.mem_cons.1 ha with rfl | ha
  ·simp
  have := h a ha; omega
theorem mX.KI (h : mX n r) (hn : n ≤ 100000) (i f : Int) : mX (n + 1) (lI r i f) := by
 have q1 := xH r.acks i f;have q2 := xM _ r.acks i f h.a2;have q3 := vY { r with acks := jy r.acks i f } (jy r.acks i f) r.dk h.d0 h.d1;have a1 := h.a1;refine ⟨q3.1, q3.2, ⟨h.sm.lS, h.sm.lD, h.sm.lH, h.sm.lW, h.sm.lY, h.sm.lB, (show (jy r.acks i f).length ≤ 1048576 by omega), h.sm.nH, fun j s hs => ?_⟩, (show (jy r.acks i f).length ≤ 1000 + (n + 1) by omega), (fun a ha => by have := q2 a ha; omega), h.ba, h.nu⟩;have := q2 s (List.mem_of_getElem? hs);omega
theorem mX.more {m : Nat} (h : mX n r) (hm : n ≤ m) : mX m r := ⟨h.d0, h.d1, h.sm, by have := h.a1; omega, fun a ha => by have := h.a2 a ha; omega, h.ba, h.nu⟩
theorem zi (h : mX n r) : ∀ k, n + k ≤ 100000 → mX (n + k) (kE r k)
 | 0, _ => h
 | k + 1, hk => by
  have ih := zi h k (by omega);unfold kE;split
  ·exact ih.KI (by omega) _ _
  exact ih.more (by omega)
theorem He (l : List Sl) (s : Sl) : nU l (l.length + 1) s = l ++ [s] := by
 unfold nU zQ;simp
theorem Bj {t : ByteArray} (h : ¬ (iw r.ds t = false ∧ r.ds.length < 60)) : mJ r t = r := by unfold mJ; rw [if_neg h]
theorem DJ {t : ByteArray} (h : iw r.ds t = false ∧ r.ds.length < 60) : mJ r t = rC r (r.ds.length + 1) (r.ball, t) := by
 unfold mJ rC; rw [if_pos h, He]
def xF (r x : Rc) : Prop := ∃ l, x = { r with ds := l } ∧ r.ds.length ≤ l.length ∧ l.length ≤ max 60 r.ds.length
theorem oU (r : Rc) (l : List ByteArray) : xF r (oC r l) := by
 induction l generalizing r with
 | nil => exact ⟨r.ds, rfl, Nat.le_refl _, by omega⟩
 | cons t l ih =>
  show xF r (oC (mJ r t) l);obtain ⟨l', h1, h2, h3⟩ := ih (mJ r t);rw [h1];unfold mJ at *;split at h2
  ·rename_i hc;rw [if_pos hc] at h3 ⊢;simp only [List.length_append, List.length_cons, List.length_nil] at h2 h3;exact ⟨l', rfl, by omega, by have := hc.2; omega⟩
  rename_i hc;rw [if_neg hc] at h3 ⊢;exact ⟨l', rfl, h2, h3⟩
theorem sF (r : Rc) (l : List ByteArray) (t : ByteArray) : oC r (l ++ [t]) = mJ (oC r l) t := by unfold oC; rw [List.foldl_append]; rfl
theorem vZ (r : Rc) : ∀ n, (rF r n).length ≤ n * r.of_.toNat
 | 0 => by simp [rF]
 | n + 1 => by
  have h1 := vZ r n;have h2 := mZ r.num (CB r (r.dk.toNat + n)) r.of_.toNat;have h3 : (n + 1) * r.of_.toNat = n * r.of_.toNat + r.of_.toNat := by rw [Nat.succ_mul]
  unfold rF;rw [List.length_append];omega
structure LS (B : Nat) (w : World) (col : Nat → Nat) (r : Rc) (p : fU) (X : iU) (c' : Nat → Nat) (v : World) : Prop where
 k : aC v w.heap.size (au r p) 31
 z : aC v (w.heap.size + 1) bP 31
 has : aG B v r p X c'
 c0 : 8 < c' w.heap.size
 c1 : 8 < c' (w.heap.size + 1)
 bel : Below B w v
 oth : Others w col v c'
theorem LS.ext (h : LS B w col r p X c' v) (hB : B ≤ w.heap.size) (hb : Below v.heap.size v v') : LS B w col r p X c' v' :=
 ⟨h.k.ext hb, h.z.ext hb, h.has.ext hb, h.c0, h.c1, h.bel.trans (hb.mono (Nat.le_trans hB (Nat.le_of_lt (Nat.lt_of_le_of_lt (by omega) h.z.lt)))), fun b hb' h8 => ⟨(hb.block b (by have := h.z.lt; omega)).trans (h.oth b hb' h8).1, (h.oth b hb' h8).2⟩⟩
theorem LS.call (h : LS B w col r p X c' v) (has' : aG B v' r' p' X' c'') (hb : Below B v v') (ot : Others v c' v' c'') :
  aC v' w.heap.size (au r p) 31 ∧ aC v' (w.heap.size + 1) bP 31 ∧ 8 < c'' w.heap.size ∧ 8 < c'' (w.heap.size + 1) ∧ Below B w v' ∧ Others w col v' c'' :=
 ⟨(ot _ h.k.lt h.c0).1.trans h.k, (ot _ h.z.lt h.c1).1.trans h.z, (ot _ h.k.lt h.c0).2, (ot _ h.z.lt h.c1).2, h.bel.trans hb, h.oth.trans ot (by have := h.z.lt; omega)⟩
theorem LS.next (h : LS B w col r p X c' v) (hB : B ≤ w.heap.size) (has' : aG B v' r' p' X' c'') (hb : Below B v v') (ot : Others v c' v' c'') :
  LS B w col r' p' X' c'' (v'.setRow w.heap.size (au r' p')) := by
 obtain ⟨q1, q3, q4, q6, q7, q8⟩ := h.call has' hb ot;exact ⟨setRow_heap _ _ _ _ _ _ q1, (setRow_other _ _ _ _ (by omega)).trans q3, has'.setRow q4 _, q4, q6, ay q7 hB _, fun b hb' h8 => ⟨(setRow_other _ _ _ _ (by omega)).trans (q8 b hb' h8).1, (q8 b hb' h8).2⟩⟩
theorem LS.start (h : aG B w r p X col) (hB : B ≤ w.heap.size) : LS B w col r p X (dm w.heap.size col) ((w.alloc (.cells (au r p) 31)).alloc (.cells bP 31)) := by
 have hb : Below w.heap.size w ((w.alloc (.cells (au r p) 31)).alloc (.cells bP 31)) := ae (ae (Below.refl _ _) _) _;exact ⟨(aC.new _ _ _).alloc _, aC.new' _ _ (by simp), h.fresh.ext hb, by rw [bI (Nat.le_refl _)]; omega, by rw [bI (by omega)]; omega, hb.mono hB, Others.of hb (fun b hb => bn hb)⟩
/-- a row of messages stays as long as its block does -/
theorem iJ.same {c : Nat} (h : iJ B w a H c) (hs : ∀ x, a = some x → w'.heap[x.block]? = w.heap[x.block]?) : iJ B w' a H c := aO.same h hs
theorem iJ.others {c : Nat} (h : iJ B w a H c) (hc : ∀ x, a = some x → 8 < col x.block) (ot : Others w col w' col') : iJ B w' a H c :=
 h.same fun x hx => (ot x.block (h.lt x hx).2 (hc x hx)).1
structure Ld (V : World) (row : Option Nat) (w' : World) : Prop where
 gr : V.grownBy w' row
theorem Ld.drew {V : World} {row : Option Nat} (h : Ld V row w') : Ld V row w'.drew := ⟨⟨h.gr.os, h.gr.tape, h.gr.output, h.gr.size, h.gr.block⟩⟩
theorem dC {c : Nat} (hc : ∀ x, a = some x → x.block ≠ b) : some b ≠ (Value.slice a n c).ownBlock := fun e => by
 cases h : a with
 | none => rw [h] at e; simp [Value.ownBlock] at e
 | some x =>
  rw [h] at e;simp only [Value.ownBlock, Option.some.injEq] at e;exact hc x h e.symm
/-- a recorder and what is sent are answered -/
def Lm (B : Nat) (w : World) (col : Nat → Nat) (a : Option Addr) (r' : Rc) (H' : List Mp) (e : Ending) (w' : World) : Prop :=
 ∃ p' X' col' a' c', e = .returned (.tuple #[.agg (au r' p'), .slice a' H'.length c']) ∧ aG B w' r' p' X' col' ∧ iJ B w' a' H' c' ∧ (∀ x, a' = some x → 8 < col' x.block) ∧ Below B w w' ∧ (∀ b, b < w.heap.size → 8 < col b → (∀ y, a = some y → y.block ≠ b) → w'.heap[b]? = w.heap[b]? ∧ 8 < col' b)
theorem aO.forget {k : Nat} {c : Nat} (h : aO B w col t e k a n c xs) : aO B w (fun _ => 0) 0 e k a n c xs := ⟨h.own, fun _ _ => rfl⟩
theorem aO.tint {t' : Nat} {k : Nat} {c : Nat} (h : aO B w col t e k a n c xs) (hc : ∀ x, a = some x → col' x.block = t') : aO B w col' t' e k a n c xs := ⟨h.own, hc⟩
structure jA (B : Nat) (v : World) (c : Nat → Nat) (a : Option Addr) (H : List Mp) (k : Nat) : Prop where
 row : iJ B v a H k
 uP : qg B v (fun _ => 0) 0 H
 ca : ∀ x, a = some x → 8 < c x.block
 ci : ∀ q ∈ H, ∀ y, q.2.1 = some y → 8 < c y.block ∧ ∀ x, a = some x → x.block ≠ y.block
 gd : kC (H.map (·.1))
theorem jA.at {k : Nat} (h : jA B v c a H k) : jB v a (H.map (·.1)) := vT h.row rfl h.uP h.gd
theorem jA.plain {k : Nat} (h : jA B v c a H k) : qV v a (H.map (·.1)) := wG h.row rfl h.uP
theorem jA.same {k : Nat} (h : jA B v c a H k) (hs : ∀ b, b < v.heap.size → 8 < c b → v'.heap[b]? = v.heap[b]? ∧ 8 < c' b) : jA B v' c' a H k :=
 ⟨h.row.same fun x hx => (hs _ (h.row.lt x hx).2 (h.ca x hx)).1, ⟨fun m hm => (h.uP.row m hm).same fun y hy => (hs _ ((h.uP.row m hm).lt y hy).2 (h.ci m hm y hy).1).1, h.uP.apart⟩, fun x hx => (hs _ (h.row.lt x hx).2 (h.ca x hx)).2, fun q hq y hy => ⟨(hs _ ((h.uP.row q hq).lt y hy).2 (h.ci q hq y hy).1).2, (h.ci q hq y hy).2⟩, h.gd⟩
theorem jA.ext {k : Nat} (h : jA B v c a H k) (hb : Below v.heap.size v v') : jA B v' c a H k := h.same fun b hlt h8 => ⟨hb.block b hlt, h8⟩
theorem jA.others {k : Nat} (h : jA B v c a H k) (ot : Others v c v' c') : jA B v' c' a H k := h.same fun b hlt h8 => ot b hlt h8
theorem jA.fresh {k : Nat} (h : jA B v c a H k) : jA B v (dm v.heap.size c) a H k := h.same fun b hlt h8 => ⟨rfl, by rw [bn hlt]; exact h8⟩
/-- the colours once nothing is held -/
def jJ (c : Nat → Nat) (b : Nat) : Nat := if c b = 2 ∨ c b = 7 then 9 else c b
theorem kL (h : c b = t) (h2 : t ≠ 2) (h7 : t ≠ 7) : jJ c b = t := by unfold jJ; rw [if_neg (by omega)]; exact h
theorem wJ (h : 8 < c b) : 8 < jJ c b := by unfold jJ; rw [if_neg (by omega)]; exact h
theorem aG.JU (h : aG B w r p X col) : aG B w { r with held := [] } { p with aH := none, cH := 0 } ⟨[], X.A⟩ (jJ col) :=
 ⟨h.s.tint fun x hx => kL (h.s.col x hx) (by omega) (by omega), h.d.tint fun x hx => kL (h.d.col x hx) (by omega) (by omega), dV _ _ _ _ _ _, rfl, ⟨fun m hm => absurd hm (by simp), List.Pairwise.nil⟩, h.t.tint fun x hx => kL (h.t.col x hx) (by omega) (by omega), h.y.tint fun x hx => kL (h.y.col x hx) (by omega) (by omega), h.b.tint fun x hx => kL (h.b.col x hx) (by omega) (by omega), h.a.tint fun x hx => kL (h.a.col x hx) (by omega) (by omega), h.am, ⟨fun m hm => (h.ai.row m hm).tint fun x hx => kL ((h.ai.row m hm).col x hx) (by omega) (by omega), h.ai.apart⟩, ⟨h.gd.s, h.gd.d, fun i s hs => by simp at hs, h.gd.t, h.gd.y, h.gd.b, h.gd.a⟩⟩
/-- what was held is sent -/
theorem aG.sent (h : aG B w r p X col) : jA B w (jJ col) p.aH X.H p.cH := by
 have hl : X.H.length = r.held.length := by rw [← h.hm, List.length_map]
 refine ⟨by rw [iJ, hl]; exact h.h.forget, ⟨fun m hm => (h.hi.row m hm).forget, h.hi.apart⟩, fun x hx => ?_, fun q hq y hy => ⟨?_, fun x hx e => ?_⟩, by rw [h.hm]; exact h.gd.h⟩
 ·unfold jJ; rw [if_pos (.inl (h.h.col x hx))]; omega
 ·unfold jJ; rw [if_pos (.inr ((h.hi.row q hq).col y hy))]; omega
 ·have h1 := h.h.col x hx;have h2 := (h.hi.row q hq).col y hy;rw [e] at h1;omega
/-- what lies below B is in no list -/
def under (B : Nat) (c : Nat → Nat) (b : Nat) : Nat := if b < B then 9 else c b
theorem iT (h : b < B) : under B c b = 9 := if_pos h
theorem o6 (h : B ≤ b) : under B c b = c b := if_neg (by omega)
theorem aO.down {k : Nat} {c : Nat} (h : aO B w col t e k a n c xs) (hB : B' ≤ B) : aO B' w (under B col) t e k a n c xs :=
 (h.low hB).tint fun x hx => by rw [o6 (h.lt x hx).1]; exact h.col x hx
theorem aG.down (h : aG B w r p X col) (hB : B' ≤ B) : aG B' w r p X (under B col) :=
 ⟨h.s.down hB, h.d.down hB, h.h.down hB, h.hm, ⟨fun m hm => (h.hi.row m hm).down hB, h.hi.apart⟩, h.t.down hB, h.y.down hB, h.b.down hB, h.a.down hB, h.am, ⟨fun m hm => (h.ai.row m hm).down hB, h.ai.apart⟩, h.gd⟩
theorem aO.ne {t' : TypeId} {k : Nat} {c : Nat} (h : aO B w col t e k a n c xs) {g : Nat} {cs : Array Value} (hk : aC w g cs t') (hne : e ≠ t') : ∀ x, a = some x → x.block ≠ g := fun x hx eq => by
 rcases h.own.2 with ⟨h0, _⟩ | ⟨g', cap, cur, hv, _, hh, _⟩
 ·rw [hx] at h0; simp at h0
 ·rw [hx] at hv;simp only [Value.slice.injEq, Option.some.injEq] at hv;have e2 : g' = g := by rw [← eq, hv.1]
  rw [e2] at hh;have h9 := hh.symm.trans hk;simp only [Option.some.injEq, Obj.cells.injEq] at h9;exact hne h9.2.1
theorem jA.box (h : jA B v c a H n) {g : Nat} {cs : Array Value} (hk : aC v g cs 31) (cs' : Array Value) : jA B (v.setRow g cs') c a H n :=
 ⟨h.row.same fun x hx => setRow_other _ _ _ _ (aO.ne h.row hk (by decide) x hx), ⟨fun m hm => (h.uP.row m hm).same fun y hy => setRow_other _ _ _ _ ((h.uP.row m hm).ne hk (by decide) y hy), h.uP.apart⟩, h.ca, h.ci, h.gd⟩
theorem jA.cell (h : jA B v c a H n) {g o : Nat} {cs : Array Value} (hk : aC v g cs 31) (u : Value) : jA B (v.setCell ⟨g, o, none⟩ u) c a H n :=
 ⟨h.row.same fun x hx => heap_setCell_other _ ⟨g, o, none⟩ _ _ (aO.ne h.row hk (by decide) x hx), ⟨fun m hm => (h.uP.row m hm).same fun y hy => heap_setCell_other _ ⟨g, o, none⟩ _ _ ((h.uP.row m hm).ne hk (by decide) y hy), h.uP.apart⟩, h.ca, h.ci, h.gd⟩
structure ry (w : World) (xb : Nat) (x : Rc) (p : fU) (X : iU) (c : Nat → Nat) (a : Option Addr) (H : List Mp) (n : Nat) (v : World) : Prop where
 k : aC v xb (au x p) 31
 z : aC v (w.heap.size + 1) bP 31
 has : aG w.heap.size v x p X c
 cx : 8 < c xb
 cz : 8 < c (w.heap.size + 1)
 bel : Below w.heap.size w v
 out : jA w.heap.size v c a H n
 hx : w.heap.size + 1 < xb
theorem ry.lt (h : ry w xb x p X c a H n v) : w.heap.size ≤ v.heap.size := h.bel.size
theorem ry.ext (h : ry w xb x p X c a H n v) (hb : Below v.heap.size v v') : ry w xb x p X c a H n v' :=
 ⟨h.k.ext hb, h.z.ext hb, h.has.ext hb, h.cx, h.cz, aj h.bel hb, h.out.ext hb, h.hx⟩
/-- behind a call that answers a recorder: its answer is laid into the box -/
theorem ry.call {w : World} {xb : Nat} {x x' : Rc} {p p' : fU} {X X' : iU} {c c' : Nat → Nat} {a : Option Addr} {H : List Mp} {n : Nat} {v v' : World} (h : ry w xb x p X c a H n v) (ot : Others v c v' c') : aC v' xb (au x p) 31 ∧ aC v' (w.heap.size + 1) bP 31 :=
 ⟨(ot _ h.k.lt h.cx).1.trans h.k, (ot _ h.z.lt h.cz).1.trans h.z⟩
theorem ry.next {x' : Rc} (h : ry w xb x p X c a H n v) (has' : aG w.heap.size v' x' p' X' c') (hb : Below w.heap.size v v') (ot : Others v c v' c') :
  ry w xb x' p' X' c' a H n (v'.setRow xb (au x' p')) := by
 have q1 := (ot _ h.k.lt h.cx).1.trans h.k;have q2 := (ot _ h.z.lt h.cz).1.trans h.z;have hx := h.hx
 exact ⟨setRow_heap _ _ _ _ _ _ q1, (setRow_other _ _ _ _ (by omega)).trans q2, has'.setRow (ot _ h.k.lt h.cx).2 _, (ot _ h.k.lt h.cx).2, (ot _ h.z.lt h.cz).2, ay (h.bel.trans hb) (by omega) _,
  (h.out.others ot).box q1 _, h.hx⟩
/-- a field of the box is set -/
theorem ry.put (h : ry w xb x p X c a H n v) (x' : Rc) (o : Nat) (u : Value) (hk : (au x p).set! o u = au x' p) (hh : aG w.heap.size v x' p X c) : ry w xb x' p X c a H n (v.setCell ⟨xb, o, none⟩ u) := by
 have hx := h.hx;refine ⟨?_, h.z.setCell (by simp; omega) _, hh.setCell (q := ⟨xb, o, none⟩) h.cx _, h.cx, h.cz, bG h.bel (show w.heap.size ≤ xb by omega) _, h.out.cell h.k _, h.hx⟩;rw [← hk];have := h.k.set (o := o) u;simpa using this
end Go.Proofs.Ytjdceoimignnpaa
