import Derived.Test.YtjdceoimignnpaaF35
namespace Go.Proofs.Ytjdceoimignnpaa
open Go.ChangeShapes Go.WideShapes Go.ChangeAt Go.RowKit next
set_option linter.unusedVariables false
set_option linter.unusedSimpArgs false
set_option maxHeartbeats 32000000
set_option maxRecDepth 20000
variable {H : List Mp} {I : List jF} {B c k : Nat} {a : Option Addr} {r : Rc} {p : fU} {X : iU} {d : Wd} {w w' : World}
structure MH (w : World) : Prop where
 t : True
theorem MH.drew (h : MH w) : MH w.drew := ⟨trivial⟩
def MW (w : World) (H' : List Mp) (e : Ending) (w' : World) : Prop := ∃ a' c', e = .returned (.slice a' H'.length c') ∧ iJ w.heap.size w' a' H' c' ∧ Below w.heap.size w w'
theorem yP (H : List Mp) (k : Nat) : bZ H = bZ (H.take k) ++ bZ (H.drop k) := by rw [← oh, List.take_append_drop]
theorem MG (h : iJ B w a H c) (hk : k ≤ H.length) : aN w a k c 8 (bZ (H.take k)) := by
 refine ⟨by rw [qR, List.length_take]; omega, fun e => ?_, fun x hx => ⟨(h.read.cells x hx).1, fun j u hu => (h.read.cells x hx).2 j u ?_⟩⟩
 ·have := h.read.nil e;omega
 rw [yP H k, List.getElem?_append_left (List.getElem?_eq_some_iff.1 hu).1];exact hu
theorem Me {g : Nat} (h : iJ B w (some ⟨g, 0, none⟩) H c) (hk : k < H.length) : aN w (if c = k + 1 then some ⟨g, 0, none⟩ else some ⟨g, (k + 1) * 8, none⟩) (H.length - (k + 1)) (c - (k + 1)) 8 (bZ (H.drop (k + 1))) := by
 have hc := h.len.2;refine ⟨by rw [qR, List.length_drop], fun e => by split at e <;> simp at e, fun x hx => ?_⟩;split at hx
 ·simp only [Option.some.injEq] at hx;subst hx;refine ⟨rfl, fun j u hu => ?_⟩;rw [List.drop_eq_nil_of_le (by omega)] at hu;simp [bZ] at hu
 simp only [Option.some.injEq] at hx;subst hx;refine ⟨rfl, fun j u hu => ?_⟩;have hl : (bZ (H.take (k + 1))).length = (k + 1) * 8 := by rw [qR, List.length_take]; omega
 have := (h.read.cells _ rfl).2 ((k + 1) * 8 + j) u (by rw [yP H (k + 1), List.getElem?_append_right (by omega), hl, Nat.add_sub_cancel_left]; exact hu);have e : (⟨g, 0, none⟩ : Addr).add ((k + 1) * 8 + j) = (⟨g, (k + 1) * 8, none⟩ : Addr).add j := by
  unfold Addr.add;split <;> split <;> simp <;> omega
 rw [← e];exact this
theorem aN.Ko {n : Nat} {xs : List Value} {row : Option Nat} (h : aN w a n c k xs) (hg : w.grownBy w' row) (hne : ∀ x, a = some x → row ≠ some x.block) : aN w' a n c k xs :=
 ⟨h.len, h.nil, fun y hy => ⟨(h.cells y hy).1, fun j u hu => by
  have hc := (h.cells y hy).2 j u hu;have hlt : (y.add j).block < w.heap.size := by
   cases hx : w.heap[(y.add j).block]? with
   | none => simp [World.cell?, hx] at hc
   | some o => exact (Array.getElem?_eq_some_iff.1 hx).1
  rw [World.cell?_of_block (hg.block _ hlt (fun e => hne y hy (by rw [← e]; unfold Addr.add; split <;> rfl)))]
  exact hc⟩⟩
theorem Jl (B : Nat) (a : Option Addr) (H : List Mp) (c k : Nat) (w : World) (h : iJ B w a H c) (hk : k < H.length) (hN : H.length ≤ 600) :
  Calls Try.prog 95 #[.slice a H.length c, .int .i64 k] w (MW w (H.take k ++ H.drop (k + 1))) := by
 rcases h.form with ⟨_, e2, _, _⟩ | ⟨g, cur, e1, hg0, hg1, hg2, _⟩
 ·omega
 subst e1;have HR := hid h;have HG := hid (show g < w.heap.size from (h.lt _ rfl).2);have i1 : (0 : Int) ≤ (k : Int) := by omega
 have i2 : (k : Int) ≤ (c : Int) := by omega
 have i3 : (H.length : Int) ≤ (c : Int) := by omega
 have i4 : (0 : Int) ≤ (k : Int) + 1 := by omega
 have i5 : (k : Int) + 1 ≤ (H.length : Int) := by omega
 have i6 : IntKind.i64.wrap ((k : Int) + 1) = (k : Int) + 1 := by go_arith
 clear h hg1 hg0;go_enter Try.func95, Try.ntmps95;go_wp2_with fail;have hK0 : MH w := ⟨trivial⟩
 refine aI (S := MH) 10 (by kernel_rfl) hK0.drew (fun q9 => ?_);simp only [qz, Nat.reduceAdd];obtain ⟨w5, hw5⟩ : ∃ u, u = w.drew := ⟨_, rfl⟩
 have E5 := hid (show Below w.heap.size w w5 by rw [hw5]; exact (Below.refl _ _).drew);have SRC1 := hid ((MG HR.out (Nat.le_of_lt hk)).ext E5.out);have SRC2 := hid ((Me HR.out hk).ext E5.out);rw [← hw5] at q9 ⊢;clear hw5 hK0;refine bg.go [1, 2, 3, 5, 6, 7, 8] ?_;iterate 7 (refine bg.tn q9 ?_; try simp only [qq])
 refine bg.fin ?_;refine aT 0 fun K hK => ?_
 go_simp;obtain ⟨wE, hwE⟩ : ∃ u, u = w5.alloc (.cells #[] 49) := ⟨_, rfl⟩
 have E6 := hid (show Below w.heap.size w wE by rw [hwE]; exact ae E5.out _);have X6 := hid (show Below w5.heap.size w5 wE by rw [hwE]; exact ae (Below.refl _ _) _);have R6 := hid (show aO w.heap.size wE (fun _ => 0) 0 49 8 (some ⟨w5.heap.size, 0, none⟩) 0 0 (bZ []) by rw [hwE]; exact gI (k := 8) (aC.new _ _ _) E5.out.size rfl);rw [← hwE];clear hwE;refine hK.out _ _ ⟨trivial⟩ ?_;clear hK K q9;intro q9;try simp only [qq]
 refine aT 4 fun K hK => ?_
 rw [if_pos (by rfl)];refine oQ w.heap.size (some ⟨w5.heap.size, 0, none⟩) 0 0 (bZ []) (some ⟨g, 0, none⟩) k c (bZ (H.take k)) rfl rfl R6.out.own (SRC1.out.ext X6.out) (mD _) (by omega) E6.out.size ?_;intro a1 c1 w6 q1 q2 q3;simp only [Nat.zero_add];have RA := hid (show w6.ownsRow w.heap.size 49 8 (.slice a1 k c1) k (bZ (H.take k)) by simpa [bZ] using q1);have E7 := hid (show Below w.heap.size w w6 from below_grow E6.out q2 (fun jj hjj => (R6.out.own.lt jj hjj).1) E6.out.size);have S7 := hid ((SRC2.out.ext X6.out).Ko q2 (fun x hx e => by have hb : x.block = g := (by split at hx <;> (simp only [Option.some.injEq] at hx; rw [← hx])); simp only [Value.ownBlock, Option.some.injEq] at e; have := E5.out.size; have := HG.out; omega));clear q1 q2 q3;refine hK.out _ _ ⟨trivial⟩ ?_;clear hK K q9;intro q9;try simp only [qq]
 refine aT 9 fun K hK => ?_
 rw [if_pos (by rfl)];refine oQ w.heap.size a1 k c1 (bZ (H.take k)) (if c = k + 1 then some ⟨g, 0, none⟩ else some ⟨g, (k + 1) * 8, none⟩) (H.length - (k + 1)) (c - (k + 1)) (bZ (H.drop (k + 1))) rfl rfl RA.out S7.out (mD _) (by omega) E7.out.size ?_;intro a2 c2 w7 q1 q2 q3;have RA2 := hid q1;have E8 := hid (show Below w.heap.size w w7 from below_grow E7.out q2 (fun jj hjj => (RA.out.lt jj hjj).1) E7.out.size);clear q1 q2 q3;refine hK.out _ _ ⟨trivial⟩ ?_;clear hK K q9;intro q9;try simp only [qq]
 refine aJ fun K hK => ?_
 go_simp;refine hK.out _ _ ?_;clear hK K q9
 have FIN := hid (show MW w (H.take k ++ H.drop (k + 1)) (.returned (.slice a2 (k + (H.length - (k + 1))) c2)) w7 by
  have hl : (H.take k ++ H.drop (k + 1)).length = k + (H.length - (k + 1)) := by
   simp only [List.length_append, List.length_take, List.length_drop];omega
  refine ⟨a2, c2, by rw [hl], ⟨?_, fun _ _ => rfl⟩, E8.out⟩;rw [hl, oh]
  exact RA2.out)
 go_wp2_with fail;all_goals exact bodyPost_ret (v := .slice a2 (k + (H.length - (k + 1))) c2) (by simp [results, Try.results95, go_sem]) rfl FIN.out
theorem uo {b : Nat} {t : TypeId} : ∀ (vs : List Value) (o : Nat) (w : World) (C : Array Value), aC w b C t → o + vs.length ≤ C.size → ∃ C', aC (w.setCells b o vs) b C' t ∧ C'.size = C.size ∧ ∀ j, C'[j]? = if o ≤ j ∧ j < o + vs.length then vs[j - o]? else C[j]?
 | [], o, w, C, h, _ => ⟨C, by simpa [World.setCells] using h, rfl, fun j => by rw [if_neg (by simp)]⟩
 | v :: r, o, w, C, h, hl => by
  rw [World.setCells];simp only [List.length_cons] at hl;obtain ⟨C', h1, h2, h3⟩ := uo r (o + 1) _ _ (heap_setCell_same w b o C t v h) (by simp only [Array.size_setIfInBounds]; omega);refine ⟨C', h1, by rw [h2]; simp, fun j => ?_⟩;rw [h3, List.length_cons];by_cases e : j = o
  ·subst e;rw [if_neg (by omega), if_pos (by omega), Nat.sub_self, List.getElem?_cons_zero, Array.getElem?_setIfInBounds, if_pos rfl, if_pos (by omega)]
  ·by_cases e2 : o + 1 ≤ j ∧ j < o + 1 + r.length
   ·rw [if_pos e2, if_pos (by omega)];obtain ⟨q, hq⟩ : ∃ q, j = o + 1 + q := ⟨j - (o + 1), by omega⟩
    subst hq;rw [show o + 1 + q - (o + 1) = q by omega, show o + 1 + q - o = q + 1 by omega, List.getElem?_cons_succ]
   ·rw [if_neg e2, if_neg (by omega), Array.getElem?_setIfInBounds, if_neg (by omega)]
theorem yX {l : List Rc} (hl : I.length = l.length) {i : Nat} (hi : i < l.length) (r' : Rc) (q' : jF) (j : Nat) : (fG (l.set i r') (I.set i q'))[j]? = if i * 18 ≤ j ∧ j < i * 18 + 18 then (au r' q'.p).toList[j - i * 18]? else (fG l I)[j]? := by
 have hl2 : (I.set i q').length = (l.set i r').length := by simpa using hl
 by_cases hj : j < l.length * 18
 ·obtain ⟨a, t, rfl, ht⟩ : ∃ a t, j = a * 18 + t ∧ t < 18 := ⟨j / 18, j % 18, by omega, Nat.mod_lt _ (by omega)⟩
  have ha : a < l.length := by omega
  by_cases e : a = i
  ·subst e;rw [if_pos (by omega), mW (l.set a r') (I.set a q') a r' q' (by simp [hi]) (by simp [hl, hi]) t ht, Nat.add_sub_cancel_left, Array.getElem?_toList]
  ·obtain ⟨r, hr⟩ : ∃ r, l[a]? = some r := ⟨_, List.getElem?_eq_getElem ha⟩
   obtain ⟨q, hq⟩ : ∃ q, I[a]? = some q := ⟨_, List.getElem?_eq_getElem (by omega)⟩
   rw [if_neg (by omega), mW l I a r q hr hq t ht, mW (l.set i r') (I.set i q') a r q (by rw [List.getElem?_set_ne (by omega)]; exact hr) (by rw [List.getElem?_set_ne (by omega)]; exact hq) t ht]
 ·rw [if_neg (by omega), List.getElem?_eq_none (by rw [lZ _ _ hl2, List.length_set]; omega), List.getElem?_eq_none (by rw [lZ _ _ hl]; omega)]
/-- the world with its recorder number i (from 0) changed -/
def gK (d : Wd) (i : Nat) (r' : Rc) : Wd := { d with recs := d.recs.set i r' }
theorem Ic (k : WK d) {i : Nat} {r r' : Rc} (hr : d.recs[i]? = some r) (v : VR r') (hn : r'.num = r.num) (ho : r'.of_ = r.of_) : WK (gK d i r') := by
 have hl : (gK d i r').recs.length = d.recs.length := by simp [gK]
 refine ⟨by rw [hl]; exact k.n1, by rw [hl]; exact k.n5, fun j s hs => ?_, k.fl, fun m hm => by rw [hl]; exact k.fm m hm, k.fk, k.ft⟩;rw [hl];by_cases e : i = j
 ·subst e;have hi := (List.getElem?_eq_some_iff.1 hr).1;have : (d.recs.set i r')[i]? = some r' := by simp [hi]
  rw [show (gK d i r').recs[i]? = some r' from this] at hs;simp only [Option.some.injEq] at hs;subst hs;exact ⟨v, by rw [hn]; exact (k.r i r hr).2.1, by rw [ho]; exact (k.r i r hr).2.2⟩
 ·rw [show (gK d i r').recs[j]? = d.recs[j]? from List.getElem?_set_ne e] at hs;exact k.r j s hs
/-- a recorder made anew from block A on takes its place in the row -/
theorem WM.NF {A : Nat} {p : kV} (h : WM B w d p I H) {i gR : Nat} {r r' : Rc} {p' : fU} {X' : iU} {c' : Nat → Nat} (hg : p.aR = some ⟨gR, 0, none⟩) (hr : d.recs[i]? = some r) (h' : aG A w r' p' X' c') (hBA : B ≤ A) (hR : gR < A) (hF : ∀ x, p.aF = some x → x.block < A) (v : VR r') (hn : r'.num = r.num) (ho : r'.of_ = r.of_) :
  WM B (w.setCells gR (i * 18) (au r' p').toList) (gK d i r') p (I.set i ⟨p', X', under A c'⟩) H := by
 have hi := (List.getElem?_eq_some_iff.1 hr).1;obtain ⟨g0, cur, ea, hB, hk, hsz, hnc, hm, htk⟩ := h.cells;rw [hg] at ea;simp only [Option.some.injEq, Addr.mk.injEq, and_true] at ea;subst ea;have h18 : (au r' p').toList.length = 18 := rfl;obtain ⟨C', k1, k2, k3⟩ := uo (au r' p').toList (i * 18) w cur hk (by rw [h18, hsz]; omega);have hs : ∀ b, b ≠ gR → (w.setCells gR (i * 18) (au r' p').toList).heap[b]? = w.heap[b]? := fun b hb => jo gR _ _ w b hb
 have hl : (gK d i r').recs.length = d.recs.length := by simp [gK]
 have hlJ : (I.set i (⟨p', X', under A c'⟩ : jF)).length = (gK d i r').recs.length := by rw [List.length_set, hl]; exact h.li
 refine ⟨hlJ, ⟨lZ _ _ hlJ, .inr ⟨gR, p.cR, C', by rw [hg], hB, k1, by rw [hl]; exact hnc, hm, by rw [k2, hsz], ?_⟩⟩, fun j s q hs2 hq => ?_, h.fm, h.fr.same fun x hx => hs _ (aO.ne h.fr hk (by decide) x hx), fun q hq => (h.fi q hq).same fun x hx => hs _ ((h.fi q hq).ne hk (by decide) x hx), h.fx.same fun x hx => hs _ (h.fx.ne hk (by decide) x hx), fZ.2 (Ic (fZ.1 h.ok) hr v hn ho)⟩
 ·refine List.ext_getElem? fun j => ?_
  rw [show (gK d i r').recs = d.recs.set i r' from rfl, yX h.li hi, List.length_set, List.getElem?_take, ← htk, List.getElem?_take];simp only [Array.getElem?_toList];rw [k3, h18];by_cases e : i * 18 ≤ j ∧ j < i * 18 + 18
  ·rw [if_pos e, if_pos e, if_pos (by omega), Array.getElem?_toList]
  ·rw [if_neg e, if_neg e]
 ·by_cases e : i = j
  ·subst e;rw [show (gK d i r').recs[i]? = some r' by simp [gK, hi]] at hs2;rw [show (I.set i (⟨p', X', under A c'⟩ : jF))[i]? = some ⟨p', X', under A c'⟩ by simp [h.li, hi]] at hq;simp only [Option.some.injEq] at hs2 hq;subst hs2 hq;refine ⟨(h'.down hBA).same fun b hB hlt h8 => hs b (fun e => by subst e; rw [iT hR] at h8; omega), fun x hx => ?_, fun x hx => ?_⟩
   ·rw [hg] at hx;simp only [Option.some.injEq] at hx;subst hx;show 8 < under A c' gR;rw [iT hR];omega
   ·show 8 < under A c' x.block;rw [iT (hF x hx)];omega
  ·rw [show (gK d i r').recs[j]? = d.recs[j]? from List.getElem?_set_ne e] at hs2;rw [List.getElem?_set_ne e] at hq;have k := h.rc j s q hs2 hq;exact ⟨k.1.same fun b hB hlt h8 => hs b (fun e => by rw [e] at h8; have h9 : 8 < q.c gR := k.2.1 _ hg; omega), k.2⟩
/-- what is safe is left -/
def gV (r : Rc) : Rc := { pV with num := r.num, of_ := r.of_, sp := r.sp, sk := r.sk, ss := r.ss, dp := r.sp, dk := r.sk, ds := r.ss }
def vw (p : fU) : fU := { IX with aS := p.aS, cS := p.cS, aD := p.aS, cD := p.cS }
def dn (r : Rc) : Rc := if bf r = true then gV r else pV
theorem rW (h : bf r = false) : dn r = pV := by simp [dn, h]
theorem nO (h : bf r = true) : dn r = gV r := by simp [dn, h]
/-- up again -/
def iK (r : Rc) : Rc := { r with up := true }
def eu (r : Rc) : Rc := if bf r = true then iK r else pV
theorem sD (h : bf r = false) : eu r = pV := by simp [eu, h]
theorem nK (h : bf r = true) : eu r = iK r := by simp [eu, h]
theorem jX : bD pV := ⟨by simp [pV], by simp [pV], by simp [pV], by simp [pV], by simp [pV], by simp [pV], by simp [pV], fun i s hs => by simp [pV] at hs, fun i s hs => by simp [pV] at hs⟩
theorem xB (h : bD r) : bD (gV r) :=
 ⟨h.lS, h.lS, jX.lH, jX.lW, jX.lY, jX.lB, jX.lA, jX.nH, jX.nA⟩
theorem BO (h : bD r) : bD (iK r) := ⟨h.lS, h.lD, h.lH, h.lW, h.lY, h.lB, h.lA, h.nH, h.nA⟩
theorem rG (h : bD r) : bD (dn r) := by
 unfold dn;split
 ·exact xB h
 ·exact jX
theorem mP.rise (h : mP w r p X) : mP w (iK r) p X :=
 ⟨h.s, h.d, h.h, h.hm, h.hi, h.t, h.y, h.b, h.a, h.am, h.ai, ⟨h.gd.s, h.gd.d, h.gd.h, h.gd.t, h.gd.y, h.gd.b, h.gd.a⟩⟩
theorem mP.fall (h : mP w r p X) : mP w (gV r) (vw p) ⟨[], []⟩ :=
 have z := (lT 0 w (fun _ => 0)).reads
 ⟨h.s, h.s, z.h, z.hm, z.hi, z.t, z.y, z.b, z.a, z.am, z.ai, ⟨h.gd.s, h.gd.s, z.gd.h, z.gd.t, z.gd.y, z.gd.b, z.gd.a⟩⟩
theorem aG.rise {col : Nat → Nat} (h : aG B w r p X col) : aG B w (iK r) p X col :=
 ⟨h.s, h.d, h.h, h.hm, h.hi, h.t, h.y, h.b, h.a, h.am, h.ai, ⟨h.gd.s, h.gd.d, h.gd.h, h.gd.t, h.gd.y, h.gd.b, h.gd.a⟩⟩
def NK (a r : Rc) : Prop := a.num = r.num ∧ a.of_ = r.of_
theorem NK.refl (r : Rc) : NK r r := ⟨rfl, rfl⟩
theorem NK.trans {a b c : Rc} (h : NK a b) (k : NK b c) : NK a c := ⟨h.1.trans k.1, h.2.trans k.2⟩
theorem lL (r : Rc) (m : gq) (l : List Sl) : NK (dw r m l) r := ⟨(kN r m l).1, (kN r m l).2.1⟩
theorem qU (r : Rc) (b : Int) : NK (bJ r b) r := ⟨(qj r b).1, (qj r b).2.1⟩
theorem IJ (r : Rc) (f : Int) (l : List Sl) : NK (jl r f l) r := ⟨(uV r f l).1, (uV r f l).2.1⟩
theorem AO (f : Int) : ∀ (n : Nat) (i : Int) (r : Rc), NK (jP f n i r) r
 | 0, _, r => NK.refl r
 | n + 1, i, r => by
  unfold jP;split
  ·exact (AO f n _ _).trans (lL _ _ _)
  ·exact NK.refl r
theorem Jc (r : Rc) (f : Int) (W : List ByteArray) : NK (jO r f W) r := by
 induction W generalizing r with
 | nil => exact NK.refl r
 | cons t W ih => exact (ih _).trans (lL _ _ _)
theorem CQ (l : List Mp) (r : Rc) : NK (iW r l) r := by
 induction l generalizing r with
 | nil => exact NK.refl r
 | cons t W ih => exact (ih _).trans (lL _ _ _)
theorem Jh (r : Rc) (m : gq) (l : List Sl) : NK (tV r m l) r := by
 unfold tV;split
 ·unfold rO;split
  ·exact lL _ _ _
  ·exact (lL _ _ _).trans (qU _ _)
 split
 ·unfold qB;split
  ·exact IJ _ _ _
  ·exact NK.refl _
 split
 ·unfold iE;split
  ·exact lL _ _ _
  split
  ·exact NK.refl _
  ·refine (lL _ _ _).trans ?_;split
   ·exact (show NK (rC (bJ r m.b) m.i.toNat (m.b, m.x)) (bJ r m.b) from ⟨rfl, rfl⟩).trans (qU _ _)
   ·exact qU _ _
 split
 ·unfold uN;split
  ·exact ⟨rfl, rfl⟩
  ·exact NK.refl _
 split
 ·unfold tX;split
  ·exact lL _ _ _
  ·unfold jU;split
   ·exact NK.refl _
   ·refine (Jc _ _ _).trans ?_;have h1 : NK (lG (bJ r m.b) m) r := (show NK (lG (bJ r m.b) m) (bJ r m.b) from ⟨rfl, rfl⟩).trans (qU _ _);unfold qL;split
    ·exact (lL _ _ _).trans h1
    ·exact h1
 split
 ·unfold jr;split
  ·exact ⟨rfl, rfl⟩
  ·exact NK.refl _
 split
 ·exact AO _ _ _ _
 split
 ·unfold iC;split
  ·exact ⟨rfl, rfl⟩
  ·exact NK.refl _
 ·unfold iI;split
  ·exact ⟨rfl, rfl⟩
  ·exact NK.refl _
theorem Cm (v : bf r = true) (m : gq) (l : List Sl) : NK (iq r m l) r := by
 unfold iq;rw [if_pos v];split
 ·exact Jh _ _ _
 ·exact NK.refl _
theorem KE (r : Rc) : NK (pq r) r := by
 unfold pq;split
 ·split
  ·exact (CQ _ _).trans ⟨rfl, rfl⟩
  ·exact ⟨rfl, rfl⟩
 ·exact NK.refl _
theorem CX (v : bf r = true) : NK (iG r) r := by
 unfold iG;rw [if_pos v];split
 ·unfold A8;have h2 : NK (fV (iy r)) r := (show NK (fV (iy r)) (iy r) from ⟨(pz _).1, (pz _).2.1⟩).trans ⟨rfl, rfl⟩;split
  ·exact (show NK (iD (fV (iy r))) (fV (iy r)) from ⟨(sG _).1, (sG _).2.1⟩).trans h2
  ·exact (KE _).trans h2
 ·exact NK.refl _
theorem Dp (v : VR r) : VR (gV r) :=
 ⟨v.o1, v.o5, v.n1, v.nn, v.s, v.s, ⟨Nat.zero_le _, fun m hm => absurd hm (by simp [gV, pV])⟩, ⟨Nat.zero_le _, fun m hm => absurd hm (by simp [gV, pV]), List.Pairwise.nil⟩, Int.le_refl _, by show (0 : Int) ≤ 1000000; omega, uk _, jI, vV _, fun q => by simp [gV, pV] at q, fun q => by simp [gV, pV] at q, fun _ q => by simp [gV, pV] at q, fun _ _ => ⟨rfl, rfl, rfl, rfl⟩, .inr ⟨rfl, rfl, rfl, rfl, rfl⟩⟩
theorem Dj (v : VR r) : VR (iK r) :=
 ⟨v.o1, v.o5, v.n1, v.nn, v.s, v.d, v.h, v.w, v.e0, v.e1, v.y, v.b, v.a, v.lt, v.ld, v.tr, v.cl, .inl rfl⟩
theorem xI (v : bf r = true) : VR (dn r) ∧ NK (dn r) r := by
 rw [nO v];exact ⟨Dp (fA.1 v), rfl, rfl⟩
theorem xm (v : bf r = true) : VR (eu r) ∧ NK (eu r) r := by
 rw [nK v];exact ⟨Dj (fA.1 v), rfl, rfl⟩
theorem WM.grow {p : kV} (h : WM B w d p I H) (hc : ∀ q ∈ I, ∀ b, w.heap.size ≤ b → 8 < q.c b) {a' : Option Addr} {c' : Nat} {q : Mp} (ho : w'.ownsRow B 49 8 (.slice a' (H.length + 1) c') (H.length + 1) (bZ H ++ fP q)) (hg : w.grownBy w' (Value.slice p.aF H.length p.cF).ownBlock) (hn : dP w p.aF a')
  (hq : aO B w (fun _ => 0) 0 43 2 q.2.1 q.1.2.length q.2.2 (flat q.1.2)) (hk : WK { d with fl := d.fl ++ [q.1] }) : WM B w' { d with fl := d.fl ++ [q.1] } { p with aF := a', cF := c' } I (H ++ [q]) := by
 have hs : ∀ b, b < w.heap.size → (∀ x, p.aF = some x → b ≠ x.block) → w'.heap[b]? = w.heap[b]? := fun b hlt hne => hg.block b hlt (fun e => by
  cases ha : p.aF with
  | none => rw [ha] at e; simp [Value.ownBlock] at e
  | some x => rw [ha] at e; simp only [Value.ownBlock, Option.some.injEq] at e; exact hne x ha e)
 have ne : ∀ {T : TypeId} {g : Nat} {cs : Array Value}, aC w g cs T → 49 ≠ T → ∀ x, p.aF = some x → g ≠ x.block := fun hk t x hx e => aO.ne h.fr hk t x hx e.symm
 have rr : aO B w (fun _ => 0) 0 31 18 p.aR d.recs.length p.cR (fG d.recs I) := aO.mk h.row (fun _ _ => rfl);have rs : ∀ {T : TypeId} {k : Nat} {a : Option Addr} {n c : Nat} {xs : List Value}, aO B w (fun _ => 0) 0 T k a n c xs → 49 ≠ T → aO B w' (fun _ => 0) 0 T k a n c xs := fun hr t => by
  refine hr.same fun x hx => hs _ (hr.lt x hx).2 ?_
  rcases hr.form with ⟨e, _⟩ | ⟨g, cur, e, _, hb, _⟩
  ·rw [hx] at e; simp at e
  ·rw [hx] at e;simp only [Option.some.injEq] at e;subst e;exact ne hb t
 refine ⟨h.li, (rs rr (by decide)).own, fun i r u hr hu => ?_, by rw [List.map_append, h.fm]; rfl, ?_, fun u hu => ?_, rs h.fx (by decide), fZ.2 hk⟩
 ·have k := h.rc i r u hr hu;refine ⟨k.1.same fun b hB hlt h8 => hs b hlt (fun x hx e => by have := k.2.2 x hx; rw [e] at h8; omega), k.2.1, fun x hx => ?_⟩;rcases hn x hx with ⟨y, hy, e⟩ | hnew
  ·rw [← e];exact k.2.2 y hy
  ·exact hc u (List.mem_of_getElem? hu) _ hnew
 ·refine ⟨?_, fun _ _ => rfl⟩;rw [List.length_append, oh, lN];exact ho
 ·rcases List.mem_append.1 hu with hu | hu
  ·exact rs (h.fi u hu) (by decide)
  ·simp only [List.mem_cons, List.not_mem_nil, or_false] at hu;subst hu;exact rs hq (by decide)
end Go.Proofs.Ytjdceoimignnpaa
