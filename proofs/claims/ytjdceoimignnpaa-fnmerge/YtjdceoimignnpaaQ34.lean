import Derived.Test.YtjdceoimignnpaaQ33
namespace Go.Proofs.Ytjdceoimignnpaa
open Go.ChangeShapes Go.WideShapes Go.ChangeAt Go.RowKit next
set_option linter.unusedVariables false
set_option linter.unusedSimpArgs false
set_option maxHeartbeats 32000000
set_option maxRecDepth 20000
variable {H : List Mp} {I : List RcI} {B c k : Nat} {a : Option Addr} {r : Rc} {d : Wd} {p : WdP} {w w' : World}
structure OtS (w : World) : Prop where
 t : True
theorem OtS.drew (h : OtS w) : OtS w.drew := ⟨trivial⟩
def OtP (w : World) (H' : List Mp) (e : Ending) (w' : World) : Prop := ∃ a' c', e = .returned (.slice a' H'.length c') ∧ RowM w.heap.size w' a' H' c' ∧ Below w.heap.size w w'
theorem flatM_cut (H : List Mp) (k : Nat) : flatM H = flatM (H.take k) ++ flatM (H.drop k) := by rw [← flatM_app, List.take_append_drop]
theorem srcM1 (h : RowM B w a H c) (hk : k ≤ H.length) : ReadAt w a k c 8 (flatM (H.take k)) := by
 refine ⟨by rw [flatM_len, List.length_take]; omega, fun e => ?_, fun x hx => ⟨(h.read.cells x hx).1, fun j u hu => (h.read.cells x hx).2 j u ?_⟩⟩
 ·have := h.read.nil e;omega
 rw [flatM_cut H k, List.getElem?_append_left (List.getElem?_eq_some_iff.1 hu).1];exact hu
theorem srcM2 {g : Nat} (h : RowM B w (some ⟨g, 0, none⟩) H c) (hk : k < H.length) : ReadAt w (if c = k + 1 then some ⟨g, 0, none⟩ else some ⟨g, (k + 1) * 8, none⟩) (H.length - (k + 1)) (c - (k + 1)) 8 (flatM (H.drop (k + 1))) := by
 have hc := h.len.2;refine ⟨by rw [flatM_len, List.length_drop], fun e => by split at e <;> simp at e, fun x hx => ?_⟩;split at hx
 ·simp only [Option.some.injEq] at hx;subst hx;refine ⟨rfl, fun j u hu => ?_⟩;rw [List.drop_eq_nil_of_le (by omega)] at hu;simp [flatM] at hu
 simp only [Option.some.injEq] at hx;subst hx;refine ⟨rfl, fun j u hu => ?_⟩;have hl : (flatM (H.take (k + 1))).length = (k + 1) * 8 := by rw [flatM_len, List.length_take]; omega
 have := (h.read.cells _ rfl).2 ((k + 1) * 8 + j) u (by rw [flatM_cut H (k + 1), List.getElem?_append_right (by omega), hl, Nat.add_sub_cancel_left]; exact hu);have e : (⟨g, 0, none⟩ : Addr).add ((k + 1) * 8 + j) = (⟨g, (k + 1) * 8, none⟩ : Addr).add j := by
  unfold Addr.add;split <;> split <;> simp <;> omega
 rw [← e];exact this
theorem ReadAt.grownO {n : Nat} {xs : List Value} {row : Option Nat} (h : ReadAt w a n c k xs) (hg : w.grownBy w' row) (hne : ∀ x, a = some x → row ≠ some x.block) : ReadAt w' a n c k xs :=
 ⟨h.len, h.nil, fun y hy => ⟨(h.cells y hy).1, fun j u hu => by
  have hc := (h.cells y hy).2 j u hu;have hlt : (y.add j).block < w.heap.size := by
   cases hx : w.heap[(y.add j).block]? with
   | none => simp [World.cell?, hx] at hc
   | some o => exact (Array.getElem?_eq_some_iff.1 hx).1
  rw [World.cell?_of_block (hg.block _ hlt (fun e => hne y hy (by rw [← e]; unfold Addr.add; split <;> rfl)))]
  exact hc⟩⟩
theorem specOut (B : Nat) (a : Option Addr) (H : List Mp) (c k : Nat) (w : World) (h : RowM B w a H c) (hk : k < H.length) (hN : H.length ≤ 600) :
  Calls Try.prog 95 #[.slice a H.length c, .int .i64 k] w (OtP w (H.take k ++ H.drop (k + 1))) := by
 rcases h.form with ⟨_, e2, _, _⟩ | ⟨g, cur, e1, hg0, hg1, hg2, _⟩
 ·omega
 subst e1;have HR := hid h;have HG := hid (show g < w.heap.size from (h.lt _ rfl).2);have i1 : (0 : Int) ≤ (k : Int) := by omega
 have i2 : (k : Int) ≤ (c : Int) := by omega
 have i3 : (H.length : Int) ≤ (c : Int) := by omega
 have i4 : (0 : Int) ≤ (k : Int) + 1 := by omega
 have i5 : (k : Int) + 1 ≤ (H.length : Int) := by omega
 have i6 : IntKind.i64.wrap ((k : Int) + 1) = (k : Int) + 1 := by go_arith
 clear h hg1 hg0;go_enter Try.func95, Try.ntmps95;go_wp2_with fail;have hK0 : OtS w := ⟨trivial⟩
 refine wp_region_last (S := OtS) 10 (by kernel_rfl) hK0.drew (fun hHeld => ?_);simp only [qz, Nat.reduceAdd];obtain ⟨w5, hw5⟩ : ∃ u, u = w.drew := ⟨_, rfl⟩
 have E5 := hid (show Below w.heap.size w w5 by rw [hw5]; exact (Below.refl _ _).drew);have SRC1 := hid ((srcM1 HR.out (Nat.le_of_lt hk)).ext E5.out);have SRC2 := hid ((srcM2 HR.out hk).ext E5.out);rw [← hw5] at hHeld ⊢;clear hw5 hK0;refine planL.go [1, 2, 3, 5, 6, 7, 8] ?_;iterate 7 (apply planL.take (at_lit rfl) (by kernel_rfl) (by rfl) (fun _ _ _ h => h) hHeld; (· intro w9 hSw; clear hSw; go_simp; try with_reducible rfl); try simp only [qq])
 refine planL.fin ?_;refine rdL 0 (by kernel_rfl) (at_lit rfl) (fun K hK => ?_);go_simp;obtain ⟨wE, hwE⟩ : ∃ u, u = w5.alloc (.cells #[] 49) := ⟨_, rfl⟩
 have E6 := hid (show Below w.heap.size w wE by rw [hwE]; exact ext_alloc E5.out _);have X6 := hid (show Below w5.heap.size w5 wE by rw [hwE]; exact ext_alloc (Below.refl _ _) _);have R6 := hid (show RowC w.heap.size wE (fun _ => 0) 0 49 8 (some ⟨w5.heap.size, 0, none⟩) 0 0 (flatM []) by rw [hwE]; exact rowC_none (k := 8) (Blk.new _ _ _) E5.out.size rfl);rw [← hwE];clear hwE;refine hK.out _ _ ⟨trivial⟩ ?_;clear hK K hHeld;intro hHeld;try simp only [qq]
 refine rdL 4 (by kernel_rfl) (at_lit rfl) (fun K hK => ?_);rw [if_pos (by rfl)];refine wp_appM w.heap.size (some ⟨w5.heap.size, 0, none⟩) 0 0 (flatM []) (some ⟨g, 0, none⟩) k c (flatM (H.take k)) rfl rfl R6.out.own (SRC1.out.ext X6.out) (flatM_one _) (by omega) E6.out.size ?_;intro a1 c1 w6 q1 q2 q3;simp only [Nat.zero_add];have RA := hid (show w6.ownsRow w.heap.size 49 8 (.slice a1 k c1) k (flatM (H.take k)) by simpa [flatM] using q1);have E7 := hid (show Below w.heap.size w w6 from below_grow E6.out q2 (fun jj hjj => (R6.out.own.lt jj hjj).1) E6.out.size);have S7 := hid ((SRC2.out.ext X6.out).grownO q2 (fun x hx e => by have hb : x.block = g := (by split at hx <;> (simp only [Option.some.injEq] at hx; rw [← hx])); simp only [Value.ownBlock, Option.some.injEq] at e; have := E5.out.size; have := HG.out; omega));clear q1 q2 q3;refine hK.out _ _ ⟨trivial⟩ ?_;clear hK K hHeld;intro hHeld;try simp only [qq]
 refine rdL 9 (by kernel_rfl) (at_lit rfl) (fun K hK => ?_);rw [if_pos (by rfl)];refine wp_appM w.heap.size a1 k c1 (flatM (H.take k)) (if c = k + 1 then some ⟨g, 0, none⟩ else some ⟨g, (k + 1) * 8, none⟩) (H.length - (k + 1)) (c - (k + 1)) (flatM (H.drop (k + 1))) rfl rfl RA.out S7.out (flatM_one _) (by omega) E7.out.size ?_;intro a2 c2 w7 q1 q2 q3;have RA2 := hid q1;have E8 := hid (show Below w.heap.size w w7 from below_grow E7.out q2 (fun jj hjj => (RA.out.lt jj hjj).1) E7.out.size);clear q1 q2 q3;refine hK.out _ _ ⟨trivial⟩ ?_;clear hK K hHeld;intro hHeld;try simp only [qq]
 refine wpLast_end (by kernel_rfl) (at_lit rfl) (by kernel_rfl) (fun K hK => ?_);go_simp;refine hK.out _ _ ?_;clear hK K hHeld
 have FIN := hid (show OtP w (H.take k ++ H.drop (k + 1)) (.returned (.slice a2 (k + (H.length - (k + 1))) c2)) w7 by
  have hl : (H.take k ++ H.drop (k + 1)).length = k + (H.length - (k + 1)) := by
   simp only [List.length_append, List.length_take, List.length_drop];omega
  refine ⟨a2, c2, by rw [hl], ⟨?_, fun _ _ => rfl⟩, E8.out⟩;rw [hl, flatM_app]
  exact RA2.out)
 go_wp2_with fail;all_goals exact bodyPost_ret (v := .slice a2 (k + (H.length - (k + 1))) c2) (by simp [results, Try.results95, go_sem]) rfl FIN.out
theorem blk_setCells {b : Nat} {t : TypeId} : ∀ (vs : List Value) (o : Nat) (w : World) (C : Array Value), Blk w b C t → o + vs.length ≤ C.size → ∃ C', Blk (w.setCells b o vs) b C' t ∧ C'.size = C.size ∧ ∀ j, C'[j]? = if o ≤ j ∧ j < o + vs.length then vs[j - o]? else C[j]?
 | [], o, w, C, h, _ => ⟨C, by simpa [World.setCells] using h, rfl, fun j => by rw [if_neg (by simp)]⟩
 | v :: r, o, w, C, h, hl => by
  rw [World.setCells];simp only [List.length_cons] at hl;obtain ⟨C', h1, h2, h3⟩ := blk_setCells r (o + 1) _ _ (heap_setCell_same w b o C t v h) (by simp only [Array.size_setIfInBounds]; omega);refine ⟨C', h1, by rw [h2]; simp, fun j => ?_⟩;rw [h3, List.length_cons];by_cases e : j = o
  ·subst e;rw [if_neg (by omega), if_pos (by omega), Nat.sub_self, List.getElem?_cons_zero, Array.getElem?_setIfInBounds, if_pos rfl, if_pos (by omega)]
  ·by_cases e2 : o + 1 ≤ j ∧ j < o + 1 + r.length
   ·rw [if_pos e2, if_pos (by omega)];obtain ⟨q, hq⟩ : ∃ q, j = o + 1 + q := ⟨j - (o + 1), by omega⟩
    subst hq;rw [show o + 1 + q - (o + 1) = q by omega, show o + 1 + q - o = q + 1 by omega, List.getElem?_cons_succ]
   ·rw [if_neg e2, if_neg (by omega), Array.getElem?_setIfInBounds, if_neg (by omega)]
theorem flatR_set {l : List Rc} (hl : I.length = l.length) {i : Nat} (hi : i < l.length) (r' : Rc) (q' : RcI) (j : Nat) : (flatR (l.set i r') (I.set i q'))[j]? = if i * 18 ≤ j ∧ j < i * 18 + 18 then (rcV r' q'.p).toList[j - i * 18]? else (flatR l I)[j]? := by
 have hl2 : (I.set i q').length = (l.set i r').length := by simpa using hl
 by_cases hj : j < l.length * 18
 ·obtain ⟨a, t, rfl, ht⟩ : ∃ a t, j = a * 18 + t ∧ t < 18 := ⟨j / 18, j % 18, by omega, Nat.mod_lt _ (by omega)⟩
  have ha : a < l.length := by omega
  by_cases e : a = i
  ·subst e;rw [if_pos (by omega), flatR_at (l.set a r') (I.set a q') a r' q' (by simp [hi]) (by simp [hl, hi]) t ht, Nat.add_sub_cancel_left, Array.getElem?_toList]
  ·obtain ⟨r, hr⟩ : ∃ r, l[a]? = some r := ⟨_, List.getElem?_eq_getElem ha⟩
   obtain ⟨q, hq⟩ : ∃ q, I[a]? = some q := ⟨_, List.getElem?_eq_getElem (by omega)⟩
   rw [if_neg (by omega), flatR_at l I a r q hr hq t ht, flatR_at (l.set i r') (I.set i q') a r q (by rw [List.getElem?_set_ne (by omega)]; exact hr) (by rw [List.getElem?_set_ne (by omega)]; exact hq) t ht]
 ·rw [if_neg (by omega), List.getElem?_eq_none (by rw [flatR_len _ _ hl2, List.length_set]; omega), List.getElem?_eq_none (by rw [flatR_len _ _ hl]; omega)]
/-- the world with its recorder number i (from 0) changed -/
def putD (d : Wd) (i : Nat) (r' : Rc) : Wd := { d with recs := d.recs.set i r' }
theorem wk_put (k : WK d) {i : Nat} {r r' : Rc} (hr : d.recs[i]? = some r) (v : VR r') (hn : r'.num = r.num) (ho : r'.of_ = r.of_) : WK (putD d i r') := by
 have hl : (putD d i r').recs.length = d.recs.length := by simp [putD]
 refine ⟨by rw [hl]; exact k.n1, by rw [hl]; exact k.n5, fun j s hs => ?_, k.fl, fun m hm => by rw [hl]; exact k.fm m hm, k.fk, k.ft⟩;rw [hl];by_cases e : i = j
 ·subst e;have hi := (List.getElem?_eq_some_iff.1 hr).1;have : (d.recs.set i r')[i]? = some r' := by simp [hi]
  rw [show (putD d i r').recs[i]? = some r' from this] at hs;simp only [Option.some.injEq] at hs;subst hs;exact ⟨v, by rw [hn]; exact (k.r i r hr).2.1, by rw [ho]; exact (k.r i r hr).2.2⟩
 ·rw [show (putD d i r').recs[j]? = d.recs[j]? from List.getElem?_set_ne e] at hs;exact k.r j s hs
/-- a recorder made anew from block A on takes its place in the row -/
theorem WM.putR {A : Nat} (h : WM B w d p I H) {i gR : Nat} {r r' : Rc} {p' : RcP} {X' : RcX} {c' : Nat → Nat} (hg : p.aR = some ⟨gR, 0, none⟩) (hr : d.recs[i]? = some r) (h' : RcHas A w r' p' X' c') (hBA : B ≤ A) (hR : gR < A) (hF : ∀ x, p.aF = some x → x.block < A) (v : VR r') (hn : r'.num = r.num) (ho : r'.of_ = r.of_) :
  WM B (w.setCells gR (i * 18) (rcV r' p').toList) (putD d i r') p (I.set i ⟨p', X', under A c'⟩) H := by
 have hi := (List.getElem?_eq_some_iff.1 hr).1;obtain ⟨g0, cur, ea, hB, hk, hsz, hnc, hm, htk⟩ := h.cells;rw [hg] at ea;simp only [Option.some.injEq, Addr.mk.injEq, and_true] at ea;subst ea;have h18 : (rcV r' p').toList.length = 18 := rfl;obtain ⟨C', k1, k2, k3⟩ := blk_setCells (rcV r' p').toList (i * 18) w cur hk (by rw [h18, hsz]; omega);have hs : ∀ b, b ≠ gR → (w.setCells gR (i * 18) (rcV r' p').toList).heap[b]? = w.heap[b]? := fun b hb => setCells_other gR _ _ w b hb
 have hl : (putD d i r').recs.length = d.recs.length := by simp [putD]
 have hlJ : (I.set i (⟨p', X', under A c'⟩ : RcI)).length = (putD d i r').recs.length := by rw [List.length_set, hl]; exact h.li
 refine ⟨hlJ, ⟨flatR_len _ _ hlJ, .inr ⟨gR, p.cR, C', by rw [hg], hB, k1, by rw [hl]; exact hnc, hm, by rw [k2, hsz], ?_⟩⟩, fun j s q hs2 hq => ?_, h.fm, h.fr.same fun x hx => hs _ (RowC.ne h.fr hk (by decide) x hx), fun q hq => (h.fi q hq).same fun x hx => hs _ ((h.fi q hq).ne hk (by decide) x hx), h.fx.same fun x hx => hs _ (h.fx.ne hk (by decide) x hx), wk_iff.2 (wk_put (wk_iff.1 h.ok) hr v hn ho)⟩
 ·refine List.ext_getElem? fun j => ?_
  rw [show (putD d i r').recs = d.recs.set i r' from rfl, flatR_set h.li hi, List.length_set, List.getElem?_take, ← htk, List.getElem?_take];simp only [Array.getElem?_toList];rw [k3, h18];by_cases e : i * 18 ≤ j ∧ j < i * 18 + 18
  ·rw [if_pos e, if_pos e, if_pos (by omega), Array.getElem?_toList]
  ·rw [if_neg e, if_neg e]
 ·by_cases e : i = j
  ·subst e;rw [show (putD d i r').recs[i]? = some r' by simp [putD, hi]] at hs2;rw [show (I.set i (⟨p', X', under A c'⟩ : RcI))[i]? = some ⟨p', X', under A c'⟩ by simp [h.li, hi]] at hq;simp only [Option.some.injEq] at hs2 hq;subst hs2 hq;refine ⟨(h'.down hBA).same fun b hB hlt h8 => hs b (fun e => by subst e; rw [under_low hR] at h8; omega), fun x hx => ?_, fun x hx => ?_⟩
   ·rw [hg] at hx;simp only [Option.some.injEq] at hx;subst hx;show 8 < under A c' gR;rw [under_low hR];omega
   ·show 8 < under A c' x.block;rw [under_low (hF x hx)];omega
  ·rw [show (putD d i r').recs[j]? = d.recs[j]? from List.getElem?_set_ne e] at hs2;rw [List.getElem?_set_ne e] at hq;have k := h.rc j s q hs2 hq;exact ⟨k.1.same fun b hB hlt h8 => hs b (fun e => by rw [e] at h8; have h9 : 8 < q.c gR := k.2.1 _ hg; omega), k.2⟩
/-- what is safe is left -/
def fallR (r : Rc) : Rc := { rc0 with num := r.num, of_ := r.of_, sp := r.sp, sk := r.sk, ss := r.ss, dp := r.sp, dk := r.sk, ds := r.ss }
def recFall (r : Rc) : Rc := if validB r = true then fallR r else rc0
theorem recFall_no (h : validB r = false) : recFall r = rc0 := by simp [recFall, h]
theorem recFall_yes (h : validB r = true) : recFall r = fallR r := by simp [recFall, h]
/-- up again -/
def riseU (r : Rc) : Rc := { r with up := true }
def recRise (r : Rc) : Rc := if validB r = true then riseU r else rc0
theorem recRise_no (h : validB r = false) : recRise r = rc0 := by simp [recRise, h]
theorem recRise_yes (h : validB r = true) : recRise r = riseU r := by simp [recRise, h]
theorem RcHas.rise {p : RcP} {X : RcX} {col : Nat → Nat} (h : RcHas B w r p X col) : RcHas B w (riseU r) p X col :=
 ⟨h.s, h.d, h.h, h.hm, h.hi, h.t, h.y, h.b, h.a, h.am, h.ai, ⟨h.gd.s, h.gd.d, h.gd.h, h.gd.t, h.gd.y, h.gd.b, h.gd.a⟩⟩
def NK (a r : Rc) : Prop := a.num = r.num ∧ a.of_ = r.of_
theorem NK.refl (r : Rc) : NK r r := ⟨rfl, rfl⟩
theorem NK.trans {a b c : Rc} (h : NK a b) (k : NK b c) : NK a c := ⟨h.1.trans k.1, h.2.trans k.2⟩
theorem nk_hold (r : Rc) (m : MsgH) (l : List Sl) : NK (holdR r m l) r := ⟨(hold_keep2 r m l).1, (hold_keep2 r m l).2.1⟩
theorem nk_follow (r : Rc) (b : Int) : NK (followR r b) r := ⟨(follow_keep r b).1, (follow_keep r b).2.1⟩
theorem nk_prom (r : Rc) (f : Int) (l : List Sl) : NK (promR r f l) r := ⟨(prom_keep r f l).1, (prom_keep r f l).2.1⟩
theorem nk_need7 (f : Int) : ∀ (n : Nat) (i : Int) (r : Rc), NK (need7 f n i r) r
 | 0, _, r => NK.refl r
 | n + 1, i, r => by
  unfold need7;split
  ·exact (nk_need7 f n _ _).trans (nk_hold _ _ _)
  ·exact NK.refl r
theorem nk_tell (r : Rc) (f : Int) (W : List ByteArray) : NK (tellR r f W) r := by
 induction W generalizing r with
 | nil => exact NK.refl r
 | cons t W ih => exact (ih _).trans (nk_hold _ _ _)
theorem nk_holdAll (l : List Mp) (r : Rc) : NK (holdAll r l) r := by
 induction l generalizing r with
 | nil => exact NK.refl r
 | cons t W ih => exact (ih _).trans (nk_hold _ _ _)
theorem nk_take (r : Rc) (m : MsgH) (l : List Sl) : NK (takeR r m l) r := by
 unfold takeR;split
 ·unfold prep1;split
  ·exact nk_hold _ _ _
  ·exact (nk_hold _ _ _).trans (nk_follow _ _)
 split
 ·unfold prom2;split
  ·exact nk_prom _ _ _
  ·exact NK.refl _
 split
 ·unfold accept3;split
  ·exact nk_hold _ _ _
  split
  ·exact NK.refl _
  ·refine (nk_hold _ _ _).trans ?_;split
   ·exact (show NK (setR (followR r m.b) m.i.toNat (m.b, m.x)) (followR r m.b) from ⟨rfl, rfl⟩).trans (nk_follow _ _)
   ·exact nk_follow _ _
 split
 ·unfold ack4;split
  ·exact ⟨rfl, rfl⟩
  ·exact NK.refl _
 split
 ·unfold beat5;split
  ·exact nk_hold _ _ _
  ·unfold beatR;split
   ·exact NK.refl _
   ·refine (nk_tell _ _ _).trans ?_;have h1 : NK (beatK (followR r m.b) m) r := (show NK (beatK (followR r m.b) m) (followR r m.b) from ⟨rfl, rfl⟩).trans (nk_follow _ _);unfold needR;split
    ·exact (nk_hold _ _ _).trans h1
    ·exact h1
 split
 ·unfold chosen6;split
  ·exact ⟨rfl, rfl⟩
  ·exact NK.refl _
 split
 ·exact nk_need7 _ _ _ _
 split
 ·unfold wishR;split
  ·exact ⟨rfl, rfl⟩
  ·exact NK.refl _
 ·unfold refuse9;split
  ·exact ⟨rfl, rfl⟩
  ·exact NK.refl _
theorem nk_recTake (v : validB r = true) (m : MsgH) (l : List Sl) : NK (recTake r m l) r := by
 unfold recTake;rw [if_pos v];split
 ·exact nk_take _ _ _
 ·exact NK.refl _
theorem nk_try (r : Rc) : NK (tryR r) r := by
 unfold tryR;split
 ·split
  ·exact (nk_holdAll _ _).trans ⟨rfl, rfl⟩
  ·exact ⟨rfl, rfl⟩
 ·exact NK.refl _
theorem nk_recTick (v : validB r = true) : NK (recTickR r) r := by
 unfold recTickR;rw [if_pos v];split
 ·unfold tickR;have h2 : NK (tick2 (tick1 r)) r := (show NK (tick2 (tick1 r)) (tick1 r) from ⟨(tick2_keep _).1, (tick2_keep _).2.1⟩).trans ⟨rfl, rfl⟩;split
  ·exact (show NK (leadT (tick2 (tick1 r))) (tick2 (tick1 r)) from ⟨(leadT_keep _).1, (leadT_keep _).2.1⟩).trans h2
  ·exact (nk_try _).trans h2
 ·exact NK.refl _
theorem vr_fall (v : VR r) : VR (fallR r) :=
 ⟨v.o1, v.o5, v.n1, v.nn, v.s, v.s, ⟨Nat.zero_le _, fun m hm => absurd hm (by simp [fallR, rc0])⟩, ⟨Nat.zero_le _, fun m hm => absurd hm (by simp [fallR, rc0]), List.Pairwise.nil⟩, Int.le_refl _, by show (0 : Int) ≤ 1000000; omega, nok_nil _, lok_nil, aok_nil _, fun q => by simp [fallR, rc0] at q, fun q => by simp [fallR, rc0] at q, fun _ q => by simp [fallR, rc0] at q, fun _ _ => ⟨rfl, rfl, rfl, rfl⟩, .inr ⟨rfl, rfl, rfl, rfl, rfl⟩⟩
theorem vr_rise (v : VR r) : VR (riseU r) :=
 ⟨v.o1, v.o5, v.n1, v.nn, v.s, v.d, v.h, v.w, v.e0, v.e1, v.y, v.b, v.a, v.lt, v.ld, v.tr, v.cl, .inl rfl⟩
theorem recFall_ok (v : validB r = true) : VR (recFall r) ∧ NK (recFall r) r := by
 rw [recFall_yes v];exact ⟨vr_fall (vr_iff.1 v), rfl, rfl⟩
theorem recRise_ok (v : validB r = true) : VR (recRise r) ∧ NK (recRise r) r := by
 rw [recRise_yes v];exact ⟨vr_rise (vr_iff.1 v), rfl, rfl⟩
theorem WM.grow (h : WM B w d p I H) (hc : ∀ q ∈ I, ∀ b, w.heap.size ≤ b → 8 < q.c b) {a' : Option Addr} {c' : Nat} {q : Mp} (ho : w'.ownsRow B 49 8 (.slice a' (H.length + 1) c') (H.length + 1) (flatM H ++ cellsM q)) (hg : w.grownBy w' (Value.slice p.aF H.length p.cF).ownBlock) (hn : NewOr w p.aF a')
  (hq : RowC B w (fun _ => 0) 0 43 2 q.2.1 q.1.2.length q.2.2 (flat q.1.2)) (hk : WK { d with fl := d.fl ++ [q.1] }) : WM B w' { d with fl := d.fl ++ [q.1] } { p with aF := a', cF := c' } I (H ++ [q]) := by
 have hs : ∀ b, b < w.heap.size → (∀ x, p.aF = some x → b ≠ x.block) → w'.heap[b]? = w.heap[b]? := fun b hlt hne => hg.block b hlt (fun e => by
  cases ha : p.aF with
  | none => rw [ha] at e; simp [Value.ownBlock] at e
  | some x => rw [ha] at e; simp only [Value.ownBlock, Option.some.injEq] at e; exact hne x ha e)
 have ne : ∀ {T : TypeId} {g : Nat} {cs : Array Value}, Blk w g cs T → 49 ≠ T → ∀ x, p.aF = some x → g ≠ x.block := fun hk t x hx e => RowC.ne h.fr hk t x hx e.symm
 have rr : RowC B w (fun _ => 0) 0 31 18 p.aR d.recs.length p.cR (flatR d.recs I) := RowC.mk h.row (fun _ _ => rfl);have rs : ∀ {T : TypeId} {k : Nat} {a : Option Addr} {n c : Nat} {xs : List Value}, RowC B w (fun _ => 0) 0 T k a n c xs → 49 ≠ T → RowC B w' (fun _ => 0) 0 T k a n c xs := fun hr t => by
  refine hr.same fun x hx => hs _ (hr.lt x hx).2 ?_
  rcases hr.form with ⟨e, _⟩ | ⟨g, cur, e, _, hb, _⟩
  ·rw [hx] at e; simp at e
  ·rw [hx] at e;simp only [Option.some.injEq] at e;subst e;exact ne hb t
 refine ⟨h.li, (rs rr (by decide)).own, fun i r u hr hu => ?_, by rw [List.map_append, h.fm]; rfl, ?_, fun u hu => ?_, rs h.fx (by decide), wk_iff.2 hk⟩
 ·have k := h.rc i r u hr hu;refine ⟨k.1.same fun b hB hlt h8 => hs b hlt (fun x hx e => by have := k.2.2 x hx; rw [e] at h8; omega), k.2.1, fun x hx => ?_⟩;rcases hn x hx with ⟨y, hy, e⟩ | hnew
  ·rw [← e];exact k.2.2 y hy
  ·exact hc u (List.mem_of_getElem? hu) _ hnew
 ·refine ⟨?_, fun _ _ => rfl⟩;rw [List.length_append, flatM_app, flatM_single];exact ho
 ·rcases List.mem_append.1 hu with hu | hu
  ·exact rs (h.fi u hu) (by decide)
  ·simp only [List.mem_cons, List.not_mem_nil, or_false] at hu;subst hu;exact rs hq (by decide)
end Go.Proofs.Ytjdceoimignnpaa
