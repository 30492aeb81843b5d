import Derived.Test.YtjdceoimignnpaaF36
import Derived.Test.YtjdceoimignnpaaF25
namespace Go.Proofs.Ytjdceoimignnpaa
open Go.ChangeShapes Go.WideShapes Go.ChangeAt Go.RowKit next
set_option linter.unusedVariables false
set_option linter.unusedSimpArgs false
set_option maxHeartbeats 32000000
set_option maxRecDepth 20000
variable {cs ms : Array Value} {X X' : List (Nat × TypeId × Array Value)} {H H' : List Mp} {I J : List jF} {B g : Nat} {d d' : Wd} {p p' : kV} {w w' w0 w2 wr : World}
theorem kK {c k : Nat} {q : Mp} (h : iJ B w (some ⟨g, 0, none⟩) H c) (hq : H[k]? = some q) : w.rangeAt g (k * 8) (bU q.1.1 (.slice q.2.1 q.1.2.length q.2.2)).toList := fun j v hv => by
 have hj : j < 8 := (List.getElem?_eq_some_iff.1 hv).1;obtain ⟨g1, e1, _, c1, _⟩ := h.cell (show (bZ H)[k * 8 + j]? = some v by rw [tK H k j q hq hj]; exact hv);simp only [Option.some.injEq, Addr.mk.injEq, and_true] at e1;subst e1;exact c1
theorem WM.range (h : WM B w d p I H) {gR i : Nat} {r : Rc} {q : jF} (hg : p.aR = some ⟨gR, 0, none⟩) (hr : d.recs[i]? = some r) (hq : I[i]? = some q) : w.rangeAt gR (i * 18) (au r q.p).toList := fun j v hv => by
 have hj : j < 18 := (List.getElem?_eq_some_iff.1 hv).1;rw [Array.getElem?_toList] at hv;obtain ⟨g1, e1, _, c1, _⟩ := (aO.mk h.row (fun _ _ => rfl) : aO B w (fun _ => 0) 0 31 18 p.aR d.recs.length p.cR (fG d.recs I)).cell (show (fG d.recs I)[i * 18 + j]? = some v by rw [mW d.recs I i r q hr hq j hj]; exact hv);rw [hg] at e1;simp only [Option.some.injEq, Addr.mk.injEq, and_true] at e1;subst e1;exact c1
theorem WM.there (h : WM B w d p I H) {gR i : Nat} (hg : p.aR = some ⟨gR, 0, none⟩) (hi : i < d.recs.length) : w.there gR (i * 18) 18 := by
 obtain ⟨g0, cur, ea, hB, hk, hsz, hnc, hm, htk⟩ := h.cells;rw [hg] at ea;simp only [Option.some.injEq, Addr.mk.injEq, and_true] at ea;subst ea;exact hk.there (by rw [hsz]; omega)
theorem WM.Ik (h : WM B w d p I H) {a' : Option Addr} {c' : Nat} (hr : iJ B w a' H' c') (hc : ∀ q ∈ I, ∀ x, a' = some x → 8 < q.c x.block) (hi : ∀ q ∈ H', aO B w (fun _ => 0) 0 43 2 q.2.1 q.1.2.length q.2.2 (flat q.1.2)) (ho : gp { d with fl := H'.map (·.1) } = true) : WM B w { d with fl := H'.map (·.1) } { p with aF := a', cF := c' } I H' :=
 ⟨h.li, h.row, fun i r q hr2 hq => ⟨(h.rc i r q hr2 hq).1, (h.rc i r q hr2 hq).2.1, hc q (List.mem_of_getElem? hq)⟩, rfl, hr, hi, h.fx, ho⟩
abbrev xZ (T : TypeId) : Prop := 31 ≠ T ∧ 49 ≠ T ∧ 43 ≠ T ∧ 137 ≠ T
structure WB (B : Nat) (w0 : World) (d : Wd) (p : kV) (J : List jF) (H : List Mp) (X : List (Nat × TypeId × Array Value)) (wr : World) : Prop where
 m : WM B wr d p J H
 b : Below B w0 wr
 s : B ≤ w0.heap.size
 x : ∀ u ∈ X, aC wr u.1 u.2.2 u.2.1 ∧ B ≤ u.1 ∧ xZ u.2.1 ∧ ∀ q ∈ J, 8 < q.c u.1
theorem WB.low (h : WB B w0 d p J H X wr) : B ≤ wr.heap.size := Nat.le_trans h.s h.b.size
theorem WB.ext (h : WB B w0 d p J H X wr) (hb : Below wr.heap.size wr w2) : WB B w0 d p J H X w2 :=
 ⟨h.m.ext hb, h.b.trans (hb.mono h.low), h.s, fun u hu => ⟨(h.x u hu).1.ext hb, (h.x u hu).2⟩⟩
theorem WB.fresh (h : WB B w0 d p J H X wr) : WB B w0 d p (J.map (gJ wr.heap.size)) H X wr :=
 ⟨h.m.fresh, h.b, h.s, fun u hu => ⟨(h.x u hu).1, (h.x u hu).2.1, (h.x u hu).2.2.1, fun q hq => by
  obtain ⟨q0, h0, rfl⟩ := List.mem_map.1 hq;show 8 < dm wr.heap.size q0.c u.1;rw [bn (h.x u hu).1.lt]
  exact (h.x u hu).2.2.2 q0 h0⟩⟩
/-- boxes more -/
theorem WB.boxes (h : WB B w0 d p J H X wr) (hb : Below wr.heap.size wr w2) (Y : List (Nat × TypeId × Array Value)) (hY : ∀ u ∈ Y, aC w2 u.1 u.2.2 u.2.1 ∧ wr.heap.size ≤ u.1 ∧ xZ u.2.1) : WB B w0 d p (J.map (gJ wr.heap.size)) H (Y ++ X) w2 := by
 have k := h.fresh.ext hb;refine ⟨k.m, k.b, k.s, fun u hu => ?_⟩;rcases List.mem_append.1 hu with hu | hu
 ·exact ⟨(hY u hu).1, Nat.le_trans h.low (hY u hu).2.1, (hY u hu).2.2, fun q hq => mF (hY u hu).2.1 q hq⟩
 ·exact k.x u hu
theorem vN : xZ 116 := by decide
theorem MZ : xZ 124 := by decide
theorem WB.Ih (h : WB B w0 d p J H X wr) (hb : Below wr.heap.size wr w2) {g : Nat} {T : TypeId} {cs : Array Value} (k : aC w2 g cs T) (l : wr.heap.size ≤ g) (o : xZ T) : WB B w0 d p (J.map (gJ wr.heap.size)) H ((g, T, cs) :: X) w2 :=
 h.boxes hb [(g, T, cs)] fun u hu => by
  simp only [List.mem_cons, List.not_mem_nil, or_false] at hu;subst hu;exact ⟨k, l, o⟩
theorem WB.CU (h : WB B w0 d p J H X wr) (hb : Below wr.heap.size wr w2) {g g' : Nat} {T T' : TypeId} {cs cs' : Array Value} (k : aC w2 g cs T) (l : wr.heap.size ≤ g) (o : xZ T) (k' : aC w2 g' cs' T') (l' : wr.heap.size ≤ g') (o' : xZ T') : WB B w0 d p (J.map (gJ wr.heap.size)) H ((g, T, cs) :: (g', T', cs') :: X) w2 :=
 h.boxes hb [(g, T, cs), (g', T', cs')] fun u hu => by
  simp only [List.mem_cons, List.not_mem_nil, or_false] at hu;rcases hu with rfl | rfl
  ·exact ⟨k, l, o⟩
  ·exact ⟨k', l', o'⟩
theorem WB.JZ (h : WB B w0 d p J H X wr) (hb : Below wr.heap.size wr w2) {g g' g'' : Nat} {T T' T'' : TypeId} {cs cs' cs'' : Array Value} (k : aC w2 g cs T) (l : wr.heap.size ≤ g) (o : xZ T) (k' : aC w2 g' cs' T') (l' : wr.heap.size ≤ g') (o' : xZ T') (k'' : aC w2 g'' cs'' T'') (l'' : wr.heap.size ≤ g'') (o'' : xZ T'') : WB B w0 d p (J.map (gJ wr.heap.size)) H ((g, T, cs) :: (g', T', cs') :: (g'', T'', cs'') :: X) w2 :=
 h.boxes hb [(g, T, cs), (g', T', cs'), (g'', T'', cs'')] fun u hu => by
  simp only [List.mem_cons, List.not_mem_nil, or_false] at hu;rcases hu with rfl | rfl | rfl
  ·exact ⟨k, l, o⟩
  ·exact ⟨k', l', o'⟩
  ·exact ⟨k'', l'', o''⟩
/-- a box is written -/
theorem WB.upd (h : WB B w0 d p J H X wr) {g : Nat} {T : TypeId} {cs cs' : Array Value} (hg : (g, T, cs) ∈ X) (hs : ∀ b, b ≠ g → w'.heap[b]? = wr.heap[b]?) (hk : aC w' g cs' T) (hb : Below B wr w') (hX : ∀ u ∈ X', u = (g, T, cs') ∨ (u ∈ X ∧ u.1 ≠ g)) : WB B w0 d p J H X' w' := by
 have k := h.x _ hg;refine ⟨h.m.box k.1 k.2.2.1.1 k.2.2.1.2.1 k.2.2.1.2.2.1 k.2.2.1.2.2.2 k.2.2.2 hs, h.b.trans hb, h.s, fun u hu => ?_⟩;rcases hX u hu with rfl | ⟨h1, h2⟩
 ·exact ⟨hk, k.2⟩
 ·exact ⟨(hs _ h2).trans (h.x u h1).1, (h.x u h1).2⟩
/-- a recorder made anew takes its place -/
theorem WB.put {w3 : World} (h : WB B w0 d p J H X wr) (hb : Below wr.heap.size wr w3) {j gR : Nat} {r r' : Rc} {p' : fU} {X' : iU} {c' : Nat → Nat} (hg : p.aR = some ⟨gR, 0, none⟩) (hr : d.recs[j]? = some r) (h' : aG wr.heap.size w3 r' p' X' c') (v : VR r') (nk : NK r' r) :
  WB B w0 (gK d j r') p (J.set j ⟨p', X', under wr.heap.size c'⟩) H X (w3.setCells gR (j * 18) (au r' p').toList) := by
 have g1 := h.m.lt _ hg;have hs : ∀ b, b ≠ gR → (w3.setCells gR (j * 18) (au r' p').toList).heap[b]? = w3.heap[b]? := fun b hb => jo gR _ _ w3 b hb
 obtain ⟨_, cur, eR, _, hkR, _⟩ := h.m.cells;rw [hg] at eR;simp only [Option.some.injEq, Addr.mk.injEq, and_true] at eR;subst eR;have k3 := h.ext hb;refine ⟨k3.m.NF hg hr h' h.low g1.2 (fun x hx => (h.m.fr.lt x hx).2) v nk.1 nk.2, below_setCells k3.b gR g1.1 _ _, h.s, fun u hu => ?_⟩;have hu0 := h.x u hu;have ne : u.1 ≠ gR := fun e => by
  have h1 := hu0.1;rw [e] at h1;have h2 := hkR.symm.trans h1;simp only [Option.some.injEq, Obj.cells.injEq] at h2;exact hu0.2.2.1.1 h2.2.1
 refine ⟨(hs _ ne).trans (k3.x u hu).1, hu0.2.1, hu0.2.2.1, fun q hq => ?_⟩;rcases List.mem_or_eq_of_mem_set hq with h1 | h1
 ·exact hu0.2.2.2 q h1
 ·rw [h1];show 8 < under wr.heap.size c' _;rw [iT hu0.1.lt];omega
/-- other messages are under way -/
theorem WB.NR (h : WB B w0 d p J H X wr) {a' : Option Addr} {c' : Nat} (hr : iJ B wr a' H' c') (hc : ∀ q ∈ J, ∀ x, a' = some x → 8 < q.c x.block) (hi : ∀ q ∈ H', q ∈ H) (ho : WK { d with fl := H'.map (·.1) }) : WB B w0 { d with fl := H'.map (·.1) } { p with aF := a', cF := c' } J H' X wr :=
 ⟨h.m.Ik hr hc (fun q hq => h.m.fi q (hi q hq)) (fZ.2 ho), h.b, h.s, h.x⟩
/-- one message more -/
theorem WB.grow {w6 w7 : World} (h : WB B w0 d p J H X wr) {q : Mp} (hb : Below wr.heap.size wr w6) (hq : aO B w6 (fun _ => 0) 0 43 2 q.2.1 q.1.2.length q.2.2 (flat q.1.2)) (hok : bY q.1.1 (d.recs.length : Int) q.1.2 = true) (hl : d.fl.length < 600) {a' : Option Addr} {c' : Nat}
  (ho : w7.ownsRow B 49 8 (.slice a' (H.length + 1) c') (H.length + 1) (bZ H ++ fP q)) (hg : w6.grownBy w7 (Value.slice p.aF H.length p.cF).ownBlock) (hn : dP w6 p.aF a') :
  WB B w0 { d with fl := d.fl ++ [q.1] } { p with aF := a', cF := c' } (J.map (gJ w6.heap.size)) (H ++ [q]) X w7 := by
 have h6 := (h.ext hb).fresh;have wk := fZ.1 h.m.ok
 have hk : WK { d with fl := d.fl ++ [q.1] } := ⟨wk.n1, wk.n5, wk.r, by show (d.fl ++ [q.1]).length ≤ 600; rw [List.length_append]; simp only [List.length_cons, List.length_nil]; omega, fun m hm => by
  rcases List.mem_append.1 hm with hm | hm
  ·exact wk.fm m hm
  ·simp only [List.mem_cons, List.not_mem_nil, or_false] at hm;subst hm
   exact hok, wk.fk, wk.ft⟩
 have hs : ∀ b, b < w6.heap.size → (∀ x, p.aF = some x → b ≠ x.block) → w7.heap[b]? = w6.heap[b]? := fun b hlt hne => hg.block b hlt (fun e => by
  cases ha : p.aF with
  | none => rw [ha] at e; simp [Value.ownBlock] at e
  | some x => rw [ha] at e; simp only [Value.ownBlock, Option.some.injEq] at e; exact hne x ha e)
 refine ⟨h6.m.grow (fun u hu b hb => mF hb u hu) ho hg hn hq hk, ?_, h.s, fun u hu => ?_⟩
 ·exact below_grow h6.b hg (fun jj hjj => by
   cases ha : p.aF with
   | none => rw [ha] at hjj; simp [Value.ownBlock] at hjj
   | some x => rw [ha] at hjj; simp only [Value.ownBlock, Option.some.injEq] at hjj; rw [← hjj]; exact (h6.m.fr.lt x ha).1) h6.low
 ·have k := h6.x u hu;exact ⟨(hs _ k.1.lt (fun x hx e => aO.ne h6.m.fr k.1 k.2.2.1.2.1 x hx e.symm)).trans k.1, k.2⟩
theorem WB.top {T : TypeId} {cs' : Array Value} (h : WB B w0 d p J H ((g, T, cs) :: X) wr) (hs : ∀ b, b ≠ g → w'.heap[b]? = wr.heap[b]?) (hk : aC w' g cs' T) (hb : Below B wr w') (hX : ∀ u ∈ X, u.1 ≠ g) : WB B w0 d p J H ((g, T, cs') :: X) w' :=
 h.upd (.head _) hs hk hb fun u hu => by
  rcases List.mem_cons.1 hu with rfl | hu
  ·exact .inl rfl
  ·exact .inr ⟨.tail _ hu, hX u hu⟩
/-- behind l6Fix -/
theorem WB.fix (h : WB B w0 d p J H X wr) (m : WM B w' d' p' (J.map (gJ wr.heap.size)) H) (hb : Below wr.heap.size wr w') : WB B w0 d' p' (J.map (gJ wr.heap.size)) H X w' :=
 ⟨m, h.b.trans (hb.mono h.low), h.s, fun u hu => ⟨(h.x u hu).1.ext hb, (h.fresh.x u hu).2⟩⟩
/-- the answer: the last box is written, the boxes of the caller stay -/
theorem WB.ends (h : WB B w d p J H X wr) {g : Nat} {T : TypeId} {cs cs' : Array Value} (hg : (g, T, cs) ∈ X) (hX : ∀ u ∈ X', u ∈ X ∧ u.1 ≠ g) : WB B w d p J H X' (wr.setRow g cs') :=
 ⟨h.m.box (h.x _ hg).1 (h.x _ hg).2.2.1.1 (h.x _ hg).2.2.1.2.1 (h.x _ hg).2.2.1.2.2.1 (h.x _ hg).2.2.1.2.2.2 (h.x _ hg).2.2.2 (fun b hb => setRow_other _ _ _ _ hb), ay h.b (h.x _ hg).2.1 _, h.s, fun u hu => ⟨(setRow_other _ _ _ _ (hX u hu).2).trans (h.x u (hX u hu).1).1, (h.x u (hX u hu).1).2⟩⟩
/-- a step that another function takes from the world wr on -/
theorem WB.then {J' : List jF} (h : WB B w0 d p J H X wr) (k : WB B wr d' p' J' H' X' w') : WB B w0 d' p' J' H' X' w' := ⟨k.m, h.b.trans k.b, h.s, k.x⟩
theorem WB.self (h : WB B w0 d p J H X wr) : WB B wr d p J H X wr := ⟨h.m, Below.refl _ _, h.low, h.x⟩
def NU (B : Nat) (w : World) (n : Nat) (X : List (Nat × TypeId × Array Value)) (e : Ending) (w' : World) : Prop := ∃ d' p' J H', e = .returned (.agg (bQ d' p')) ∧ WB B w d' p' J H' X w' ∧ d'.recs.length = n
/-- an append leaves what lay in the row -/
theorem F8 (base : Nat) (t ty e : TypeId) (i : TypeInfo) (z : Value) (size bytes : Nat) (ht : Try.prog.underlying t = some (.slice e)) (hi : Try.prog.info? e = some i) (hz : i.zero = some z)
  (hsize : i.size = size) (hby : i.bytes = bytes) (g n c0 : Nat) (xs : List Value) (hown : w.ownsRow base e size (.slice (some ⟨g, 0, none⟩) n c0) n xs)
  (ad : Addr) (m c : Nat) (news : List Value) (hr : aN w (some ad) m c size news) (h1 : ∀ u ∈ news, u.oneCell' = true)
  (h63 : n + m ≤ maxLen) (hbytes : ((n + m) + (n + m) / 4 + 192) * bytes ≤ 281474976710656) {v' : Value} {w' : World} (hrun : (Builtin.append_ #[t, t] ty #[.slice (some ⟨g, 0, none⟩) n c0, .slice (some ad) m c]).run Try.prog w = .ok v' w') (j : Nat) (u : Value) (hj : xs[j]? = some u) : w'.cell? ⟨g, j, none⟩ = some u := by
 subst hsize;subst hby;have hl := hr.len;have hnews := (hr.cells ad rfl).2;have hsmall : n + m ≤ 9223372036854775807 := by simp only [maxLen] at h63; omega
 have holds : ∀ j u, xs[j]? = some u → w.cell? ((⟨g, 0, none⟩ : Addr).add j) = some u := hown.cells (g := g) rfl
 rcases hown.2 with ⟨hv, hn0⟩ | ⟨g1, cap, cur, hv, hbg, hg, hnc, hcm, hcs, htake⟩
 ·simp only [Value.slice.injEq] at hv;simp at hv
 simp only [Value.slice.injEq, Option.some.injEq, Addr.mk.injEq, and_true] at hv;obtain ⟨rfl, _, rfl⟩ := hv;have hlt := (List.getElem?_eq_some_iff.1 hj).1;by_cases hroom : n + m ≤ c0
 ·have hfit : n * i.size + news.length ≤ cur.size := by rw [hl, hcs, ← Nat.add_mul]; exact Nat.mul_le_mul_right _ hroom
  have hr2 := run_append_room (P := Try.prog) w t ty e i ht hi g n c0 cur hg ad m c news hl hnews h1 hroom hfit;rw [hr2] at hrun;simp only [Result.ok.injEq] at hrun;rw [← hrun.2];have k := setRow_heap w g cur (cur.toList.take (n * i.size) ++ news ++ cur.toList.drop (n * i.size + news.length)).toArray _ _ hg;rw [aC.cell k, List.getElem?_toArray, List.append_assoc, htake, List.getElem?_append_left hlt];exact hj
 ·have hr2 := run_append_grow (P := Try.prog) w t ty e i z ht hi hz ⟨g, 0, none⟩ n c0 xs hown.1 holds ad m c news hl hnews (by omega) (by omega) (growslice_fits_wide (by omega) hbytes);rw [hr2] at hrun;simp only [Result.ok.injEq] at hrun;rw [← hrun.2];have E := ae (Below.refl w.heap.size w).drew (.cells (xs.toArray ++ news.toArray ++ Builtin.zeroCells z.cells (grownCap w (n + m) c0 e - (n + m))) e);have h9 := holds j u hj;rw [show (⟨g, 0, none⟩ : Addr).add j = ⟨g, j, none⟩ by unfold Addr.add; split <;> simp_all] at h9;exact (World.cell?_of_block (a := ⟨g, j, none⟩) (E.block g (aC.lt hg))).trans h9
theorem uM {ops : Array Oper} {rest : List Oper} {dst : Option Tmp} {x : Operand} {τ : TypeId} {pos : String} {after : Array Edge} {a : Act} {w : World} {Q : Exit → Act → World → Prop}
  (b o : Nat) (cs : Array Value) (hs : cs.size = 8) (hx : a.eval x = .pointer (some ⟨b, o, none⟩)) (hg : w.rangeAt b o cs.toList)
  (h : wpList Try.prog ops Q rest (a.put dst (.agg cs)) w) :
  wpList Try.prog ops Q ({ dst := dst, op := .load 49 x, type := τ, pos := pos, after := after, guard := none } :: rest) a w :=
 wpList_load_mid (op := { dst := dst, op := .load 49 x, type := τ, pos := pos, after := after, guard := none }) rfl 49 x rfl b o hx cs.toList _ hg Try.underlying49 rfl (by rw [Array.length_toList, hs]; kernel_rfl) (by rw [Array.toArray_toList]; exact h)
theorem uO {ops : Array Oper} {rest : List Oper} {dst : Option Tmp} {x y : Operand} {τ : TypeId} {pos : String} {after : Array Edge} {a : Act} {w0 : World} {c : Array Value} {Q : Exit → Act → World → Prop}
  (cells : Array Value) (hs : cells.size = 8) (hx : a.eval x = .pointer (some ⟨w0.heap.size, 0, none⟩)) (hy : a.eval y = .agg cells) (hc : c.size = 8) (h1 : cells.all (·.oneCell') = true)
  (h : wpList Try.prog ops Q rest (a.put dst undef) (w0.alloc (.cells cells 49))) :
  wpList Try.prog ops Q ({ dst := dst, op := .store 49 x y, type := τ, pos := pos, after := after, guard := none } :: rest) a (w0.alloc (.cells c 49)) :=
 dU cells hx hy (by rw [hs]; kernel_rfl) (by rw [hc, hs]) h1 h
structure Lp (g gm gR o : Nat) (cs ms rs : Array Value) (w : World) : Prop where
 k : aC w g cs 116
 b : aC w gm ms 49
 r : w.rangeAt gR o rs.toList
theorem Lp.drew {gm gR o : Nat} {rs : Array Value} (h : Lp g gm gR o cs ms rs w) : Lp g gm gR o cs ms rs w.drew := ⟨aC.drew h.k, aC.drew h.b, h.r⟩
structure IP (B : Nat) (w0 : World) (d : Wd) (p : kV) (I : List jF) (H : List Mp) (ms : Array Value) (X : List (Nat × TypeId × Array Value)) (wr : World) : Prop where
 t : WB B w0 d p I H ((w0.heap.size, 116, bQ d p) :: (w0.heap.size + 1, 116, zW) :: X) wr
 bm : aC wr (w0.heap.size + 1 + 1) ms 49
 b : Below w0.heap.size w0 wr
theorem IP.k (h : IP B w0 d p I H ms X wr) : aC wr w0.heap.size (bQ d p) 116 := (h.t.x _ (.head _)).1
theorem IP.m (h : IP B w0 d p I H ms X wr) : WM B wr d p I H := h.t.m
theorem IP.ext (h : IP B w0 d p I H ms X wr) (hb : Below wr.heap.size wr w2) : IP B w0 d p I H ms X w2 :=
 ⟨h.t.ext hb, h.bm.ext hb, aj h.b hb⟩
theorem zF {α : Type} {H : List α} {k : Nat} {x : α} (h : x ∈ H.take k ++ H.drop (k + 1)) : x ∈ H := by
 rcases List.mem_append.1 h with h | h
 ·exact List.mem_of_mem_take h
 exact List.mem_of_mem_drop h
theorem Ij (h : WK d) {H : List Mp} (hm : H.map (·.1) = d.fl) (k : Nat) : WK { d with fl := (H.take k ++ H.drop (k + 1)).map (·.1) } :=
 ⟨h.n1, h.n5, h.r, by
  have h1 := h.fl;rw [← hm, List.length_map] at h1;simp only [List.length_map, List.length_append, List.length_take, List.length_drop];omega, fun m hm2 => by
  obtain ⟨x, hx, rfl⟩ := List.mem_map.1 hm2
  exact h.fm _ (by rw [← hm]; exact List.mem_map_of_mem (zF hx)), h.fk, h.ft⟩
def Og (B : Nat) (w : World) (n : Nat) (H' : List Mp) (X : List (Nat × TypeId × Array Value)) (e : Ending) (w' : World) : Prop :=
 ∃ d' p' J, e = .returned (.agg (bQ d' p')) ∧ WB B w d' p' J H' X w' ∧ d'.recs.length = n
theorem Ah (B : Nat) (a : Option Addr) (H : List Mp) (c k n : Nat) (w : World) (hn : n = H.length) (h : iJ B w a H c) (hk : k < H.length) (hN : H.length ≤ 600) :
  Calls Try.prog 95 #[.slice a n c, .int .i64 k] w (MW w (H.take k ++ H.drop (k + 1))) := by
 subst hn;exact Jl B a H c k w h hk hN
theorem rf (d : Wd) (i : Nat) (r : Rc) (p : kV) : bQ (gK d i r) p = bQ d p := by simp [gK]
theorem yL (B : Nat) (d : Wd) (p : kV) (I : List jF) (H : List Mp) (k : Nat) (X : List (Nat × TypeId × Array Value)) (w : World) (hh : WB B w d p I H X w) (hk : k < H.length) :
  Calls Try.prog 94 #[.agg (bQ d p), .int .i64 k] w (Og B w d.recs.length (H.take k ++ H.drop (k + 1)) X) := by
 have h := hh.m;have hB := hh.s;have XL := hid (show ∀ u ∈ X, u.1 < w.heap.size from fun u hu => (hh.x u hu).1.lt);obtain ⟨H2, hH2⟩ : ∃ L, L = (H.take k ++ H.drop (k + 1)) := ⟨_, rfl⟩
 rw [← hH2];obtain ⟨q, hq⟩ : ∃ q, H[k]? = some q := ⟨_, List.getElem?_eq_getElem hk⟩
 obtain ⟨I0, hI0⟩ : ∃ J, J = I.map (gJ w.heap.size) := ⟨_, rfl⟩
 have WKd := hid (fZ.1 h.ok);have FM := hid h.fm;have MEM := hid (show ∀ x ∈ H2, x ∈ H from fun x hx => by rw [hH2] at hx; exact zF hx);have WK2 := hid (show WK { d with fl := H2.map (·.1) } by rw [hH2]; exact Ij WKd.out h.fm k);have HH := hid hH2;clear hH2;have LF := hid (show d.fl.length = H.length by rw [← h.fm, List.length_map]);have HK := hid hk;have h6 : H.length ≤ 600 := by have := WKd.out.fl; have := LF.out; omega
 have MOK := hid (pg.1 (WKd.out.fm q.1 (by rw [← h.fm]; exact List.mem_map_of_mem (List.mem_of_getElem? hq))));have SLR := hid (h.fi q (List.mem_of_getElem? hq));have SLA := hid (show cO w q.2.1 q.1.2 from SLR.out.slots (yu (o := (d.recs.length : Int)) (l := [q.1]) (fun m hm => by simp only [List.mem_cons, List.not_mem_nil, or_false] at hm; rw [hm]; exact WKd.out.fm q.1 (by rw [← h.fm]; exact List.mem_map_of_mem (List.mem_of_getElem? hq))) 0 q.1 rfl).2.2);have SLN := hid (show q.2.1 = none → q.2.2 = 0 from fun e => (SLR.out.read.nil e).2);have SLP := hid (show ∀ x, q.2.1 = some x → x.spot = none from fun x hx => (SLR.out.read.cells x hx).1);obtain ⟨i, hi⟩ : ∃ i : Nat, q.1.1.t = (i : Int) + 1 := ⟨(q.1.1.t - 1).toNat, by have := MOK.out.t.1; omega⟩
 have IL := hid (show i < d.recs.length by have := MOK.out.t.2; omega);obtain ⟨r, hr⟩ : ∃ r, d.recs[i]? = some r := ⟨_, List.getElem?_eq_getElem IL.out⟩
 obtain ⟨qi, hqi⟩ : ∃ x, I0[i]? = some x := ⟨_, List.getElem?_eq_getElem (by rw [hI0, List.length_map, h.li]; exact IL.out)⟩
 have HR := hid hr;have HQ := hid hqi;have VRr := hid (WKd.out.r i r hr).1;obtain ⟨aR, cR, aF, cF, aX, cX⟩ := p;obtain ⟨gR, curR, eR, hBR, hkR, _⟩ := h.cells;have HBR := hid hBR;clear hBR;have GR0 := hid hkR.lt;clear hkR;rcases h.fr.form with ⟨_, e2, _, _⟩ | ⟨gF, curF, eF, _⟩
 ·omega
 dsimp only at eR eF;subst eR eF;obtain ⟨V, hV⟩ : ∃ V, V = ((w.alloc (.cells (bQ d ⟨some ⟨gR, 0, none⟩, cR, some ⟨gF, 0, none⟩, cF, aX, cX⟩) 116)).alloc (.cells zW 116)).alloc (.cells (bU q.1.1 (.slice q.2.1 q.1.2.length q.2.2)) 49) := ⟨_, rfl⟩
 have S0 := hid (show IP B w d ⟨some ⟨gR, 0, none⟩, cR, some ⟨gF, 0, none⟩, cF, aX, cX⟩ I0 H (bU q.1.1 (.slice q.2.1 q.1.2.length q.2.2)) X V by
  have hb : Below w.heap.size w V := by rw [hV]; exact ae (ae (ae (Below.refl _ _) _) _) _
  have h1 : aC V w.heap.size (bQ d ⟨some ⟨gR, 0, none⟩, cR, some ⟨gF, 0, none⟩, cF, aX, cX⟩) 116 := by rw [hV]; exact ((aC.new _ _ _).alloc _).alloc _
  have h2 : aC V (w.heap.size + 1) zW 116 := by rw [hV]; exact (aC.new' _ _ (by simp)).alloc _
  exact ⟨by rw [hI0]; exact hh.CU hb h1 (Nat.le_refl _) vN h2 (by omega) vN, by rw [hV]; exact aC.new' _ _ (by simp), hb⟩)
 have C0 := hid (show ∀ b, w.heap.size ≤ b → ∀ q ∈ I0, 8 < q.c b from fun b hb q hq => by rw [hI0] at hq; exact mF hb q hq);have HB := hid hB;have rgM := kK h.fr hq;have e1 : (0 : Int) ≤ (k : Int) := by omega
 have e2 : (k : Int) < (d.fl.length : Int) := by have := LF.out; omega
 have HT := hid hi;clear h hh hB hI0 hr hqi hq hi;go_enter Try.func94, Try.ntmps94;have rg2 : (((w.alloc (.cells (bQ d ⟨some ⟨gR, 0, none⟩, cR, some ⟨gF, 0, none⟩, cF, aX, cX⟩) 116)).alloc (.cells zW 116))).rangeAt gF (k * 8) (bU q.1.1 (.slice q.2.1 q.1.2.length q.2.2)).toList := fun j v hv => by
  have h1 := rgM j v hv;have hlt : gF < w.heap.size := by
   cases hx : w.heap[gF]? with
   | none => simp [World.cell?, hx] at h1
   | some o => exact (Array.getElem?_eq_some_iff.1 hx).1
  rw [World.cell?_of_block ((ae (ae (Below.refl w.heap.size w) _) _).block gF hlt)];exact h1
 go_wp2_with (first | ((with_reducible refine uM gF (k * 8) (bU q.1.1 (.slice q.2.1 q.1.2.length q.2.2)) rfl ?_ ?_ ?_); rfl; exact rg2) | ((with_reducible refine uO (bU q.1.1 (.slice q.2.1 q.1.2.length q.2.2)) rfl ?_ ?_ ?_ ?_ ?_); rfl; rfl; rfl; simp [Value.oneCell']));rw [← hV];clear hV rg2 rgM e2;refine (Ah B (some ⟨gF, 0, none⟩) H cF k d.fl.length V LF.out S0.out.m.fr hk h6).mono ?_;rw [← HH.out];rintro e w2 ⟨a2, c2, rfl, row2, hb2⟩;have S1 := hid (S0.out.ext hb2);have R2 := hid row2;have Z2 := hid (show w.heap.size ≤ V.heap.size from S0.out.b.size);clear row2 hb2;have cB := S1.out.k.cell;have fB := S1.out.k.free;go_wp2_with fail;clear cB fB;obtain ⟨w3, hw3⟩ : ∃ u, u = w2.setCell ⟨w.heap.size, 1, none⟩ (.slice a2 H2.length c2) := ⟨_, rfl⟩
 have S3 := hid (show IP B w { d with fl := H2.map (·.1) } ⟨some ⟨gR, 0, none⟩, cR, a2, c2, aX, cX⟩ I0 H2 (bU q.1.1 (.slice q.2.1 q.1.2.length q.2.2)) X w3 by
  have hm := S1.out.t.NR (R2.out.low (Nat.le_trans HB.out Z2.out)) (fun q hq x hx => C0.out _ (by have h9 := (R2.out.lt x hx).1; have := Z2.out; omega) q hq) MEM.out WK2.out;rw [hw3];refine ⟨hm.top (cs' := bQ { d with fl := H2.map (·.1) } ⟨some ⟨gR, 0, none⟩, cR, a2, c2, aX, cX⟩) (fun b hb => heap_setCell_other _ _ _ _ hb) ?_ ((Below.refl _ _).setCell HB.out _) (fun u hu => ?_), S1.out.bm.setCell (by simp; omega) _, S1.out.b.setCell (Nat.le_refl _) _⟩
  ·have hl : (H2.map (·.1)).length = H2.length := List.length_map _;have := S1.out.k.set (o := 1) (.slice a2 H2.length c2);rw [← hl] at this ⊢;exact this
  rcases List.mem_cons.1 hu with rfl | hu
  ·simp
  have := XL.out u hu; omega)
 rw [← hw3];clear hw3 S1 S0 R2;have e5 : IntKind.i64.wrap (q.1.1.t - 1) = (i : Int) := by rw [HT.out, show (i : Int) + 1 - 1 = (i : Int) by omega]; have := IL.out; have := WKd.out.n5; go_arith
 have e6 : (0 : Int) ≤ (i : Int) := by omega
 have e7 : (i : Int) < (d.recs.length : Int) := by have := IL.out; omega
 have hK0 : Lp w.heap.size (w.heap.size + 1 + 1) gR (i * 18) (bQ { d with fl := H2.map (·.1) } ⟨some ⟨gR, 0, none⟩, cR, a2, c2, aX, cX⟩) (bU q.1.1 (.slice q.2.1 q.1.2.length q.2.2)) (au r qi.p) w3 := ⟨S3.out.k, S3.out.bm, S3.out.m.range rfl HR.out HQ.out⟩
 refine aI (S := Lp w.heap.size (w.heap.size + 1 + 1) gR (i * 18) (bQ { d with fl := H2.map (·.1) } ⟨some ⟨gR, 0, none⟩, cR, a2, c2, aX, cX⟩) (bU q.1.1 (.slice q.2.1 q.1.2.length q.2.2)) (au r qi.p)) 15 (by kernel_rfl) hK0.drew (fun q9 => ?_);simp only [qz, Nat.reduceAdd];obtain ⟨w4, hw4⟩ : ∃ u, u = w3.drew := ⟨_, rfl⟩
 have E4 := hid (show Below w3.heap.size w3 w4 by rw [hw4]; exact (Below.refl _ _).drew);have S4 := hid (S3.out.ext E4.out);rw [← hw4] at q9 ⊢;clear hw4 hK0;refine ak.go [0, 1, 2, 3, 4, 5, 6, 7, 8, 9, 10] ?_;iterate 11 (apply ak.take (ax rfl) (by kernel_rfl) (by rfl) (fun _ _ _ h => h) q9; (· intro w9 hSw; have hq := hSw.k.cell; have hq2 := hSw.b.cell; clear hSw; go_simp; try with_reducible rfl); try simp only [qq])
 refine ak.fin ?_;refine bT (i := 11) (v := .agg (au r qi.p)) (ax rfl) (by kernel_rfl) (by kernel_rfl) (by kernel_rfl) (by kernel_rfl) (fun _ _ _ h => h) (yieldsIf_load_mid (by rfl) 31 _ rfl gR (i * 18) rfl (au r qi.p).toList _ (fun w9 hS => hS.r) Try.underlying31 rfl (by kernel_rfl)) q9 ?_;try simp only [qq]
 refine bT (i := 12) (v := .agg (bU q.1.1 (.slice q.2.1 q.1.2.length q.2.2))) (ax rfl) (by kernel_rfl) (by kernel_rfl) (by kernel_rfl) (by kernel_rfl) (fun _ _ _ h => h) (yO (fun w9 hS => hS.b) rfl (by rfl) _ rfl rfl) q9 ?_;try simp only [qq]
 refine aT 13 fun K hK => ?_
 go_simp;refine (Aq B r qi.p qi.X qi.c q.1.1 q.2.1 q.1.2 q.2.2 w4 (lu VRr.out) (by have := MOK.out.l.n; omega) SLN.out SLP.out (by have := MOK.out.x; unfold maxLen; omega) (SLA.out.ext S4.out.b) (S4.out.m.rc i r qi HR.out HQ.out).1).mono ?_;rintro e w5 ⟨p5, X5, c5, rfl, has5, hb5⟩;have S5 := hid (S4.out.ext hb5);have G := hid (S4.out.t.put hb5 rfl HR.out has5 (fA.1 (Au (fA.2 VRr.out))) (Cm (fA.2 VRr.out) _ _));clear has5 hb5;go_wp2_with fail;refine hK.out _ _ ⟨S5.out.k, S5.out.bm, S5.out.m.range rfl HR.out HQ.out⟩ ?_;clear hK K q9;intro q9;try simp only [qq]
 refine ak.go [14] ?_;iterate 1 (apply ak.take (ax rfl) (by kernel_rfl) (by rfl) (fun _ _ _ h => h) q9; (· intro w9 hSw; have hq := hSw.k.cell; have hq2 := hSw.b.cell; clear hSw; go_simp; try with_reducible rfl); try simp only [qq])
 refine ak.fin ?_;refine aJ fun K hK => ?_
 refine wp_store_mid 31 _ _ rfl gR (i * 18) (au (iq r q.1.1 q.1.2) p5) rfl rfl (S5.out.m.there rfl IL.out) (by kernel_rfl) (pI _ _) ?_;refine hK.out _ _ ?_;clear hK K q9;obtain ⟨w6, hw6⟩ : ∃ u, u = w5.setCells gR (i * 18) (au (iq r q.1.1 q.1.2) p5).toList := ⟨_, rfl⟩
 rw [← hw6] at G ⊢;rw [← rf { d with fl := H2.map (·.1) } i (iq r q.1.1 q.1.2)] at G;obtain ⟨J, hJ⟩ : ∃ L, L = I0.set i ⟨p5, X5, under w4.heap.size c5⟩ := ⟨_, rfl⟩
 rw [← hJ] at G;obtain ⟨d3, hd3⟩ : ∃ L, L = gK { d with fl := H2.map (·.1) } i (iq r q.1.1 q.1.2) := ⟨_, rfl⟩
 have L3 := hid (show d3.recs.length = d.recs.length by rw [hd3]; simp [gK]);rw [← hd3] at G;clear hJ hd3 S4 S5 S3 hw6;have kW := (G.out.x _ (.head _)).1;go_wp2_with ((with_reducible refine aP w.heap.size (bQ d3 ⟨some ⟨gR, 0, none⟩, cR, a2, c2, aX, cX⟩) rfl ?_ ?_ ?_); rfl; exact kW);clear kW;refine (CZ B d3 ⟨some ⟨gR, 0, none⟩, cR, a2, c2, aX, cX⟩ J H2 w6 G.out.low G.out.m).mono ?_;rintro e w7 ⟨fx, aX7, cX7, rfl, m7, hb7⟩;have G7 := hid (G.out.fix m7 hb7);have kz := (G7.out.x _ (.tail _ (.head _))).1;clear m7 hb7;go_wp2_with ((with_reducible refine aQ (w.heap.size + 1) zW (bQ { d3 with fx := fx } ⟨some ⟨gR, 0, none⟩, cR, a2, c2, aX7, cX7⟩) rfl rfl ?_ ?_ ?_ ?_ ?_); rfl; rfl; exact kz; simp [Value.oneCell']);have hz := setRow_heap _ (w.heap.size + 1) _ (bQ { d3 with fx := fx } ⟨some ⟨gR, 0, none⟩, cR, a2, c2, aX7, cX7⟩) _ _ kz;refine az (ty := 116) Try.results94 (w.heap.size + 1) (bQ { d3 with fx := fx } ⟨some ⟨gR, 0, none⟩, cR, a2, c2, aX7, cX7⟩) _ ?_ ?_ hz Try.underlying116 rfl (by kernel_rfl) ?_
 ·rfl
 ·rfl
 exact ⟨_, _, _, rfl, G7.out.ends (.tail _ (.head _)) (fun u hu => ⟨.tail _ (.tail _ hu), by have := XL.out u hu; omega⟩), L3.out⟩
end Go.Proofs.Ytjdceoimignnpaa
