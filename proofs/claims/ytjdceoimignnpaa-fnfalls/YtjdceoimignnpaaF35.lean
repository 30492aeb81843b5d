import Derived.Test.YtjdceoimignnpaaF34
import Derived.Deep.Cut
import Derived.Deep.CutRange
import Derived.Deep.CutBlock
namespace Go.Proofs.Ytjdceoimignnpaa
open Go.ChangeShapes Go.WideShapes Go.ChangeAt Go.RowKit next
set_option linter.unusedVariables false
set_option linter.unusedSimpArgs false
set_option maxHeartbeats 32000000
set_option maxRecDepth 20000
variable {H : List Mp} {I : List jF} {fx l : List Sl} {B cX g : Nat} {aX : Option Addr} {d : Wd} {p : kV} {w w0 wr : World}
abbrev zW : Array Value := #[.slice none 0 0, .slice none 0 0, .slice none 0 0]
theorem aP {ops : Array Oper} {rest : List Oper} {dst : Option Tmp} {x : Operand} {τ : TypeId} {pos : String} {after : Array Edge} {a : Act} {w : World} {Q : Exit → Act → World → Prop}
  (g : Nat) (cs : Array Value) (hs : cs.size = 3) (hx : a.eval x = .pointer (some ⟨g, 0, none⟩)) (hg : aC w g cs 116)
  (h : wpList Try.prog ops Q rest (a.put dst (.agg cs)) w) :
  wpList Try.prog ops Q ({ dst := dst, op := .load 116 x, type := τ, pos := pos, after := after, guard := none } :: rest) a w :=
 gQ g cs _ hx hg Try.underlying116 rfl (by rw [hs]; kernel_rfl) h
theorem aQ {ops : Array Oper} {rest : List Oper} {dst : Option Tmp} {x y : Operand} {τ : TypeId} {pos : String} {after : Array Edge} {a : Act} {w : World} {Q : Exit → Act → World → Prop}
  (g : Nat) (old cells : Array Value) (hs : cells.size = 3) (ho : old.size = 3) (hx : a.eval x = .pointer (some ⟨g, 0, none⟩)) (hy : a.eval y = .agg cells) (hg : aC w g old 116) (h1 : cells.all (·.oneCell') = true)
  (h : wpList Try.prog ops Q rest (a.put dst undef) (w.setRow g cells)) :
  wpList Try.prog ops Q ({ dst := dst, op := .store 116 x y, type := τ, pos := pos, after := after, guard := none } :: rest) a w :=
 wpList_store_row (o := { dst := dst, op := .store 116 x y, type := τ, pos := pos, after := after, guard := none }) rfl 116 x y rfl g cells hx hy 116 old hg (by rw [hs]; kernel_rfl) (by rw [ho, hs]) h1 h
structure BU (B : Nat) (w0 : World) (d : Wd) (p : kV) (I : List jF) (H : List Mp) (fx : List Sl) (aX : Option Addr) (cX : Nat) (wr : World) : Prop where
 k : aC wr w0.heap.size (bQ { d with fx := fx } { p with aX := aX, cX := cX }) 116
 z : aC wr (w0.heap.size + 1) zW 116
 m : WM B wr { d with fx := fx } { p with aX := aX, cX := cX } I H
 b : Below w0.heap.size w0 wr
 c : ∀ q ∈ I, 8 < q.c w0.heap.size ∧ 8 < q.c (w0.heap.size + 1)
theorem BU.ext {w2 : World} (h : BU B w0 d p I H fx aX cX wr) (hb : Below wr.heap.size wr w2) : BU B w0 d p I H fx aX cX w2 :=
 ⟨h.k.ext hb, h.z.ext hb, h.m.ext hb, aj h.b hb, h.c⟩
def Oc (B : Nat) (w0 : World) (d : Wd) (p : kV) (I : List jF) (H : List Mp) (fx : List Sl) (aX : Option Addr) (cX : Nat) (s5 s6 : Value) (wr : World) : Prop := ∃ (t : ByteArray) (b : Bool), s5 = .string t ∧ s6 = .bool b ∧ t.size ≤ 100 ∧ BU B w0 d p I H fx aX cX wr
def Nz (B : Nat) (w : World) (d : Wd) (p : kV) (I : List jF) (H : List Mp) (e : Ending) (w' : World) : Prop :=
 ∃ fx aX cX, e = .returned (.agg (bQ { d with fx := fx } { p with aX := aX, cX := cX })) ∧ WM B w' { d with fx := fx } { p with aX := aX, cX := cX } (I.map (gJ w.heap.size)) H ∧ Below w.heap.size w w'
structure JY (g : Nat) (cs : Array Value) (w : World) : Prop where
 bw : aC w g cs 116
theorem JY.drew {cs : Array Value} (h : JY g cs w) : JY g cs w.drew := ⟨aC.drew h.bw⟩
theorem LJ {a : Option Addr} {c k : Nat} (h : aO B w (fun _ => 0) 0 137 2 a l.length c (flat l)) (hk : k ≤ l.length) : aN w a k c 2 (flat (l.take k)) := by
 refine ⟨by rw [qm, List.length_take]; omega, fun e => ?_, fun x hx => ⟨(h.read.cells x hx).1, fun j u hu => (h.read.cells x hx).2 j u ?_⟩⟩
 ·have := h.read.nil e;omega
 rw [yg, List.getElem?_take] at hu;split at hu
 ·exact hu
 simp at hu
theorem NJ {c k : Nat} (h : aO B w (fun _ => 0) 0 137 2 (some ⟨g, 0, none⟩) l.length c (flat l)) (hk : k ≤ l.length) : aN w (if c = k then some ⟨g, 0, none⟩ else some ⟨g, k * 2, none⟩) (l.length - k) (c - k) 2 (flat (l.drop k)) := by
 have hc := h.len.2;refine ⟨by rw [qm, List.length_drop], fun e => by split at e <;> simp at e, fun x hx => ?_⟩;split at hx
 ·simp only [Option.some.injEq] at hx;subst hx;refine ⟨rfl, fun j u hu => ?_⟩;rw [List.drop_eq_nil_of_le (by omega)] at hu;simp [flat] at hu
 simp only [Option.some.injEq] at hx;subst hx;refine ⟨rfl, fun j u hu => ?_⟩;rw [yE, List.getElem?_drop] at hu;have := (h.read.cells _ rfl).2 _ u hu;have e : (⟨g, 0, none⟩ : Addr).add (k * 2 + j) = (⟨g, k * 2, none⟩ : Addr).add j := by
  unfold Addr.add;split <;> split <;> simp <;> omega
 rw [← e];exact this
theorem Ns : aN w none (([] : List Sl).length - 0) (0 - 0) 2 (flat (([] : List Sl).drop 0)) := ⟨rfl, fun _ => ⟨rfl, rfl⟩, fun x hx => by simp at hx⟩
theorem aN.grown {w' : World} {x : Addr} {n c k : Nat} {xs : List Value} {row : Option Nat} (h : aN w (some x) n c k xs) (hg : w.grownBy w' row) (hne : row ≠ some x.block) : aN w' (some x) n c k xs :=
 ⟨h.len, h.nil, fun y hy => ⟨(h.cells y hy).1, fun j u hu => by
  have hc := (h.cells y hy).2 j u hu;simp only [Option.some.injEq] at hy;subst hy;have hlt : (x.add j).block < w.heap.size := by
   cases hx : w.heap[(x.add j).block]? with
   | none => simp [World.cell?, hx] at hc
   | some o => exact (Array.getElem?_eq_some_iff.1 hx).1
  rw [World.cell?_of_block (hg.block _ hlt (fun e => hne (by rw [← e]; unfold Addr.add; split <;> rfl)))]
  exact hc⟩⟩
theorem Ip (l : List Sl) (k : Nat) (i : Int) (t : ByteArray) : flat (lQ l k (i, t)) = flat (l.take k) ++ [.int .i64 i, .string t] ++ flat (l.drop k) := by
 unfold lQ;rw [lm, lm];rfl
theorem BU.put {a3 : Option Addr} {c3 k j : Nat} {t : ByteArray} {w8 : World} (h : BU B w0 d p I H fx aX cX wr) (hb : Below wr.heap.size wr w8) (hB : B ≤ w0.heap.size)
  (ho : w8.ownsRow wr.heap.size 137 2 (.slice a3 (k + 1 + (fx.length - k)) c3) (k + 1 + (fx.length - k)) (flat (fx.take k) ++ [.int .i64 ((j : Int) + 1), .string t] ++ flat (fx.drop k))) (hk : k ≤ fx.length) (wk : WK { d with fx := fx }) (j2 : (j : Int) + 1 ≤ 60) (ht : t.size ≤ 100)
  (lo : ∀ (i : Nat) x, i < k → fx[i]? = some x → x.1 < (j : Int) + 1) (hi : ∀ x, fx[k]? = some x → (j : Int) + 1 < x.1) :
  BU B w0 d p I H (lQ fx k ((j : Int) + 1, t)) a3 c3 (w8.setCell ⟨w0.heap.size, 2, none⟩ (.slice a3 (k + 1 + (fx.length - k)) c3)) := by
 have hl : (lQ fx k ((j : Int) + 1, t)).length = k + 1 + (fx.length - k) := by
  unfold lQ;simp only [List.length_append, List.length_take, List.length_drop, List.length_cons, List.length_nil];omega
 have h1 := h.k.ext hb;have hr : aO B w8 (fun _ => 0) 0 137 2 a3 (lQ fx k ((j : Int) + 1, t)).length c3 (flat (lQ fx k ((j : Int) + 1, t))) := by
  rw [hl, Ip];exact ⟨fE ho (Nat.le_trans hB h.b.size), fun _ _ => rfl⟩
 have hm := (h.m.ext hb).MC hr (fZ.2 (JW wk (q := k) (s := ((j : Int) + 1, t)) (by show (1 : Int) ≤ (j : Int) + 1; omega) j2 ht lo hi));refine ⟨?_, (h.z.ext hb).setCell (by simp) _, hm.box h1 (by decide) (by decide) (by decide) (by decide) (fun q hq => (h.c q hq).1) (fun b hb => heap_setCell_other _ _ _ _ hb), (aj h.b hb).setCell (Nat.le_refl _) _, h.c⟩;have := h1.set (o := 2) (.slice a3 (k + 1 + (fx.length - k)) c3);rw [← hl] at this ⊢;exact this
theorem CZ (B : Nat) (d : Wd) (p : kV) (I : List jF) (H : List Mp) (w : World) (hB : B ≤ w.heap.size) (h : WM B w d p I H) :
  Calls Try.prog 99 #[.agg (bQ d p)] w (Nz B w d p I H) := by
 obtain ⟨I0, hI0⟩ : ∃ J, J = I.map (gJ w.heap.size) := ⟨_, rfl⟩
 obtain ⟨aR, cR, aF, cF, aX0, cX0⟩ := p;obtain ⟨V, hV⟩ : ∃ V, V = (w.alloc (.cells (bQ d ⟨aR, cR, aF, cF, aX0, cX0⟩) 116)).alloc (.cells zW 116) := ⟨_, rfl⟩
 have S0 := hid (show BU B w d ⟨aR, cR, aF, cF, aX0, cX0⟩ I0 H d.fx aX0 cX0 V by
  have hb : Below w.heap.size w V := by rw [hV]; exact ae (ae (Below.refl _ _) _) _
  exact ⟨by rw [hV]; exact (aC.new _ _ _).alloc _, by rw [hV]; exact aC.new' _ _ (by simp), by rw [hI0]; exact h.fresh.ext hb, hb, fun q hq => by rw [hI0] at hq; exact ⟨mF (Nat.le_refl _) q hq, mF (by omega) q hq⟩⟩)
 have HB := hid hB;have HI := hid hI0;clear h hB hI0;go_enter Try.func99, Try.ntmps99;go_wp2_with fail;rw [← hV];clear hV;go_loopw [3, 4, 5, 6] (fun s3 _ _ _ wr => ∃ (j : Nat) (fx : List Sl) (aX : Option Addr) (cX : Nat), j ≤ 60 ∧ s3 = .int .i64 ((j : Int) + 1) ∧ BU B w d ⟨aR, cR, aF, cF, aX0, cX0⟩ I0 H fx aX cX wr) (fun s3 _ _ _ _ => 61 - (intOf s3).toNat);case atStart => exact ⟨0, d.fx, aX0, cX0, Nat.zero_le _, rfl, S0.out⟩
 obtain ⟨j, fx, aX, cX, hj, rfl, hss⟩ := hrel
 rename World => wo
 have S1 := hid hss;have WKd := hid (fZ.1 hss.m.ok);have FL := hid (show fx.length ≤ 60 by have h1 := lq (uD.2 WKd.out.fk) (by omega); rw [qX] at h1; have : (fx.length : Int) ≤ 60 := h1; omega);clear hss S0;have kW := S1.out.k;have cW := S1.out.k.cell;have fl := FL.out;by_cases hj6 : j < 60
 ·have u0 : decide ((j : Int) + 1 ≤ 60) = true := decide_eq_true (by omega);have e9 : IntKind.i64.wrap ((j : Int) + 1 + 1) = (j : Int) + 1 + 1 := by go_arith
  go_upto_block 2 with fail
  go_cut [4] from 7 to 74 (fun s4 wx => ∃ (k : Nat), k ≤ fx.length ∧ s4 = .int .i64 k ∧ (∀ (i : Nat) x, i < k → fx[i]? = some x → x.1 < (j : Int) + 1) ∧ (∀ x, fx[k]? = some x → ¬ x.1 < (j : Int) + 1) ∧ wx = wo)
  case first =>
   go_wp2_with fail;go_loopw [4] (fun s4 wr => ∃ (k : Nat), k ≤ fx.length ∧ s4 = .int .i64 k ∧ (∀ (i : Nat) x, i < k → fx[i]? = some x → x.1 < (j : Int) + 1) ∧ wr = wo) (fun s4 _ => fx.length - (intOf s4).toNat);case atStart => exact ⟨0, Nat.zero_le _, rfl, fun i x hi => absurd hi (by omega), rfl⟩
   obtain ⟨k, hk, rfl, hlo, hwr⟩ := hrel;have HLO := hid hlo;subst wr;clear hlo;by_cases hkl : k < fx.length
   ·obtain ⟨x, hx⟩ : ∃ x, fx[k]? = some x := ⟨_, List.getElem?_eq_getElem hkl⟩
    have HX := hid hx;obtain ⟨gX, eX, _, cx, _⟩ := S1.out.m.fx.cell (iY fx k x hx).1;dsimp only at eX;subst eX;clear hx;have e1 : (0 : Int) ≤ (k : Int) := by omega
    have e2 : (k : Int) < (fx.length : Int) := by omega
    have e3 : IntKind.i64.wrap ((k : Int) + 1) = (k : Int) + 1 := by go_arith
    by_cases h1 : x.1 < (j : Int) + 1
    ·have u1 : decide (x.1 < (j : Int) + 1) = true := decide_eq_true h1;have H1 := hid h1;clear h1;go_wp2_with fail;go_roundw
     case rel => exact ⟨k + 1, by omega, by go_num, fun i y hi hy => by
      by_cases e : i = k
      ·subst e; rw [HX.out] at hy; simp only [Option.some.injEq] at hy; rw [← hy]; exact H1.out
      exact HLO.out i y (by omega) hy, trivial⟩
     case measure => simp [intOf]; omega
    have u1 : decide (x.1 < (j : Int) + 1) = false := decide_eq_false h1;have H1 := hid h1;clear h1;go_wp2_with fail
    go_meet
    case rel => exact ⟨k, hk, rfl, HLO.out, fun y hy => by rw [HX.out] at hy; simp only [Option.some.injEq] at hy; rw [← hy]; exact H1.out, rfl⟩
   have hkk : k = fx.length := by omega
   subst hkk;go_wp2_with fail
   go_meet
   case rel => exact ⟨fx.length, Nat.le_refl _, rfl, HLO.out, fun y hy => by rw [List.getElem?_eq_none (Nat.le_refl _)] at hy; simp at hy, rfl⟩
  case rest =>
   obtain ⟨k, hk, rfl, hlo, hnl, hwc⟩ := hcut;have HLO := hid hlo;have HNL := hid hnl;obtain ⟨w7, hw7⟩ : ∃ v : World, v = wc := ⟨_, rfl⟩
   subst hw7;subst hwc;clear hlo hnl;obtain ⟨FB, hFB⟩ : ∃ b : Bool, b = (match fx[k]? with | some x => decide (x.1 = (j : Int) + 1) | none => false) := ⟨_, rfl⟩
   have EFB := hid hFB;clear hFB
   go_upto_region 7 with fail
   go_cut [42] from 7 to 74 (fun s wx => s = .bool FB ∧ wx = w7)
   case first =>
    by_cases hkl : k < fx.length
    ·obtain ⟨x, hx⟩ : ∃ x, fx[k]? = some x := ⟨_, List.getElem?_eq_getElem hkl⟩
     rw [hx] at EFB;have EF2 := hid (show FB = decide (x.1 = (j : Int) + 1) from EFB.out);obtain ⟨gX, eX, _, cx, _⟩ := S1.out.m.fx.cell (iY fx k x hx).1;dsimp only at eX;subst eX;clear hx;have e1 : (0 : Int) ≤ (k : Int) := by omega
     have e2 : (k : Int) < (fx.length : Int) := by omega
     by_cases h2 : x.1 = (j : Int) + 1
     ·have u2 : (x.1 == (j : Int) + 1) = true := by rw [h2]; exact beq_self_eq_true _
      have F3 := hid (show FB = true by rw [EF2.out]; exact decide_eq_true h2);clear h2;go_wp2_with fail
      go_meet
      case rel => exact ⟨by rw [F3.out], rfl⟩
     have u2 : (x.1 == (j : Int) + 1) = false := beq_false_of_ne h2;have F3 := hid (show FB = false by rw [EF2.out]; exact decide_eq_false h2);clear h2;go_wp2_with fail
     go_meet
     case rel => exact ⟨by rw [F3.out], rfl⟩
    have F3 := hid (show FB = false by rw [EFB.out, List.getElem?_eq_none (by omega)]);have e2 : ¬ (k : Int) < (fx.length : Int) := by omega
    have e2b : decide ((k : Int) < (fx.length : Int)) = false := decide_eq_false e2;go_wp2_with fail
    go_meet
    case rel => exact ⟨by rw [F3.out], rfl⟩
   case rest =>
    obtain ⟨rfl, hwd⟩ := hcut;obtain ⟨w8, hw8⟩ : ∃ v : World, v = wc := ⟨_, rfl⟩
    subst hw8;subst hwd;clear cW kW;cases hfb : FB
    ·have HHI := hid (show ∀ x, fx[k]? = some x → (j : Int) + 1 < x.1 from fun x hx => by
      have h1 := HNL.out x hx;have h2 := EFB.out;rw [hx, hfb] at h2;have h3 := decide_eq_false_iff_not.1 h2.symm
      omega)
     clear hfb;have kW := S1.out.k;go_wp2_with ((with_reducible refine aP w.heap.size (bQ { d with fx := fx } ⟨aR, cR, aF, cF, aX, cX⟩) rfl ?_ ?_ ?_); rfl; exact kW);clear kW;refine (Ee { d with fx := fx } ⟨aR, cR, aF, cF, aX, cX⟩ ((j : Int) + 1) _ (tu WKd.out) (Kt WKd.out) S1.out.m.at).mono ?_;have TM := hid (Gw WKd.out ((j : Int) + 1));obtain ⟨tm, htm⟩ : ∃ t, t = (xW { d with fx := fx }.recs ((j : Int) + 1)).1 := ⟨_, rfl⟩
     obtain ⟨bm, hbm⟩ : ∃ t, t = (xW { d with fx := fx }.recs ((j : Int) + 1)).2 := ⟨_, rfl⟩
     rw [← htm, ← hbm];rw [← htm] at TM;clear htm hbm;rintro e w2 ⟨rfl, hb2⟩;have S2 := hid (S1.out.ext hb2);clear hb2
     go_upto_if 50 with fail
     go_cut [5, 6] from 7 to 74 (fun s5 s6 wx => Oc B w d ⟨aR, cR, aF, cF, aX0, cX0⟩ I0 H fx aX cX s5 s6 wx)
     case first =>
      cases bm
      ·have kW := S2.out.k;go_wp2_with ((with_reducible refine aP w.heap.size (bQ { d with fx := fx } ⟨aR, cR, aF, cF, aX, cX⟩) rfl ?_ ?_ ?_); rfl; exact kW);refine (Ez B { d with fx := fx } ⟨aR, cR, aF, cF, aX, cX⟩ I0 H j w2 S2.out.m hj6).mono ?_;rintro e w3 ⟨t3, b3, rfl, ht3, hb3⟩;have S3 := hid (S2.out.ext hb3);have T3 := hid ht3;clear hb3 ht3 kW;go_wp2_with fail
       go_meet
       case rel => exact ⟨t3, b3, rfl, rfl, T3.out, S3.out⟩
      go_wp2_with fail
      go_meet
      case rel => exact ⟨tm, true, rfl, rfl, TM.out, S2.out⟩
     case rest =>
      obtain ⟨t4, b4, rfl, rfl, ht4, hs4⟩ := hcut;have S4 := hid hs4;have T4 := hid ht4;clear hs4 ht4 S1 S2;cases b4
      ·go_wp2_with fail;go_roundw;case rel => exact ⟨j + 1, fx, aX, cX, by omega, by go_num, S4.out⟩
       case measure => simp [intOf]; omega
      go_wp2_with fail;obtain ⟨w4, hw4⟩ : ∃ v : World, v = wc := ⟨_, rfl⟩
      subst hw4;rcases S4.out.m.fx.form with ⟨ea, el, ec, _⟩ | ⟨gX, cur, ea, _⟩
      ·dsimp only at ea el ec;obtain rfl : fx = [] := List.length_eq_zero_iff.1 el;subst ea;subst ec;obtain rfl : k = 0 := by simpa using hk
       have hK0 : JY w.heap.size (bQ { d with fx := ([] : List Sl) } ⟨aR, cR, aF, cF, none, 0⟩) w4 := ⟨S4.out.k⟩
       refine aI (S := JY w.heap.size (bQ { d with fx := ([] : List Sl) } ⟨aR, cR, aF, cF, none, 0⟩)) 17 (by kernel_rfl) hK0.drew (fun q9 => ?_);simp only [qz, Nat.reduceAdd];obtain ⟨w5, hw5⟩ : ∃ u, u = w4.drew := ⟨_, rfl⟩
       have S5 := hid (S4.out.ext (show Below w4.heap.size w4 w5 by rw [hw5]; exact (Below.refl _ _).drew));have SRC1 := hid (show aN w5 none 0 0 2 (flat (([] : List Sl).take 0)) from LJ S5.out.m.fx (Nat.le_refl _));have SRC2 := hid (show aN w5 none (([] : List Sl).length - 0) (0 - 0) 2 (flat (([] : List Sl).drop 0)) from Ns);have E5 := hid (Below.refl w5.heap.size w5);rw [← hw5] at q9 ⊢;clear hw5 hK0;refine bg.go [1, 2, 3, 4, 6, 7, 8, 11, 12, 13, 14] ?_;iterate 11 (apply bg.take (ax rfl) (by kernel_rfl) (by rfl) (fun _ _ _ h => h) q9; (· intro w9 hSw; have hq := hSw.bw.cell; clear hSw; go_simp; try with_reducible rfl); try simp only [qq])
       refine bg.fin ?_;refine bu (rs := [0, 9]) (by kernel_rfl) (by simp) ?_;refine aK.cons (ax rfl) (fun K hK => ?_) (aK.cons (ax rfl) (fun K hK => ?_) aK.nil)
       ·go_simp;obtain ⟨wE, hwE⟩ : ∃ u, u = w5.alloc (.cells #[] 137) := ⟨_, rfl⟩
        have EwE := hid (show Below w5.heap.size w5 wE by rw [hwE]; exact ae E5.out _);have XwE := hid (show Below w5.heap.size w5 wE by rw [hwE]; exact ae (Below.refl _ _) _);have LwE := hid (show w5.heap.size < wE.heap.size by rw [hwE]; simp);have RwE := hid (show aO w5.heap.size wE (fun _ => 0) 0 137 2 (some ⟨w5.heap.size, 0, none⟩) 0 0 (flat []) by rw [hwE]; exact gI (k := 2) (aC.new _ _ _) E5.out.size rfl);rw [← hwE];clear hwE;refine hK.out _ _ ⟨S5.out.k.ext EwE.out⟩ ?_;clear hK K q9;intro q9;try simp only [qq]
        refine bu (rs := [5, 9]) (by kernel_rfl) (by simp) ?_;refine aK.cons (ax rfl) (fun K hK => ?_) (aK.cons (ax rfl) (fun K hK => ?_) aK.nil)
        ·rw [if_pos (by rfl)];refine eH w5.heap.size (some ⟨w5.heap.size, 0, none⟩) 0 0 (flat []) none 0 0 (flat (([] : List Sl).take 0)) rfl rfl RwE.out.own (SRC1.out.ext EwE.out) (fM _) (by omega) EwE.out.size ?_;intro a1 c1 w6 q1 q2 q3;simp only [Nat.zero_add];have RA := hid (show w6.ownsRow w5.heap.size 137 2 (.slice a1 0 c1) 0 (flat (([] : List Sl).take 0)) by simpa [flat] using q1);have E6 := hid (show Below w5.heap.size w5 w6 from below_grow EwE.out q2 (fun jj hjj => (RwE.out.own.lt jj hjj).1) EwE.out.size);clear q1 q2 q3;refine hK.out _ _ ⟨S5.out.k.ext E6.out⟩ ?_;clear hK K q9;intro q9;try simp only [qq]
         refine aT 9 fun K hK => ?_
         go_simp;obtain ⟨wS, hwS⟩ : ∃ u, u = w6.alloc (.cells #[.int .i64 ((j : Int) + 1), .string t4] 137) := ⟨_, rfl⟩
         have EwS := hid (show Below w5.heap.size w5 wS by rw [hwS]; exact ae E6.out _);have XwS := hid (show Below w6.heap.size w6 wS by rw [hwS]; exact ae (Below.refl _ _) _);have LwS := hid (show w6.heap.size < wS.heap.size by rw [hwS]; simp)
         have NwS := hid (show aN wS (some ⟨w6.heap.size, 0, none⟩) 1 1 2 [.int .i64 ((j : Int) + 1), .string t4] by
          rw [hwS]
          exact ⟨rfl, fun e => by simp at e, fun y hy => by
           simp only [Option.some.injEq] at hy;subst hy
           exact ⟨rfl, dG (cs := [.int .i64 ((j : Int) + 1), .string t4]) (aC.new _ _ _)⟩⟩)
         rw [← hwS];clear hwS;refine hK.out _ _ ⟨S5.out.k.ext EwS.out⟩ ?_;clear hK K q9;intro q9;try simp only [qq]
         have RA_ := hid (zM RA.out XwS.out);refine aT 10 fun K hK => ?_
         rw [if_pos (by rfl)];refine eH w5.heap.size a1 0 c1 (flat (([] : List Sl).take 0)) (some ⟨w6.heap.size, 0, none⟩) 1 1 [.int .i64 ((j : Int) + 1), .string t4] rfl rfl RA_.out NwS.out (fun u hu => by simp at hu; rcases hu with rfl | rfl <;> rfl) (by omega) EwS.out.size ?_;intro a2 c2 w7 q1 q2 q3;have RA2 := hid q1;have E7 := hid (show Below w5.heap.size w5 w7 from below_grow EwS.out q2 (fun jj hjj => (RA_.out.lt jj hjj).1) EwS.out.size);clear q1 q2 q3;refine hK.out _ _ ⟨S5.out.k.ext E7.out⟩ ?_;clear hK K q9;intro q9;try simp only [qq]
         refine aT 15 fun K hK => ?_
         rw [if_pos (by rfl)];refine eH w5.heap.size a2 (0 + 1) c2 (flat (([] : List Sl).take 0) ++ [.int .i64 ((j : Int) + 1), .string t4]) none (([] : List Sl).length - 0) (0 - 0) (flat (([] : List Sl).drop 0)) rfl rfl RA2.out (SRC2.out.ext E7.out) (fM _) (by omega) E7.out.size ?_;intro a3 c3 w8 q1 q2 q3;have RA3 := hid q1;have E8 := hid (show Below w5.heap.size w5 w8 from below_grow E7.out q2 (fun jj hjj => (RA2.out.lt jj hjj).1) E7.out.size);clear q1 q2 q3;refine hK.out _ _ ⟨S5.out.k.ext E8.out⟩ ?_;clear hK K q9;intro q9;try simp only [qq]
         refine bg.go [16] ?_;iterate 1 (apply bg.take (ax rfl) (by kernel_rfl) (by rfl) (fun _ _ _ h => h) q9; (· intro w9 hSw; have hq := hSw.bw.cell; clear hSw; go_simp; try with_reducible rfl); try simp only [qq])
         refine bg.fin ?_;refine aJ fun K hK => ?_
         have cB := q9.bw.cell;have fB := q9.bw.free;go_simp;refine hK.out _ _ ?_;clear hK K q9 cB fB;have S8 := hid (show BU B w d ⟨aR, cR, aF, cF, aX0, cX0⟩ I0 H (lQ ([] : List Sl) 0 ((j : Int) + 1, t4)) a3 c3 (w8.setCell ⟨w.heap.size, 2, none⟩ (.slice a3 1 c3)) from S5.out.put E8.out HB.out RA3.out (by first | omega | simp) WKd.out (by omega) T4.out HLO.out HHI.out);obtain ⟨Y, hY⟩ : ∃ u, u = w8.setCell ⟨w.heap.size, 2, none⟩ (.slice a3 1 c3) := ⟨_, rfl⟩
         rw [← hY] at S8 ⊢;clear hY;go_wp2_with fail;go_roundw;case rel => exact ⟨j + 1, lQ ([] : List Sl) 0 ((j : Int) + 1, t4), a3, c3, by omega, by go_num, S8.out⟩
         case measure => simp [intOf]; omega
        go_simp;obtain ⟨wS, hwS⟩ : ∃ u, u = wE.alloc (.cells #[.int .i64 ((j : Int) + 1), .string t4] 137) := ⟨_, rfl⟩
        have EwS := hid (show Below w5.heap.size w5 wS by rw [hwS]; exact ae EwE.out _);have XwS := hid (show Below wE.heap.size wE wS by rw [hwS]; exact ae (Below.refl _ _) _);have LwS := hid (show wE.heap.size < wS.heap.size by rw [hwS]; simp)
        have NwS := hid (show aN wS (some ⟨wE.heap.size, 0, none⟩) 1 1 2 [.int .i64 ((j : Int) + 1), .string t4] by
         rw [hwS]
         exact ⟨rfl, fun e => by simp at e, fun y hy => by
          simp only [Option.some.injEq] at hy;subst hy
          exact ⟨rfl, dG (cs := [.int .i64 ((j : Int) + 1), .string t4]) (aC.new _ _ _)⟩⟩)
        rw [← hwS];clear hwS;refine hK.out _ _ ⟨S5.out.k.ext EwS.out⟩ ?_;clear hK K q9;intro q9;try simp only [qq]
        refine aT 5 fun K hK => ?_
        rw [if_pos (by rfl)];refine eH w5.heap.size (some ⟨w5.heap.size, 0, none⟩) 0 0 (flat []) none 0 0 (flat (([] : List Sl).take 0)) rfl rfl (hid (RwE.out.ext XwS.out)).out.own (SRC1.out.ext EwS.out) (fM _) (by omega) EwS.out.size ?_;intro a1 c1 w6 q1 q2 q3;simp only [Nat.zero_add];have RA := hid (show w6.ownsRow w5.heap.size 137 2 (.slice a1 0 c1) 0 (flat (([] : List Sl).take 0)) by simpa [flat] using q1);have E6 := hid (show Below w5.heap.size w5 w6 from below_grow EwS.out q2 (fun jj hjj => ((hid (RwE.out.ext XwS.out)).out.own.lt jj hjj).1) EwS.out.size);have NS_ := hid (show aN w6 (some ⟨wE.heap.size, 0, none⟩) 1 1 2 [.int .i64 ((j : Int) + 1), .string t4] from NwS.out.grown q2 (fun e => by simp [Value.ownBlock] at e; have := LwE.out; omega));clear q1 q2 q3;refine hK.out _ _ ⟨S5.out.k.ext E6.out⟩ ?_;clear hK K q9;intro q9;try simp only [qq]
        refine aT 10 fun K hK => ?_
        rw [if_pos (by rfl)];refine eH w5.heap.size a1 0 c1 (flat (([] : List Sl).take 0)) (some ⟨wE.heap.size, 0, none⟩) 1 1 [.int .i64 ((j : Int) + 1), .string t4] rfl rfl RA.out NS_.out (fun u hu => by simp at hu; rcases hu with rfl | rfl <;> rfl) (by omega) E6.out.size ?_;intro a2 c2 w7 q1 q2 q3;have RA2 := hid q1;have E7 := hid (show Below w5.heap.size w5 w7 from below_grow E6.out q2 (fun jj hjj => (RA.out.lt jj hjj).1) E6.out.size);clear q1 q2 q3;refine hK.out _ _ ⟨S5.out.k.ext E7.out⟩ ?_;clear hK K q9;intro q9;try simp only [qq]
        refine aT 15 fun K hK => ?_
        rw [if_pos (by rfl)];refine eH w5.heap.size a2 (0 + 1) c2 (flat (([] : List Sl).take 0) ++ [.int .i64 ((j : Int) + 1), .string t4]) none (([] : List Sl).length - 0) (0 - 0) (flat (([] : List Sl).drop 0)) rfl rfl RA2.out (SRC2.out.ext E7.out) (fM _) (by omega) E7.out.size ?_;intro a3 c3 w8 q1 q2 q3;have RA3 := hid q1;have E8 := hid (show Below w5.heap.size w5 w8 from below_grow E7.out q2 (fun jj hjj => (RA2.out.lt jj hjj).1) E7.out.size);clear q1 q2 q3;refine hK.out _ _ ⟨S5.out.k.ext E8.out⟩ ?_;clear hK K q9;intro q9;try simp only [qq]
        refine bg.go [16] ?_;iterate 1 (apply bg.take (ax rfl) (by kernel_rfl) (by rfl) (fun _ _ _ h => h) q9; (· intro w9 hSw; have hq := hSw.bw.cell; clear hSw; go_simp; try with_reducible rfl); try simp only [qq])
        refine bg.fin ?_;refine aJ fun K hK => ?_
        have cB := q9.bw.cell;have fB := q9.bw.free;go_simp;refine hK.out _ _ ?_;clear hK K q9 cB fB;have S8 := hid (show BU B w d ⟨aR, cR, aF, cF, aX0, cX0⟩ I0 H (lQ ([] : List Sl) 0 ((j : Int) + 1, t4)) a3 c3 (w8.setCell ⟨w.heap.size, 2, none⟩ (.slice a3 1 c3)) from S5.out.put E8.out HB.out RA3.out (by first | omega | simp) WKd.out (by omega) T4.out HLO.out HHI.out);obtain ⟨Y, hY⟩ : ∃ u, u = w8.setCell ⟨w.heap.size, 2, none⟩ (.slice a3 1 c3) := ⟨_, rfl⟩
        rw [← hY] at S8 ⊢;clear hY;go_wp2_with fail;go_roundw;case rel => exact ⟨j + 1, lQ ([] : List Sl) 0 ((j : Int) + 1, t4), a3, c3, by omega, by go_num, S8.out⟩
        case measure => simp [intOf]; omega
       go_simp;obtain ⟨wS, hwS⟩ : ∃ u, u = w5.alloc (.cells #[.int .i64 ((j : Int) + 1), .string t4] 137) := ⟨_, rfl⟩
       have EwS := hid (show Below w5.heap.size w5 wS by rw [hwS]; exact ae E5.out _);have XwS := hid (show Below w5.heap.size w5 wS by rw [hwS]; exact ae (Below.refl _ _) _);have LwS := hid (show w5.heap.size < wS.heap.size by rw [hwS]; simp)
       have NwS := hid (show aN wS (some ⟨w5.heap.size, 0, none⟩) 1 1 2 [.int .i64 ((j : Int) + 1), .string t4] by
        rw [hwS]
        exact ⟨rfl, fun e => by simp at e, fun y hy => by
         simp only [Option.some.injEq] at hy;subst hy
         exact ⟨rfl, dG (cs := [.int .i64 ((j : Int) + 1), .string t4]) (aC.new _ _ _)⟩⟩)
       rw [← hwS];clear hwS;refine hK.out _ _ ⟨S5.out.k.ext EwS.out⟩ ?_;clear hK K q9;intro q9;try simp only [qq]
       refine aT 0 fun K hK => ?_
       go_simp;obtain ⟨wE, hwE⟩ : ∃ u, u = wS.alloc (.cells #[] 137) := ⟨_, rfl⟩
       have EwE := hid (show Below w5.heap.size w5 wE by rw [hwE]; exact ae EwS.out _);have XwE := hid (show Below wS.heap.size wS wE by rw [hwE]; exact ae (Below.refl _ _) _);have LwE := hid (show wS.heap.size < wE.heap.size by rw [hwE]; simp);have RwE := hid (show aO w5.heap.size wE (fun _ => 0) 0 137 2 (some ⟨wS.heap.size, 0, none⟩) 0 0 (flat []) by rw [hwE]; exact gI (k := 2) (aC.new _ _ _) EwS.out.size rfl);rw [← hwE];clear hwE;refine hK.out _ _ ⟨S5.out.k.ext EwE.out⟩ ?_;clear hK K q9;intro q9;try simp only [qq]
       refine aT 5 fun K hK => ?_
       rw [if_pos (by rfl)];refine eH w5.heap.size (some ⟨wS.heap.size, 0, none⟩) 0 0 (flat []) none 0 0 (flat (([] : List Sl).take 0)) rfl rfl RwE.out.own (SRC1.out.ext EwE.out) (fM _) (by omega) EwE.out.size ?_;intro a1 c1 w6 q1 q2 q3;simp only [Nat.zero_add];have RA := hid (show w6.ownsRow w5.heap.size 137 2 (.slice a1 0 c1) 0 (flat (([] : List Sl).take 0)) by simpa [flat] using q1);have E6 := hid (show Below w5.heap.size w5 w6 from below_grow EwE.out q2 (fun jj hjj => (RwE.out.own.lt jj hjj).1) EwE.out.size);have NS_ := hid (show aN w6 (some ⟨w5.heap.size, 0, none⟩) 1 1 2 [.int .i64 ((j : Int) + 1), .string t4] from (NwS.out.ext (show Below wS.heap.size wS wE from XwE.out)).grown q2 (fun e => by simp [Value.ownBlock] at e; have := LwS.out; omega));clear q1 q2 q3;refine hK.out _ _ ⟨S5.out.k.ext E6.out⟩ ?_;clear hK K q9;intro q9;try simp only [qq]
       refine aT 10 fun K hK => ?_
       rw [if_pos (by rfl)];refine eH w5.heap.size a1 0 c1 (flat (([] : List Sl).take 0)) (some ⟨w5.heap.size, 0, none⟩) 1 1 [.int .i64 ((j : Int) + 1), .string t4] rfl rfl RA.out NS_.out (fun u hu => by simp at hu; rcases hu with rfl | rfl <;> rfl) (by omega) E6.out.size ?_;intro a2 c2 w7 q1 q2 q3;have RA2 := hid q1;have E7 := hid (show Below w5.heap.size w5 w7 from below_grow E6.out q2 (fun jj hjj => (RA.out.lt jj hjj).1) E6.out.size);clear q1 q2 q3;refine hK.out _ _ ⟨S5.out.k.ext E7.out⟩ ?_;clear hK K q9;intro q9;try simp only [qq]
       refine aT 15 fun K hK => ?_
       rw [if_pos (by rfl)];refine eH w5.heap.size a2 (0 + 1) c2 (flat (([] : List Sl).take 0) ++ [.int .i64 ((j : Int) + 1), .string t4]) none (([] : List Sl).length - 0) (0 - 0) (flat (([] : List Sl).drop 0)) rfl rfl RA2.out (SRC2.out.ext E7.out) (fM _) (by omega) E7.out.size ?_;intro a3 c3 w8 q1 q2 q3;have RA3 := hid q1;have E8 := hid (show Below w5.heap.size w5 w8 from below_grow E7.out q2 (fun jj hjj => (RA2.out.lt jj hjj).1) E7.out.size);clear q1 q2 q3;refine hK.out _ _ ⟨S5.out.k.ext E8.out⟩ ?_;clear hK K q9;intro q9;try simp only [qq]
       refine bg.go [16] ?_;iterate 1 (apply bg.take (ax rfl) (by kernel_rfl) (by rfl) (fun _ _ _ h => h) q9; (· intro w9 hSw; have hq := hSw.bw.cell; clear hSw; go_simp; try with_reducible rfl); try simp only [qq])
       refine bg.fin ?_;refine aJ fun K hK => ?_
       have cB := q9.bw.cell;have fB := q9.bw.free;go_simp;refine hK.out _ _ ?_;clear hK K q9 cB fB;have S8 := hid (show BU B w d ⟨aR, cR, aF, cF, aX0, cX0⟩ I0 H (lQ ([] : List Sl) 0 ((j : Int) + 1, t4)) a3 c3 (w8.setCell ⟨w.heap.size, 2, none⟩ (.slice a3 1 c3)) from S5.out.put E8.out HB.out RA3.out (by first | omega | simp) WKd.out (by omega) T4.out HLO.out HHI.out);obtain ⟨Y, hY⟩ : ∃ u, u = w8.setCell ⟨w.heap.size, 2, none⟩ (.slice a3 1 c3) := ⟨_, rfl⟩
       rw [← hY] at S8 ⊢;clear hY;go_wp2_with fail;go_roundw;case rel => exact ⟨j + 1, lQ ([] : List Sl) 0 ((j : Int) + 1, t4), a3, c3, by omega, by go_num, S8.out⟩
       case measure => simp [intOf]; omega
      dsimp only at ea;subst ea;have i1 : (0 : Int) ≤ (k : Int) := by omega
      have i2 : (k : Int) ≤ (fx.length : Int) := by omega
      have i3 : (fx.length : Int) ≤ (cX : Int) := by have := S4.out.m.fx.len.2; have h9 : fx.length ≤ cX := this; omega
      have i4 : (k : Int) ≤ (cX : Int) := by omega
      have hK0 : JY w.heap.size (bQ { d with fx := fx } ⟨aR, cR, aF, cF, (some ⟨gX, 0, none⟩), cX⟩) w4 := ⟨S4.out.k⟩
      refine aI (S := JY w.heap.size (bQ { d with fx := fx } ⟨aR, cR, aF, cF, (some ⟨gX, 0, none⟩), cX⟩)) 17 (by kernel_rfl) hK0.drew (fun q9 => ?_);simp only [qz, Nat.reduceAdd];obtain ⟨w5, hw5⟩ : ∃ u, u = w4.drew := ⟨_, rfl⟩
      have S5 := hid (S4.out.ext (show Below w4.heap.size w4 w5 by rw [hw5]; exact (Below.refl _ _).drew));have SRC1 := hid (show aN w5 (some ⟨gX, 0, none⟩) k cX 2 (flat (fx.take k)) from LJ S5.out.m.fx hk);have SRC2 := hid (show aN w5 (if cX = k then some ⟨gX, 0, none⟩ else some ⟨gX, k * 2, none⟩) (fx.length - k) (cX - k) 2 (flat (fx.drop k)) from NJ S5.out.m.fx hk);have E5 := hid (Below.refl w5.heap.size w5);rw [← hw5] at q9 ⊢;clear hw5 hK0;refine bg.go [1, 2, 3, 4, 6, 7, 8, 11, 12, 13, 14] ?_;iterate 11 (apply bg.take (ax rfl) (by kernel_rfl) (by rfl) (fun _ _ _ h => h) q9; (· intro w9 hSw; have hq := hSw.bw.cell; clear hSw; go_simp; try with_reducible rfl); try simp only [qq])
      refine bg.fin ?_;refine bu (rs := [0, 9]) (by kernel_rfl) (by simp) ?_;refine aK.cons (ax rfl) (fun K hK => ?_) (aK.cons (ax rfl) (fun K hK => ?_) aK.nil)
      ·go_simp;obtain ⟨wE, hwE⟩ : ∃ u, u = w5.alloc (.cells #[] 137) := ⟨_, rfl⟩
       have EwE := hid (show Below w5.heap.size w5 wE by rw [hwE]; exact ae E5.out _);have XwE := hid (show Below w5.heap.size w5 wE by rw [hwE]; exact ae (Below.refl _ _) _);have LwE := hid (show w5.heap.size < wE.heap.size by rw [hwE]; simp);have RwE := hid (show aO w5.heap.size wE (fun _ => 0) 0 137 2 (some ⟨w5.heap.size, 0, none⟩) 0 0 (flat []) by rw [hwE]; exact gI (k := 2) (aC.new _ _ _) E5.out.size rfl);rw [← hwE];clear hwE;refine hK.out _ _ ⟨S5.out.k.ext EwE.out⟩ ?_;clear hK K q9;intro q9;try simp only [qq]
       refine bu (rs := [5, 9]) (by kernel_rfl) (by simp) ?_;refine aK.cons (ax rfl) (fun K hK => ?_) (aK.cons (ax rfl) (fun K hK => ?_) aK.nil)
       ·rw [if_pos (by rfl)];refine eH w5.heap.size (some ⟨w5.heap.size, 0, none⟩) 0 0 (flat []) (some ⟨gX, 0, none⟩) k cX (flat (fx.take k)) rfl rfl RwE.out.own (SRC1.out.ext EwE.out) (fM _) (by omega) EwE.out.size ?_;intro a1 c1 w6 q1 q2 q3;simp only [Nat.zero_add];have RA := hid (show w6.ownsRow w5.heap.size 137 2 (.slice a1 k c1) k (flat (fx.take k)) by simpa [flat] using q1);have E6 := hid (show Below w5.heap.size w5 w6 from below_grow EwE.out q2 (fun jj hjj => (RwE.out.own.lt jj hjj).1) EwE.out.size);clear q1 q2 q3;refine hK.out _ _ ⟨S5.out.k.ext E6.out⟩ ?_;clear hK K q9;intro q9;try simp only [qq]
        refine aT 9 fun K hK => ?_
        go_simp;obtain ⟨wS, hwS⟩ : ∃ u, u = w6.alloc (.cells #[.int .i64 ((j : Int) + 1), .string t4] 137) := ⟨_, rfl⟩
        have EwS := hid (show Below w5.heap.size w5 wS by rw [hwS]; exact ae E6.out _);have XwS := hid (show Below w6.heap.size w6 wS by rw [hwS]; exact ae (Below.refl _ _) _);have LwS := hid (show w6.heap.size < wS.heap.size by rw [hwS]; simp)
        have NwS := hid (show aN wS (some ⟨w6.heap.size, 0, none⟩) 1 1 2 [.int .i64 ((j : Int) + 1), .string t4] by
         rw [hwS]
         exact ⟨rfl, fun e => by simp at e, fun y hy => by
          simp only [Option.some.injEq] at hy;subst hy
          exact ⟨rfl, dG (cs := [.int .i64 ((j : Int) + 1), .string t4]) (aC.new _ _ _)⟩⟩)
        rw [← hwS];clear hwS;refine hK.out _ _ ⟨S5.out.k.ext EwS.out⟩ ?_;clear hK K q9;intro q9;try simp only [qq]
        have RA_ := hid (zM RA.out XwS.out);refine aT 10 fun K hK => ?_
        rw [if_pos (by rfl)];refine eH w5.heap.size a1 k c1 (flat (fx.take k)) (some ⟨w6.heap.size, 0, none⟩) 1 1 [.int .i64 ((j : Int) + 1), .string t4] rfl rfl RA_.out NwS.out (fun u hu => by simp at hu; rcases hu with rfl | rfl <;> rfl) (by omega) EwS.out.size ?_;intro a2 c2 w7 q1 q2 q3;have RA2 := hid q1;have E7 := hid (show Below w5.heap.size w5 w7 from below_grow EwS.out q2 (fun jj hjj => (RA_.out.lt jj hjj).1) EwS.out.size);clear q1 q2 q3;refine hK.out _ _ ⟨S5.out.k.ext E7.out⟩ ?_;clear hK K q9;intro q9;try simp only [qq]
        refine aT 15 fun K hK => ?_
        rw [if_pos (by rfl)];refine eH w5.heap.size a2 (k + 1) c2 (flat (fx.take k) ++ [.int .i64 ((j : Int) + 1), .string t4]) (if cX = k then some ⟨gX, 0, none⟩ else some ⟨gX, k * 2, none⟩) (fx.length - k) (cX - k) (flat (fx.drop k)) rfl rfl RA2.out (SRC2.out.ext E7.out) (fM _) (by omega) E7.out.size ?_;intro a3 c3 w8 q1 q2 q3;have RA3 := hid q1;have E8 := hid (show Below w5.heap.size w5 w8 from below_grow E7.out q2 (fun jj hjj => (RA2.out.lt jj hjj).1) E7.out.size);clear q1 q2 q3;refine hK.out _ _ ⟨S5.out.k.ext E8.out⟩ ?_;clear hK K q9;intro q9;try simp only [qq]
        refine bg.go [16] ?_;iterate 1 (apply bg.take (ax rfl) (by kernel_rfl) (by rfl) (fun _ _ _ h => h) q9; (· intro w9 hSw; have hq := hSw.bw.cell; clear hSw; go_simp; try with_reducible rfl); try simp only [qq])
        refine bg.fin ?_;refine aJ fun K hK => ?_
        have cB := q9.bw.cell;have fB := q9.bw.free;go_simp;refine hK.out _ _ ?_;clear hK K q9 cB fB;have S8 := hid (show BU B w d ⟨aR, cR, aF, cF, aX0, cX0⟩ I0 H (lQ fx k ((j : Int) + 1, t4)) a3 c3 (w8.setCell ⟨w.heap.size, 2, none⟩ (.slice a3 (k + 1 + (fx.length - k)) c3)) from S5.out.put E8.out HB.out RA3.out (by first | omega | simp) WKd.out (by omega) T4.out HLO.out HHI.out);obtain ⟨Y, hY⟩ : ∃ u, u = w8.setCell ⟨w.heap.size, 2, none⟩ (.slice a3 (k + 1 + (fx.length - k)) c3) := ⟨_, rfl⟩
        rw [← hY] at S8 ⊢;clear hY;go_wp2_with fail;go_roundw;case rel => exact ⟨j + 1, lQ fx k ((j : Int) + 1, t4), a3, c3, by omega, by go_num, S8.out⟩
        case measure => simp [intOf]; omega
       go_simp;obtain ⟨wS, hwS⟩ : ∃ u, u = wE.alloc (.cells #[.int .i64 ((j : Int) + 1), .string t4] 137) := ⟨_, rfl⟩
       have EwS := hid (show Below w5.heap.size w5 wS by rw [hwS]; exact ae EwE.out _);have XwS := hid (show Below wE.heap.size wE wS by rw [hwS]; exact ae (Below.refl _ _) _);have LwS := hid (show wE.heap.size < wS.heap.size by rw [hwS]; simp)
       have NwS := hid (show aN wS (some ⟨wE.heap.size, 0, none⟩) 1 1 2 [.int .i64 ((j : Int) + 1), .string t4] by
        rw [hwS]
        exact ⟨rfl, fun e => by simp at e, fun y hy => by
         simp only [Option.some.injEq] at hy;subst hy
         exact ⟨rfl, dG (cs := [.int .i64 ((j : Int) + 1), .string t4]) (aC.new _ _ _)⟩⟩)
       rw [← hwS];clear hwS;refine hK.out _ _ ⟨S5.out.k.ext EwS.out⟩ ?_;clear hK K q9;intro q9;try simp only [qq]
       refine aT 5 fun K hK => ?_
       rw [if_pos (by rfl)];refine eH w5.heap.size (some ⟨w5.heap.size, 0, none⟩) 0 0 (flat []) (some ⟨gX, 0, none⟩) k cX (flat (fx.take k)) rfl rfl (hid (RwE.out.ext XwS.out)).out.own (SRC1.out.ext EwS.out) (fM _) (by omega) EwS.out.size ?_;intro a1 c1 w6 q1 q2 q3;simp only [Nat.zero_add];have RA := hid (show w6.ownsRow w5.heap.size 137 2 (.slice a1 k c1) k (flat (fx.take k)) by simpa [flat] using q1);have E6 := hid (show Below w5.heap.size w5 w6 from below_grow EwS.out q2 (fun jj hjj => ((hid (RwE.out.ext XwS.out)).out.own.lt jj hjj).1) EwS.out.size);have NS_ := hid (show aN w6 (some ⟨wE.heap.size, 0, none⟩) 1 1 2 [.int .i64 ((j : Int) + 1), .string t4] from NwS.out.grown q2 (fun e => by simp [Value.ownBlock] at e; have := LwE.out; omega));clear q1 q2 q3;refine hK.out _ _ ⟨S5.out.k.ext E6.out⟩ ?_;clear hK K q9;intro q9;try simp only [qq]
       refine aT 10 fun K hK => ?_
       rw [if_pos (by rfl)];refine eH w5.heap.size a1 k c1 (flat (fx.take k)) (some ⟨wE.heap.size, 0, none⟩) 1 1 [.int .i64 ((j : Int) + 1), .string t4] rfl rfl RA.out NS_.out (fun u hu => by simp at hu; rcases hu with rfl | rfl <;> rfl) (by omega) E6.out.size ?_;intro a2 c2 w7 q1 q2 q3;have RA2 := hid q1;have E7 := hid (show Below w5.heap.size w5 w7 from below_grow E6.out q2 (fun jj hjj => (RA.out.lt jj hjj).1) E6.out.size);clear q1 q2 q3;refine hK.out _ _ ⟨S5.out.k.ext E7.out⟩ ?_;clear hK K q9;intro q9;try simp only [qq]
       refine aT 15 fun K hK => ?_
       rw [if_pos (by rfl)];refine eH w5.heap.size a2 (k + 1) c2 (flat (fx.take k) ++ [.int .i64 ((j : Int) + 1), .string t4]) (if cX = k then some ⟨gX, 0, none⟩ else some ⟨gX, k * 2, none⟩) (fx.length - k) (cX - k) (flat (fx.drop k)) rfl rfl RA2.out (SRC2.out.ext E7.out) (fM _) (by omega) E7.out.size ?_;intro a3 c3 w8 q1 q2 q3;have RA3 := hid q1;have E8 := hid (show Below w5.heap.size w5 w8 from below_grow E7.out q2 (fun jj hjj => (RA2.out.lt jj hjj).1) E7.out.size);clear q1 q2 q3;refine hK.out _ _ ⟨S5.out.k.ext E8.out⟩ ?_;clear hK K q9;intro q9;try simp only [qq]
       refine bg.go [16] ?_;iterate 1 (apply bg.take (ax rfl) (by kernel_rfl) (by rfl) (fun _ _ _ h => h) q9; (· intro w9 hSw; have hq := hSw.bw.cell; clear hSw; go_simp; try with_reducible rfl); try simp only [qq])
       refine bg.fin ?_;refine aJ fun K hK => ?_
       have cB := q9.bw.cell;have fB := q9.bw.free;go_simp;refine hK.out _ _ ?_;clear hK K q9 cB fB;have S8 := hid (show BU B w d ⟨aR, cR, aF, cF, aX0, cX0⟩ I0 H (lQ fx k ((j : Int) + 1, t4)) a3 c3 (w8.setCell ⟨w.heap.size, 2, none⟩ (.slice a3 (k + 1 + (fx.length - k)) c3)) from S5.out.put E8.out HB.out RA3.out (by first | omega | simp) WKd.out (by omega) T4.out HLO.out HHI.out);obtain ⟨Y, hY⟩ : ∃ u, u = w8.setCell ⟨w.heap.size, 2, none⟩ (.slice a3 (k + 1 + (fx.length - k)) c3) := ⟨_, rfl⟩
       rw [← hY] at S8 ⊢;clear hY;go_wp2_with fail;go_roundw;case rel => exact ⟨j + 1, lQ fx k ((j : Int) + 1, t4), a3, c3, by omega, by go_num, S8.out⟩
       case measure => simp [intOf]; omega
      go_simp;obtain ⟨wS, hwS⟩ : ∃ u, u = w5.alloc (.cells #[.int .i64 ((j : Int) + 1), .string t4] 137) := ⟨_, rfl⟩
      have EwS := hid (show Below w5.heap.size w5 wS by rw [hwS]; exact ae E5.out _);have XwS := hid (show Below w5.heap.size w5 wS by rw [hwS]; exact ae (Below.refl _ _) _);have LwS := hid (show w5.heap.size < wS.heap.size by rw [hwS]; simp)
      have NwS := hid (show aN wS (some ⟨w5.heap.size, 0, none⟩) 1 1 2 [.int .i64 ((j : Int) + 1), .string t4] by
       rw [hwS]
       exact ⟨rfl, fun e => by simp at e, fun y hy => by
        simp only [Option.some.injEq] at hy;subst hy
        exact ⟨rfl, dG (cs := [.int .i64 ((j : Int) + 1), .string t4]) (aC.new _ _ _)⟩⟩)
      rw [← hwS];clear hwS;refine hK.out _ _ ⟨S5.out.k.ext EwS.out⟩ ?_;clear hK K q9;intro q9;try simp only [qq]
      refine aT 0 fun K hK => ?_
      go_simp;obtain ⟨wE, hwE⟩ : ∃ u, u = wS.alloc (.cells #[] 137) := ⟨_, rfl⟩
      have EwE := hid (show Below w5.heap.size w5 wE by rw [hwE]; exact ae EwS.out _);have XwE := hid (show Below wS.heap.size wS wE by rw [hwE]; exact ae (Below.refl _ _) _);have LwE := hid (show wS.heap.size < wE.heap.size by rw [hwE]; simp);have RwE := hid (show aO w5.heap.size wE (fun _ => 0) 0 137 2 (some ⟨wS.heap.size, 0, none⟩) 0 0 (flat []) by rw [hwE]; exact gI (k := 2) (aC.new _ _ _) EwS.out.size rfl);rw [← hwE];clear hwE;refine hK.out _ _ ⟨S5.out.k.ext EwE.out⟩ ?_;clear hK K q9;intro q9;try simp only [qq]
      refine aT 5 fun K hK => ?_
      rw [if_pos (by rfl)];refine eH w5.heap.size (some ⟨wS.heap.size, 0, none⟩) 0 0 (flat []) (some ⟨gX, 0, none⟩) k cX (flat (fx.take k)) rfl rfl RwE.out.own (SRC1.out.ext EwE.out) (fM _) (by omega) EwE.out.size ?_;intro a1 c1 w6 q1 q2 q3;simp only [Nat.zero_add];have RA := hid (show w6.ownsRow w5.heap.size 137 2 (.slice a1 k c1) k (flat (fx.take k)) by simpa [flat] using q1);have E6 := hid (show Below w5.heap.size w5 w6 from below_grow EwE.out q2 (fun jj hjj => (RwE.out.own.lt jj hjj).1) EwE.out.size);have NS_ := hid (show aN w6 (some ⟨w5.heap.size, 0, none⟩) 1 1 2 [.int .i64 ((j : Int) + 1), .string t4] from (NwS.out.ext (show Below wS.heap.size wS wE from XwE.out)).grown q2 (fun e => by simp [Value.ownBlock] at e; have := LwS.out; omega));clear q1 q2 q3;refine hK.out _ _ ⟨S5.out.k.ext E6.out⟩ ?_;clear hK K q9;intro q9;try simp only [qq]
      refine aT 10 fun K hK => ?_
      rw [if_pos (by rfl)];refine eH w5.heap.size a1 k c1 (flat (fx.take k)) (some ⟨w5.heap.size, 0, none⟩) 1 1 [.int .i64 ((j : Int) + 1), .string t4] rfl rfl RA.out NS_.out (fun u hu => by simp at hu; rcases hu with rfl | rfl <;> rfl) (by omega) E6.out.size ?_;intro a2 c2 w7 q1 q2 q3;have RA2 := hid q1;have E7 := hid (show Below w5.heap.size w5 w7 from below_grow E6.out q2 (fun jj hjj => (RA.out.lt jj hjj).1) E6.out.size);clear q1 q2 q3;refine hK.out _ _ ⟨S5.out.k.ext E7.out⟩ ?_;clear hK K q9;intro q9;try simp only [qq]
      refine aT 15 fun K hK => ?_
      rw [if_pos (by rfl)];refine eH w5.heap.size a2 (k + 1) c2 (flat (fx.take k) ++ [.int .i64 ((j : Int) + 1), .string t4]) (if cX = k then some ⟨gX, 0, none⟩ else some ⟨gX, k * 2, none⟩) (fx.length - k) (cX - k) (flat (fx.drop k)) rfl rfl RA2.out (SRC2.out.ext E7.out) (fM _) (by omega) E7.out.size ?_;intro a3 c3 w8 q1 q2 q3;have RA3 := hid q1;have E8 := hid (show Below w5.heap.size w5 w8 from below_grow E7.out q2 (fun jj hjj => (RA2.out.lt jj hjj).1) E7.out.size);clear q1 q2 q3;refine hK.out _ _ ⟨S5.out.k.ext E8.out⟩ ?_;clear hK K q9;intro q9;try simp only [qq]
      refine bg.go [16] ?_;iterate 1 (apply bg.take (ax rfl) (by kernel_rfl) (by rfl) (fun _ _ _ h => h) q9; (· intro w9 hSw; have hq := hSw.bw.cell; clear hSw; go_simp; try with_reducible rfl); try simp only [qq])
      refine bg.fin ?_;refine aJ fun K hK => ?_
      have cB := q9.bw.cell;have fB := q9.bw.free;go_simp;refine hK.out _ _ ?_;clear hK K q9 cB fB;have S8 := hid (show BU B w d ⟨aR, cR, aF, cF, aX0, cX0⟩ I0 H (lQ fx k ((j : Int) + 1, t4)) a3 c3 (w8.setCell ⟨w.heap.size, 2, none⟩ (.slice a3 (k + 1 + (fx.length - k)) c3)) from S5.out.put E8.out HB.out RA3.out (by first | omega | simp) WKd.out (by omega) T4.out HLO.out HHI.out);obtain ⟨Y, hY⟩ : ∃ u, u = w8.setCell ⟨w.heap.size, 2, none⟩ (.slice a3 (k + 1 + (fx.length - k)) c3) := ⟨_, rfl⟩
      rw [← hY] at S8 ⊢;clear hY;go_wp2_with fail;go_roundw;case rel => exact ⟨j + 1, lQ fx k ((j : Int) + 1, t4), a3, c3, by omega, by go_num, S8.out⟩
      case measure => simp [intOf]; omega
    clear hfb;go_wp2_with fail;go_roundw;case rel => exact ⟨j + 1, fx, aX, cX, by omega, by go_num, S1.out⟩
    case measure => simp [intOf]; omega
 have u0 : decide ((j : Int) + 1 ≤ 60) = false := decide_eq_false (by omega);have kz := S1.out.z;go_wp2_with (first | ((with_reducible refine aP w.heap.size (bQ { d with fx := fx } ⟨aR, cR, aF, cF, aX, cX⟩) rfl ?_ ?_ ?_); rfl; exact kW) | ((with_reducible refine aQ (w.heap.size + 1) zW (bQ { d with fx := fx } ⟨aR, cR, aF, cF, aX, cX⟩) rfl rfl ?_ ?_ ?_ ?_ ?_); rfl; rfl; exact kz; simp [Value.oneCell']));have hz := setRow_heap _ (w.heap.size + 1) _ (bQ { d with fx := fx } ⟨aR, cR, aF, cF, aX, cX⟩) _ _ kz;refine az (ty := 116) Try.results99 (w.heap.size + 1) (bQ { d with fx := fx } ⟨aR, cR, aF, cF, aX, cX⟩) _ ?_ ?_ hz Try.underlying116 rfl (by kernel_rfl) ?_
 ·rfl
 ·rfl
 exact ⟨fx, aX, cX, rfl, by rw [← HI.out]; exact S1.out.m.box S1.out.z (by decide) (by decide) (by decide) (by decide) (fun q hq => (S1.out.c q hq).2) (fun b hb => setRow_other _ _ _ _ hb), ay S1.out.b (by omega) _⟩
end Go.Proofs.Ytjdceoimignnpaa
