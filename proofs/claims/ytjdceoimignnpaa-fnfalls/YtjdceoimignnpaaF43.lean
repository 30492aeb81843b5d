import Derived.Test.YtjdceoimignnpaaF42
namespace Go.Proofs.Ytjdceoimignnpaa
open Go.ChangeShapes Go.WideShapes Go.ChangeAt Go.RowKit Go.Deep Go.Joins next
set_option linter.unusedVariables false
set_option linter.unusedSimpArgs false
set_option maxHeartbeats 32000000
set_option maxRecDepth 20000
variable {l : List Sl} {k : Nat} {s : Sl}
theorem vK (hs : l[k]? = some s) (h : dX 60 (mY l) k = false) : qC l = false := by
 unfold qC;rw [jR (by rw [qX]; exact (List.getElem?_eq_some_iff.1 hs).1) h, Bool.false_and]
theorem zn (hs : l[k]? = some s) (h : ¬ s.2.size ≤ 100) : qC l = false := by
 unfold qC;rw [Dy hs (decide_eq_false h), Bool.and_false]
theorem J3 {n : Nat} (hn : l.length = n) (h1 : ∀ i, i < n → dX 60 (mY l) i = true) (h2 : ∀ (i : Nat) s, i < n → l[i]? = some s → decide (s.2.size ≤ 100) = true) : qC l = true := by
 unfold qC;rw [qP (by rw [qX, hn]) h1, Dz hn h2, Bool.and_true]
set_option maxHeartbeats 8000000 in
theorem Aw (d : Wd) (p : kV) (w : World) (hS0 : uC d) (h : Ef w d p) :
  Calls Try.prog 97 #[.agg (bQ d p)] w fun e w' => e = .returned (.bool (gp d)) ∧ Below w.heap.size w w' := by
 have hS : Hid (uC d) := hS0;have l1 := hS0.lR;have l2 := hS0.lF;have l3 := hS0.lX;clear hS0;have hB : Below w.heap.size w (w.alloc (.cells (bQ d p) 116)) := ae (Below.refl _ _) _;have hR := h.ext hB;have b0 := aC.new w (bQ d p) 116;clear h;cases hz : inB (d.recs.length : Int) 1 5
 ·go_enter Try.func97, Try.ntmps97;go_wp2_with (go_at_call 37; refine (bF _ _ _ _).mono ?_; rintro e w' ⟨rfl, hw'⟩; subst w');go_ret;exact ⟨by unfold gp; rw [hz]; rfl, hB⟩
 by_cases hf : d.fl.length ≤ 600
 ·go_enter Try.func97, Try.ntmps97;go_wp2_with (go_at_call 37; refine (bF _ _ _ _).mono ?_; rintro e w' ⟨rfl, hw'⟩; subst w');go_loopw [4] (fun i wr => ∃ (k : Nat), k ≤ d.recs.length ∧ i = .int .i64 k ∧ (∀ (j : Nat) s, j < k → d.recs[j]? = some s → xQ d.recs.length j s = true) ∧ Below (w.alloc (.cells (bQ d p) 116)).heap.size (w.alloc (.cells (bQ d p) 116)) wr) (fun i _ => d.recs.length - (intOf i).toNat);case atStart => exact ⟨0, Nat.zero_le _, rfl, fun j s hj => absurd hj (by omega), Below.refl _ _⟩
  case round =>
   obtain ⟨k, hk, rfl, hall0, hbel⟩ := hrel;have hall : Hid (∀ (j : Nat) s, j < k → d.recs[j]? = some s → xQ d.recs.length j s = true) := hall0;clear hall0;have cb := (b0.ext hbel).cell;by_cases hlt : k < d.recs.length
   ·obtain ⟨s, hs0⟩ : ∃ s, d.recs[k]? = some s := ⟨_, List.getElem?_eq_getElem hlt⟩
    have hs : Hid (d.recs[k]? = some s) := hs0;obtain ⟨b, off, q, ha, hb, hcs0, hRs⟩ := (hR.ext hbel).hR k s hs0;obtain ⟨aR, cR, aF, cF, aX, cX⟩ := p;simp only at ha;subst ha;have hcs : Hid (wr.rangeAt b (off + k * 18) (au s q).toList) := hcs0;have hSm : Hid (bD s) := hS.out.nR k s hs0;clear hs0 hcs0;have e1 : (0 : Int) ≤ (k : Int) := by omega
    have e2 : (k : Int) < (d.recs.length : Int) := by omega
    cases g3 : bf s
    ·go_wp2_with (first
      | ((with_reducible refine iQ b (off + k * 18) (au s q) rfl ?_ ?_ ?_); rfl; exact hcs.out)
      | (go_at_call 11; refine (jf s q _ hSm.out hRs).mono ?_; rintro e w' ⟨rfl, hb'⟩))
     go_ret;exact ⟨by unfold gp; rw [wW rfl hs.out (by unfold xQ; rw [g3]; rfl), Bool.and_false]; rfl, aj (aj hB hbel) hb'⟩
    ·by_cases g1 : s.num = (k : Int) + 1
     ·by_cases g2 : s.of_ = (d.recs.length : Int)
      ·go_wp2_with (first
        | ((with_reducible refine iQ b (off + k * 18) (au s q) rfl ?_ ?_ ?_); rfl; exact hcs.out)
        | (go_at_call 11; refine (jf s q _ hSm.out hRs).mono ?_; rintro e w' ⟨rfl, hb'⟩; have cb' := (b0.ext (aj hbel hb')).cell; have c0 : w'.cell? ⟨b, off + k * 18, none⟩ = some (.int .i64 s.num) := (kU hcs.out hb' hb) 0 _ rfl; have c1 : w'.cell? ⟨b, off + k * 18 + 1, none⟩ = some (.int .i64 s.of_) := (kU hcs.out hb' hb) 1 _ rfl))
       go_roundw;case rel =>
        refine ⟨k + 1, by omega, by go_num, fun j t hj ht => ?_, aj hbel hb'⟩;by_cases he : j = k
        ·subst he; rw [hs.out] at ht; simp only [Option.some.injEq] at ht; rw [← ht]; unfold xQ; rw [g3, decide_eq_true g1, decide_eq_true g2]; rfl
        ·exact hall.out j t (by omega) ht
       case measure => simp [intOf]; omega
      ·go_wp2_with (first
        | ((with_reducible refine iQ b (off + k * 18) (au s q) rfl ?_ ?_ ?_); rfl; exact hcs.out)
        | (go_at_call 11; refine (jf s q _ hSm.out hRs).mono ?_; rintro e w' ⟨rfl, hb'⟩; have cb' := (b0.ext (aj hbel hb')).cell; have c0 : w'.cell? ⟨b, off + k * 18, none⟩ = some (.int .i64 s.num) := (kU hcs.out hb' hb) 0 _ rfl; have c1 : w'.cell? ⟨b, off + k * 18 + 1, none⟩ = some (.int .i64 s.of_) := (kU hcs.out hb' hb) 1 _ rfl))
       go_ret;exact ⟨by unfold gp; rw [wW rfl hs.out (by unfold xQ; rw [decide_eq_false g2, Bool.and_false]), Bool.and_false]; rfl, aj (aj hB hbel) hb'⟩
     ·go_wp2_with (first
       | ((with_reducible refine iQ b (off + k * 18) (au s q) rfl ?_ ?_ ?_); rfl; exact hcs.out)
       | (go_at_call 11; refine (jf s q _ hSm.out hRs).mono ?_; rintro e w' ⟨rfl, hb'⟩; have cb' := (b0.ext (aj hbel hb')).cell; have c0 : w'.cell? ⟨b, off + k * 18, none⟩ = some (.int .i64 s.num) := (kU hcs.out hb' hb) 0 _ rfl; have c1 : w'.cell? ⟨b, off + k * 18 + 1, none⟩ = some (.int .i64 s.of_) := (kU hcs.out hb' hb) 1 _ rfl))
      go_ret;exact ⟨by unfold gp; rw [wW rfl hs.out (by unfold xQ; rw [decide_eq_false g1, Bool.and_false, Bool.false_and]), Bool.and_false]; rfl, aj (aj hB hbel) hb'⟩
   ·have hrs : Hid (xK d.recs = true) := Jp rfl (fun i s hi hs => hall.out i s (by omega) hs);clear hall;go_wp2;go_loopw [5] (fun i wr => ∃ (k : Nat), k ≤ d.fl.length ∧ i = .int .i64 k ∧ (∀ (j : Nat) s, j < k → d.fl[j]? = some s → bY s.1 d.recs.length s.2 = true) ∧ Below (w.alloc (.cells (bQ d p) 116)).heap.size (w.alloc (.cells (bQ d p) 116)) wr) (fun i _ => d.fl.length - (intOf i).toNat);case atStart => exact ⟨0, Nat.zero_le _, rfl, fun j s hj => absurd hj (by omega), hbel⟩
    case round =>
     clear hbel cb;obtain ⟨m, hm, rfl, hall0, hbel⟩ := hrel;have hall : Hid (∀ (j : Nat) s, j < m → d.fl[j]? = some s → bY s.1 d.recs.length s.2 = true) := hall0;clear hall0;have cb := (b0.ext hbel).cell;by_cases hlt2 : m < d.fl.length
     ·obtain ⟨s, hs0⟩ : ∃ s, d.fl[m]? = some s := ⟨_, List.getElem?_eq_getElem hlt2⟩
      have hs : Hid (d.fl[m]? = some s) := hs0;obtain ⟨b, off, sa, cp, ha, hb, c0, c1, c2, c3, c4, c5, c6, c7, q1, q2, q3⟩ := (hR.ext hbel).hF m s hs0;obtain ⟨aR, cR, aF, cF, aX, cX⟩ := p;simp only at ha;subst ha;clear hs0;have e1 : (0 : Int) ≤ (m : Int) := by omega
      have e2 : (m : Int) < (d.fl.length : Int) := by omega
      cases g2 : bY s.1 d.recs.length s.2
      ·go_wp2_with (go_at_call 26; refine (nY s.1 _ sa s.2 s.2.length cp _ rfl q2 q1 q3).mono ?_; rintro e w' ⟨rfl, hb'⟩);go_ret;exact ⟨by unfold gp La; rw [Dy hs.out g2]; simp, aj (aj hB hbel) hb'⟩
      ·go_wp2_with (go_at_call 26; refine (nY s.1 _ sa s.2 s.2.length cp _ rfl q2 q1 q3).mono ?_; rintro e w' ⟨rfl, hb'⟩);go_roundw;case rel =>
        refine ⟨m + 1, by omega, by go_num, fun j t hj ht => ?_, aj hbel hb'⟩;by_cases he : j = m
        ·subst he; rw [hs.out] at ht; simp only [Option.some.injEq] at ht; rw [← ht]; exact g2
        ·exact hall.out j t (by omega) ht
       case measure => simp [intOf]; omega
     ·have hfs : Hid (La d.recs.length d.fl = true) := by
       unfold Hid La;rw [Dz rfl (fun i s hi hs => hall.out i s (by omega) hs), decide_eq_true hf];rfl
      clear hall;go_wp2;go_loopw [6] (fun i wr => ∃ (k : Nat), k ≤ d.fx.length ∧ i = .int .i64 k ∧ (∀ j, j < k → dX 60 (mY d.fx) j = true) ∧ (∀ (j : Nat) s, j < k → d.fx[j]? = some s → decide (s.2.size ≤ 100) = true) ∧ Below (w.alloc (.cells (bQ d p) 116)).heap.size (w.alloc (.cells (bQ d p) 116)) wr) (fun i _ => d.fx.length - (intOf i).toNat);case atStart => exact ⟨0, Nat.zero_le _, rfl, fun j hj => absurd hj (by omega), fun j s hj => absurd hj (by omega), hbel⟩
      case round =>
       clear hbel cb;obtain ⟨v, hv, rfl, hall0, hall1, hbel⟩ := hrel;have hall : Hid ((∀ j, j < v → dX 60 (mY d.fx) j = true) ∧ (∀ (j : Nat) s, j < v → d.fx[j]? = some s → decide (s.2.size ≤ 100) = true)) := ⟨hall0, hall1⟩
       clear hall0 hall1;have cb := (b0.ext hbel).cell;by_cases hlt3 : v < d.fx.length
       ·obtain ⟨s, hs0⟩ : ∃ s, d.fx[v]? = some s := ⟨_, List.getElem?_eq_getElem hlt3⟩
        have hs : Hid (d.fx[v]? = some s) := hs0;have hX := (hR.ext hbel).hX;obtain ⟨b, off, ha, hb, c0, c1, q1, q2⟩ := hX v s hs0;obtain ⟨aR, cR, aF, cF, aX, cX⟩ := p;simp only at ha;subst ha;clear hs0;unfold maxLen at q1;have e1 : (0 : Int) ≤ (v : Int) := by omega
        have e2 : (v : Int) < (d.fx.length : Int) := by omega
        cases g1 : inB s.1 1 60
        ·go_wp2_with fail
         go_quiet (first | (go_at_call 37; exact Calls.quiet_of_same (bF _ _ _ _)))
         go_wp2;go_ret;exact ⟨by unfold gp; rw [vK hs.out (wZ (oJ hs.out) g1), Bool.and_false]; rfl, aj hB (below_drewN hbel _)⟩
        ·by_cases hx : s.2.size ≤ 100
         ·have hx1 : decide ((100 : Int) < (s.2.size : Int)) = false := decide_eq_false (by omega);by_cases hk0 : 0 < v
          ·obtain ⟨y, hs1⟩ : ∃ s, d.fx[v-1]? = some s := ⟨_, List.getElem?_eq_getElem (by omega)⟩
           have hp : Hid (d.fx[v-1]? = some y) := hs1;obtain ⟨b', off', e, hb', d0, d1, _⟩ := hX (v-1) y hs1;simp only [Option.some.injEq, Addr.mk.injEq, and_true] at e;obtain ⟨rfl, rfl⟩ := e;clear hs1;have u1 : (0 : Int) < (v : Int) := by omega
           have u2 : decide ((0 : Int) < (v : Int)) = true := decide_eq_true u1;have u3 : (0 : Int) ≤ (v : Int) - 1 := by omega
           have u4 : (v : Int) - 1 < (d.fx.length : Int) := by omega
           have u5 : ((v : Int) - 1).toNat = v - 1 := by omega
           by_cases hy : y.1 < s.1
           ·have u6 : decide (s.1 ≤ y.1) = false := decide_eq_false (by omega);go_wp2_with fail
            go_quiet (first | (go_at_call 37; exact Calls.quiet_of_same (bF _ _ _ _)))
            go_wp2;go_roundw;case rel =>
             refine ⟨v + 1, by omega, by go_num, fun j hj => ?_, fun j t hj ht => ?_, below_drewN hbel _⟩
             ·by_cases he : j = v
              ·rw [he]; exact uJ (oJ hs.out) (oJ hp.out) g1 hy
              ·exact hall.out.1 j (by omega)
             ·by_cases he : j = v
              ·subst he; rw [hs.out] at ht; simp only [Option.some.injEq] at ht; rw [← ht]; exact decide_eq_true hx
              ·exact hall.out.2 j t (by omega) ht
            case measure => simp [intOf]; omega
           ·have u6 : decide (s.1 ≤ y.1) = true := decide_eq_true (by omega);go_wp2_with fail
            go_quiet (first | (go_at_call 37; exact Calls.quiet_of_same (bF _ _ _ _)))
            go_wp2;go_ret;exact ⟨by unfold gp; rw [vK hs.out (wH hk0 (oJ hs.out) (oJ hp.out) (by omega)), Bool.and_false]; rfl, aj hB (below_drewN hbel _)⟩
          ·have u2 : decide ((0 : Int) < (v : Int)) = false := decide_eq_false (by omega);go_wp2_with fail
           go_quiet (first | (go_at_call 37; exact Calls.quiet_of_same (bF _ _ _ _)))
           go_wp2;go_roundw;case rel =>
            have hk9 : v = 0 := by omega
            have h9 := hs.out;rw [hk9] at h9;refine ⟨v + 1, by omega, by go_num, fun j hj => ?_, fun j t hj ht => ?_, below_drewN hbel _⟩
            ·have hj9 : j = 0 := by omega
             rw [hj9]; exact pY (oJ h9) g1
            ·have hj9 : j = 0 := by omega
             rw [hj9, h9] at ht; simp only [Option.some.injEq] at ht; rw [← ht]; exact decide_eq_true hx
           case measure => simp [intOf]; omega
         ·have hx1 : decide ((100 : Int) < (s.2.size : Int)) = true := decide_eq_true (by omega);go_wp2_with fail
          go_quiet (first | (go_at_call 37; exact Calls.quiet_of_same (bF _ _ _ _)))
          go_wp2;go_ret;exact ⟨by unfold gp; rw [zn hs.out hx, Bool.and_false]; rfl, aj hB (below_drewN hbel _)⟩
       ·go_wp2;go_ret;exact ⟨by unfold gp; rw [hz, hrs.out, hfs.out, J3 rfl (fun i hi => hall.out.1 i (by omega)) (fun i s hi hs => hall.out.2 i s (by omega) hs)]; rfl, aj hB hbel⟩
 ·go_enter Try.func97, Try.ntmps97;go_wp2_with (go_at_call 37; refine (bF _ _ _ _).mono ?_; rintro e w' ⟨rfl, hw'⟩; subst w');go_ret;exact ⟨by unfold gp La; rw [decide_eq_false hf]; simp, hB⟩
theorem kR {ops : Array Oper} {rest : List Oper} {dst : Option Tmp} {x y : Operand} {τ : TypeId} {pos : String} {after : Array Edge} {a : Act} {w0 : World} {c : Array Value} {Q : Exit → Act → World → Prop}
  (cells : Array Value) (hs : cells.size = 3) (hx : a.eval x = .pointer (some ⟨w0.heap.size, 0, none⟩)) (hy : a.eval y = .agg cells) (hc : c.size = 3) (h1 : cells.all (·.oneCell') = true)
  (h : wpList Try.prog ops Q rest (a.put dst undef) (w0.alloc (.cells cells 116))) :
  wpList Try.prog ops Q ({ dst := dst, op := .store 116 x y, type := τ, pos := pos, after := after, guard := none } :: rest) a (w0.alloc (.cells c 116)) :=
 dU cells hx hy (by rw [hs]; kernel_rfl) (by rw [hc, hs]) h1 h
def Ob (w : World) (n : Nat) (e : Ending) (w' : World) : Prop := ∃ d' p' J H', e = .returned (.agg (bQ d' p')) ∧ WM w.heap.size w' d' p' J H' ∧ d'.recs.length = n ∧ Below w.heap.size w w'
theorem uQ (B : Nat) (d : Wd) (p : kV) (I : List jF) (H : List Mp) (k : Int) (w : World) (h : WM B w d p I H) :
  Calls Try.prog 89 #[.agg (bQ d p), .int .i64 k] w (Ob w d.recs.length) := by
 obtain ⟨n, hn⟩ : ∃ n, n = d.recs.length := ⟨_, rfl⟩
 have LEN0 := hid hn.symm;rw [← hn];clear hn;have OK := hid h.ok;have SM := hid (tu (fZ.1 h.ok));obtain ⟨V, hV⟩ : ∃ V, V = (w.alloc (.cells (bQ d p) 116)).alloc (.cells zW 116) := ⟨_, rfl⟩
 have BV := hid (show Below w.heap.size w V by rw [hV]; exact ae (ae (Below.refl _ _) _) _);have K0 := hid (show aC V w.heap.size (bQ d p) 116 by rw [hV]; exact (aC.new _ _ _).alloc _);have Z0 := hid (show aC V (w.heap.size + 1) zW 116 by rw [hV]; exact aC.new' _ _ (by simp));have M0 := hid (h.ext BV.out);clear h;have k0 := K0.out;rw [hV] at k0;go_enter Try.func89, Try.ntmps89;go_wp2_with ((with_reducible refine aP (w.heap.size) (bQ d p) rfl ?_ ?_ ?_); rfl; exact k0);rw [← hV];clear hV k0;refine (Aw d p V SM.out M0.out.at).mono ?_;rintro e w1 ⟨rfl, hb1⟩;rw [OK.out];have M1 := hid (M0.out.ext hb1);have B1 := hid hb1;have k1 := K0.out.ext hb1;clear hb1;go_wp2_with ((with_reducible refine aP (w.heap.size) (bQ d p) rfl ?_ ?_ ?_); rfl; exact k1);clear k1;refine (qQ B d p I H w1 M1.out).mono ?_;rintro e w2 ⟨p2, J2, H2, rfl, m2, hb2⟩;have M2 := hid (show WM V.heap.size w2 d p2 J2 H2 from m2.low B1.out.size);have B2 := hid (aj B1.out hb2);clear m2 hb2 M1 B1;obtain ⟨g5, hg5⟩ : ∃ g, g = w2.heap.size := ⟨_, rfl⟩
 obtain ⟨W3, hW3⟩ : ∃ u, u = w2.alloc (.cells (bQ d p2) 116) := ⟨_, rfl⟩
 have S3 := hid (show ∃ J, WB V.heap.size V d p2 J H2 [(g5, 116, bQ d p2)] W3 from ⟨_, by
  rw [hW3, hg5]
  exact (WB.mk M2.out B2.out (Nat.le_refl _) (fun u hu => absurd hu (by simp)) : WB V.heap.size V d p2 J2 H2 [] w2).Ih (ae (Below.refl _ _) _) (aC.new _ _ _) (Nat.le_refl _) vN⟩)
 go_wp2_with ((with_reducible refine kR (bQ d p2) rfl ?_ ?_ ?_ ?_ ?_); rfl; rfl; rfl; simp [Value.oneCell']);rw [← hg5, ← hW3];clear hg5 hW3 M2 B2;go_loopw [6, 7] (fun s6 _ wr => ∃ (i : Nat) (d1 : Wd) (p1 : kV) (J1 : List jF) (H1 : List Mp), i ≤ 1000 ∧ s6 = .int .i64 i ∧ d1.recs.length = n ∧ WB V.heap.size V d1 p1 J1 H1 [(g5, 116, bQ d1 p1)] wr) (fun s6 _ _ => 1000 - (intOf s6).toNat);case atStart =>
  obtain ⟨J, hJ⟩ := S3.out;exact ⟨0, d, p2, J, H2, Nat.zero_le _, rfl, LEN0.out, hJ⟩
 obtain ⟨i, d1, p1, J1, H1, hi, rfl, hl1, hss⟩ := hrel
 rename World => wo
 have S1 := hid hss;have LEN1 := hid hl1;clear hss S3 hl1;have hend : Hid (((i : Int) < k ∧ i < 1000) ∨ ¬ ((i : Int) < k) ∨ ((i : Int) < k ∧ ¬ i < 1000)) := hid (by omega);rcases hend.out with ⟨hk, hi1⟩ | hout
 ·clear hend;have u1 : decide ((i : Int) < k) = true := decide_eq_true hk;have e1 : (i : Int) < 1000 := by omega
  have e9 : IntKind.i64.wrap ((i : Int) + 1) = (i : Int) + 1 := by go_arith
  have kW := (S1.out.x _ (.head _)).1;go_wp2_with ((with_reducible refine aP (g5) (bQ d1 p1) rfl ?_ ?_ ?_); rfl; exact kW);clear kW;refine (yA V.heap.size d1 p1 J1 H1 _ wo S1.out.self).mono ?_;rintro e w4 ⟨d2, p2', J2, H4, rfl, g4, n4⟩;have kW := (g4.x _ (.head _)).1;have S4 := hid (show WB V.heap.size V d2 p2' J2 H4 [(g5, 116, bQ d2 p2')] (w4.setRow g5 (bQ d2 p2')) from (S1.out.then g4).top (fun b hb => setRow_other _ _ _ _ hb) (setRow_heap _ g5 _ _ _ _ kW) (ay (Below.refl _ _) (g4.x _ (.head _)).2.1 _) (fun u hu => absurd hu (by simp)));have LEN2 := hid (n4.trans LEN1.out);have LF := hid (show d2.fl.length = H4.length by rw [← g4.m.fm, List.length_map]);have F6 := hid (show H4.length ≤ 600 by have := (fZ.1 g4.m.ok).fl; have := LF.out; omega);have cW := (S4.out.x _ (.head _)).1.cell;clear g4 n4 S1
  go_upto_block 2 with ((with_reducible refine aQ (g5) (bQ d1 p1) (bQ d2 p2') rfl rfl ?_ ?_ ?_ ?_ ?_); rfl; rfl; exact kW; simp [Value.oneCell'])
  obtain ⟨w5, hw5⟩ : ∃ u, u = w4.setRow g5 (bQ d2 p2') := ⟨_, rfl⟩
  rw [← hw5] at S4 ⊢;clear kW cW hw5;rw [LF.out];go_wp2_with fail;go_loopw [7] (fun s7 wr => ∃ (d5 : Wd) (p5 : kV) (J5 : List jF) (H5 : List Mp), H5.length ≤ 600 ∧ s7 = .int .i64 (H5.length : Int) ∧ d5.recs.length = n ∧ WB V.heap.size V d5 p5 J5 H5 [(g5, 116, bQ d5 p5)] wr) (fun s7 _ => (intOf s7).toNat);case atStart => exact ⟨d2, p2', J2, H4, F6.out, rfl, LEN2.out, S4.out⟩
  obtain ⟨d5, p5, J5, H5, hh, rfl, hl5, hss⟩ := hrel;have S5 := hid hss;obtain ⟨wn, hwn⟩ : ∃ v : World, v = wr := ⟨_, rfl⟩
  subst hwn;clear hss S4;by_cases h0 : 0 < H5.length
  ·have e3 : (0 : Int) < (H5.length : Int) := by omega
   have u3 : decide ((0 : Int) < (H5.length : Int)) = true := decide_eq_true e3;have e8 : IntKind.i64.wrap ((H5.length : Int) - 1) = (H5.length : Int) - 1 := by go_arith
   have kW := (S5.out.x _ (.head _)).1;go_wp2_with ((with_reducible refine aP (g5) (bQ d5 p5) rfl ?_ ?_ ?_); rfl; exact kW);clear kW;refine (yL V.heap.size d5 p5 J5 H5 0 _ wn S5.out.self h0).mono ?_;rintro e w6 ⟨d6, p6, J6, rfl, g6, n6⟩;have kW := (g6.x _ (.head _)).1;obtain ⟨H6, hH6⟩ : ∃ L, L = H5.take 0 ++ H5.drop (0 + 1) := ⟨_, rfl⟩
   have HL := hid (show H6.length + 1 = H5.length by rw [hH6]; simp; omega);rw [← hH6] at g6;have S6 := hid (show WB V.heap.size V d6 p6 J6 H6 [(g5, 116, bQ d6 p6)] (w6.setRow g5 (bQ d6 p6)) from (S5.out.then g6).top (fun b hb => setRow_other _ _ _ _ hb) (setRow_heap _ g5 _ _ _ _ kW) (ay (Below.refl _ _) (g6.x _ (.head _)).2.1 _) (fun u hu => absurd hu (by simp)));have LEN6 := hid (n6.trans hl5);clear g6 n6 hH6 S5;go_wp2_with ((with_reducible refine aQ (g5) (bQ d5 p5) (bQ d6 p6) rfl rfl ?_ ?_ ?_ ?_ ?_); rfl; rfl; exact kW; simp [Value.oneCell']);go_roundw;case rel => exact ⟨d6, p6, J6, H6, by have := HL.out; omega, by rw [show (H5.length : Int) - 1 = (H6.length : Int) by have := HL.out; omega], LEN6.out, S6.out⟩
   case measure => simp [intOf]; omega
  have e3 : ¬ (0 : Int) < (H5.length : Int) := by omega
  have u3 : decide ((0 : Int) < (H5.length : Int)) = false := decide_eq_false e3;go_wp2_with fail;go_roundw;case rel => exact ⟨i + 1, d5, p5, J5, H5, by omega, by go_num, hl5, S5.out⟩
  case measure => simp [intOf]; omega
 clear hend;have kW := (S1.out.x _ (.head _)).1;have fin : Hid (∀ a : Act, True) := hid fun _ => trivial
 rcases hout with hk | ⟨hk, hi1⟩
 ·have u1 : decide ((i : Int) < k) = false := decide_eq_false hk;go_wp2_with ((with_reducible refine aP (g5) (bQ d1 p1) rfl ?_ ?_ ?_); rfl; exact kW);clear kW fin;refine (qQ V.heap.size d1 p1 J1 H1 wo S1.out.m).mono ?_;rintro e w7 ⟨p7, J7, H7, rfl, m7, hb7⟩;have kz := (Z0.out.ext S1.out.b).ext hb7;go_wp2_with ((with_reducible refine aQ (w.heap.size + 1) zW (bQ d1 p7) rfl rfl ?_ ?_ ?_ ?_ ?_); rfl; rfl; exact kz; simp [Value.oneCell']);have hz := setRow_heap _ (w.heap.size + 1) _ (bQ d1 p7) _ _ kz;refine az (ty := 116) Try.results89 (w.heap.size + 1) (bQ d1 p7) _ ?_ ?_ hz Try.underlying116 rfl (by kernel_rfl) ?_
  ·rfl
  ·rfl
  have vz : w.heap.size + 1 < V.heap.size := Z0.out.lt;have wz : V.heap.size ≤ wo.heap.size := S1.out.low;exact ⟨_, _, _, _, rfl, (m7.same fun b hB hlt => setRow_other _ _ _ _ (by omega)).low (by omega), LEN1.out, ay ((BV.out.trans (S1.out.b.mono (by omega))).trans (hb7.mono (by omega))) (by omega) _⟩
 have u1 : decide ((i : Int) < k) = true := decide_eq_true hk;have e1 : ¬ (i : Int) < 1000 := by omega
 go_wp2_with ((with_reducible refine aP (g5) (bQ d1 p1) rfl ?_ ?_ ?_); rfl; exact kW);clear kW fin;refine (qQ V.heap.size d1 p1 J1 H1 wo S1.out.m).mono ?_;rintro e w7 ⟨p7, J7, H7, rfl, m7, hb7⟩;have kz := (Z0.out.ext S1.out.b).ext hb7;go_wp2_with ((with_reducible refine aQ (w.heap.size + 1) zW (bQ d1 p7) rfl rfl ?_ ?_ ?_ ?_ ?_); rfl; rfl; exact kz; simp [Value.oneCell']);have hz := setRow_heap _ (w.heap.size + 1) _ (bQ d1 p7) _ _ kz;refine az (ty := 116) Try.results89 (w.heap.size + 1) (bQ d1 p7) _ ?_ ?_ hz Try.underlying116 rfl (by kernel_rfl) ?_
 ·rfl
 ·rfl
 have vz : w.heap.size + 1 < V.heap.size := Z0.out.lt;have wz : V.heap.size ≤ wo.heap.size := S1.out.low;exact ⟨_, _, _, _, rfl, (m7.same fun b hB hlt => setRow_other _ _ _ _ (by omega)).low (by omega), LEN1.out, ay ((BV.out.trans (S1.out.b.mono (by omega))).trans (hb7.mono (by omega))) (by omega) _⟩
set_option maxHeartbeats 16000000 in
set_option maxRecDepth 20000 in
theorem xg (B : Nat) (r : Rc) (p : fU) (X : iU) (col : Nat → Nat) (w : World) (hS : bD r) (h : aG B w r p X col) :
  Calls Try.prog 9 #[.agg (au r p)] w (yz w (dn r)) := by
 have RD := hid h;have HS := hid hS;clear h hS;obtain ⟨V, hV⟩ : ∃ V, V = (w.alloc (.cells (au r p) 31)).alloc (.cells bP 31) := ⟨_, rfl⟩
 have BV := hid (show Below w.heap.size w V by rw [hV]; exact ae (ae (Below.refl _ _) _) _);have K1 := hid (show aC V w.heap.size (au r p) 31 by rw [hV]; exact (aC.new _ _ _).alloc _);have K2 := hid (show aC V (w.heap.size + 1) bP 31 by rw [hV]; exact aC.new' _ _ (by simp));have SZ := hid (show w.heap.size + 1 < V.heap.size from K2.out.lt);have k1 := K1.out;rw [hV] at k1;go_enter Try.func9, Try.ntmps9;go_wp2_with ((with_reducible refine ah w.heap.size (au r p) rfl ?_ ?_ ?_); rfl; exact k1);rw [← hV];clear hV k1;refine (jf r p _ HS.out (RD.out.ext BV.out).at).mono ?_;rintro e w1 ⟨rfl, hb1⟩;have B1 := hid (aj BV.out hb1);have k1 := K1.out.ext hb1;have k2 := K2.out.ext hb1;have K2b := hid k2;have SZ1 := hid (show w.heap.size + 1 < w1.heap.size from k2.lt);clear hb1 K1 K2 BV SZ;cases hv : bf r
 case false =>
  have HN := hid (rW hv)
  go_wp2_with (first
   | ((with_reducible refine bH (ty := 31) bP ?_ ?_); (· kernel_rfl))
   | ((with_reducible refine af (w.heap.size + 1) bP bP rfl rfl ?_ ?_ ?_ ?_ ?_); rfl; rfl; exact k2; simp [Value.oneCell']))
  have hz := setRow_heap _ (w.heap.size + 1) _ bP _ _ k2;refine az (ty := 31) Try.results9 (w.heap.size + 1) bP _ ?_ ?_ hz Try.underlying31 rfl (by kernel_rfl) ?_
  ·rfl
  ·rfl
  rw [HN.out];exact ⟨IX, ⟨[], []⟩, fun _ => 0, rfl, lT _ _ _, ay B1.out (by omega) _⟩
 have HN := hid (nO hv);have hK0 : kS (w.heap.size + 1) w1 w.heap.size (au r p) w1 := ⟨k1, Below.refl _ _⟩
 clear k1 k2;go_wp2_with fail;refine wp_region_held_drew (S := kS (w.heap.size + 1) w1 w.heap.size (au r p)) (by kernel_rfl) hK0.drew (fun q9 => ?_);clear hK0;simp only [List.size_toArray, List.length_cons, List.length_nil, Nat.reduceAdd, Array.replicate_succ, Array.replicate_zero, List.push_toArray, List.append_toArray, List.nil_append, List.cons_append];refine wpAnyH_take (i := 0) (v := ?_) (ax rfl) (by kernel_rfl) (by kernel_rfl) (by kernel_rfl) (fun _ _ _ h => h) (Or.inl ⟨by rfl, ?_⟩) q9 ?_;rotate_left
 ·(intro w9 hSw; have hq := hSw.blk.cell; clear hSw; go_simp; try with_reducible rfl)
 try simp only [Act.put, List.setIfInBounds_toArray, List.set_cons_zero, List.set_cons_succ]
 refine wpAnyH_take (i := 1) (v := ?_) (ax rfl) (by kernel_rfl) (by kernel_rfl) (by kernel_rfl) (fun _ _ _ h => h) (Or.inl ⟨by rfl, ?_⟩) q9 ?_;rotate_left
 ·(intro w9 hSw; have hq := hSw.blk.cell; clear hSw; go_simp; try with_reducible rfl)
 try simp only [Act.put, List.setIfInBounds_toArray, List.set_cons_zero, List.set_cons_succ]
 refine wpAnyH_take (i := 2) (v := ?_) (ax rfl) (by kernel_rfl) (by kernel_rfl) (by kernel_rfl) (fun _ _ _ h => h) (Or.inl ⟨by rfl, ?_⟩) q9 ?_;rotate_left
 ·(intro w9 hSw; have hq := hSw.blk.cell; clear hSw; go_simp; try with_reducible rfl)
 try simp only [Act.put, List.setIfInBounds_toArray, List.set_cons_zero, List.set_cons_succ]
 refine wpAnyH_take (i := 3) (v := ?_) (ax rfl) (by kernel_rfl) (by kernel_rfl) (by kernel_rfl) (fun _ _ _ h => h) (Or.inl ⟨by rfl, ?_⟩) q9 ?_;rotate_left
 ·(intro w9 hSw; have hq := hSw.blk.cell; clear hSw; go_simp; try with_reducible rfl)
 try simp only [Act.put, List.setIfInBounds_toArray, List.set_cons_zero, List.set_cons_succ]
 refine wpAnyH_take (i := 4) (v := ?_) (ax rfl) (by kernel_rfl) (by kernel_rfl) (by kernel_rfl) (fun _ _ _ h => h) (Or.inl ⟨by rfl, ?_⟩) q9 ?_;rotate_left
 ·(intro w9 hSw; have hq := hSw.blk.cell; clear hSw; go_simp; try with_reducible rfl)
 try simp only [Act.put, List.setIfInBounds_toArray, List.set_cons_zero, List.set_cons_succ]
 refine wpAnyH_take (i := 5) (v := ?_) (ax rfl) (by kernel_rfl) (by kernel_rfl) (by kernel_rfl) (fun _ _ _ h => h) (Or.inl ⟨by rfl, ?_⟩) q9 ?_;rotate_left
 ·(intro w9 hSw; have hq := hSw.blk.cell; clear hSw; go_simp; try with_reducible rfl)
 try simp only [Act.put, List.setIfInBounds_toArray, List.set_cons_zero, List.set_cons_succ]
 refine wpAnyH_take (i := 7) (v := ?_) (ax rfl) (by kernel_rfl) (by kernel_rfl) (by kernel_rfl) (fun _ _ _ h => h) (Or.inl ⟨by rfl, ?_⟩) q9 ?_;rotate_left
 ·(intro w9 hSw; have hq := hSw.blk.cell; clear hSw; go_simp; try with_reducible rfl)
 try simp only [Act.put, List.setIfInBounds_toArray, List.set_cons_zero, List.set_cons_succ]
 refine wpAnyH_take (i := 8) (v := ?_) (ax rfl) (by kernel_rfl) (by kernel_rfl) (by kernel_rfl) (fun _ _ _ h => h) (Or.inl ⟨by rfl, ?_⟩) q9 ?_;rotate_left
 ·(intro w9 hSw; have hq := hSw.blk.cell; clear hSw; go_simp; try with_reducible rfl)
 try simp only [Act.put, List.setIfInBounds_toArray, List.set_cons_zero, List.set_cons_succ]
 refine wpAnyH_ready (rs := [6]) (by kernel_rfl) (by simp) ?_;refine AllReadyH.cons (ax rfl) (fun K hK => ?_) AllReadyH.nil;go_simp;refine (lU r.sp r.sk p.aS r.ss r.ss.length p.cS _ rfl HS.out.lS RD.out.s.plain.1 RD.out.s.plain.2 (RD.out.ext (B1.out.trans (q9.bel.mono (Nat.le_succ _)))).at.hS).mono ?_;rintro e d1 ⟨g1, c1, rfl, _, o1, hbd⟩;have Z1 := hid (aZ.mk' o1);have D1 := hid hbd;clear o1;go_wp2_with fail;refine hK.out _ _ (q9.ext (Nat.le_of_lt SZ1.out) hbd) (fun hNew => ?_);clear hK K q9 hbd;have q9 := hNew;clear hNew;try simp only [Act.put, List.setIfInBounds_toArray, List.set_cons_zero, List.set_cons_succ]
 refine wpAnyH_ready (rs := [9]) (by kernel_rfl) (by simp) ?_;refine AllReadyH.cons (ax rfl) (fun K hK => ?_) AllReadyH.nil;go_simp;refine (lU r.sp r.sk p.aS r.ss r.ss.length p.cS _ rfl HS.out.lS RD.out.s.plain.1 RD.out.s.plain.2 (RD.out.ext (B1.out.trans (q9.bel.mono (Nat.le_succ _)))).at.hS).mono ?_;rintro e d2 ⟨g2, c2, rfl, _, o2, hbd⟩;have Z2 := hid (aZ.mk' o2);have D2 := hid hbd;clear o2;go_wp2_with fail;refine hK.out _ _ (q9.ext (Nat.le_of_lt SZ1.out) hbd) (fun hNew => ?_);clear hK K q9 hbd;have q9 := hNew;clear hNew;try simp only [Act.put, List.setIfInBounds_toArray, List.set_cons_zero, List.set_cons_succ]
 refine wpAnyH_ready (rs := [10]) (by kernel_rfl) (by simp) ?_;refine AllReadyH.cons (ax rfl) (fun K hK => ?_) AllReadyH.nil;go_simp;refine hK.out _ _ q9 (fun hNew => ?_);clear hK K hNew;try simp only [Act.put, List.setIfInBounds_toArray, List.set_cons_zero, List.set_cons_succ]
 have k2 := ((show aC w1.drew (w.heap.size + 1) bP 31 from K2b.out).ext D1.out).ext D2.out;refine wpAnyH_ready (rs := [11]) (by kernel_rfl) (by simp) ?_;refine AllReadyH.cons (ax rfl) (fun K hK => ?_) AllReadyH.nil;rw [if_pos (by rfl)];refine wp_store_row 31 _ _ rfl (w.heap.size + 1) #[.int .i64 r.num, .int .i64 r.of_, .bool false, .int .i64 r.sp, .int .i64 r.sk, .slice (some ⟨g1, 0, none⟩) r.ss.length c1, .int .i64 r.sp, .int .i64 r.sk, .slice (some ⟨g2, 0, none⟩) r.ss.length c2, .slice none 0 0, .slice none 0 0, .bool false, .bool false, .int .i64 0, .slice none 0 0, .slice none 0 0, .slice none 0 0, .int .i64 0] rfl rfl 31 bP k2 (by kernel_rfl) rfl (by simp [Value.oneCell']) ?_;refine hK.out _ _ ⟨(setRow_other d2 (w.heap.size + 1) w.heap.size _ (by omega)).trans q9.blk, ay q9.bel (Nat.le_refl _) _⟩ (fun hNew => ?_);clear hK K hNew;try simp only [Act.put, List.setIfInBounds_toArray, List.set_cons_zero, List.set_cons_succ]
 refine wpAnyH_done (by kernel_rfl) ?_ _;have hz := setRow_heap _ (w.heap.size + 1) _ #[.int .i64 r.num, .int .i64 r.of_, .bool false, .int .i64 r.sp, .int .i64 r.sk, .slice (some ⟨g1, 0, none⟩) r.ss.length c1, .int .i64 r.sp, .int .i64 r.sk, .slice (some ⟨g2, 0, none⟩) r.ss.length c2, .slice none 0 0, .slice none 0 0, .bool false, .bool false, .int .i64 0, .slice none 0 0, .slice none 0 0, .slice none 0 0, .int .i64 0] _ _ k2;have BD := hid (B1.out.trans (q9.bel.mono (Nat.le_succ _)));clear q9;go_wp2_with fail;refine az (ty := 31) Try.results9 (w.heap.size + 1) #[.int .i64 r.num, .int .i64 r.of_, .bool false, .int .i64 r.sp, .int .i64 r.sk, .slice (some ⟨g1, 0, none⟩) r.ss.length c1, .int .i64 r.sp, .int .i64 r.sk, .slice (some ⟨g2, 0, none⟩) r.ss.length c2, .slice none 0 0, .slice none 0 0, .bool false, .bool false, .int .i64 0, .slice none 0 0, .slice none 0 0, .slice none 0 0, .int .i64 0] _ ?_ ?_ hz Try.underlying31 rfl (by kernel_rfl) ?_
 ·rfl
 ·rfl
 rw [HN.out];have G0 := hid (aG.reads RD.out).gd;have l1 : w1.drew.heap.size ≤ d1.heap.size := D1.out.size;have l0 : w.heap.size + 1 < w1.drew.heap.size := SZ1.out;have f1 := ((Z1.out.ext D2.out).row (B := w1.drew.heap.size) (col := fun b => if b < d1.heap.size then 0 else 1) (t := 0) (Nat.le_refl _) (fun b _ hb => if_pos hb))
 have f2 := ((Z2.out).row (B := w1.drew.heap.size) (col := fun b => if b < d1.heap.size then 0 else 1) (t := 1) l1 (fun b hb _ => if_neg (by omega)))
 have z := lT w1.drew.heap.size d2 (fun b => if b < d1.heap.size then 0 else 1);have hf : aG w1.drew.heap.size d2 (gV r) ⟨some ⟨g1, 0, none⟩, c1, some ⟨g2, 0, none⟩, c2, none, 0, none, 0, none, 0, none, 0, none, 0⟩ ⟨[], []⟩ (fun b => if b < d1.heap.size then 0 else 1) :=
  ⟨f1, f2, z.h, z.hm, z.hi, z.t, z.y, z.b, z.a, z.am, z.ai, ⟨G0.out.s, G0.out.s, z.gd.h, z.gd.t, z.gd.y, z.gd.b, z.gd.a⟩⟩
 exact ⟨⟨some ⟨g1, 0, none⟩, c1, some ⟨g2, 0, none⟩, c2, none, 0, none, 0, none, 0, none, 0, none, 0⟩, ⟨[], []⟩, _, rfl, (hf.far l0 _).lower (by omega), ay BD.out (by omega) _⟩
set_option maxHeartbeats 16000000 in
set_option maxRecDepth 20000 in
theorem AP (B : Nat) (r : Rc) (p : fU) (X : iU) (col : Nat → Nat) (w : World) (hS : bD r) (h : aG B w r p X col) :
  Calls Try.prog 10 #[.agg (au r p)] w (yz w (eu r)) := by
 have RD := hid h;have HS := hid hS;clear h hS;obtain ⟨V, hV⟩ : ∃ V, V = (w.alloc (.cells (au r p) 31)).alloc (.cells bP 31) := ⟨_, rfl⟩
 have BV := hid (show Below w.heap.size w V by rw [hV]; exact ae (ae (Below.refl _ _) _) _);have K1 := hid (show aC V w.heap.size (au r p) 31 by rw [hV]; exact (aC.new _ _ _).alloc _);have K2 := hid (show aC V (w.heap.size + 1) bP 31 by rw [hV]; exact aC.new' _ _ (by simp));have SZ := hid (show w.heap.size + 1 < V.heap.size from K2.out.lt);have k1 := K1.out;rw [hV] at k1;go_enter Try.func10, Try.ntmps10;go_wp2_with ((with_reducible refine ah w.heap.size (au r p) rfl ?_ ?_ ?_); rfl; exact k1);rw [← hV];clear hV k1;refine (jf r p _ HS.out (RD.out.ext BV.out).at).mono ?_;rintro e w1 ⟨rfl, hb1⟩;have B1 := hid (aj BV.out hb1);have k1 := K1.out.ext hb1;have k2 := K2.out.ext hb1;have K2b := hid k2;have SZ1 := hid (show w.heap.size + 1 < w1.heap.size from k2.lt);clear hb1 K1 K2 BV SZ;cases hv : bf r
 case false =>
  have HN := hid (sD hv)
  go_wp2_with (first
   | ((with_reducible refine bH (ty := 31) bP ?_ ?_); (· kernel_rfl))
   | ((with_reducible refine af (w.heap.size + 1) bP bP rfl rfl ?_ ?_ ?_ ?_ ?_); rfl; rfl; exact k2; simp [Value.oneCell']))
  have hz := setRow_heap _ (w.heap.size + 1) _ bP _ _ k2;refine az (ty := 31) Try.results10 (w.heap.size + 1) bP _ ?_ ?_ hz Try.underlying31 rfl (by kernel_rfl) ?_
  ·rfl
  ·rfl
  rw [HN.out];exact ⟨IX, ⟨[], []⟩, fun _ => 0, rfl, lT _ _ _, ay B1.out (by omega) _⟩
 have HN := hid (nK hv);go_wp2_with ((with_reducible refine ah w.heap.size (au r p) rfl ?_ ?_ ?_); rfl; exact k1);refine (jm B r p X col _ HS.out (RD.out.ext B1.out)).mono ?_;rintro e w2 ⟨p2, X2, col2, rfl, has2, hb2⟩;have HAS := hid has2;have B2 := hid (aj B1.out hb2);have K2c := hid (K2b.out.ext hb2);clear has2 hb2 k1 k2 K2b;have kf := aC.new w2 (au (iK r) p2) 31;have k2 := K2c.out.alloc (.cells (au (iK r) p2) 31)
 go_wp2_with (first
  | ((with_reducible refine dI (au r p2) rfl ?_ ?_ ?_ ?_ ?_); rfl; rfl; rfl; simp [Value.oneCell'])
  | ((with_reducible refine ah w2.heap.size (au (iK r) p2) rfl ?_ ?_ ?_); rfl; exact kf)
  | ((with_reducible refine af (w.heap.size + 1) bP (au (iK r) p2) rfl rfl ?_ ?_ ?_ ?_ ?_); rfl; rfl; exact k2; simp [Value.oneCell']))
 have hz := setRow_heap _ (w.heap.size + 1) _ (au (iK r) p2) _ _ k2;refine az (ty := 31) Try.results10 (w.heap.size + 1) (au (iK r) p2) _ ?_ ?_ hz Try.underlying31 rfl (by kernel_rfl) ?_
 ·rfl
 ·rfl
 rw [HN.out];exact ⟨p2, X2, _, rfl, (((HAS.out.rise.ext (ae (Below.refl _ _) _)).far SZ1.out _).lower (by have := SZ1.out; omega)), ay (ae B2.out _) (by omega) _⟩
end Go.Proofs.Ytjdceoimignnpaa
