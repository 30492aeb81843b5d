import Derived.Test.YtjdceoimignnpaaQ40
namespace Go.Proofs.Ytjdceoimignnpaa
open Go.ChangeShapes Go.WideShapes Go.ChangeAt Go.RowKit Go.Deep Go.Joins next
set_option linter.unusedVariables false
set_option linter.unusedSimpArgs false
set_option maxHeartbeats 32000000
set_option maxRecDepth 20000
variable {l : List Sl} {k : Nat} {s : Sl}
theorem not_fix_key (hs : l[k]? = some s) (h : numAtB 60 (keysF l) k = false) : fixOkB l = false := by
 unfold fixOkB;rw [not_nums_of (by rw [keysF_len]; exact (List.getElem?_eq_some_iff.1 hs).1) h, Bool.false_and]
theorem not_fix_text (hs : l[k]? = some s) (h : ¬ s.2.size ≤ 100) : fixOkB l = false := by
 unfold fixOkB;rw [not_all hs (decide_eq_false h), Bool.and_false]
theorem fix_of {n : Nat} (hn : l.length = n) (h1 : ∀ i, i < n → numAtB 60 (keysF l) i = true) (h2 : ∀ (i : Nat) s, i < n → l[i]? = some s → decide (s.2.size ≤ 100) = true) : fixOkB l = true := by
 unfold fixOkB;rw [nums_of (by rw [keysF_len, hn]) h1, allL_of hn h2, Bool.and_true]
set_option maxHeartbeats 8000000 in
theorem specWorldOk (d : Wd) (p : WdP) (w : World) (hS0 : WdSmall d) (h : WdAt w d p) :
  Calls Try.prog 97 #[.agg (wdV d p)] w fun e w' => e = .returned (.bool (worldOkB d)) ∧ Below w.heap.size w w' := by
 have hS : Hid (WdSmall d) := hS0;have l1 := hS0.lR;have l2 := hS0.lF;have l3 := hS0.lX;clear hS0;have hB : Below w.heap.size w (w.alloc (.cells (wdV d p) 116)) := ext_alloc (Below.refl _ _) _;have hR := h.ext hB;have b0 := Blk.new w (wdV d p) 116;clear h;cases hz : inB (d.recs.length : Int) 1 5
 ·go_enter Try.func97, Try.ntmps97;go_wp2_with (go_at_call 37; refine (l1In_any _ _ _ _).mono ?_; rintro e w' ⟨rfl, hw'⟩; subst w');go_ret;exact ⟨by unfold worldOkB; rw [hz]; rfl, hB⟩
 by_cases hf : d.fl.length ≤ 600
 ·go_enter Try.func97, Try.ntmps97;go_wp2_with (go_at_call 37; refine (l1In_any _ _ _ _).mono ?_; rintro e w' ⟨rfl, hw'⟩; subst w');go_loopw [4] (fun i wr => ∃ (k : Nat), k ≤ d.recs.length ∧ i = .int .i64 k ∧ (∀ (j : Nat) s, j < k → d.recs[j]? = some s → recB d.recs.length j s = true) ∧ Below (w.alloc (.cells (wdV d p) 116)).heap.size (w.alloc (.cells (wdV d p) 116)) wr) (fun i _ => d.recs.length - (intOf i).toNat);case atStart => exact ⟨0, Nat.zero_le _, rfl, fun j s hj => absurd hj (by omega), Below.refl _ _⟩
  case round =>
   obtain ⟨k, hk, rfl, hall0, hbel⟩ := hrel;have hall : Hid (∀ (j : Nat) s, j < k → d.recs[j]? = some s → recB d.recs.length j s = true) := hall0;clear hall0;have cb := (b0.ext hbel).cell;by_cases hlt : k < d.recs.length
   ·obtain ⟨s, hs0⟩ : ∃ s, d.recs[k]? = some s := ⟨_, List.getElem?_eq_getElem hlt⟩
    have hs : Hid (d.recs[k]? = some s) := hs0;obtain ⟨b, off, q, ha, hb, hcs0, hRs⟩ := (hR.ext hbel).hR k s hs0;obtain ⟨aR, cR, aF, cF, aX, cX⟩ := p;simp only at ha;subst ha;have hcs : Hid (wr.rangeAt b (off + k * 18) (rcV s q).toList) := hcs0;have hSm : Hid (RcSmall s) := hS.out.nR k s hs0;clear hs0 hcs0;have e1 : (0 : Int) ≤ (k : Int) := by omega
    have e2 : (k : Int) < (d.recs.length : Int) := by omega
    cases g3 : validB s
    ·go_wp2_with (first
      | ((with_reducible refine wpList_load_imid b (off + k * 18) (rcV s q) rfl ?_ ?_ ?_); (· rfl); (· exact hcs.out))
      | (go_at_call 11; refine (specValid s q _ hSm.out hRs).mono ?_; rintro e w' ⟨rfl, hb'⟩))
     go_ret;exact ⟨by unfold worldOkB; rw [not_recs rfl hs.out (by unfold recB; rw [g3]; rfl), Bool.and_false]; rfl, ext_trans (ext_trans hB hbel) hb'⟩
    ·by_cases g1 : s.num = (k : Int) + 1
     ·by_cases g2 : s.of_ = (d.recs.length : Int)
      ·go_wp2_with (first
        | ((with_reducible refine wpList_load_imid b (off + k * 18) (rcV s q) rfl ?_ ?_ ?_); (· rfl); (· exact hcs.out))
        | (go_at_call 11; refine (specValid s q _ hSm.out hRs).mono ?_; rintro e w' ⟨rfl, hb'⟩; have cb' := (b0.ext (ext_trans hbel hb')).cell; have c0 : w'.cell? ⟨b, off + k * 18, none⟩ = some (.int .i64 s.num) := (range_ext hcs.out hb' hb) 0 _ rfl; have c1 : w'.cell? ⟨b, off + k * 18 + 1, none⟩ = some (.int .i64 s.of_) := (range_ext hcs.out hb' hb) 1 _ rfl))
       go_roundw;case rel =>
        refine ⟨k + 1, by omega, by go_num, fun j t hj ht => ?_, ext_trans hbel hb'⟩;by_cases he : j = k
        ·subst he; rw [hs.out] at ht; simp only [Option.some.injEq] at ht; rw [← ht]; unfold recB; rw [g3, decide_eq_true g1, decide_eq_true g2]; rfl
        ·exact hall.out j t (by omega) ht
       case measure => simp [intOf]; omega
      ·go_wp2_with (first
        | ((with_reducible refine wpList_load_imid b (off + k * 18) (rcV s q) rfl ?_ ?_ ?_); (· rfl); (· exact hcs.out))
        | (go_at_call 11; refine (specValid s q _ hSm.out hRs).mono ?_; rintro e w' ⟨rfl, hb'⟩; have cb' := (b0.ext (ext_trans hbel hb')).cell; have c0 : w'.cell? ⟨b, off + k * 18, none⟩ = some (.int .i64 s.num) := (range_ext hcs.out hb' hb) 0 _ rfl; have c1 : w'.cell? ⟨b, off + k * 18 + 1, none⟩ = some (.int .i64 s.of_) := (range_ext hcs.out hb' hb) 1 _ rfl))
       go_ret;exact ⟨by unfold worldOkB; rw [not_recs rfl hs.out (by unfold recB; rw [decide_eq_false g2, Bool.and_false]), Bool.and_false]; rfl, ext_trans (ext_trans hB hbel) hb'⟩
     ·go_wp2_with (first
       | ((with_reducible refine wpList_load_imid b (off + k * 18) (rcV s q) rfl ?_ ?_ ?_); (· rfl); (· exact hcs.out))
       | (go_at_call 11; refine (specValid s q _ hSm.out hRs).mono ?_; rintro e w' ⟨rfl, hb'⟩; have cb' := (b0.ext (ext_trans hbel hb')).cell; have c0 : w'.cell? ⟨b, off + k * 18, none⟩ = some (.int .i64 s.num) := (range_ext hcs.out hb' hb) 0 _ rfl; have c1 : w'.cell? ⟨b, off + k * 18 + 1, none⟩ = some (.int .i64 s.of_) := (range_ext hcs.out hb' hb) 1 _ rfl))
      go_ret;exact ⟨by unfold worldOkB; rw [not_recs rfl hs.out (by unfold recB; rw [decide_eq_false g1, Bool.and_false, Bool.false_and]), Bool.and_false]; rfl, ext_trans (ext_trans hB hbel) hb'⟩
   ·have hrs : Hid (recsB d.recs = true) := recs_of rfl (fun i s hi hs => hall.out i s (by omega) hs);clear hall;go_wp2;go_loopw [5] (fun i wr => ∃ (k : Nat), k ≤ d.fl.length ∧ i = .int .i64 k ∧ (∀ (j : Nat) s, j < k → d.fl[j]? = some s → msgOkB s.1 d.recs.length s.2 = true) ∧ Below (w.alloc (.cells (wdV d p) 116)).heap.size (w.alloc (.cells (wdV d p) 116)) wr) (fun i _ => d.fl.length - (intOf i).toNat);case atStart => exact ⟨0, Nat.zero_le _, rfl, fun j s hj => absurd hj (by omega), hbel⟩
    case round =>
     clear hbel cb;obtain ⟨m, hm, rfl, hall0, hbel⟩ := hrel;have hall : Hid (∀ (j : Nat) s, j < m → d.fl[j]? = some s → msgOkB s.1 d.recs.length s.2 = true) := hall0;clear hall0;have cb := (b0.ext hbel).cell;by_cases hlt2 : m < d.fl.length
     ·obtain ⟨s, hs0⟩ : ∃ s, d.fl[m]? = some s := ⟨_, List.getElem?_eq_getElem hlt2⟩
      have hs : Hid (d.fl[m]? = some s) := hs0;obtain ⟨b, off, sa, cp, ha, hb, c0, c1, c2, c3, c4, c5, c6, c7, q1, q2, q3⟩ := (hR.ext hbel).hF m s hs0;obtain ⟨aR, cR, aF, cF, aX, cX⟩ := p;simp only at ha;subst ha;clear hs0;have e1 : (0 : Int) ≤ (m : Int) := by omega
      have e2 : (m : Int) < (d.fl.length : Int) := by omega
      cases g2 : msgOkB s.1 d.recs.length s.2
      ·go_wp2_with (go_at_call 26; refine (specMsgOk s.1 _ sa s.2 s.2.length cp _ rfl q2 q1 q3).mono ?_; rintro e w' ⟨rfl, hb'⟩);go_ret;exact ⟨by unfold worldOkB flB; rw [not_all hs.out g2]; simp, ext_trans (ext_trans hB hbel) hb'⟩
      ·go_wp2_with (go_at_call 26; refine (specMsgOk s.1 _ sa s.2 s.2.length cp _ rfl q2 q1 q3).mono ?_; rintro e w' ⟨rfl, hb'⟩);go_roundw;case rel =>
        refine ⟨m + 1, by omega, by go_num, fun j t hj ht => ?_, ext_trans hbel hb'⟩;by_cases he : j = m
        ·subst he; rw [hs.out] at ht; simp only [Option.some.injEq] at ht; rw [← ht]; exact g2
        ·exact hall.out j t (by omega) ht
       case measure => simp [intOf]; omega
     ·have hfs : Hid (flB d.recs.length d.fl = true) := by
       unfold Hid flB;rw [allL_of rfl (fun i s hi hs => hall.out i s (by omega) hs), decide_eq_true hf];rfl
      clear hall;go_wp2;go_loopw [6] (fun i wr => ∃ (k : Nat), k ≤ d.fx.length ∧ i = .int .i64 k ∧ (∀ j, j < k → numAtB 60 (keysF d.fx) j = true) ∧ (∀ (j : Nat) s, j < k → d.fx[j]? = some s → decide (s.2.size ≤ 100) = true) ∧ Below (w.alloc (.cells (wdV d p) 116)).heap.size (w.alloc (.cells (wdV d p) 116)) wr) (fun i _ => d.fx.length - (intOf i).toNat);case atStart => exact ⟨0, Nat.zero_le _, rfl, fun j hj => absurd hj (by omega), fun j s hj => absurd hj (by omega), hbel⟩
      case round =>
       clear hbel cb;obtain ⟨v, hv, rfl, hall0, hall1, hbel⟩ := hrel;have hall : Hid ((∀ j, j < v → numAtB 60 (keysF d.fx) j = true) ∧ (∀ (j : Nat) s, j < v → d.fx[j]? = some s → decide (s.2.size ≤ 100) = true)) := ⟨hall0, hall1⟩
       clear hall0 hall1;have cb := (b0.ext hbel).cell;by_cases hlt3 : v < d.fx.length
       ·obtain ⟨s, hs0⟩ : ∃ s, d.fx[v]? = some s := ⟨_, List.getElem?_eq_getElem hlt3⟩
        have hs : Hid (d.fx[v]? = some s) := hs0;have hX := (hR.ext hbel).hX;obtain ⟨b, off, ha, hb, c0, c1, q1, q2⟩ := hX v s hs0;obtain ⟨aR, cR, aF, cF, aX, cX⟩ := p;simp only at ha;subst ha;clear hs0;unfold maxLen at q1;have e1 : (0 : Int) ≤ (v : Int) := by omega
        have e2 : (v : Int) < (d.fx.length : Int) := by omega
        cases g1 : inB s.1 1 60
        ·go_wp2_with fail
         go_quiet (first | (go_at_call 37; exact Calls.quiet_of_same (l1In_any _ _ _ _)))
         go_wp2;go_ret;exact ⟨by unfold worldOkB; rw [not_fix_key hs.out (numAt_in (keysF_at hs.out) g1), Bool.and_false]; rfl, ext_trans hB (below_drewN hbel _)⟩
        ·by_cases hx : s.2.size ≤ 100
         ·have hx1 : decide ((100 : Int) < (s.2.size : Int)) = false := decide_eq_false (by omega);by_cases hk0 : 0 < v
          ·obtain ⟨y, hs1⟩ : ∃ s, d.fx[v-1]? = some s := ⟨_, List.getElem?_eq_getElem (by omega)⟩
           have hp : Hid (d.fx[v-1]? = some y) := hs1;obtain ⟨b', off', e, hb', d0, d1, _⟩ := hX (v-1) y hs1;simp only [Option.some.injEq, Addr.mk.injEq, and_true] at e;obtain ⟨rfl, rfl⟩ := e;clear hs1;have u1 : (0 : Int) < (v : Int) := by omega
           have u2 : decide ((0 : Int) < (v : Int)) = true := decide_eq_true u1;have u3 : (0 : Int) ≤ (v : Int) - 1 := by omega
           have u4 : (v : Int) - 1 < (d.fx.length : Int) := by omega
           have u5 : ((v : Int) - 1).toNat = v - 1 := by omega
           by_cases hy : y.1 < s.1
           ·have u6 : decide (s.1 ≤ y.1) = false := decide_eq_false (by omega);go_wp2_with fail
            go_quiet (first | (go_at_call 37; exact Calls.quiet_of_same (l1In_any _ _ _ _)))
            go_wp2;go_roundw;case rel =>
             refine ⟨v + 1, by omega, by go_num, fun j hj => ?_, fun j t hj ht => ?_, below_drewN hbel _⟩
             ·by_cases he : j = v
              ·rw [he]; exact numAt_yes (keysF_at hs.out) (keysF_at hp.out) g1 hy
              ·exact hall.out.1 j (by omega)
             ·by_cases he : j = v
              ·subst he; rw [hs.out] at ht; simp only [Option.some.injEq] at ht; rw [← ht]; exact decide_eq_true hx
              ·exact hall.out.2 j t (by omega) ht
            case measure => simp [intOf]; omega
           ·have u6 : decide (s.1 ≤ y.1) = true := decide_eq_true (by omega);go_wp2_with fail
            go_quiet (first | (go_at_call 37; exact Calls.quiet_of_same (l1In_any _ _ _ _)))
            go_wp2;go_ret;exact ⟨by unfold worldOkB; rw [not_fix_key hs.out (numAt_no hk0 (keysF_at hs.out) (keysF_at hp.out) (by omega)), Bool.and_false]; rfl, ext_trans hB (below_drewN hbel _)⟩
          ·have u2 : decide ((0 : Int) < (v : Int)) = false := decide_eq_false (by omega);go_wp2_with fail
           go_quiet (first | (go_at_call 37; exact Calls.quiet_of_same (l1In_any _ _ _ _)))
           go_wp2;go_roundw;case rel =>
            have hk9 : v = 0 := by omega
            have h9 := hs.out;rw [hk9] at h9;refine ⟨v + 1, by omega, by go_num, fun j hj => ?_, fun j t hj ht => ?_, below_drewN hbel _⟩
            ·have hj9 : j = 0 := by omega
             rw [hj9]; exact numAt_first (keysF_at h9) g1
            ·have hj9 : j = 0 := by omega
             rw [hj9, h9] at ht; simp only [Option.some.injEq] at ht; rw [← ht]; exact decide_eq_true hx
           case measure => simp [intOf]; omega
         ·have hx1 : decide ((100 : Int) < (s.2.size : Int)) = true := decide_eq_true (by omega);go_wp2_with fail
          go_quiet (first | (go_at_call 37; exact Calls.quiet_of_same (l1In_any _ _ _ _)))
          go_wp2;go_ret;exact ⟨by unfold worldOkB; rw [not_fix_text hs.out hx, Bool.and_false]; rfl, ext_trans hB (below_drewN hbel _)⟩
       ·go_wp2;go_ret;exact ⟨by unfold worldOkB; rw [hz, hrs.out, hfs.out, fix_of rfl (fun i hi => hall.out.1 i (by omega)) (fun i s hi hs => hall.out.2 i s (by omega) hs)]; rfl, ext_trans hB hbel⟩
 ·go_enter Try.func97, Try.ntmps97;go_wp2_with (go_at_call 37; refine (l1In_any _ _ _ _).mono ?_; rintro e w' ⟨rfl, hw'⟩; subst w');go_ret;exact ⟨by unfold worldOkB flB; rw [decide_eq_false hf]; simp, hB⟩
theorem wpList_store_w3b {ops : Array Oper} {rest : List Oper} {dst : Option Tmp} {x y : Operand} {τ : TypeId} {pos : String} {after : Array Edge} {a : Act} {w0 : World} {c : Array Value} {Q : Exit → Act → World → Prop}
  (cells : Array Value) (hs : cells.size = 3) (hx : a.eval x = .pointer (some ⟨w0.heap.size, 0, none⟩)) (hy : a.eval y = .agg cells) (hc : c.size = 3) (h1 : cells.all (·.oneCell') = true)
  (h : wpList Try.prog ops Q rest (a.put dst undef) (w0.alloc (.cells cells 116))) :
  wpList Try.prog ops Q ({ dst := dst, op := .store 116 x y, type := τ, pos := pos, after := after, guard := none } :: rest) a (w0.alloc (.cells c 116)) :=
 wpList_store_last cells hx hy (by rw [hs]; kernel_rfl) (by rw [hc, hs]) h1 h
def CaP (w : World) (n : Nat) (e : Ending) (w' : World) : Prop := ∃ d' p' J H', e = .returned (.agg (wdV d' p')) ∧ WM w.heap.size w' d' p' J H' ∧ d'.recs.length = n ∧ Below w.heap.size w w'
theorem specCalmW (B : Nat) (d : Wd) (p : WdP) (I : List RcI) (H : List Mp) (k : Int) (w : World) (h : WM B w d p I H) :
  Calls Try.prog 89 #[.agg (wdV d p), .int .i64 k] w (CaP w d.recs.length) := by
 obtain ⟨n, hn⟩ : ∃ n, n = d.recs.length := ⟨_, rfl⟩
 have LEN0 := hid hn.symm;rw [← hn];clear hn;have OK := hid h.ok;have SM := hid (wk_small (wk_iff.1 h.ok));obtain ⟨V, hV⟩ : ∃ V, V = (w.alloc (.cells (wdV d p) 116)).alloc (.cells zW 116) := ⟨_, rfl⟩
 have BV := hid (show Below w.heap.size w V by rw [hV]; exact ext_alloc (ext_alloc (Below.refl _ _) _) _);have K0 := hid (show Blk V w.heap.size (wdV d p) 116 by rw [hV]; exact (Blk.new _ _ _).alloc _);have Z0 := hid (show Blk V (w.heap.size + 1) zW 116 by rw [hV]; exact Blk.new' _ _ (by simp));have M0 := hid (h.ext BV.out);clear h;have k0 := K0.out;rw [hV] at k0;go_enter Try.func89, Try.ntmps89;go_wp2_with ((with_reducible refine wpList_load_w3 (w.heap.size) (wdV d p) rfl ?_ ?_ ?_); (· rfl); (· exact k0));rw [← hV];clear hV k0;refine (specWorldOk d p V SM.out M0.out.at).mono ?_;rintro e w1 ⟨rfl, hb1⟩;rw [OK.out];have M1 := hid (M0.out.ext hb1);have B1 := hid hb1;have k1 := K0.out.ext hb1;clear hb1;go_wp2_with ((with_reducible refine wpList_load_w3 (w.heap.size) (wdV d p) rfl ?_ ?_ ?_); (· rfl); (· exact k1));clear k1;refine (specCopyW B d p I H w1 M1.out).mono ?_;rintro e w2 ⟨p2, J2, H2, rfl, m2, hb2⟩;have M2 := hid (show WM V.heap.size w2 d p2 J2 H2 from m2.low B1.out.size);have B2 := hid (ext_trans B1.out hb2);clear m2 hb2 M1 B1;obtain ⟨g5, hg5⟩ : ∃ g, g = w2.heap.size := ⟨_, rfl⟩
 obtain ⟨W3, hW3⟩ : ∃ u, u = w2.alloc (.cells (wdV d p2) 116) := ⟨_, rfl⟩
 have S3 := hid (show ∃ J, WB V.heap.size V d p2 J H2 [(g5, 116, wdV d p2)] W3 from ⟨_, by
  rw [hW3, hg5]
  exact (WB.mk M2.out B2.out (Nat.le_refl _) (fun u hu => absurd hu (by simp)) : WB V.heap.size V d p2 J2 H2 [] w2).boxes1 (ext_alloc (Below.refl _ _) _) (Blk.new _ _ _) (Nat.le_refl _) oddW⟩)
 go_wp2_with ((with_reducible refine wpList_store_w3b (wdV d p2) rfl ?_ ?_ ?_ ?_ ?_); (· rfl); (· rfl); (· rfl); (· simp [Value.oneCell']));rw [← hg5, ← hW3];clear hg5 hW3 M2 B2;go_loopw [6, 7] (fun s6 _ wr => ∃ (i : Nat) (d1 : Wd) (p1 : WdP) (J1 : List RcI) (H1 : List Mp), i ≤ 1000 ∧ s6 = .int .i64 i ∧ d1.recs.length = n ∧ WB V.heap.size V d1 p1 J1 H1 [(g5, 116, wdV d1 p1)] wr) (fun s6 _ _ => 1000 - (intOf s6).toNat);case atStart =>
  obtain ⟨J, hJ⟩ := S3.out;exact ⟨0, d, p2, J, H2, Nat.zero_le _, rfl, LEN0.out, hJ⟩
 obtain ⟨i, d1, p1, J1, H1, hi, rfl, hl1, hss⟩ := hrel
 rename World => wo
 have S1 := hid hss;have LEN1 := hid hl1;clear hss S3 hl1;have hend : Hid (((i : Int) < k ∧ i < 1000) ∨ ¬ ((i : Int) < k) ∨ ((i : Int) < k ∧ ¬ i < 1000)) := hid (by omega);rcases hend.out with ⟨hk, hi1⟩ | hout
 ·clear hend;have u1 : decide ((i : Int) < k) = true := decide_eq_true hk;have e1 : (i : Int) < 1000 := by omega
  have e9 : IntKind.i64.wrap ((i : Int) + 1) = (i : Int) + 1 := by go_arith
  have kW := (S1.out.x _ (.head _)).1;go_wp2_with ((with_reducible refine wpList_load_w3 (g5) (wdV d1 p1) rfl ?_ ?_ ?_); (· rfl); (· exact kW));clear kW;refine (specTickW V.heap.size d1 p1 J1 H1 _ wo S1.out.self).mono ?_;rintro e w4 ⟨d2, p2', J2, H4, rfl, g4, n4⟩;have kW := (g4.x _ (.head _)).1;have S4 := hid (show WB V.heap.size V d2 p2' J2 H4 [(g5, 116, wdV d2 p2')] (w4.setRow g5 (wdV d2 p2')) from (S1.out.then g4).top (fun b hb => setRow_other _ _ _ _ hb) (setRow_heap _ g5 _ _ _ _ kW) (below_setRow' (Below.refl _ _) (g4.x _ (.head _)).2.1 _) (fun u hu => absurd hu (by simp)));have LEN2 := hid (n4.trans LEN1.out);have LF := hid (show d2.fl.length = H4.length by rw [← g4.m.fm, List.length_map]);have F6 := hid (show H4.length ≤ 600 by have := (wk_iff.1 g4.m.ok).fl; have := LF.out; omega);have cW := (S4.out.x _ (.head _)).1.cell;clear g4 n4 S1
  go_upto_block 2 with ((with_reducible refine wpList_store_w3 (g5) (wdV d1 p1) (wdV d2 p2') rfl rfl ?_ ?_ ?_ ?_ ?_); (· rfl); (· rfl); (· exact kW); (· simp [Value.oneCell']))
  obtain ⟨w5, hw5⟩ : ∃ u, u = w4.setRow g5 (wdV d2 p2') := ⟨_, rfl⟩
  rw [← hw5] at S4 ⊢;clear kW cW hw5;rw [LF.out];go_wp2_with fail;go_loopw [7] (fun s7 wr => ∃ (d5 : Wd) (p5 : WdP) (J5 : List RcI) (H5 : List Mp), H5.length ≤ 600 ∧ s7 = .int .i64 (H5.length : Int) ∧ d5.recs.length = n ∧ WB V.heap.size V d5 p5 J5 H5 [(g5, 116, wdV d5 p5)] wr) (fun s7 _ => (intOf s7).toNat);case atStart => exact ⟨d2, p2', J2, H4, F6.out, rfl, LEN2.out, S4.out⟩
  obtain ⟨d5, p5, J5, H5, hh, rfl, hl5, hss⟩ := hrel;have S5 := hid hss;obtain ⟨wn, hwn⟩ : ∃ v : World, v = wr := ⟨_, rfl⟩
  subst hwn;clear hss S4;by_cases h0 : 0 < H5.length
  ·have e3 : (0 : Int) < (H5.length : Int) := by omega
   have u3 : decide ((0 : Int) < (H5.length : Int)) = true := decide_eq_true e3;have e8 : IntKind.i64.wrap ((H5.length : Int) - 1) = (H5.length : Int) - 1 := by go_arith
   have kW := (S5.out.x _ (.head _)).1;go_wp2_with ((with_reducible refine wpList_load_w3 (g5) (wdV d5 p5) rfl ?_ ?_ ?_); (· rfl); (· exact kW));clear kW;refine (specBring V.heap.size d5 p5 J5 H5 0 _ wn S5.out.self h0).mono ?_;rintro e w6 ⟨d6, p6, J6, rfl, g6, n6⟩;have kW := (g6.x _ (.head _)).1;obtain ⟨H6, hH6⟩ : ∃ L, L = H5.take 0 ++ H5.drop (0 + 1) := ⟨_, rfl⟩
   have HL := hid (show H6.length + 1 = H5.length by rw [hH6]; simp; omega);rw [← hH6] at g6;have S6 := hid (show WB V.heap.size V d6 p6 J6 H6 [(g5, 116, wdV d6 p6)] (w6.setRow g5 (wdV d6 p6)) from (S5.out.then g6).top (fun b hb => setRow_other _ _ _ _ hb) (setRow_heap _ g5 _ _ _ _ kW) (below_setRow' (Below.refl _ _) (g6.x _ (.head _)).2.1 _) (fun u hu => absurd hu (by simp)));have LEN6 := hid (n6.trans hl5);clear g6 n6 hH6 S5;go_wp2_with ((with_reducible refine wpList_store_w3 (g5) (wdV d5 p5) (wdV d6 p6) rfl rfl ?_ ?_ ?_ ?_ ?_); (· rfl); (· rfl); (· exact kW); (· simp [Value.oneCell']));go_roundw;case rel => exact ⟨d6, p6, J6, H6, by have := HL.out; omega, by rw [show (H5.length : Int) - 1 = (H6.length : Int) by have := HL.out; omega], LEN6.out, S6.out⟩
   case measure => simp [intOf]; omega
  have e3 : ¬ (0 : Int) < (H5.length : Int) := by omega
  have u3 : decide ((0 : Int) < (H5.length : Int)) = false := decide_eq_false e3;go_wp2_with fail;go_roundw;case rel => exact ⟨i + 1, d5, p5, J5, H5, by omega, by go_num, hl5, S5.out⟩
  case measure => simp [intOf]; omega
 clear hend;have kW := (S1.out.x _ (.head _)).1;have fin : Hid (∀ a : Act, True) := hid fun _ => trivial
 rcases hout with hk | ⟨hk, hi1⟩
 ·have u1 : decide ((i : Int) < k) = false := decide_eq_false hk;go_wp2_with ((with_reducible refine wpList_load_w3 (g5) (wdV d1 p1) rfl ?_ ?_ ?_); (· rfl); (· exact kW));clear kW fin;refine (specCopyW V.heap.size d1 p1 J1 H1 wo S1.out.m).mono ?_;rintro e w7 ⟨p7, J7, H7, rfl, m7, hb7⟩;have kz := (Z0.out.ext S1.out.b).ext hb7;go_wp2_with ((with_reducible refine wpList_store_w3 (w.heap.size + 1) zW (wdV d1 p7) rfl rfl ?_ ?_ ?_ ?_ ?_); (· rfl); (· rfl); (· exact kz); (· simp [Value.oneCell']));have hz := setRow_heap _ (w.heap.size + 1) _ (wdV d1 p7) _ _ kz;refine ret_cell (ty := 116) Try.results89 (w.heap.size + 1) (wdV d1 p7) _ ?_ ?_ hz Try.underlying116 rfl (by kernel_rfl) ?_
  ·rfl
  ·rfl
  have vz : w.heap.size + 1 < V.heap.size := Z0.out.lt;have wz : V.heap.size ≤ wo.heap.size := S1.out.low;exact ⟨_, _, _, _, rfl, (m7.same fun b hB hlt => setRow_other _ _ _ _ (by omega)).low (by omega), LEN1.out, below_setRow' ((BV.out.trans (S1.out.b.mono (by omega))).trans (hb7.mono (by omega))) (by omega) _⟩
 have u1 : decide ((i : Int) < k) = true := decide_eq_true hk;have e1 : ¬ (i : Int) < 1000 := by omega
 go_wp2_with ((with_reducible refine wpList_load_w3 (g5) (wdV d1 p1) rfl ?_ ?_ ?_); (· rfl); (· exact kW));clear kW fin;refine (specCopyW V.heap.size d1 p1 J1 H1 wo S1.out.m).mono ?_;rintro e w7 ⟨p7, J7, H7, rfl, m7, hb7⟩;have kz := (Z0.out.ext S1.out.b).ext hb7;go_wp2_with ((with_reducible refine wpList_store_w3 (w.heap.size + 1) zW (wdV d1 p7) rfl rfl ?_ ?_ ?_ ?_ ?_); (· rfl); (· rfl); (· exact kz); (· simp [Value.oneCell']));have hz := setRow_heap _ (w.heap.size + 1) _ (wdV d1 p7) _ _ kz;refine ret_cell (ty := 116) Try.results89 (w.heap.size + 1) (wdV d1 p7) _ ?_ ?_ hz Try.underlying116 rfl (by kernel_rfl) ?_
 ·rfl
 ·rfl
 have vz : w.heap.size + 1 < V.heap.size := Z0.out.lt;have wz : V.heap.size ≤ wo.heap.size := S1.out.low;exact ⟨_, _, _, _, rfl, (m7.same fun b hB hlt => setRow_other _ _ _ _ (by omega)).low (by omega), LEN1.out, below_setRow' ((BV.out.trans (S1.out.b.mono (by omega))).trans (hb7.mono (by omega))) (by omega) _⟩
end Go.Proofs.Ytjdceoimignnpaa
