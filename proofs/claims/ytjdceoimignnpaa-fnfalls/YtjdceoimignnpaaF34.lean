import Derived.Test.YtjdceoimignnpaaF33
namespace Go.Proofs.Ytjdceoimignnpaa
open Go.ChangeShapes Go.WideShapes Go.ChangeAt Go.RowKit Go.Deep Go.Joins next
set_option linter.unusedVariables false
set_option linter.unusedSimpArgs false
variable {d : Wd}
set_option maxHeartbeats 8000000 in
set_option maxRecDepth 20000 in
theorem Ee (d : Wd) (p : kV) (ix : Int) (w : World) (hS0 : uC d) (hpos0 : zg d.recs) (h : Ef w d p) :
  Calls Try.prog 107 #[.agg (bQ d p), .int .i64 ix] w fun e w' => e = .returned (.tuple #[.string (xW d.recs ix).1, .bool (xW d.recs ix).2]) ∧ Below w.heap.size w w' := by
 have hS : Hid (uC d) := hS0;have hpos : Hid (zg d.recs) := hpos0;have l1 := hS0.lR;clear hS0 hpos0;have hB : Below w.heap.size w (w.alloc (.cells (bQ d p) 116)) := ae (Below.refl _ _) _;have hR := h.ext hB;have b0 := aC.new w (bQ d p) 116;clear h;obtain ⟨aR, cR, aF, cF, aX, cX⟩ := p;go_enter Try.func107, Try.ntmps107;go_wp2;go_loopw [6] (fun i wr => ∃ (k : Nat), k ≤ d.recs.length ∧ i = .int .i64 k ∧ (∀ (j : Nat) r s, j < k → d.recs[j]? = some r → iR r ix = some s → ¬ ul d.recs ix s) ∧ Below (w.alloc (.cells (bQ d ⟨aR, cR, aF, cF, aX, cX⟩) 116)).heap.size (w.alloc (.cells (bQ d ⟨aR, cR, aF, cF, aX, cX⟩) 116)) wr) (fun i _ => d.recs.length - (intOf i).toNat);case atStart => exact ⟨0, Nat.zero_le _, rfl, fun j r s hj => absurd hj (by omega), Below.refl _ _⟩
 case round =>
  rename World => wo
  obtain ⟨k, hk, rfl, hall0, hbel⟩ := hrel;have hall : Hid (∀ (j : Nat) r s, j < k → d.recs[j]? = some r → iR r ix = some s → ¬ ul d.recs ix s) := hall0;clear hall0;have cb := (b0.ext hbel).cell;by_cases hlt : k < d.recs.length
  ·obtain ⟨r, hr0⟩ : ∃ s, d.recs[k]? = some s := ⟨_, List.getElem?_eq_getElem hlt⟩
   have hr : Hid (d.recs[k]? = some r) := hr0;obtain ⟨b, off, q, ha, hb, hcs0, hRs⟩ := (hR.ext hbel).hR k r hr0;simp only at ha;subst ha;have hSm := (hS.out.nR k r hr0).lS;have c3 : wo.cell? ⟨b, off + k * 18 + 3, none⟩ = some (.int .i64 r.sp) := hcs0 3 _ rfl;have c4 : wo.cell? ⟨b, off + k * 18 + 3 + 1, none⟩ = some (.int .i64 r.sk) := hcs0 4 _ rfl;have c5 : wo.cell? ⟨b, off + k * 18 + 3 + 2, none⟩ = some (.slice q.aS r.ss.length q.cS) := hcs0 5 _ rfl;clear hr0 hcs0;have e1 : (0 : Int) ≤ (k : Int) := by omega
   have e2 : (k : Int) < (d.recs.length : Int) := by omega
   by_cases hi1 : ix < 1
   ·go_wp2;go_roundw;case rel =>
     refine ⟨k + 1, by omega, by go_num, fun j r' s hj hr' hs => ?_, ae hbel _⟩;by_cases he : j = k
     ·rw [rU (by omega)] at hs; cases hs
     ·exact hall.out j r' s (by omega) hr' hs
    case measure => simp [intOf]; omega
   ·by_cases hi2 : ix ≤ (r.ss.length : Int)
    ·obtain ⟨s, hs0⟩ : ∃ s, r.ss[(ix - 1).toNat]? = some s := ⟨_, List.getElem?_eq_getElem (by omega)⟩
     obtain ⟨b2, off2, ha2, hb2, d0, d1, q1, q2⟩ := hRs.hS _ s hs0;have hsl : Hid (iR r ix = some s) := yc (by omega) hi2 hs0;have hp0 := hpos.out k r hr.out _ s hs0;have u3 : (0 : Int) ≤ ix - 1 := by omega
     have u4 : ix - 1 < (r.ss.length : Int) := by omega
     have e9 : (ix - 1).toNat = ix.toNat - 1 := by omega
     rw [e9] at d0 d1;clear hs0 e9;have u7 : decide ((r.ss.length : Int) < ix) = false := decide_eq_false (by omega);by_cases hz : s.1 = 0
     ·rw [ha2] at c5;go_wp2;go_roundw;case rel =>
       refine ⟨k + 1, by omega, by go_num, fun j r' s' hj hr' hs => ?_, ae hbel _⟩;by_cases he : j = k
       ·subst he;rw [hr.out] at hr';simp only [Option.some.injEq] at hr';subst hr';rw [hsl.out] at hs;simp only [Option.some.injEq] at hs;subst hs;exact fun hm => absurd hm.1 (by omega)
       ·exact hall.out j r' s' (by omega) hr' hs
      case measure => simp [intOf]; omega
     ·rw [ha2] at c5;have u9 : (s.1 == 0) = false := beq_false_of_ne hz;have B1 : Below wo.heap.size wo (wo.alloc (.cells #[.int .i64 r.sp, .int .i64 r.sk, .slice (some ⟨b2, off2, none⟩) r.ss.length q.cS] 25)) := ae (Below.refl _ _) _;have q1b := aC.new wo #[.int .i64 r.sp, .int .i64 r.sk, .slice (some ⟨b2, off2, none⟩) r.ss.length q.cS] 25;have hb2' : b2 < (wo.alloc (.cells #[.int .i64 r.sp, .int .i64 r.sk, .slice (some ⟨b2, off2, none⟩) r.ss.length q.cS] 25)).heap.size := Nat.lt_of_lt_of_le hb2 B1.size;have dd0 := (B1.cell (p := ⟨b2, off2 + (ix.toNat - 1) * 2, none⟩) hb2).trans d0;have dd1 := (B1.cell (p := ⟨b2, off2 + (ix.toNat - 1) * 2 + 1, none⟩) hb2).trans d1;go_wp2;clear c3 c4 c5 cb d0 d1;go_loopw [8, 9] (fun c i wr => ∃ (m : Nat), m ≤ d.recs.length ∧ i = .int .i64 m ∧ c = .int .i64 (og (d.recs.take m) ix s : Int) ∧ Below (wo.alloc (.cells #[.int .i64 r.sp, .int .i64 r.sk, .slice (some ⟨b2, off2, none⟩) r.ss.length q.cS] 25)).heap.size (wo.alloc (.cells #[.int .i64 r.sp, .int .i64 r.sk, .slice (some ⟨b2, off2, none⟩) r.ss.length q.cS] 25)) wr) (fun _ i _ => d.recs.length - (intOf i).toNat);case atStart => exact ⟨0, Nat.zero_le _, rfl, by simp [og], Below.refl _ _⟩
      case round =>
       obtain ⟨m, hm, rfl, rfl, hbel2⟩ := hrel;have BA := aj (aj hbel B1) hbel2;have cb2 := (b0.ext BA).cell;have dk := (q1b.ext hbel2).cell;have g0 := (hbel2.cell (p := ⟨b2, off2 + (ix.toNat - 1) * 2, none⟩) hb2').trans dd0;have g1 := (hbel2.cell (p := ⟨b2, off2 + (ix.toNat - 1) * 2 + 1, none⟩) hb2').trans dd1;have hcl := Jm d.recs ix s m;by_cases hlt2 : m < d.recs.length
       ·obtain ⟨r2, hr20⟩ : ∃ s, d.recs[m]? = some s := ⟨_, List.getElem?_eq_getElem hlt2⟩
        have hr2 : Hid (d.recs[m]? = some r2) := hr20;obtain ⟨b', off', q', ha', hb', hcs', hRs'⟩ := (hR.ext BA).hR m r2 hr20;simp only [Option.some.injEq, Addr.mk.injEq, and_true] at ha';obtain ⟨rfl, rfl⟩ := ha';have hSm' := (hS.out.nR m r2 hr20).lS;have c3 : wr.cell? ⟨b, off + m * 18 + 3, none⟩ = some (.int .i64 r2.sp) := hcs' 3 _ rfl;have c4 : wr.cell? ⟨b, off + m * 18 + 3 + 1, none⟩ = some (.int .i64 r2.sk) := hcs' 4 _ rfl;have c5 : wr.cell? ⟨b, off + m * 18 + 3 + 2, none⟩ = some (.slice q'.aS r2.ss.length q'.cS) := hcs' 5 _ rfl;clear hr20 hcs';have e3 : (0 : Int) ≤ (m : Int) := by omega
        have e4 : (m : Int) < (d.recs.length : Int) := by omega
        by_cases hi3 : ix ≤ (r2.ss.length : Int)
        ·have v7 : decide (ix ≤ (r2.ss.length : Int)) = true := decide_eq_true hi3;obtain ⟨s2, hs20⟩ : ∃ s, r2.ss[(ix - 1).toNat]? = some s := ⟨_, List.getElem?_eq_getElem (by omega)⟩
         obtain ⟨b3, off3, ha3, hb3, f0, f1, q3, q4⟩ := hRs'.hS _ s2 hs20;have hsl2 : Hid (iR r2 ix = some s2) := yc (by omega) hi3 hs20;have e9 : (ix - 1).toNat = ix.toNat - 1 := by omega
         rw [e9] at f0 f1;clear hs20;rw [ha3] at c5;have v4 : ix - 1 < (r2.ss.length : Int) := by omega
         have v8 : IntKind.i64.wrap (ix - 1) = ix - 1 := by go_arith
         have hwo := (q1b.ext hbel2).lt;have hb2w := Nat.lt_of_lt_of_le hb2' hbel2.size;by_cases hx1 : s2.1 = s.1
         ·by_cases hx2 : s2.2 = s.2
          ·have hx : s2 = s := Prod.ext hx1 hx2;subst hx;go_wp2_with fail
           go_quiet (fail)
           go_wp2;go_roundw;case rel => exact ⟨m + 1, by omega, by go_num, by rw [Jg hr2.out hsl2.out]; go_num, below_drewN (ae hbel2 _) _⟩
           case measure => simp [intOf]; omega
          ·have x2 : (s2.2.toList == s.2.toList) = false := by rw [← beq_toListBytes]; exact Bool.eq_false_iff.2 (fun h => hx2 ((MapKept.bytes_beq _ _).1 h))
           have x1 : (s2.1 == s.1) = true := by rw [hx1]; simp
           clear hx1;go_wp2_with fail
           go_quiet (fail)
           go_wp2;go_roundw;case rel => exact ⟨m + 1, by omega, by go_num, by rw [BG hr2.out (by rw [hsl2.out]; intro h; exact hx2 (congrArg Prod.snd (Option.some.inj h)))], below_drewN (ae hbel2 _) _⟩
           case measure => simp [intOf]; omega
         ·have x1 : (s2.1 == s.1) = false := beq_false_of_ne hx1;go_wp2_with fail
          go_quiet (fail)
          go_wp2;go_roundw;case rel => exact ⟨m + 1, by omega, by go_num, by rw [BG hr2.out (by rw [hsl2.out]; intro h; exact hx1 (congrArg Prod.fst (Option.some.inj h)))], below_drewN (ae hbel2 _) _⟩
          case measure => simp [intOf]; omega
        ·have v7 : decide (ix ≤ (r2.ss.length : Int)) = false := decide_eq_false hi3;go_wp2_with fail
         go_quiet (fail)
         go_wp2;go_roundw;case rel => exact ⟨m + 1, by omega, by go_num, by rw [BG hr2.out (by rw [rU (by omega)]; simp)], below_drewN (ae hbel2 _) _⟩
         case measure => simp [intOf]; omega
       ·have hmm : m = d.recs.length := by omega
        have hcf : og (d.recs.take m) ix s = og d.recs ix s := by rw [hmm, Iu]
        by_cases hmaj : d.recs.length < 2 * og (d.recs.take m) ix s
        ·go_wp2;have hyes := DL (FN hr.out hsl.out ⟨by omega, by rw [← hcf]; exact hmaj⟩);exact bodyPost_ret (v := .tuple #[.string s.2, .bool true]) (by simp [results, Try.results107, go_sem]) rfl ⟨by rw [hyes], aj hB BA⟩
        ·go_wp2;go_roundw;case rel =>
          refine ⟨k + 1, by omega, by go_num, fun j r' s' hj hr' hs => ?_, BA⟩;by_cases he : j = k
          ·subst he;rw [hr.out] at hr';simp only [Option.some.injEq] at hr';subst hr';rw [hsl.out] at hs;simp only [Option.some.injEq] at hs;subst hs;exact fun hm => hmaj (by rw [hcf]; exact hm.2)
          ·exact hall.out j r' s' (by omega) hr' hs
         case measure => simp [intOf]; omega
    ·go_wp2;go_roundw;case rel =>
      refine ⟨k + 1, by omega, by go_num, fun j r' s hj hr' hs => ?_, ae hbel _⟩;by_cases he : j = k
      ·subst he;rw [hr.out] at hr';simp only [Option.some.injEq] at hr';subst hr';rw [rU (by omega)] at hs; cases hs
      ·exact hall.out j r' s (by omega) hr' hs
     case measure => simp [intOf]; omega
  ·go_wp2;have hno := Fg (Gh fun j r s hr hs => hall.out j r s (by have := (List.getElem?_eq_some_iff.1 hr).1; omega) hr hs);exact bodyPost_ret (v := .tuple #[.string ⟨#[]⟩, .bool false]) (by simp [results, Try.results107, go_sem]) rfl ⟨by rw [hno], aj hB hbel⟩
theorem lu {r : Rc} (v : VR r) : bD r := by
 have hv := qf (fA.2 v);have s := v.s.lk.n;have d := v.d.lk.n;have h := v.h.n;have w := v.w.n;refine ⟨by omega, by omega, by omega, by omega, by omega, by omega, by omega, fun i m hm => ?_, fun i a ha => ?_⟩
 ·have := (pg.1 (v.h.m m (List.mem_of_getElem? hm)).2).l.n;omega
 ·have := hv.2.1 a (List.mem_of_getElem? ha);omega
theorem tu (k : WK d) : uC d := by
 have n5 := k.n5;have fl := k.fl;refine ⟨by omega, fun i r hr => lu (k.r i r hr).1, by omega, fun i m hm => ?_, ?_⟩
 ·have := (pg.1 (k.fm m (List.mem_of_getElem? hm))).l.n;omega
 ·have h1 := lq (uD.2 k.fk) (by omega);rw [qX] at h1;omega
theorem Kt (k : WK d) : zg d.recs := fun i r hr j s hs => ((k.r i r hr).1.s.lk.s s (List.mem_of_getElem? hs)).b0
theorem Gw (k : WK d) (ix : Int) : (xW d.recs ix).1.size ≤ 100 := by
 unfold xW;split
 ·rename_i t ht;unfold qw at ht;simp only [Option.bind_eq_some_iff, Option.map_eq_some_iff] at ht;obtain ⟨r, hr, s, hs, rfl⟩ := ht;obtain ⟨i, hi⟩ := List.getElem?_of_mem (List.mem_of_find?_eq_some hr);unfold iR at hs;split at hs
  ·exact ((k.r i r hi).1.s.lk.s s (List.mem_of_getElem? hs)).t
  ·simp at hs
 ·exact Nat.zero_le _
def lQ (l : List Sl) (k : Nat) (s : Sl) : List Sl := l.take k ++ [s] ++ l.drop k
theorem En {l : List Sl} {k : Nat} {s : Sl} (h : I8 60 (mY l)) (h1 : 1 ≤ s.1) (h2 : s.1 ≤ 60) (lo : ∀ (i : Nat) x, i < k → l[i]? = some x → x.1 < s.1) (hi : ∀ x, l[k]? = some x → s.1 < x.1) : I8 60 (mY (lQ l k s)) := by
 have hp : l.Pairwise (fun a b => a.1 < b.1) := by have := h.p; unfold mY at this; exact List.pairwise_map.1 this
 refine ⟨fun x hx => ?_, ?_⟩
 ·unfold mY lQ at hx;obtain ⟨y, hy, rfl⟩ := List.mem_map.1 hx;simp only [List.mem_append, List.mem_cons, List.not_mem_nil, or_false] at hy;rcases hy with (hy | hy) | hy
  ·exact h.r y.1 (List.mem_map.2 ⟨y, List.mem_of_mem_take hy, rfl⟩)
  ·rw [hy]; exact ⟨h1, h2⟩
  ·exact h.r y.1 (List.mem_map.2 ⟨y, List.mem_of_mem_drop hy, rfl⟩)
 ·unfold mY;rw [List.pairwise_map];unfold lQ;have hd := hp;rw [← List.take_append_drop k l, List.pairwise_append] at hd;have lt : ∀ a ∈ l.take k, a.1 < s.1 := fun a ha => by
   obtain ⟨i, hi⟩ := List.getElem?_of_mem ha;have hil := (List.getElem?_eq_some_iff.1 hi).1;simp only [List.length_take] at hil;rw [List.getElem?_take_of_lt (by omega)] at hi;exact lo i a (by omega) hi
  have gt : ∀ b ∈ l.drop k, s.1 < b.1 := fun b hb => by
   obtain ⟨i, hi'⟩ := List.getElem?_of_mem hb;rw [List.getElem?_drop] at hi';cases i with
   | zero => exact hi b (by simpa using hi')
   | succ i =>
    obtain ⟨y, hy⟩ : ∃ y, l[k]? = some y := ⟨_, List.getElem?_eq_getElem (by have := (List.getElem?_eq_some_iff.1 hi').1; omega)⟩
    have h3 := hi y hy;have h4 := List.pairwise_iff_getElem.1 hp k (k + (i + 1)) (List.getElem?_eq_some_iff.1 hy).1 (List.getElem?_eq_some_iff.1 hi').1 (by omega);rw [(List.getElem?_eq_some_iff.1 hy).2, (List.getElem?_eq_some_iff.1 hi').2] at h4;omega
  rw [List.append_assoc, List.pairwise_append];refine ⟨hd.1, ?_, fun a ha b hb => ?_⟩
  ·rw [List.singleton_append, List.pairwise_cons];exact ⟨gt, hd.2.1⟩
  ·rw [List.singleton_append] at hb;rcases List.mem_cons.1 hb with rfl | hb
   ·exact lt a ha
   ·have := lt a ha; have := gt b hb; omega
theorem JW (k : WK d) {q : Nat} {s : Sl} (h1 : 1 ≤ s.1) (h2 : s.1 ≤ 60) (ht : s.2.size ≤ 100) (lo : ∀ (i : Nat) x, i < q → d.fx[i]? = some x → x.1 < s.1) (hi : ∀ x, d.fx[q]? = some x → s.1 < x.1) : WK { d with fx := lQ d.fx q s } :=
 ⟨k.n1, k.n5, k.r, k.fl, k.fm, En k.fk h1 h2 lo hi, fun x hx => by
  simp only [lQ, List.mem_append, List.mem_cons, List.not_mem_nil, or_false] at hx;rcases hx with (hx | hx) | hx
  ·exact k.ft x (List.mem_of_mem_take hx)
  ·rw [hx]; exact ht
  ·exact k.ft x (List.mem_of_mem_drop hx)⟩
end Go.Proofs.Ytjdceoimignnpaa
