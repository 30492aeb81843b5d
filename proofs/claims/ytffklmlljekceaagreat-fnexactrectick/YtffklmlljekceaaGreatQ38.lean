import Derived.Test.YtffklmlljekceaaGreatQ37
import Derived.Test.YtffklmlljekceaaGreatQ36
namespace Go.Proofs.YtffklmlljekceaaGreat
open Go.ChangeShapes Go.WideShapes Go.ChangeAt Go.RowKit
set_option linter.unusedSimpArgs false
set_option linter.unusedVariables false
set_option maxHeartbeats 16000000
set_option maxRecDepth 20000
structure AcS (g tb db gD o : Nat) (cs ct cd : Array Value) (u : Value) (w : World) : Prop where
 bg : Blk w g cs 41
 bt : Blk w tb ct 128
 bd : Blk w db cd 37
 cs : w.cell? ⟨gD, o, none⟩ = some u
theorem AcS.drew {g tb db gD o : Nat} {cs ct cd : Array Value} {u : Value} {w : World} (h : AcS g tb db gD o cs ct cd u w) : AcS g tb db gD o cs ct cd u w.drew := ⟨Blk.drew h.bg, Blk.drew h.bt, Blk.drew h.bd, h.cs⟩
theorem implBeats (B g tb : Nat) (x : Rc) (p : RcP) (X : RcX) (c : Nat → Nat) (a : Option Addr) (H : List Mp) (n : Nat) (v : World) (h : IKS B g tb x p X c a H n v) (ho : 0 ≤ x.of_ ∧ x.of_ ≤ 5) (hH : H.length ≤ 3000000) :
  Calls Tryz.prog 122 #[.pointer (some ⟨tb, 0, none⟩)] v fun e v' => (∃ u, e = .returned u) ∧ SentP B g tb v c a x p X (H ++ othP x.num (beatM x) x.of_.toNat) v' := by
 have S0 := hid h
 have OF := hid (show 0 ≤ x.of_ ∧ x.of_ ≤ 5 from ho)
 have HL := hid hH
 clear h ho hH
 go_enter Tryz.func122, Tryz.ntmps122
 go_wp2_with fail
 have hK0 : TgS g tb (rcV x p) (tcV g a H.length n) v := ⟨S0.out.k, S0.out.t⟩
 refine wp_region_last (S := TgS g tb (rcV x p) (tcV g a H.length n)) 22 (by kernel_rfl) hK0.drew (fun hHeld => ?_)
 simp only [qz, Nat.reduceAdd]
 obtain ⟨Vd, hVd⟩ : ∃ u, u = v.drew := ⟨_, rfl⟩
 have ED := hid (show Below v.heap.size v Vd by rw [hVd]; exact ext_drew v)
 have S1 := hid (S0.out.ext ED.out)
 rw [← hVd] at hHeld ⊢
 clear hVd hK0
 refine planR.go [0, 1, 2, 3, 4, 5, 6, 7, 8, 9, 10, 11, 12, 13, 14, 15, 16, 17, 18, 19, 20, 21] ?_
 iterate 22 (apply planR.take (at_lit rfl) (by kernel_rfl) (by rfl) (fun _ _ _ h => h) hHeld; (· intro w9 hSw; have hq := hSw.bg.cell; have ht := hSw.bt.cell; clear hSw; go_simp; try with_reducible rfl); try simp only [qq])
 refine planR.fin ?_
 refine wpLast_end (by kernel_rfl) (at_lit rfl) (by kernel_rfl) (fun K hK => ?_)
 go_simp
 refine (implToSend B g tb x p X c a H n Vd S1.out (beatM x) (Nat.zero_le _) OF.out.1 OF.out.2 HL.out).mono ?_
 rintro e w2 ⟨⟨u, rfl⟩, pp⟩
 have PP := hid pp
 clear pp
 go_wp2_with fail
 refine hK.out _ _ ?_
 clear hK K hHeld
 go_wp2_with fail
 first | refine bodyPost_end (results_none rfl _ _ _) rfl ?_ | refine bodyPost_ret (results_none rfl _ _ _) rfl ?_
 exact ⟨⟨_, rfl⟩, PP.out.ext ED.out S0.out.lt⟩
theorem implAccepts (B g tb : Nat) (x : Rc) (p : RcP) (X : RcX) (c : Nat → Nat) (a : Option Addr) (H : List Mp) (n : Nat) (v : World) (h : IKS B g tb x p X c a H n v) (ho : 0 ≤ x.of_ ∧ x.of_ ≤ 5) (hd : 0 ≤ x.dk ∧ x.dk ≤ x.ds.length) (hl : x.ds.length ≤ 60) (hH : H.length ≤ 1000000) :
  Calls Tryz.prog 123 #[.pointer (some ⟨tb, 0, none⟩)] v fun e v' => (∃ u, e = .returned u) ∧ SentP B g tb v c a x p X (H ++ accP x (x.ds.length - x.dk.toNat)) v' := by
 have OF := hid (show 0 ≤ x.of_ ∧ x.of_ ≤ 5 from ho)
 have HL := hid hH
 have LT := hid h.lt
 have LG := hid h.k.lt
 have LB := hid h.t.lt
 obtain ⟨D, hD⟩ : ∃ D : Nat, x.dk = (D : Int) := ⟨x.dk.toNat, by omega⟩
 have ED0 := hid hD
 have hDl : D ≤ x.ds.length := by omega
 rw [show x.dk.toNat = D by omega]
 obtain ⟨M, hM⟩ : ∃ M : Nat, x.ds.length = D + M := ⟨x.ds.length - D, by omega⟩
 have EM := hid hM
 have hM6 : D + M ≤ 60 := by omega
 rw [show x.ds.length - D = M by omega]
 obtain ⟨V, hV⟩ : ∃ V, V = v.alloc (.cells #[.int .i64 x.dp, .int .i64 x.dk, .slice p.aD x.ds.length p.cD] 37) := ⟨_, rfl⟩
 have S0 := hid (show BxS B g tb v c a x #[.int .i64 x.dp, .int .i64 x.dk, .slice p.aD x.ds.length p.cD] 37 p X (colF v.heap.size c) a H n V by rw [hV]; exact BxS.start h _ _)
 have cT := h.t.cell
 have cK := h.k.cell
 have e0 : IntKind.i64.wrap ((D : Int) + 1) = (D : Int) + 1 := by go_arith
 clear h ho hd hl hH hM
 go_enter Tryz.func123, Tryz.ntmps123
 rw [hD] at hV
 go_wp2_with fail
 rw [← hV]
 clear hV cT cK hD
 go_loopw [3] (fun i wr => ∃ (j : Nat) (c1 : Nat → Nat) (a1 : Option Addr) (n1 : Nat), D ≤ j ∧ j ≤ D + M ∧ i = .int .i64 ((j : Int) + 1) ∧ BxS B g tb v c a x #[.int .i64 x.dp, .int .i64 x.dk, .slice p.aD x.ds.length p.cD] 37 p X c1 a1 (H ++ accP x (j - D)) n1 wr) (fun i _ => (D + M + 1) - (intOf i).toNat)
 case atStart => exact ⟨D, _, a, n, Nat.le_refl _, by omega, rfl, by simpa [accP] using S0.out⟩
 obtain ⟨j, c1, a1, n1, hk0, hk, rfl, hss⟩ := hrel
 have SS := hid hss
 have LN := hid (show (H ++ accP x (j - D)).length ≤ 3000000 by
  have h1 := accP_len x (j - D)
  have h2 : (j - D) * x.of_.toNat ≤ 60 * 5 := Nat.mul_le_mul (by omega) (by have := OF.out; omega)
  have := HL.out
  rw [List.length_append]
  omega)
 have EA := hid (show accP x (j - D) ++ othP x.num ⟨3, 0, 0, x.ball, (j : Int) + 1, 0, (x.ds.getD j (0, ⟨#[]⟩)).2⟩ x.of_.toNat = accP x (j + 1 - D) by rw [show j + 1 - D = (j - D) + 1 by omega, accP]; unfold accM; rw [show x.dk.toNat + (j - D) = j by have := ED0.out; omega])
 clear hss S0
 have cD := SS.out.2.1.cell
 have em := EM.out
 have ed := ED0.out
 by_cases hlt : j < D + M
 ·obtain ⟨s, hs0⟩ : ∃ s, x.ds[j]? = some s := ⟨_, List.getElem?_eq_getElem (by omega)⟩
  have GS := hid (show s.2.size ≤ maxLen from (SS.out.1.has.gd.d _ s hs0).1)
  rw [show (x.ds.getD j (0, ⟨#[]⟩)) = s by rw [List.getD_eq_getElem?_getD, hs0]; rfl] at EA
  obtain ⟨gD2, eg2, gl, _, _⟩ := SS.out.1.has.d.cell (flat_at x.ds j s hs0).1
  obtain ⟨gD, eg, _, cs, _⟩ := SS.out.1.has.d.cell (flat_at x.ds j s hs0).2
  obtain rfl : gD = gD2 := some_inj_addr eg2 eg
  have CS := hid cs
  clear hs0 cs eg2 gl
  obtain ⟨aS, cS, aD, cD', aH, cH, aW, cW, aY, cY, aB, cB, aA, cA⟩ := p
  dsimp only at eg
  subst eg
  have e6 : (0 : Int) ≤ (j : Int) := by omega
  have e7 : (j : Int) < (x.ds.length : Int) := by omega
  have e8 : IntKind.i64.wrap ((j : Int) + 1 - 1) = (j : Int) := by go_arith
  have e8b : IntKind.i64.wrap (j : Int) = (j : Int) := by go_arith
  have e9 : IntKind.i64.wrap ((j : Int) + 1 + 1) = (j : Int) + 1 + 1 := by go_arith
  have e5 : decide ((j : Int) + 1 ≤ (x.ds.length : Int)) = true := decide_eq_true (by omega)
  clear em ed
  go_wp2_with fail
  have hK0 : AcS g tb v.heap.size gD (j * 2 + 1) (rcV x ⟨aS, cS, some ⟨gD, 0, none⟩, cD', aH, cH, aW, cW, aY, cY, aB, cB, aA, cA⟩) (tcV g a1 (H ++ accP x (j - D)).length n1) #[.int .i64 x.dp, .int .i64 x.dk, .slice (some ⟨gD, 0, none⟩) x.ds.length cD'] (.string s.2) wr := ⟨SS.out.1.k, SS.out.1.t, SS.out.2.1, CS.out⟩
  refine wp_region_last (S := AcS g tb v.heap.size gD (j * 2 + 1) (rcV x ⟨aS, cS, some ⟨gD, 0, none⟩, cD', aH, cH, aW, cW, aY, cY, aB, cB, aA, cA⟩) (tcV g a1 (H ++ accP x (j - D)).length n1) #[.int .i64 x.dp, .int .i64 x.dk, .slice (some ⟨gD, 0, none⟩) x.ds.length cD'] (.string s.2)) 22 (by kernel_rfl) hK0.drew (fun hHeld => ?_)
  simp only [qz, Nat.reduceAdd]
  obtain ⟨Vd, hVd⟩ : ∃ u, u = wr.drew := ⟨_, rfl⟩
  have ED := hid (show Below wr.heap.size wr Vd by rw [hVd]; exact ext_drew wr)
  have S1 := hid (SS.out.ext ED.out)
  rw [← hVd] at hHeld ⊢
  clear hVd hK0 cD
  refine planR.go [0, 1, 2, 3, 4, 5, 6, 7, 8, 9, 10, 11, 12, 13, 14, 15, 16, 17, 18, 19, 20, 21] ?_
  iterate 22 (apply planR.take (at_lit rfl) (by kernel_rfl) (by rfl) (fun _ _ _ h => h) hHeld; (· intro w9 hSw; have hq := hSw.bg.cell; have ht := hSw.bt.cell; have hd := hSw.bd.cell; have hs := hSw.cs; clear hSw; go_simp; try with_reducible rfl); try simp only [qq])
  refine planR.fin ?_
  refine wpLast_end (by kernel_rfl) (at_lit rfl) (by kernel_rfl) (fun K hK => ?_)
  go_simp
  refine (implToSend B g tb x ⟨aS, cS, some ⟨gD, 0, none⟩, cD', aH, cH, aW, cW, aY, cY, aB, cB, aA, cA⟩ X c1 a1 (H ++ accP x (j - D)) n1 Vd S1.out.1 ⟨3, 0, 0, x.ball, (j : Int) + 1, 0, s.2⟩ GS.out OF.out.1 OF.out.2 LN.out).mono ?_
  rintro e w2 ⟨⟨u, rfl⟩, pp⟩
  rw [List.append_assoc, EA.out] at pp
  obtain ⟨c2, a2, n2, ts2⟩ := S1.out.next LG.out LB.out pp
  have S2 := hid ts2
  clear pp ts2
  go_wp2_with fail
  refine hK.out _ _ ?_
  clear hK K hHeld
  go_wp2_with fail
  go_roundw
  case rel => exact ⟨j + 1, c2, a2, n2, by omega, by omega, by go_num, S2.out⟩
  case measure => simp [intOf]; omega
 have e5 : decide ((j : Int) + 1 ≤ (x.ds.length : Int)) = false := decide_eq_false (by omega)
 have hkM : j - D = M := by omega
 rw [hkM] at SS
 clear em ed
 go_wp2_with fail
 first | refine bodyPost_end (results_none rfl _ _ _) rfl ?_ | refine bodyPost_ret (results_none rfl _ _ _) rfl ?_
 exact ⟨⟨_, rfl⟩, SS.out.sent⟩
end Go.Proofs.YtffklmlljekceaaGreat
namespace Go.Proofs.YtffklmlljekceaaGreat
open Go.ChangeShapes Go.WideShapes Go.ChangeAt Go.RowKit Go.Deep Go.Joins
set_option linter.unusedSimpArgs false
set_option linter.unusedVariables false
set_option maxHeartbeats 16000000
set_option maxRecDepth 20000
def cmpI (x y : Int) : Int := if x < y then -1 else if y < x then 1 else 0
theorem compareI_any (x y : Int) (w : World) : Calls Tryz.prog 166 #[.int .i64 x, .int .i64 y] w fun e w' => e = .returned (.int .i64 (cmpI x y)) ∧ w' = w := by
 by_cases h1 : x < y
 ·go_enter Tryz.func166, Tryz.ntmps166
  go_wp2_with (go_at_call 173; refine (isNaN_w _ _).mono ?_; rintro e w' ⟨rfl, hw'⟩; subst w')
  go_ret
  exact ⟨by simp only [cmpI, if_pos h1]; rfl, rfl⟩
 by_cases h2 : y < x
 ·go_enter Tryz.func166, Tryz.ntmps166
  go_wp2_with (go_at_call 173; refine (isNaN_w _ _).mono ?_; rintro e w' ⟨rfl, hw'⟩; subst w')
  go_ret
  exact ⟨by simp only [cmpI, if_neg (show ¬ x < y by omega), if_pos h2]; rfl, rfl⟩
 go_enter Tryz.func166, Tryz.ntmps166
 go_wp2_with (go_at_call 173; refine (isNaN_w _ _).mono ?_; rintro e w' ⟨rfl, hw'⟩; subst w')
 go_ret
 exact ⟨by simp only [cmpI, if_neg (show ¬ x < y by omega), if_neg (show ¬ y < x by omega)]; rfl, rfl⟩
theorem ackCmp_any (s : Int) (v : Value) (ix : Int) (w : World) :
  Calls Tryz.prog 165 #[.agg #[.int .i64 s, v], .int .i64 ix] w fun e w' => e = .returned (.int .i64 (cmpI s ix)) ∧ w' = w.alloc (.cells #[.int .i64 s, v] 105) := by
 go_enter Tryz.func165, Tryz.ntmps165
 go_wp2_with (go_at_call 166; refine (compareI_any _ _ _).mono ?_; rintro e w' ⟨rfl, hw'⟩; subst w')
 go_ret
 exact ⟨rfl, rfl⟩
def AscA (l : List Ak) : Prop := ∀ (i j : Nat) s t, l[i]? = some s → l[j]? = some t → i < j → s.1 < t.1
def FoundA (l : List Ak) (n : Nat) (ix : Int) (e : Ending) : Prop := ∃ (i : Nat) (b : Bool), e = .returned (.tuple #[.int .i64 (i : Int), .bool b]) ∧ i ≤ n ∧ (b = true ↔ ∃ s, l[i]? = some s ∧ s.1 = ix) ∧ (∀ (q : Nat) s, l[q]? = some s → q < i → s.1 < ix) ∧ (∀ (q : Nat) s, l[q]? = some s → i ≤ q → ix ≤ s.1)
theorem searchAck (a : Option Addr) (l : List Ak) (n cap : Nat) (ix : Int) (w : World) (hn : l.length = n) (hc : n ≤ 1048576) (hasc0 : AscA l) (h : AcksAt w a l) :
  Calls Tryz.prog 164 #[.slice a n cap, .int .i64 ix, .func (.func 165) #[] #[]] w fun e w' => FoundA l n ix e ∧ Below w.heap.size w w' := by
 have HL : Hid (l.length = n) := hn
 have hasc : Hid (AscA l) := hasc0
 clear hn hasc0
 go_enter Tryz.func164, Tryz.ntmps164
 go_wp2
 go_loopw [9, 10] (fun i j wr => ∃ (x y : Nat), i = .int .i64 (x : Int) ∧ j = .int .i64 (y : Int) ∧ x ≤ y ∧ y ≤ n ∧ (∀ (q : Nat) s, l[q]? = some s → q < x → s.1 < ix) ∧ (∀ (q : Nat) s, l[q]? = some s → y ≤ q → ix ≤ s.1) ∧ Below w.heap.size w wr) (fun i j _ => (intOf j).toNat - (intOf i).toNat)
 case atStart => exact ⟨0, n, rfl, rfl, Nat.zero_le _, Nat.le_refl _, fun q s _ hq => absurd hq (by omega), fun q s hq hle => by have := (List.getElem?_eq_some_iff.1 hq).1; have := HL.out; omega, Below.refl _ _⟩
 obtain ⟨x, y, rfl, rfl, hxy, hyn, hlo0, hhi0, hbel⟩ := hrel
 have hlo : Hid (∀ (q : Nat) s, l[q]? = some s → q < x → s.1 < ix) := hlo0
 have hhi : Hid (∀ (q : Nat) s, l[q]? = some s → y ≤ q → ix ≤ s.1) := hhi0
 clear hlo0 hhi0
 by_cases hlt : x < y
 ·obtain ⟨s, hs0⟩ : ∃ s, l[(x + y) / 2]? = some s := ⟨_, List.getElem?_eq_getElem (by rw [HL.out]; omega)⟩
  have hs : Hid (l[(x + y) / 2]? = some s) := hs0
  obtain ⟨b, off, sa, cp, rfl, hb, c0, c1, q2, q3, q4⟩ := (h.ext hbel) _ s hs0
  clear hs0
  have e1 : (0 : Int) ≤ ((x : Int) + (y : Int)) / 2 := by omega
  have e2 : ((x : Int) + (y : Int)) / 2 < (n : Int) := by omega
  have e3 : (x + y) / 2 < n := by omega
  have e4 : (x + y) / 2 < y := by omega
  have e5 : x ≤ (x + y) / 2 := by omega
  by_cases hk : s.1 < ix
  ·have hcm : cmpI s.1 ix = -1 := by simp [cmpI, hk]
   go_wp2_with (go_at_call 165; refine (ackCmp_any s.1 _ ix _).mono ?_; rintro e w' ⟨rfl, hw'⟩; subst w')
   go_roundw
   case rel =>
    refine ⟨(x + y) / 2 + 1, y, by simp only [Value.int.injEq, true_and]; omega, rfl, by omega, hyn, fun q t hq hlt2 => ?_, hhi.out, ext_alloc hbel _⟩
    by_cases he : q = (x + y) / 2
    ·rw [he, hs.out] at hq
     simp only [Option.some.injEq] at hq
     rw [← hq]
     exact hk
    have := hasc.out q ((x + y) / 2) t s hq hs.out (by omega)
    omega
   case measure => simp [intOf]; omega
  have hcm : Hid (0 ≤ cmpI s.1 ix) := by unfold Hid cmpI; split <;> (try split) <;> omega
  have hcm2 := hcm.out
  go_wp2_with (go_at_call 165; refine (ackCmp_any s.1 _ ix _).mono ?_; rintro e w' ⟨rfl, hw'⟩; subst w')
  go_roundw
  case rel =>
   refine ⟨x, (x + y) / 2, rfl, by simp only [Value.int.injEq, true_and]; omega, by omega, by omega, hlo.out, fun q t hq hle => ?_, ext_alloc hbel _⟩
   by_cases he : q = (x + y) / 2
   ·rw [he, hs.out] at hq
    simp only [Option.some.injEq] at hq
    rw [← hq]
    omega
   have := hasc.out ((x + y) / 2) q s t hs.out hq (by omega)
   omega
  case measure => simp [intOf]; omega
 have hxe : x = y := by omega
 subst hxe
 by_cases hxn : x < n
 ·have v7 : decide ((x : Int) < (n : Int)) = true := decide_eq_true (by omega)
  obtain ⟨s, hs0⟩ : ∃ s, l[x]? = some s := ⟨_, List.getElem?_eq_getElem (by rw [HL.out]; omega)⟩
  have hs : Hid (l[x]? = some s) := hs0
  obtain ⟨b, off, sa, cp, rfl, hb, c0, c1, q2, q3, q4⟩ := (h.ext hbel) _ s hs0
  clear hs0
  have e1 : (0 : Int) ≤ (x : Int) := by omega
  have e2 : (x : Int) < (n : Int) := by omega
  by_cases hk : s.1 = ix
  ·have hcm : cmpI s.1 ix = 0 := by simp [cmpI, hk]
   have HK : Hid (s.1 = ix) := hk
   clear hk
   go_wp2_with (go_at_call 165; refine (ackCmp_any s.1 _ ix _).mono ?_; rintro e w' ⟨rfl, hw'⟩; subst w')
   refine bodyPost_ret (v := .tuple #[.int .i64 (x : Int), .bool true]) (by simp [results, Tryz.results164, go_sem]) rfl ⟨⟨x, true, rfl, hyn, ⟨fun _ => ⟨s, hs.out, HK.out⟩, fun _ => rfl⟩, hlo.out, hhi.out⟩, ext_alloc hbel _⟩
  have hcm : (cmpI s.1 ix == 0) = false := by
   unfold cmpI
   split
   ·rfl
   split
   ·rfl
   exact absurd (by omega) hk
  have HK : Hid (¬ s.1 = ix) := hk
  clear hk
  go_wp2_with (go_at_call 165; refine (ackCmp_any s.1 _ ix _).mono ?_; rintro e w' ⟨rfl, hw'⟩; subst w')
  refine bodyPost_ret (v := .tuple #[.int .i64 (x : Int), .bool false]) (by simp [results, Tryz.results164, go_sem]) rfl ⟨⟨x, false, rfl, hyn, ⟨(fun h => by cases h), fun ⟨t, ht, hte⟩ => ?_⟩, hlo.out, hhi.out⟩, ext_alloc hbel _⟩
  rw [hs.out] at ht
  simp only [Option.some.injEq] at ht
  subst ht
  exact absurd hte HK.out
 have v7 : decide ((x : Int) < (n : Int)) = false := decide_eq_false (by omega)
 go_wp2
 refine bodyPost_ret (v := .tuple #[.int .i64 (x : Int), .bool false]) (by simp [results, Tryz.results164, go_sem]) rfl ⟨⟨x, false, rfl, hyn, ⟨(fun h => by cases h), fun ⟨t, ht, hte⟩ => ?_⟩, hlo.out, hhi.out⟩, hbel⟩
 have := (List.getElem?_eq_some_iff.1 ht).1
 have := HL.out
 omega
theorem flatA_take (X : List Ap) (k : Nat) : (flatA X).take (k * 2) = flatA (X.take k) := by
 rcases Nat.lt_or_ge k X.length with h | h
 ·conv => lhs; rw [← List.take_append_drop k X]
  rw [flatA_app, List.take_append_of_le_length (by rw [flatA_len, List.length_take]; omega), List.take_of_length_le (by rw [flatA_len, List.length_take]; omega)]
 rw [List.take_of_length_le (by rw [flatA_len]; omega), List.take_of_length_le h]
theorem flatA_drop (X : List Ap) (k : Nat) (h : k ≤ X.length) : (flatA X).drop (k * 2) = flatA (X.drop k) := by
 conv => lhs; rw [← List.take_append_drop k X]
 rw [flatA_app, List.drop_append_of_le_length (by rw [flatA_len, List.length_take]; omega), List.drop_of_length_le (by rw [flatA_len, List.length_take]; omega), List.nil_append]
theorem flatA_ins (X : List Ap) (k : Nat) (i : Int) (h : k ≤ X.length) : (flatA X).take (k * 2) ++ [.int .i64 i, .slice none 0 0] ++ (flatA X).drop (k * 2) = flatA (insX X k i) := by
 rw [flatA_take, flatA_drop X k h]
 unfold insX
 rw [flatA_app, flatA_app]
 rfl
def SfPost (B g : Nat) (w : World) (col : Nat → Nat) (p : RcP) (r' : Rc) (w' : World) : Prop := ∃ p' X' col', Blk w' g (rcV r' p') 41 ∧ RcHas B w' r' p' X' col' ∧ 8 < col' g ∧ Below B w w' ∧ (∀ b, b < w.heap.size → b ≠ g → 8 < col b → w'.heap[b]? = w.heap[b]? ∧ 8 < col' b) ∧ p'.aS = p.aS ∧ p'.cS = p.cS
theorem SfPost.chain {B g : Nat} {w w1 w2 : World} {col col1 : Nat → Nat} {p : RcP} {r2 : Rc} (hb : Below B w w1) (ot : ∀ b, b < w.heap.size → b ≠ g → 8 < col b → w1.heap[b]? = w.heap[b]? ∧ 8 < col1 b) (gp : SfPost B g w1 col1 p r2 w2) : SfPost B g w col p r2 w2 := by
 obtain ⟨p2, X2, c2, k, has, hc, hb2, ot2, e1, e2⟩ := gp
 have hsz := hb.size
 refine ⟨p2, X2, c2, k, has, hc, hb.trans hb2, fun b hlt hne h8 => ?_, e1, e2⟩
 obtain ⟨q1, q2⟩ := ot b hlt hne h8
 obtain ⟨q3, q4⟩ := ot2 b (by omega) hne q2
 exact ⟨q3.trans q1, q4⟩
theorem GPost.acks {B g : Nat} {w w1 : World} {r : Rc} {p : RcP} {X : RcX} {col : Nat → Nat} (hg : B ≤ g) (hk : Blk w g (rcV r p) 41) (hc : 8 < col g) (h : RcHas B w r p X col) {a' : Option Addr} {c' k : Nat} {i : Int} (hi : wfI i)
  (gr : w.grownBy w1 (Value.slice p.aA r.acks.length p.cA).ownBlock) (ho : w1.ownsRow B 105 2 (.slice a' (insX X.A k i).length c') (insX X.A k i).length (flatA (insX X.A k i))) (hn : NewOr w p.aA a') : SfPost B g w col p { r with acks := insL r.acks k i } (w1.setCell ⟨g, 16, none⟩ (.slice a' (insL r.acks k i).length c')) ∧ Blk w1 g (rcV r p) 41 := by
 have hlen : (insX X.A k i).length = (insL r.acks k i).length := by rw [← insX_map (k := k) (i := i) h.am, List.length_map]
 have hne : ∀ b, 8 < col b → some b ≠ (Value.slice p.aA r.acks.length p.cA).ownBlock := fun b h8 e => by
  cases hs : p.aA with
  | none => rw [hs] at e; simp [Value.ownBlock] at e
  | some y =>
   rw [hs] at e
   simp only [Value.ownBlock, Option.some.injEq] at e
   have := h.a.col y hs
   rw [← e] at this
   omega
 have hB : B ≤ w.heap.size := Nat.le_trans hg (Nat.le_of_lt hk.lt)
 have k1 : Blk w1 g (rcV r p) 41 := (gr.block g hk.lt (hne g hc)).trans hk
 have hcol : ∀ b, b < w.heap.size → 8 < col b → colN a' 6 col b = col b := fun b hlt h8 => colN_else fun x hx e => by
  rcases hn x hx with ⟨y, hy, he⟩ | h1
  ·have := h.a.col y hy
   rw [he, e] at this
   omega
  omega
 have bel : Below B w w1 := ⟨gr.os, gr.tape, gr.output, gr.size, fun b hb => gr.block b (by omega) (fun e => by
  cases hs : p.aA with
  | none => rw [hs] at e; simp [Value.ownBlock] at e
  | some y =>
   rw [hs] at e
   simp only [Value.ownBlock, Option.some.injEq] at e
   have := (h.a.lt y hs).1
   omega)⟩
 have hin : ∀ m ∈ insX X.A k i, RowC B w col 8 3 1 m.2.1 m.1.2.length m.2.2 (flatI m.1.2) := fun m hm => by
  unfold insX at hm
  simp only [List.mem_append, List.mem_singleton] at hm
  rcases hm with (hm | rfl) | hm
  ·exact h.ai.row m (List.mem_of_mem_take hm)
  ·exact rowC_nil _ _ _ _ _ _
  exact h.ai.row m (List.mem_of_mem_drop hm)
 have hap : (insX X.A k i).Pairwise (fun m m' => ∀ x x', m.2.1 = some x → m'.2.1 = some x' → x.block ≠ x'.block) := by
  have hp := h.ai.apart
  conv at hp => rw [← List.take_append_drop k X.A]
  unfold insX
  rw [List.append_assoc, List.pairwise_append] at *
  refine ⟨hp.1, ?_, fun u hu v hv => ?_⟩
  ·rw [List.singleton_append, List.pairwise_cons]
   exact ⟨fun v hv x x' hx => by simp at hx, hp.2.1⟩
  rw [List.singleton_append] at hv
  rcases List.mem_cons.1 hv with rfl | hv
  ·intro x x' _ hx'; simp at hx'
  exact hp.2.2 u hu v hv
 have hh := h.grow_a gr ho hn hin hap (by rw [insX_map h.am]; exact acks_ins h.gd.a hi)
 rw [insX_map h.am] at hh
 refine ⟨⟨{ p with aA := a', cA := c' }, ⟨X.H, insX X.A k i⟩, colN a' 6 col, ?_, ?_, by rw [hcol g hk.lt hc]; exact hc, below_set bel hg _, fun b hlt hbg h8 => ⟨(heap_setCell_other _ ⟨g, 16, none⟩ b _ hbg).trans (gr.block b hlt (hne b h8)), by rw [hcol b hlt h8]; exact h8⟩, rfl, rfl⟩, k1⟩
 ·have := k1.set (o := 16) (.slice a' (insL r.acks k i).length c')
  simpa using this
 exact hh.setCell (q := ⟨g, 16, none⟩) (by show 8 < colN a' 6 col g; rw [hcol g hk.lt hc]; exact hc) _
def PlaceP (B g : Nat) (w : World) (col : Nat → Nat) (p : RcP) (r : Rc) (ix : Int) (e : Ending) (w' : World) : Prop :=
 ∃ (i : Nat) (r1 : Rc), e = .returned (.int .i64 (i : Int)) ∧ i ≤ r.acks.length ∧ (∀ (q : Nat) s, q < i → r.acks[q]? = some s → s.1 < ix) ∧ ((r1 = r ∧ ∃ s, r.acks[i]? = some s ∧ s.1 = ix) ∨ (r1 = { r with acks := insL r.acks i ix } ∧ ∀ s, r.acks[i]? = some s → ix < s.1)) ∧ SfPost B g w col p r1 w'
theorem implAckPlace (B g : Nat) (r : Rc) (p : RcP) (X : RcX) (col : Nat → Nat) (ix : Int) (w : World) (hg : B ≤ g) (hk : Blk w g (rcV r p) 41) (hc : 8 < col g) (hl : r.acks.length ≤ 1000) (hasc : AscA r.acks) (hi : wfI ix) (h : RcHas B w r p X col) :
  Calls Tryz.prog 154 #[.pointer (some ⟨g, 0, none⟩), .int .i64 ix] w (PlaceP B g w col p r ix) := by
 have HG := hid hg
 have HB := hid (show B ≤ w.heap.size from Nat.le_trans hg (Nat.le_of_lt hk.lt))
 have HK := hid hk
 have HC := hid hc
 have RD := hid h
 have HA := hid hasc
 have HI := hid hi
 have HLa := hid hl
 have cK := hk.cell
 have fK := hk.free
 clear h hg hk hc hasc hi
 go_enter Tryz.func154, Tryz.ntmps154
 go_wp2_with fail
 refine (searchAck p.aA r.acks r.acks.length p.cA ix w rfl (by have := HLa.out; omega) HA.out RD.out.at.hA).mono ?_
 rintro e w1 ⟨⟨i, b, rfl, hin, hb, hlo0, hhi0⟩, hb1⟩
 have hlo := hid hlo0
 have hhi := hid hhi0
 have HBi := hid hb
 have E1 := hid hb1
 have K1 := hid (HK.out.ext hb1)
 have R1 := hid (RD.out.fresh.ext hb1)
 have C1 := hid (show 8 < colF w.heap.size col g by rw [colF_old HK.out.lt]; exact HC.out)
 clear hlo0 hhi0 hb hb1 cK fK
 have cK := K1.out.cell
 have fK := K1.out.free
 cases b
 ·have NEW := hid (show ∀ s, r.acks[i]? = some s → ix < s.1 from fun s hs => by
   have h1 := hhi.out i s hs (Nat.le_refl _)
   by_cases he : s.1 = ix
   ·exact absurd (HBi.out.2 ⟨s, hs, he⟩) (by simp)
   omega)
  have HLX := hid (show X.A.length = r.acks.length by rw [← RD.out.am, List.length_map])
  have E2 := hid (show Below w1.heap.size w1 (w1.alloc (.cells #[.int .i64 ix, .slice none 0 0] 105)) from ext_alloc (Below.refl _ _) _)
  go_wp2_with fail
  refine (insA B p.aA r.acks.length p.cA i w1.heap.size (flatA X.A) [.int .i64 ix, .slice none 0 0] _ (own_ext2 R1.out.a.own E2.out) hin hl (Blk.new _ _ _) rfl (fun q hq => by have h9 : q < w1.heap.size := (R1.out.a.lt _ hq).2; omega) (by simp [Value.oneCell']) (flatA_one _) (by have := E1.out.size; have := HB.out; simp; omega)).mono ?_
  rintro e w2 ⟨a', c', rfl, ho, gr, hN⟩
  have LX : (insX X.A i ix).length = r.acks.length + 1 := by
   have h9 : (insX X.A i ix).length = (insL r.acks i ix).length := by rw [← insX_map (k := i) (i := ix) RD.out.am, List.length_map]
   rw [h9, insL_len hin]
  have LL := insL_len (i := ix) hin
  rw [flatA_ins X.A i ix (by have := HLX.out; omega), ← LX] at ho
  obtain ⟨gp, k2⟩ := GPost.acks HG.out (K1.out.ext E2.out) C1.out (R1.out.ext E2.out) HI.out gr ho hN
  rw [LL] at gp
  have GP := hid (SfPost.chain (w := w) (col := col) ((E1.out.trans (E2.out.mono E1.out.size)).mono HB.out) (fun b hlt hne h8 => ⟨(E2.out.block b (by have := E1.out.size; omega)).trans (E1.out.block b hlt), by rw [colF_old hlt]; exact h8⟩) gp)
  clear gp ho gr hN cK fK LX LL
  have cK := k2.cell
  have fK := k2.free
  go_wp2_with fail
  go_ret
  exact ⟨i, _, rfl, hin, (fun q s hq hs => hlo.out q s hs hq), .inr ⟨rfl, NEW.out⟩, GP.out⟩
 obtain ⟨s, hs, he⟩ := HBi.out.1 rfl
 have FD := hid (show ∃ s, r.acks[i]? = some s ∧ s.1 = ix from ⟨s, hs, he⟩)
 clear hs he
 go_wp2_with fail
 go_ret
 exact ⟨i, r, rfl, hin, (fun q s hq hs => hlo.out q s hs hq), .inl ⟨rfl, FD.out⟩, ⟨p, X, col, HK.out.ext E1.out, RD.out.ext E1.out, HC.out, E1.out.mono HB.out, fun b hlt _ h8 => ⟨E1.out.block b hlt, h8⟩, rfl, rfl⟩⟩
end Go.Proofs.YtffklmlljekceaaGreat
