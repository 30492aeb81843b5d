import Derived.Test.YtffklmlljekceaaGreatQ17
namespace Go.Proofs.YtffklmlljekceaaGreat
open Go.ChangeShapes Go.WideShapes Go.ChangeAt Go.RowKit
set_option linter.unusedSimpArgs false
set_option linter.unusedVariables false
set_option maxHeartbeats 16000000
set_option maxRecDepth 20000
theorem copyRec0 (r : Rc) (p : RcP) (X : RcX) (w : World) (hS : RcSmall r) (h : RcRead w r p X) :
  Calls Tryz.prog 39 #[.agg (rcV r p)] w fun e w' => ∃ p' X' col', e = .returned (.agg (rcV r p')) ∧ RcHas w.heap.size w' r p' X' col' ∧ Below w.heap.size w w' := by
 obtain ⟨aS, cS, aD, cD, aH, cH, aW, cW, aY, cY, aB, cB, aA, cA⟩ := p
 have RD := hid h
 have HS := hid hS
 clear h hS
 have XH := hid (show X.H.length = r.held.length by rw [← RD.out.hm, List.length_map])
 have XA := hid (show X.A.length = r.acks.length by rw [← RD.out.am, List.length_map])
 obtain ⟨V, hV⟩ : ∃ V, V = (w.alloc (.cells (rcV r ⟨aS, cS, aD, cD, aH, cH, aW, cW, aY, cY, aB, cB, aA, cA⟩) 41)).alloc (.cells zRc 41) := ⟨_, rfl⟩
 have BV := hid (show Below w.heap.size w V by rw [hV]; exact ext_alloc (ext_alloc (Below.refl _ _) _) _)
 have K1 := hid (show Blk V w.heap.size (rcV r ⟨aS, cS, aD, cD, aH, cH, aW, cW, aY, cY, aB, cB, aA, cA⟩) 41 by rw [hV]; exact (Blk.new _ _ _).alloc _)
 have K2 := hid (show Blk V (w.heap.size + 1) zRc 41 by rw [hV]; exact Blk.new' _ _ (by simp))
 have SZ := hid (show w.heap.size + 1 < V.heap.size from K2.out.lt)
 have cK := K1.out.cell
 rw [hV] at cK
 go_enter Tryz.func39, Tryz.ntmps39
 go_wp2_with fail
 rw [← hV]
 clear hV cK
 refine (copyS aS r.ss.length cS (flat r.ss) _ (RD.out.ext BV.out).s.read HS.out.lS (flat_one _)).mono ?_
 rintro e w1 ⟨aS', cS', rfl, oS, hb1⟩
 have ZS0 := hid oS
 have E1 := hid hb1
 clear oS hb1
 obtain ⟨V1, hV1⟩ : ∃ v, v = w1.setCell ⟨w.heap.size, 5, none⟩ (.slice aS' r.ss.length cS') := ⟨_, rfl⟩
 have k1 : Blk (w1.setCell ⟨w.heap.size, 5, none⟩ (.slice aS' r.ss.length cS')) w.heap.size (rcV r ⟨aS', cS', aD, cD, aH, cH, aW, cW, aY, cY, aB, cB, aA, cA⟩) 41 := by
  have := (K1.out.ext E1.out).set (o := 5) (.slice aS' r.ss.length cS')
  simpa using this
 have cK := (K1.out.ext E1.out).cell
 have fK := (K1.out.ext E1.out).free
 have cL := k1.cell
 have K1n := hid (show Blk V1 w.heap.size (rcV r ⟨aS', cS', aD, cD, aH, cH, aW, cW, aY, cY, aB, cB, aA, cA⟩) 41 by rw [hV1]; exact k1)
 have K2n := hid (show Blk V1 (w.heap.size + 1) zRc 41 by rw [hV1]; exact (K2.out.ext E1.out).setCell (by simp) _)
 have BVn := hid (show Below w.heap.size w V1 by rw [hV1]; exact below_set (ext_trans BV.out E1.out) (Nat.le_refl _) _)
 have SE1 := hid (show w1.heap.size = V1.heap.size by rw [hV1]; simp)
 have LZ1 := hid (show V.heap.size ≤ w1.heap.size from E1.out.size)
 have NS := hid (show RowZ V.heap.size w1.heap.size V1 108 2 aS' r.ss.length cS' (flat r.ss) by rw [hV1]; exact (ZS0.out).set (by have := SZ.out; simp; omega) _)
 have LOS := hid (show w.heap.size + 1 < V.heap.size from SZ.out)
 clear K1 K2 BV SZ k1 ZS0 
 have K1 := K1n
 have K2 := K2n
 have BV := BVn
 have SZ := hid (show w.heap.size + 1 < V1.heap.size from K2.out.lt)
 clear K1n K2n BVn
 have ZS := NS
 clear NS
 go_wp2_with fail
 try rw [← hV1]
 clear cK fK cL
 clear E1
 refine (copyS aD r.ds.length cD (flat r.ds) _ (RD.out.ext BV.out).d.read HS.out.lD (flat_one _)).mono ?_
 rintro e w2 ⟨aD', cD', rfl, oD, hb2⟩
 have ZD0 := hid oD
 have E2 := hid hb2
 clear oD hb2
 obtain ⟨V2, hV2⟩ : ∃ v, v = w2.setCell ⟨w.heap.size, 8, none⟩ (.slice aD' r.ds.length cD') := ⟨_, rfl⟩
 have k1 : Blk (w2.setCell ⟨w.heap.size, 8, none⟩ (.slice aD' r.ds.length cD')) w.heap.size (rcV r ⟨aS', cS', aD', cD', aH, cH, aW, cW, aY, cY, aB, cB, aA, cA⟩) 41 := by
  have := (K1.out.ext E2.out).set (o := 8) (.slice aD' r.ds.length cD')
  simpa using this
 have cK := (K1.out.ext E2.out).cell
 have fK := (K1.out.ext E2.out).free
 have cL := k1.cell
 have K1n := hid (show Blk V2 w.heap.size (rcV r ⟨aS', cS', aD', cD', aH, cH, aW, cW, aY, cY, aB, cB, aA, cA⟩) 41 by rw [hV2]; exact k1)
 have K2n := hid (show Blk V2 (w.heap.size + 1) zRc 41 by rw [hV2]; exact (K2.out.ext E2.out).setCell (by simp) _)
 have BVn := hid (show Below w.heap.size w V2 by rw [hV2]; exact below_set (ext_trans BV.out E2.out) (Nat.le_refl _) _)
 have SE2 := hid (show w2.heap.size = V2.heap.size by rw [hV2]; simp)
 have LZ2 := hid (show V1.heap.size ≤ w2.heap.size from E2.out.size)
 have NS := hid (show RowZ V.heap.size w1.heap.size V2 108 2 aS' r.ss.length cS' (flat r.ss) by rw [hV2]; exact ((ZS.out.ext E2.out)).set (by have := SZ.out; have := LOS.out; simp; omega) _)
 have ND := hid (show RowZ V1.heap.size w2.heap.size V2 108 2 aD' r.ds.length cD' (flat r.ds) by rw [hV2]; exact (ZD0.out).set (by have := SZ.out; simp; omega) _)
 have LOD := hid (show w.heap.size + 1 < V1.heap.size from SZ.out)
 clear K1 K2 BV SZ k1 ZD0 ZS
 have K1 := K1n
 have K2 := K2n
 have BV := BVn
 have SZ := hid (show w.heap.size + 1 < V2.heap.size from K2.out.lt)
 clear K1n K2n BVn
 have ZS := NS
 have ZD := ND
 clear NS ND
 go_wp2_with fail
 try rw [← hV2]
 clear cK fK cL
 clear E2
 refine (copyMsgs aH r.held.length cH X.H _ (RD.out.ext BV.out).h.read XH.out HS.out.lH (RD.out.ext BV.out).hi (fun k m hm => HS.out.nH k m.1 (by rw [← RD.out.hm, List.getElem?_map, hm]; rfl))).mono ?_
 rintro e w3 ⟨aH', cH', LHS, mid, rfl, hmap, hm1, hm2, oH, oI, hb3⟩
 have HFH := hid (show LHS.map (·.1) = r.held by rw [hmap, RD.out.hm])
 have LZ3 := hid hm1
 have MID := hid hm2
 have ZH0 := hid oH
 have ZI0 := hid oI
 have E3 := hid hb3
 clear hmap hm1 hm2 oH oI hb3
 obtain ⟨wH0, hV3⟩ : ∃ v, v = w3.setCell ⟨w.heap.size, 9, none⟩ (.slice aH' r.held.length cH') := ⟨_, rfl⟩
 have k1 : Blk (w3.setCell ⟨w.heap.size, 9, none⟩ (.slice aH' r.held.length cH')) w.heap.size (rcV r ⟨aS', cS', aD', cD', aH', cH', aW, cW, aY, cY, aB, cB, aA, cA⟩) 41 := by
  have := (K1.out.ext E3.out).set (o := 9) (.slice aH' r.held.length cH')
  simpa using this
 have cK := (K1.out.ext E3.out).cell
 have fK := (K1.out.ext E3.out).free
 have cL := k1.cell
 have K1n := hid (show Blk wH0 w.heap.size (rcV r ⟨aS', cS', aD', cD', aH', cH', aW, cW, aY, cY, aB, cB, aA, cA⟩) 41 by rw [hV3]; exact k1)
 have K2n := hid (show Blk wH0 (w.heap.size + 1) zRc 41 by rw [hV3]; exact (K2.out.ext E3.out).setCell (by simp) _)
 have BVn := hid (show Below w.heap.size w wH0 by rw [hV3]; exact below_set (ext_trans BV.out E3.out) (Nat.le_refl _) _)
 have SE3 := hid (show mid = mid from rfl)
 have SEH := hid (show w3.heap.size = wH0.heap.size by rw [hV3]; simp)
 have IZH := hid (show mid ≤ wH0.heap.size by have := MID.out; have := SEH.out; omega)
 have NS := hid (show RowZ V.heap.size w1.heap.size wH0 108 2 aS' r.ss.length cS' (flat r.ss) by rw [hV3]; exact ((ZS.out.ext E3.out)).set (by have := SZ.out; have := LOS.out; simp; omega) _)
 have ND := hid (show RowZ V1.heap.size w2.heap.size wH0 108 2 aD' r.ds.length cD' (flat r.ds) by rw [hV3]; exact ((ZD.out.ext E3.out)).set (by have := SZ.out; have := LOD.out; simp; omega) _)
 have NH := hid (show RowZ V2.heap.size mid wH0 45 8 aH' r.held.length cH' (flatM LHS) by rw [hV3]; exact (ZH0.out).set (by have := SZ.out; simp; omega) _)
 have NI := hid (show InnZM mid wH0.heap.size wH0 LHS by
  have := ZI0.out.set (q := ⟨w.heap.size, 9, none⟩) (by have := SZ.out; have := LZ3.out; simp; omega) (.slice aH' r.held.length cH')
  rw [← hV3, SEH.out] at this
  exact this)
 have LOH := hid (show w.heap.size + 1 < V2.heap.size from SZ.out)
 have LOI := hid (show w.heap.size + 1 < mid by have := LOH.out; have := LZ3.out; omega)
 clear K1 K2 BV SZ k1 ZH0 ZI0 ZS ZD
 have K1 := K1n
 have K2 := K2n
 have BV := BVn
 have SZ := hid (show w.heap.size + 1 < wH0.heap.size from K2.out.lt)
 clear K1n K2n BVn
 have ZS := NS
 have ZD := ND
 have ZH := NH
 have ZI := NI
 clear NS ND NH NI
 go_wp2_with fail
 try rw [← hV3]
 clear cK fK cL
 clear E3
 refine (copyT aW r.wish.length cW (flatT r.wish) _ (RD.out.ext BV.out).t.read HS.out.lW (flatT_one _)).mono ?_
 rintro e w4 ⟨aW', cW', rfl, oW, hb4⟩
 have ZW0 := hid oW
 have E4 := hid hb4
 clear oW hb4
 obtain ⟨V4, hV4⟩ : ∃ v, v = w4.setCell ⟨w.heap.size, 10, none⟩ (.slice aW' r.wish.length cW') := ⟨_, rfl⟩
 have k1 : Blk (w4.setCell ⟨w.heap.size, 10, none⟩ (.slice aW' r.wish.length cW')) w.heap.size (rcV r ⟨aS', cS', aD', cD', aH', cH', aW', cW', aY, cY, aB, cB, aA, cA⟩) 41 := by
  have := (K1.out.ext E4.out).set (o := 10) (.slice aW' r.wish.length cW')
  simpa using this
 have cK := (K1.out.ext E4.out).cell
 have fK := (K1.out.ext E4.out).free
 have cL := k1.cell
 have K1n := hid (show Blk V4 w.heap.size (rcV r ⟨aS', cS', aD', cD', aH', cH', aW', cW', aY, cY, aB, cB, aA, cA⟩) 41 by rw [hV4]; exact k1)
 have K2n := hid (show Blk V4 (w.heap.size + 1) zRc 41 by rw [hV4]; exact (K2.out.ext E4.out).setCell (by simp) _)
 have BVn := hid (show Below w.heap.size w V4 by rw [hV4]; exact below_set (ext_trans BV.out E4.out) (Nat.le_refl _) _)
 have SE4 := hid (show w4.heap.size = V4.heap.size by rw [hV4]; simp)
 have LZ4 := hid (show wH0.heap.size ≤ w4.heap.size from E4.out.size)
 have NS := hid (show RowZ V.heap.size w1.heap.size V4 108 2 aS' r.ss.length cS' (flat r.ss) by rw [hV4]; exact ((ZS.out.ext E4.out)).set (by have := SZ.out; have := LOS.out; simp; omega) _)
 have ND := hid (show RowZ V1.heap.size w2.heap.size V4 108 2 aD' r.ds.length cD' (flat r.ds) by rw [hV4]; exact ((ZD.out.ext E4.out)).set (by have := SZ.out; have := LOD.out; simp; omega) _)
 have NH := hid (show RowZ V2.heap.size mid V4 45 8 aH' r.held.length cH' (flatM LHS) by rw [hV4]; exact ((ZH.out.ext E4.out)).set (by have := SZ.out; have := LOH.out; simp; omega) _)
 have NW := hid (show RowZ wH0.heap.size w4.heap.size V4 9 1 aW' r.wish.length cW' (flatT r.wish) by rw [hV4]; exact (ZW0.out).set (by have := SZ.out; simp; omega) _)
 have NI := hid (InnZM.set (InnZM.ext ZI.out E4.out) (q := ⟨w.heap.size, 10, none⟩) (by have := LOI.out; simp; omega) (.slice aW' r.wish.length cW') |> fun z => (show InnZM mid wH0.heap.size V4 LHS by rw [hV4]; exact z))
 have LOW := hid (show w.heap.size + 1 < wH0.heap.size from SZ.out)
 clear K1 K2 BV SZ k1 ZW0 ZS ZD ZH ZI
 have K1 := K1n
 have K2 := K2n
 have BV := BVn
 have SZ := hid (show w.heap.size + 1 < V4.heap.size from K2.out.lt)
 clear K1n K2n BVn
 have ZS := NS
 have ZD := ND
 have ZH := NH
 have ZW := NW
 have ZI := NI
 clear NI
 clear NS ND NH NW
 go_wp2_with fail
 try rw [← hV4]
 clear cK fK cL
 clear E4
 refine (copyI aY r.yes.length cY (flatI r.yes) _ (RD.out.ext BV.out).y.read HS.out.lY (flatI_one _)).mono ?_
 rintro e w5 ⟨aY', cY', rfl, oY, hb5⟩
 have ZY0 := hid oY
 have E5 := hid hb5
 clear oY hb5
 obtain ⟨V5, hV5⟩ : ∃ v, v = w5.setCell ⟨w.heap.size, 14, none⟩ (.slice aY' r.yes.length cY') := ⟨_, rfl⟩
 have k1 : Blk (w5.setCell ⟨w.heap.size, 14, none⟩ (.slice aY' r.yes.length cY')) w.heap.size (rcV r ⟨aS', cS', aD', cD', aH', cH', aW', cW', aY', cY', aB, cB, aA, cA⟩) 41 := by
  have := (K1.out.ext E5.out).set (o := 14) (.slice aY' r.yes.length cY')
  simpa using this
 have cK := (K1.out.ext E5.out).cell
 have fK := (K1.out.ext E5.out).free
 have cL := k1.cell
 have K1n := hid (show Blk V5 w.heap.size (rcV r ⟨aS', cS', aD', cD', aH', cH', aW', cW', aY', cY', aB, cB, aA, cA⟩) 41 by rw [hV5]; exact k1)
 have K2n := hid (show Blk V5 (w.heap.size + 1) zRc 41 by rw [hV5]; exact (K2.out.ext E5.out).setCell (by simp) _)
 have BVn := hid (show Below w.heap.size w V5 by rw [hV5]; exact below_set (ext_trans BV.out E5.out) (Nat.le_refl _) _)
 have SE5 := hid (show w5.heap.size = V5.heap.size by rw [hV5]; simp)
 have LZ5 := hid (show V4.heap.size ≤ w5.heap.size from E5.out.size)
 have NS := hid (show RowZ V.heap.size w1.heap.size V5 108 2 aS' r.ss.length cS' (flat r.ss) by rw [hV5]; exact ((ZS.out.ext E5.out)).set (by have := SZ.out; have := LOS.out; simp; omega) _)
 have ND := hid (show RowZ V1.heap.size w2.heap.size V5 108 2 aD' r.ds.length cD' (flat r.ds) by rw [hV5]; exact ((ZD.out.ext E5.out)).set (by have := SZ.out; have := LOD.out; simp; omega) _)
 have NH := hid (show RowZ V2.heap.size mid V5 45 8 aH' r.held.length cH' (flatM LHS) by rw [hV5]; exact ((ZH.out.ext E5.out)).set (by have := SZ.out; have := LOH.out; simp; omega) _)
 have NW := hid (show RowZ wH0.heap.size w4.heap.size V5 9 1 aW' r.wish.length cW' (flatT r.wish) by rw [hV5]; exact ((ZW.out.ext E5.out)).set (by have := SZ.out; have := LOW.out; simp; omega) _)
 have NY := hid (show RowZ V4.heap.size w5.heap.size V5 3 1 aY' r.yes.length cY' (flatI r.yes) by rw [hV5]; exact (ZY0.out).set (by have := SZ.out; simp; omega) _)
 have NI := hid (InnZM.set (InnZM.ext ZI.out E5.out) (q := ⟨w.heap.size, 14, none⟩) (by have := LOI.out; simp; omega) (.slice aY' r.yes.length cY') |> fun z => (show InnZM mid wH0.heap.size V5 LHS by rw [hV5]; exact z))
 have LOY := hid (show w.heap.size + 1 < V4.heap.size from SZ.out)
 clear K1 K2 BV SZ k1 ZY0 ZS ZD ZH ZW ZI
 have K1 := K1n
 have K2 := K2n
 have BV := BVn
 have SZ := hid (show w.heap.size + 1 < V5.heap.size from K2.out.lt)
 clear K1n K2n BVn
 have ZS := NS
 have ZD := ND
 have ZH := NH
 have ZW := NW
 have ZY := NY
 have ZI := NI
 clear NI
 clear NS ND NH NW NY
 go_wp2_with fail
 try rw [← hV5]
 clear cK fK cL
 clear E5
 refine (copyS aB r.best.length cB (flat r.best) _ (RD.out.ext BV.out).b.read HS.out.lB (flat_one _)).mono ?_
 rintro e w6 ⟨aB', cB', rfl, oB, hb6⟩
 have ZB0 := hid oB
 have E6 := hid hb6
 clear oB hb6
 obtain ⟨V6, hV6⟩ : ∃ v, v = w6.setCell ⟨w.heap.size, 15, none⟩ (.slice aB' r.best.length cB') := ⟨_, rfl⟩
 have k1 : Blk (w6.setCell ⟨w.heap.size, 15, none⟩ (.slice aB' r.best.length cB')) w.heap.size (rcV r ⟨aS', cS', aD', cD', aH', cH', aW', cW', aY', cY', aB', cB', aA, cA⟩) 41 := by
  have := (K1.out.ext E6.out).set (o := 15) (.slice aB' r.best.length cB')
  simpa using this
 have cK := (K1.out.ext E6.out).cell
 have fK := (K1.out.ext E6.out).free
 have cL := k1.cell
 have K1n := hid (show Blk V6 w.heap.size (rcV r ⟨aS', cS', aD', cD', aH', cH', aW', cW', aY', cY', aB', cB', aA, cA⟩) 41 by rw [hV6]; exact k1)
 have K2n := hid (show Blk V6 (w.heap.size + 1) zRc 41 by rw [hV6]; exact (K2.out.ext E6.out).setCell (by simp) _)
 have BVn := hid (show Below w.heap.size w V6 by rw [hV6]; exact below_set (ext_trans BV.out E6.out) (Nat.le_refl _) _)
 have SE6 := hid (show w6.heap.size = V6.heap.size by rw [hV6]; simp)
 have LZ6 := hid (show V5.heap.size ≤ w6.heap.size from E6.out.size)
 have NS := hid (show RowZ V.heap.size w1.heap.size V6 108 2 aS' r.ss.length cS' (flat r.ss) by rw [hV6]; exact ((ZS.out.ext E6.out)).set (by have := SZ.out; have := LOS.out; simp; omega) _)
 have ND := hid (show RowZ V1.heap.size w2.heap.size V6 108 2 aD' r.ds.length cD' (flat r.ds) by rw [hV6]; exact ((ZD.out.ext E6.out)).set (by have := SZ.out; have := LOD.out; simp; omega) _)
 have NH := hid (show RowZ V2.heap.size mid V6 45 8 aH' r.held.length cH' (flatM LHS) by rw [hV6]; exact ((ZH.out.ext E6.out)).set (by have := SZ.out; have := LOH.out; simp; omega) _)
 have NW := hid (show RowZ wH0.heap.size w4.heap.size V6 9 1 aW' r.wish.length cW' (flatT r.wish) by rw [hV6]; exact ((ZW.out.ext E6.out)).set (by have := SZ.out; have := LOW.out; simp; omega) _)
 have NY := hid (show RowZ V4.heap.size w5.heap.size V6 3 1 aY' r.yes.length cY' (flatI r.yes) by rw [hV6]; exact ((ZY.out.ext E6.out)).set (by have := SZ.out; have := LOY.out; simp; omega) _)
 have NB := hid (show RowZ V5.heap.size w6.heap.size V6 108 2 aB' r.best.length cB' (flat r.best) by rw [hV6]; exact (ZB0.out).set (by have := SZ.out; simp; omega) _)
 have NI := hid (InnZM.set (InnZM.ext ZI.out E6.out) (q := ⟨w.heap.size, 15, none⟩) (by have := LOI.out; simp; omega) (.slice aB' r.best.length cB') |> fun z => (show InnZM mid wH0.heap.size V6 LHS by rw [hV6]; exact z))
 have LOB := hid (show w.heap.size + 1 < V5.heap.size from SZ.out)
 clear K1 K2 BV SZ k1 ZB0 ZS ZD ZH ZW ZY ZI
 have K1 := K1n
 have K2 := K2n
 have BV := BVn
 have SZ := hid (show w.heap.size + 1 < V6.heap.size from K2.out.lt)
 clear K1n K2n BVn
 have ZS := NS
 have ZD := ND
 have ZH := NH
 have ZW := NW
 have ZY := NY
 have ZB := NB
 have ZI := NI
 clear NI
 clear NS ND NH NW NY NB
 go_wp2_with fail
 try rw [← hV6]
 clear cK fK cL
 clear E6
 refine (copyA aA r.acks.length cA (flatA X.A) _ (RD.out.ext BV.out).a.read HS.out.lA (flatA_one _)).mono ?_
 rintro e w7 ⟨aA', cA', rfl, oA, hb7⟩
 have ZA0 := hid oA
 have E7 := hid hb7
 clear oA hb7
 obtain ⟨V7, hV7⟩ : ∃ v, v = w7.setCell ⟨w.heap.size, 16, none⟩ (.slice aA' r.acks.length cA') := ⟨_, rfl⟩
 have k1 : Blk (w7.setCell ⟨w.heap.size, 16, none⟩ (.slice aA' r.acks.length cA')) w.heap.size (rcV r ⟨aS', cS', aD', cD', aH', cH', aW', cW', aY', cY', aB', cB', aA', cA'⟩) 41 := by
  have := (K1.out.ext E7.out).set (o := 16) (.slice aA' r.acks.length cA')
  simpa using this
 have cK := (K1.out.ext E7.out).cell
 have fK := (K1.out.ext E7.out).free
 have cL := k1.cell
 have K1n := hid (show Blk V7 w.heap.size (rcV r ⟨aS', cS', aD', cD', aH', cH', aW', cW', aY', cY', aB', cB', aA', cA'⟩) 41 by rw [hV7]; exact k1)
 have K2n := hid (show Blk V7 (w.heap.size + 1) zRc 41 by rw [hV7]; exact (K2.out.ext E7.out).setCell (by simp) _)
 have BVn := hid (show Below w.heap.size w V7 by rw [hV7]; exact below_set (ext_trans BV.out E7.out) (Nat.le_refl _) _)
 have SE7 := hid (show w7.heap.size = V7.heap.size by rw [hV7]; simp)
 have LZ7 := hid (show V6.heap.size ≤ w7.heap.size from E7.out.size)
 have NS := hid (show RowZ V.heap.size w1.heap.size V7 108 2 aS' r.ss.length cS' (flat r.ss) by rw [hV7]; exact ((ZS.out.ext E7.out)).set (by have := SZ.out; have := LOS.out; simp; omega) _)
 have ND := hid (show RowZ V1.heap.size w2.heap.size V7 108 2 aD' r.ds.length cD' (flat r.ds) by rw [hV7]; exact ((ZD.out.ext E7.out)).set (by have := SZ.out; have := LOD.out; simp; omega) _)
 have NH := hid (show RowZ V2.heap.size mid V7 45 8 aH' r.held.length cH' (flatM LHS) by rw [hV7]; exact ((ZH.out.ext E7.out)).set (by have := SZ.out; have := LOH.out; simp; omega) _)
 have NW := hid (show RowZ wH0.heap.size w4.heap.size V7 9 1 aW' r.wish.length cW' (flatT r.wish) by rw [hV7]; exact ((ZW.out.ext E7.out)).set (by have := SZ.out; have := LOW.out; simp; omega) _)
 have NY := hid (show RowZ V4.heap.size w5.heap.size V7 3 1 aY' r.yes.length cY' (flatI r.yes) by rw [hV7]; exact ((ZY.out.ext E7.out)).set (by have := SZ.out; have := LOY.out; simp; omega) _)
 have NB := hid (show RowZ V5.heap.size w6.heap.size V7 108 2 aB' r.best.length cB' (flat r.best) by rw [hV7]; exact ((ZB.out.ext E7.out)).set (by have := SZ.out; have := LOB.out; simp; omega) _)
 have NA := hid (show RowZ V6.heap.size w7.heap.size V7 105 2 aA' r.acks.length cA' (flatA X.A) by rw [hV7]; exact (ZA0.out).set (by have := SZ.out; simp; omega) _)
 have NI := hid (InnZM.set (InnZM.ext ZI.out E7.out) (q := ⟨w.heap.size, 16, none⟩) (by have := LOI.out; simp; omega) (.slice aA' r.acks.length cA') |> fun z => (show InnZM mid wH0.heap.size V7 LHS by rw [hV7]; exact z))
 have LOA := hid (show w.heap.size + 1 < V6.heap.size from SZ.out)
 clear K1 K2 BV SZ k1 ZA0 ZS ZD ZH ZW ZY ZB ZI
 have K1 := K1n
 have K2 := K2n
 have BV := BVn
 have SZ := hid (show w.heap.size + 1 < V7.heap.size from K2.out.lt)
 clear K1n K2n BVn
 have ZS := NS
 have ZD := ND
 have ZH := NH
 have ZW := NW
 have ZY := NY
 have ZB := NB
 have ZA := NA
 have ZI := NI
 clear NI
 clear NS ND NH NW NY NB NA
 go_wp2_with fail
 try rw [← hV7]
 clear cK fK cL
 clear E7
 go_loopw [39] (fun i wA0 => ∃ (k : Nat) (H' : List Ap), k ≤ r.acks.length ∧ i = .int .i64 k ∧ H'.map (·.1) = r.acks.take k ∧ RowZ V6.heap.size w7.heap.size wA0 105 2 aA' r.acks.length cA' (flatA (H' ++ X.A.drop k)) ∧ InnZA V7.heap.size wA0.heap.size wA0 H' ∧ Below V6.heap.size V7 wA0) (fun i _ => r.acks.length - (intOf i).toNat)
 case atStart => exact ⟨0, [], Nat.zero_le _, rfl, by simp, ZA.out, InnZA.nil _ _ _, Below.refl _ _⟩
 rename World => wA0
 obtain ⟨k, H', hk, rfl, hmap, hrow, hinn, hbel⟩ := hrel
 have HM := hid hmap
 have HR := hid hrow
 have HI := hid hinn
 have HB := hid hbel
 have LH := hid (show H'.length = k by have := congrArg List.length hmap; simp at this; omega)
 have LV := hid (show V6.heap.size ≤ V7.heap.size by have := LZ7.out; have := SE7.out; omega)
 have LW := hid (show w.heap.size + 1 < V6.heap.size from LOA.out)
 have hlen : r.acks.length ≤ 1048576 := HS.out.lA
 clear hmap hrow hinn hbel
 by_cases hlt : k < r.acks.length
 ·obtain ⟨m, hm0⟩ : ∃ m, X.A[k]? = some m := ⟨_, List.getElem?_eq_getElem (by rw [XA.out]; exact hlt)⟩
  have DR := hid (show X.A.drop k = m :: X.A.drop (k + 1) by
   obtain ⟨h1, h2⟩ := List.getElem?_eq_some_iff.1 hm0
   rw [← h2]; exact List.drop_eq_getElem_cons h1)
  have RM := hid (show r.acks[k]? = some m.1 by rw [← RD.out.am, List.getElem?_map, hm0]; rfl)
  have MI := hid (RD.out.ai.row m (List.mem_of_getElem? hm0)).read
  have MS := hid (HS.out.nA k m.1 RM.out)
  clear hm0
  have row0 := HR.out
  rw [DR.out] at row0
  obtain ⟨g, e0, _, c7, f7⟩ := (row0.row (B := 0) (col := fun _ => 0) (t := 0) (Nat.zero_le _) (fun _ _ _ => rfl)).cellA (i := k) (m := m) (by rw [List.getElem?_append_right (by rw [LH.out]; omega), LH.out, Nat.sub_self]; rfl) (q := 1) (by omega) rfl
  subst e0
  have GL := hid (show V6.heap.size ≤ g from (row0.lo _ rfl).1)
  have BW := hid (show Below w.heap.size w wA0 from BV.out.trans (HB.out.mono (by have := LW.out; omega)))
  have hK0 : BoxS V6.heap.size V7 w.heap.size (rcV r ⟨aS', cS', aD', cD', aH', cH', aW', cW', aY', cY', aB', cB', some ⟨g, 0, none⟩, cA'⟩) wA0 := ⟨K1.out.below HB.out (by have := LW.out; omega), HB.out⟩
  clear row0 f7
  have e1 : (0 : Int) ≤ (k : Int) := by omega
  have e2 : (k : Int) < (r.acks.length : Int) := by omega
  go_wp2_with fail
  refine wp_region_held_drew (S := BoxS V6.heap.size V7 w.heap.size (rcV r ⟨aS', cS', aD', cD', aH', cH', aW', cW', aY', cY', aB', cB', some ⟨g, 0, none⟩, cA'⟩)) (by kernel_rfl) hK0.drew (fun hHeld => ?_)
  clear hK0
  simp only [qz, Nat.reduceAdd]
  refine planH.go [0, 1, 2, 3, 4, 5, 6, 7] ?_
  iterate 8 (apply planH.take (at_lit rfl) (by kernel_rfl) (by rfl) (fun _ _ _ h => h) hHeld; (· intro w9 hSw; have hq := hSw.blk.cell; clear hSw; go_simp; try with_reducible rfl); try simp only [qq])
  refine planH.fin ?_
  refine rdH 8 (by kernel_rfl) (at_lit rfl) (fun K hK => ?_)
  go_simp
  refine hK.out _ _ hHeld (fun hNew => ?_)
  clear hK K hNew c7
  try simp only [qq]
  refine rdH 9 (by kernel_rfl) (at_lit rfl) (fun K hK => ?_)
  go_simp
  refine (copyI m.2.1 m.1.2.length m.2.2 (flatI m.1.2) _ (MI.out.ext BW.out.drew) MS.out (flatI_one _)).mono ?_
  rintro e z ⟨a9, c9, rfl, o9, hz⟩
  have O9 := hid (show RowZ wA0.heap.size z.heap.size z 3 1 a9 m.1.2.length c9 (flatI m.1.2) from o9)
  have HZ := hid (show Below wA0.heap.size wA0 z from (Below.refl _ _).drew.trans hz)
  have ZR := hid (HR.out.ext HZ.out)
  clear o9
  go_wp2_with fail
  refine hK.out _ _ (hHeld.ext LV.out hz) (fun hNew => ?_)
  clear hK K hHeld hz
  have hHeld := hNew
  clear hNew
  try simp only [qq]
  refine planH.go [10, 11] ?_
  iterate 2 (apply planH.take (at_lit rfl) (by kernel_rfl) (by rfl) (fun _ _ _ h => h) hHeld; (· intro w9 hSw; have hq := hSw.blk.cell; clear hSw; go_simp; try with_reducible rfl); try simp only [qq])
  refine planH.fin ?_
  have c9' : z.cell? ⟨g, k * 2 + 1, none⟩ = some (.slice m.2.1 m.1.2.length m.2.2) := by
   have row1 := ZR.out
   rw [DR.out] at row1
   obtain ⟨g', e0, _, c7, _⟩ := (row1.row (B := 0) (col := fun _ => 0) (t := 0) (Nat.zero_le _) (fun _ _ _ => rfl)).cellA (i := k) (m := m) (by rw [List.getElem?_append_right (by rw [LH.out]; omega), LH.out, Nat.sub_self]; rfl) (q := 1) (by omega) rfl
   simp only [Option.some.injEq, Addr.mk.injEq, and_true] at e0
   rw [e0]; exact c7
  have f9 : z.frozen? ⟨g, k * 2 + 1, none⟩ = false := ZR.out.own.frozenAt _
  refine rdH 12 (by kernel_rfl) (at_lit rfl) (fun K hK => ?_)
  go_simp
  refine hK.out _ _ ⟨hHeld.blk.setCell (by have := GL.out; have := LW.out; simp; omega) _, hHeld.bel.setCell (by have := GL.out; simp; omega) _⟩ (fun hNew => ?_)
  clear hK K hHeld c9' f9
  have hHeld := hNew
  clear hNew
  try simp only [qq]
  refine wpAnyH_done (by kernel_rfl) ?_ _
  have HH := hid hHeld
  clear hHeld
  go_wp2_with fail
  go_roundw
  case rel =>
   refine ⟨k + 1, H' ++ [(m.1, a9, c9)], by omega, by go_num, ?_, ?_, ?_, HH.out.bel⟩
   ·rw [List.map_append, HM.out, List.take_add_one, RM.out]; rfl
   ·have row1 := ZR.out
    rw [DR.out] at row1
    have st := row1.own.stored (k * 2 + 1) (.slice a9 m.1.2.length c9)
    rw [← LH.out, flatA_put, LH.out] at st
    rw [List.append_assoc, List.singleton_append]
    exact ⟨st.1, row1.hi⟩
   have := (HI.out.ext HZ.out).snoc (m := (m.1, a9, c9)) O9.out (by have := HB.out.size; omega) (Nat.le_refl _) HZ.out.size
   have := this.set (q := ⟨g, k * 2 + 1, none⟩) (by have q1 := (HR.out.hi _ rfl); have := SE7.out; dsimp only at q1; simp; omega) (.slice a9 m.1.2.length c9)
   simpa using this
  case measure => simp [intOf]; omega
 have hkk : k = r.acks.length := by omega
 have HF := hid (show H'.map (·.1) = r.acks by rw [HM.out, hkk, List.take_length])
 have HRf := hid (show RowZ V6.heap.size w7.heap.size wA0 105 2 aA' r.acks.length cA' (flatA H') by
  have h9 := HR.out
  rw [hkk, List.drop_of_length_le (by rw [XA.out]; omega), List.append_nil] at h9
  exact h9)
 have IZA := hid (show V7.heap.size ≤ wA0.heap.size from HB.out.size)
 have K1n := hid (K1.out.below HB.out (by have := LW.out; omega))
 have K2n := hid (K2.out.below HB.out (by have := LW.out; omega))
 have BVn := hid (show Below w.heap.size w wA0 from BV.out.trans (HB.out.mono (by have := LW.out; omega)))
 have SZn := hid (show w.heap.size + 1 < wA0.heap.size from K2n.out.lt)
 have NS := hid (ZS.out.below HB.out (by have := SE1.out; have := LZ1.out; have := SE2.out; have := LZ2.out; have := SE3.out; have := LZ3.out; have := SE4.out; have := LZ4.out; have := SE5.out; have := LZ5.out; have := SE6.out; have := LZ6.out; have := SE7.out; have := LZ7.out; have := IZH.out; omega))
 have ND := hid (ZD.out.below HB.out (by have := SE1.out; have := LZ1.out; have := SE2.out; have := LZ2.out; have := SE3.out; have := LZ3.out; have := SE4.out; have := LZ4.out; have := SE5.out; have := LZ5.out; have := SE6.out; have := LZ6.out; have := SE7.out; have := LZ7.out; have := IZH.out; omega))
 have NH := hid (ZH.out.below HB.out (by have := SE1.out; have := LZ1.out; have := SE2.out; have := LZ2.out; have := SE3.out; have := LZ3.out; have := SE4.out; have := LZ4.out; have := SE5.out; have := LZ5.out; have := SE6.out; have := LZ6.out; have := SE7.out; have := LZ7.out; have := IZH.out; omega))
 have NW := hid (ZW.out.below HB.out (by have := SE1.out; have := LZ1.out; have := SE2.out; have := LZ2.out; have := SE3.out; have := LZ3.out; have := SE4.out; have := LZ4.out; have := SE5.out; have := LZ5.out; have := SE6.out; have := LZ6.out; have := SE7.out; have := LZ7.out; have := IZH.out; omega))
 have NY := hid (ZY.out.below HB.out (by have := SE1.out; have := LZ1.out; have := SE2.out; have := LZ2.out; have := SE3.out; have := LZ3.out; have := SE4.out; have := LZ4.out; have := SE5.out; have := LZ5.out; have := SE6.out; have := LZ6.out; have := SE7.out; have := LZ7.out; have := IZH.out; omega))
 have NB := hid (ZB.out.below HB.out (by have := SE1.out; have := LZ1.out; have := SE2.out; have := LZ2.out; have := SE3.out; have := LZ3.out; have := SE4.out; have := LZ4.out; have := SE5.out; have := LZ5.out; have := SE6.out; have := LZ6.out; have := SE7.out; have := LZ7.out; have := IZH.out; omega))
 have NI := hid (ZI.out.below HB.out (by have := SE1.out; have := LZ1.out; have := SE2.out; have := LZ2.out; have := SE3.out; have := LZ3.out; have := SE4.out; have := LZ4.out; have := SE5.out; have := LZ5.out; have := SE6.out; have := LZ6.out; have := SE7.out; have := LZ7.out; have := IZH.out; omega))
 clear K1 K2 BV SZ HR HM HB LV LW ZS ZD ZH ZW ZY ZB ZA ZI
 have K1 := K1n
 have K2 := K2n
 have BV := BVn
 have SZ := SZn
 clear K1n K2n BVn SZn
 have ZS := NS
 have ZD := ND
 have ZH := NH
 have ZW := NW
 have ZY := NY
 have ZB := NB
 have ZA := HRf
 clear NS ND NH NW NY NB HRf
 have ZI := NI
 have ZJ := HI
 clear NI HI
 have LOJ := hid (show w.heap.size + 1 < V7.heap.size by have := LOA.out; have := LZ7.out; have := SE7.out; omega)
 have k1 := K1.out
 have k2 := K2.out
 go_wp2_with (first
  | ((with_reducible refine wpList_load_rec w.heap.size (rcV r ⟨aS', cS', aD', cD', aH', cH', aW', cW', aY', cY', aB', cB', aA', cA'⟩) rfl ?_ ?_ ?_); (· rfl); (· exact k1))
  | ((with_reducible refine wpList_store_rec_at (w.heap.size + 1) zRc (rcV r ⟨aS', cS', aD', cD', aH', cH', aW', cW', aY', cY', aB', cB', aA', cA'⟩) rfl rfl ?_ ?_ ?_ ?_ ?_); (· rfl); (· rfl); (· exact k2); (· simp [Value.oneCell'])))
 have hz := setRow_heap _ (w.heap.size + 1) _ (rcV r ⟨aS', cS', aD', cD', aH', cH', aW', cW', aY', cY', aB', cB', aA', cA'⟩) _ _ k2
 refine ret_cell (ty := 41) Tryz.results39 (w.heap.size + 1) (rcV r ⟨aS', cS', aD', cD', aH', cH', aW', cW', aY', cY', aB', cB', aA', cA'⟩) _ ?_ ?_ hz Tryz.underlying41 rfl (by kernel_rfl) ⟨⟨aS', cS', aD', cD', aH', cH', aW', cW', aY', cY', aB', cB', aA', cA'⟩, ⟨LHS, H'⟩, colZ w1.heap.size w2.heap.size mid wH0.heap.size w4.heap.size w5.heap.size w6.heap.size w7.heap.size, rfl, ?_, below_setRow' BV.out (by omega) _⟩
 ·rfl
 ·rfl
 clear hz k1 k2 K1 K2
 have LD := hid (show Lad w1.heap.size w2.heap.size mid wH0.heap.size w4.heap.size w5.heap.size w6.heap.size w7.heap.size by have := SE1.out; have := LZ1.out; have := SE2.out; have := LZ2.out; have := SE3.out; have := LZ3.out; have := SE4.out; have := LZ4.out; have := SE5.out; have := LZ5.out; have := SE6.out; have := LZ6.out; have := SE7.out; have := LZ7.out; have := IZH.out; have := IZA.out; exact ⟨by omega, by omega, by omega, by omega, by omega, by omega, by omega⟩)
 have RS := hid ((ZS.out.same (fun b h1 _ _ => setRow_other _ (w.heap.size + 1) b (rcV r ⟨aS', cS', aD', cD', aH', cH', aW', cW', aY', cY', aB', cB', aA', cA'⟩) (by have := LOS.out; omega))).row (B := w.heap.size) (by have := LOS.out; omega) (fun b h1 h2 => colZ_0 LD.out h2))
 have RDD := hid ((ZD.out.same (fun b h1 _ _ => setRow_other _ (w.heap.size + 1) b (rcV r ⟨aS', cS', aD', cD', aH', cH', aW', cW', aY', cY', aB', cB', aA', cA'⟩) (by have := LOD.out; omega))).row (B := w.heap.size) (by have := LOD.out; omega) (fun b h1 h2 => colZ_1 LD.out (by rw [SE1.out]; exact h1) h2))
 have RH := hid ((ZH.out.same (fun b h1 _ _ => setRow_other _ (w.heap.size + 1) b (rcV r ⟨aS', cS', aD', cD', aH', cH', aW', cW', aY', cY', aB', cB', aA', cA'⟩) (by have := LOH.out; omega))).row (B := w.heap.size) (by have := LOH.out; omega) (fun b h1 h2 => colZ_2 LD.out (by rw [SE2.out]; exact h1) h2))
 have RW := hid ((ZW.out.same (fun b h1 _ _ => setRow_other _ (w.heap.size + 1) b (rcV r ⟨aS', cS', aD', cD', aH', cH', aW', cW', aY', cY', aB', cB', aA', cA'⟩) (by have := LOW.out; omega))).row (B := w.heap.size) (by have := LOW.out; omega) (fun b h1 h2 => colZ_3 LD.out h1 h2))
 have RY := hid ((ZY.out.same (fun b h1 _ _ => setRow_other _ (w.heap.size + 1) b (rcV r ⟨aS', cS', aD', cD', aH', cH', aW', cW', aY', cY', aB', cB', aA', cA'⟩) (by have := LOY.out; omega))).row (B := w.heap.size) (by have := LOY.out; omega) (fun b h1 h2 => colZ_4 LD.out (by rw [SE4.out]; exact h1) h2))
 have RB := hid ((ZB.out.same (fun b h1 _ _ => setRow_other _ (w.heap.size + 1) b (rcV r ⟨aS', cS', aD', cD', aH', cH', aW', cW', aY', cY', aB', cB', aA', cA'⟩) (by have := LOB.out; omega))).row (B := w.heap.size) (by have := LOB.out; omega) (fun b h1 h2 => colZ_5 LD.out (by rw [SE5.out]; exact h1) h2))
 have RA := hid ((ZA.out.same (fun b h1 _ _ => setRow_other _ (w.heap.size + 1) b (rcV r ⟨aS', cS', aD', cD', aH', cH', aW', cW', aY', cY', aB', cB', aA', cA'⟩) (by have := LOA.out; omega))).row (B := w.heap.size) (by have := LOA.out; omega) (fun b h1 h2 => colZ_6 LD.out (by rw [SE6.out]; exact h1) h2))
 have RI := hid (InnZM.inn (B := w.heap.size) (InnZM.mk (fun m hm => (ZI.out.row m hm).same (fun b h1 _ _ => setRow_other _ (w.heap.size + 1) b (rcV r ⟨aS', cS', aD', cD', aH', cH', aW', cW', aY', cY', aB', cB', aA', cA'⟩) (by have := LOI.out; omega))) ZI.out.apart) (by have := LOI.out; omega) (fun b h1 h2 => colZ_7 LD.out (by exact h1) h2))
 have RJ := hid (InnZA.inn (B := w.heap.size) (InnZA.mk (fun m hm => (ZJ.out.row m hm).same (fun b h1 _ _ => setRow_other _ (w.heap.size + 1) b (rcV r ⟨aS', cS', aD', cD', aH', cH', aW', cW', aY', cY', aB', cB', aA', cA'⟩) (by have := LOJ.out; omega))) ZJ.out.apart) (by have := LOJ.out; omega) (fun b h1 h2 => colZ_8 LD.out (by rw [SE7.out]; exact h1)))
 exact ⟨RS.out, RDD.out, RH.out, HFH.out, RI.out, RW.out, RY.out, RB.out, RA.out, HF.out, RJ.out, RD.out.gd⟩
theorem copyRec (B : Nat) (r : Rc) (p : RcP) (X : RcX) (col : Nat → Nat) (w : World) (hS : RcSmall r) (h : RcHas B w r p X col) :
  Calls Tryz.prog 39 #[.agg (rcV r p)] w fun e w' => ∃ p' X' col', e = .returned (.agg (rcV r p')) ∧ RcHas w.heap.size w' r p' X' col' ∧ Below w.heap.size w w' := copyRec0 r p X w hS h.reads
end Go.Proofs.YtffklmlljekceaaGreat
