import Derived.Test.YtaeebedchbkniaaGreatDoorM47
namespace Go.Proofs.YtaeebedchbkniaaGreatDoor
set_option linter.all false
open Go.RowKit Go.Fl
set_option maxRecDepth 100000 in
set_option maxHeartbeats 8000000 in
theorem factors_out (a b c d x y p q r u n0 n1 n2 : Int) (z1 z2 : Bool) (w : World) (hA : AwT w) (hn1 : (CN 34 #[.agg #[.int .i64 a, .int .i64 b, .int .i64 c, .int .i64 d, .int .i64 x, .int .i64 y], .int .i64 300] (.bool z1))) (hn2 : (CN 34 #[.agg #[.int .i64 a, .int .i64 b, .int .i64 p, .int .i64 q, .int .i64 r, .int .i64 u], .int .i64 300] (.bool z2))) (hz : (z1 && z2) = false) : Calls Tryz.prog 6 #[.agg #[.int .i64 a, .int .i64 b, .int .i64 c, .int .i64 d, .int .i64 x, .int .i64 y], .agg #[.int .i64 p, .int .i64 q, .int .i64 r, .int .i64 u], .agg #[.int .i8 n0, .int .i8 n1, .int .i8 n2]] w fun e w' => e = .returned (.bool true) ∧ Below w.heap.size w w' := by
 have HK : Hid (KpT w [((w.heap.size + 1 + 1), 75, [.int .i8 n0, .int .i8 n1, .int .i8 n2]), ((w.heap.size + 1), 73, (i4 p q r u)), (w.heap.size, 40, (i6 a b c d x y))] [] (((w.alloc (.cells #[.int .i64 a, .int .i64 b, .int .i64 c, .int .i64 d, .int .i64 x, .int .i64 y] 40)).alloc (.cells #[.int .i64 p, .int .i64 q, .int .i64 r, .int .i64 u] 73)).alloc (.cells #[.int .i8 n0, .int .i8 n1, .int .i8 n2] 75))) := Lib.hid (KpT.cons (KpT.cons (KpT.cons (KpT.old (V := w) ⟨hA, fun r h => (List.not_mem_nil h).elim, fun r h => (List.not_mem_nil h).elim, Below.refl _ _⟩ ((((Below.refl _ _).alloc (Nat.le_refl _) _).alloc (by simp) _).alloc (by simp only [World.size_alloc]; omega) _)) (((Row.new w 40 [.int .i64 a, .int .i64 b, .int .i64 c, .int .i64 d, .int .i64 x, .int .i64 y]).alloc _).alloc _)) (row2.alloc _)) row3)
 have hn1 := Lib.hid hn1; have hn2 := Lib.hid hn2
 clear hA
 go_enter Tryz.func6, Tryz.ntmps6
 go_upto_region 1 with fail
 refine genT (fun V => KpT w [((w.heap.size + 1 + 1), 75, [.int .i8 n0, .int .i8 n1, .int .i8 n2]), ((w.heap.size + 1), 73, (i4 p q r u)), (w.heap.size, 40, (i6 a b c d x y))] [] V) HK.out ?_
 clear HK
 intro wc s0
 have HK := Lib.hid s0
 clear s0
 go_cut [7] from 43 to 49 (fun s7 wx => ∃ g7, s7 = .pointer (some ⟨g7, 0, none⟩) ∧ Hid (KpT w [(g7, 40, (i6 a b p q r u)), ((w.heap.size + 1 + 1), 75, [.int .i8 n0, .int .i8 n1, .int .i8 n2]), ((w.heap.size + 1), 73, (i4 p q r u)), (w.heap.size, 40, (i6 a b c d x y))] [] wx))
 case first =>
  have HV := HK
  obtain ⟨c0, c1, c2, c3, c4, c5⟩ := c6R (HK.out.row w.heap.size 40 (i6 a b c d x y) mm2)
  obtain ⟨d0, d1, d2, d3⟩ := c4R (HK.out.row (w.heap.size + 1) 73 (i4 p q r u) mm1)
  go_wp2_with (first
   | (refine wpList_store_row rfl 40 _ _ rfl (wc.heap.size) #[.int .i64 a, .int .i64 b, .int .i64 p, .int .i64 q, .int .i64 r, .int .i64 u] rfl rfl 40 _ (Row.new wc 40 [.int .i64 0, .int .i64 0, .int .i64 0, .int .i64 0, .int .i64 0, .int .i64 0]) ?_ ?_ ?_ ?_; (kernel_rfl); (rfl); (simp [Value.oneCell'])))
  go_meet
  exact ⟨_, rfl, Lib.hid (kc HV.out)⟩
 case rest =>
 clear HK
 obtain ⟨g7, rfl, HK⟩ := hcut
 cases z1
 case false =>
  have HV := HK
  go_upto_region 3 with (first | (go_at_call 9; refine (awake_ok _ HV.out.1).mono ?_; rintro e w2 ⟨rfl, hb⟩; replace HV := Lib.hid (HV.out.old hb); clear hb; obtain ⟨c0, c1, c2, c3, c4, c5⟩ := c6R (HV.out.row w.heap.size 40 (i6 a b c d x y) mm3)) | (have _ := mk1; go_at_call 34; refine (hn2.out _).mono ?_; rintro e w2 ⟨rfl, hb⟩; replace HV := Lib.hid (HV.out.old hb); clear hb) | (go_at_call 34; refine (hn1.out _).mono ?_; rintro e w2 ⟨rfl, hb⟩; replace HV := Lib.hid (HV.out.old hb); clear hb; have mk1 : True := trivial; obtain ⟨f0, f1, f2, f3, f4, f5⟩ := c6R (HV.out.row g7 40 (i6 a b p q r u) mm0)))
  go_wp2_with (first | (go_at_call 9; refine (awake_ok _ HV.out.1).mono ?_; rintro e w2 ⟨rfl, hb⟩; replace HV := Lib.hid (HV.out.old hb); clear hb))
  go_ret
  exact ⟨rfl, HV.out.2.2.2⟩
 case true =>
  obtain rfl : z2 = false := hz
  have HV := HK
  go_upto_region 3 with (first | (go_at_call 9; refine (awake_ok _ HV.out.1).mono ?_; rintro e w2 ⟨rfl, hb⟩; replace HV := Lib.hid (HV.out.old hb); clear hb; obtain ⟨c0, c1, c2, c3, c4, c5⟩ := c6R (HV.out.row w.heap.size 40 (i6 a b c d x y) mm3)) | (have _ := mk1; go_at_call 34; refine (hn2.out _).mono ?_; rintro e w2 ⟨rfl, hb⟩; replace HV := Lib.hid (HV.out.old hb); clear hb) | (go_at_call 34; refine (hn1.out _).mono ?_; rintro e w2 ⟨rfl, hb⟩; replace HV := Lib.hid (HV.out.old hb); clear hb; have mk1 : True := trivial; obtain ⟨f0, f1, f2, f3, f4, f5⟩ := c6R (HV.out.row g7 40 (i6 a b p q r u) mm0)))
  go_wp2_with (first | (go_at_call 9; refine (awake_ok _ HV.out.1).mono ?_; rintro e w2 ⟨rfl, hb⟩; replace HV := Lib.hid (HV.out.old hb); clear hb))
  go_ret
  exact ⟨rfl, HV.out.2.2.2⟩
set_option maxRecDepth 100000 in
set_option maxHeartbeats 16000000 in
theorem factors_law (a b c d x y p q r u n0 n1 n2 fr fi by0 nN nD lN lD gN gD sN sD mN mD vN vD cN cD zN zD xN s1 s2 s3 s4 s5 s6 b1 b2 b3 b4 b5 b6 o1 o2 o3 o4 o5 o6 k1 k2 k3 k4 k5 k6 j1 j2 j3 j4 j5 : Int) (A B C D X Y : Nat → Int) (zf : Bool) (w : World) (hA : AwT w) (hn1 : (CN 34 #[.agg #[.int .i64 a, .int .i64 b, .int .i64 c, .int .i64 d, .int .i64 x, .int .i64 y], .int .i64 300] (.bool true))) (hn2 : (CN 34 #[.agg #[.int .i64 a, .int .i64 b, .int .i64 p, .int .i64 q, .int .i64 r, .int .i64 u], .int .i64 300] (.bool true))) (hw0 : IntKind.i64.wrap (n0) = n0) (hw1 : IntKind.i64.wrap (n1) = n1) (hw2 : IntKind.i64.wrap (n2) = n2) (hr0 : n0.tmod 16 = fr) (hr1 : n1.tmod 16 = fi) (hr2 : n2.tmod 21 = by0) (hN : (CN 36 #[.agg #[.int .i64 a, .int .i64 b, .int .i64 c, .int .i64 d, .int .i64 x, .int .i64 y]] (.tuple #[.agg #[.int .i64 nN, .int .i64 nD], .int .i64 0]))) (hD : (CN 37 #[.agg #[.int .i64 a, .int .i64 b, .int .i64 c, .int .i64 d, .int .i64 x, .int .i64 y]] (.tuple #[.agg #[.int .i64 lN, .int .i64 lD], .agg #[.int .i64 gN, .int .i64 gD], .int .i64 0]))) (hS : (CN 38 #[.agg #[.int .i64 a, .int .i64 b, .int .i64 c, .int .i64 d, .int .i64 x, .int .i64 y]] (.tuple #[.agg #[.int .i64 sN, .int .i64 sD], .int .i64 0]))) (hR1 : (CN 39 #[.agg #[.int .i64 nN, .int .i64 nD]] (.bool true))) (hR2 : (CN 39 #[.agg #[.int .i64 lN, .int .i64 lD]] (.bool true))) (hR3 : (CN 39 #[.agg #[.int .i64 gN, .int .i64 gD]] (.bool true))) (hR4 : (CN 39 #[.agg #[.int .i64 sN, .int .i64 sD]] (.bool true))) (hR5 : (CN 39 #[.agg #[.int .i64 cN, .int .i64 cD]] (.bool true))) (hzf : (!(fr == 0 && fi == 0)) = zf) (hSc : zf = true → (CN 40 #[.agg #[.int .i64 a, .int .i64 b, .int .i64 c, .int .i64 d, .int .i64 x, .int .i64 y], .agg #[.int .i64 fr, .int .i64 fi], .agg #[.int .i64 fr, .int .i64 fi]] (.tuple #[.agg #[.int .i64 s1, .int .i64 s2, .int .i64 s3, .int .i64 s4, .int .i64 s5, .int .i64 s6], .int .i64 0]))) (hSN : zf = true → (CN 36 #[.agg #[.int .i64 s1, .int .i64 s2, .int .i64 s3, .int .i64 s4, .int .i64 s5, .int .i64 s6]] (.tuple #[.agg #[.int .i64 nN, .int .i64 nD], .int .i64 0]))) (hSD : zf = true → (CN 37 #[.agg #[.int .i64 s1, .int .i64 s2, .int .i64 s3, .int .i64 s4, .int .i64 s5, .int .i64 s6]] (.tuple #[.agg #[.int .i64 lN, .int .i64 lD], .agg #[.int .i64 gN, .int .i64 gD], .int .i64 0]))) (hSS : zf = true → (CN 38 #[.agg #[.int .i64 s1, .int .i64 s2, .int .i64 s3, .int .i64 s4, .int .i64 s5, .int .i64 s6]] (.tuple #[.agg #[.int .i64 sN, .int .i64 sD], .int .i64 0]))) (hA0 : A 0 = a ∧ B 0 = b ∧ C 0 = c ∧ D 0 = d ∧ X 0 = x ∧ Y 0 = y) (hA4 : A 4 = a ∧ B 4 = b ∧ C 4 = c ∧ D 4 = d ∧ X 4 = x ∧ Y 4 = y) (hT : ∀ k : Nat, k < 4 → ∀ W, Tn W → Calls Tryz.prog 41 #[.agg #[.int .i64 (A k), .int .i64 (B k), .int .i64 (C k), .int .i64 (D k), .int .i64 (X k), .int .i64 (Y k)], .int .i64 1] W fun e w' => e = .returned (.tuple #[.agg #[.int .i64 (A (k + 1)), .int .i64 (B (k + 1)), .int .i64 (C (k + 1)), .int .i64 (D (k + 1)), .int .i64 (X (k + 1)), .int .i64 (Y (k + 1))], .int .i64 0]) ∧ Below W.heap.size W w') (hTN : ∀ k : Nat, k < 4 → (CN 36 #[.agg #[.int .i64 (A (k + 1)), .int .i64 (B (k + 1)), .int .i64 (C (k + 1)), .int .i64 (D (k + 1)), .int .i64 (X (k + 1)), .int .i64 (Y (k + 1))]] (.tuple #[.agg #[.int .i64 nN, .int .i64 nD], .int .i64 0]))) (hSB : (CN 40 #[.agg #[.int .i64 a, .int .i64 b, .int .i64 c, .int .i64 d, .int .i64 x, .int .i64 y], .agg #[.int .i64 1, .int .i64 0], .agg #[.int .i64 by0, .int .i64 0]] (.tuple #[.agg #[.int .i64 b1, .int .i64 b2, .int .i64 b3, .int .i64 b4, .int .i64 b5, .int .i64 b6], .int .i64 0]))) (hBN : (CN 36 #[.agg #[.int .i64 b1, .int .i64 b2, .int .i64 b3, .int .i64 b4, .int .i64 b5, .int .i64 b6]] (.tuple #[.agg #[.int .i64 mN, .int .i64 mD], .int .i64 0]))) (hXN : (CN 36 #[.agg #[.int .i64 a, .int .i64 b, .int .i64 x, .int .i64 y, .int .i64 c, .int .i64 d]] (.tuple #[.agg #[.int .i64 xN, .int .i64 nD], .int .i64 0]))) (e1 : IntKind.i64.wrap (by0 * nN) = k1) (e2 : IntKind.i64.wrap (0 - nN) = xN) (e3 : IntKind.i64.wrap (sN * nD) = k2) (e4 : IntKind.i64.wrap (nN * sD) = k3) (e5 : IntKind.i64.wrap (k2 + k3) = k4) (e6 : IntKind.i64.wrap (sD * nD) = k5) (e7 : IntKind.i64.wrap (2 * lN) = k6) (hL1 : (CN 42 #[.int .i64 k1, .int .i64 nD] (.agg #[.int .i64 mN, .int .i64 mD]))) (hL2 : (CN 42 #[.int .i64 k4, .int .i64 k5] (.agg #[.int .i64 vN, .int .i64 vD]))) (hL3 : (CN 42 #[.int .i64 k6, .int .i64 lD] (.agg #[.int .i64 vN, .int .i64 vD]))) (hC : (CN 36 #[.agg #[.int .i64 a, .int .i64 b, .int .i64 p, .int .i64 q, .int .i64 r, .int .i64 u]] (.tuple #[.agg #[.int .i64 cN, .int .i64 cD], .int .i64 0]))) (hAd : (CN 44 #[.agg #[.int .i64 a, .int .i64 b, .int .i64 c, .int .i64 d, .int .i64 x, .int .i64 y], .agg #[.int .i64 a, .int .i64 b, .int .i64 p, .int .i64 q, .int .i64 r, .int .i64 u]] (.tuple #[.agg #[.int .i64 o1, .int .i64 o2, .int .i64 o3, .int .i64 o4, .int .i64 o5, .int .i64 o6], .int .i64 0]))) (hUN : (CN 36 #[.agg #[.int .i64 o1, .int .i64 o2, .int .i64 o3, .int .i64 o4, .int .i64 o5, .int .i64 o6]] (.tuple #[.agg #[.int .i64 zN, .int .i64 zD], .int .i64 0]))) (e8 : IntKind.i64.wrap (nN * cD) = j1) (e9 : IntKind.i64.wrap (cN * nD) = j2) (e10 : IntKind.i64.wrap (j1 + j2) = j3) (e11 : IntKind.i64.wrap (2 * nD) = j4) (e12 : IntKind.i64.wrap (j4 * cD) = j5) (hL4 : (CN 42 #[.int .i64 j3, .int .i64 j5] (.agg #[.int .i64 zN, .int .i64 zD]))) : Calls Tryz.prog 6 #[.agg #[.int .i64 a, .int .i64 b, .int .i64 c, .int .i64 d, .int .i64 x, .int .i64 y], .agg #[.int .i64 p, .int .i64 q, .int .i64 r, .int .i64 u], .agg #[.int .i8 n0, .int .i8 n1, .int .i8 n2]] w fun e w' => e = .returned (.bool true) ∧ Below w.heap.size w w' := by
 have HK : Hid (KpT w [((w.heap.size + 1 + 1), 75, [.int .i8 n0, .int .i8 n1, .int .i8 n2]), ((w.heap.size + 1), 73, (i4 p q r u)), (w.heap.size, 40, (i6 a b c d x y))] [] (((w.alloc (.cells #[.int .i64 a, .int .i64 b, .int .i64 c, .int .i64 d, .int .i64 x, .int .i64 y] 40)).alloc (.cells #[.int .i64 p, .int .i64 q, .int .i64 r, .int .i64 u] 73)).alloc (.cells #[.int .i8 n0, .int .i8 n1, .int .i8 n2] 75))) := Lib.hid (KpT.cons (KpT.cons (KpT.cons (KpT.old (V := w) ⟨hA, fun r h => (List.not_mem_nil h).elim, fun r h => (List.not_mem_nil h).elim, Below.refl _ _⟩ ((((Below.refl _ _).alloc (Nat.le_refl _) _).alloc (by simp) _).alloc (by simp only [World.size_alloc]; omega) _)) (((Row.new w 40 [.int .i64 a, .int .i64 b, .int .i64 c, .int .i64 d, .int .i64 x, .int .i64 y]).alloc _).alloc _)) (row2.alloc _)) row3)
 have HA0 := Lib.hid hA
 have hn1 := Lib.hid hn1
 have hn2 := Lib.hid hn2
 have hw0 := Lib.hid hw0
 have hw1 := Lib.hid hw1
 have hw2 := Lib.hid hw2
 have hr0 := Lib.hid hr0
 have hr1 := Lib.hid hr1
 have hr2 := Lib.hid hr2
 have hN := Lib.hid hN
 have hD := Lib.hid hD
 have hS := Lib.hid hS
 have hR1 := Lib.hid hR1
 have hR2 := Lib.hid hR2
 have hR3 := Lib.hid hR3
 have hR4 := Lib.hid hR4
 have hR5 := Lib.hid hR5
 have hzf := Lib.hid hzf
 have hSc := Lib.hid hSc
 have hSN := Lib.hid hSN
 have hSD := Lib.hid hSD
 have hSS := Lib.hid hSS
 have hA0 := Lib.hid hA0
 have hA4 := Lib.hid hA4
 have hT := Lib.hid hT
 have hTN := Lib.hid hTN
 have hSB := Lib.hid hSB
 have hBN := Lib.hid hBN
 have hXN := Lib.hid hXN
 have e1 := Lib.hid e1
 have e2 := Lib.hid e2
 have e3 := Lib.hid e3
 have e4 := Lib.hid e4
 have e5 := Lib.hid e5
 have e6 := Lib.hid e6
 have e7 := Lib.hid e7
 have hL1 := Lib.hid hL1
 have hL2 := Lib.hid hL2
 have hL3 := Lib.hid hL3
 have hC := Lib.hid hC
 have hAd := Lib.hid hAd
 have hUN := Lib.hid hUN
 have e8 := Lib.hid e8
 have e9 := Lib.hid e9
 have e10 := Lib.hid e10
 have e11 := Lib.hid e11
 have e12 := Lib.hid e12
 have hL4 := Lib.hid hL4
 clear hA
 go_enter Tryz.func6, Tryz.ntmps6
 go_upto_region 1 with fail
 refine genT (fun V => KpT w [((w.heap.size + 1 + 1), 75, [.int .i8 n0, .int .i8 n1, .int .i8 n2]), ((w.heap.size + 1), 73, (i4 p q r u)), (w.heap.size, 40, (i6 a b c d x y))] [] V) HK.out ?_
 clear HK
 intro wc s0
 have HK := Lib.hid s0
 clear s0
 go_cut [7] from 43 to 49 (fun s7 wx => ∃ g7, s7 = .pointer (some ⟨g7, 0, none⟩) ∧ Hid (KpT w [(g7, 40, (i6 a b p q r u)), ((w.heap.size + 1 + 1), 75, [.int .i8 n0, .int .i8 n1, .int .i8 n2]), ((w.heap.size + 1), 73, (i4 p q r u)), (w.heap.size, 40, (i6 a b c d x y))] [] wx))
 case first =>
  have HV := HK
  obtain ⟨c0, c1, c2, c3, c4, c5⟩ := c6R (HK.out.row w.heap.size 40 (i6 a b c d x y) mm2)
  obtain ⟨d0, d1, d2, d3⟩ := c4R (HK.out.row (w.heap.size + 1) 73 (i4 p q r u) mm1)
  go_wp2_with (first
   | (refine wpList_store_row rfl 40 _ _ rfl (wc.heap.size) #[.int .i64 a, .int .i64 b, .int .i64 p, .int .i64 q, .int .i64 r, .int .i64 u] rfl rfl 40 _ (Row.new wc 40 [.int .i64 0, .int .i64 0, .int .i64 0, .int .i64 0, .int .i64 0, .int .i64 0]) ?_ ?_ ?_ ?_; (kernel_rfl); (rfl); (simp [Value.oneCell'])))
  go_meet
  exact ⟨_, rfl, Lib.hid (kc HV.out)⟩
 case rest =>
 clear HK
 obtain ⟨g7, rfl, HK⟩ := hcut
 go_upto_region 2 with fail
 go_cut [61] from 50 to 60 (fun s61 wx => s61 = .bool false ∧ Hid (KpT w [(g7, 40, (i6 a b p q r u)), ((w.heap.size + 1 + 1), 75, [.int .i8 n0, .int .i8 n1, .int .i8 n2]), ((w.heap.size + 1), 73, (i4 p q r u)), (w.heap.size, 40, (i6 a b c d x y))] [] wx))
 case first =>
  have HV := HK
  go_wp2_with (first | (go_at_call 9; refine (awake_ok _ HV.out.1).mono ?_; rintro e w2 ⟨rfl, hb⟩; replace HV := Lib.hid (HV.out.old hb); clear hb; obtain ⟨c0, c1, c2, c3, c4, c5⟩ := c6R (HV.out.row w.heap.size 40 (i6 a b c d x y) mm3)) | (have _ := mk1; go_at_call 34; refine (hn2.out _).mono ?_; rintro e w2 ⟨rfl, hb⟩; replace HV := Lib.hid (HV.out.old hb); clear hb) | (go_at_call 34; refine (hn1.out _).mono ?_; rintro e w2 ⟨rfl, hb⟩; replace HV := Lib.hid (HV.out.old hb); clear hb; have mk1 : True := trivial; obtain ⟨f0, f1, f2, f3, f4, f5⟩ := c6R (HV.out.row g7 40 (i6 a b p q r u) mm0)))
  go_meet
  exact ⟨rfl, HV⟩
 case rest =>
 clear HK
 obtain ⟨rfl, HK⟩ := hcut
 go_upto_region 4 with fail
 go_cut [8, 9] from 63 to 75 (fun s8 s9 wx => ∃ g8, s8 = .pointer (some ⟨g8, 0, none⟩) ∧ s9 = .int .i64 by0 ∧ Hid (KpT w [(g8, 37, (i2 fr fi)), (g7, 40, (i6 a b p q r u)), ((w.heap.size + 1 + 1), 75, [.int .i8 n0, .int .i8 n1, .int .i8 n2]), ((w.heap.size + 1), 73, (i4 p q r u)), (w.heap.size, 40, (i6 a b c d x y))] [] wx))
 case first =>
  refine wp_region_held_drew (S := fun V => Below wc.heap.size wc V) (by kernel_rfl) ?_ (fun hHeld => ?_)
  · exact (Below.refl _ _).drew
  refine tk 0 63 ?_ rfl (by kernel_rfl) (fun _ _ _ h => h) (by kernel_rfl) ?_ hHeld ?_
  rotate_left
  · intro w1 hSw; (try dsimp only at hSw); go_simp <;> with_reducible rfl
  try simp only [zz]
  refine tk 1 64 (.int .i8 n0) rfl (by kernel_rfl) (fun _ _ _ h => h) (by kernel_rfl) (fun V hV => ex_cellI8 _ rfl (w.heap.size + 1 + 1) 0 rfl ((((HK.out.old hV).row (w.heap.size + 1 + 1) 75 [.int .i8 n0, .int .i8 n1, .int .i8 n2] mm1)).cell 0)) hHeld ?_
  try simp only [zz]
  refine tk 2 65 (.int .i64 n0) rfl (by kernel_rfl) (fun _ _ _ h => h) (by kernel_rfl) (fun V hV => ex_eqv (by kernel_rfl) hw0.out) hHeld ?_
  try simp only [zz]
  refine tk 3 66 (.int .i64 fr) rfl (by kernel_rfl) (fun _ _ _ h => h) (by kernel_rfl) (fun V hV => ex_eqv (by kernel_rfl) hr0.out) hHeld ?_
  try simp only [zz]
  refine tk 4 67 ?_ rfl (by kernel_rfl) (fun _ _ _ h => h) (by kernel_rfl) ?_ hHeld ?_
  rotate_left
  · intro w1 hSw; (try dsimp only at hSw); go_simp <;> with_reducible rfl
  try simp only [zz]
  refine tk 5 68 (.int .i8 n1) rfl (by kernel_rfl) (fun _ _ _ h => h) (by kernel_rfl) (fun V hV => ex_cellI8 _ rfl (w.heap.size + 1 + 1) 1 rfl ((((HK.out.old hV).row (w.heap.size + 1 + 1) 75 [.int .i8 n0, .int .i8 n1, .int .i8 n2] mm1)).cell 1)) hHeld ?_
  try simp only [zz]
  refine tk 6 69 (.int .i64 n1) rfl (by kernel_rfl) (fun _ _ _ h => h) (by kernel_rfl) (fun V hV => ex_eqv (by kernel_rfl) hw1.out) hHeld ?_
  try simp only [zz]
  refine tk 7 70 (.int .i64 fi) rfl (by kernel_rfl) (fun _ _ _ h => h) (by kernel_rfl) (fun V hV => ex_eqv (by kernel_rfl) hr1.out) hHeld ?_
  try simp only [zz]
  refine tk 9 72 ?_ rfl (by kernel_rfl) (fun _ _ _ h => h) (by kernel_rfl) ?_ hHeld ?_
  rotate_left
  · intro w1 hSw; (try dsimp only at hSw); go_simp <;> with_reducible rfl
  try simp only [zz]
  refine tk 10 73 (.int .i8 n2) rfl (by kernel_rfl) (fun _ _ _ h => h) (by kernel_rfl) (fun V hV => ex_cellI8 _ rfl (w.heap.size + 1 + 1) 2 rfl ((((HK.out.old hV).row (w.heap.size + 1 + 1) 75 [.int .i8 n0, .int .i8 n1, .int .i8 n2] mm1)).cell 2)) hHeld ?_
  try simp only [zz]
  refine tk 11 74 (.int .i64 n2) rfl (by kernel_rfl) (fun _ _ _ h => h) (by kernel_rfl) (fun V hV => ex_eqv (by kernel_rfl) hw2.out) hHeld ?_
  try simp only [zz]
  refine tk 12 75 (.int .i64 by0) rfl (by kernel_rfl) (fun _ _ _ h => h) (by kernel_rfl) (fun V hV => ex_eqv (by kernel_rfl) hr2.out) hHeld ?_
  try simp only [zz]
  refine wpAnyH_ready (rs := [8, 13]) (by kernel_rfl) (by simp) ?_
  refine AllReadyH.cons rfl (fun K hK => ?_) (AllReadyH.cons rfl (fun K hK => ?_) (AllReadyH.nil))
  ·
   go_simp
   go_at_call 35
   refine (at2_any _ _ _).mono ?_
   rintro e v8 ⟨rfl, hb8⟩
   have hz8 := hb8.size
   try simp only [World.size_alloc, size_drewT] at hz8
   try go_simp
   refine hK.out _ _ ?_ (fun hHeld => ?_)
   · exact hHeld.trans (hb8.mono hHeld.size)
   clear hK K
   try simp only [zz]
   refine st1 13 (by kernel_rfl) rfl (fun K hK => ?_)
   go_simp
   refine hK.out _ _ ?_ (fun hHeld => ?_)
   · exact hHeld.alloc hHeld.size _
   clear hK K
   try simp only [zz]
   refine st1 14 (by kernel_rfl) rfl (fun K hK => ?_)
   refine step_store_row rfl 37 _ _ rfl _ [.int .i64 fr, .int .i64 fi] rfl rfl 37 [.int .i64 0, .int .i64 0] ?_ (by kernel_rfl) rfl (by simp [Value.oneCell']) ?_
   · exact Row.new _ _ _
   refine hK.out _ _ ?_ (fun hHeld => ?_)
   · exact Below.setRow hHeld (by (try simp only [World.size_alloc, size_drewT] at *); omega) _
   clear hK K
   try simp only [zz]
   refine tk 15 9 ?_ rfl (by kernel_rfl) (fun _ _ _ h => h) (by kernel_rfl) ?_ hHeld ?_
   rotate_left
   · intro w1 hSw; (try dsimp only at hSw); go_simp <;> with_reducible rfl
   try simp only [zz]
   refine wpAnyH_done (by kernel_rfl) ?_ _
   go_wp2_with fail
   go_meet
   exact ⟨_, rfl, rfl, Lib.hid (KpT.cons (HK.out.old hHeld) (by exact (Row.new _ _ _).setRow _))⟩
  ·
   go_simp
   refine hK.out _ _ ?_ (fun hHeld => ?_)
   · exact hHeld.alloc hHeld.size _
   clear hK K
   try simp only [zz]
   refine st1 8 (by kernel_rfl) rfl (fun K hK => ?_)
   go_simp
   go_at_call 35
   refine (at2_any _ _ _).mono ?_
   rintro e v8 ⟨rfl, hb8⟩
   have hz8 := hb8.size
   try simp only [World.size_alloc, size_drewT] at hz8
   try go_simp
   refine hK.out _ _ ?_ (fun hHeld => ?_)
   · exact hHeld.trans (hb8.mono hHeld.size)
   clear hK K
   try simp only [zz]
   refine st1 14 (by kernel_rfl) rfl (fun K hK => ?_)
   refine step_store_row rfl 37 _ _ rfl _ [.int .i64 fr, .int .i64 fi] rfl rfl 37 [.int .i64 0, .int .i64 0] ?_ (by kernel_rfl) rfl (by simp [Value.oneCell']) ?_
   · exact ((Row.new _ _ _).drew).old hb8
   refine hK.out _ _ ?_ (fun hHeld => ?_)
   · exact Below.setRow hHeld (by (try simp only [World.size_alloc, size_drewT] at *); omega) _
   clear hK K
   try simp only [zz]
   refine tk 15 9 ?_ rfl (by kernel_rfl) (fun _ _ _ h => h) (by kernel_rfl) ?_ hHeld ?_
   rotate_left
   · intro w1 hSw; (try dsimp only at hSw); go_simp <;> with_reducible rfl
   try simp only [zz]
   refine wpAnyH_done (by kernel_rfl) ?_ _
   go_wp2_with fail
   go_meet
   exact ⟨_, rfl, rfl, Lib.hid (KpT.cons (HK.out.old hHeld) (by exact (((Row.new _ _ _).drew).old hb8).setRow _))⟩
 case rest =>
 clear HK
 obtain ⟨g8, rfl, rfl, HK⟩ := hcut
 go_upto_region 5 with fail
 go_cut [10, 11] from 76 to 80 (fun s10 s11 wx => ∃ g10, s10 = .pointer (some ⟨g10, 0, none⟩) ∧ s11 = .int .i64 0 ∧ Hid (KpT w [(g10, 79, (i2 nN nD)), (g8, 37, (i2 fr fi)), (g7, 40, (i6 a b p q r u)), ((w.heap.size + 1 + 1), 75, [.int .i8 n0, .int .i8 n1, .int .i8 n2]), ((w.heap.size + 1), 73, (i4 p q r u)), (w.heap.size, 40, (i6 a b c d x y))] [] wx))
 case first =>
  have HV := HK
  go_wp2_with (first
   | (refine wpList_load_row rfl 40 _ rfl w.heap.size rfl 40 #[.int .i64 a, .int .i64 b, .int .i64 c, .int .i64 d, .int .i64 x, .int .i64 y] (0, 0) _ (HV.out.row w.heap.size 40 (i6 a b c d x y) mm4) Tryz.underlying40 rfl ?_ ?_; (kernel_rfl))
   | (go_at_call 36; refine (hN.out _).mono ?_; rintro e w2 ⟨rfl, hb⟩; replace HV := Lib.hid (HV.out.old hb); clear hb)
   | (refine wpList_store_row rfl 79 _ _ rfl (w2.heap.size) #[.int .i64 nN, .int .i64 nD] rfl rfl 79 _ (Row.new w2 79 [.int .i64 0, .int .i64 0]) ?_ ?_ ?_ ?_; (kernel_rfl); (rfl); (simp [Value.oneCell'])))
  go_meet
  exact ⟨_, rfl, rfl, Lib.hid (kc HV.out)⟩
 case rest =>
 clear HK
 obtain ⟨g10, rfl, rfl, HK⟩ := hcut
 go_upto_region 6 with fail
 go_cut [12, 13, 14] from 81 to 86 (fun s12 s13 s14 wx => ∃ g12 g13, s12 = .pointer (some ⟨g12, 0, none⟩) ∧ s13 = .pointer (some ⟨g13, 0, none⟩) ∧ s14 = .int .i64 0 ∧ Hid (KpT w [(g13, 79, (i2 gN gD)), (g12, 79, (i2 lN lD)), (g10, 79, (i2 nN nD)), (g8, 37, (i2 fr fi)), (g7, 40, (i6 a b p q r u)), ((w.heap.size + 1 + 1), 75, [.int .i8 n0, .int .i8 n1, .int .i8 n2]), ((w.heap.size + 1), 73, (i4 p q r u)), (w.heap.size, 40, (i6 a b c d x y))] [] wx))
 case first =>
  have HV := HK
  go_wp2_with (first
   | (refine wpList_load_row rfl 40 _ rfl w.heap.size rfl 40 #[.int .i64 a, .int .i64 b, .int .i64 c, .int .i64 d, .int .i64 x, .int .i64 y] (0, 0) _ (HV.out.row w.heap.size 40 (i6 a b c d x y) mm5) Tryz.underlying40 rfl ?_ ?_; (kernel_rfl))
   | (go_at_call 37; refine (hD.out _).mono ?_; rintro e w2 ⟨rfl, hb⟩; replace HV := Lib.hid (HV.out.old hb); clear hb)
   | (refine wpList_store_row rfl 79 _ _ rfl (w2.heap.size) #[.int .i64 lN, .int .i64 lD] rfl rfl 79 _ ((Row.new w2 79 [.int .i64 0, .int .i64 0]).alloc (.cells ([.int .i64 0, .int .i64 0] : List Value).toArray 79)) ?_ ?_ ?_ ?_; (kernel_rfl); (rfl); (simp [Value.oneCell']))
   | (refine wpList_store_row rfl 79 _ _ rfl (w2.heap.size + 1) #[.int .i64 gN, .int .i64 gD] rfl rfl 79 _ ((row2 (w := w2) (t1 := 79) (t2 := 79) (L1 := [.int .i64 0, .int .i64 0]) (L2 := [.int .i64 0, .int .i64 0])).farRow (by omega : w2.heap.size + 1 ≠ w2.heap.size) #[.int .i64 lN, .int .i64 lD]) ?_ ?_ ?_ ?_; (kernel_rfl); (rfl); (simp [Value.oneCell'])))
  go_meet
  exact ⟨_, _, rfl, rfl, rfl, Lib.hid (KpT.cons (KpT.cons (HV.out.old (Below.setRow (Below.setRow (((Below.refl _ _).alloc (Nat.le_refl _) _).alloc (by simp) _) (Nat.le_refl _) _) (by omega) _)) ((((Row.new w2 79 [.int .i64 0, .int .i64 0]).alloc (.cells ([.int .i64 0, .int .i64 0] : List Value).toArray 79)).setRow [.int .i64 lN, .int .i64 lD]).farRow (by omega) _)) (((row2 (w := w2) (t1 := 79) (t2 := 79) (L1 := [.int .i64 0, .int .i64 0]) (L2 := [.int .i64 0, .int .i64 0])).farRow (by omega : w2.heap.size + 1 ≠ w2.heap.size) #[.int .i64 lN, .int .i64 lD]).setRow [.int .i64 gN, .int .i64 gD]))⟩
 case rest =>
 clear HK
 obtain ⟨g12, g13, rfl, rfl, rfl, HK⟩ := hcut
 go_upto_region 7 with fail
 go_cut [15, 16] from 87 to 91 (fun s15 s16 wx => ∃ g15, s15 = .pointer (some ⟨g15, 0, none⟩) ∧ s16 = .int .i64 0 ∧ Hid (KpT w [(g15, 79, (i2 sN sD)), (g13, 79, (i2 gN gD)), (g12, 79, (i2 lN lD)), (g10, 79, (i2 nN nD)), (g8, 37, (i2 fr fi)), (g7, 40, (i6 a b p q r u)), ((w.heap.size + 1 + 1), 75, [.int .i8 n0, .int .i8 n1, .int .i8 n2]), ((w.heap.size + 1), 73, (i4 p q r u)), (w.heap.size, 40, (i6 a b c d x y))] [] wx))
 case first =>
  have HV := HK
  go_wp2_with (first
   | (refine wpList_load_row rfl 40 _ rfl w.heap.size rfl 40 #[.int .i64 a, .int .i64 b, .int .i64 c, .int .i64 d, .int .i64 x, .int .i64 y] (0, 0) _ (HV.out.row w.heap.size 40 (i6 a b c d x y) mm7) Tryz.underlying40 rfl ?_ ?_; (kernel_rfl))
   | (go_at_call 38; refine (hS.out _).mono ?_; rintro e w2 ⟨rfl, hb⟩; replace HV := Lib.hid (HV.out.old hb); clear hb)
   | (refine wpList_store_row rfl 79 _ _ rfl (w2.heap.size) #[.int .i64 sN, .int .i64 sD] rfl rfl 79 _ (Row.new w2 79 [.int .i64 0, .int .i64 0]) ?_ ?_ ?_ ?_; (kernel_rfl); (rfl); (simp [Value.oneCell'])))
  go_meet
  exact ⟨_, rfl, rfl, Lib.hid (kc HV.out)⟩
 case rest =>
 clear HK
 obtain ⟨g15, rfl, rfl, HK⟩ := hcut
 go_upto_region 8 with fail
 go_cut [121] from 92 to 120 (fun s121 wx => s121 = .bool false ∧ Hid (KpT w (RB w g7 g8 g10 g12 g13 g15 a b c d x y p q r u n0 n1 n2 fr fi nN nD lN lD gN gD sN sD) [] wx))
 case first =>
  have HV := HK
  obtain ⟨c0x0, c0x1⟩ := c2R (HV.out.row g10 79 (i2 nN nD) mm3)
  go_wp2_with fail
  refine (hR1.out _).mono ?_
  rintro e w2 ⟨rfl, hb⟩
  replace HV := Lib.hid (HV.out.old hb)
  clear hb
  obtain ⟨c1x0, c1x1⟩ := c2R (HV.out.row g12 79 (i2 lN lD) mm2)
  go_wp2_with fail
  refine (hR2.out _).mono ?_
  rintro e w2 ⟨rfl, hb⟩
  replace HV := Lib.hid (HV.out.old hb)
  clear hb
  obtain ⟨c2x0, c2x1⟩ := c2R (HV.out.row g13 79 (i2 gN gD) mm1)
  go_wp2_with fail
  refine (hR3.out _).mono ?_
  rintro e w2 ⟨rfl, hb⟩
  replace HV := Lib.hid (HV.out.old hb)
  clear hb
  obtain ⟨c3x0, c3x1⟩ := c2R (HV.out.row g15 79 (i2 sN sD) mm0)
  go_wp2_with fail
  refine (hR4.out _).mono ?_
  rintro e w2 ⟨rfl, hb⟩
  replace HV := Lib.hid (HV.out.old hb)
  clear hb
  go_wp2_with fail
  go_meet
  exact ⟨rfl, HV⟩
 case rest =>
 clear HK
 obtain ⟨rfl, HK⟩ := hcut
 have hzg : ∀ W, (binOp .neq 37 (.agg #[.int .i64 fr, .int .i64 fi]) (.agg #[.int .i64 0, .int .i64 0])).run Tryz.prog W = .ok (.bool zf) W := fun W => by rw [neqG]; exact congrArg (fun z => Result.ok (Value.bool z) W) hzf.out
 go_upto_region 10 with fail
 go_cut [124] from 122 to 123 (fun s124 wx => s124 = .bool zf ∧ Hid (KpT w (RB w g7 g8 g10 g12 g13 g15 a b c d x y p q r u n0 n1 n2 fr fi nN nD lN lD gN gD sN sD) [] wx))
 case first =>
  have HV := HK
  go_wp2_with (refine wpList_load_row rfl 37 _ rfl g8 rfl 37 #[.int .i64 fr, .int .i64 fi] (0, 0) _ (HV.out.row g8 37 (i2 fr fi) mm4) Tryz.underlying37 rfl ?_ ?_; (kernel_rfl))
  go_meet
  exact ⟨rfl, HV⟩
 case rest =>
 clear HK hzg
 obtain ⟨rfl, HK⟩ := hcut
 go_upto_if 124 with fail
 go_cut [] from 17 to 183 (fun wx => Hid (KpT w (RB w g7 g8 g10 g12 g13 g15 a b c d x y p q r u n0 n1 n2 fr fi nN nD lN lD gN gD sN sD) [] wx))
 case first =>
  cases zf
  · clear hSc hSN hSD hSS
    go_wp2_with fail
    go_meet
    exact HK
  · replace hSc := Lib.hid (hSc.out rfl); replace hSN := Lib.hid (hSN.out rfl); replace hSD := Lib.hid (hSD.out rfl); replace hSS := Lib.hid (hSS.out rfl)
    go_upto_region 11 with fail
    go_cut [17, 18] from 125 to 131 (fun s17 s18 wx => ∃ g17, s17 = .pointer (some ⟨g17, 0, none⟩) ∧ s18 = .int .i64 0 ∧ Hid (KpT w ((g17, 39, (i6 s1 s2 s3 s4 s5 s6)) :: RB w g7 g8 g10 g12 g13 g15 a b c d x y p q r u n0 n1 n2 fr fi nN nD lN lD gN gD sN sD) [] wx))
    case first =>
     have HV := HK
     go_wp2_with (first
      | (refine wpList_load_row rfl 40 _ rfl w.heap.size rfl 40 #[.int .i64 a, .int .i64 b, .int .i64 c, .int .i64 d, .int .i64 x, .int .i64 y] (0, 0) _ (HV.out.row w.heap.size 40 (i6 a b c d x y) mm8) Tryz.underlying40 rfl ?_ ?_; (kernel_rfl))
      | (refine wpList_load_row rfl 37 _ rfl g8 rfl 37 #[.int .i64 fr, .int .i64 fi] (0, 0) _ (HV.out.row g8 37 (i2 fr fi) mm4) Tryz.underlying37 rfl ?_ ?_; (kernel_rfl))
      | (go_at_call 40; refine (hSc.out _).mono ?_; rintro e w2 ⟨rfl, hb⟩; replace HV := Lib.hid (HV.out.old hb); clear hb)
      | (refine wpList_store_row rfl 39 _ _ rfl (w2.heap.size) #[.int .i64 s1, .int .i64 s2, .int .i64 s3, .int .i64 s4, .int .i64 s5, .int .i64 s6] rfl rfl 39 _ (Row.new w2 39 [.int .i64 0, .int .i64 0, .int .i64 0, .int .i64 0, .int .i64 0, .int .i64 0]) ?_ ?_ ?_ ?_; (kernel_rfl); (rfl); (simp [Value.oneCell'])))
     go_meet
     exact ⟨_, rfl, rfl, Lib.hid (kc HV.out)⟩
    case rest =>
    clear HK
    obtain ⟨g17, rfl, rfl, HK⟩ := hcut
    go_upto_region 14 with fail
    go_cut [19, 20] from 134 to 138 (fun s19 s20 wx => ∃ g19, s19 = .pointer (some ⟨g19, 0, none⟩) ∧ s20 = .int .i64 0 ∧ Hid (KpT w ((g19, 79, (i2 nN nD)) :: (g17, 39, (i6 s1 s2 s3 s4 s5 s6)) :: RB w g7 g8 g10 g12 g13 g15 a b c d x y p q r u n0 n1 n2 fr fi nN nD lN lD gN gD sN sD) [] wx))
    case first =>
     have HV := HK
     go_wp2_with (first
      | (refine wpList_load_row rfl 39 _ rfl g17 rfl 39 #[.int .i64 s1, .int .i64 s2, .int .i64 s3, .int .i64 s4, .int .i64 s5, .int .i64 s6] (0, 0) _ (HV.out.row g17 39 (i6 s1 s2 s3 s4 s5 s6) mm0) Tryz.underlying39 rfl ?_ ?_; (kernel_rfl))
      | (go_at_call 36; refine (hSN.out _).mono ?_; rintro e w2 ⟨rfl, hb⟩; replace HV := Lib.hid (HV.out.old hb); clear hb)
      | (refine wpList_store_row rfl 79 _ _ rfl (w2.heap.size) #[.int .i64 nN, .int .i64 nD] rfl rfl 79 _ (Row.new w2 79 [.int .i64 0, .int .i64 0]) ?_ ?_ ?_ ?_; (kernel_rfl); (rfl); (simp [Value.oneCell'])))
     go_meet
     exact ⟨_, rfl, rfl, Lib.hid (kc HV.out)⟩
    case rest =>
    clear HK
    obtain ⟨g19, rfl, rfl, HK⟩ := hcut
    go_upto_region 15 with fail
    go_cut [21, 22, 23] from 139 to 144 (fun s21 s22 s23 wx => ∃ g21 g22, s21 = .pointer (some ⟨g21, 0, none⟩) ∧ s22 = .pointer (some ⟨g22, 0, none⟩) ∧ s23 = .int .i64 0 ∧ Hid (KpT w ((g22, 79, (i2 gN gD)) :: (g21, 79, (i2 lN lD)) :: (g19, 79, (i2 nN nD)) :: (g17, 39, (i6 s1 s2 s3 s4 s5 s6)) :: RB w g7 g8 g10 g12 g13 g15 a b c d x y p q r u n0 n1 n2 fr fi nN nD lN lD gN gD sN sD) [] wx))
    case first =>
     have HV := HK
     go_wp2_with (first
      | (refine wpList_load_row rfl 39 _ rfl g17 rfl 39 #[.int .i64 s1, .int .i64 s2, .int .i64 s3, .int .i64 s4, .int .i64 s5, .int .i64 s6] (0, 0) _ (HV.out.row g17 39 (i6 s1 s2 s3 s4 s5 s6) mm1) Tryz.underlying39 rfl ?_ ?_; (kernel_rfl))
      | (go_at_call 37; refine (hSD.out _).mono ?_; rintro e w2 ⟨rfl, hb⟩; replace HV := Lib.hid (HV.out.old hb); clear hb)
      | (refine wpList_store_row rfl 79 _ _ rfl (w2.heap.size) #[.int .i64 lN, .int .i64 lD] rfl rfl 79 _ ((Row.new w2 79 [.int .i64 0, .int .i64 0]).alloc (.cells ([.int .i64 0, .int .i64 0] : List Value).toArray 79)) ?_ ?_ ?_ ?_; (kernel_rfl); (rfl); (simp [Value.oneCell']))
      | (refine wpList_store_row rfl 79 _ _ rfl (w2.heap.size + 1) #[.int .i64 gN, .int .i64 gD] rfl rfl 79 _ ((row2 (w := w2) (t1 := 79) (t2 := 79) (L1 := [.int .i64 0, .int .i64 0]) (L2 := [.int .i64 0, .int .i64 0])).farRow (by omega : w2.heap.size + 1 ≠ w2.heap.size) #[.int .i64 lN, .int .i64 lD]) ?_ ?_ ?_ ?_; (kernel_rfl); (rfl); (simp [Value.oneCell'])))
     go_meet
     exact ⟨_, _, rfl, rfl, rfl, Lib.hid (KpT.cons (KpT.cons (HV.out.old (Below.setRow (Below.setRow (((Below.refl _ _).alloc (Nat.le_refl _) _).alloc (by simp) _) (Nat.le_refl _) _) (by omega) _)) ((((Row.new w2 79 [.int .i64 0, .int .i64 0]).alloc (.cells ([.int .i64 0, .int .i64 0] : List Value).toArray 79)).setRow [.int .i64 lN, .int .i64 lD]).farRow (by omega) _)) (((row2 (w := w2) (t1 := 79) (t2 := 79) (L1 := [.int .i64 0, .int .i64 0]) (L2 := [.int .i64 0, .int .i64 0])).farRow (by omega : w2.heap.size + 1 ≠ w2.heap.size) #[.int .i64 lN, .int .i64 lD]).setRow [.int .i64 gN, .int .i64 gD]))⟩
    case rest =>
    clear HK
    obtain ⟨g21, g22, rfl, rfl, rfl, HK⟩ := hcut
    go_upto_region 16 with fail
    go_cut [24, 25] from 145 to 149 (fun s24 s25 wx => ∃ g24, s24 = .pointer (some ⟨g24, 0, none⟩) ∧ s25 = .int .i64 0 ∧ Hid (KpT w ((g24, 79, (i2 sN sD)) :: (g22, 79, (i2 gN gD)) :: (g21, 79, (i2 lN lD)) :: (g19, 79, (i2 nN nD)) :: (g17, 39, (i6 s1 s2 s3 s4 s5 s6)) :: RB w g7 g8 g10 g12 g13 g15 a b c d x y p q r u n0 n1 n2 fr fi nN nD lN lD gN gD sN sD) [] wx))
    case first =>
     have HV := HK
     go_wp2_with (first
      | (refine wpList_load_row rfl 39 _ rfl g17 rfl 39 #[.int .i64 s1, .int .i64 s2, .int .i64 s3, .int .i64 s4, .int .i64 s5, .int .i64 s6] (0, 0) _ (HV.out.row g17 39 (i6 s1 s2 s3 s4 s5 s6) mm3) Tryz.underlying39 rfl ?_ ?_; (kernel_rfl))
      | (go_at_call 38; refine (hSS.out _).mono ?_; rintro e w2 ⟨rfl, hb⟩; replace HV := Lib.hid (HV.out.old hb); clear hb)
      | (refine wpList_store_row rfl 79 _ _ rfl (w2.heap.size) #[.int .i64 sN, .int .i64 sD] rfl rfl 79 _ (Row.new w2 79 [.int .i64 0, .int .i64 0]) ?_ ?_ ?_ ?_; (kernel_rfl); (rfl); (simp [Value.oneCell'])))
     go_meet
     exact ⟨_, rfl, rfl, Lib.hid (kc HV.out)⟩
    case rest =>
    clear HK
    obtain ⟨g24, rfl, rfl, HK⟩ := hcut
    go_upto_region 17 with fail
    go_cut [183] from 150 to 182 (fun s183 wx => s183 = .bool false ∧ Hid (KpT w ((g24, 79, (i2 sN sD)) :: (g22, 79, (i2 gN gD)) :: (g21, 79, (i2 lN lD)) :: (g19, 79, (i2 nN nD)) :: (g17, 39, (i6 s1 s2 s3 s4 s5 s6)) :: RB w g7 g8 g10 g12 g13 g15 a b c d x y p q r u n0 n1 n2 fr fi nN nD lN lD gN gD sN sD) [] wx))
    case first =>
     have HV := HK
     have q1 := neqR_self nN nD; have q2 := neqR_self lN lD; have q3 := neqR_self gN gD; have q4 := neqR_self sN sD
     obtain ⟨c19x0, c19x1⟩ := c2R (HV.out.row g19 79 (i2 nN nD) mm3); obtain ⟨c10x0, c10x1⟩ := c2R (HV.out.row g10 79 (i2 nN nD) mm8); obtain ⟨c21x0, c21x1⟩ := c2R (HV.out.row g21 79 (i2 lN lD) mm2); obtain ⟨c12x0, c12x1⟩ := c2R (HV.out.row g12 79 (i2 lN lD) mm7); obtain ⟨c22x0, c22x1⟩ := c2R (HV.out.row g22 79 (i2 gN gD) mm1); obtain ⟨c13x0, c13x1⟩ := c2R (HV.out.row g13 79 (i2 gN gD) mm6); obtain ⟨c24x0, c24x1⟩ := c2R (HV.out.row g24 79 (i2 sN sD) mm0); obtain ⟨c15x0, c15x1⟩ := c2R (HV.out.row g15 79 (i2 sN sD) mm5)
     go_wp2_with fail
     go_meet
     exact ⟨rfl, HV⟩
    case rest =>
    clear HK
    obtain ⟨rfl, HK⟩ := hcut
    go_wp2_with fail
    go_meet
    exact Lib.hid ((KpT.drop (KpT.drop (KpT.drop (KpT.drop (KpT.drop HK.out))))))
 case rest =>
 clear HK hSc hSN hSD hSS
 have HK := hcut
 clear hcut
 obtain ⟨B0, hB0⟩ : ∃ B0 : Nat, B0 = wc.heap.size := ⟨_, rfl⟩
 have HOLD : Hid (w.heap.size ≤ B0 ∧ ∀ rr ∈ ((RB w g7 g8 g10 g12 g13 g15 a b c d x y p q r u n0 n1 n2 fr fi nN nD lN lD gN gD sN sD) : List (Nat × TypeId × List Value)), rr.1 ≠ B0) := by
  rw [hB0]
  exact ⟨HK.out.2.2.2.size, fun r hr => Nat.ne_of_lt (HK.out.2.1 r hr).lt⟩
 go_upto_region 19 with fail
 go_cut [26] from 184 to 184 (fun s26 wx => s26 = .pointer (some ⟨B0, 0, none⟩) ∧ Hid (KpT w ((B0, 39, (i6 a b c d x y)) :: (RB w g7 g8 g10 g12 g13 g15 a b c d x y p q r u n0 n1 n2 fr fi nN nD lN lD gN gD sN sD)) [] wx))
 case first =>
  have HV := HK
  go_wp2_with (first | (refine wpList_load_row rfl 40 _ rfl w.heap.size rfl 40 #[.int .i64 a, .int .i64 b, .int .i64 c, .int .i64 d, .int .i64 x, .int .i64 y] (0, 0) _ (HV.out.row w.heap.size 40 (i6 a b c d x y) mm8) Tryz.underlying40 rfl ?_ ?_; (kernel_rfl)) | (refine wpList_store_row rfl 39 _ _ rfl (wc.heap.size) #[.int .i64 a, .int .i64 b, .int .i64 c, .int .i64 d, .int .i64 x, .int .i64 y] rfl rfl 39 _ (Row.new wc 39 [.int .i64 0, .int .i64 0, .int .i64 0, .int .i64 0, .int .i64 0, .int .i64 0]) ?_ ?_ ?_ ?_; (kernel_rfl); (rfl); (simp [Value.oneCell'])))
  go_meet
  exact ⟨by rw [hB0], Lib.hid (by rw [hB0]; exact KpT.cons (HV.out.old (Below.setRow ((Below.refl _ _).alloc (Nat.le_refl _) _) (Nat.le_refl _) _)) ((Row.new wc 39 [.int .i64 0, .int .i64 0, .int .i64 0, .int .i64 0, .int .i64 0, .int .i64 0]).setRow [.int .i64 a, .int .i64 b, .int .i64 c, .int .i64 d, .int .i64 x, .int .i64 y]))⟩
 case rest =>
 clear HK hB0
 obtain ⟨rfl, HK⟩ := hcut
 obtain ⟨g26, hg⟩ : ∃ g26, g26 = B0 := ⟨_, rfl⟩
 subst hg
 have HX := HOLD
 clear HOLD
 have HG26 : Hid (w.heap.size ≤ g26) := HX.out.1
 have HN26 : Hid (∀ rr ∈ ((RB w g7 g8 g10 g12 g13 g15 a b c d x y p q r u n0 n1 n2 fr fi nN nD lN lD gN gD sN sD) : List (Nat × TypeId × List Value)), rr.1 ≠ g26) := HX.out.2
 clear HX
 have Hne : Hid (∀ rr ∈ ((RB w g7 g8 g10 g12 g13 g15 a b c d x y p q r u n0 n1 n2 fr fi nN nD lN lD gN gD sN sD) : List (Nat × TypeId × List Value)), rr.1 ≠ g26) := HN26
 clear HN26
 go_wp2_with fail
 go_loopw [185] (fun s185 wr => ∃ k : Nat, k ≤ 4 ∧ s185 = .int .i64 k ∧ Hid (KpT w ((g26, 39, (i6 (A k) (B k) (C k) (D k) (X k) (Y k))) :: RB w g7 g8 g10 g12 g13 g15 a b c d x y p q r u n0 n1 n2 fr fi nN nD lN lD gN gD sN sD) [] wr)) (fun s185 _ => 4 - (intOf s185).toNat)
 case atStart => exact ⟨0, by omega, rfl, by
  obtain ⟨z1, z2, z3, z4, z5, z6⟩ := hA0.out
  show Hid (KpT w ((g26, 39, (i6 (A 0) (B 0) (C 0) (D 0) (X 0) (Y 0))) :: (RB w g7 g8 g10 g12 g13 g15 a b c d x y p q r u n0 n1 n2 fr fi nN nD lN lD gN gD sN sD)) [] _)
  rw [z1, z2, z3, z4, z5, z6]
  exact HK⟩
 case round =>
 clear HK
 obtain ⟨k, hk, rfl, HK⟩ := hrel
 by_cases hlt : k < 4
 · have h1 : decide ((k : Int) < 4) = true := by simpa using (by omega : (k : Int) < 4)
   have hTk := Lib.hid (hT.out k hlt); have hTNk := Lib.hid (hTN.out k hlt)
   obtain ⟨wc, hwc⟩ : ∃ W : World, W = wr := ⟨_, rfl⟩
   subst hwc
   have Hlt := Lib.hid hlt
   clear hlt
   go_upto_region 22 with fail
   go_cut [27, 28] from 187 to 191 (fun s27 s28 wx => ∃ g27, s27 = .pointer (some ⟨g27, 0, none⟩) ∧ s28 = .int .i64 0 ∧ Hid (KpT w ((g27, 39, (i6 (A (k + 1)) (B (k + 1)) (C (k + 1)) (D (k + 1)) (X (k + 1)) (Y (k + 1)))) :: (g26, 39, (i6 (A k) (B k) (C k) (D k) (X k) (Y k))) :: RB w g7 g8 g10 g12 g13 g15 a b c d x y p q r u n0 n1 n2 fr fi nN nD lN lD gN gD sN sD) [] wx))
   case first =>
    have HV := HK
    go_wp2_with (first
     | (refine wpList_load_row rfl 39 _ rfl g26 rfl 39 #[.int .i64 (A k), .int .i64 (B k), .int .i64 (C k), .int .i64 (D k), .int .i64 (X k), .int .i64 (Y k)] (0, 0) _ (HV.out.row g26 39 (i6 (A k) (B k) (C k) (D k) (X k) (Y k)) mm0) Tryz.underlying39 rfl ?_ ?_; (kernel_rfl))
     | (go_at_call 41; refine (hTk.out _ HV.out.1.1).mono ?_; rintro e w2 ⟨rfl, hb⟩; replace HV := Lib.hid (HV.out.old hb); clear hb)
     | (refine wpList_store_row rfl 39 _ _ rfl (w2.heap.size) #[.int .i64 (A (k + 1)), .int .i64 (B (k + 1)), .int .i64 (C (k + 1)), .int .i64 (D (k + 1)), .int .i64 (X (k + 1)), .int .i64 (Y (k + 1))] rfl rfl 39 _ (Row.new w2 39 [.int .i64 0, .int .i64 0, .int .i64 0, .int .i64 0, .int .i64 0, .int .i64 0]) ?_ ?_ ?_ ?_; (kernel_rfl); (rfl); (simp [Value.oneCell'])))
    go_meet
    exact ⟨_, rfl, rfl, Lib.hid (kc HV.out)⟩
   case rest =>
   clear HK
   obtain ⟨g27, rfl, rfl, HK⟩ := hcut
   go_upto_region 23 with fail
   go_cut [29, 30] from 192 to 196 (fun s29 s30 wx => ∃ g29, s29 = .pointer (some ⟨g29, 0, none⟩) ∧ s30 = .int .i64 0 ∧ Hid (KpT w ((g29, 79, (i2 nN nD)) :: (g27, 39, (i6 (A (k + 1)) (B (k + 1)) (C (k + 1)) (D (k + 1)) (X (k + 1)) (Y (k + 1)))) :: (g26, 39, (i6 (A k) (B k) (C k) (D k) (X k) (Y k))) :: RB w g7 g8 g10 g12 g13 g15 a b c d x y p q r u n0 n1 n2 fr fi nN nD lN lD gN gD sN sD) [] wx))
   case first =>
    have HV := HK
    go_wp2_with (first
     | (refine wpList_load_row rfl 39 _ rfl g27 rfl 39 #[.int .i64 (A (k + 1)), .int .i64 (B (k + 1)), .int .i64 (C (k + 1)), .int .i64 (D (k + 1)), .int .i64 (X (k + 1)), .int .i64 (Y (k + 1))] (0, 0) _ (HV.out.row g27 39 (i6 (A (k + 1)) (B (k + 1)) (C (k + 1)) (D (k + 1)) (X (k + 1)) (Y (k + 1))) mm0) Tryz.underlying39 rfl ?_ ?_; (kernel_rfl))
     | (go_at_call 36; refine (hTNk.out _).mono ?_; rintro e w2 ⟨rfl, hb⟩; replace HV := Lib.hid (HV.out.old hb); clear hb)
     | (refine wpList_store_row rfl 79 _ _ rfl (w2.heap.size) #[.int .i64 nN, .int .i64 nD] rfl rfl 79 _ (Row.new w2 79 [.int .i64 0, .int .i64 0]) ?_ ?_ ?_ ?_; (kernel_rfl); (rfl); (simp [Value.oneCell'])))
    go_meet
    exact ⟨_, rfl, rfl, Lib.hid (kc HV.out)⟩
   case rest =>
   clear HK
   obtain ⟨g29, rfl, rfl, HK⟩ := hcut
   go_upto_region 24 with fail
   go_cut [207] from 197 to 206 (fun s207 wx => s207 = .bool false ∧ Hid (KpT w ((g29, 79, (i2 nN nD)) :: (g27, 39, (i6 (A (k + 1)) (B (k + 1)) (C (k + 1)) (D (k + 1)) (X (k + 1)) (Y (k + 1)))) :: (g26, 39, (i6 (A k) (B k) (C k) (D k) (X k) (Y k))) :: RB w g7 g8 g10 g12 g13 g15 a b c d x y p q r u n0 n1 n2 fr fi nN nD lN lD gN gD sN sD) [] wx))
   case first =>
    have HV := HK
    have q1 := neqR_self nN nD
    obtain ⟨c0, c1⟩ := c2R (HV.out.row g29 79 (i2 nN nD) mm0); obtain ⟨f0, f1⟩ := c2R (HV.out.row g10 79 (i2 nN nD) mm6)
    go_wp2_with fail
    go_meet
    exact ⟨rfl, HV⟩
   case rest =>
   clear HK
   obtain ⟨rfl, HK⟩ := hcut
   have HF : Hid (KpT w (RB w g7 g8 g10 g12 g13 g15 a b c d x y p q r u n0 n1 n2 fr fi nN nD lN lD gN gD sN sD) [] wc) := Lib.hid (KpT.drop (KpT.drop (KpT.drop HK.out)))
   have HG : Hid (Row wc g26 39 [.int .i64 (A k), .int .i64 (B k), .int .i64 (C k), .int .i64 (D k), .int .i64 (X k), .int .i64 (Y k)]) := (HK.out.row g26 39 (i6 (A k) (B k) (C k) (D k) (X k) (Y k)) mm2)
   have hg26 : w.heap.size ≤ g26 := HG26.out
   go_upto_region 27 with (first | (refine wpList_load_row rfl 39 _ rfl g27 rfl 39 #[.int .i64 (A (k + 1)), .int .i64 (B (k + 1)), .int .i64 (C (k + 1)), .int .i64 (D (k + 1)), .int .i64 (X (k + 1)), .int .i64 (Y (k + 1))] (0, 0) _ (HK.out.row g27 39 (i6 (A (k + 1)) (B (k + 1)) (C (k + 1)) (D (k + 1)) (X (k + 1)) (Y (k + 1))) mm1) Tryz.underlying39 rfl ?_ ?_; (kernel_rfl)) | (refine wpList_store_row rfl 39 _ _ rfl (g26) #[.int .i64 (A (k + 1)), .int .i64 (B (k + 1)), .int .i64 (C (k + 1)), .int .i64 (D (k + 1)), .int .i64 (X (k + 1)), .int .i64 (Y (k + 1))] rfl rfl 39 _ HG.out ?_ ?_ ?_ ?_; (kernel_rfl); (rfl); (simp [Value.oneCell'])))
   go_wp2_with fail
   go_roundw
   case rel =>
    refine ⟨k + 1, by have := Hlt.out; omega, by go_num, Lib.hid (KpT.cons (KpT.set HA0.out HF.out HG26.out Hne.out) (HG.out.setRow [.int .i64 (A (k + 1)), .int .i64 (B (k + 1)), .int .i64 (C (k + 1)), .int .i64 (D (k + 1)), .int .i64 (X (k + 1)), .int .i64 (Y (k + 1))]))⟩
   case measure => have := Hlt.out; simp [intOf]; omega
 · obtain rfl : k = 4 := by omega
   have h1 : decide (((4 : Nat) : Int) < 4) = false := rfl
   obtain ⟨wc, hwc⟩ : ∃ W : World, W = wr := ⟨_, rfl⟩
   subst hwc
   replace HK : Hid (KpT w ((g26, 39, (i6 a b c d x y)) :: RB w g7 g8 g10 g12 g13 g15 a b c d x y p q r u n0 n1 n2 fr fi nN nD lN lD gN gD sN sD) [] wc) := by
    obtain ⟨z1, z2, z3, z4, z5, z6⟩ := hA4.out
    have h := HK.out
    rw [z1, z2, z3, z4, z5, z6] at h
    exact Lib.hid h
   clear hT hTN hA0 hA4 hk Hne
   go_upto_region 28 with fail
   go_cut [212] from 210 to 211 (fun s212 wx => s212 = .bool false ∧ Hid (KpT w ((g26, 39, (i6 a b c d x y)) :: RB w g7 g8 g10 g12 g13 g15 a b c d x y p q r u n0 n1 n2 fr fi nN nD lN lD gN gD sN sD) [] wx))
   case first =>
    have HV := HK
    have q1 := neqTS_self a b c d x y
    go_wp2_with (first | (refine wpList_load_row rfl 39 _ rfl g26 rfl 39 #[.int .i64 a, .int .i64 b, .int .i64 c, .int .i64 d, .int .i64 x, .int .i64 y] (0, 0) _ (HV.out.row g26 39 (i6 a b c d x y) mm0) Tryz.underlying39 rfl ?_ ?_; (kernel_rfl)) | (refine wpList_load_row rfl 40 _ rfl w.heap.size rfl 40 #[.int .i64 a, .int .i64 b, .int .i64 c, .int .i64 d, .int .i64 x, .int .i64 y] (0, 0) _ (HV.out.row w.heap.size 40 (i6 a b c d x y) mm9) Tryz.underlying40 rfl ?_ ?_; (kernel_rfl)))
    go_meet
    exact ⟨rfl, HV⟩
   case rest =>
   clear HK
   obtain ⟨rfl, HK⟩ := hcut
   go_upto_region 30 with fail
   go_cut [31, 32] from 213 to 220 (fun s31 s32 wx => ∃ g31, s31 = .pointer (some ⟨g31, 0, none⟩) ∧ s32 = .int .i64 0 ∧ Hid (KpT w ((g31, 39, (i6 b1 b2 b3 b4 b5 b6)) :: (g26, 39, (i6 a b c d x y)) :: RB w g7 g8 g10 g12 g13 g15 a b c d x y p q r u n0 n1 n2 fr fi nN nD lN lD gN gD sN sD) [] wx))
   case first =>
    refine wp_region_held_drew (S := fun V => Below wc.heap.size wc V) (by kernel_rfl) ?_ (fun hHeld => ?_)
    · exact (Below.refl _ _).drew
    refine tk 0 214 (.agg #[.int .i64 a, .int .i64 b, .int .i64 c, .int .i64 d, .int .i64 x, .int .i64 y]) rfl (by kernel_rfl) (fun _ _ _ h => h) (by kernel_rfl) (fun V hV => ex_rowT 40 _ rfl (w.heap.size) rfl 40 [.int .i64 a, .int .i64 b, .int .i64 c, .int .i64 d, .int .i64 x, .int .i64 y] _ Tryz.underlying40 rfl (by kernel_rfl) ((HK.out.old hV).row w.heap.size 40 (i6 a b c d x y) mm9)) hHeld ?_
    try simp only [zz]
    refine tk 2 216 ?_ rfl (by kernel_rfl) (fun _ _ _ h => h) (by kernel_rfl) ?_ hHeld ?_
    rotate_left
    · intro w1 hSw; (try dsimp only at hSw); go_simp <;> with_reducible rfl
    try simp only [zz]
    refine wpAnyH_ready (rs := [1, 8]) (by kernel_rfl) (by simp) ?_
    refine AllReadyH.cons rfl (fun K hK => ?_) (AllReadyH.cons rfl (fun K hK => ?_) (AllReadyH.nil))
    ·
     go_simp
     go_at_call 35
     refine (at2_any _ _ _).mono ?_
     rintro e v1 ⟨rfl, hb1⟩
     have hz1 := hb1.size
     try simp only [World.size_alloc, size_drewT] at hz1
     try go_simp
     refine hK.out _ _ ?_ (fun hHeld => ?_)
     · exact hHeld.trans (hb1.mono hHeld.size)
     clear hK K
     try simp only [zz]
     refine wpAnyH_ready (rs := [3, 8]) (by kernel_rfl) (by simp) ?_
     refine AllReadyH.cons rfl (fun K hK => ?_) (AllReadyH.cons rfl (fun K hK => ?_) (AllReadyH.nil))
     ·
      go_simp
      go_at_call 35
      refine (at2_any _ _ _).mono ?_
      rintro e v3 ⟨rfl, hb3⟩
      have hz3 := hb3.size
      try simp only [World.size_alloc, size_drewT] at hz3
      try go_simp
      refine hK.out _ _ ?_ (fun hHeld => ?_)
      · exact hHeld.trans (hb3.mono hHeld.size)
      clear hK K
      try simp only [zz]
      refine wpAnyH_ready (rs := [4, 8]) (by kernel_rfl) (by simp) ?_
      refine AllReadyH.cons rfl (fun K hK => ?_) (AllReadyH.cons rfl (fun K hK => ?_) (AllReadyH.nil))
      ·
       go_simp
       go_at_call 40
       refine (hSB.out _).mono ?_
       rintro e v4 ⟨rfl, hb4⟩
       have hz4 := hb4.size
       try simp only [World.size_alloc, size_drewT] at hz4
       try go_simp
       refine hK.out _ _ ?_ (fun hHeld => ?_)
       · exact hHeld.trans (hb4.mono hHeld.size)
       clear hK K
       try simp only [zz]
       refine tk 5 213 ?_ rfl (by kernel_rfl) (fun _ _ _ h => h) (by kernel_rfl) ?_ hHeld ?_
       rotate_left
       · intro w1 hSw; (try dsimp only at hSw); go_simp <;> with_reducible rfl
       try simp only [zz]
       refine tk 6 219 ?_ rfl (by kernel_rfl) (fun _ _ _ h => h) (by kernel_rfl) ?_ hHeld ?_
       rotate_left
       · intro w1 hSw; (try dsimp only at hSw); go_simp <;> with_reducible rfl
       try simp only [zz]
       refine tk 7 220 ?_ rfl (by kernel_rfl) (fun _ _ _ h => h) (by kernel_rfl) ?_ hHeld ?_
       rotate_left
       · intro w1 hSw; (try dsimp only at hSw); go_simp <;> with_reducible rfl
       try simp only [zz]
       refine st1 8 (by kernel_rfl) rfl (fun K hK => ?_)
       go_simp
       refine hK.out _ _ ?_ (fun hHeld => ?_)
       · exact hHeld.alloc hHeld.size _
       clear hK K
       try simp only [zz]
       refine st1 9 (by kernel_rfl) rfl (fun K hK => ?_)
       refine step_store_row rfl 39 _ _ rfl _ [.int .i64 b1, .int .i64 b2, .int .i64 b3, .int .i64 b4, .int .i64 b5, .int .i64 b6] rfl rfl 39 [.int .i64 0, .int .i64 0, .int .i64 0, .int .i64 0, .int .i64 0, .int .i64 0] ?_ (by kernel_rfl) rfl (by simp [Value.oneCell']) ?_
       · exact Row.new _ _ _
       refine hK.out _ _ ?_ (fun hHeld => ?_)
       · exact Below.setRow hHeld (by (try simp only [World.size_alloc, size_drewT] at *); omega) _
       clear hK K
       try simp only [zz]
       refine tk 10 32 ?_ rfl (by kernel_rfl) (fun _ _ _ h => h) (by kernel_rfl) ?_ hHeld ?_
       rotate_left
       · intro w1 hSw; (try dsimp only at hSw); go_simp <;> with_reducible rfl
       try simp only [zz]
       refine wpAnyH_done (by kernel_rfl) ?_ _
       go_wp2_with fail
       go_meet
       exact ⟨_, rfl, rfl, Lib.hid (KpT.cons (HK.out.old hHeld) (by exact (Row.new _ _ _).setRow _))⟩
      ·
       go_simp
       refine hK.out _ _ ?_ (fun hHeld => ?_)
       · exact hHeld.alloc hHeld.size _
       clear hK K
       try simp only [zz]
       refine st1 4 (by kernel_rfl) rfl (fun K hK => ?_)
       go_simp
       go_at_call 40
       refine (hSB.out _).mono ?_
       rintro e v4 ⟨rfl, hb4⟩
       have hz4 := hb4.size
       try simp only [World.size_alloc, size_drewT] at hz4
       try go_simp
       refine hK.out _ _ ?_ (fun hHeld => ?_)
       · exact hHeld.trans (hb4.mono hHeld.size)
       clear hK K
       try simp only [zz]
       refine tk 5 213 ?_ rfl (by kernel_rfl) (fun _ _ _ h => h) (by kernel_rfl) ?_ hHeld ?_
       rotate_left
       · intro w1 hSw; (try dsimp only at hSw); go_simp <;> with_reducible rfl
       try simp only [zz]
       refine tk 6 219 ?_ rfl (by kernel_rfl) (fun _ _ _ h => h) (by kernel_rfl) ?_ hHeld ?_
       rotate_left
       · intro w1 hSw; (try dsimp only at hSw); go_simp <;> with_reducible rfl
       try simp only [zz]
       refine tk 7 220 ?_ rfl (by kernel_rfl) (fun _ _ _ h => h) (by kernel_rfl) ?_ hHeld ?_
       rotate_left
       · intro w1 hSw; (try dsimp only at hSw); go_simp <;> with_reducible rfl
       try simp only [zz]
       refine st1 9 (by kernel_rfl) rfl (fun K hK => ?_)
       refine step_store_row rfl 39 _ _ rfl _ [.int .i64 b1, .int .i64 b2, .int .i64 b3, .int .i64 b4, .int .i64 b5, .int .i64 b6] rfl rfl 39 [.int .i64 0, .int .i64 0, .int .i64 0, .int .i64 0, .int .i64 0, .int .i64 0] ?_ (by kernel_rfl) rfl (by simp [Value.oneCell']) ?_
       · exact (Row.new _ _ _).old hb4
       refine hK.out _ _ ?_ (fun hHeld => ?_)
       · exact Below.setRow hHeld (by (try simp only [World.size_alloc, size_drewT] at *); omega) _
       clear hK K
       try simp only [zz]
       refine tk 10 32 ?_ rfl (by kernel_rfl) (fun _ _ _ h => h) (by kernel_rfl) ?_ hHeld ?_
       rotate_left
       · intro w1 hSw; (try dsimp only at hSw); go_simp <;> with_reducible rfl
       try simp only [zz]
       refine wpAnyH_done (by kernel_rfl) ?_ _
       go_wp2_with fail
       go_meet
       exact ⟨_, rfl, rfl, Lib.hid (KpT.cons (HK.out.old hHeld) (by exact ((Row.new _ _ _).old hb4).setRow _))⟩
     ·
      go_simp
      refine hK.out _ _ ?_ (fun hHeld => ?_)
      · exact hHeld.alloc hHeld.size _
      clear hK K
      try simp only [zz]
      refine st1 3 (by kernel_rfl) rfl (fun K hK => ?_)
      go_simp
      go_at_call 35
      refine (at2_any _ _ _).mono ?_
      rintro e v3 ⟨rfl, hb3⟩
      have hz3 := hb3.size
      try simp only [World.size_alloc, size_drewT] at hz3
      try go_simp
      refine hK.out _ _ ?_ (fun hHeld => ?_)
      · exact hHeld.trans (hb3.mono hHeld.size)
      clear hK K
      try simp only [zz]
      refine st1 4 (by kernel_rfl) rfl (fun K hK => ?_)
      go_simp
      go_at_call 40
      refine (hSB.out _).mono ?_
      rintro e v4 ⟨rfl, hb4⟩
      have hz4 := hb4.size
      try simp only [World.size_alloc, size_drewT] at hz4
      try go_simp
      refine hK.out _ _ ?_ (fun hHeld => ?_)
      · exact hHeld.trans (hb4.mono hHeld.size)
      clear hK K
      try simp only [zz]
      refine tk 5 213 ?_ rfl (by kernel_rfl) (fun _ _ _ h => h) (by kernel_rfl) ?_ hHeld ?_
      rotate_left
      · intro w1 hSw; (try dsimp only at hSw); go_simp <;> with_reducible rfl
      try simp only [zz]
      refine tk 6 219 ?_ rfl (by kernel_rfl) (fun _ _ _ h => h) (by kernel_rfl) ?_ hHeld ?_
      rotate_left
      · intro w1 hSw; (try dsimp only at hSw); go_simp <;> with_reducible rfl
      try simp only [zz]
      refine tk 7 220 ?_ rfl (by kernel_rfl) (fun _ _ _ h => h) (by kernel_rfl) ?_ hHeld ?_
      rotate_left
      · intro w1 hSw; (try dsimp only at hSw); go_simp <;> with_reducible rfl
      try simp only [zz]
      refine st1 9 (by kernel_rfl) rfl (fun K hK => ?_)
      refine step_store_row rfl 39 _ _ rfl _ [.int .i64 b1, .int .i64 b2, .int .i64 b3, .int .i64 b4, .int .i64 b5, .int .i64 b6] rfl rfl 39 [.int .i64 0, .int .i64 0, .int .i64 0, .int .i64 0, .int .i64 0, .int .i64 0] ?_ (by kernel_rfl) rfl (by simp [Value.oneCell']) ?_
      · exact ((Row.new _ _ _).old hb3).old hb4
      refine hK.out _ _ ?_ (fun hHeld => ?_)
      · exact Below.setRow hHeld (by (try simp only [World.size_alloc, size_drewT] at *); omega) _
      clear hK K
      try simp only [zz]
      refine tk 10 32 ?_ rfl (by kernel_rfl) (fun _ _ _ h => h) (by kernel_rfl) ?_ hHeld ?_
      rotate_left
      · intro w1 hSw; (try dsimp only at hSw); go_simp <;> with_reducible rfl
      try simp only [zz]
      refine wpAnyH_done (by kernel_rfl) ?_ _
      go_wp2_with fail
      go_meet
      exact ⟨_, rfl, rfl, Lib.hid (KpT.cons (HK.out.old hHeld) (by exact (((Row.new _ _ _).old hb3).old hb4).setRow _))⟩
    ·
     go_simp
     refine hK.out _ _ ?_ (fun hHeld => ?_)
     · exact hHeld.alloc hHeld.size _
     clear hK K
     try simp only [zz]
     refine st1 1 (by kernel_rfl) rfl (fun K hK => ?_)
     go_simp
     go_at_call 35
     refine (at2_any _ _ _).mono ?_
     rintro e v1 ⟨rfl, hb1⟩
     have hz1 := hb1.size
     try simp only [World.size_alloc, size_drewT] at hz1
     try go_simp
     refine hK.out _ _ ?_ (fun hHeld => ?_)
     · exact hHeld.trans (hb1.mono hHeld.size)
     clear hK K
     try simp only [zz]
     refine st1 3 (by kernel_rfl) rfl (fun K hK => ?_)
     go_simp
     go_at_call 35
     refine (at2_any _ _ _).mono ?_
     rintro e v3 ⟨rfl, hb3⟩
     have hz3 := hb3.size
     try simp only [World.size_alloc, size_drewT] at hz3
     try go_simp
     refine hK.out _ _ ?_ (fun hHeld => ?_)
     · exact hHeld.trans (hb3.mono hHeld.size)
     clear hK K
     try simp only [zz]
     refine st1 4 (by kernel_rfl) rfl (fun K hK => ?_)
     go_simp
     go_at_call 40
     refine (hSB.out _).mono ?_
     rintro e v4 ⟨rfl, hb4⟩
     have hz4 := hb4.size
     try simp only [World.size_alloc, size_drewT] at hz4
     try go_simp
     refine hK.out _ _ ?_ (fun hHeld => ?_)
     · exact hHeld.trans (hb4.mono hHeld.size)
     clear hK K
     try simp only [zz]
     refine tk 5 213 ?_ rfl (by kernel_rfl) (fun _ _ _ h => h) (by kernel_rfl) ?_ hHeld ?_
     rotate_left
     · intro w1 hSw; (try dsimp only at hSw); go_simp <;> with_reducible rfl
     try simp only [zz]
     refine tk 6 219 ?_ rfl (by kernel_rfl) (fun _ _ _ h => h) (by kernel_rfl) ?_ hHeld ?_
     rotate_left
     · intro w1 hSw; (try dsimp only at hSw); go_simp <;> with_reducible rfl
     try simp only [zz]
     refine tk 7 220 ?_ rfl (by kernel_rfl) (fun _ _ _ h => h) (by kernel_rfl) ?_ hHeld ?_
     rotate_left
     · intro w1 hSw; (try dsimp only at hSw); go_simp <;> with_reducible rfl
     try simp only [zz]
     refine st1 9 (by kernel_rfl) rfl (fun K hK => ?_)
     refine step_store_row rfl 39 _ _ rfl _ [.int .i64 b1, .int .i64 b2, .int .i64 b3, .int .i64 b4, .int .i64 b5, .int .i64 b6] rfl rfl 39 [.int .i64 0, .int .i64 0, .int .i64 0, .int .i64 0, .int .i64 0, .int .i64 0] ?_ (by kernel_rfl) rfl (by simp [Value.oneCell']) ?_
     · exact ((((Row.new _ _ _).drew).old hb1).old hb3).old hb4
     refine hK.out _ _ ?_ (fun hHeld => ?_)
     · exact Below.setRow hHeld (by (try simp only [World.size_alloc, size_drewT] at *); omega) _
     clear hK K
     try simp only [zz]
     refine tk 10 32 ?_ rfl (by kernel_rfl) (fun _ _ _ h => h) (by kernel_rfl) ?_ hHeld ?_
     rotate_left
     · intro w1 hSw; (try dsimp only at hSw); go_simp <;> with_reducible rfl
     try simp only [zz]
     refine wpAnyH_done (by kernel_rfl) ?_ _
     go_wp2_with fail
     go_meet
     exact ⟨_, rfl, rfl, Lib.hid (KpT.cons (HK.out.old hHeld) (by exact (((((Row.new _ _ _).drew).old hb1).old hb3).old hb4).setRow _))⟩
   case rest =>
   clear HK
   obtain ⟨g31, rfl, rfl, HK⟩ := hcut
   go_upto_region 31 with fail
   go_cut [33, 34] from 221 to 225 (fun s33 s34 wx => ∃ g33, s33 = .pointer (some ⟨g33, 0, none⟩) ∧ s34 = .int .i64 0 ∧ Hid (KpT w ((g33, 79, (i2 mN mD)) :: (g31, 39, (i6 b1 b2 b3 b4 b5 b6)) :: (g26, 39, (i6 a b c d x y)) :: RB w g7 g8 g10 g12 g13 g15 a b c d x y p q r u n0 n1 n2 fr fi nN nD lN lD gN gD sN sD) [] wx))
   case first =>
    have HV := HK
    go_wp2_with (first
     | (refine wpList_load_row rfl 39 _ rfl g31 rfl 39 #[.int .i64 b1, .int .i64 b2, .int .i64 b3, .int .i64 b4, .int .i64 b5, .int .i64 b6] (0, 0) _ (HV.out.row g31 39 (i6 b1 b2 b3 b4 b5 b6) mm0) Tryz.underlying39 rfl ?_ ?_; (kernel_rfl))
     | (go_at_call 36; refine (hBN.out _).mono ?_; rintro e w2 ⟨rfl, hb⟩; replace HV := Lib.hid (HV.out.old hb); clear hb)
     | (refine wpList_store_row rfl 79 _ _ rfl (w2.heap.size) #[.int .i64 mN, .int .i64 mD] rfl rfl 79 _ (Row.new w2 79 [.int .i64 0, .int .i64 0]) ?_ ?_ ?_ ?_; (kernel_rfl); (rfl); (simp [Value.oneCell'])))
    go_meet
    exact ⟨_, rfl, rfl, Lib.hid (kc HV.out)⟩
   case rest =>
   clear HK
   obtain ⟨g33, rfl, rfl, HK⟩ := hcut
   go_upto_region 32 with fail
   go_cut [35, 36] from 226 to 236 (fun s35 s36 wx => ∃ g35, s35 = .pointer (some ⟨g35, 0, none⟩) ∧ s36 = .int .i64 0 ∧ Hid (KpT w ((g35, 79, (i2 xN nD)) :: (g33, 79, (i2 mN mD)) :: (g31, 39, (i6 b1 b2 b3 b4 b5 b6)) :: (g26, 39, (i6 a b c d x y)) :: RB w g7 g8 g10 g12 g13 g15 a b c d x y p q r u n0 n1 n2 fr fi nN nD lN lD gN gD sN sD) [] wx))
   case first =>
    have HV := HK
    obtain ⟨c0, c1, c2, c3, c4, c5⟩ := c6R (HK.out.row w.heap.size 40 (i6 a b c d x y) (tt10 mm1))
    go_wp2_with (first
     | (go_at_call 36; refine (hXN.out _).mono ?_; rintro e w2 ⟨rfl, hb⟩; replace HV := Lib.hid (HV.out.old hb); clear hb)
     | (refine wpList_store_row rfl 79 _ _ rfl (w2.heap.size) #[.int .i64 xN, .int .i64 nD] rfl rfl 79 _ (Row.new w2 79 [.int .i64 0, .int .i64 0]) ?_ ?_ ?_ ?_; (kernel_rfl); (rfl); (simp [Value.oneCell'])))
    go_meet
    exact ⟨_, rfl, rfl, Lib.hid (kc HV.out)⟩
   case rest =>
   clear HK
   obtain ⟨g35, rfl, rfl, HK⟩ := hcut
   go_upto_region 33 with fail
   go_cut [293] from 237 to 292 (fun s293 wx => s293 = .bool false ∧ Hid (KpT w ((g35, 79, (i2 xN nD)) :: (g33, 79, (i2 mN mD)) :: (g31, 39, (i6 b1 b2 b3 b4 b5 b6)) :: (g26, 39, (i6 a b c d x y)) :: RB w g7 g8 g10 g12 g13 g15 a b c d x y p q r u n0 n1 n2 fr fi nN nD lN lD gN gD sN sD) [] wx))
   case first =>
    refine fac33 _ (by kernel_rfl) HK e1.out e2.out e3.out e4.out e5.out e6.out e7.out hL1.out hL2.out hL3.out (fun _ _ _ d _ h => by cases d <;> exact h) ?_
    intros
    rename_i hHeld
    go_wp2_with fail
    go_meet
    exact ⟨rfl, Lib.hid (HK.out.old hHeld)⟩
   case rest =>
   clear HK
   obtain ⟨rfl, HK⟩ := hcut
   go_upto_region 35 with fail
   go_cut [37, 38] from 294 to 298 (fun s37 s38 wx => ∃ g37, s37 = .pointer (some ⟨g37, 0, none⟩) ∧ s38 = .int .i64 0 ∧ Hid (KpT w ((g37, 79, (i2 cN cD)) :: (g35, 79, (i2 xN nD)) :: (g33, 79, (i2 mN mD)) :: (g31, 39, (i6 b1 b2 b3 b4 b5 b6)) :: (g26, 39, (i6 a b c d x y)) :: RB w g7 g8 g10 g12 g13 g15 a b c d x y p q r u n0 n1 n2 fr fi nN nD lN lD gN gD sN sD) [] wx))
   case first =>
    have HV := HK
    go_wp2_with (first
     | (refine wpList_load_row rfl 40 _ rfl g7 rfl 40 #[.int .i64 a, .int .i64 b, .int .i64 p, .int .i64 q, .int .i64 r, .int .i64 u] (0, 0) _ (HV.out.row g7 40 (i6 a b p q r u) mm9) Tryz.underlying40 rfl ?_ ?_; (kernel_rfl))
     | (go_at_call 36; refine (hC.out _).mono ?_; rintro e w2 ⟨rfl, hb⟩; replace HV := Lib.hid (HV.out.old hb); clear hb)
     | (refine wpList_store_row rfl 79 _ _ rfl (w2.heap.size) #[.int .i64 cN, .int .i64 cD] rfl rfl 79 _ (Row.new w2 79 [.int .i64 0, .int .i64 0]) ?_ ?_ ?_ ?_; (kernel_rfl); (rfl); (simp [Value.oneCell'])))
    go_meet
    exact ⟨_, rfl, rfl, Lib.hid (kc HV.out)⟩
   case rest =>
   clear HK
   obtain ⟨g37, rfl, rfl, HK⟩ := hcut
   go_upto_region 36 with fail
   go_cut [39, 40] from 299 to 304 (fun s39 s40 wx => ∃ g39, s39 = .pointer (some ⟨g39, 0, none⟩) ∧ s40 = .int .i64 0 ∧ Hid (KpT w ((g39, 39, (i6 o1 o2 o3 o4 o5 o6)) :: (g37, 79, (i2 cN cD)) :: (g35, 79, (i2 xN nD)) :: (g33, 79, (i2 mN mD)) :: (g31, 39, (i6 b1 b2 b3 b4 b5 b6)) :: (g26, 39, (i6 a b c d x y)) :: RB w g7 g8 g10 g12 g13 g15 a b c d x y p q r u n0 n1 n2 fr fi nN nD lN lD gN gD sN sD) [] wx))
   case first =>
    have HV := HK
    go_wp2_with (first
     | (refine wpList_load_row rfl 40 _ rfl w.heap.size rfl 40 #[.int .i64 a, .int .i64 b, .int .i64 c, .int .i64 d, .int .i64 x, .int .i64 y] (0, 0) _ (HV.out.row w.heap.size 40 (i6 a b c d x y) (tt10 mm3)) Tryz.underlying40 rfl ?_ ?_; (kernel_rfl))
     | (refine wpList_load_row rfl 40 _ rfl g7 rfl 40 #[.int .i64 a, .int .i64 b, .int .i64 p, .int .i64 q, .int .i64 r, .int .i64 u] (0, 0) _ (HV.out.row g7 40 (i6 a b p q r u) (tt10 mm0)) Tryz.underlying40 rfl ?_ ?_; (kernel_rfl))
     | (go_at_call 44; refine (hAd.out _).mono ?_; rintro e w2 ⟨rfl, hb⟩; replace HV := Lib.hid (HV.out.old hb); clear hb)
     | (refine wpList_store_row rfl 39 _ _ rfl (w2.heap.size) #[.int .i64 o1, .int .i64 o2, .int .i64 o3, .int .i64 o4, .int .i64 o5, .int .i64 o6] rfl rfl 39 _ (Row.new w2 39 [.int .i64 0, .int .i64 0, .int .i64 0, .int .i64 0, .int .i64 0, .int .i64 0]) ?_ ?_ ?_ ?_; (kernel_rfl); (rfl); (simp [Value.oneCell'])))
    go_meet
    exact ⟨_, rfl, rfl, Lib.hid (kc HV.out)⟩
   case rest =>
   clear HK
   obtain ⟨g39, rfl, rfl, HK⟩ := hcut
   go_upto_region 37 with fail
   go_cut [41, 42] from 305 to 309 (fun s41 s42 wx => ∃ g41, s41 = .pointer (some ⟨g41, 0, none⟩) ∧ s42 = .int .i64 0 ∧ Hid (KpT w ((g41, 79, (i2 zN zD)) :: (g39, 39, (i6 o1 o2 o3 o4 o5 o6)) :: (g37, 79, (i2 cN cD)) :: (g35, 79, (i2 xN nD)) :: (g33, 79, (i2 mN mD)) :: (g31, 39, (i6 b1 b2 b3 b4 b5 b6)) :: (g26, 39, (i6 a b c d x y)) :: RB w g7 g8 g10 g12 g13 g15 a b c d x y p q r u n0 n1 n2 fr fi nN nD lN lD gN gD sN sD) [] wx))
   case first =>
    have HV := HK
    go_wp2_with (first
     | (refine wpList_load_row rfl 39 _ rfl g39 rfl 39 #[.int .i64 o1, .int .i64 o2, .int .i64 o3, .int .i64 o4, .int .i64 o5, .int .i64 o6] (0, 0) _ (HV.out.row g39 39 (i6 o1 o2 o3 o4 o5 o6) mm0) Tryz.underlying39 rfl ?_ ?_; (kernel_rfl))
     | (go_at_call 36; refine (hUN.out _).mono ?_; rintro e w2 ⟨rfl, hb⟩; replace HV := Lib.hid (HV.out.old hb); clear hb)
     | (refine wpList_store_row rfl 79 _ _ rfl (w2.heap.size) #[.int .i64 zN, .int .i64 zD] rfl rfl 79 _ (Row.new w2 79 [.int .i64 0, .int .i64 0]) ?_ ?_ ?_ ?_; (kernel_rfl); (rfl); (simp [Value.oneCell'])))
    go_meet
    exact ⟨_, rfl, rfl, Lib.hid (kc HV.out)⟩
   case rest =>
   clear HK
   obtain ⟨g41, rfl, rfl, HK⟩ := hcut
   go_upto_region 38 with fail
   refine fac38 _ (by kernel_rfl) HK e8.out e9.out e10.out e11.out e12.out hR5.out hL4.out (fun _ _ _ d _ h => by cases d <;> exact h) ?_
   intros
   rename_i hHeld
   go_wp2_with fail
   go_ret
   exact ⟨rfl, (HK.out.old hHeld).2.2.2⟩
end Go.Proofs.YtaeebedchbkniaaGreatDoor
