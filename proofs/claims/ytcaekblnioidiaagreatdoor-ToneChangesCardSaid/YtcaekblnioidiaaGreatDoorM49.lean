import Derived.Test.YtcaekblnioidiaaGreatDoorM15
namespace Go.Proofs.YtcaekblnioidiaaGreatDoor
set_option linter.all false
open Go.RowKit Go.Fl
theorem eqG9 (a b c d : Int) (w : World) : (Op.equalIn 9999 23 (.agg #[.int .i64 a, .int .i64 b]) (.agg #[.int .i64 c, .int .i64 d])).run Tryz.prog w = .ok (a == c && b == d) w := by
 have i3 := Tryz.underlying3
 have e1 : ∀ (a b : Int), (part 3 #[.int .i64 a, .int .i64 b] 0).run Tryz.prog w = .ok (.int .i64 a) w := fun a b => part_int _ _ _ rfl w
 have e2 : ∀ (a b : Int), (part 3 #[.int .i64 a, .int .i64 b] 1).run Tryz.prog w = .ok (.int .i64 b) w := fun a b => part_int _ _ _ rfl w
 have e4 := fun (a b : Int) => run_equalIn_int (P := Tryz.prog) w 9997 3 .i64 .i64 a b i3
 have n1 : ("Re" : String) ≠ "_" := by decide
 have n2 : ("Im" : String) ≠ "_" := by decide
 rw [run_eqStruct w 9998 _ _ _ _ (by kernel_rfl) (by kernel_rfl) fieldsG]
 simp only [eqTriples, if_pos n1, if_pos n2, Sem.run_bind, e1, e2, e4, Result.andThen_ok, Sem.run_ite, Sem.run_pure]
 cases a == c <;> cases b == d <;> simp [e1, e2, e4]
theorem fieldsRS : ((Tryz.prog.fieldsOf 25).toList.map fun f => (f.name, f.type, f.offset)) = [("Carrier", 23, 0), ("Low", 23, 2), ("High", 23, 4)] := by kernel_rfl
theorem eqS_self (a b c d x y : Int) (w : World) : (binOp .eql 25 (.agg #[.int .i64 a, .int .i64 b, .int .i64 c, .int .i64 d, .int .i64 x, .int .i64 y]) (.agg #[.int .i64 a, .int .i64 b, .int .i64 c, .int .i64 d, .int .i64 x, .int .i64 y])).run Tryz.prog w = .ok (.bool true) w := by
 have e1 : (part 23 #[.int .i64 a, .int .i64 b, .int .i64 c, .int .i64 d, .int .i64 x, .int .i64 y] 0).run Tryz.prog w = .ok (.agg #[.int .i64 a, .int .i64 b]) w := by kernel_rfl
 have e2 : (part 23 #[.int .i64 a, .int .i64 b, .int .i64 c, .int .i64 d, .int .i64 x, .int .i64 y] 2).run Tryz.prog w = .ok (.agg #[.int .i64 c, .int .i64 d]) w := by kernel_rfl
 have e3 : (part 23 #[.int .i64 a, .int .i64 b, .int .i64 c, .int .i64 d, .int .i64 x, .int .i64 y] 4).run Tryz.prog w = .ok (.agg #[.int .i64 x, .int .i64 y]) w := by kernel_rfl
 have e4 := fun (a b : Int) => eqG9 a b a b w
 have n1 : ("Carrier" : String) ≠ "_" := by decide
 have n2 : ("Low" : String) ≠ "_" := by decide
 have n3 : ("High" : String) ≠ "_" := by decide
 rw [run_eql_struct, run_eqStruct w 9999 _ _ _ _ (by kernel_rfl) (by kernel_rfl) fieldsRS]
 simp [eqTriples, Sem.run_bind, e1, e2, e3, e4, Result.andThen_ok, Sem.run_ite, Sem.run_pure]
def ChS (Aw : World → Prop) (w : World) (L1 L2 L3 : List Value) (W : World) : Prop := Row W w.heap.size 25 L1 ∧ Row W (w.heap.size + 1) 25 L2 ∧ Row W (w.heap.size + 1 + 1) 41 L3 ∧ Aw W ∧ Below w.heap.size w W
theorem ChS.keep {Aw : World → Prop} (ho : ∀ W W', Aw W → Below W.heap.size W W' → Aw W') {w W W' : World} {L1 L2 L3 : List Value} (h : ChS Aw w L1 L2 L3 W) (hb : Below W.heap.size W W') : ChS Aw w L1 L2 L3 W' := ⟨h.1.old hb, h.2.1.old hb, h.2.2.1.old hb, ho _ _ h.2.2.2.1 hb, h.2.2.2.2.trans (hb.mono h.2.2.2.2.size)⟩
set_option maxRecDepth 100000 in
set_option maxHeartbeats 16000000 in
theorem changes_law (Aw : World → Prop) (ho : ∀ W W', Aw W → Below W.heap.size W W' → Aw W') (haw : ∀ W, Aw W → Calls Tryz.prog 9 #[] W fun e w' => e = .returned (.bool true) ∧ Below W.heap.size W w') (a b c d x y k l m n u v tt f1 f2 f3 f4 E1 E2 E3 Ea Eb Et Ef O1 O3 r1 r2 r3 r4 r5 r6 s1 s2 s3 s4 s5 s6 z1 z2 z3 z4 z5 z6 o1 o2 o3 o4 o5 o6 j1 j2 j3 j4 j5 j6 : Int) (w : World) (hW : Aw w) (hAd : ∀ W, Calls Tryz.prog 21 #[.agg #[.int .i64 a, .int .i64 b, .int .i64 c, .int .i64 d, .int .i64 x, .int .i64 y], .agg #[.int .i64 k, .int .i64 l, .int .i64 m, .int .i64 n, .int .i64 u, .int .i64 v]] W fun e w' => e = .returned (.tuple #[.agg #[.int .i64 r1, .int .i64 r2, .int .i64 r3, .int .i64 r4, .int .i64 r5, .int .i64 r6], .int .i64 E1]) ∧ Below W.heap.size W w') (hTu : ∀ W, Aw W → Calls Tryz.prog 22 #[.agg #[.int .i64 a, .int .i64 b, .int .i64 c, .int .i64 d, .int .i64 x, .int .i64 y], .int .i64 tt] W fun e w' => e = .returned (.tuple #[.agg #[.int .i64 s1, .int .i64 s2, .int .i64 s3, .int .i64 s4, .int .i64 s5, .int .i64 s6], .int .i64 E2]) ∧ Below W.heap.size W w') (hSc : ∀ W, Calls Tryz.prog 23 #[.agg #[.int .i64 a, .int .i64 b, .int .i64 c, .int .i64 d, .int .i64 x, .int .i64 y], .agg #[.int .i64 f1, .int .i64 f2], .agg #[.int .i64 f3, .int .i64 f4]] W fun e w' => e = .returned (.tuple #[.agg #[.int .i64 z1, .int .i64 z2, .int .i64 z3, .int .i64 z4, .int .i64 z5, .int .i64 z6], .int .i64 E3]) ∧ Below W.heap.size W w') (hCa : ∀ W, Calls Tryz.prog 13 #[.agg #[.int .i64 a, .int .i64 b, .int .i64 c, .int .i64 d, .int .i64 x, .int .i64 y]] W fun e w' => e = .returned (.int .i64 Ea) ∧ Below W.heap.size W w') (hCb : ∀ W, Calls Tryz.prog 13 #[.agg #[.int .i64 k, .int .i64 l, .int .i64 m, .int .i64 n, .int .i64 u, .int .i64 v]] W fun e w' => e = .returned (.int .i64 Eb) ∧ Below W.heap.size W w') (hCt : ∀ W, Calls Tryz.prog 25 #[.int .i64 tt] W fun e w' => e = .returned (.int .i64 Et) ∧ W = w') (hCf : ∀ W, Calls Tryz.prog 26 #[.agg #[.int .i64 f1, .int .i64 f2], .agg #[.int .i64 f3, .int .i64 f4]] W fun e w' => e = .returned (.int .i64 Ef) ∧ Below W.heap.size W w') (hF1 : firstI [Ea, Eb] = O1) (hF2 : firstI [Ea, Et] = E2) (hF3 : firstI [Ea, Ef] = O3) (h1a : O1 = 0 → ∀ W, Calls Tryz.prog 27 #[.agg #[.int .i64 a, .int .i64 b, .int .i64 c, .int .i64 d, .int .i64 x, .int .i64 y], .agg #[.int .i64 k, .int .i64 l, .int .i64 m, .int .i64 n, .int .i64 u, .int .i64 v]] W fun e w' => e = .returned (.agg #[.int .i64 o1, .int .i64 o2, .int .i64 o3, .int .i64 o4, .int .i64 o5, .int .i64 o6]) ∧ Below W.heap.size W w') (h1b : O1 = 0 → ∀ W, Calls Tryz.prog 28 #[.agg #[.int .i64 o1, .int .i64 o2, .int .i64 o3, .int .i64 o4, .int .i64 o5, .int .i64 o6]] W fun e w' => e = .returned (.int .i64 E1) ∧ Below W.heap.size W w') (h1c : O1 = 0 → E1 = 0 → o1 = r1 ∧ o2 = r2 ∧ o3 = r3 ∧ o4 = r4 ∧ o5 = r5 ∧ o6 = r6) (h1d : E1 ≠ 0 → r1 = 0 ∧ r2 = 0 ∧ r3 = 0 ∧ r4 = 0 ∧ r5 = 0 ∧ r6 = 0) (h1e : O1 ≠ 0 → E1 = O1) (h2a : E2 = 0 → ∀ W, Calls Tryz.prog 29 #[.agg #[.int .i64 a, .int .i64 b, .int .i64 c, .int .i64 d, .int .i64 x, .int .i64 y], .int .i64 tt] W fun e w' => e = .returned (.agg #[.int .i64 s1, .int .i64 s2, .int .i64 s3, .int .i64 s4, .int .i64 s5, .int .i64 s6]) ∧ Below W.heap.size W w') (h2b : E2 ≠ 0 → s1 = 0 ∧ s2 = 0 ∧ s3 = 0 ∧ s4 = 0 ∧ s5 = 0 ∧ s6 = 0) (h3a : O3 = 0 → ∀ W, Calls Tryz.prog 30 #[.agg #[.int .i64 a, .int .i64 b, .int .i64 c, .int .i64 d, .int .i64 x, .int .i64 y], .agg #[.int .i64 f1, .int .i64 f2], .agg #[.int .i64 f3, .int .i64 f4]] W fun e w' => e = .returned (.agg #[.int .i64 j1, .int .i64 j2, .int .i64 j3, .int .i64 j4, .int .i64 j5, .int .i64 j6]) ∧ Below W.heap.size W w') (h3b : O3 = 0 → ∀ W, Calls Tryz.prog 28 #[.agg #[.int .i64 j1, .int .i64 j2, .int .i64 j3, .int .i64 j4, .int .i64 j5, .int .i64 j6]] W fun e w' => e = .returned (.int .i64 E3) ∧ Below W.heap.size W w') (h3c : O3 = 0 → E3 = 0 → j1 = z1 ∧ j2 = z2 ∧ j3 = z3 ∧ j4 = z4 ∧ j5 = z5 ∧ j6 = z6) (h3d : E3 ≠ 0 → z1 = 0 ∧ z2 = 0 ∧ z3 = 0 ∧ z4 = 0 ∧ z5 = 0 ∧ z6 = 0) (h3e : O3 ≠ 0 → E3 = O3) : Calls Tryz.prog 4 #[.agg #[.int .i64 a, .int .i64 b, .int .i64 c, .int .i64 d, .int .i64 x, .int .i64 y], .agg #[.int .i64 k, .int .i64 l, .int .i64 m, .int .i64 n, .int .i64 u, .int .i64 v], .agg #[.int .i64 tt, .int .i64 f1, .int .i64 f2, .int .i64 f3, .int .i64 f4]] w fun e w' => e = .returned (.bool true) ∧ Below w.heap.size w w' := by
 have hb0 := (((Below.refl w.heap.size w).alloc (Nat.le_refl _) (.cells #[.int .i64 a, .int .i64 b, .int .i64 c, .int .i64 d, .int .i64 x, .int .i64 y] 25)).alloc (by simp only [World.size_alloc]; omega) (.cells #[.int .i64 k, .int .i64 l, .int .i64 m, .int .i64 n, .int .i64 u, .int .i64 v] 25)).alloc (by simp only [World.size_alloc]; omega) (.cells #[.int .i64 tt, .int .i64 f1, .int .i64 f2, .int .i64 f3, .int .i64 f4] 41)
 have HS0 : Hid (ChS Aw w [.int .i64 a, .int .i64 b, .int .i64 c, .int .i64 d, .int .i64 x, .int .i64 y] [.int .i64 k, .int .i64 l, .int .i64 m, .int .i64 n, .int .i64 u, .int .i64 v] [.int .i64 tt, .int .i64 f1, .int .i64 f2, .int .i64 f3, .int .i64 f4] (((w.alloc (.cells #[.int .i64 a, .int .i64 b, .int .i64 c, .int .i64 d, .int .i64 x, .int .i64 y] 25)).alloc (.cells #[.int .i64 k, .int .i64 l, .int .i64 m, .int .i64 n, .int .i64 u, .int .i64 v] 25)).alloc (.cells #[.int .i64 tt, .int .i64 f1, .int .i64 f2, .int .i64 f3, .int .i64 f4] 41))) := ⟨Row.alloc (Row.alloc (Row.new w _ [.int .i64 a, .int .i64 b, .int .i64 c, .int .i64 d, .int .i64 x, .int .i64 y]) _) _, Row.alloc (rowAt _ _ (by simp only [World.size_alloc])) _, rowAt _ _ (by simp only [World.size_alloc]), ho _ _ hW hb0, hb0⟩
 have HAd := Lib.hid hAd
 have HTu := Lib.hid hTu
 have HSc := Lib.hid hSc
 have HCa := Lib.hid hCa
 have HCb := Lib.hid hCb
 have HCt := Lib.hid hCt
 have HCf := Lib.hid hCf
 have HF1 := Lib.hid hF1
 have HF2 := Lib.hid hF2
 have HF3 := Lib.hid hF3
 have H1a := Lib.hid h1a
 have H1b := Lib.hid h1b
 have H1c := Lib.hid h1c
 have H1d := Lib.hid h1d
 have H1e := Lib.hid h1e
 have H2a := Lib.hid h2a
 have H2b := Lib.hid h2b
 have H3a := Lib.hid h3a
 have H3b := Lib.hid h3b
 have H3c := Lib.hid h3c
 have H3d := Lib.hid h3d
 have H3e := Lib.hid h3e
 have hq1 := eqS_self r1 r2 r3 r4 r5 r6; have hq2 := eqS_self s1 s2 s3 s4 s5 s6; have hq3 := eqS_self z1 z2 z3 z4 z5 z6
 clear hb0 hW hAd hTu hSc hCa hCb hCt hCf hF1 hF2 hF3 h1a h1b h1c h1d h1e h2a h2b h3a h3b h3c h3d h3e
 go_enter Tryz.func4, Tryz.ntmps4
 go_upto_region 1 with fail
 refine genT (ChS Aw w [.int .i64 a, .int .i64 b, .int .i64 c, .int .i64 d, .int .i64 x, .int .i64 y] [.int .i64 k, .int .i64 l, .int .i64 m, .int .i64 n, .int .i64 u, .int .i64 v] [.int .i64 tt, .int .i64 f1, .int .i64 f2, .int .i64 f3, .int .i64 f4]) HS0.out ?_
 clear HS0
 intro W0 s0
 have HS := Lib.hid s0
 clear s0
 go_upto_region 3 with (go_at_call 9; refine (haw _ HS.out.2.2.2.1).mono ?_; rintro e wc ⟨rfl, hb⟩)
 have HS' := Lib.hid (HS.out.keep ho hb)
 clear HS hb 
 have HS := HS'
 clear HS'
 obtain ⟨W1, hW1⟩ : ∃ W1 : World, W1 = wc := ⟨_, rfl⟩
 subst hW1
 go_cut [7, 8] from 21 to 27 (fun s7 s8 wx => ∃ g1, s7 = .pointer (some ⟨g1, 0, none⟩) ∧ s8 = .int .i64 E1 ∧ Row wx g1 32 [.int .i64 r1, .int .i64 r2, .int .i64 r3, .int .i64 r4, .int .i64 r5, .int .i64 r6] ∧ Below W1.heap.size W1 wx)
 case first =>
  go_wp2_with (first
   | (refine wpList_load_row rfl 25 _ rfl (w.heap.size) rfl 25 #[.int .i64 a, .int .i64 b, .int .i64 c, .int .i64 d, .int .i64 x, .int .i64 y] (0, 0) _ HS.out.1 Tryz.underlying25 rfl ?_ ?_; (kernel_rfl))
   | (refine wpList_load_row rfl 25 _ rfl (w.heap.size + 1) rfl 25 #[.int .i64 k, .int .i64 l, .int .i64 m, .int .i64 n, .int .i64 u, .int .i64 v] (0, 0) _ HS.out.2.1 Tryz.underlying25 rfl ?_ ?_; (kernel_rfl))
   | (go_at_call 21; refine (HAd.out _).mono ?_; rintro e v1 ⟨rfl, hb1⟩; have HB1 := Lib.hid hb1; clear hb1)
   | (refine wpList_store_row rfl 32 _ _ rfl (v1.heap.size) #[.int .i64 r1, .int .i64 r2, .int .i64 r3, .int .i64 r4, .int .i64 r5, .int .i64 r6] rfl rfl 32 _ (Row.new v1 32 [.int .i64 0, .int .i64 0, .int .i64 0, .int .i64 0, .int .i64 0, .int .i64 0]) ?_ ?_ ?_ ?_; (kernel_rfl); (rfl); (simp [Value.oneCell'])))
  go_meet
  exact ⟨_, rfl, rfl, (Row.new v1 32 [.int .i64 0, .int .i64 0, .int .i64 0, .int .i64 0, .int .i64 0, .int .i64 0]).setRow [.int .i64 r1, .int .i64 r2, .int .i64 r3, .int .i64 r4, .int .i64 r5, .int .i64 r6], Below.setRow (HB1.out.alloc HB1.out.size _) HB1.out.size _⟩
 case rest =>
 obtain ⟨g1, rfl, rfl, k1, hb⟩ := hcut
 have K1 := Lib.hid k1
 clear k1
 have HS' := Lib.hid (HS.out.keep ho hb)
 clear HS hb HAd
 have HS := HS'
 clear HS'
 obtain ⟨W2, hW2⟩ : ∃ W2 : World, W2 = wc := ⟨_, rfl⟩
 subst hW2
 go_upto_region 4 with fail
 go_cut [9, 10] from 27 to 34 (fun s9 s10 wx => ∃ g1, s9 = .pointer (some ⟨g1, 0, none⟩) ∧ s10 = .int .i64 E2 ∧ Row wx g1 32 [.int .i64 s1, .int .i64 s2, .int .i64 s3, .int .i64 s4, .int .i64 s5, .int .i64 s6] ∧ Below W2.heap.size W2 wx)
 case first =>
  have d0 := HS.out.2.2.1.cell 0
  simp only [List.getElem?_cons_succ, List.getElem?_cons_zero] at d0
  go_wp2_with (first
   | (refine wpList_load_row rfl 25 _ rfl (w.heap.size) rfl 25 #[.int .i64 a, .int .i64 b, .int .i64 c, .int .i64 d, .int .i64 x, .int .i64 y] (0, 0) _ HS.out.1 Tryz.underlying25 rfl ?_ ?_; (kernel_rfl))
   | (refine wpList_load_row rfl 25 _ rfl (w.heap.size + 1) rfl 25 #[.int .i64 k, .int .i64 l, .int .i64 m, .int .i64 n, .int .i64 u, .int .i64 v] (0, 0) _ HS.out.2.1 Tryz.underlying25 rfl ?_ ?_; (kernel_rfl))
   | (go_at_call 22; refine (HTu.out _ HS.out.2.2.2.1).mono ?_; rintro e v1 ⟨rfl, hb1⟩; have HB1 := Lib.hid hb1; clear hb1)
   | (refine wpList_store_row rfl 32 _ _ rfl (v1.heap.size) #[.int .i64 s1, .int .i64 s2, .int .i64 s3, .int .i64 s4, .int .i64 s5, .int .i64 s6] rfl rfl 32 _ (Row.new v1 32 [.int .i64 0, .int .i64 0, .int .i64 0, .int .i64 0, .int .i64 0, .int .i64 0]) ?_ ?_ ?_ ?_; (kernel_rfl); (rfl); (simp [Value.oneCell'])))
  go_meet
  exact ⟨_, rfl, rfl, (Row.new v1 32 [.int .i64 0, .int .i64 0, .int .i64 0, .int .i64 0, .int .i64 0, .int .i64 0]).setRow [.int .i64 s1, .int .i64 s2, .int .i64 s3, .int .i64 s4, .int .i64 s5, .int .i64 s6], Below.setRow (HB1.out.alloc HB1.out.size _) HB1.out.size _⟩
 case rest =>
 obtain ⟨g2, rfl, rfl, k1, hb⟩ := hcut
 have K1' := Lib.hid (K1.out.old hb)
 clear K1
 have K1 := K1'
 clear K1'
 have K2 := Lib.hid k1
 clear k1
 have HS' := Lib.hid (HS.out.keep ho hb)
 clear HS hb HTu
 have HS := HS'
 clear HS'
 obtain ⟨W3, hW3⟩ : ∃ W3 : World, W3 = wc := ⟨_, rfl⟩
 subst hW3
 go_upto_region 5 with fail
 go_cut [11, 12] from 34 to 43 (fun s11 s12 wx => ∃ g1, s11 = .pointer (some ⟨g1, 0, none⟩) ∧ s12 = .int .i64 E3 ∧ Row wx g1 32 [.int .i64 z1, .int .i64 z2, .int .i64 z3, .int .i64 z4, .int .i64 z5, .int .i64 z6] ∧ Below W3.heap.size W3 wx)
 case first =>
  have d1 := HS.out.2.2.1.cell 1
  have d2 := HS.out.2.2.1.cell 2
  have d3 := HS.out.2.2.1.cell 3
  have d4 := HS.out.2.2.1.cell 4
  simp only [List.getElem?_cons_succ, List.getElem?_cons_zero] at d1 d2 d3 d4
  go_wp2_with (first
   | (refine wpList_load_row rfl 25 _ rfl (w.heap.size) rfl 25 #[.int .i64 a, .int .i64 b, .int .i64 c, .int .i64 d, .int .i64 x, .int .i64 y] (0, 0) _ HS.out.1 Tryz.underlying25 rfl ?_ ?_; (kernel_rfl))
   | (refine wpList_load_row rfl 25 _ rfl (w.heap.size + 1) rfl 25 #[.int .i64 k, .int .i64 l, .int .i64 m, .int .i64 n, .int .i64 u, .int .i64 v] (0, 0) _ HS.out.2.1 Tryz.underlying25 rfl ?_ ?_; (kernel_rfl))
   | (go_at_call 23; refine (HSc.out _).mono ?_; rintro e v1 ⟨rfl, hb1⟩; have HB1 := Lib.hid hb1; clear hb1)
   | (refine wpList_store_row rfl 32 _ _ rfl (v1.heap.size) #[.int .i64 z1, .int .i64 z2, .int .i64 z3, .int .i64 z4, .int .i64 z5, .int .i64 z6] rfl rfl 32 _ (Row.new v1 32 [.int .i64 0, .int .i64 0, .int .i64 0, .int .i64 0, .int .i64 0, .int .i64 0]) ?_ ?_ ?_ ?_; (kernel_rfl); (rfl); (simp [Value.oneCell'])))
  go_meet
  exact ⟨_, rfl, rfl, (Row.new v1 32 [.int .i64 0, .int .i64 0, .int .i64 0, .int .i64 0, .int .i64 0, .int .i64 0]).setRow [.int .i64 z1, .int .i64 z2, .int .i64 z3, .int .i64 z4, .int .i64 z5, .int .i64 z6], Below.setRow (HB1.out.alloc HB1.out.size _) HB1.out.size _⟩
 case rest =>
 obtain ⟨g3, rfl, rfl, k1, hb⟩ := hcut
 have K1' := Lib.hid (K1.out.old hb)
 clear K1
 have K1 := K1'
 clear K1'
 have K2' := Lib.hid (K2.out.old hb)
 clear K2
 have K2 := K2'
 clear K2'
 have K3 := Lib.hid k1
 clear k1
 have HS' := Lib.hid (HS.out.keep ho hb)
 clear HS hb HSc
 have HS := HS'
 clear HS'
 obtain ⟨W4, hW4⟩ : ∃ W4 : World, W4 = wc := ⟨_, rfl⟩
 subst hW4
 go_upto_region 6 with fail
 go_cut [13, 14, 15] from 43 to 65 (fun s13 s14 s15 wx => s13 = .int .i64 O1 ∧ s14 = .int .i64 E2 ∧ s15 = .int .i64 O3 ∧ Below W4.heap.size W4 wx)
 case first =>
  have HR6 : Hid (Row W4 (w.heap.size) 25 [.int .i64 a, .int .i64 b, .int .i64 c, .int .i64 d, .int .i64 x, .int .i64 y] ∧ Row W4 (w.heap.size + 1) 25 [.int .i64 k, .int .i64 l, .int .i64 m, .int .i64 n, .int .i64 u, .int .i64 v] ∧ Row W4 (w.heap.size + 1 + 1) 41 [.int .i64 tt, .int .i64 f1, .int .i64 f2, .int .i64 f3, .int .i64 f4] ∧ Below W4.heap.size W4 W4) := ⟨HS.out.1, HS.out.2.1, HS.out.2.2.1, Below.refl _ _⟩
  refine wp_region_held_drew (S := fun V => Row V (w.heap.size) 25 [.int .i64 a, .int .i64 b, .int .i64 c, .int .i64 d, .int .i64 x, .int .i64 y] ∧ Row V (w.heap.size + 1) 25 [.int .i64 k, .int .i64 l, .int .i64 m, .int .i64 n, .int .i64 u, .int .i64 v] ∧ Row V (w.heap.size + 1 + 1) 41 [.int .i64 tt, .int .i64 f1, .int .i64 f2, .int .i64 f3, .int .i64 f4] ∧ Below W4.heap.size W4 V) (by kernel_rfl) ?_ (fun hHeld => ?_)
  · exact ⟨(HR6.out.1).drew, (HR6.out.2.1).drew, (HR6.out.2.2.1).drew, (HR6.out.2.2.2).drew⟩
  refine tk 0 43 (.agg #[.int .i64 a, .int .i64 b, .int .i64 c, .int .i64 d, .int .i64 x, .int .i64 y]) rfl (by kernel_rfl) (fun _ _ _ h => h) (by kernel_rfl) (fun V hV => ex_rowT 25 _ rfl (w.heap.size) rfl 25 [.int .i64 a, .int .i64 b, .int .i64 c, .int .i64 d, .int .i64 x, .int .i64 y] _ Tryz.underlying25 rfl (by kernel_rfl) (hV.1)) hHeld ?_
  try simp only [zz]
  refine tk 2 45 (.agg #[.int .i64 k, .int .i64 l, .int .i64 m, .int .i64 n, .int .i64 u, .int .i64 v]) rfl (by kernel_rfl) (fun _ _ _ h => h) (by kernel_rfl) (fun V hV => ex_rowT 25 _ rfl (w.heap.size + 1) rfl 25 [.int .i64 k, .int .i64 l, .int .i64 m, .int .i64 n, .int .i64 u, .int .i64 v] _ Tryz.underlying25 rfl (by kernel_rfl) (hV.2.1)) hHeld ?_
  try simp only [zz]
  refine tk 6 49 (.agg #[.int .i64 a, .int .i64 b, .int .i64 c, .int .i64 d, .int .i64 x, .int .i64 y]) rfl (by kernel_rfl) (fun _ _ _ h => h) (by kernel_rfl) (fun V hV => ex_rowT 25 _ rfl (w.heap.size) rfl 25 [.int .i64 a, .int .i64 b, .int .i64 c, .int .i64 d, .int .i64 x, .int .i64 y] _ Tryz.underlying25 rfl (by kernel_rfl) (hV.1)) hHeld ?_
  try simp only [zz]
  refine tk 8 51 ?_ rfl (by kernel_rfl) (fun _ _ _ h => h) (by kernel_rfl) ?_ hHeld ?_
  rotate_left
  · intro w1 hSw; (try dsimp only at hSw); go_simp <;> with_reducible rfl
  try simp only [zz]
  refine tk 9 52 ?_ rfl (by kernel_rfl) (fun _ _ _ h => h) (by kernel_rfl) ?_ hHeld ?_
  rotate_left
  · intro w1 hSw; (try dsimp only at hSw); have cc := (hSw.2.2.1).cell 0; simp only [List.getElem?_cons_succ, List.getElem?_cons_zero] at cc; go_simp <;> with_reducible rfl
  try simp only [zz]
  refine tk 13 56 (.agg #[.int .i64 a, .int .i64 b, .int .i64 c, .int .i64 d, .int .i64 x, .int .i64 y]) rfl (by kernel_rfl) (fun _ _ _ h => h) (by kernel_rfl) (fun V hV => ex_rowT 25 _ rfl (w.heap.size) rfl 25 [.int .i64 a, .int .i64 b, .int .i64 c, .int .i64 d, .int .i64 x, .int .i64 y] _ Tryz.underlying25 rfl (by kernel_rfl) (hV.1)) hHeld ?_
  try simp only [zz]
  refine tk 15 58 ?_ rfl (by kernel_rfl) (fun _ _ _ h => h) (by kernel_rfl) ?_ hHeld ?_
  rotate_left
  · intro w1 hSw; (try dsimp only at hSw); go_simp <;> with_reducible rfl
  try simp only [zz]
  refine tk 16 59 (.agg #[.int .i64 f1, .int .i64 f2]) rfl (by kernel_rfl) (fun _ _ _ h => h) (by kernel_rfl) (fun V hV => ex_Gauss _ rfl (w.heap.size + 1 + 1) 1 rfl ((hV.2.2.1).cell 1) ((hV.2.2.1).cell 2)) hHeld ?_
  try simp only [zz]
  refine tk 17 60 ?_ rfl (by kernel_rfl) (fun _ _ _ h => h) (by kernel_rfl) ?_ hHeld ?_
  rotate_left
  · intro w1 hSw; (try dsimp only at hSw); go_simp <;> with_reducible rfl
  try simp only [zz]
  refine tk 18 61 (.agg #[.int .i64 f3, .int .i64 f4]) rfl (by kernel_rfl) (fun _ _ _ h => h) (by kernel_rfl) (fun V hV => ex_Gauss _ rfl (w.heap.size + 1 + 1) 3 rfl ((hV.2.2.1).cell 3) ((hV.2.2.1).cell 4)) hHeld ?_
  try simp only [zz]
  refine st1 1 (by kernel_rfl) rfl (fun K hK => ?_)
  go_simp
  go_at_call 13
  refine (HCa.out _).mono ?_
  rintro e v1 ⟨rfl, hb1⟩
  try go_simp
  refine hK.out _ _ ?_ (fun hHeld => ?_)
  · exact ⟨(hHeld.1).old hb1, (hHeld.2.1).old hb1, (hHeld.2.2.1).old hb1, (hHeld.2.2.2).trans ((hb1).mono (hHeld.2.2.2).size)⟩
  clear hK K
  try simp only [zz]
  refine st1 3 (by kernel_rfl) rfl (fun K hK => ?_)
  go_simp
  go_at_call 13
  refine (HCb.out _).mono ?_
  rintro e v3 ⟨rfl, hb3⟩
  try go_simp
  refine hK.out _ _ ?_ (fun hHeld => ?_)
  · exact ⟨(hHeld.1).old hb3, (hHeld.2.1).old hb3, (hHeld.2.2.1).old hb3, (hHeld.2.2.2).trans ((hb3).mono (hHeld.2.2.2).size)⟩
  clear hK K
  try simp only [zz]
  refine st1 4 (by kernel_rfl) rfl (fun K hK => ?_)
  go_simp
  refine hK.out _ _ ?_ (fun hHeld => ?_)
  · exact ⟨(hHeld.1).old ((Below.refl _ _).alloc (Nat.le_refl _) _), (hHeld.2.1).old ((Below.refl _ _).alloc (Nat.le_refl _) _), (hHeld.2.2.1).old ((Below.refl _ _).alloc (Nat.le_refl _) _), (hHeld.2.2.2).trans ((((Below.refl _ _).alloc (Nat.le_refl _) _)).mono (hHeld.2.2.2).size)⟩
  clear hK K
  try simp only [zz]
  refine st1 5 (by kernel_rfl) rfl (fun K hK => ?_)
  go_simp
  go_at_call 24
  refine (first_any _ _ _ [Ea, Eb] _ ?_ rfl (by simp)).mono ?_
  · exact Rd.newT (t := 3)
  rintro e v99 ⟨rfl, rfl⟩
  rw [HF1.out]
  try go_simp
  refine hK.out _ _ ?_ (fun hHeld => ?_)
  · exact hHeld
  clear hK K
  try simp only [zz]
  refine st1 7 (by kernel_rfl) rfl (fun K hK => ?_)
  go_simp
  go_at_call 13
  refine (HCa.out _).mono ?_
  rintro e v7 ⟨rfl, hb7⟩
  try go_simp
  refine hK.out _ _ ?_ (fun hHeld => ?_)
  · exact ⟨(hHeld.1).old hb7, (hHeld.2.1).old hb7, (hHeld.2.2.1).old hb7, (hHeld.2.2.2).trans ((hb7).mono (hHeld.2.2.2).size)⟩
  clear hK K
  try simp only [zz]
  refine st1 10 (by kernel_rfl) rfl (fun K hK => ?_)
  go_simp
  go_at_call 25
  refine (HCt.out _).mono ?_
  rintro e v10 ⟨rfl, rfl⟩
  try go_simp
  refine hK.out _ _ ?_ (fun hHeld => ?_)
  · exact hHeld
  clear hK K
  try simp only [zz]
  refine st1 11 (by kernel_rfl) rfl (fun K hK => ?_)
  go_simp
  refine hK.out _ _ ?_ (fun hHeld => ?_)
  · exact ⟨(hHeld.1).old ((Below.refl _ _).alloc (Nat.le_refl _) _), (hHeld.2.1).old ((Below.refl _ _).alloc (Nat.le_refl _) _), (hHeld.2.2.1).old ((Below.refl _ _).alloc (Nat.le_refl _) _), (hHeld.2.2.2).trans ((((Below.refl _ _).alloc (Nat.le_refl _) _)).mono (hHeld.2.2.2).size)⟩
  clear hK K
  try simp only [zz]
  refine st1 12 (by kernel_rfl) rfl (fun K hK => ?_)
  go_simp
  go_at_call 24
  refine (first_any _ _ _ [Ea, Et] _ ?_ rfl (by simp)).mono ?_
  · exact Rd.newT (t := 3)
  rintro e v99 ⟨rfl, rfl⟩
  rw [HF2.out]
  try go_simp
  refine hK.out _ _ ?_ (fun hHeld => ?_)
  · exact hHeld
  clear hK K
  try simp only [zz]
  refine st1 14 (by kernel_rfl) rfl (fun K hK => ?_)
  go_simp
  go_at_call 13
  refine (HCa.out _).mono ?_
  rintro e v14 ⟨rfl, hb14⟩
  try go_simp
  refine hK.out _ _ ?_ (fun hHeld => ?_)
  · exact ⟨(hHeld.1).old hb14, (hHeld.2.1).old hb14, (hHeld.2.2.1).old hb14, (hHeld.2.2.2).trans ((hb14).mono (hHeld.2.2.2).size)⟩
  clear hK K
  try simp only [zz]
  refine st1 19 (by kernel_rfl) rfl (fun K hK => ?_)
  go_simp
  go_at_call 26
  refine (HCf.out _).mono ?_
  rintro e v19 ⟨rfl, hb19⟩
  try go_simp
  refine hK.out _ _ ?_ (fun hHeld => ?_)
  · exact ⟨(hHeld.1).old hb19, (hHeld.2.1).old hb19, (hHeld.2.2.1).old hb19, (hHeld.2.2.2).trans ((hb19).mono (hHeld.2.2.2).size)⟩
  clear hK K
  try simp only [zz]
  refine st1 20 (by kernel_rfl) rfl (fun K hK => ?_)
  go_simp
  refine hK.out _ _ ?_ (fun hHeld => ?_)
  · exact ⟨(hHeld.1).old ((Below.refl _ _).alloc (Nat.le_refl _) _), (hHeld.2.1).old ((Below.refl _ _).alloc (Nat.le_refl _) _), (hHeld.2.2.1).old ((Below.refl _ _).alloc (Nat.le_refl _) _), (hHeld.2.2.2).trans ((((Below.refl _ _).alloc (Nat.le_refl _) _)).mono (hHeld.2.2.2).size)⟩
  clear hK K
  try simp only [zz]
  refine st1 21 (by kernel_rfl) rfl (fun K hK => ?_)
  go_simp
  go_at_call 24
  refine (first_any _ _ _ [Ea, Ef] _ ?_ rfl (by simp)).mono ?_
  · exact Rd.newT (t := 3)
  rintro e v99 ⟨rfl, rfl⟩
  rw [HF3.out]
  try go_simp
  refine hK.out _ _ ?_ (fun hHeld => ?_)
  · exact hHeld
  clear hK K
  try simp only [zz]
  refine tk 22 13 ?_ rfl (by kernel_rfl) (fun _ _ _ h => h) (by kernel_rfl) ?_ hHeld ?_
  rotate_left
  · intro w1 hSw; (try dsimp only at hSw); go_simp <;> with_reducible rfl
  try simp only [zz]
  refine tk 23 14 ?_ rfl (by kernel_rfl) (fun _ _ _ h => h) (by kernel_rfl) ?_ hHeld ?_
  rotate_left
  · intro w1 hSw; (try dsimp only at hSw); go_simp <;> with_reducible rfl
  try simp only [zz]
  refine tk 24 15 ?_ rfl (by kernel_rfl) (fun _ _ _ h => h) (by kernel_rfl) ?_ hHeld ?_
  rotate_left
  · intro w1 hSw; (try dsimp only at hSw); go_simp <;> with_reducible rfl
  try simp only [zz]
  refine wpAnyH_done (by kernel_rfl) ?_ _
  go_wp2_with fail
  go_meet
  exact ⟨rfl, rfl, rfl, hHeld.2.2.2⟩
 case rest =>
 obtain ⟨rfl, rfl, rfl, hb⟩ := hcut
 have K1' := Lib.hid (K1.out.old hb)
 clear K1
 have K1 := K1'
 clear K1'
 have K2' := Lib.hid (K2.out.old hb)
 clear K2
 have K2 := K2'
 clear K2'
 have K3' := Lib.hid (K3.out.old hb)
 clear K3
 have K3 := K3'
 clear K3'
 have HS' := Lib.hid (HS.out.keep ho hb)
 clear HS hb HCa HCb HCt HCf HF1 HF2 HF3
 have HS := HS'
 clear HS'
 obtain ⟨W5, hW5⟩ : ∃ W5 : World, W5 = wc := ⟨_, rfl⟩
 subst hW5
 go_upto_if 66 with fail
 have hbn : Below W5.heap.size W5 (((W5.alloc (.cells #[.int .i64 0, .int .i64 0, .int .i64 0, .int .i64 0, .int .i64 0, .int .i64 0] 25)).alloc (.cells #[.int .i64 0, .int .i64 0, .int .i64 0, .int .i64 0, .int .i64 0, .int .i64 0] 25)).alloc (.cells #[.int .i64 0, .int .i64 0, .int .i64 0, .int .i64 0, .int .i64 0, .int .i64 0] 25)) := (((Below.refl _ _).alloc (Nat.le_refl _) _).alloc (by simp only [World.size_alloc]; omega) _).alloc (by simp only [World.size_alloc]; omega) _
 refine genT (fun V => Row V (W5.heap.size) 25 [.int .i64 0, .int .i64 0, .int .i64 0, .int .i64 0, .int .i64 0, .int .i64 0] ∧ Row V (W5.heap.size + 1) 25 [.int .i64 0, .int .i64 0, .int .i64 0, .int .i64 0, .int .i64 0, .int .i64 0] ∧ Row V (W5.heap.size + 1 + 1) 25 [.int .i64 0, .int .i64 0, .int .i64 0, .int .i64 0, .int .i64 0, .int .i64 0] ∧ Below W5.heap.size W5 V) ⟨Row.alloc (Row.alloc (Row.new W5 _ [.int .i64 0, .int .i64 0, .int .i64 0, .int .i64 0, .int .i64 0, .int .i64 0]) _) _, Row.alloc (rowAt _ _ (by simp only [World.size_alloc])) _, rowAt _ _ (by simp only [World.size_alloc]), hbn⟩ ?_
 clear hbn
 intro V0 s6
 have H6 := Lib.hid s6
 clear s6
 go_cut [13] from 66 to 75 (fun s13 wx => s13 = .int .i64 E1 ∧ Row wx (W5.heap.size) 25 [.int .i64 r1, .int .i64 r2, .int .i64 r3, .int .i64 r4, .int .i64 r5, .int .i64 r6] ∧ Row wx (W5.heap.size + 1) 25 [.int .i64 0, .int .i64 0, .int .i64 0, .int .i64 0, .int .i64 0, .int .i64 0] ∧ Row wx (W5.heap.size + 1 + 1) 25 [.int .i64 0, .int .i64 0, .int .i64 0, .int .i64 0, .int .i64 0, .int .i64 0] ∧ Below W5.heap.size W5 wx)
 case first =>
  clear hq1 hq2 hq3
  by_cases hO : O1 = 0
  · have H1a' := Lib.hid (H1a.out hO); have H1b' := Lib.hid (H1b.out hO)
    clear H1a H1b
    have H1a := H1a'; have H1b := H1b'
    clear H1a' H1b'
    have hz0 : w.heap.size + 1 + 1 < W5.heap.size := HS.out.2.2.1.lt
    have HS6 := Lib.hid (HS.out.keep ho H6.out.2.2.2)
    have hne : (O1 == 0) = true := by simpa using hO
    by_cases hE : E1 = 0
    · obtain ⟨rfl, rfl, rfl, rfl, rfl, rfl⟩ := H1c.out hO hE
      have hne1 : (E1 == 0) = true := by simpa using hE
      have hne2 : (E1 != 0) = false := by simpa using hE
      clear hO hE HS H1c H1d H1e
      go_wp2_with (first
    | (refine wpList_load_row rfl 25 _ rfl (w.heap.size) rfl 25 #[.int .i64 a, .int .i64 b, .int .i64 c, .int .i64 d, .int .i64 x, .int .i64 y] (0, 0) _ HS6.out.1 Tryz.underlying25 rfl ?_ ?_; (kernel_rfl))
    | (refine wpList_load_row rfl 25 _ rfl (w.heap.size + 1) rfl 25 #[.int .i64 k, .int .i64 l, .int .i64 m, .int .i64 n, .int .i64 u, .int .i64 v] (0, 0) _ HS6.out.2.1 Tryz.underlying25 rfl ?_ ?_; (kernel_rfl))
    | (go_at_call 27; refine (H1a.out _).mono ?_; rintro e w7 ⟨rfl, hb7⟩; have H7 : Hid (Row w7 (W5.heap.size) 25 [.int .i64 0, .int .i64 0, .int .i64 0, .int .i64 0, .int .i64 0, .int .i64 0] ∧ Row w7 (W5.heap.size + 1) 25 [.int .i64 0, .int .i64 0, .int .i64 0, .int .i64 0, .int .i64 0, .int .i64 0] ∧ Row w7 (W5.heap.size + 1 + 1) 25 [.int .i64 0, .int .i64 0, .int .i64 0, .int .i64 0, .int .i64 0, .int .i64 0] ∧ Below W5.heap.size W5 w7) := ⟨H6.out.1.old hb7, H6.out.2.1.old hb7, H6.out.2.2.1.old hb7, H6.out.2.2.2.trans (hb7.mono H6.out.2.2.2.size)⟩; clear hb7)
    | (refine wpList_store_row rfl 25 _ _ rfl (W5.heap.size) #[.int .i64 o1, .int .i64 o2, .int .i64 o3, .int .i64 o4, .int .i64 o5, .int .i64 o6] rfl rfl 25 _ H7.out.1 ?_ ?_ ?_ ?_; (kernel_rfl); (rfl); (simp [Value.oneCell']))
    | (refine wpList_load_row rfl 25 _ rfl (W5.heap.size) rfl 25 #[.int .i64 o1, .int .i64 o2, .int .i64 o3, .int .i64 o4, .int .i64 o5, .int .i64 o6] (0, 0) _ (H7.out.1.setRow [.int .i64 o1, .int .i64 o2, .int .i64 o3, .int .i64 o4, .int .i64 o5, .int .i64 o6]) Tryz.underlying25 rfl ?_ ?_; (kernel_rfl))
    | (go_at_call 28; refine (H1b.out _).mono ?_; rintro e w8 ⟨rfl, hb8⟩; have H8 : Hid (Row w8 (W5.heap.size) 25 [.int .i64 o1, .int .i64 o2, .int .i64 o3, .int .i64 o4, .int .i64 o5, .int .i64 o6] ∧ Row w8 (W5.heap.size + 1) 25 [.int .i64 0, .int .i64 0, .int .i64 0, .int .i64 0, .int .i64 0, .int .i64 0] ∧ Row w8 (W5.heap.size + 1 + 1) 25 [.int .i64 0, .int .i64 0, .int .i64 0, .int .i64 0, .int .i64 0, .int .i64 0] ∧ Below W5.heap.size W5 w8) := (let h := (show Row (w7.setRow (W5.heap.size) #[.int .i64 o1, .int .i64 o2, .int .i64 o3, .int .i64 o4, .int .i64 o5, .int .i64 o6]) (W5.heap.size) 25 [.int .i64 o1, .int .i64 o2, .int .i64 o3, .int .i64 o4, .int .i64 o5, .int .i64 o6] ∧ Row (w7.setRow (W5.heap.size) #[.int .i64 o1, .int .i64 o2, .int .i64 o3, .int .i64 o4, .int .i64 o5, .int .i64 o6]) (W5.heap.size + 1) 25 [.int .i64 0, .int .i64 0, .int .i64 0, .int .i64 0, .int .i64 0, .int .i64 0] ∧ Row (w7.setRow (W5.heap.size) #[.int .i64 o1, .int .i64 o2, .int .i64 o3, .int .i64 o4, .int .i64 o5, .int .i64 o6]) (W5.heap.size + 1 + 1) 25 [.int .i64 0, .int .i64 0, .int .i64 0, .int .i64 0, .int .i64 0, .int .i64 0] ∧ Below W5.heap.size W5 (w7.setRow (W5.heap.size) #[.int .i64 o1, .int .i64 o2, .int .i64 o3, .int .i64 o4, .int .i64 o5, .int .i64 o6]) from ⟨H7.out.1.setRow [.int .i64 o1, .int .i64 o2, .int .i64 o3, .int .i64 o4, .int .i64 o5, .int .i64 o6], H7.out.2.1.farRow (by omega) _, H7.out.2.2.1.farRow (by omega) _, Below.setRow H7.out.2.2.2 (by omega) _⟩); ⟨h.1.old hb8, h.2.1.old hb8, h.2.2.1.old hb8, h.2.2.2.trans (hb8.mono h.2.2.2.size)⟩); clear hb8)
    | (refine wpList_store_row rfl 25 _ _ rfl (W5.heap.size) #[.int .i64 0, .int .i64 0, .int .i64 0, .int .i64 0, .int .i64 0, .int .i64 0] rfl rfl 25 _ H8.out.1 ?_ ?_ ?_ ?_; (kernel_rfl); (rfl); (simp [Value.oneCell'])))
      go_meet
      exact ⟨rfl, H8.out⟩
    · obtain ⟨rfl, rfl, rfl, rfl, rfl, rfl⟩ := H1d.out hE
      have hne1 : (E1 == 0) = false := by simpa using hE
      have hne2 : (E1 != 0) = true := by simpa using hE
      clear hO hE HS H1c H1d H1e
      go_wp2_with (first
    | (refine wpList_load_row rfl 25 _ rfl (w.heap.size) rfl 25 #[.int .i64 a, .int .i64 b, .int .i64 c, .int .i64 d, .int .i64 x, .int .i64 y] (0, 0) _ HS6.out.1 Tryz.underlying25 rfl ?_ ?_; (kernel_rfl))
    | (refine wpList_load_row rfl 25 _ rfl (w.heap.size + 1) rfl 25 #[.int .i64 k, .int .i64 l, .int .i64 m, .int .i64 n, .int .i64 u, .int .i64 v] (0, 0) _ HS6.out.2.1 Tryz.underlying25 rfl ?_ ?_; (kernel_rfl))
    | (go_at_call 27; refine (H1a.out _).mono ?_; rintro e w7 ⟨rfl, hb7⟩; have H7 : Hid (Row w7 (W5.heap.size) 25 [.int .i64 0, .int .i64 0, .int .i64 0, .int .i64 0, .int .i64 0, .int .i64 0] ∧ Row w7 (W5.heap.size + 1) 25 [.int .i64 0, .int .i64 0, .int .i64 0, .int .i64 0, .int .i64 0, .int .i64 0] ∧ Row w7 (W5.heap.size + 1 + 1) 25 [.int .i64 0, .int .i64 0, .int .i64 0, .int .i64 0, .int .i64 0, .int .i64 0] ∧ Below W5.heap.size W5 w7) := ⟨H6.out.1.old hb7, H6.out.2.1.old hb7, H6.out.2.2.1.old hb7, H6.out.2.2.2.trans (hb7.mono H6.out.2.2.2.size)⟩; clear hb7)
    | (refine wpList_store_row rfl 25 _ _ rfl (W5.heap.size) #[.int .i64 o1, .int .i64 o2, .int .i64 o3, .int .i64 o4, .int .i64 o5, .int .i64 o6] rfl rfl 25 _ H7.out.1 ?_ ?_ ?_ ?_; (kernel_rfl); (rfl); (simp [Value.oneCell']))
    | (refine wpList_load_row rfl 25 _ rfl (W5.heap.size) rfl 25 #[.int .i64 o1, .int .i64 o2, .int .i64 o3, .int .i64 o4, .int .i64 o5, .int .i64 o6] (0, 0) _ (H7.out.1.setRow [.int .i64 o1, .int .i64 o2, .int .i64 o3, .int .i64 o4, .int .i64 o5, .int .i64 o6]) Tryz.underlying25 rfl ?_ ?_; (kernel_rfl))
    | (go_at_call 28; refine (H1b.out _).mono ?_; rintro e w8 ⟨rfl, hb8⟩; have H8 : Hid (Row w8 (W5.heap.size) 25 [.int .i64 o1, .int .i64 o2, .int .i64 o3, .int .i64 o4, .int .i64 o5, .int .i64 o6] ∧ Row w8 (W5.heap.size + 1) 25 [.int .i64 0, .int .i64 0, .int .i64 0, .int .i64 0, .int .i64 0, .int .i64 0] ∧ Row w8 (W5.heap.size + 1 + 1) 25 [.int .i64 0, .int .i64 0, .int .i64 0, .int .i64 0, .int .i64 0, .int .i64 0] ∧ Below W5.heap.size W5 w8) := (let h := (show Row (w7.setRow (W5.heap.size) #[.int .i64 o1, .int .i64 o2, .int .i64 o3, .int .i64 o4, .int .i64 o5, .int .i64 o6]) (W5.heap.size) 25 [.int .i64 o1, .int .i64 o2, .int .i64 o3, .int .i64 o4, .int .i64 o5, .int .i64 o6] ∧ Row (w7.setRow (W5.heap.size) #[.int .i64 o1, .int .i64 o2, .int .i64 o3, .int .i64 o4, .int .i64 o5, .int .i64 o6]) (W5.heap.size + 1) 25 [.int .i64 0, .int .i64 0, .int .i64 0, .int .i64 0, .int .i64 0, .int .i64 0] ∧ Row (w7.setRow (W5.heap.size) #[.int .i64 o1, .int .i64 o2, .int .i64 o3, .int .i64 o4, .int .i64 o5, .int .i64 o6]) (W5.heap.size + 1 + 1) 25 [.int .i64 0, .int .i64 0, .int .i64 0, .int .i64 0, .int .i64 0, .int .i64 0] ∧ Below W5.heap.size W5 (w7.setRow (W5.heap.size) #[.int .i64 o1, .int .i64 o2, .int .i64 o3, .int .i64 o4, .int .i64 o5, .int .i64 o6]) from ⟨H7.out.1.setRow [.int .i64 o1, .int .i64 o2, .int .i64 o3, .int .i64 o4, .int .i64 o5, .int .i64 o6], H7.out.2.1.farRow (by omega) _, H7.out.2.2.1.farRow (by omega) _, Below.setRow H7.out.2.2.2 (by omega) _⟩); ⟨h.1.old hb8, h.2.1.old hb8, h.2.2.1.old hb8, h.2.2.2.trans (hb8.mono h.2.2.2.size)⟩); clear hb8)
    | (refine wpList_store_row rfl 25 _ _ rfl (W5.heap.size) #[.int .i64 0, .int .i64 0, .int .i64 0, .int .i64 0, .int .i64 0, .int .i64 0] rfl rfl 25 _ H8.out.1 ?_ ?_ ?_ ?_; (kernel_rfl); (rfl); (simp [Value.oneCell'])))
      go_meet
      exact ⟨rfl, ⟨H8.out.1.setRow [.int .i64 0, .int .i64 0, .int .i64 0, .int .i64 0, .int .i64 0, .int .i64 0], H8.out.2.1.farRow (by omega) _, H8.out.2.2.1.farRow (by omega) _, Below.setRow H8.out.2.2.2 (by omega) _⟩⟩
  · have hE1 := H1e.out hO
    obtain ⟨rfl, rfl, rfl, rfl, rfl, rfl⟩ := H1d.out (by rw [hE1]; exact hO)
    subst hE1
    have hne : (E1 == 0) = false := by simpa using hO
    clear hO H1c H1d H1e
    go_wp2_with fail
    go_meet
    exact ⟨rfl, H6.out⟩
 case rest =>
 obtain ⟨rfl, h6⟩ := hcut
 clear H6
 have H6 := Lib.hid h6
 clear h6
 obtain ⟨V1, hV⟩ : ∃ V : World, V = wc := ⟨_, rfl⟩
 subst hV
 go_upto_if 76 with fail
 go_cut [14] from 76 to 81 (fun s14 wx => s14 = .int .i64 E2 ∧ Row wx (W5.heap.size) 25 [.int .i64 r1, .int .i64 r2, .int .i64 r3, .int .i64 r4, .int .i64 r5, .int .i64 r6] ∧ Row wx (W5.heap.size + 1) 25 [.int .i64 s1, .int .i64 s2, .int .i64 s3, .int .i64 s4, .int .i64 s5, .int .i64 s6] ∧ Row wx (W5.heap.size + 1 + 1) 25 [.int .i64 0, .int .i64 0, .int .i64 0, .int .i64 0, .int .i64 0, .int .i64 0] ∧ Below W5.heap.size W5 wx)
 case first =>
  clear hq1 hq2 hq3
  by_cases hO : E2 = 0
  · have H2a' := Lib.hid (H2a.out hO)
    clear H2a
    have H2a := H2a'
    clear H2a'
    have hz0 : w.heap.size + 1 + 1 < W5.heap.size := HS.out.2.2.1.lt
    have HS6 := Lib.hid (HS.out.keep ho H6.out.2.2.2)
    have hne : (E2 == 0) = true := by simpa using hO
    clear hO HS H2b
    have d0 := HS6.out.2.2.1.cell 0
    simp only [List.getElem?_cons_succ, List.getElem?_cons_zero] at d0
    go_wp2_with (first
     | (refine wpList_load_row rfl 25 _ rfl (w.heap.size) rfl 25 #[.int .i64 a, .int .i64 b, .int .i64 c, .int .i64 d, .int .i64 x, .int .i64 y] (0, 0) _ HS6.out.1 Tryz.underlying25 rfl ?_ ?_; (kernel_rfl))
     | (go_at_call 29; refine (H2a.out _).mono ?_; rintro e w7 ⟨rfl, hb7⟩; have H7 : Hid (Row w7 (W5.heap.size) 25 [.int .i64 r1, .int .i64 r2, .int .i64 r3, .int .i64 r4, .int .i64 r5, .int .i64 r6] ∧ Row w7 (W5.heap.size + 1) 25 [.int .i64 0, .int .i64 0, .int .i64 0, .int .i64 0, .int .i64 0, .int .i64 0] ∧ Row w7 (W5.heap.size + 1 + 1) 25 [.int .i64 0, .int .i64 0, .int .i64 0, .int .i64 0, .int .i64 0, .int .i64 0] ∧ Below W5.heap.size W5 w7) := ⟨H6.out.1.old hb7, H6.out.2.1.old hb7, H6.out.2.2.1.old hb7, H6.out.2.2.2.trans (hb7.mono H6.out.2.2.2.size)⟩; clear hb7)
     | (refine wpList_store_row rfl 25 _ _ rfl (W5.heap.size + 1) #[.int .i64 s1, .int .i64 s2, .int .i64 s3, .int .i64 s4, .int .i64 s5, .int .i64 s6] rfl rfl 25 _ H7.out.2.1 ?_ ?_ ?_ ?_; (kernel_rfl); (rfl); (simp [Value.oneCell'])))
    go_meet
    exact ⟨rfl, ⟨H7.out.1.farRow (by omega) _, H7.out.2.1.setRow [.int .i64 s1, .int .i64 s2, .int .i64 s3, .int .i64 s4, .int .i64 s5, .int .i64 s6], H7.out.2.2.1.farRow (by omega) _, Below.setRow H7.out.2.2.2 (by omega) _⟩⟩
  · obtain ⟨rfl, rfl, rfl, rfl, rfl, rfl⟩ := H2b.out hO
    have hne : (E2 == 0) = false := by simpa using hO
    clear hO H2b
    go_wp2_with fail
    go_meet
    exact ⟨rfl, H6.out⟩
 case rest =>
 obtain ⟨rfl, h6⟩ := hcut
 clear H6
 have H6 := Lib.hid h6
 clear h6
 obtain ⟨V9, hV⟩ : ∃ V : World, V = wc := ⟨_, rfl⟩
 subst hV
 go_upto_if 82 with fail
 go_cut [15] from 82 to 94 (fun s15 wx => s15 = .int .i64 E3 ∧ Row wx (W5.heap.size) 25 [.int .i64 r1, .int .i64 r2, .int .i64 r3, .int .i64 r4, .int .i64 r5, .int .i64 r6] ∧ Row wx (W5.heap.size + 1) 25 [.int .i64 s1, .int .i64 s2, .int .i64 s3, .int .i64 s4, .int .i64 s5, .int .i64 s6] ∧ Row wx (W5.heap.size + 1 + 1) 25 [.int .i64 z1, .int .i64 z2, .int .i64 z3, .int .i64 z4, .int .i64 z5, .int .i64 z6] ∧ Below W5.heap.size W5 wx)
 case first =>
  clear hq1 hq2 hq3
  by_cases hO : O3 = 0
  · have H3a' := Lib.hid (H3a.out hO); have H3b' := Lib.hid (H3b.out hO)
    clear H3a H3b
    have H3a := H3a'; have H3b := H3b'
    clear H3a' H3b'
    have hz0 : w.heap.size + 1 + 1 < W5.heap.size := HS.out.2.2.1.lt
    have HS6 := Lib.hid (HS.out.keep ho H6.out.2.2.2)
    have hne : (O3 == 0) = true := by simpa using hO
    by_cases hE : E3 = 0
    · obtain ⟨rfl, rfl, rfl, rfl, rfl, rfl⟩ := H3c.out hO hE
      have hne1 : (E3 == 0) = true := by simpa using hE
      have hne2 : (E3 != 0) = false := by simpa using hE
      clear hO hE HS H3c H3d H3e
      have d1 := HS6.out.2.2.1.cell 1
      have d2 := HS6.out.2.2.1.cell 2
      have d3 := HS6.out.2.2.1.cell 3
      have d4 := HS6.out.2.2.1.cell 4
      simp only [List.getElem?_cons_succ, List.getElem?_cons_zero] at d1 d2 d3 d4
      go_wp2_with (first
    | (refine wpList_load_row rfl 25 _ rfl (w.heap.size) rfl 25 #[.int .i64 a, .int .i64 b, .int .i64 c, .int .i64 d, .int .i64 x, .int .i64 y] (0, 0) _ HS6.out.1 Tryz.underlying25 rfl ?_ ?_; (kernel_rfl))
    | (refine wpList_load_row rfl 25 _ rfl (w.heap.size + 1) rfl 25 #[.int .i64 k, .int .i64 l, .int .i64 m, .int .i64 n, .int .i64 u, .int .i64 v] (0, 0) _ HS6.out.2.1 Tryz.underlying25 rfl ?_ ?_; (kernel_rfl))
    | (go_at_call 30; refine (H3a.out _).mono ?_; rintro e w7 ⟨rfl, hb7⟩; have H7 : Hid (Row w7 (W5.heap.size) 25 [.int .i64 r1, .int .i64 r2, .int .i64 r3, .int .i64 r4, .int .i64 r5, .int .i64 r6] ∧ Row w7 (W5.heap.size + 1) 25 [.int .i64 s1, .int .i64 s2, .int .i64 s3, .int .i64 s4, .int .i64 s5, .int .i64 s6] ∧ Row w7 (W5.heap.size + 1 + 1) 25 [.int .i64 0, .int .i64 0, .int .i64 0, .int .i64 0, .int .i64 0, .int .i64 0] ∧ Below W5.heap.size W5 w7) := ⟨H6.out.1.old hb7, H6.out.2.1.old hb7, H6.out.2.2.1.old hb7, H6.out.2.2.2.trans (hb7.mono H6.out.2.2.2.size)⟩; clear hb7)
    | (refine wpList_store_row rfl 25 _ _ rfl (W5.heap.size + 1 + 1) #[.int .i64 j1, .int .i64 j2, .int .i64 j3, .int .i64 j4, .int .i64 j5, .int .i64 j6] rfl rfl 25 _ H7.out.2.2.1 ?_ ?_ ?_ ?_; (kernel_rfl); (rfl); (simp [Value.oneCell']))
    | (refine wpList_load_row rfl 25 _ rfl (W5.heap.size + 1 + 1) rfl 25 #[.int .i64 j1, .int .i64 j2, .int .i64 j3, .int .i64 j4, .int .i64 j5, .int .i64 j6] (0, 0) _ (H7.out.2.2.1.setRow [.int .i64 j1, .int .i64 j2, .int .i64 j3, .int .i64 j4, .int .i64 j5, .int .i64 j6]) Tryz.underlying25 rfl ?_ ?_; (kernel_rfl))
    | (go_at_call 28; refine (H3b.out _).mono ?_; rintro e w8 ⟨rfl, hb8⟩; have H8 : Hid (Row w8 (W5.heap.size) 25 [.int .i64 r1, .int .i64 r2, .int .i64 r3, .int .i64 r4, .int .i64 r5, .int .i64 r6] ∧ Row w8 (W5.heap.size + 1) 25 [.int .i64 s1, .int .i64 s2, .int .i64 s3, .int .i64 s4, .int .i64 s5, .int .i64 s6] ∧ Row w8 (W5.heap.size + 1 + 1) 25 [.int .i64 j1, .int .i64 j2, .int .i64 j3, .int .i64 j4, .int .i64 j5, .int .i64 j6] ∧ Below W5.heap.size W5 w8) := (let h := (show Row (w7.setRow (W5.heap.size + 1 + 1) #[.int .i64 j1, .int .i64 j2, .int .i64 j3, .int .i64 j4, .int .i64 j5, .int .i64 j6]) (W5.heap.size) 25 [.int .i64 r1, .int .i64 r2, .int .i64 r3, .int .i64 r4, .int .i64 r5, .int .i64 r6] ∧ Row (w7.setRow (W5.heap.size + 1 + 1) #[.int .i64 j1, .int .i64 j2, .int .i64 j3, .int .i64 j4, .int .i64 j5, .int .i64 j6]) (W5.heap.size + 1) 25 [.int .i64 s1, .int .i64 s2, .int .i64 s3, .int .i64 s4, .int .i64 s5, .int .i64 s6] ∧ Row (w7.setRow (W5.heap.size + 1 + 1) #[.int .i64 j1, .int .i64 j2, .int .i64 j3, .int .i64 j4, .int .i64 j5, .int .i64 j6]) (W5.heap.size + 1 + 1) 25 [.int .i64 j1, .int .i64 j2, .int .i64 j3, .int .i64 j4, .int .i64 j5, .int .i64 j6] ∧ Below W5.heap.size W5 (w7.setRow (W5.heap.size + 1 + 1) #[.int .i64 j1, .int .i64 j2, .int .i64 j3, .int .i64 j4, .int .i64 j5, .int .i64 j6]) from ⟨H7.out.1.farRow (by omega) _, H7.out.2.1.farRow (by omega) _, H7.out.2.2.1.setRow [.int .i64 j1, .int .i64 j2, .int .i64 j3, .int .i64 j4, .int .i64 j5, .int .i64 j6], Below.setRow H7.out.2.2.2 (by omega) _⟩); ⟨h.1.old hb8, h.2.1.old hb8, h.2.2.1.old hb8, h.2.2.2.trans (hb8.mono h.2.2.2.size)⟩); clear hb8)
    | (refine wpList_store_row rfl 25 _ _ rfl (W5.heap.size + 1 + 1) #[.int .i64 0, .int .i64 0, .int .i64 0, .int .i64 0, .int .i64 0, .int .i64 0] rfl rfl 25 _ H8.out.2.2.1 ?_ ?_ ?_ ?_; (kernel_rfl); (rfl); (simp [Value.oneCell'])))
      go_meet
      exact ⟨rfl, H8.out⟩
    · obtain ⟨rfl, rfl, rfl, rfl, rfl, rfl⟩ := H3d.out hE
      have hne1 : (E3 == 0) = false := by simpa using hE
      have hne2 : (E3 != 0) = true := by simpa using hE
      clear hO hE HS H3c H3d H3e
      have d1 := HS6.out.2.2.1.cell 1
      have d2 := HS6.out.2.2.1.cell 2
      have d3 := HS6.out.2.2.1.cell 3
      have d4 := HS6.out.2.2.1.cell 4
      simp only [List.getElem?_cons_succ, List.getElem?_cons_zero] at d1 d2 d3 d4
      go_wp2_with (first
    | (refine wpList_load_row rfl 25 _ rfl (w.heap.size) rfl 25 #[.int .i64 a, .int .i64 b, .int .i64 c, .int .i64 d, .int .i64 x, .int .i64 y] (0, 0) _ HS6.out.1 Tryz.underlying25 rfl ?_ ?_; (kernel_rfl))
    | (refine wpList_load_row rfl 25 _ rfl (w.heap.size + 1) rfl 25 #[.int .i64 k, .int .i64 l, .int .i64 m, .int .i64 n, .int .i64 u, .int .i64 v] (0, 0) _ HS6.out.2.1 Tryz.underlying25 rfl ?_ ?_; (kernel_rfl))
    | (go_at_call 30; refine (H3a.out _).mono ?_; rintro e w7 ⟨rfl, hb7⟩; have H7 : Hid (Row w7 (W5.heap.size) 25 [.int .i64 r1, .int .i64 r2, .int .i64 r3, .int .i64 r4, .int .i64 r5, .int .i64 r6] ∧ Row w7 (W5.heap.size + 1) 25 [.int .i64 s1, .int .i64 s2, .int .i64 s3, .int .i64 s4, .int .i64 s5, .int .i64 s6] ∧ Row w7 (W5.heap.size + 1 + 1) 25 [.int .i64 0, .int .i64 0, .int .i64 0, .int .i64 0, .int .i64 0, .int .i64 0] ∧ Below W5.heap.size W5 w7) := ⟨H6.out.1.old hb7, H6.out.2.1.old hb7, H6.out.2.2.1.old hb7, H6.out.2.2.2.trans (hb7.mono H6.out.2.2.2.size)⟩; clear hb7)
    | (refine wpList_store_row rfl 25 _ _ rfl (W5.heap.size + 1 + 1) #[.int .i64 j1, .int .i64 j2, .int .i64 j3, .int .i64 j4, .int .i64 j5, .int .i64 j6] rfl rfl 25 _ H7.out.2.2.1 ?_ ?_ ?_ ?_; (kernel_rfl); (rfl); (simp [Value.oneCell']))
    | (refine wpList_load_row rfl 25 _ rfl (W5.heap.size + 1 + 1) rfl 25 #[.int .i64 j1, .int .i64 j2, .int .i64 j3, .int .i64 j4, .int .i64 j5, .int .i64 j6] (0, 0) _ (H7.out.2.2.1.setRow [.int .i64 j1, .int .i64 j2, .int .i64 j3, .int .i64 j4, .int .i64 j5, .int .i64 j6]) Tryz.underlying25 rfl ?_ ?_; (kernel_rfl))
    | (go_at_call 28; refine (H3b.out _).mono ?_; rintro e w8 ⟨rfl, hb8⟩; have H8 : Hid (Row w8 (W5.heap.size) 25 [.int .i64 r1, .int .i64 r2, .int .i64 r3, .int .i64 r4, .int .i64 r5, .int .i64 r6] ∧ Row w8 (W5.heap.size + 1) 25 [.int .i64 s1, .int .i64 s2, .int .i64 s3, .int .i64 s4, .int .i64 s5, .int .i64 s6] ∧ Row w8 (W5.heap.size + 1 + 1) 25 [.int .i64 j1, .int .i64 j2, .int .i64 j3, .int .i64 j4, .int .i64 j5, .int .i64 j6] ∧ Below W5.heap.size W5 w8) := (let h := (show Row (w7.setRow (W5.heap.size + 1 + 1) #[.int .i64 j1, .int .i64 j2, .int .i64 j3, .int .i64 j4, .int .i64 j5, .int .i64 j6]) (W5.heap.size) 25 [.int .i64 r1, .int .i64 r2, .int .i64 r3, .int .i64 r4, .int .i64 r5, .int .i64 r6] ∧ Row (w7.setRow (W5.heap.size + 1 + 1) #[.int .i64 j1, .int .i64 j2, .int .i64 j3, .int .i64 j4, .int .i64 j5, .int .i64 j6]) (W5.heap.size + 1) 25 [.int .i64 s1, .int .i64 s2, .int .i64 s3, .int .i64 s4, .int .i64 s5, .int .i64 s6] ∧ Row (w7.setRow (W5.heap.size + 1 + 1) #[.int .i64 j1, .int .i64 j2, .int .i64 j3, .int .i64 j4, .int .i64 j5, .int .i64 j6]) (W5.heap.size + 1 + 1) 25 [.int .i64 j1, .int .i64 j2, .int .i64 j3, .int .i64 j4, .int .i64 j5, .int .i64 j6] ∧ Below W5.heap.size W5 (w7.setRow (W5.heap.size + 1 + 1) #[.int .i64 j1, .int .i64 j2, .int .i64 j3, .int .i64 j4, .int .i64 j5, .int .i64 j6]) from ⟨H7.out.1.farRow (by omega) _, H7.out.2.1.farRow (by omega) _, H7.out.2.2.1.setRow [.int .i64 j1, .int .i64 j2, .int .i64 j3, .int .i64 j4, .int .i64 j5, .int .i64 j6], Below.setRow H7.out.2.2.2 (by omega) _⟩); ⟨h.1.old hb8, h.2.1.old hb8, h.2.2.1.old hb8, h.2.2.2.trans (hb8.mono h.2.2.2.size)⟩); clear hb8)
    | (refine wpList_store_row rfl 25 _ _ rfl (W5.heap.size + 1 + 1) #[.int .i64 0, .int .i64 0, .int .i64 0, .int .i64 0, .int .i64 0, .int .i64 0] rfl rfl 25 _ H8.out.2.2.1 ?_ ?_ ?_ ?_; (kernel_rfl); (rfl); (simp [Value.oneCell'])))
      go_meet
      exact ⟨rfl, ⟨H8.out.1.farRow (by omega) _, H8.out.2.1.farRow (by omega) _, H8.out.2.2.1.setRow [.int .i64 0, .int .i64 0, .int .i64 0, .int .i64 0, .int .i64 0, .int .i64 0], Below.setRow H8.out.2.2.2 (by omega) _⟩⟩
  · have hE1 := H3e.out hO
    obtain ⟨rfl, rfl, rfl, rfl, rfl, rfl⟩ := H3d.out (by rw [hE1]; exact hO)
    subst hE1
    have hne : (E3 == 0) = false := by simpa using hO
    clear hO H3c H3d H3e
    go_wp2_with fail
    go_meet
    exact ⟨rfl, H6.out⟩
 case rest =>
 obtain ⟨rfl, h6⟩ := hcut
 clear H6
 have H6 := Lib.hid h6
 clear h6
 obtain ⟨V3, hV⟩ : ∃ V : World, V = wc := ⟨_, rfl⟩
 subst hV
 have qa0 := (K1.out.old H6.out.2.2.2).cell 0
 have qa1 := (K1.out.old H6.out.2.2.2).cell 1
 have qa2 := (K1.out.old H6.out.2.2.2).cell 2
 have qa3 := (K1.out.old H6.out.2.2.2).cell 3
 have qa4 := (K1.out.old H6.out.2.2.2).cell 4
 have qa5 := (K1.out.old H6.out.2.2.2).cell 5
 have qb0 := (K2.out.old H6.out.2.2.2).cell 0
 have qb1 := (K2.out.old H6.out.2.2.2).cell 1
 have qb2 := (K2.out.old H6.out.2.2.2).cell 2
 have qb3 := (K2.out.old H6.out.2.2.2).cell 3
 have qb4 := (K2.out.old H6.out.2.2.2).cell 4
 have qb5 := (K2.out.old H6.out.2.2.2).cell 5
 have qe0 := (K3.out.old H6.out.2.2.2).cell 0
 have qe1 := (K3.out.old H6.out.2.2.2).cell 1
 have qe2 := (K3.out.old H6.out.2.2.2).cell 2
 have qe3 := (K3.out.old H6.out.2.2.2).cell 3
 have qe4 := (K3.out.old H6.out.2.2.2).cell 4
 have qe5 := (K3.out.old H6.out.2.2.2).cell 5
 have qf0 := H6.out.1.cell 0
 have qf1 := H6.out.1.cell 1
 have qf2 := H6.out.1.cell 2
 have qf3 := H6.out.1.cell 3
 have qf4 := H6.out.1.cell 4
 have qf5 := H6.out.1.cell 5
 have qg0 := H6.out.2.1.cell 0
 have qg1 := H6.out.2.1.cell 1
 have qg2 := H6.out.2.1.cell 2
 have qg3 := H6.out.2.1.cell 3
 have qg4 := H6.out.2.1.cell 4
 have qg5 := H6.out.2.1.cell 5
 have qh0 := H6.out.2.2.1.cell 0
 have qh1 := H6.out.2.2.1.cell 1
 have qh2 := H6.out.2.2.1.cell 2
 have qh3 := H6.out.2.2.1.cell 3
 have qh4 := H6.out.2.2.1.cell 4
 have qh5 := H6.out.2.2.1.cell 5
 simp only [List.getElem?_cons_succ, List.getElem?_cons_zero] at qa0 qa1 qa2 qa3 qa4 qa5 qb0 qb1 qb2 qb3 qb4 qb5 qe0 qe1 qe2 qe3 qe4 qe5 qf0 qf1 qf2 qf3 qf4 qf5 qg0 qg1 qg2 qg3 qg4 qg5 qh0 qh1 qh2 qh3 qh4 qh5
 have HF := Lib.hid (HS.out.2.2.2.2.trans (H6.out.2.2.2.mono HS.out.2.2.2.2.size))
 clear HS H6 K1 K2 K3 H1a H1b H1c H1d H1e H2a H2b H3a H3b H3c H3d H3e
 go_wp2_with fail
 go_ret
 exact ⟨by simp, HF.out⟩
end Go.Proofs.YtcaekblnioidiaaGreatDoor
