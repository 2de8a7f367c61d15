import Derived.Test.YtcaekblnioidiaaGreatDoorM15
namespace Go.Proofs.YtcaekblnioidiaaGreatDoor
set_option linter.all false
open Go.RowKit Go.Fl
theorem fieldsRT : ((Tryz.prog.fieldsOf 28).toList.map fun f => (f.name, f.type, f.offset)) = [("Num", 3, 0), ("Den", 3, 1)] := by kernel_rfl
theorem eqlRatioT (a b c d : Int) (w : World) : (binOp .eql 28 (.agg #[.int .i64 a, .int .i64 b]) (.agg #[.int .i64 c, .int .i64 d])).run Tryz.prog w = .ok (.bool (a == c && b == d)) w := by
 have i3 := Tryz.underlying3
 have e1 : ∀ (a b : Int), (part 3 #[.int .i64 a, .int .i64 b] 0).run Tryz.prog w = .ok (.int .i64 a) w := fun a b => part_int _ _ _ rfl w
 have e2 : ∀ (a b : Int), (part 3 #[.int .i64 a, .int .i64 b] 1).run Tryz.prog w = .ok (.int .i64 b) w := fun a b => part_int _ _ _ rfl w
 have e4 := fun (a b : Int) => run_equalIn_int (P := Tryz.prog) w 9998 3 .i64 .i64 a b i3
 have n1 : ("Num" : String) ≠ "_" := by decide
 have n2 : ("Den" : String) ≠ "_" := by decide
 rw [run_eql_struct, run_eqStruct w 9999 _ _ _ _ (by kernel_rfl) (by kernel_rfl) fieldsRT]
 simp only [eqTriples, if_pos n1, if_pos n2, Sem.run_bind, e1, e2, e4, Result.andThen_ok, Sem.run_ite, Sem.run_pure]
 cases a == c <;> cases b == d <;> simp [e1, e2, e4]
theorem eqR_self (p q : Int) (w : World) : (binOp .eql 28 (.agg #[.int .i64 p, .int .i64 q]) (.agg #[.int .i64 p, .int .i64 q])).run Tryz.prog w = .ok (.bool true) w := by
 rw [eqlRatioT]; simp
def DeS (Aw : World → Prop) (w : World) (L6 : List Value) (W : World) : Prop := Row W w.heap.size 25 L6 ∧ Aw W ∧ Below w.heap.size w W
theorem DeS.keep {Aw : World → Prop} (ho : ∀ W W', Aw W → Below W.heap.size W W' → Aw W') {w W W' : World} {L6 : List Value} (h : DeS Aw w L6 W) (hb : Below W.heap.size W W') : DeS Aw w L6 W' := ⟨h.1.old hb, ho _ _ h.2.1 hb, h.2.2.trans (hb.mono h.2.2.size)⟩
set_option maxRecDepth 100000 in
set_option maxHeartbeats 8000000 in
theorem depths_law (Aw : World → Prop) (ho : ∀ W W', Aw W → Below W.heap.size W W' → Aw W') (haw : ∀ W, Aw W → Calls Tryz.prog 9 #[] W fun e w' => e = .returned (.bool true) ∧ Below W.heap.size W w') (a b c d x y E Q N1 N2 N4 p1 q1 p2 q2 p3 q3 p4 q4 : Int) (w : World) (hW : Aw w) (hD : ∀ W, Calls Tryz.prog 10 #[.agg #[.int .i64 a, .int .i64 b, .int .i64 c, .int .i64 d, .int .i64 x, .int .i64 y]] W fun e w' => e = .returned (.tuple #[.agg #[.int .i64 p1, .int .i64 q1], .agg #[.int .i64 p2, .int .i64 q2], .int .i64 E]) ∧ Below W.heap.size W w') (hN : ∀ W, Calls Tryz.prog 11 #[.agg #[.int .i64 a, .int .i64 b, .int .i64 c, .int .i64 d, .int .i64 x, .int .i64 y]] W fun e w' => e = .returned (.tuple #[.agg #[.int .i64 p3, .int .i64 q3], .int .i64 E]) ∧ Below W.heap.size W w') (hS : ∀ W, Calls Tryz.prog 12 #[.agg #[.int .i64 a, .int .i64 b, .int .i64 c, .int .i64 d, .int .i64 x, .int .i64 y]] W fun e w' => e = .returned (.tuple #[.agg #[.int .i64 p4, .int .i64 q4], .int .i64 E]) ∧ Below W.heap.size W w') (hR : ∀ W, Calls Tryz.prog 13 #[.agg #[.int .i64 a, .int .i64 b, .int .i64 c, .int .i64 d, .int .i64 x, .int .i64 y]] W fun e w' => e = .returned (.int .i64 E) ∧ Below W.heap.size W w') (hP : ∀ W, Calls Tryz.prog 20 #[.agg #[.int .i64 a, .int .i64 b, .int .i64 c, .int .i64 d, .int .i64 x, .int .i64 y]] W fun e w' => e = .returned (.int .i64 E) ∧ Below W.heap.size W w') (hQ : E = 0 → ∀ W, Calls Tryz.prog 14 #[.agg #[.int .i64 a, .int .i64 b, .int .i64 c, .int .i64 d, .int .i64 x, .int .i64 y]] W fun e w' => e = .returned (.int .i64 Q) ∧ Below W.heap.size W w') (hL : E = 0 → ∀ W, Calls Tryz.prog 16 #[.agg #[.int .i64 a, .int .i64 b, .int .i64 c, .int .i64 d, .int .i64 x, .int .i64 y]] W fun e w' => e = .returned (.int .i64 N1) ∧ Below W.heap.size W w') (hL1 : E = 0 → ∀ W, Calls Tryz.prog 15 #[.int .i64 N1, .int .i64 Q] W fun e w' => e = .returned (.agg #[.int .i64 p1, .int .i64 q1]) ∧ Below W.heap.size W w') (hH : E = 0 → ∀ W, Calls Tryz.prog 17 #[.agg #[.int .i64 a, .int .i64 b, .int .i64 c, .int .i64 d, .int .i64 x, .int .i64 y]] W fun e w' => e = .returned (.int .i64 N2) ∧ Below W.heap.size W w') (hL2 : E = 0 → ∀ W, Calls Tryz.prog 15 #[.int .i64 N2, .int .i64 Q] W fun e w' => e = .returned (.agg #[.int .i64 p2, .int .i64 q2]) ∧ Below W.heap.size W w') (hNe : E = 0 → ∀ W, Calls Tryz.prog 18 #[.agg #[.int .i64 a, .int .i64 b, .int .i64 c, .int .i64 d, .int .i64 x, .int .i64 y]] W fun e w' => e = .returned (.agg #[.int .i64 p3, .int .i64 q3]) ∧ Below W.heap.size W w') (hT : E = 0 → ∀ W, Calls Tryz.prog 19 #[.agg #[.int .i64 a, .int .i64 b, .int .i64 c, .int .i64 d, .int .i64 x, .int .i64 y]] W fun e w' => e = .returned (.int .i64 N4) ∧ Below W.heap.size W w') (hL4 : E = 0 → ∀ W, Calls Tryz.prog 15 #[.int .i64 N4, .int .i64 Q] W fun e w' => e = .returned (.agg #[.int .i64 p4, .int .i64 q4]) ∧ Below W.heap.size W w') (hz : E ≠ 0 → p1 = 0 ∧ q1 = 0 ∧ p2 = 0 ∧ q2 = 0 ∧ p3 = 0 ∧ q3 = 0 ∧ p4 = 0 ∧ q4 = 0) : Calls Tryz.prog 3 #[.agg #[.int .i64 a, .int .i64 b, .int .i64 c, .int .i64 d, .int .i64 x, .int .i64 y]] w fun e w' => e = .returned (.bool true) ∧ Below w.heap.size w w' := by
 have HS0 : Hid (DeS Aw w [.int .i64 a, .int .i64 b, .int .i64 c, .int .i64 d, .int .i64 x, .int .i64 y] (w.alloc (.cells #[.int .i64 a, .int .i64 b, .int .i64 c, .int .i64 d, .int .i64 x, .int .i64 y] 25))) := (let hb := (Below.refl w.heap.size w).alloc (Nat.le_refl _) (.cells #[.int .i64 a, .int .i64 b, .int .i64 c, .int .i64 d, .int .i64 x, .int .i64 y] 25); ⟨Row.new w _ [.int .i64 a, .int .i64 b, .int .i64 c, .int .i64 d, .int .i64 x, .int .i64 y], ho _ _ hW hb, hb⟩)
 have HD := Lib.hid hD
 have HN := Lib.hid hN
 have HSU := Lib.hid hS
 have HR := Lib.hid hR
 have HP := Lib.hid hP
 have HQ := Lib.hid hQ
 have HL := Lib.hid hL
 have HL1 := Lib.hid hL1
 have HH := Lib.hid hH
 have HL2 := Lib.hid hL2
 have HNE := Lib.hid hNe
 have HT := Lib.hid hT
 have HL4 := Lib.hid hL4
 have HZ := Lib.hid hz
 have hq1 := eqR_self p1 q1; have hq2 := eqR_self p2 q2; have hq3 := eqR_self p3 q3; have hq4 := eqR_self p4 q4
 clear hW hD hN hS hR hP hQ hL hL1 hH hL2 hNe hT hL4 hz
 go_enter Tryz.func3, Tryz.ntmps3
 go_upto_region 1 with fail
 refine genT (DeS Aw w [.int .i64 a, .int .i64 b, .int .i64 c, .int .i64 d, .int .i64 x, .int .i64 y]) HS0.out ?_
 clear HS0
 intro W0 s0
 have HS := Lib.hid s0
 clear s0
 go_upto_region 3 with (go_at_call 9; refine (haw _ HS.out.2.1).mono ?_; rintro e wc ⟨rfl, hb⟩)
 have HS' := Lib.hid (HS.out.keep ho hb)
 clear HS hb 
 have HS := HS'
 clear HS'
 obtain ⟨W1, hW1⟩ : ∃ W1 : World, W1 = wc := ⟨_, rfl⟩
 subst hW1
 go_cut [3, 4, 5] from 18 to 24 (fun s3 s4 s5 wx => ∃ g1 g2, s3 = .pointer (some ⟨g1, 0, none⟩) ∧ s4 = .pointer (some ⟨g2, 0, none⟩) ∧ s5 = .int .i64 E ∧ Row wx g1 28 [.int .i64 p1, .int .i64 q1] ∧ Row wx g2 28 [.int .i64 p2, .int .i64 q2] ∧ Below W1.heap.size W1 wx)
 case first =>
  go_wp2_with (first
   | (refine wpList_load_row rfl 25 _ rfl (w.heap.size) rfl 25 #[.int .i64 a, .int .i64 b, .int .i64 c, .int .i64 d, .int .i64 x, .int .i64 y] (0, 0) _ HS.out.1 Tryz.underlying25 rfl ?_ ?_; (kernel_rfl))
   | (go_at_call 10; refine (HD.out _).mono ?_; rintro e v1 ⟨rfl, hb1⟩; have HB1 := Lib.hid hb1; clear hb1)
   | (refine wpList_store_row rfl 28 _ _ rfl (v1.heap.size) #[.int .i64 p1, .int .i64 q1] rfl rfl 28 _ (Row.alloc (Row.new v1 28 [.int .i64 0, .int .i64 0]) _) ?_ ?_ ?_ ?_; (kernel_rfl); (rfl); (simp [Value.oneCell']))
   | (refine wpList_store_row rfl 28 _ _ rfl (v1.heap.size + 1) #[.int .i64 p2, .int .i64 q2] rfl rfl 28 _ (Row.farRow (rowAt (v1.alloc (.cells #[.int .i64 0, .int .i64 0] 28)) (v1.heap.size + 1) (World.size_alloc _ _) (L := [.int .i64 0, .int .i64 0])) (by omega) _) ?_ ?_ ?_ ?_; (kernel_rfl); (rfl); (simp [Value.oneCell'])))
  go_meet
  exact ⟨_, _, rfl, rfl, rfl, Row.farRow ((Row.alloc (Row.new v1 28 [.int .i64 0, .int .i64 0]) _).setRow [.int .i64 p1, .int .i64 q1]) (by omega) _, (Row.farRow (rowAt (v1.alloc (.cells #[.int .i64 0, .int .i64 0] 28)) (v1.heap.size + 1) (World.size_alloc _ _) (L := [.int .i64 0, .int .i64 0])) (by omega) _).setRow [.int .i64 p2, .int .i64 q2], Below.setRow (Below.setRow ((HB1.out.alloc HB1.out.size _).alloc (by rw [World.size_alloc]; have := HB1.out.size; omega) _) HB1.out.size _) (by have := HB1.out.size; omega) _⟩
 case rest =>
 obtain ⟨g1, g2, rfl, rfl, rfl, k1, k2, hb⟩ := hcut
 have K1 := Lib.hid k1; have K2 := Lib.hid k2
 clear k1 k2
 have HS' := Lib.hid (HS.out.keep ho hb)
 clear HS hb HD
 have HS := HS'
 clear HS'
 obtain ⟨W2, hW2⟩ : ∃ W2 : World, W2 = wc := ⟨_, rfl⟩
 subst hW2
 go_upto_region 4 with fail
 go_cut [6, 7] from 24 to 29 (fun s6 s7 wx => ∃ g1, s6 = .pointer (some ⟨g1, 0, none⟩) ∧ s7 = .int .i64 E ∧ Row wx g1 28 [.int .i64 p3, .int .i64 q3] ∧ Below W2.heap.size W2 wx)
 case first =>
  go_wp2_with (first
   | (refine wpList_load_row rfl 25 _ rfl (w.heap.size) rfl 25 #[.int .i64 a, .int .i64 b, .int .i64 c, .int .i64 d, .int .i64 x, .int .i64 y] (0, 0) _ HS.out.1 Tryz.underlying25 rfl ?_ ?_; (kernel_rfl))
   | (go_at_call 11; refine (HN.out _).mono ?_; rintro e v1 ⟨rfl, hb1⟩; have HB1 := Lib.hid hb1; clear hb1)
   | (refine wpList_store_row rfl 28 _ _ rfl (v1.heap.size) #[.int .i64 p3, .int .i64 q3] rfl rfl 28 _ (Row.new v1 28 [.int .i64 0, .int .i64 0]) ?_ ?_ ?_ ?_; (kernel_rfl); (rfl); (simp [Value.oneCell'])))
  go_meet
  exact ⟨_, rfl, rfl, (Row.new v1 28 [.int .i64 0, .int .i64 0]).setRow [.int .i64 p3, .int .i64 q3], Below.setRow (HB1.out.alloc HB1.out.size _) HB1.out.size _⟩
 case rest =>
 obtain ⟨g3, rfl, rfl, k1, hb⟩ := hcut
 have K1' := Lib.hid (K1.out.old hb)
 clear K1
 have K1 := K1'
 clear K1'
 have K2' := Lib.hid (K2.out.old hb)
 clear K2
 have K2 := K2'
 clear K2'
 have K3 := Lib.hid k1
 clear k1
 have HS' := Lib.hid (HS.out.keep ho hb)
 clear HS hb HN
 have HS := HS'
 clear HS'
 obtain ⟨W3, hW3⟩ : ∃ W3 : World, W3 = wc := ⟨_, rfl⟩
 subst hW3
 go_upto_region 5 with fail
 go_cut [8, 9] from 29 to 34 (fun s8 s9 wx => ∃ g1, s8 = .pointer (some ⟨g1, 0, none⟩) ∧ s9 = .int .i64 E ∧ Row wx g1 28 [.int .i64 p4, .int .i64 q4] ∧ Below W3.heap.size W3 wx)
 case first =>
  go_wp2_with (first
   | (refine wpList_load_row rfl 25 _ rfl (w.heap.size) rfl 25 #[.int .i64 a, .int .i64 b, .int .i64 c, .int .i64 d, .int .i64 x, .int .i64 y] (0, 0) _ HS.out.1 Tryz.underlying25 rfl ?_ ?_; (kernel_rfl))
   | (go_at_call 12; refine (HSU.out _).mono ?_; rintro e v1 ⟨rfl, hb1⟩; have HB1 := Lib.hid hb1; clear hb1)
   | (refine wpList_store_row rfl 28 _ _ rfl (v1.heap.size) #[.int .i64 p4, .int .i64 q4] rfl rfl 28 _ (Row.new v1 28 [.int .i64 0, .int .i64 0]) ?_ ?_ ?_ ?_; (kernel_rfl); (rfl); (simp [Value.oneCell'])))
  go_meet
  exact ⟨_, rfl, rfl, (Row.new v1 28 [.int .i64 0, .int .i64 0]).setRow [.int .i64 p4, .int .i64 q4], Below.setRow (HB1.out.alloc HB1.out.size _) HB1.out.size _⟩
 case rest =>
 obtain ⟨g4, rfl, rfl, k1, hb⟩ := hcut
 have K1' := Lib.hid (K1.out.old hb)
 clear K1
 have K1 := K1'
 clear K1'
 have K2' := Lib.hid (K2.out.old hb)
 clear K2
 have K2 := K2'
 clear K2'
 have K3' := Lib.hid (K3.out.old hb)
 clear K3
 have K3 := K3'
 clear K3'
 have K4 := Lib.hid k1
 clear k1
 have HS' := Lib.hid (HS.out.keep ho hb)
 clear HS hb HSU
 have HS := HS'
 clear HS'
 obtain ⟨W4, hW4⟩ : ∃ W4 : World, W4 = wc := ⟨_, rfl⟩
 subst hW4
 go_upto_region 7 with (first | (refine wpList_load_row rfl 25 _ rfl (w.heap.size) rfl 25 #[.int .i64 a, .int .i64 b, .int .i64 c, .int .i64 d, .int .i64 x, .int .i64 y] (0, 0) _ HS.out.1 Tryz.underlying25 rfl ?_ ?_; (kernel_rfl)) | (go_at_call 13; refine (HR.out _).mono ?_; rintro e wc ⟨rfl, hb⟩))
 have K1' := Lib.hid (K1.out.old hb)
 clear K1
 have K1 := K1'
 clear K1'
 have K2' := Lib.hid (K2.out.old hb)
 clear K2
 have K2 := K2'
 clear K2'
 have K3' := Lib.hid (K3.out.old hb)
 clear K3
 have K3 := K3'
 clear K3'
 have K4' := Lib.hid (K4.out.old hb)
 clear K4
 have K4 := K4'
 clear K4'
 have HS' := Lib.hid (HS.out.keep ho hb)
 clear HS hb HR
 have HS := HS'
 clear HS'
 obtain ⟨W5, hW5⟩ : ∃ W5 : World, W5 = wc := ⟨_, rfl⟩
 subst hW5
 go_upto_if 37 with fail
 have hbn : Below W5.heap.size W5 ((((W5.alloc (.cells #[.int .i64 0, .int .i64 0] 28)).alloc (.cells #[.int .i64 0, .int .i64 0] 28)).alloc (.cells #[.int .i64 0, .int .i64 0] 28)).alloc (.cells #[.int .i64 0, .int .i64 0] 28)) := ((((Below.refl _ _).alloc (Nat.le_refl _) _).alloc (by simp only [World.size_alloc]; omega) _).alloc (by simp only [World.size_alloc]; omega) _).alloc (by simp only [World.size_alloc]; omega) _
 refine genT (fun V => Row V W5.heap.size 28 [.int .i64 0, .int .i64 0] ∧ Row V (W5.heap.size + 1) 28 [.int .i64 0, .int .i64 0] ∧ Row V (W5.heap.size + 1 + 1) 28 [.int .i64 0, .int .i64 0] ∧ Row V (W5.heap.size + 1 + 1 + 1) 28 [.int .i64 0, .int .i64 0] ∧ Below W5.heap.size W5 V) ⟨Row.alloc (Row.alloc (Row.alloc (Row.new W5 _ [.int .i64 0, .int .i64 0]) _) _) _, Row.alloc (Row.alloc (rowAt _ _ (by simp only [World.size_alloc])) _) _, Row.alloc (rowAt _ _ (by simp only [World.size_alloc])) _, rowAt _ _ (by simp only [World.size_alloc]), hbn⟩ ?_
 clear hbn
 intro W6 s6
 have H6 := Lib.hid s6
 clear s6
 go_cut [15] from 37 to 54 (fun s15 wx => Row wx (W5.heap.size) 28 [.int .i64 p1, .int .i64 q1] ∧ Row wx (W5.heap.size + 1) 28 [.int .i64 p2, .int .i64 q2] ∧ Row wx (W5.heap.size + 1 + 1) 28 [.int .i64 p3, .int .i64 q3] ∧ Row wx (W5.heap.size + 1 + 1 + 1) 28 [.int .i64 p4, .int .i64 q4] ∧ Below W5.heap.size W5 wx)
 case first =>
  clear HP hq1 hq2 hq3 hq4
  by_cases hE0 : E = 0
  · have hQ := Lib.hid (HQ.out hE0); have hL := Lib.hid (HL.out hE0); have hL1 := Lib.hid (HL1.out hE0); have hH := Lib.hid (HH.out hE0); have hL2 := Lib.hid (HL2.out hE0); have hNe := Lib.hid (HNE.out hE0); have hT := Lib.hid (HT.out hE0); have hL4 := Lib.hid (HL4.out hE0)
    have hne : (E == 0) = true := by simpa using hE0
    have HS6 := Lib.hid (HS.out.keep ho H6.out.2.2.2.2)
    have hz0 : w.heap.size < W5.heap.size := HS.out.1.lt
    clear HQ HL HL1 HH HL2 HNE HT HL4 HZ hE0 HS
    go_upto_region 10 with (first | (refine wpList_load_row rfl 25 _ rfl (w.heap.size) rfl 25 #[.int .i64 a, .int .i64 b, .int .i64 c, .int .i64 d, .int .i64 x, .int .i64 y] (0, 0) _ HS6.out.1 Tryz.underlying25 rfl ?_ ?_; (kernel_rfl)) | (go_at_call 14; refine (hQ.out _).mono ?_; rintro e w7 ⟨rfl, hb7⟩; have H7 := Lib.hid hb7; clear hb7))
    refine genT (fun V => Row V (w.heap.size) 25 [.int .i64 a, .int .i64 b, .int .i64 c, .int .i64 d, .int .i64 x, .int .i64 y] ∧ RowN V (W5.heap.size) 28 2 ∧ RowN V (W5.heap.size + 1) 28 2 ∧ RowN V (W5.heap.size + 1 + 1) 28 2 ∧ RowN V (W5.heap.size + 1 + 1 + 1) 28 2 ∧ Below W5.heap.size W5 V) ⟨(HS6.out.keep ho H7.out).1, ⟨_, rfl, H6.out.1.old H7.out⟩, ⟨_, rfl, H6.out.2.1.old H7.out⟩, ⟨_, rfl, H6.out.2.2.1.old H7.out⟩, ⟨_, rfl, H6.out.2.2.2.1.old H7.out⟩, H6.out.2.2.2.2.trans (H7.out.mono H6.out.2.2.2.2.size)⟩ ?_
    clear H6 HS6 H7
    intro W8 s8
    have HS8 := Lib.hid s8
    clear s8
    refine wp_region_held_drew (S := fun V => Row V (w.heap.size) 25 [.int .i64 a, .int .i64 b, .int .i64 c, .int .i64 d, .int .i64 x, .int .i64 y] ∧ RowN V (W5.heap.size) 28 2 ∧ RowN V (W5.heap.size + 1) 28 2 ∧ RowN V (W5.heap.size + 1 + 1) 28 2 ∧ RowN V (W5.heap.size + 1 + 1 + 1) 28 2 ∧ Below W5.heap.size W5 V) (by kernel_rfl) ?_ (fun hHeld => ?_)
    · exact ⟨(HS8.out.1).drew, (HS8.out.2.1).drew, (HS8.out.2.2.1).drew, (HS8.out.2.2.2.1).drew, (HS8.out.2.2.2.2.1).drew, (HS8.out.2.2.2.2.2).drew⟩
    refine tk 0 40 (.agg #[.int .i64 a, .int .i64 b, .int .i64 c, .int .i64 d, .int .i64 x, .int .i64 y]) rfl (by kernel_rfl) (fun _ _ _ h => h) (by kernel_rfl) (fun V hV => ex_rowT 25 _ rfl (w.heap.size) rfl 25 [.int .i64 a, .int .i64 b, .int .i64 c, .int .i64 d, .int .i64 x, .int .i64 y] _ Tryz.underlying25 rfl (by kernel_rfl) (hV.1)) hHeld ?_
    try simp only [zz]
    refine tk 2 42 ?_ rfl (by kernel_rfl) (fun _ _ _ h => h) (by kernel_rfl) ?_ hHeld ?_
    rotate_left
    · intro w1 hSw; (try dsimp only at hSw); go_simp <;> with_reducible rfl
    try simp only [zz]
    refine tk 4 44 (.agg #[.int .i64 a, .int .i64 b, .int .i64 c, .int .i64 d, .int .i64 x, .int .i64 y]) rfl (by kernel_rfl) (fun _ _ _ h => h) (by kernel_rfl) (fun V hV => ex_rowT 25 _ rfl (w.heap.size) rfl 25 [.int .i64 a, .int .i64 b, .int .i64 c, .int .i64 d, .int .i64 x, .int .i64 y] _ Tryz.underlying25 rfl (by kernel_rfl) (hV.1)) hHeld ?_
    try simp only [zz]
    refine tk 6 46 ?_ rfl (by kernel_rfl) (fun _ _ _ h => h) (by kernel_rfl) ?_ hHeld ?_
    rotate_left
    · intro w1 hSw; (try dsimp only at hSw); go_simp <;> with_reducible rfl
    try simp only [zz]
    refine tk 8 48 (.agg #[.int .i64 a, .int .i64 b, .int .i64 c, .int .i64 d, .int .i64 x, .int .i64 y]) rfl (by kernel_rfl) (fun _ _ _ h => h) (by kernel_rfl) (fun V hV => ex_rowT 25 _ rfl (w.heap.size) rfl 25 [.int .i64 a, .int .i64 b, .int .i64 c, .int .i64 d, .int .i64 x, .int .i64 y] _ Tryz.underlying25 rfl (by kernel_rfl) (hV.1)) hHeld ?_
    try simp only [zz]
    refine tk 10 50 (.agg #[.int .i64 a, .int .i64 b, .int .i64 c, .int .i64 d, .int .i64 x, .int .i64 y]) rfl (by kernel_rfl) (fun _ _ _ h => h) (by kernel_rfl) (fun V hV => ex_rowT 25 _ rfl (w.heap.size) rfl 25 [.int .i64 a, .int .i64 b, .int .i64 c, .int .i64 d, .int .i64 x, .int .i64 y] _ Tryz.underlying25 rfl (by kernel_rfl) (hV.1)) hHeld ?_
    try simp only [zz]
    refine tk 12 52 ?_ rfl (by kernel_rfl) (fun _ _ _ h => h) (by kernel_rfl) ?_ hHeld ?_
    rotate_left
    · intro w1 hSw; (try dsimp only at hSw); go_simp <;> with_reducible rfl
    try simp only [zz]
    refine st1 1 (by kernel_rfl) rfl (fun K hK => ?_)
    go_simp
    go_at_call 16
    refine (hL.out _).mono ?_
    rintro e v1 ⟨rfl, hb1⟩
    try go_simp
    refine hK.out _ _ ?_ (fun hHeld => ?_)
    · exact ⟨(hHeld.1).old hb1, (hHeld.2.1).old hb1, (hHeld.2.2.1).old hb1, (hHeld.2.2.2.1).old hb1, (hHeld.2.2.2.2.1).old hb1, (hHeld.2.2.2.2.2).trans ((hb1).mono (hHeld.2.2.2.2.2).size)⟩
    clear hK K
    try simp only [zz]
    refine st1 3 (by kernel_rfl) rfl (fun K hK => ?_)
    go_simp
    go_at_call 15
    refine (hL1.out _).mono ?_
    rintro e v3 ⟨rfl, hb3⟩
    try go_simp
    refine hK.out _ _ ?_ (fun hHeld => ?_)
    · exact ⟨(hHeld.1).old hb3, (hHeld.2.1).old hb3, (hHeld.2.2.1).old hb3, (hHeld.2.2.2.1).old hb3, (hHeld.2.2.2.2.1).old hb3, (hHeld.2.2.2.2.2).trans ((hb3).mono (hHeld.2.2.2.2.2).size)⟩
    clear hK K
    try simp only [zz]
    refine st1 5 (by kernel_rfl) rfl (fun K hK => ?_)
    go_simp
    go_at_call 17
    refine (hH.out _).mono ?_
    rintro e v5 ⟨rfl, hb5⟩
    try go_simp
    refine hK.out _ _ ?_ (fun hHeld => ?_)
    · exact ⟨(hHeld.1).old hb5, (hHeld.2.1).old hb5, (hHeld.2.2.1).old hb5, (hHeld.2.2.2.1).old hb5, (hHeld.2.2.2.2.1).old hb5, (hHeld.2.2.2.2.2).trans ((hb5).mono (hHeld.2.2.2.2.2).size)⟩
    clear hK K
    try simp only [zz]
    refine st1 7 (by kernel_rfl) rfl (fun K hK => ?_)
    go_simp
    go_at_call 15
    refine (hL2.out _).mono ?_
    rintro e v7 ⟨rfl, hb7⟩
    try go_simp
    refine hK.out _ _ ?_ (fun hHeld => ?_)
    · exact ⟨(hHeld.1).old hb7, (hHeld.2.1).old hb7, (hHeld.2.2.1).old hb7, (hHeld.2.2.2.1).old hb7, (hHeld.2.2.2.2.1).old hb7, (hHeld.2.2.2.2.2).trans ((hb7).mono (hHeld.2.2.2.2.2).size)⟩
    clear hK K
    try simp only [zz]
    refine st1 9 (by kernel_rfl) rfl (fun K hK => ?_)
    go_simp
    go_at_call 18
    refine (hNe.out _).mono ?_
    rintro e v9 ⟨rfl, hb9⟩
    try go_simp
    refine hK.out _ _ ?_ (fun hHeld => ?_)
    · exact ⟨(hHeld.1).old hb9, (hHeld.2.1).old hb9, (hHeld.2.2.1).old hb9, (hHeld.2.2.2.1).old hb9, (hHeld.2.2.2.2.1).old hb9, (hHeld.2.2.2.2.2).trans ((hb9).mono (hHeld.2.2.2.2.2).size)⟩
    clear hK K
    try simp only [zz]
    refine st1 11 (by kernel_rfl) rfl (fun K hK => ?_)
    go_simp
    go_at_call 19
    refine (hT.out _).mono ?_
    rintro e v11 ⟨rfl, hb11⟩
    try go_simp
    refine hK.out _ _ ?_ (fun hHeld => ?_)
    · exact ⟨(hHeld.1).old hb11, (hHeld.2.1).old hb11, (hHeld.2.2.1).old hb11, (hHeld.2.2.2.1).old hb11, (hHeld.2.2.2.2.1).old hb11, (hHeld.2.2.2.2.2).trans ((hb11).mono (hHeld.2.2.2.2.2).size)⟩
    clear hK K
    try simp only [zz]
    refine st1 13 (by kernel_rfl) rfl (fun K hK => ?_)
    go_simp
    go_at_call 15
    refine (hL4.out _).mono ?_
    rintro e v13 ⟨rfl, hb13⟩
    try go_simp
    refine hK.out _ _ ?_ (fun hHeld => ?_)
    · exact ⟨(hHeld.1).old hb13, (hHeld.2.1).old hb13, (hHeld.2.2.1).old hb13, (hHeld.2.2.2.1).old hb13, (hHeld.2.2.2.2.1).old hb13, (hHeld.2.2.2.2.2).trans ((hb13).mono (hHeld.2.2.2.2.2).size)⟩
    clear hK K
    try simp only [zz]
    refine st1 14 (by kernel_rfl) rfl (fun K hK => ?_)
    obtain ⟨vs0, hvl0, hvr0⟩ := (hHeld.2.1)
    have hLast0 := hHeld
    refine step_store_row rfl 28 _ _ rfl (W5.heap.size) [.int .i64 p1, .int .i64 q1] rfl rfl 28 vs0 hvr0 (by kernel_rfl) hvl0 (by simp [Value.oneCell']) ?_
    refine hK.out _ _ ?_ (fun hHeld => ?_)
    · exact ⟨(hHeld.1).farRow (by omega) _, ⟨_, rfl, hvr0.setRow _⟩, (hHeld.2.2.1).farN (by omega) _, (hHeld.2.2.2.1).farN (by omega) _, (hHeld.2.2.2.2.1).farN (by omega) _, Below.setRow (hHeld.2.2.2.2.2) (by omega) _⟩
    clear hK K
    try simp only [zz]
    refine st1 15 (by kernel_rfl) rfl (fun K hK => ?_)
    obtain ⟨vs1, hvl1, hvr1⟩ := (hHeld.2.2.1)
    have hLast1 := hHeld
    refine step_store_row rfl 28 _ _ rfl (W5.heap.size + 1) [.int .i64 p2, .int .i64 q2] rfl rfl 28 vs1 hvr1 (by kernel_rfl) hvl1 (by simp [Value.oneCell']) ?_
    refine hK.out _ _ ?_ (fun hHeld => ?_)
    · exact ⟨(hHeld.1).farRow (by omega) _, (hHeld.2.1).farN (by omega) _, ⟨_, rfl, hvr1.setRow _⟩, (hHeld.2.2.2.1).farN (by omega) _, (hHeld.2.2.2.2.1).farN (by omega) _, Below.setRow (hHeld.2.2.2.2.2) (by omega) _⟩
    clear hK K
    try simp only [zz]
    refine st1 16 (by kernel_rfl) rfl (fun K hK => ?_)
    obtain ⟨vs2, hvl2, hvr2⟩ := (hHeld.2.2.2.1)
    have hLast2 := hHeld
    refine step_store_row rfl 28 _ _ rfl (W5.heap.size + 1 + 1) [.int .i64 p3, .int .i64 q3] rfl rfl 28 vs2 hvr2 (by kernel_rfl) hvl2 (by simp [Value.oneCell']) ?_
    refine hK.out _ _ ?_ (fun hHeld => ?_)
    · exact ⟨(hHeld.1).farRow (by omega) _, (hHeld.2.1).farN (by omega) _, (hHeld.2.2.1).farN (by omega) _, ⟨_, rfl, hvr2.setRow _⟩, (hHeld.2.2.2.2.1).farN (by omega) _, Below.setRow (hHeld.2.2.2.2.2) (by omega) _⟩
    clear hK K
    try simp only [zz]
    refine st1 17 (by kernel_rfl) rfl (fun K hK => ?_)
    obtain ⟨vs3, hvl3, hvr3⟩ := (hHeld.2.2.2.2.1)
    have hLast3 := hHeld
    refine step_store_row rfl 28 _ _ rfl (W5.heap.size + 1 + 1 + 1) [.int .i64 p4, .int .i64 q4] rfl rfl 28 vs3 hvr3 (by kernel_rfl) hvl3 (by simp [Value.oneCell']) ?_
    refine hK.out _ _ ?_ (fun hHeld => ?_)
    · exact ⟨(hHeld.1).farRow (by omega) _, (hHeld.2.1).farN (by omega) _, (hHeld.2.2.1).farN (by omega) _, (hHeld.2.2.2.1).farN (by omega) _, ⟨_, rfl, hvr3.setRow _⟩, Below.setRow (hHeld.2.2.2.2.2) (by omega) _⟩
    clear hK K
    try simp only [zz]
    refine wpAnyH_done (by kernel_rfl) ?_ _
    go_wp2_with fail
    go_meet
    exact ⟨(((hvr0.setRow [.int .i64 p1, .int .i64 q1]).farRow (by omega) _).farRow (by omega) _).farRow (by omega) _, ((hvr1.setRow [.int .i64 p2, .int .i64 q2]).farRow (by omega) _).farRow (by omega) _, (hvr2.setRow [.int .i64 p3, .int .i64 q3]).farRow (by omega) _, hvr3.setRow [.int .i64 p4, .int .i64 q4], Below.setRow hLast3.2.2.2.2.2 (by omega) _⟩
  · obtain ⟨rfl, rfl, rfl, rfl, rfl, rfl, rfl, rfl⟩ := HZ.out hE0
    have hne : (E == 0) = false := by simpa using hE0
    clear HQ HL HL1 HH HL2 HNE HT HL4 HZ hE0
    go_wp2_with fail
    go_meet
    exact ⟨H6.out.1, H6.out.2.1, H6.out.2.2.1, H6.out.2.2.2.1, H6.out.2.2.2.2⟩
 case rest =>
 obtain ⟨k1, k2, k3, k4, hb⟩ := hcut
 have HS9 := Lib.hid (HS.out.keep ho hb)
 have M1 := Lib.hid k1; have M2 := Lib.hid k2; have M3 := Lib.hid k3; have M4 := Lib.hid k4
 have K1' := Lib.hid (K1.out.old hb)
 clear K1
 have K1 := K1'
 clear K1'
 have K2' := Lib.hid (K2.out.old hb)
 clear K2
 have K2 := K2'
 clear K2'
 have K3' := Lib.hid (K3.out.old hb)
 clear K3
 have K3 := K3'
 clear K3'
 have K4' := Lib.hid (K4.out.old hb)
 clear K4
 have K4 := K4'
 clear K4'
 clear k1 k2 k3 k4 hb HS H6 HQ HL HL1 HH HL2 HNE HT HL4 HZ
 go_wp2_with (first
  | (refine wpList_load_row rfl 25 _ rfl (w.heap.size) rfl 25 #[.int .i64 a, .int .i64 b, .int .i64 c, .int .i64 d, .int .i64 x, .int .i64 y] (0, 0) _ HS9.out.1 Tryz.underlying25 rfl ?_ ?_; (kernel_rfl))
  | (go_at_call 20; refine (HP.out _).mono ?_; rintro e w9 ⟨rfl, hb⟩; have HS10 := Lib.hid (HS9.out.keep ho hb); have cK10 := (K1.out.old hb).cell 0; have cK11 := (K1.out.old hb).cell 1; have cK20 := (K2.out.old hb).cell 0; have cK21 := (K2.out.old hb).cell 1; have cK30 := (K3.out.old hb).cell 0; have cK31 := (K3.out.old hb).cell 1; have cK40 := (K4.out.old hb).cell 0; have cK41 := (K4.out.old hb).cell 1; have cM10 := (M1.out.old hb).cell 0; have cM11 := (M1.out.old hb).cell 1; have cM20 := (M2.out.old hb).cell 0; have cM21 := (M2.out.old hb).cell 1; have cM30 := (M3.out.old hb).cell 0; have cM31 := (M3.out.old hb).cell 1; have cM40 := (M4.out.old hb).cell 0; have cM41 := (M4.out.old hb).cell 1; simp only [List.getElem?_cons_succ, List.getElem?_cons_zero] at cK10 cK11 cK20 cK21 cK30 cK31 cK40 cK41 cM10 cM11 cM20 cM21 cM30 cM31 cM40 cM41; clear hb K1 K2 K3 K4 M1 M2 M3 M4))
 go_ret
 exact ⟨by simp, HS10.out.2.2⟩
end Go.Proofs.YtcaekblnioidiaaGreatDoor
