import Derived.Test.YtcaekblnioidiaaGreatDoorM48
import Derived.Test.YtcaekblnioidiaaGreatDoorUV
import Derived.Test.YtcaekblnioidiaaGreatDoorM21
namespace Go.Proofs.YtcaekblnioidiaaGreatDoor
set_option linter.all false
open Go.RowKit Go.Fl
set_option linter.unusedVariables false
set_option linter.unusedSimpArgs false

theorem fieldsIV : ((Tryz.prog.fieldsOf 62).toList.map fun f => (f.name, f.type, f.offset)) = [("Low", 3, 0), ("High", 3, 1)] := by kernel_rfl
theorem eqlIV (a b c d : Int) (w : World) : (binOp .eql 62 (.agg #[.int .i64 a, .int .i64 b]) (.agg #[.int .i64 c, .int .i64 d])).run Tryz.prog w = .ok (.bool (a == c && b == d)) w := by
 have i3 := Tryz.underlying3
 have e1 : ∀ (a b : Int), (part 3 #[.int .i64 a, .int .i64 b] 0).run Tryz.prog w = .ok (.int .i64 a) w := fun a b => part_int _ _ _ rfl w
 have e2 : ∀ (a b : Int), (part 3 #[.int .i64 a, .int .i64 b] 1).run Tryz.prog w = .ok (.int .i64 b) w := fun a b => part_int _ _ _ rfl w
 have e4 := fun (a b : Int) => run_equalIn_int (P := Tryz.prog) w 9998 3 .i64 .i64 a b i3
 have n1 : ("Low" : String) ≠ "_" := by decide
 have n2 : ("High" : String) ≠ "_" := by decide
 rw [run_eql_struct, run_eqStruct w 9999 _ _ _ _ (by kernel_rfl) (by kernel_rfl) fieldsIV]
 simp only [eqTriples, if_pos n1, if_pos n2, Sem.run_bind, e1, e2, e4, Result.andThen_ok, Sem.run_ite, Sem.run_pure]
 cases a == c <;> cases b == d <;> simp [e1, e2, e4]
theorem eqIV_self (p q : Int) (w : World) : (binOp .eql 62 (.agg #[.int .i64 p, .int .i64 q]) (.agg #[.int .i64 p, .int .i64 q])).run Tryz.prog w = .ok (.bool true) w := by
 rw [eqlIV]; simp
theorem calls_int {f : FuncId} {args : Array Value} {w : World} {a b : Int} (h : Calls Tryz.prog f args w fun e w' => e = .returned (.int .i64 a) ∧ w = w') (ha : a = b) : Calls Tryz.prog f args w fun e w' => e = .returned (.int .i64 b) ∧ Below w.heap.size w w' :=
 h.mono fun e w1 h => ⟨by rw [h.1, ha], by rw [← h.2]; exact Below.refl _ _⟩
theorem SigG.ndI {a b c d x y : Int} (h : SigG a b c d x y) : (c * a + d * b - (x * a + y * b)).natAbs ≤ 400000000 := by
 have b1 : (c * a).natAbs ≤ 100000000 := by rw [Int.natAbs_mul]; exact Nat.mul_le_mul (n₂ := 10000) (m₂ := 10000) (by have := h.pc; omega) (by have := h.pa; omega)
 have b2 : (d * b).natAbs ≤ 100000000 := by rw [Int.natAbs_mul]; exact Nat.mul_le_mul (n₂ := 10000) (m₂ := 10000) (by have := h.pd; omega) (by have := h.pb; omega)
 have b3 : (x * a).natAbs ≤ 100000000 := by rw [Int.natAbs_mul]; exact Nat.mul_le_mul (n₂ := 10000) (m₂ := 10000) (by have := h.px; omega) (by have := h.pa; omega)
 have b4 : (y * b).natAbs ≤ 100000000 := by rw [Int.natAbs_mul]; exact Nat.mul_le_mul (n₂ := 10000) (m₂ := 10000) (by have := h.py; omega) (by have := h.pb; omega)
 omega
set_option maxRecDepth 100000 in
set_option maxHeartbeats 8000000 in
theorem intervals_law (rs rf rl ra rb a b c d x y lo hi t p q r s E0 E1 E2 B1 B2 B3 : Int) (w : World) (hA : AwT w) (hL : ∀ W, Calls Tryz.prog 36 #[.agg #[.int .i64 rs, .int .i64 rf, .int .i64 rl, .int .i64 ra, .int .i64 rb], .agg #[.int .i64 a, .int .i64 b, .int .i64 c, .int .i64 d, .int .i64 x, .int .i64 y], .agg #[.int .i64 lo, .int .i64 hi]] W fun e w' => e = .returned (.tuple #[.agg #[.int .i64 p, .int .i64 q], .int .i64 E1]) ∧ Below W.heap.size W w') (hN : ∀ W, Calls Tryz.prog 37 #[.agg #[.int .i64 rs, .int .i64 rf, .int .i64 rl, .int .i64 ra, .int .i64 rb], .agg #[.int .i64 a, .int .i64 b, .int .i64 c, .int .i64 d, .int .i64 x, .int .i64 y], .int .i64 t] W fun e w' => e = .returned (.tuple #[.agg #[.int .i64 r, .int .i64 s], .int .i64 E2]) ∧ Below W.heap.size W w') (hCR : ∀ W, Calls Tryz.prog 38 #[.agg #[.int .i64 rs, .int .i64 rf, .int .i64 rl, .int .i64 ra, .int .i64 rb]] W fun e w' => e = .returned (.int .i64 B1) ∧ Below W.heap.size W w') (hCS : ∀ W, Calls Tryz.prog 13 #[.agg #[.int .i64 a, .int .i64 b, .int .i64 c, .int .i64 d, .int .i64 x, .int .i64 y]] W fun e w' => e = .returned (.int .i64 B2) ∧ Below W.heap.size W w') (hCL : ∀ W, Calls Tryz.prog 39 #[.agg #[.int .i64 lo, .int .i64 hi]] W fun e w' => e = .returned (.int .i64 B3) ∧ Below W.heap.size W w') (hE0 : firstI [B1, B2] = E0) (hE1 : firstI [E0, B3] = E1) (hE2 : firstI [E0, whenI (rangeB t 0 1000) 3] = E2) (hRL : E1 = 0 → ∀ W, Calls Tryz.prog 41 #[.agg #[.int .i64 rs, .int .i64 rf, .int .i64 rl, .int .i64 ra, .int .i64 rb], .agg #[.int .i64 a, .int .i64 b, .int .i64 c, .int .i64 d, .int .i64 x, .int .i64 y], .agg #[.int .i64 lo, .int .i64 hi]] W fun e w' => e = .returned (.agg #[.int .i64 p, .int .i64 q]) ∧ Below W.heap.size W w') (hRN : E2 = 0 → ∀ W, Calls Tryz.prog 42 #[.agg #[.int .i64 rs, .int .i64 rf, .int .i64 rl, .int .i64 ra, .int .i64 rb], .agg #[.int .i64 a, .int .i64 b, .int .i64 c, .int .i64 d, .int .i64 x, .int .i64 y], .int .i64 t] W fun e w' => e = .returned (.agg #[.int .i64 r, .int .i64 s]) ∧ Below W.heap.size W w') (hz1 : E1 ≠ 0 → p = 0 ∧ q = 0) (hz2 : E2 ≠ 0 → r = 0 ∧ s = 0) : Calls Tryz.prog 6 #[.agg #[.int .i64 rs, .int .i64 rf, .int .i64 rl, .int .i64 ra, .int .i64 rb], .agg #[.int .i64 a, .int .i64 b, .int .i64 c, .int .i64 d, .int .i64 x, .int .i64 y], .agg #[.int .i64 lo, .int .i64 hi, .int .i64 t]] w fun e w' => e = .returned (.bool true) ∧ Below w.heap.size w w' := by
 have HK : Hid (KpT w [((w.heap.size + 1 + 1), 66, [.int .i64 lo, .int .i64 hi, .int .i64 t]), ((w.heap.size + 1), 25, [.int .i64 a, .int .i64 b, .int .i64 c, .int .i64 d, .int .i64 x, .int .i64 y]), (w.heap.size, 64, [.int .i64 rs, .int .i64 rf, .int .i64 rl, .int .i64 ra, .int .i64 rb])] [] (((w.alloc (.cells #[.int .i64 rs, .int .i64 rf, .int .i64 rl, .int .i64 ra, .int .i64 rb] 64)).alloc (.cells #[.int .i64 a, .int .i64 b, .int .i64 c, .int .i64 d, .int .i64 x, .int .i64 y] 25)).alloc (.cells #[.int .i64 lo, .int .i64 hi, .int .i64 t] 66))) := Lib.hid (KpT.cons (KpT.cons (KpT.cons (KpT.old (V := w) ⟨hA, fun r h => (List.not_mem_nil h).elim, fun r h => (List.not_mem_nil h).elim, Below.refl _ _⟩ ((((Below.refl _ _).alloc (Nat.le_refl _) _).alloc (by simp) _).alloc (by simp only [World.size_alloc]; omega) _)) (((Row.new w 64 [.int .i64 rs, .int .i64 rf, .int .i64 rl, .int .i64 ra, .int .i64 rb]).alloc _).alloc _)) (row2.alloc _)) row3)
 have hL := Lib.hid hL
 have hN := Lib.hid hN
 have hCR := Lib.hid hCR
 have hCS := Lib.hid hCS
 have hCL := Lib.hid hCL
 have hE0 := Lib.hid hE0
 have hE1 := Lib.hid hE1
 have hE2 := Lib.hid hE2
 have hRL := Lib.hid hRL
 have hRN := Lib.hid hRN
 have hz1 := Lib.hid hz1
 have hz2 := Lib.hid hz2
 have hq := eqIV_self p q; have hq2 := eqIV_self r s
 clear hA
 go_enter Tryz.func6, Tryz.ntmps6
 go_upto_region 1 with fail
 refine genT (fun V => KpT w [((w.heap.size + 1 + 1), 66, [.int .i64 lo, .int .i64 hi, .int .i64 t]), ((w.heap.size + 1), 25, [.int .i64 a, .int .i64 b, .int .i64 c, .int .i64 d, .int .i64 x, .int .i64 y]), (w.heap.size, 64, [.int .i64 rs, .int .i64 rf, .int .i64 rl, .int .i64 ra, .int .i64 rb])] [] V) HK.out ?_
 clear HK
 intro W0 s0
 have HV := Lib.hid s0
 clear s0
 go_upto_region 3 with (go_at_call 9; refine (awake_ok _ HV.out.1).mono ?_; rintro e w2 ⟨rfl, hb⟩; replace HV := Lib.hid (HV.out.old hb); clear hb)
 have HK := HV
 clear HV
 go_cut [7, 8] from 18 to 25 (fun s7 s8 wx => ∃ g7, s7 = .pointer (some ⟨g7, 0, none⟩) ∧ s8 = .int .i64 E1 ∧ Hid (KpT w [(g7, 62, [.int .i64 p, .int .i64 q]), ((w.heap.size + 1 + 1), 66, [.int .i64 lo, .int .i64 hi, .int .i64 t]), ((w.heap.size + 1), 25, [.int .i64 a, .int .i64 b, .int .i64 c, .int .i64 d, .int .i64 x, .int .i64 y]), (w.heap.size, 64, [.int .i64 rs, .int .i64 rf, .int .i64 rl, .int .i64 ra, .int .i64 rb])] [] wx))
 case first =>
  have HV := HK
  have d0 := ((HK.out.row (w.heap.size + 1 + 1) 66 [.int .i64 lo, .int .i64 hi, .int .i64 t] (.head _))).cell 0; have d1 := ((HK.out.row (w.heap.size + 1 + 1) 66 [.int .i64 lo, .int .i64 hi, .int .i64 t] (.head _))).cell 1; have d2 := ((HK.out.row (w.heap.size + 1 + 1) 66 [.int .i64 lo, .int .i64 hi, .int .i64 t] (.head _))).cell 2
  simp only [List.getElem?_cons_succ, List.getElem?_cons_zero] at d0 d1 d2
  go_wp2_with (first
   | (refine wpList_load_row rfl 64 _ rfl w.heap.size rfl 64 #[.int .i64 rs, .int .i64 rf, .int .i64 rl, .int .i64 ra, .int .i64 rb] (0, 0) _ (HV.out.row w.heap.size 64 [.int .i64 rs, .int .i64 rf, .int .i64 rl, .int .i64 ra, .int .i64 rb] (.tail _ (.tail _ (.head _)))) Tryz.underlying64 rfl ?_ ?_; (kernel_rfl))
   | (refine wpList_load_row rfl 25 _ rfl (w.heap.size + 1) rfl 25 #[.int .i64 a, .int .i64 b, .int .i64 c, .int .i64 d, .int .i64 x, .int .i64 y] (0, 0) _ (HV.out.row (w.heap.size + 1) 25 [.int .i64 a, .int .i64 b, .int .i64 c, .int .i64 d, .int .i64 x, .int .i64 y] (.tail _ (.head _))) Tryz.underlying25 rfl ?_ ?_; (kernel_rfl))
   | (go_at_call 36; refine (hL.out _).mono ?_; rintro e w2 ⟨rfl, hb⟩; replace HV := Lib.hid (HV.out.old hb); clear hb)
   | (refine wpList_store_row rfl 62 _ _ rfl (w2.heap.size) #[.int .i64 p, .int .i64 q] rfl rfl 62 _ (Row.new w2 62 [.int .i64 0, .int .i64 0]) ?_ ?_ ?_ ?_; (kernel_rfl); (rfl); (simp [Value.oneCell'])))
  go_meet
  exact ⟨_, rfl, rfl, Lib.hid (KpT.cons (HV.out.old (Below.setRow ((Below.refl _ _).alloc (Nat.le_refl _) _) (Nat.le_refl _) _)) ((Row.new w2 62 [.int .i64 0, .int .i64 0]).setRow [.int .i64 p, .int .i64 q]))⟩
 case rest =>
 clear HK
 obtain ⟨g7, rfl, rfl, HK⟩ := hcut
 go_upto_region 4 with fail
 go_cut [9, 10] from 26 to 33 (fun s9 s10 wx => ∃ g9, s9 = .pointer (some ⟨g9, 0, none⟩) ∧ s10 = .int .i64 E2 ∧ Hid (KpT w [(g9, 62, [.int .i64 r, .int .i64 s]), (g7, 62, [.int .i64 p, .int .i64 q]), ((w.heap.size + 1 + 1), 66, [.int .i64 lo, .int .i64 hi, .int .i64 t]), ((w.heap.size + 1), 25, [.int .i64 a, .int .i64 b, .int .i64 c, .int .i64 d, .int .i64 x, .int .i64 y]), (w.heap.size, 64, [.int .i64 rs, .int .i64 rf, .int .i64 rl, .int .i64 ra, .int .i64 rb])] [] wx))
 case first =>
  have HV := HK
  have d0 := ((HK.out.row (w.heap.size + 1 + 1) 66 [.int .i64 lo, .int .i64 hi, .int .i64 t] (.tail _ (.head _)))).cell 0; have d1 := ((HK.out.row (w.heap.size + 1 + 1) 66 [.int .i64 lo, .int .i64 hi, .int .i64 t] (.tail _ (.head _)))).cell 1; have d2 := ((HK.out.row (w.heap.size + 1 + 1) 66 [.int .i64 lo, .int .i64 hi, .int .i64 t] (.tail _ (.head _)))).cell 2
  simp only [List.getElem?_cons_succ, List.getElem?_cons_zero] at d0 d1 d2
  go_wp2_with (first
   | (refine wpList_load_row rfl 64 _ rfl w.heap.size rfl 64 #[.int .i64 rs, .int .i64 rf, .int .i64 rl, .int .i64 ra, .int .i64 rb] (0, 0) _ (HV.out.row w.heap.size 64 [.int .i64 rs, .int .i64 rf, .int .i64 rl, .int .i64 ra, .int .i64 rb] (.tail _ (.tail _ (.tail _ (.head _))))) Tryz.underlying64 rfl ?_ ?_; (kernel_rfl))
   | (refine wpList_load_row rfl 25 _ rfl (w.heap.size + 1) rfl 25 #[.int .i64 a, .int .i64 b, .int .i64 c, .int .i64 d, .int .i64 x, .int .i64 y] (0, 0) _ (HV.out.row (w.heap.size + 1) 25 [.int .i64 a, .int .i64 b, .int .i64 c, .int .i64 d, .int .i64 x, .int .i64 y] (.tail _ (.tail _ (.head _)))) Tryz.underlying25 rfl ?_ ?_; (kernel_rfl))
   | (go_at_call 37; refine (hN.out _).mono ?_; rintro e w2 ⟨rfl, hb⟩; replace HV := Lib.hid (HV.out.old hb); clear hb)
   | (refine wpList_store_row rfl 62 _ _ rfl (w2.heap.size) #[.int .i64 r, .int .i64 s] rfl rfl 62 _ (Row.new w2 62 [.int .i64 0, .int .i64 0]) ?_ ?_ ?_ ?_; (kernel_rfl); (rfl); (simp [Value.oneCell'])))
  go_meet
  exact ⟨_, rfl, rfl, Lib.hid (KpT.cons (HV.out.old (Below.setRow ((Below.refl _ _).alloc (Nat.le_refl _) _) (Nat.le_refl _) _)) ((Row.new w2 62 [.int .i64 0, .int .i64 0]).setRow [.int .i64 r, .int .i64 s]))⟩
 case rest =>
 clear HK
 obtain ⟨g9, rfl, rfl, HK⟩ := hcut
 go_upto_region 5 with fail
 go_cut [11] from 34 to 39 (fun s11 wx => s11 = .int .i64 E0 ∧ Hid (KpT w [(g9, 62, [.int .i64 r, .int .i64 s]), (g7, 62, [.int .i64 p, .int .i64 q]), ((w.heap.size + 1 + 1), 66, [.int .i64 lo, .int .i64 hi, .int .i64 t]), ((w.heap.size + 1), 25, [.int .i64 a, .int .i64 b, .int .i64 c, .int .i64 d, .int .i64 x, .int .i64 y]), (w.heap.size, 64, [.int .i64 rs, .int .i64 rf, .int .i64 rl, .int .i64 ra, .int .i64 rb])] [] wx))
 case first =>
  refine wp_region_held_drew (S := fun V => Below wc.heap.size wc V) (by kernel_rfl) ?_ (fun hHeld => ?_)
  · exact (Below.refl _ _).drew
  refine tk 0 34 (.agg #[.int .i64 rs, .int .i64 rf, .int .i64 rl, .int .i64 ra, .int .i64 rb]) rfl (by kernel_rfl) (fun _ _ _ h => h) (by kernel_rfl) (fun V hV => ex_rowT 64 _ rfl (w.heap.size) rfl 64 [.int .i64 rs, .int .i64 rf, .int .i64 rl, .int .i64 ra, .int .i64 rb] _ Tryz.underlying64 rfl (by kernel_rfl) ((HK.out.old hV).row w.heap.size 64 [.int .i64 rs, .int .i64 rf, .int .i64 rl, .int .i64 ra, .int .i64 rb] (.tail _ (.tail _ (.tail _ (.tail _ (.head _))))))) hHeld ?_
  try simp only [zz]
  refine tk 2 36 (.agg #[.int .i64 a, .int .i64 b, .int .i64 c, .int .i64 d, .int .i64 x, .int .i64 y]) rfl (by kernel_rfl) (fun _ _ _ h => h) (by kernel_rfl) (fun V hV => ex_rowT 25 _ rfl ((w.heap.size + 1)) rfl 25 [.int .i64 a, .int .i64 b, .int .i64 c, .int .i64 d, .int .i64 x, .int .i64 y] _ Tryz.underlying25 rfl (by kernel_rfl) ((HK.out.old hV).row (w.heap.size + 1) 25 [.int .i64 a, .int .i64 b, .int .i64 c, .int .i64 d, .int .i64 x, .int .i64 y] (.tail _ (.tail _ (.tail _ (.head _)))))) hHeld ?_
  try simp only [zz]
  refine st1 1 (by kernel_rfl) rfl (fun K hK => ?_)
  go_simp
  go_at_call 38
  refine (hCR.out _).mono ?_
  rintro e v1 ⟨rfl, hb1⟩
  have hz1 := hb1.size
  try simp only [World.size_alloc, size_drewT] at hz1
  try go_simp
  refine hK.out _ _ ?_ (fun hHeld => ?_)
  · exact hHeld.trans (hb1.mono hHeld.size)
  clear hK K
  try simp only [zz]
  refine st1 3 (by kernel_rfl) rfl (fun K hK => ?_)
  go_simp
  go_at_call 13
  refine (hCS.out _).mono ?_
  rintro e v3 ⟨rfl, hb3⟩
  have hz3 := hb3.size
  try simp only [World.size_alloc, size_drewT] at hz3
  try go_simp
  refine hK.out _ _ ?_ (fun hHeld => ?_)
  · exact hHeld.trans (hb3.mono hHeld.size)
  clear hK K
  try simp only [zz]
  refine st1 4 (by kernel_rfl) rfl (fun K hK => ?_)
  go_simp
  refine hK.out _ _ ?_ (fun hHeld => ?_)
  · exact hHeld.alloc hHeld.size _
  clear hK K
  try simp only [zz]
  refine st1 5 (by kernel_rfl) rfl (fun K hK => ?_)
  go_simp
  go_at_call 24
  refine (calls_int (first_any _ _ _ [B1, B2] _ (by exact Rd.row (t := 3) (Row.new _ _ _)) rfl (by simp)) hE0.out).mono ?_
  rintro e v5 ⟨rfl, hb5⟩
  have hz5 := hb5.size
  try simp only [World.size_alloc, size_drewT] at hz5
  try go_simp
  refine hK.out _ _ ?_ (fun hHeld => ?_)
  · exact hHeld.trans (hb5.mono hHeld.size)
  clear hK K
  try simp only [zz]
  refine tk 6 11 ?_ rfl (by kernel_rfl) (fun _ _ _ h => h) (by kernel_rfl) ?_ hHeld ?_
  rotate_left
  · intro w1 hSw; (try dsimp only at hSw); go_simp <;> with_reducible rfl
  try simp only [zz]
  refine wpAnyH_done (by kernel_rfl) ?_ _
  go_wp2_with fail
  go_meet
  exact ⟨rfl, Lib.hid (HK.out.old hHeld)⟩
 case rest =>
 clear HK
 obtain ⟨rfl, HK⟩ := hcut
 go_upto_region 6 with fail
 go_cut [12, 13] from 40 to 51 (fun s12 s13 wx => s12 = .int .i64 E1 ∧ s13 = .int .i64 E2 ∧ Hid (KpT w [(g9, 62, [.int .i64 r, .int .i64 s]), (g7, 62, [.int .i64 p, .int .i64 q]), ((w.heap.size + 1 + 1), 66, [.int .i64 lo, .int .i64 hi, .int .i64 t]), ((w.heap.size + 1), 25, [.int .i64 a, .int .i64 b, .int .i64 c, .int .i64 d, .int .i64 x, .int .i64 y]), (w.heap.size, 64, [.int .i64 rs, .int .i64 rf, .int .i64 rl, .int .i64 ra, .int .i64 rb])] [] wx))
 case first =>
  refine wp_region_held_drew (S := fun V => Below wc.heap.size wc V) (by kernel_rfl) ?_ (fun hHeld => ?_)
  · exact (Below.refl _ _).drew
  refine tk 0 40 ?_ rfl (by kernel_rfl) (fun _ _ _ h => h) (by kernel_rfl) ?_ hHeld ?_
  rotate_left
  · intro w1 hSw; (try dsimp only at hSw); go_simp <;> with_reducible rfl
  try simp only [zz]
  refine tk 1 41 ?_ rfl (by kernel_rfl) (fun _ _ _ h => h) (by kernel_rfl) ?_ hHeld ?_
  rotate_left
  · intro w1 hSw; (try dsimp only at hSw); go_simp <;> with_reducible rfl
  try simp only [zz]
  refine tk 2 42 (.agg #[.int .i64 lo, .int .i64 hi]) rfl (by kernel_rfl) (fun _ _ _ h => h) (by kernel_rfl) (fun V hV => ex_Interval _ rfl (w.heap.size + 1 + 1) 0 rfl ((((HK.out.old hV).row (w.heap.size + 1 + 1) 66 [.int .i64 lo, .int .i64 hi, .int .i64 t] (.tail _ (.tail _ (.head _))))).cell 0) ((((HK.out.old hV).row (w.heap.size + 1 + 1) 66 [.int .i64 lo, .int .i64 hi, .int .i64 t] (.tail _ (.tail _ (.head _))))).cell 1)) hHeld ?_
  try simp only [zz]
  refine tk 6 46 ?_ rfl (by kernel_rfl) (fun _ _ _ h => h) (by kernel_rfl) ?_ hHeld ?_
  rotate_left
  · intro w1 hSw; (try dsimp only at hSw); go_simp <;> with_reducible rfl
  try simp only [zz]
  refine tk 7 47 ?_ rfl (by kernel_rfl) (fun _ _ _ h => h) (by kernel_rfl) ?_ hHeld ?_
  rotate_left
  · intro w1 hSw; (try dsimp only at hSw); go_simp <;> with_reducible rfl
  try simp only [zz]
  refine tk 8 48 ?_ rfl (by kernel_rfl) (fun _ _ _ h => h) (by kernel_rfl) ?_ hHeld ?_
  rotate_left
  · intro w1 hSw; (try dsimp only at hSw); have cc := (((HK.out.old hSw).row (w.heap.size + 1 + 1) 66 [.int .i64 lo, .int .i64 hi, .int .i64 t] (.tail _ (.tail _ (.head _))))).cell 2; simp only [List.getElem?_cons_succ, List.getElem?_cons_zero] at cc; go_simp <;> with_reducible rfl
  try simp only [zz]
  refine st1 3 (by kernel_rfl) rfl (fun K hK => ?_)
  go_simp
  go_at_call 39
  refine (hCL.out _).mono ?_
  rintro e v3 ⟨rfl, hb3⟩
  have hz3 := hb3.size
  try simp only [World.size_alloc, size_drewT] at hz3
  try go_simp
  refine hK.out _ _ ?_ (fun hHeld => ?_)
  · exact hHeld.trans (hb3.mono hHeld.size)
  clear hK K
  try simp only [zz]
  refine st1 4 (by kernel_rfl) rfl (fun K hK => ?_)
  go_simp
  refine hK.out _ _ ?_ (fun hHeld => ?_)
  · exact hHeld.alloc hHeld.size _
  clear hK K
  try simp only [zz]
  refine st1 5 (by kernel_rfl) rfl (fun K hK => ?_)
  go_simp
  go_at_call 24
  refine (calls_int (first_any _ _ _ [E0, B3] _ (by exact Rd.row (t := 3) (Row.new _ _ _)) rfl (by simp)) hE1.out).mono ?_
  rintro e v5 ⟨rfl, hb5⟩
  have hz5 := hb5.size
  try simp only [World.size_alloc, size_drewT] at hz5
  try go_simp
  refine hK.out _ _ ?_ (fun hHeld => ?_)
  · exact hHeld.trans (hb5.mono hHeld.size)
  clear hK K
  try simp only [zz]
  refine st1 9 (by kernel_rfl) rfl (fun K hK => ?_)
  go_simp
  go_at_call 40
  refine (calls_int (checkRange_any t 0 1000 _) rfl).mono ?_
  rintro e v9 ⟨rfl, hb9⟩
  have hz9 := hb9.size
  try simp only [World.size_alloc, size_drewT] at hz9
  try go_simp
  refine hK.out _ _ ?_ (fun hHeld => ?_)
  · exact hHeld.trans (hb9.mono hHeld.size)
  clear hK K
  try simp only [zz]
  refine st1 10 (by kernel_rfl) rfl (fun K hK => ?_)
  go_simp
  refine hK.out _ _ ?_ (fun hHeld => ?_)
  · exact hHeld.alloc hHeld.size _
  clear hK K
  try simp only [zz]
  refine st1 11 (by kernel_rfl) rfl (fun K hK => ?_)
  go_simp
  go_at_call 24
  refine (calls_int (first_any _ _ _ [E0, whenI (rangeB t 0 1000) 3] _ (by exact Rd.row (t := 3) (Row.new _ _ _)) rfl (by simp)) hE2.out).mono ?_
  rintro e v11 ⟨rfl, hb11⟩
  have hz11 := hb11.size
  try simp only [World.size_alloc, size_drewT] at hz11
  try go_simp
  refine hK.out _ _ ?_ (fun hHeld => ?_)
  · exact hHeld.trans (hb11.mono hHeld.size)
  clear hK K
  try simp only [zz]
  refine tk 12 12 ?_ rfl (by kernel_rfl) (fun _ _ _ h => h) (by kernel_rfl) ?_ hHeld ?_
  rotate_left
  · intro w1 hSw; (try dsimp only at hSw); go_simp <;> with_reducible rfl
  try simp only [zz]
  refine tk 13 13 ?_ rfl (by kernel_rfl) (fun _ _ _ h => h) (by kernel_rfl) ?_ hHeld ?_
  rotate_left
  · intro w1 hSw; (try dsimp only at hSw); go_simp <;> with_reducible rfl
  try simp only [zz]
  refine wpAnyH_done (by kernel_rfl) ?_ _
  go_wp2_with fail
  go_meet
  exact ⟨rfl, rfl, Lib.hid (HK.out.old hHeld)⟩
 case rest =>
 clear HK
 obtain ⟨rfl, rfl, HK⟩ := hcut
 obtain ⟨W5, hW5⟩ : ∃ W5 : World, W5 = wc := ⟨_, rfl⟩
 subst hW5
 go_upto_if 53 with fail
 refine genT (fun V => Row V W5.heap.size 62 [.int .i64 0, .int .i64 0] ∧ Row V (W5.heap.size + 1) 62 [.int .i64 0, .int .i64 0] ∧ Below W5.heap.size W5 V) ⟨(Row.new W5 62 [.int .i64 0, .int .i64 0]).alloc _, row2, ((Below.refl _ _).alloc (Nat.le_refl _) _).alloc (by simp) _⟩ ?_
 intro W6 s6
 have H6 := Lib.hid s6
 clear s6
 go_cut [] from 53 to 58 (fun wx => Row wx W5.heap.size 62 [.int .i64 p, .int .i64 q] ∧ Row wx (W5.heap.size + 1) 62 [.int .i64 0, .int .i64 0] ∧ Below W5.heap.size W5 wx)
 case first =>
  by_cases hE : E1 = 0
  · have hR := Lib.hid (hRL.out hE)
    have hne : (E1 == 0) = true := by simpa using hE
    have HV := Lib.hid (HK.out.old H6.out.2.2)
    have d0 := ((HV.out.row (w.heap.size + 1 + 1) 66 [.int .i64 lo, .int .i64 hi, .int .i64 t] (.tail _ (.tail _ (.head _))))).cell 0; have d1 := ((HV.out.row (w.heap.size + 1 + 1) 66 [.int .i64 lo, .int .i64 hi, .int .i64 t] (.tail _ (.tail _ (.head _))))).cell 1; have d2 := ((HV.out.row (w.heap.size + 1 + 1) 66 [.int .i64 lo, .int .i64 hi, .int .i64 t] (.tail _ (.tail _ (.head _))))).cell 2
    simp only [List.getElem?_cons_succ, List.getElem?_cons_zero] at d0 d1 d2
    clear hq hq2 hRL hRN hz1 hz2 hE
    go_wp2_with (first | (refine wpList_load_row rfl 64 _ rfl w.heap.size rfl 64 #[.int .i64 rs, .int .i64 rf, .int .i64 rl, .int .i64 ra, .int .i64 rb] (0, 0) _ (HV.out.row w.heap.size 64 [.int .i64 rs, .int .i64 rf, .int .i64 rl, .int .i64 ra, .int .i64 rb] (.tail _ (.tail _ (.tail _ (.tail _ (.head _)))))) Tryz.underlying64 rfl ?_ ?_; (kernel_rfl)) | (refine wpList_load_row rfl 25 _ rfl (w.heap.size + 1) rfl 25 #[.int .i64 a, .int .i64 b, .int .i64 c, .int .i64 d, .int .i64 x, .int .i64 y] (0, 0) _ (HV.out.row (w.heap.size + 1) 25 [.int .i64 a, .int .i64 b, .int .i64 c, .int .i64 d, .int .i64 x, .int .i64 y] (.tail _ (.tail _ (.tail _ (.head _))))) Tryz.underlying25 rfl ?_ ?_; (kernel_rfl)) | (go_at_call 41; refine (hR.out _).mono ?_; rintro e w8 ⟨rfl, hb8⟩; have H8 : Hid (Row w8 W5.heap.size 62 [.int .i64 0, .int .i64 0] ∧ Row w8 (W5.heap.size + 1) 62 [.int .i64 0, .int .i64 0] ∧ Below W5.heap.size W5 w8) := ⟨H6.out.1.old hb8, H6.out.2.1.old hb8, H6.out.2.2.trans (hb8.mono H6.out.2.2.size)⟩) | (refine wpList_store_row rfl 62 _ _ rfl (W5.heap.size) #[.int .i64 p, .int .i64 q] rfl rfl 62 _ H8.out.1 ?_ ?_ ?_ ?_; (kernel_rfl); (rfl); (simp [Value.oneCell'])))
    go_meet
    exact ⟨H8.out.1.setRow [.int .i64 p, .int .i64 q], H8.out.2.1.farRow (by omega) _, Below.setRow H8.out.2.2 (Nat.le_refl _) _⟩
  · obtain ⟨rfl, rfl⟩ := hz1.out hE
    have hne : (E1 == 0) = false := by simpa using hE
    clear hRL hRN hz1 hz2 hE hq hq2
    go_wp2_with fail
    go_meet
    exact H6.out
 case rest =>
 have H53 := Lib.hid hcut
 clear hcut H6
 go_upto_if 60 with fail
 go_cut [] from 60 to 65 (fun wx => Row wx W5.heap.size 62 [.int .i64 p, .int .i64 q] ∧ Row wx (W5.heap.size + 1) 62 [.int .i64 r, .int .i64 s] ∧ Below W5.heap.size W5 wx)
 case first =>
  by_cases hE : E2 = 0
  · have hR := Lib.hid (hRN.out hE)
    have hne : (E2 == 0) = true := by simpa using hE
    have HV := Lib.hid (HK.out.old H53.out.2.2)
    have d0 := ((HV.out.row (w.heap.size + 1 + 1) 66 [.int .i64 lo, .int .i64 hi, .int .i64 t] (.tail _ (.tail _ (.head _))))).cell 0; have d1 := ((HV.out.row (w.heap.size + 1 + 1) 66 [.int .i64 lo, .int .i64 hi, .int .i64 t] (.tail _ (.tail _ (.head _))))).cell 1; have d2 := ((HV.out.row (w.heap.size + 1 + 1) 66 [.int .i64 lo, .int .i64 hi, .int .i64 t] (.tail _ (.tail _ (.head _))))).cell 2
    simp only [List.getElem?_cons_succ, List.getElem?_cons_zero] at d0 d1 d2
    clear hq hq2 hRL hRN hz1 hz2 hE
    go_wp2_with (first | (refine wpList_load_row rfl 64 _ rfl w.heap.size rfl 64 #[.int .i64 rs, .int .i64 rf, .int .i64 rl, .int .i64 ra, .int .i64 rb] (0, 0) _ (HV.out.row w.heap.size 64 [.int .i64 rs, .int .i64 rf, .int .i64 rl, .int .i64 ra, .int .i64 rb] (.tail _ (.tail _ (.tail _ (.tail _ (.head _)))))) Tryz.underlying64 rfl ?_ ?_; (kernel_rfl)) | (refine wpList_load_row rfl 25 _ rfl (w.heap.size + 1) rfl 25 #[.int .i64 a, .int .i64 b, .int .i64 c, .int .i64 d, .int .i64 x, .int .i64 y] (0, 0) _ (HV.out.row (w.heap.size + 1) 25 [.int .i64 a, .int .i64 b, .int .i64 c, .int .i64 d, .int .i64 x, .int .i64 y] (.tail _ (.tail _ (.tail _ (.head _))))) Tryz.underlying25 rfl ?_ ?_; (kernel_rfl)) | (go_at_call 42; refine (hR.out _).mono ?_; rintro e w8 ⟨rfl, hb8⟩; have H8 : Hid (Row w8 W5.heap.size 62 [.int .i64 p, .int .i64 q] ∧ Row w8 (W5.heap.size + 1) 62 [.int .i64 0, .int .i64 0] ∧ Below W5.heap.size W5 w8) := ⟨H53.out.1.old hb8, H53.out.2.1.old hb8, H53.out.2.2.trans (hb8.mono H53.out.2.2.size)⟩) | (refine wpList_store_row rfl 62 _ _ rfl (W5.heap.size + 1) #[.int .i64 r, .int .i64 s] rfl rfl 62 _ H8.out.2.1 ?_ ?_ ?_ ?_; (kernel_rfl); (rfl); (simp [Value.oneCell'])))
    go_meet
    exact ⟨H8.out.1.farRow (by omega) _, H8.out.2.1.setRow [.int .i64 r, .int .i64 s], Below.setRow H8.out.2.2 (by omega) _⟩
  · obtain ⟨rfl, rfl⟩ := hz2.out hE
    have hne : (E2 == 0) = false := by simpa using hE
    clear hRL hRN hz1 hz2 hE hq hq2
    go_wp2_with fail
    go_meet
    exact H53.out
 case rest =>
 have H60 := Lib.hid hcut
 clear hcut H53
 have m1 := ((HK.out.old H60.out.2.2).row g7 62 [.int .i64 p, .int .i64 q] (.tail _ (.head _)))
 have m2 := ((HK.out.old H60.out.2.2).row g9 62 [.int .i64 r, .int .i64 s] (.head _))
 have k1 := H60.out.1; have k2 := H60.out.2.1
 have c0 := k1.cell 0; have c1 := k1.cell 1; have c2 := k2.cell 0; have c3 := k2.cell 1; have c4 := m1.cell 0; have c5 := m1.cell 1; have c6 := m2.cell 0; have c7 := m2.cell 1
 simp only [List.getElem?_cons_succ, List.getElem?_cons_zero] at c0 c1 c2 c3 c4 c5 c6 c7
 have HF := Lib.hid (HK.out.old H60.out.2.2).2.2.2
 clear k1 k2 m1 m2 H60 hRL hRN hz1 hz2 hL hN hCR hCS hCL HK hE0 hE1 hE2
 go_wp2_with fail
 go_ret
 exact ⟨by simp, HF.out⟩
set_option maxRecDepth 100000 in
set_option maxHeartbeats 1000000 in
theorem lost_both (rs rf rl ra rb a b c d x y lo hi : Int) (h1 : recE rs rf rl ra rb = 0) (h2 : sigE a b c d x y = 0) (h3 : ivE lo hi 0 1000 = 0) : ∃ p q : Int, (∀ W, Calls Tryz.prog 36 #[.agg #[.int .i64 rs, .int .i64 rf, .int .i64 rl, .int .i64 ra, .int .i64 rb], .agg #[.int .i64 a, .int .i64 b, .int .i64 c, .int .i64 d, .int .i64 x, .int .i64 y], .agg #[.int .i64 lo, .int .i64 hi]] W fun e w' => e = .returned (.tuple #[.agg #[.int .i64 p, .int .i64 q], .int .i64 0]) ∧ Below W.heap.size W w') ∧ (∀ W, Calls Tryz.prog 41 #[.agg #[.int .i64 rs, .int .i64 rf, .int .i64 rl, .int .i64 ra, .int .i64 rb], .agg #[.int .i64 a, .int .i64 b, .int .i64 c, .int .i64 d, .int .i64 x, .int .i64 y], .agg #[.int .i64 lo, .int .i64 hi]] W fun e w' => e = .returned (.agg #[.int .i64 p, .int .i64 q]) ∧ Below W.heap.size W w') := by
 have hR := rec_good h1; have hg := sig_good h2
 obtain ⟨i1, i2, i3⟩ := fI3 h3
 have j1 := whenZ (by decide) i1; have j2 := whenZ (by decide) i2
 unfold rangeB at j1 j2
 simp only [Bool.or_eq_false_iff, decide_eq_false_iff_not] at j1 j2
 have bl : 0 ≤ lo ∧ lo ≤ 1000 := by omega
 have bh : 0 ≤ hi ∧ hi ≤ 1000 := by omega
 have bn := hg.ndI; have bq := hg.sq; have bp := hg.pos
 have n1 : ((c * a + d * b - (x * a + y * b)) * (1000 - lo)).natAbs ≤ 400000000 * 1000 := by rw [Int.natAbs_mul]; exact Nat.mul_le_mul bn (by omega)
 have n2 : ((c * a + d * b - (x * a + y * b)) * (1000 - hi)).natAbs ≤ 400000000 * 1000 := by rw [Int.natAbs_mul]; exact Nat.mul_le_mul bn (by omega)
 obtain ⟨p, hp⟩ : ∃ p, p = shownI rs rf ((c * a + d * b - (x * a + y * b)) * (1000 - lo)) ((a * a + b * b) * 1000) := ⟨_, rfl⟩
 obtain ⟨q, hq⟩ : ∃ q, q = shownI rs rf ((c * a + d * b - (x * a + y * b)) * (1000 - hi)) ((a * a + b * b) * 1000) := ⟨_, rfl⟩
 have HP : (∀ W, Calls Tryz.prog 95 #[.agg #[.int .i64 rs, .int .i64 rf, .int .i64 rl, .int .i64 ra, .int .i64 rb], .agg #[.int .i64 a, .int .i64 b, .int .i64 c, .int .i64 d, .int .i64 x, .int .i64 y], .int .i64 lo] W fun e w' => e = .returned (.int .i64 p) ∧ Below W.heap.size W w') := fun W => by rw [hp]; exact lost_any rs rf rl ra rb a b c d x y _ _ lo W hg.g1 hg.g2 hg.g3 hR.s hR.f rfl rfl (by omega) (by omega) bl
 have HQ : (∀ W, Calls Tryz.prog 95 #[.agg #[.int .i64 rs, .int .i64 rf, .int .i64 rl, .int .i64 ra, .int .i64 rb], .agg #[.int .i64 a, .int .i64 b, .int .i64 c, .int .i64 d, .int .i64 x, .int .i64 y], .int .i64 hi] W fun e w' => e = .returned (.int .i64 q) ∧ Below W.heap.size W w') := fun W => by rw [hq]; exact lost_any rs rf rl ra rb a b c d x y _ _ hi W hg.g1 hg.g2 hg.g3 hR.s hR.f rfl rfl (by omega) (by omega) bh
 have SP : (∀ W, Calls Tryz.prog 101 #[.agg #[.int .i64 rs, .int .i64 rf, .int .i64 rl, .int .i64 ra, .int .i64 rb], .int .i64 ((c * a + d * b - (x * a + y * b)) * (1000 - lo)), .int .i64 ((a * a + b * b) * 1000)] W fun e w' => e = .returned (.int .i64 p) ∧ Below W.heap.size W w') := fun W => by rw [hp]; exact shownR_any rs rf rl ra rb _ _ W hR.s hR.f (by omega) (by omega)
 have SQ : (∀ W, Calls Tryz.prog 101 #[.agg #[.int .i64 rs, .int .i64 rf, .int .i64 rl, .int .i64 ra, .int .i64 rb], .int .i64 ((c * a + d * b - (x * a + y * b)) * (1000 - hi)), .int .i64 ((a * a + b * b) * 1000)] W fun e w' => e = .returned (.int .i64 q) ∧ Below W.heap.size W w') := fun W => by rw [hq]; exact shownR_any rs rf rl ra rb _ _ W hR.s hR.f (by omega) (by omega)
 have DD := fun W => differenceR_any a b c d x y W hg.g1 hg.g2 hg.g3
 have QQ := fun W => squareR_any a b c d x y W hg.g1
 have e0 : (0 : Int) = firstI [recE rs rf rl ra rb, sigE a b c d x y, ivE lo hi 0 1000] := by rw [h1, h2, h3]; rfl
 have HL := fun W => lostT_ok rs rf rl ra rb a b c d x y lo hi 0 W e0 rfl p q HP HQ
 have k1 : minL [p, q] = min p q := by show mnI p q = min p q; unfold mnI; omega
 have k2 : maxL [p, q] = max p q := by show mxI p q = max p q; unfold mxI; omega
 rw [k1, k2] at HL
 exact ⟨_, _, HL, fun W => lostR_any rs rf rl ra rb a b c d x y lo hi _ _ p q _ _ W DD QQ SP SQ (by omega) (by omega) bl bh rfl rfl⟩
set_option maxRecDepth 100000 in
set_option maxHeartbeats 1000000 in
theorem noisy_both (rs rf rl ra rb a b c d x y t : Int) (h1 : recE rs rf rl ra rb = 0) (h2 : sigE a b c d x y = 0) (h3 : whenI (rangeB t 0 1000) 3 = 0) : ∃ p q : Int, (∀ W, Calls Tryz.prog 37 #[.agg #[.int .i64 rs, .int .i64 rf, .int .i64 rl, .int .i64 ra, .int .i64 rb], .agg #[.int .i64 a, .int .i64 b, .int .i64 c, .int .i64 d, .int .i64 x, .int .i64 y], .int .i64 t] W fun e w' => e = .returned (.tuple #[.agg #[.int .i64 p, .int .i64 q], .int .i64 0]) ∧ Below W.heap.size W w') ∧ (∀ W, Calls Tryz.prog 42 #[.agg #[.int .i64 rs, .int .i64 rf, .int .i64 rl, .int .i64 ra, .int .i64 rb], .agg #[.int .i64 a, .int .i64 b, .int .i64 c, .int .i64 d, .int .i64 x, .int .i64 y], .int .i64 t] W fun e w' => e = .returned (.agg #[.int .i64 p, .int .i64 q]) ∧ Below W.heap.size W w') := by
 have hR := rec_good h1; have hg := sig_good h2
 have j1 := whenZ (by decide) h3
 unfold rangeB at j1
 simp only [Bool.or_eq_false_iff, decide_eq_false_iff_not] at j1
 have ht : 0 ≤ t ∧ t ≤ 1000 := by omega
 have bn := hg.ndI; have bq := hg.sq; have bp := hg.pos; have pa := hg.pa; have pb := hg.pb
 obtain ⟨A, hA⟩ : ∃ A, A = max a (-a) + max b (-b) := ⟨_, rfl⟩
 have bA : 0 ≤ A ∧ A ≤ 20000 := by omega
 obtain ⟨by0, hby⟩ : ∃ by0, by0 = 2 * t * A := ⟨_, rfl⟩
 have bb : 0 ≤ by0 ∧ by0 ≤ 40000000 := by
  rw [hby]
  have k1 : 0 ≤ 2 * t * A := Int.mul_nonneg (by omega) bA.1
  have k2 : 2 * t * A ≤ 2000 * 20000 := Int.mul_le_mul (by omega) bA.2 bA.1 (by decide)
  omega
 have hby2 : by0 = 2 * t * (max a (-a) + max b (-b)) := by rw [← hA]; exact hby
 obtain ⟨p, hp⟩ : ∃ p, p = shownI rs rf ((c * a + d * b - (x * a + y * b)) - by0) (a * a + b * b) := ⟨_, rfl⟩
 obtain ⟨q, hq⟩ : ∃ q, q = shownI rs rf ((c * a + d * b - (x * a + y * b)) + by0) (a * a + b * b) := ⟨_, rfl⟩
 have HN := fun W => needle_any a b c d x y W hg.g1 hg.g2 hg.g3
 have HP : (∀ W, Calls Tryz.prog 99 #[.agg #[.int .i64 rs, .int .i64 rf, .int .i64 rl, .int .i64 ra, .int .i64 rb], .agg #[.int .i64 ((c * a + d * b - (x * a + y * b)) - by0), .int .i64 (a * a + b * b)]] W fun e w' => e = .returned (.int .i64 p) ∧ Below W.heap.size W w') := fun W => by rw [hp]; exact shown_any rs rf rl ra rb _ _ W hR.s hR.f (by omega) (by omega)
 have HQ : (∀ W, Calls Tryz.prog 99 #[.agg #[.int .i64 rs, .int .i64 rf, .int .i64 rl, .int .i64 ra, .int .i64 rb], .agg #[.int .i64 ((c * a + d * b - (x * a + y * b)) + by0), .int .i64 (a * a + b * b)]] W fun e w' => e = .returned (.int .i64 q) ∧ Below W.heap.size W w') := fun W => by rw [hq]; exact shown_any rs rf rl ra rb _ _ W hR.s hR.f (by omega) (by omega)
 have SP : (∀ W, Calls Tryz.prog 101 #[.agg #[.int .i64 rs, .int .i64 rf, .int .i64 rl, .int .i64 ra, .int .i64 rb], .int .i64 ((c * a + d * b - (x * a + y * b)) - by0), .int .i64 (a * a + b * b)] W fun e w' => e = .returned (.int .i64 p) ∧ Below W.heap.size W w') := fun W => by rw [hp]; exact shownR_any rs rf rl ra rb _ _ W hR.s hR.f (by omega) (by omega)
 have SQ : (∀ W, Calls Tryz.prog 101 #[.agg #[.int .i64 rs, .int .i64 rf, .int .i64 rl, .int .i64 ra, .int .i64 rb], .int .i64 ((c * a + d * b - (x * a + y * b)) + by0), .int .i64 (a * a + b * b)] W fun e w' => e = .returned (.int .i64 q) ∧ Below W.heap.size W w') := fun W => by rw [hq]; exact shownR_any rs rf rl ra rb _ _ W hR.s hR.f (by omega) (by omega)
 have DD := fun W => differenceR_any a b c d x y W hg.g1 hg.g2 hg.g3
 have QQ := fun W => squareR_any a b c d x y W hg.g1
 have e0 : (0 : Int) = firstI [recE rs rf rl ra rb, sigE a b c d x y, whenI (rangeB t 0 1000) 3] := by rw [h1, h2, h3]; rfl
 exact ⟨p, q, fun W => noisyT_ok rs rf rl ra rb a b c d x y t 0 W e0 rfl _ _ by0 p q (by omega) (by omega) hby2 ht (by omega) (by omega) HN HP HQ, fun W => noisyR_any rs rf rl ra rb a b c d x y t _ _ by0 p q W DD QQ SP SQ (by omega) (by omega) hby2 ht (by omega) (by omega)⟩
set_option maxRecDepth 100000 in
set_option maxHeartbeats 1000000 in
theorem toneIntervals_any (rs rf rl ra rb a b c d x y lo hi t : Int) (w : World) (hA : AwT w) : Calls Tryz.prog 6 #[.agg #[.int .i64 rs, .int .i64 rf, .int .i64 rl, .int .i64 ra, .int .i64 rb], .agg #[.int .i64 a, .int .i64 b, .int .i64 c, .int .i64 d, .int .i64 x, .int .i64 y], .agg #[.int .i64 lo, .int .i64 hi, .int .i64 t]] w fun e w' => e = .returned (.bool true) ∧ Below w.heap.size w w' := by
 have E1L : firstI [recE rs rf rl ra rb, sigE a b c d x y, ivE lo hi 0 1000] = firstI [firstI [recE rs rf rl ra rb, sigE a b c d x y], ivE lo hi 0 1000] := by rw [firstI_left]; rfl
 have E2L : firstI [recE rs rf rl ra rb, sigE a b c d x y, whenI (rangeB t 0 1000) 3] = firstI [firstI [recE rs rf rl ra rb, sigE a b c d x y], whenI (rangeB t 0 1000) 3] := by rw [firstI_left]; rfl
 have L : ∃ p q : Int, (∀ W, Calls Tryz.prog 36 #[.agg #[.int .i64 rs, .int .i64 rf, .int .i64 rl, .int .i64 ra, .int .i64 rb], .agg #[.int .i64 a, .int .i64 b, .int .i64 c, .int .i64 d, .int .i64 x, .int .i64 y], .agg #[.int .i64 lo, .int .i64 hi]] W fun e w' => e = .returned (.tuple #[.agg #[.int .i64 p, .int .i64 q], .int .i64 (firstI [firstI [recE rs rf rl ra rb, sigE a b c d x y], ivE lo hi 0 1000])]) ∧ Below W.heap.size W w') ∧ (firstI [firstI [recE rs rf rl ra rb, sigE a b c d x y], ivE lo hi 0 1000] = 0 → (∀ W, Calls Tryz.prog 41 #[.agg #[.int .i64 rs, .int .i64 rf, .int .i64 rl, .int .i64 ra, .int .i64 rb], .agg #[.int .i64 a, .int .i64 b, .int .i64 c, .int .i64 d, .int .i64 x, .int .i64 y], .agg #[.int .i64 lo, .int .i64 hi]] W fun e w' => e = .returned (.agg #[.int .i64 p, .int .i64 q]) ∧ Below W.heap.size W w')) ∧ (firstI [firstI [recE rs rf rl ra rb, sigE a b c d x y], ivE lo hi 0 1000] ≠ 0 → p = 0 ∧ q = 0) := by
  by_cases h : firstI [firstI [recE rs rf rl ra rb, sigE a b c d x y], ivE lo hi 0 1000] = 0
  · obtain ⟨e1, e2, e3⟩ := fI3 (E1L.trans h)
    obtain ⟨p, q, k1, k2⟩ := lost_both rs rf rl ra rb a b c d x y lo hi e1 e2 e3
    exact ⟨p, q, fun W => by rw [h]; exact k1 W, fun _ => k2, fun hn => absurd h hn⟩
  · exact ⟨0, 0, fun W => lostT_bad rs rf rl ra rb a b c d x y lo hi _ W E1L.symm h, fun hn => absurd hn h, fun _ => ⟨rfl, rfl⟩⟩
 have M : ∃ r s : Int, (∀ W, Calls Tryz.prog 37 #[.agg #[.int .i64 rs, .int .i64 rf, .int .i64 rl, .int .i64 ra, .int .i64 rb], .agg #[.int .i64 a, .int .i64 b, .int .i64 c, .int .i64 d, .int .i64 x, .int .i64 y], .int .i64 t] W fun e w' => e = .returned (.tuple #[.agg #[.int .i64 r, .int .i64 s], .int .i64 (firstI [firstI [recE rs rf rl ra rb, sigE a b c d x y], whenI (rangeB t 0 1000) 3])]) ∧ Below W.heap.size W w') ∧ (firstI [firstI [recE rs rf rl ra rb, sigE a b c d x y], whenI (rangeB t 0 1000) 3] = 0 → (∀ W, Calls Tryz.prog 42 #[.agg #[.int .i64 rs, .int .i64 rf, .int .i64 rl, .int .i64 ra, .int .i64 rb], .agg #[.int .i64 a, .int .i64 b, .int .i64 c, .int .i64 d, .int .i64 x, .int .i64 y], .int .i64 t] W fun e w' => e = .returned (.agg #[.int .i64 r, .int .i64 s]) ∧ Below W.heap.size W w')) ∧ (firstI [firstI [recE rs rf rl ra rb, sigE a b c d x y], whenI (rangeB t 0 1000) 3] ≠ 0 → r = 0 ∧ s = 0) := by
  by_cases h : firstI [firstI [recE rs rf rl ra rb, sigE a b c d x y], whenI (rangeB t 0 1000) 3] = 0
  · obtain ⟨e1, e2, e3⟩ := fI3 (E2L.trans h)
    obtain ⟨p, q, k1, k2⟩ := noisy_both rs rf rl ra rb a b c d x y t e1 e2 e3
    exact ⟨p, q, fun W => by rw [h]; exact k1 W, fun _ => k2, fun hn => absurd h hn⟩
  · exact ⟨0, 0, fun W => noisyT_bad rs rf rl ra rb a b c d x y t _ W E2L.symm h, fun hn => absurd hn h, fun _ => ⟨rfl, rfl⟩⟩
 obtain ⟨p, q, l1, l2, l3⟩ := L
 obtain ⟨r, s, m1, m2, m3⟩ := M
 exact intervals_law rs rf rl ra rb a b c d x y lo hi t p q r s _ _ _ _ _ _ w hA l1 m1 (fun W => checkReceiverR_any rs rf rl ra rb W) (fun W => checkSignalR_any a b c d x y W) (fun W => checkLossR_any lo hi W) rfl rfl rfl l2 m2 l3 m3
end Go.Proofs.YtcaekblnioidiaaGreatDoor
