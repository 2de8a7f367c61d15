import Derived.Test.YtcaekblnioidiaaGreatDoorM48
import Derived.Test.YtcaekblnioidiaaGreatDoorM51
import Derived.Test.YtcaekblnioidiaaGreatDoorM16
namespace Go.Proofs.YtcaekblnioidiaaGreatDoor
set_option linter.all false
open Go.RowKit Go.Fl
set_option maxRecDepth 100000 in
set_option maxHeartbeats 8000000 in
theorem captures_law (a b c d x y k l m n u v t K E p q : Int) (w : World) (hA : AwT w) (hC : ∀ W, Calls Tryz.prog 31 #[.agg #[.int .i64 a, .int .i64 b, .int .i64 c, .int .i64 d, .int .i64 x, .int .i64 y, .int .i64 k, .int .i64 l, .int .i64 m, .int .i64 n, .int .i64 u, .int .i64 v], .int .i64 t] W fun e w' => e = .returned (.tuple #[.int .i64 K, .int .i64 E]) ∧ Below W.heap.size W w') (hM : ∀ W, Calls Tryz.prog 32 #[.agg #[.int .i64 a, .int .i64 b, .int .i64 c, .int .i64 d, .int .i64 x, .int .i64 y, .int .i64 k, .int .i64 l, .int .i64 m, .int .i64 n, .int .i64 u, .int .i64 v], .int .i64 t] W fun e w' => e = .returned (.tuple #[.agg #[.int .i64 p, .int .i64 q], .int .i64 E]) ∧ Below W.heap.size W w') (hT : ∀ W, Calls Tryz.prog 33 #[.agg #[.int .i64 a, .int .i64 b, .int .i64 c, .int .i64 d, .int .i64 x, .int .i64 y], .agg #[.int .i64 k, .int .i64 l, .int .i64 m, .int .i64 n, .int .i64 u, .int .i64 v], .int .i64 t] W fun e w' => e = .returned (.int .i64 E) ∧ Below W.heap.size W w') (hRC : E = 0 → ∀ W, Calls Tryz.prog 34 #[.agg #[.int .i64 a, .int .i64 b, .int .i64 c, .int .i64 d, .int .i64 x, .int .i64 y], .agg #[.int .i64 k, .int .i64 l, .int .i64 m, .int .i64 n, .int .i64 u, .int .i64 v], .int .i64 t] W fun e w' => e = .returned (.int .i64 K) ∧ Below W.heap.size W w') (hRM : E = 0 → ∀ W, Calls Tryz.prog 35 #[.agg #[.int .i64 a, .int .i64 b, .int .i64 c, .int .i64 d, .int .i64 x, .int .i64 y], .agg #[.int .i64 k, .int .i64 l, .int .i64 m, .int .i64 n, .int .i64 u, .int .i64 v], .int .i64 t] W fun e w' => e = .returned (.agg #[.int .i64 p, .int .i64 q]) ∧ Below W.heap.size W w') (hz : E ≠ 0 → K = 0 ∧ p = 0 ∧ q = 0) : Calls Tryz.prog 5 #[.agg #[.int .i64 a, .int .i64 b, .int .i64 c, .int .i64 d, .int .i64 x, .int .i64 y], .agg #[.int .i64 k, .int .i64 l, .int .i64 m, .int .i64 n, .int .i64 u, .int .i64 v], .int .i64 t] w fun e w' => e = .returned (.bool true) ∧ Below w.heap.size w w' := by
 have HK : Hid (KpT w [((w.heap.size + 1), 25, [.int .i64 k, .int .i64 l, .int .i64 m, .int .i64 n, .int .i64 u, .int .i64 v]), (w.heap.size, 25, [.int .i64 a, .int .i64 b, .int .i64 c, .int .i64 d, .int .i64 x, .int .i64 y])] [] ((w.alloc (.cells #[.int .i64 a, .int .i64 b, .int .i64 c, .int .i64 d, .int .i64 x, .int .i64 y] 25)).alloc (.cells #[.int .i64 k, .int .i64 l, .int .i64 m, .int .i64 n, .int .i64 u, .int .i64 v] 25))) := Lib.hid (KpT.cons (KpT.cons (KpT.old (V := w) ⟨hA, fun r h => (List.not_mem_nil h).elim, fun r h => (List.not_mem_nil h).elim, Below.refl _ _⟩ (((Below.refl _ _).alloc (Nat.le_refl _) _).alloc (by simp) _)) ((Row.new w 25 [.int .i64 a, .int .i64 b, .int .i64 c, .int .i64 d, .int .i64 x, .int .i64 y]).alloc _)) row2)
 have hC := Lib.hid hC
 have hM := Lib.hid hM
 have hT := Lib.hid hT
 have hRC := Lib.hid hRC
 have hRM := Lib.hid hRM
 have hz := Lib.hid hz
 have hq := eqR_self p q
 clear hA
 go_enter Tryz.func5, Tryz.ntmps5
 go_upto_region 1 with fail
 refine genT (fun V => KpT w [((w.heap.size + 1), 25, [.int .i64 k, .int .i64 l, .int .i64 m, .int .i64 n, .int .i64 u, .int .i64 v]), (w.heap.size, 25, [.int .i64 a, .int .i64 b, .int .i64 c, .int .i64 d, .int .i64 x, .int .i64 y])] [] V) HK.out ?_
 clear HK
 intro W0 s0
 have HV := Lib.hid s0
 clear s0
 go_upto_region 3 with (go_at_call 9; refine (awake_ok _ HV.out.1).mono ?_; rintro e w2 ⟨rfl, hb⟩; replace HV := Lib.hid (HV.out.old hb); clear hb)
 have HK := HV
 clear HV
 go_cut [7] from 17 to 19 (fun s7 wx => ∃ g7, s7 = .pointer (some ⟨g7, 0, none⟩) ∧ Hid (KpT w [(g7, 54, [.int .i64 a, .int .i64 b, .int .i64 c, .int .i64 d, .int .i64 x, .int .i64 y, .int .i64 k, .int .i64 l, .int .i64 m, .int .i64 n, .int .i64 u, .int .i64 v]), ((w.heap.size + 1), 25, [.int .i64 k, .int .i64 l, .int .i64 m, .int .i64 n, .int .i64 u, .int .i64 v]), (w.heap.size, 25, [.int .i64 a, .int .i64 b, .int .i64 c, .int .i64 d, .int .i64 x, .int .i64 y])] [] wx))
 case first =>
  have HV := HK
  go_wp2_with (first
   | (refine wpList_load_row rfl 25 _ rfl w.heap.size rfl 25 #[.int .i64 a, .int .i64 b, .int .i64 c, .int .i64 d, .int .i64 x, .int .i64 y] (0, 0) _ (HV.out.row w.heap.size 25 [.int .i64 a, .int .i64 b, .int .i64 c, .int .i64 d, .int .i64 x, .int .i64 y] (.tail _ (.head _))) Tryz.underlying25 rfl ?_ ?_; (kernel_rfl))
   | (refine wpList_load_row rfl 25 _ rfl (w.heap.size + 1) rfl 25 #[.int .i64 k, .int .i64 l, .int .i64 m, .int .i64 n, .int .i64 u, .int .i64 v] (0, 0) _ (HV.out.row (w.heap.size + 1) 25 [.int .i64 k, .int .i64 l, .int .i64 m, .int .i64 n, .int .i64 u, .int .i64 v] (.head _)) Tryz.underlying25 rfl ?_ ?_; (kernel_rfl))
   | (refine wpList_store_row rfl 54 _ _ rfl (w2.heap.size) #[.int .i64 a, .int .i64 b, .int .i64 c, .int .i64 d, .int .i64 x, .int .i64 y, .int .i64 k, .int .i64 l, .int .i64 m, .int .i64 n, .int .i64 u, .int .i64 v] rfl rfl 54 _ (Row.new w2 54 [.int .i64 0, .int .i64 0, .int .i64 0, .int .i64 0, .int .i64 0, .int .i64 0, .int .i64 0, .int .i64 0, .int .i64 0, .int .i64 0, .int .i64 0, .int .i64 0]) ?_ ?_ ?_ ?_; (kernel_rfl); (rfl); (simp [Value.oneCell'])))
  go_meet
  exact ⟨_, rfl, Lib.hid (KpT.cons (HV.out.old (Below.setRow ((Below.refl _ _).alloc (Nat.le_refl _) _) (Nat.le_refl _) _)) ((Row.new w2 54 [.int .i64 0, .int .i64 0, .int .i64 0, .int .i64 0, .int .i64 0, .int .i64 0, .int .i64 0, .int .i64 0, .int .i64 0, .int .i64 0, .int .i64 0, .int .i64 0]).setRow [.int .i64 a, .int .i64 b, .int .i64 c, .int .i64 d, .int .i64 x, .int .i64 y, .int .i64 k, .int .i64 l, .int .i64 m, .int .i64 n, .int .i64 u, .int .i64 v]))⟩
 case rest =>
 clear HK
 obtain ⟨g7, rfl, HK⟩ := hcut
 go_upto_region 4 with fail
 go_cut [8, 9] from 20 to 25 (fun s8 s9 wx => s8 = .int .i64 K ∧ s9 = .int .i64 E ∧ Hid (KpT w [(g7, 54, [.int .i64 a, .int .i64 b, .int .i64 c, .int .i64 d, .int .i64 x, .int .i64 y, .int .i64 k, .int .i64 l, .int .i64 m, .int .i64 n, .int .i64 u, .int .i64 v]), ((w.heap.size + 1), 25, [.int .i64 k, .int .i64 l, .int .i64 m, .int .i64 n, .int .i64 u, .int .i64 v]), (w.heap.size, 25, [.int .i64 a, .int .i64 b, .int .i64 c, .int .i64 d, .int .i64 x, .int .i64 y])] [] wx))
 case first =>
  have HV := HK
  go_wp2_with (first
   | (refine wpList_load_row rfl 54 _ rfl g7 rfl 54 #[.int .i64 a, .int .i64 b, .int .i64 c, .int .i64 d, .int .i64 x, .int .i64 y, .int .i64 k, .int .i64 l, .int .i64 m, .int .i64 n, .int .i64 u, .int .i64 v] (0, 0) _ (HV.out.row g7 54 [.int .i64 a, .int .i64 b, .int .i64 c, .int .i64 d, .int .i64 x, .int .i64 y, .int .i64 k, .int .i64 l, .int .i64 m, .int .i64 n, .int .i64 u, .int .i64 v] (.head _)) Tryz.underlying54 rfl ?_ ?_; (kernel_rfl))
   | (go_at_call 31; refine (hC.out _).mono ?_; rintro e w2 ⟨rfl, hb⟩; replace HV := Lib.hid (HV.out.old hb); clear hb))
  go_meet
  exact ⟨rfl, rfl, HV⟩
 case rest =>
 clear HK
 obtain ⟨rfl, rfl, HK⟩ := hcut
 go_upto_region 5 with fail
 go_cut [10, 11] from 26 to 31 (fun s10 s11 wx => ∃ g10, s10 = .pointer (some ⟨g10, 0, none⟩) ∧ s11 = .int .i64 E ∧ Hid (KpT w [(g10, 28, [.int .i64 p, .int .i64 q]), (g7, 54, [.int .i64 a, .int .i64 b, .int .i64 c, .int .i64 d, .int .i64 x, .int .i64 y, .int .i64 k, .int .i64 l, .int .i64 m, .int .i64 n, .int .i64 u, .int .i64 v]), ((w.heap.size + 1), 25, [.int .i64 k, .int .i64 l, .int .i64 m, .int .i64 n, .int .i64 u, .int .i64 v]), (w.heap.size, 25, [.int .i64 a, .int .i64 b, .int .i64 c, .int .i64 d, .int .i64 x, .int .i64 y])] [] wx))
 case first =>
  have HV := HK
  go_wp2_with (first
   | (refine wpList_load_row rfl 54 _ rfl g7 rfl 54 #[.int .i64 a, .int .i64 b, .int .i64 c, .int .i64 d, .int .i64 x, .int .i64 y, .int .i64 k, .int .i64 l, .int .i64 m, .int .i64 n, .int .i64 u, .int .i64 v] (0, 0) _ (HV.out.row g7 54 [.int .i64 a, .int .i64 b, .int .i64 c, .int .i64 d, .int .i64 x, .int .i64 y, .int .i64 k, .int .i64 l, .int .i64 m, .int .i64 n, .int .i64 u, .int .i64 v] (.head _)) Tryz.underlying54 rfl ?_ ?_; (kernel_rfl))
   | (go_at_call 32; refine (hM.out _).mono ?_; rintro e w2 ⟨rfl, hb⟩; replace HV := Lib.hid (HV.out.old hb); clear hb)
   | (refine wpList_store_row rfl 28 _ _ rfl (w2.heap.size) #[.int .i64 p, .int .i64 q] rfl rfl 28 _ (Row.new w2 28 [.int .i64 0, .int .i64 0]) ?_ ?_ ?_ ?_; (kernel_rfl); (rfl); (simp [Value.oneCell'])))
  go_meet
  exact ⟨_, rfl, rfl, Lib.hid (KpT.cons (HV.out.old (Below.setRow ((Below.refl _ _).alloc (Nat.le_refl _) _) (Nat.le_refl _) _)) ((Row.new w2 28 [.int .i64 0, .int .i64 0]).setRow [.int .i64 p, .int .i64 q]))⟩
 case rest =>
 clear HK
 obtain ⟨g10, rfl, rfl, HK⟩ := hcut
 go_upto_region 6 with fail
 go_cut [12] from 32 to 35 (fun s12 wx => s12 = .int .i64 E ∧ Hid (KpT w [(g10, 28, [.int .i64 p, .int .i64 q]), (g7, 54, [.int .i64 a, .int .i64 b, .int .i64 c, .int .i64 d, .int .i64 x, .int .i64 y, .int .i64 k, .int .i64 l, .int .i64 m, .int .i64 n, .int .i64 u, .int .i64 v]), ((w.heap.size + 1), 25, [.int .i64 k, .int .i64 l, .int .i64 m, .int .i64 n, .int .i64 u, .int .i64 v]), (w.heap.size, 25, [.int .i64 a, .int .i64 b, .int .i64 c, .int .i64 d, .int .i64 x, .int .i64 y])] [] wx))
 case first =>
  have HV := HK
  go_wp2_with (first
   | (refine wpList_load_row rfl 25 _ rfl w.heap.size rfl 25 #[.int .i64 a, .int .i64 b, .int .i64 c, .int .i64 d, .int .i64 x, .int .i64 y] (0, 0) _ (HV.out.row w.heap.size 25 [.int .i64 a, .int .i64 b, .int .i64 c, .int .i64 d, .int .i64 x, .int .i64 y] (.tail _ (.tail _ (.tail _ (.head _))))) Tryz.underlying25 rfl ?_ ?_; (kernel_rfl))
   | (refine wpList_load_row rfl 25 _ rfl (w.heap.size + 1) rfl 25 #[.int .i64 k, .int .i64 l, .int .i64 m, .int .i64 n, .int .i64 u, .int .i64 v] (0, 0) _ (HV.out.row (w.heap.size + 1) 25 [.int .i64 k, .int .i64 l, .int .i64 m, .int .i64 n, .int .i64 u, .int .i64 v] (.tail _ (.tail _ (.head _)))) Tryz.underlying25 rfl ?_ ?_; (kernel_rfl))
   | (go_at_call 33; refine (hT.out _).mono ?_; rintro e w2 ⟨rfl, hb⟩; replace HV := Lib.hid (HV.out.old hb); clear hb))
  go_meet
  exact ⟨rfl, HV⟩
 case rest =>
 clear HK
 obtain ⟨rfl, HK⟩ := hcut
 obtain ⟨W5, hW5⟩ : ∃ W5 : World, W5 = wc := ⟨_, rfl⟩
 subst hW5
 go_upto_if 38 with (refine wpList_store_row rfl 28 _ _ rfl (W5.heap.size) #[.int .i64 0, .int .i64 0] rfl rfl 28 _ (Row.new W5 28 [.int .i64 0, .int .i64 0]) ?_ ?_ ?_ ?_; (kernel_rfl); (rfl); (simp [Value.oneCell']))
 have hbn : Below W5.heap.size W5 ((W5.alloc (.cells #[.int .i64 0, .int .i64 0] 28)).setRow W5.heap.size #[.int .i64 0, .int .i64 0]) := Below.setRow ((Below.refl _ _).alloc (Nat.le_refl _) _) (Nat.le_refl _) _
 refine genT (fun V => Row V W5.heap.size 28 [.int .i64 0, .int .i64 0] ∧ Below W5.heap.size W5 V) ⟨(Row.new W5 28 [.int .i64 0, .int .i64 0]).setRow _, hbn⟩ ?_
 clear hbn
 intro W6 s6
 have H6 := Lib.hid s6
 clear s6
 have hlt3 : w.heap.size < W5.heap.size := ((HK.out.row w.heap.size 25 [.int .i64 a, .int .i64 b, .int .i64 c, .int .i64 d, .int .i64 x, .int .i64 y] (.tail _ (.tail _ (.tail _ (.head _)))))).lt
 have hlt4 : w.heap.size + 1 < W5.heap.size := ((HK.out.row (w.heap.size + 1) 25 [.int .i64 k, .int .i64 l, .int .i64 m, .int .i64 n, .int .i64 u, .int .i64 v] (.tail _ (.tail _ (.head _))))).lt
 go_cut [13] from 38 to 46 (fun s13 wx => s13 = .int .i64 K ∧ Row wx W5.heap.size 28 [.int .i64 p, .int .i64 q] ∧ Below W5.heap.size W5 wx)
 case first =>
  by_cases hE0 : E = 0
  · have hRCp := Lib.hid (hRC.out hE0); have hRMp := Lib.hid (hRM.out hE0)
    have hne : (E == 0) = true := by simpa using hE0
    have HS9 : Hid (Row W6 (w.heap.size) 25 [.int .i64 a, .int .i64 b, .int .i64 c, .int .i64 d, .int .i64 x, .int .i64 y] ∧ Row W6 ((w.heap.size + 1)) 25 [.int .i64 k, .int .i64 l, .int .i64 m, .int .i64 n, .int .i64 u, .int .i64 v] ∧ RowN W6 (W5.heap.size) 28 2 ∧ Below W5.heap.size W5 W6) := ⟨((HK.out.old H6.out.2).row w.heap.size 25 [.int .i64 a, .int .i64 b, .int .i64 c, .int .i64 d, .int .i64 x, .int .i64 y] (.tail _ (.tail _ (.tail _ (.head _))))), ((HK.out.old H6.out.2).row (w.heap.size + 1) 25 [.int .i64 k, .int .i64 l, .int .i64 m, .int .i64 n, .int .i64 u, .int .i64 v] (.tail _ (.tail _ (.head _)))), ⟨_, rfl, H6.out.1⟩, H6.out.2⟩
    clear hRC hRM hz hE0 hC hM hT hq
    go_upto_region 9 with fail
    refine wp_region_held_drew (S := fun V => Row V (w.heap.size) 25 [.int .i64 a, .int .i64 b, .int .i64 c, .int .i64 d, .int .i64 x, .int .i64 y] ∧ Row V ((w.heap.size + 1)) 25 [.int .i64 k, .int .i64 l, .int .i64 m, .int .i64 n, .int .i64 u, .int .i64 v] ∧ RowN V (W5.heap.size) 28 2 ∧ Below W5.heap.size W5 V) (by kernel_rfl) ?_ (fun hHeld => ?_)
    · exact ⟨(HS9.out.1).drew, (HS9.out.2.1).drew, (HS9.out.2.2.1).drew, (HS9.out.2.2.2).drew⟩
    refine tk 0 39 (.agg #[.int .i64 a, .int .i64 b, .int .i64 c, .int .i64 d, .int .i64 x, .int .i64 y]) rfl (by kernel_rfl) (fun _ _ _ h => h) (by kernel_rfl) (fun V hV => ex_rowT 25 _ rfl (w.heap.size) rfl 25 [.int .i64 a, .int .i64 b, .int .i64 c, .int .i64 d, .int .i64 x, .int .i64 y] _ Tryz.underlying25 rfl (by kernel_rfl) (hV.1)) hHeld ?_
    try simp only [zz]
    refine tk 1 40 (.agg #[.int .i64 k, .int .i64 l, .int .i64 m, .int .i64 n, .int .i64 u, .int .i64 v]) rfl (by kernel_rfl) (fun _ _ _ h => h) (by kernel_rfl) (fun V hV => ex_rowT 25 _ rfl ((w.heap.size + 1)) rfl 25 [.int .i64 k, .int .i64 l, .int .i64 m, .int .i64 n, .int .i64 u, .int .i64 v] _ Tryz.underlying25 rfl (by kernel_rfl) (hV.2.1)) hHeld ?_
    try simp only [zz]
    refine tk 2 41 ?_ rfl (by kernel_rfl) (fun _ _ _ h => h) (by kernel_rfl) ?_ hHeld ?_
    rotate_left
    · intro w1 hSw; (try dsimp only at hSw); go_simp <;> with_reducible rfl
    try simp only [zz]
    refine tk 4 43 (.agg #[.int .i64 a, .int .i64 b, .int .i64 c, .int .i64 d, .int .i64 x, .int .i64 y]) rfl (by kernel_rfl) (fun _ _ _ h => h) (by kernel_rfl) (fun V hV => ex_rowT 25 _ rfl (w.heap.size) rfl 25 [.int .i64 a, .int .i64 b, .int .i64 c, .int .i64 d, .int .i64 x, .int .i64 y] _ Tryz.underlying25 rfl (by kernel_rfl) (hV.1)) hHeld ?_
    try simp only [zz]
    refine tk 5 44 (.agg #[.int .i64 k, .int .i64 l, .int .i64 m, .int .i64 n, .int .i64 u, .int .i64 v]) rfl (by kernel_rfl) (fun _ _ _ h => h) (by kernel_rfl) (fun V hV => ex_rowT 25 _ rfl ((w.heap.size + 1)) rfl 25 [.int .i64 k, .int .i64 l, .int .i64 m, .int .i64 n, .int .i64 u, .int .i64 v] _ Tryz.underlying25 rfl (by kernel_rfl) (hV.2.1)) hHeld ?_
    try simp only [zz]
    refine tk 6 45 ?_ rfl (by kernel_rfl) (fun _ _ _ h => h) (by kernel_rfl) ?_ hHeld ?_
    rotate_left
    · intro w1 hSw; (try dsimp only at hSw); go_simp <;> with_reducible rfl
    try simp only [zz]
    refine st1 3 (by kernel_rfl) rfl (fun K hK => ?_)
    go_simp
    go_at_call 34
    refine (hRCp.out _).mono ?_
    rintro e v3 ⟨rfl, hb3⟩
    try go_simp
    refine hK.out _ _ ?_ (fun hHeld => ?_)
    · exact ⟨(hHeld.1).old hb3, (hHeld.2.1).old hb3, (hHeld.2.2.1).old hb3, (hHeld.2.2.2).trans ((hb3).mono (hHeld.2.2.2).size)⟩
    clear hK K
    try simp only [zz]
    refine st1 7 (by kernel_rfl) rfl (fun K hK => ?_)
    go_simp
    go_at_call 35
    refine (hRMp.out _).mono ?_
    rintro e v7 ⟨rfl, hb7⟩
    try go_simp
    refine hK.out _ _ ?_ (fun hHeld => ?_)
    · exact ⟨(hHeld.1).old hb7, (hHeld.2.1).old hb7, (hHeld.2.2.1).old hb7, (hHeld.2.2.2).trans ((hb7).mono (hHeld.2.2.2).size)⟩
    clear hK K
    try simp only [zz]
    refine tk 8 13 ?_ rfl (by kernel_rfl) (fun _ _ _ h => h) (by kernel_rfl) ?_ hHeld ?_
    rotate_left
    · intro w1 hSw; (try dsimp only at hSw); go_simp <;> with_reducible rfl
    try simp only [zz]
    refine st1 9 (by kernel_rfl) rfl (fun K hK => ?_)
    obtain ⟨vs, hvl, hvr⟩ := (hHeld.2.2.1)
    have hLast := hHeld
    refine step_store_row rfl 28 _ _ rfl (W5.heap.size) [.int .i64 p, .int .i64 q] rfl rfl 28 vs hvr (by kernel_rfl) hvl (by simp [Value.oneCell']) ?_
    refine hK.out _ _ ?_ (fun hHeld => ?_)
    · exact ⟨(hHeld.1).farRow (by omega) _, (hHeld.2.1).farRow (by omega) _, ⟨_, rfl, hvr.setRow _⟩, Below.setRow (hHeld.2.2.2) (by omega) _⟩
    clear hK K
    try simp only [zz]
    refine wpAnyH_done (by kernel_rfl) ?_ _
    go_wp2_with fail
    go_meet
    exact ⟨rfl, hvr.setRow [.int .i64 p, .int .i64 q], Below.setRow hLast.2.2.2 (by omega) _⟩
  · obtain ⟨rfl, rfl, rfl⟩ := hz.out hE0
    have hne : (E == 0) = false := by simpa using hE0
    clear hRC hRM hz hE0 hC hM hT hq
    go_wp2_with fail
    go_meet
    exact ⟨rfl, H6.out.1, H6.out.2⟩
 case rest =>
 obtain ⟨rfl, k1, hb⟩ := hcut
 have m1 := ((HK.out.old hb).row g10 28 [.int .i64 p, .int .i64 q] (.head _))
 have c0 := k1.cell 0; have c1 := k1.cell 1; have d0 := m1.cell 0; have d1 := m1.cell 1
 simp only [List.getElem?_cons_succ, List.getElem?_cons_zero] at c0 c1 d0 d1
 have HF := Lib.hid (HK.out.old hb).2.2.2
 clear k1 m1 hb H6 hRC hRM hz hC hM hT HK
 go_wp2_with fail
 go_ret
 exact ⟨by simp, HF.out⟩
theorem SigG.nd {a b c d x y : Int} (h : SigG a b c d x y) : (c * a + d * b - (x * a + y * b)).natAbs ≤ 400000000 := by
 have b1 : (c * a).natAbs ≤ 100000000 := by rw [Int.natAbs_mul]; exact Nat.mul_le_mul (n₂ := 10000) (m₂ := 10000) (by have := h.pc; omega) (by have := h.pa; omega)
 have b2 : (d * b).natAbs ≤ 100000000 := by rw [Int.natAbs_mul]; exact Nat.mul_le_mul (n₂ := 10000) (m₂ := 10000) (by have := h.pd; omega) (by have := h.pb; omega)
 have b3 : (x * a).natAbs ≤ 100000000 := by rw [Int.natAbs_mul]; exact Nat.mul_le_mul (n₂ := 10000) (m₂ := 10000) (by have := h.px; omega) (by have := h.pa; omega)
 have b4 : (y * b).natAbs ≤ 100000000 := by rw [Int.natAbs_mul]; exact Nat.mul_le_mul (n₂ := 10000) (m₂ := 10000) (by have := h.py; omega) (by have := h.pb; omega)
 omega
set_option maxRecDepth 100000 in
set_option maxHeartbeats 1000000 in
theorem toneCaptures_any (a b c d x y k l m n u v t : Int) (w : World) (hA : AwT w) : Calls Tryz.prog 5 #[.agg #[.int .i64 a, .int .i64 b, .int .i64 c, .int .i64 d, .int .i64 x, .int .i64 y], .agg #[.int .i64 k, .int .i64 l, .int .i64 m, .int .i64 n, .int .i64 u, .int .i64 v], .int .i64 t] w fun e w' => e = .returned (.bool true) ∧ Below w.heap.size w w' := by
 by_cases h0 : firstI [sigE a b c d x y, sigE k l m n u v, whenI (rangeB t 1000 10000) 3] = 0
 · obtain ⟨e1, e2, e3⟩ := fI3 h0
   have g1 := sig_good e1; have g2 := sig_good e2
   have e4 := whenZ (by decide) e3
   have ht : 0 ≤ t ∧ t ≤ 10000 := by
    unfold rangeB at e4
    simp only [Bool.or_eq_false_iff, decide_eq_false_iff_not] at e4
    omega
   have s1 := g1.sq; have s2 := g2.sq; have p1 := g1.pos; have p2 := g2.pos; have n1 := g1.nd; have n2 := g2.nd
   have hc3 : capI (a * a + b * b) (k * k + l * l) t = 0 ∨ capI (a * a + b * b) (k * k + l * l) t = 1 ∨ capI (a * a + b * b) (k * k + l * l) t = 2 := by unfold capI; split; exact .inl rfl; split; exact .inr (.inl rfl); exact .inr (.inr rfl)
   rcases hc3 with hc | hc | hc
   · have hM : ∀ W, Calls Tryz.prog 32 #[.agg #[.int .i64 a, .int .i64 b, .int .i64 c, .int .i64 d, .int .i64 x, .int .i64 y, .int .i64 k, .int .i64 l, .int .i64 m, .int .i64 n, .int .i64 u, .int .i64 v], .int .i64 t] W fun e w' => e = .returned (.tuple #[.agg #[.int .i64 ((c * a + d * b - (x * a + y * b)).tdiv (gcdI (c * a + d * b - (x * a + y * b)) (a * a + b * b))), .int .i64 ((a * a + b * b) / gcdI (c * a + d * b - (x * a + y * b)) (a * a + b * b))], .int .i64 0]) ∧ Below W.heap.size W w' := fun W => mixedT_k0 a b c d x y k l m n u v t W h0 _ _ (fun W => by have h := captured_any a b c d x y k l m n u v t (a * a + b * b) (k * k + l * l) W g1.g1 g2.g1 rfl rfl (by omega) (by omega) ht; rw [hc] at h; exact h) _ _ (fun W => needle_any a b c d x y W g1.g1 g1.g2 g1.g3) (fun W => ratioQ_any (c * a + d * b - (x * a + y * b)) (a * a + b * b) W (by unfold Bd; omega) (by omega))
     have hR : ∀ W, Calls Tryz.prog 35 #[.agg #[.int .i64 a, .int .i64 b, .int .i64 c, .int .i64 d, .int .i64 x, .int .i64 y], .agg #[.int .i64 k, .int .i64 l, .int .i64 m, .int .i64 n, .int .i64 u, .int .i64 v], .int .i64 t] W fun e w' => e = .returned (.agg #[.int .i64 ((c * a + d * b - (x * a + y * b)).tdiv (gcdI (c * a + d * b - (x * a + y * b)) (a * a + b * b))), .int .i64 ((a * a + b * b) / gcdI (c * a + d * b - (x * a + y * b)) (a * a + b * b))]) ∧ Below W.heap.size W w' := fun W => mixedR_k0 a b c d x y k l m n u v t _ _ W (fun W => by have h := capturedR_any a b c d x y k l m n u v t (a * a + b * b) (k * k + l * l) W g1.g1 g2.g1 rfl rfl (by omega) (by omega) ht; rw [hc] at h; exact h) (fun W => needleR_any a b c d x y W g1)
     exact captures_law a b c d x y k l m n u v t 0 0 _ _ w hA (fun W => by have h := capturedT_ok a b c d x y k l m n u v t W h0; rw [hc] at h; exact h) hM (fun W => by have h := checkTwoR_any a b c d x y k l m n u v t W; rw [h0] at h; exact h) (fun _ => (fun W => by have h := capturedR_any a b c d x y k l m n u v t (a * a + b * b) (k * k + l * l) W g1.g1 g2.g1 rfl rfl (by omega) (by omega) ht; rw [hc] at h; exact h)) (fun _ => hR) (fun h => absurd rfl h)
   · have hM : ∀ W, Calls Tryz.prog 32 #[.agg #[.int .i64 a, .int .i64 b, .int .i64 c, .int .i64 d, .int .i64 x, .int .i64 y, .int .i64 k, .int .i64 l, .int .i64 m, .int .i64 n, .int .i64 u, .int .i64 v], .int .i64 t] W fun e w' => e = .returned (.tuple #[.agg #[.int .i64 ((m * k + n * l - (u * k + v * l)).tdiv (gcdI (m * k + n * l - (u * k + v * l)) (k * k + l * l))), .int .i64 ((k * k + l * l) / gcdI (m * k + n * l - (u * k + v * l)) (k * k + l * l))], .int .i64 0]) ∧ Below W.heap.size W w' := fun W => mixedT_k1 a b c d x y k l m n u v t W h0 _ _ (fun W => by have h := captured_any a b c d x y k l m n u v t (a * a + b * b) (k * k + l * l) W g1.g1 g2.g1 rfl rfl (by omega) (by omega) ht; rw [hc] at h; exact h) _ _ (fun W => needle_any k l m n u v W g2.g1 g2.g2 g2.g3) (fun W => ratioQ_any (m * k + n * l - (u * k + v * l)) (k * k + l * l) W (by unfold Bd; omega) (by omega))
     have hR : ∀ W, Calls Tryz.prog 35 #[.agg #[.int .i64 a, .int .i64 b, .int .i64 c, .int .i64 d, .int .i64 x, .int .i64 y], .agg #[.int .i64 k, .int .i64 l, .int .i64 m, .int .i64 n, .int .i64 u, .int .i64 v], .int .i64 t] W fun e w' => e = .returned (.agg #[.int .i64 ((m * k + n * l - (u * k + v * l)).tdiv (gcdI (m * k + n * l - (u * k + v * l)) (k * k + l * l))), .int .i64 ((k * k + l * l) / gcdI (m * k + n * l - (u * k + v * l)) (k * k + l * l))]) ∧ Below W.heap.size W w' := fun W => mixedR_k1 a b c d x y k l m n u v t _ _ W (fun W => by have h := capturedR_any a b c d x y k l m n u v t (a * a + b * b) (k * k + l * l) W g1.g1 g2.g1 rfl rfl (by omega) (by omega) ht; rw [hc] at h; exact h) (fun W => needleR_any k l m n u v W g2)
     exact captures_law a b c d x y k l m n u v t 1 0 _ _ w hA (fun W => by have h := capturedT_ok a b c d x y k l m n u v t W h0; rw [hc] at h; exact h) hM (fun W => by have h := checkTwoR_any a b c d x y k l m n u v t W; rw [h0] at h; exact h) (fun _ => (fun W => by have h := capturedR_any a b c d x y k l m n u v t (a * a + b * b) (k * k + l * l) W g1.g1 g2.g1 rfl rfl (by omega) (by omega) ht; rw [hc] at h; exact h)) (fun _ => hR) (fun h => absurd rfl h)
   · have hM : ∀ W, Calls Tryz.prog 32 #[.agg #[.int .i64 a, .int .i64 b, .int .i64 c, .int .i64 d, .int .i64 x, .int .i64 y, .int .i64 k, .int .i64 l, .int .i64 m, .int .i64 n, .int .i64 u, .int .i64 v], .int .i64 t] W fun e w' => e = .returned (.tuple #[.agg #[.int .i64 (((c * a + d * b - (x * a + y * b)) + (m * k + n * l - (u * k + v * l))).tdiv (gcdI ((c * a + d * b - (x * a + y * b)) + (m * k + n * l - (u * k + v * l))) ((a * a + b * b) + (k * k + l * l)))), .int .i64 (((a * a + b * b) + (k * k + l * l)) / gcdI ((c * a + d * b - (x * a + y * b)) + (m * k + n * l - (u * k + v * l))) ((a * a + b * b) + (k * k + l * l)))], .int .i64 0]) ∧ Below W.heap.size W w' := fun W => mixedT_k2 a b c d x y k l m n u v t W h0 _ _ (fun W => by have h := captured_any a b c d x y k l m n u v t (a * a + b * b) (k * k + l * l) W g1.g1 g2.g1 rfl rfl (by omega) (by omega) ht; rw [hc] at h; exact h) _ _ _ _ (by omega) (by omega) (by omega) (by omega) (fun W => needle_any a b c d x y W g1.g1 g1.g2 g1.g3) (fun W => needle_any k l m n u v W g2.g1 g2.g2 g2.g3) (fun W => ratioQ_any ((c * a + d * b - (x * a + y * b)) + (m * k + n * l - (u * k + v * l))) ((a * a + b * b) + (k * k + l * l)) W (by unfold Bd; omega) (by omega))
     have hR : ∀ W, Calls Tryz.prog 35 #[.agg #[.int .i64 a, .int .i64 b, .int .i64 c, .int .i64 d, .int .i64 x, .int .i64 y], .agg #[.int .i64 k, .int .i64 l, .int .i64 m, .int .i64 n, .int .i64 u, .int .i64 v], .int .i64 t] W fun e w' => e = .returned (.agg #[.int .i64 (((c * a + d * b - (x * a + y * b)) + (m * k + n * l - (u * k + v * l))).tdiv (gcdI ((c * a + d * b - (x * a + y * b)) + (m * k + n * l - (u * k + v * l))) ((a * a + b * b) + (k * k + l * l)))), .int .i64 (((a * a + b * b) + (k * k + l * l)) / gcdI ((c * a + d * b - (x * a + y * b)) + (m * k + n * l - (u * k + v * l))) ((a * a + b * b) + (k * k + l * l)))]) ∧ Below W.heap.size W w' := fun W => mixedR_k2 a b c d x y k l m n u v t _ _ _ _ _ _ W (fun W => by have h := capturedR_any a b c d x y k l m n u v t (a * a + b * b) (k * k + l * l) W g1.g1 g2.g1 rfl rfl (by omega) (by omega) ht; rw [hc] at h; exact h) (fun W => differenceR_any a b c d x y W g1.g1 g1.g2 g1.g3) (fun W => differenceR_any k l m n u v W g2.g1 g2.g2 g2.g3) (fun W => squareR_any a b c d x y W g1.g1) (fun W => squareR_any k l m n u v W g2.g1) (fun W => lowest_any ((c * a + d * b - (x * a + y * b)) + (m * k + n * l - (u * k + v * l))) ((a * a + b * b) + (k * k + l * l)) W (by unfold Bd; omega) (by omega)) (by omega) (by omega) (by omega) (by omega)
     exact captures_law a b c d x y k l m n u v t 2 0 _ _ w hA (fun W => by have h := capturedT_ok a b c d x y k l m n u v t W h0; rw [hc] at h; exact h) hM (fun W => by have h := checkTwoR_any a b c d x y k l m n u v t W; rw [h0] at h; exact h) (fun _ => (fun W => by have h := capturedR_any a b c d x y k l m n u v t (a * a + b * b) (k * k + l * l) W g1.g1 g2.g1 rfl rfl (by omega) (by omega) ht; rw [hc] at h; exact h)) (fun _ => hR) (fun h => absurd rfl h)
 · exact captures_law a b c d x y k l m n u v t 0 (firstI [sigE a b c d x y, sigE k l m n u v, whenI (rangeB t 1000 10000) 3]) 0 0 w hA (fun W => capturedT_bad a b c d x y k l m n u v t _ W rfl h0) (fun W => mixedT_bad a b c d x y k l m n u v t _ W rfl h0) (fun W => checkTwoR_any a b c d x y k l m n u v t W) (fun h => absurd h h0) (fun h => absurd h h0) (fun _ => ⟨rfl, rfl, rfl⟩)
end Go.Proofs.YtcaekblnioidiaaGreatDoor
