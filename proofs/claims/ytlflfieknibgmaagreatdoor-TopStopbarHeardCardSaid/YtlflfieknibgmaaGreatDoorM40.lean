import Derived.Test.YtlflfieknibgmaaGreatDoorM39
namespace Go.Proofs.YtlflfieknibgmaaGreatDoor
set_option linter.all false
open Go.RowKit Go.Fl
set_option maxRecDepth 100000 in
set_option maxHeartbeats 1000000 in
theorem plusR_any (a b c d : Int) (w : World) (h : Gs a b) (k : Gs c d) : Calls Tryz.prog 14 #[.agg #[.int .i64 a, .int .i64 b], .agg #[.int .i64 c, .int .i64 d]] w fun e w' => e = .returned (.agg #[.int .i64 (a + c), .int .i64 (b + d)]) ∧ Below w.heap.size w w' := by
  obtain ⟨b1, b2⟩ := h
  obtain ⟨b3, b4⟩ := k
  have e1 : IntKind.i64.wrap (a + c) = a + c := IntWalk.i64_in _ (by omega)
  have e2 : IntKind.i64.wrap (b + d) = b + d := IntWalk.i64_in _ (by omega)
  clear b1 b2 b3 b4
  go_enter Tryz.func14, Tryz.ntmps14
  go_upto_region 1 with fail
  refine genT (fun V => Row V (w.heap.size) 25 [.int .i64 a, .int .i64 b] ∧ Row V (w.heap.size + 1) 25 [.int .i64 c, .int .i64 d] ∧ Row V (w.heap.size + 1 + 1) 25 [.int .i64 0, .int .i64 0] ∧ Below w.heap.size w V) ⟨(Row.alloc (Row.alloc (rowAt _ _ (by first | rfl | simp only [World.size_alloc])) _) _), (Row.alloc (rowAt _ _ (by first | rfl | simp only [World.size_alloc])) _), (rowAt _ _ (by first | rfl | simp only [World.size_alloc])), ((((Below.refl _ _).alloc (by first | exact Nat.le_refl _ | (simp only [World.size_alloc]; omega)) _).alloc (by first | exact Nat.le_refl _ | (simp only [World.size_alloc]; omega)) _).alloc (by first | exact Nat.le_refl _ | (simp only [World.size_alloc]; omega)) _)⟩ ?_
  intro W1 s1
  have HS1 := Lib.hid s1
  clear s1
  have c0 := HS1.out.1.cell 0; have c1 := HS1.out.1.cell 1; have d0 := HS1.out.2.1.cell 0; have d1 := HS1.out.2.1.cell 1
  simp only [List.getElem?_cons_succ, List.getElem?_cons_zero] at c0 c1 d0 d1
  go_wp2_with (refine wpList_store_row rfl 25 _ _ rfl (w.heap.size + 1 + 1) #[.int .i64 (a + c), .int .i64 (b + d)] rfl rfl 25 _ HS1.out.2.2.1 ?_ ?_ ?_ ?_; (kernel_rfl); (rfl); (simp [Value.oneCell']))
  refine bodyPost_ret (results_rowA rfl _ _ (w.heap.size + 1 + 1) 25 #[.int .i64 (a + c), .int .i64 (b + d)] (0, 0) _ rfl (HS1.out.2.2.1.setRow [.int .i64 (a + c), .int .i64 (b + d)]) Tryz.underlying25 rfl (by kernel_rfl)) rfl ⟨rfl, Below.setRow HS1.out.2.2.2 (by omega) _⟩
end Go.Proofs.YtlflfieknibgmaaGreatDoor
