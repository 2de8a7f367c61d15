import Derived.Test.YtgbkblbfgknheaaGreatDoorM41
namespace Go.Proofs.YtgbkblbfgknheaaGreatDoor
set_option linter.all false
open Go.RowKit Go.Fl
def inB (m p : Int) : Bool := !(decide (p < -m)) && !(decide (m < p))
def nearB (m a b c d x y : Int) : Bool := decide (sigE a b c d x y = 0) && (inB m a && inB m b) && (inB m c && inB m d) && (inB m x && inB m y)
set_option maxRecDepth 100000 in
set_option maxHeartbeats 4000000 in
theorem near_any (a b c d x y m : Int) (w : World) (hm : 0 ≤ m ∧ m ≤ 1000000) : Calls Tryz.prog 17 #[.agg #[.int .i64 a, .int .i64 b, .int .i64 c, .int .i64 d, .int .i64 x, .int .i64 y], .int .i64 m] w fun e w' => e = .returned (.bool (nearB m a b c d x y)) ∧ Below w.heap.size w w' := by
 obtain ⟨E, hE⟩ : ∃ E, E = sigE a b c d x y := ⟨_, rfl⟩
 have HC : Hid (∀ W, Calls Tryz.prog 26 #[.agg #[.int .i64 a, .int .i64 b, .int .i64 c, .int .i64 d, .int .i64 x, .int .i64 y]] W fun e w' => e = .returned (.int .i64 E) ∧ Below W.heap.size W w') := fun W => by rw [hE]; exact checkSignalR_any a b c d x y W
 have e1 : IntKind.i64.wrap (-m) = -m := IntWalk.i64_in _ (by omega)
 have hN : nearB m a b c d x y = (decide (E = 0) && (inB m a && inB m b) && (inB m c && inB m d) && (inB m x && inB m y)) := by unfold nearB; rw [← hE]
 rw [hN]
 clear hE hN hm
 by_cases h0 : E = 0
 · subst h0
   go_enter Tryz.func17, Tryz.ntmps17
   go_upto_region 1 with fail
   refine genT (fun V => Row V (w.heap.size) 42 [.int .i64 a, .int .i64 b, .int .i64 c, .int .i64 d, .int .i64 x, .int .i64 y] ∧ Below w.heap.size w V) ⟨(rowAt _ _ (by first | rfl | simp only [World.size_alloc])), ((Below.refl _ _).alloc (by first | exact Nat.le_refl _ | (simp only [World.size_alloc]; omega)) _)⟩ ?_
   intro W1 s1
   have HS1 := Lib.hid s1
   clear s1
   have c0 := HS1.out.1.cell 0; have c1 := HS1.out.1.cell 1; have c2 := HS1.out.1.cell 2; have c3 := HS1.out.1.cell 3; have c4 := HS1.out.1.cell 4; have c5 := HS1.out.1.cell 5
   go_upto_region 3 with (first | (refine wpList_load_row rfl 42 _ rfl (w.heap.size) rfl 42 #[.int .i64 a, .int .i64 b, .int .i64 c, .int .i64 d, .int .i64 x, .int .i64 y] (0, 0) _ HS1.out.1 Tryz.underlying42 rfl ?_ ?_; (kernel_rfl)) | (go_at_call 26; refine (HC.out _).mono ?_; rintro e w2 ⟨rfl, hb_w2⟩; have HS2 : Hid (Row w2 (w.heap.size) 42 [.int .i64 a, .int .i64 b, .int .i64 c, .int .i64 d, .int .i64 x, .int .i64 y] ∧ Below w.heap.size w w2) := ⟨(HS1.out.1).old hb_w2, (HS1.out.2).trans (hb_w2.mono (HS1.out.2).size)⟩; clear hb_w2))
   clear c0 c1 c2 c3 c4 c5
   have c0 := HS2.out.1.cell 0; have c1 := HS2.out.1.cell 1; have c2 := HS2.out.1.cell 2; have c3 := HS2.out.1.cell 3; have c4 := HS2.out.1.cell 4; have c5 := HS2.out.1.cell 5
   simp only [List.getElem?_cons_succ, List.getElem?_cons_zero] at c0 c1 c2 c3 c4 c5
   go_upto_region 4 with fail
   obtain ⟨gs, hgs⟩ : ∃ gs, gs = w2.heap.size := ⟨_, rfl⟩
   have hlt : w.heap.size < gs := by rw [hgs]; exact HS2.out.1.lt
   refine genT (fun V => Row V w.heap.size 42 [.int .i64 a, .int .i64 b, .int .i64 c, .int .i64 d, .int .i64 x, .int .i64 y] ∧ Row V gs 40 [.int .i64 a, .int .i64 b, .int .i64 c, .int .i64 d, .int .i64 x, .int .i64 y] ∧ Below w.heap.size w V) ⟨HS2.out.1.alloc _, rowAt _ _ hgs.symm, HS2.out.2.alloc HS2.out.2.size _⟩ ?_
   rw [← hgs]
   clear c0 c1 c2 c3 c4 c5 HS1 hgs HC
   intro W3 s3
   have HS := Lib.hid s3
   clear s3 HS2
   go_loopg [18] 3 (fun gg s18 wx => (gg = 3 ∧ s18 = .int .i64 0 ∧ Hid (Row wx w.heap.size 42 [.int .i64 a, .int .i64 b, .int .i64 c, .int .i64 d, .int .i64 x, .int .i64 y] ∧ Row wx gs 40 [.int .i64 a, .int .i64 b, .int .i64 c, .int .i64 d, .int .i64 x, .int .i64 y] ∧ Below w.heap.size w wx)) ∨ (gg = 2 ∧ s18 = .int .i64 1 ∧ (inB m a && inB m b) = true ∧ Hid (Row wx w.heap.size 42 [.int .i64 a, .int .i64 b, .int .i64 c, .int .i64 d, .int .i64 x, .int .i64 y] ∧ Row wx gs 40 [.int .i64 a, .int .i64 b, .int .i64 c, .int .i64 d, .int .i64 x, .int .i64 y] ∧ Below w.heap.size w wx)) ∨ (gg = 1 ∧ s18 = .int .i64 2 ∧ (inB m a && inB m b) = true ∧ (inB m c && inB m d) = true ∧ Hid (Row wx w.heap.size 42 [.int .i64 a, .int .i64 b, .int .i64 c, .int .i64 d, .int .i64 x, .int .i64 y] ∧ Row wx gs 40 [.int .i64 a, .int .i64 b, .int .i64 c, .int .i64 d, .int .i64 x, .int .i64 y] ∧ Below w.heap.size w wx)) ∨ (gg = 0 ∧ s18 = .int .i64 3 ∧ (inB m a && inB m b) = true ∧ (inB m c && inB m d) = true ∧ (inB m x && inB m y) = true ∧ Hid (Row wx w.heap.size 42 [.int .i64 a, .int .i64 b, .int .i64 c, .int .i64 d, .int .i64 x, .int .i64 y] ∧ Row wx gs 40 [.int .i64 a, .int .i64 b, .int .i64 c, .int .i64 d, .int .i64 x, .int .i64 y] ∧ Below w.heap.size w wx)))
   case atStart => exact .inl ⟨rfl, rfl, HS⟩
   case round =>
    clear HS
    obtain ⟨rfl, rfl, HS⟩ | ⟨rfl, rfl, q0, HS⟩ | ⟨rfl, rfl, q0, q1, HS⟩ | ⟨rfl, rfl, q0, q1, q2, HS⟩ := hrel
    · have d0 := HS.out.2.1.cell 0; have d1 := HS.out.2.1.cell 1
      simp only [List.getElem?_cons_succ, List.getElem?_cons_zero] at d0 d1
      have hg2 : gs < wr.heap.size := HS.out.2.1.lt
      have hbn : Below wr.heap.size wr ((wr.alloc (.cells #[.int .i64 0, .int .i64 0] 40)).setRow wr.heap.size #[.int .i64 a, .int .i64 b]) := Below.setRow ((Below.refl _ _).alloc (Nat.le_refl _) _) (Nat.le_refl _) _
      go_upto_region 6 with (refine wpList_store_row rfl 40 _ _ rfl (wr.heap.size) #[.int .i64 a, .int .i64 b] rfl rfl 40 _ (Row.new wr 40 [.int .i64 0, .int .i64 0]) ?_ ?_ ?_ ?_; (kernel_rfl); (rfl); (simp [Value.oneCell']))
      refine genT (fun V => Row V wr.heap.size 40 [.int .i64 a, .int .i64 b] ∧ Row V w.heap.size 42 [.int .i64 a, .int .i64 b, .int .i64 c, .int .i64 d, .int .i64 x, .int .i64 y] ∧ Row V gs 40 [.int .i64 a, .int .i64 b, .int .i64 c, .int .i64 d, .int .i64 x, .int .i64 y] ∧ Below w.heap.size w V) ⟨(Row.new wr 40 [.int .i64 0, .int .i64 0]).setRow _, HS.out.1.old hbn, HS.out.2.1.old hbn, HS.out.2.2.trans (hbn.mono HS.out.2.2.size)⟩ ?_
      clear d0 d1 hbn
      intro W6 s6
      have HK := Lib.hid s6.2
      have d0 := s6.1.cell 0; have d1 := s6.1.cell 1
      simp only [List.getElem?_cons_succ, List.getElem?_cons_zero] at d0 d1
      have HF := Lib.hid HK.out.2.2
      clear s6 HS
      by_cases g1 : a < -m
      · have fa : decide (a < -m) = true := decide_eq_true g1
        clear HK g1
        have hbad : inB m a = false := by unfold inB; simp only [fa]; rfl
        have HZ : Hid (((inB m a && inB m b) && (inB m c && inB m d) && (inB m x && inB m y)) = false) := Lib.hid (by simp [hbad])
        clear hbad
        go_wp2_with fail
        go_ret
        exact ⟨by have h := HZ.out; first | (rw [h]; rfl) | simp [h], HF.out⟩
      · have f1 : decide (a < -m) = false := decide_eq_false g1
        by_cases g2 : m < a
        · have fa : decide (m < a) = true := decide_eq_true g2
          clear HK g1 g2
          have hbad : inB m a = false := by unfold inB; simp only [f1, fa]; rfl
          have HZ : Hid (((inB m a && inB m b) && (inB m c && inB m d) && (inB m x && inB m y)) = false) := Lib.hid (by simp [hbad])
          clear hbad
          go_wp2_with fail
          go_ret
          exact ⟨by have h := HZ.out; first | (rw [h]; rfl) | simp [h], HF.out⟩
        · have f2 : decide (m < a) = false := decide_eq_false g2
          by_cases g3 : b < -m
          · have fb : decide (b < -m) = true := decide_eq_true g3
            clear HK g1 g2 g3
            have hbad : inB m b = false := by unfold inB; simp only [fb]; rfl
            have HZ : Hid (((inB m a && inB m b) && (inB m c && inB m d) && (inB m x && inB m y)) = false) := Lib.hid (by simp [hbad])
            clear hbad
            go_wp2_with fail
            go_ret
            exact ⟨by have h := HZ.out; first | (rw [h]; rfl) | simp [h], HF.out⟩
          · have f3 : decide (b < -m) = false := decide_eq_false g3
            by_cases g4 : m < b
            · have fb : decide (m < b) = true := decide_eq_true g4
              clear HK g1 g2 g3 g4
              have hbad : inB m b = false := by unfold inB; simp only [f3, fb]; rfl
              have HZ : Hid (((inB m a && inB m b) && (inB m c && inB m d) && (inB m x && inB m y)) = false) := Lib.hid (by simp [hbad])
              clear hbad
              go_wp2_with fail
              go_ret
              exact ⟨by have h := HZ.out; first | (rw [h]; rfl) | simp [h], HF.out⟩
            · have f4 : decide (m < b) = false := decide_eq_false g4
              have hq : (inB m a && inB m b) = true := by unfold inB; simp only [f1, f2, f3, f4]; rfl
              clear g1 g2 g3 g4 HF
              have HQN := Lib.hid hq
              clear hq
              go_wp2_with fail
              go_roundg 2
              case measure => omega
              case rel => exact .inr (.inl ⟨rfl, rfl, HQN.out, HK⟩)
    · have d0 := HS.out.2.1.cell 2; have d1 := HS.out.2.1.cell 3
      simp only [List.getElem?_cons_succ, List.getElem?_cons_zero] at d0 d1
      have hg2 : gs < wr.heap.size := HS.out.2.1.lt
      have hbn : Below wr.heap.size wr ((wr.alloc (.cells #[.int .i64 0, .int .i64 0] 40)).setRow wr.heap.size #[.int .i64 c, .int .i64 d]) := Below.setRow ((Below.refl _ _).alloc (Nat.le_refl _) _) (Nat.le_refl _) _
      have HQ0 := Lib.hid q0
      clear q0
      go_upto_region 6 with (refine wpList_store_row rfl 40 _ _ rfl (wr.heap.size) #[.int .i64 c, .int .i64 d] rfl rfl 40 _ (Row.new wr 40 [.int .i64 0, .int .i64 0]) ?_ ?_ ?_ ?_; (kernel_rfl); (rfl); (simp [Value.oneCell']))
      refine genT (fun V => Row V wr.heap.size 40 [.int .i64 c, .int .i64 d] ∧ Row V w.heap.size 42 [.int .i64 a, .int .i64 b, .int .i64 c, .int .i64 d, .int .i64 x, .int .i64 y] ∧ Row V gs 40 [.int .i64 a, .int .i64 b, .int .i64 c, .int .i64 d, .int .i64 x, .int .i64 y] ∧ Below w.heap.size w V) ⟨(Row.new wr 40 [.int .i64 0, .int .i64 0]).setRow _, HS.out.1.old hbn, HS.out.2.1.old hbn, HS.out.2.2.trans (hbn.mono HS.out.2.2.size)⟩ ?_
      clear d0 d1 hbn
      intro W6 s6
      have HK := Lib.hid s6.2
      have d0 := s6.1.cell 0; have d1 := s6.1.cell 1
      simp only [List.getElem?_cons_succ, List.getElem?_cons_zero] at d0 d1
      have HF := Lib.hid HK.out.2.2
      clear s6 HS
      by_cases g1 : c < -m
      · have fc : decide (c < -m) = true := decide_eq_true g1
        clear HK g1
        have hbad : inB m c = false := by unfold inB; simp only [fc]; rfl
        have HZ : Hid (((inB m a && inB m b) && (inB m c && inB m d) && (inB m x && inB m y)) = false) := Lib.hid (by simp [hbad])
        clear hbad
        go_wp2_with fail
        go_ret
        exact ⟨by have h := HZ.out; first | (rw [h]; rfl) | simp [h], HF.out⟩
      · have f1 : decide (c < -m) = false := decide_eq_false g1
        by_cases g2 : m < c
        · have fc : decide (m < c) = true := decide_eq_true g2
          clear HK g1 g2
          have hbad : inB m c = false := by unfold inB; simp only [f1, fc]; rfl
          have HZ : Hid (((inB m a && inB m b) && (inB m c && inB m d) && (inB m x && inB m y)) = false) := Lib.hid (by simp [hbad])
          clear hbad
          go_wp2_with fail
          go_ret
          exact ⟨by have h := HZ.out; first | (rw [h]; rfl) | simp [h], HF.out⟩
        · have f2 : decide (m < c) = false := decide_eq_false g2
          by_cases g3 : d < -m
          · have fd : decide (d < -m) = true := decide_eq_true g3
            clear HK g1 g2 g3
            have hbad : inB m d = false := by unfold inB; simp only [fd]; rfl
            have HZ : Hid (((inB m a && inB m b) && (inB m c && inB m d) && (inB m x && inB m y)) = false) := Lib.hid (by simp [hbad])
            clear hbad
            go_wp2_with fail
            go_ret
            exact ⟨by have h := HZ.out; first | (rw [h]; rfl) | simp [h], HF.out⟩
          · have f3 : decide (d < -m) = false := decide_eq_false g3
            by_cases g4 : m < d
            · have fd : decide (m < d) = true := decide_eq_true g4
              clear HK g1 g2 g3 g4
              have hbad : inB m d = false := by unfold inB; simp only [f3, fd]; rfl
              have HZ : Hid (((inB m a && inB m b) && (inB m c && inB m d) && (inB m x && inB m y)) = false) := Lib.hid (by simp [hbad])
              clear hbad
              go_wp2_with fail
              go_ret
              exact ⟨by have h := HZ.out; first | (rw [h]; rfl) | simp [h], HF.out⟩
            · have f4 : decide (m < d) = false := decide_eq_false g4
              have hq : (inB m c && inB m d) = true := by unfold inB; simp only [f1, f2, f3, f4]; rfl
              clear g1 g2 g3 g4 HF
              have HQN := Lib.hid hq
              clear hq
              go_wp2_with fail
              go_roundg 1
              case measure => omega
              case rel => exact .inr (.inr (.inl ⟨rfl, rfl, HQ0.out, HQN.out, HK⟩))
    · have d0 := HS.out.2.1.cell 4; have d1 := HS.out.2.1.cell 5
      simp only [List.getElem?_cons_succ, List.getElem?_cons_zero] at d0 d1
      have hg2 : gs < wr.heap.size := HS.out.2.1.lt
      have hbn : Below wr.heap.size wr ((wr.alloc (.cells #[.int .i64 0, .int .i64 0] 40)).setRow wr.heap.size #[.int .i64 x, .int .i64 y]) := Below.setRow ((Below.refl _ _).alloc (Nat.le_refl _) _) (Nat.le_refl _) _
      have HQ0 := Lib.hid q0
      have HQ1 := Lib.hid q1
      clear q0 q1
      go_upto_region 6 with (refine wpList_store_row rfl 40 _ _ rfl (wr.heap.size) #[.int .i64 x, .int .i64 y] rfl rfl 40 _ (Row.new wr 40 [.int .i64 0, .int .i64 0]) ?_ ?_ ?_ ?_; (kernel_rfl); (rfl); (simp [Value.oneCell']))
      refine genT (fun V => Row V wr.heap.size 40 [.int .i64 x, .int .i64 y] ∧ Row V w.heap.size 42 [.int .i64 a, .int .i64 b, .int .i64 c, .int .i64 d, .int .i64 x, .int .i64 y] ∧ Row V gs 40 [.int .i64 a, .int .i64 b, .int .i64 c, .int .i64 d, .int .i64 x, .int .i64 y] ∧ Below w.heap.size w V) ⟨(Row.new wr 40 [.int .i64 0, .int .i64 0]).setRow _, HS.out.1.old hbn, HS.out.2.1.old hbn, HS.out.2.2.trans (hbn.mono HS.out.2.2.size)⟩ ?_
      clear d0 d1 hbn
      intro W6 s6
      have HK := Lib.hid s6.2
      have d0 := s6.1.cell 0; have d1 := s6.1.cell 1
      simp only [List.getElem?_cons_succ, List.getElem?_cons_zero] at d0 d1
      have HF := Lib.hid HK.out.2.2
      clear s6 HS
      by_cases g1 : x < -m
      · have fx : decide (x < -m) = true := decide_eq_true g1
        clear HK g1
        have hbad : inB m x = false := by unfold inB; simp only [fx]; rfl
        have HZ : Hid (((inB m a && inB m b) && (inB m c && inB m d) && (inB m x && inB m y)) = false) := Lib.hid (by simp [hbad])
        clear hbad
        go_wp2_with fail
        go_ret
        exact ⟨by have h := HZ.out; first | (rw [h]; rfl) | simp [h], HF.out⟩
      · have f1 : decide (x < -m) = false := decide_eq_false g1
        by_cases g2 : m < x
        · have fx : decide (m < x) = true := decide_eq_true g2
          clear HK g1 g2
          have hbad : inB m x = false := by unfold inB; simp only [f1, fx]; rfl
          have HZ : Hid (((inB m a && inB m b) && (inB m c && inB m d) && (inB m x && inB m y)) = false) := Lib.hid (by simp [hbad])
          clear hbad
          go_wp2_with fail
          go_ret
          exact ⟨by have h := HZ.out; first | (rw [h]; rfl) | simp [h], HF.out⟩
        · have f2 : decide (m < x) = false := decide_eq_false g2
          by_cases g3 : y < -m
          · have fy : decide (y < -m) = true := decide_eq_true g3
            clear HK g1 g2 g3
            have hbad : inB m y = false := by unfold inB; simp only [fy]; rfl
            have HZ : Hid (((inB m a && inB m b) && (inB m c && inB m d) && (inB m x && inB m y)) = false) := Lib.hid (by simp [hbad])
            clear hbad
            go_wp2_with fail
            go_ret
            exact ⟨by have h := HZ.out; first | (rw [h]; rfl) | simp [h], HF.out⟩
          · have f3 : decide (y < -m) = false := decide_eq_false g3
            by_cases g4 : m < y
            · have fy : decide (m < y) = true := decide_eq_true g4
              clear HK g1 g2 g3 g4
              have hbad : inB m y = false := by unfold inB; simp only [f3, fy]; rfl
              have HZ : Hid (((inB m a && inB m b) && (inB m c && inB m d) && (inB m x && inB m y)) = false) := Lib.hid (by simp [hbad])
              clear hbad
              go_wp2_with fail
              go_ret
              exact ⟨by have h := HZ.out; first | (rw [h]; rfl) | simp [h], HF.out⟩
            · have f4 : decide (m < y) = false := decide_eq_false g4
              have hq : (inB m x && inB m y) = true := by unfold inB; simp only [f1, f2, f3, f4]; rfl
              clear g1 g2 g3 g4 HF
              have HQN := Lib.hid hq
              clear hq
              go_wp2_with fail
              go_roundg 0
              case measure => omega
              case rel => exact .inr (.inr (.inr ⟨rfl, rfl, HQ0.out, HQ1.out, HQN.out, HK⟩))
    · have HF := Lib.hid HS.out.2.2
      have HQ := Lib.hid (And.intro q0 (And.intro q1 q2))
      clear HS q0 q1 q2
      go_wp2_with fail
      go_ret
      exact ⟨by have h0 := HQ.out.1; have h1 := HQ.out.2.1; have h2 := HQ.out.2.2; first | (rw [h0, h1, h2]; rfl) | simp [h0, h1, h2], HF.out⟩
 · have hne : (E != 0) = true := by simpa using h0
   have hz : decide (E = 0) = false := decide_eq_false h0
   rw [hz]
   clear hz h0
   go_enter Tryz.func17, Tryz.ntmps17
   go_upto_region 1 with fail
   refine genT (fun V => Row V (w.heap.size) 42 [.int .i64 a, .int .i64 b, .int .i64 c, .int .i64 d, .int .i64 x, .int .i64 y] ∧ Below w.heap.size w V) ⟨(rowAt _ _ (by first | rfl | simp only [World.size_alloc])), ((Below.refl _ _).alloc (by first | exact Nat.le_refl _ | (simp only [World.size_alloc]; omega)) _)⟩ ?_
   intro W1 s1
   have HS1 := Lib.hid s1
   clear s1
   go_wp2_with (first | (refine wpList_load_row rfl 42 _ rfl (w.heap.size) rfl 42 #[.int .i64 a, .int .i64 b, .int .i64 c, .int .i64 d, .int .i64 x, .int .i64 y] (0, 0) _ HS1.out.1 Tryz.underlying42 rfl ?_ ?_; (kernel_rfl)) | (go_at_call 26; refine (HC.out _).mono ?_; rintro e w2 ⟨rfl, hb_w2⟩; have HS2 : Hid (Row w2 (w.heap.size) 42 [.int .i64 a, .int .i64 b, .int .i64 c, .int .i64 d, .int .i64 x, .int .i64 y] ∧ Below w.heap.size w w2) := ⟨(HS1.out.1).old hb_w2, (HS1.out.2).trans (hb_w2.mono (HS1.out.2).size)⟩; clear hb_w2))
   go_ret
   exact ⟨rfl, HS2.out.2⟩
set_option maxRecDepth 100000 in
set_option maxHeartbeats 1000000 in
theorem plusR_any (a b c d : Int) (w : World) (h : Gs a b) (k : Gs c d) : Calls Tryz.prog 21 #[.agg #[.int .i64 a, .int .i64 b], .agg #[.int .i64 c, .int .i64 d]] w fun e w' => e = .returned (.agg #[.int .i64 (a + c), .int .i64 (b + d)]) ∧ Below w.heap.size w w' := by
 obtain ⟨b1, b2⟩ := h
 obtain ⟨b3, b4⟩ := k
 have e1 : IntKind.i64.wrap (a + c) = a + c := IntWalk.i64_in _ (by omega)
 have e2 : IntKind.i64.wrap (b + d) = b + d := IntWalk.i64_in _ (by omega)
 clear b1 b2 b3 b4
 go_enter Tryz.func21, Tryz.ntmps21
 go_upto_region 1 with fail
 refine genT (fun V => Row V (w.heap.size) 40 [.int .i64 a, .int .i64 b] ∧ Row V (w.heap.size + 1) 40 [.int .i64 c, .int .i64 d] ∧ Row V (w.heap.size + 1 + 1) 40 [.int .i64 0, .int .i64 0] ∧ Below w.heap.size w V) ⟨(Row.alloc (Row.alloc (rowAt _ _ (by first | rfl | simp only [World.size_alloc])) _) _), (Row.alloc (rowAt _ _ (by first | rfl | simp only [World.size_alloc])) _), (rowAt _ _ (by first | rfl | simp only [World.size_alloc])), ((((Below.refl _ _).alloc (by first | exact Nat.le_refl _ | (simp only [World.size_alloc]; omega)) _).alloc (by first | exact Nat.le_refl _ | (simp only [World.size_alloc]; omega)) _).alloc (by first | exact Nat.le_refl _ | (simp only [World.size_alloc]; omega)) _)⟩ ?_
 intro W1 s1
 have HS1 := Lib.hid s1
 clear s1
 have c0 := HS1.out.1.cell 0; have c1 := HS1.out.1.cell 1; have d0 := HS1.out.2.1.cell 0; have d1 := HS1.out.2.1.cell 1
 simp only [List.getElem?_cons_succ, List.getElem?_cons_zero] at c0 c1 d0 d1
 go_wp2_with (refine wpList_store_row rfl 40 _ _ rfl (w.heap.size + 1 + 1) #[.int .i64 (a + c), .int .i64 (b + d)] rfl rfl 40 _ HS1.out.2.2.1 ?_ ?_ ?_ ?_; (kernel_rfl); (rfl); (simp [Value.oneCell']))
 refine bodyPost_ret (results_rowA rfl _ _ (w.heap.size + 1 + 1) 40 #[.int .i64 (a + c), .int .i64 (b + d)] (0, 0) _ rfl (HS1.out.2.2.1.setRow [.int .i64 (a + c), .int .i64 (b + d)]) Tryz.underlying40 rfl (by kernel_rfl)) rfl ⟨rfl, Below.setRow HS1.out.2.2.2 (by omega) _⟩
end Go.Proofs.YtgbkblbfgknheaaGreatDoor
