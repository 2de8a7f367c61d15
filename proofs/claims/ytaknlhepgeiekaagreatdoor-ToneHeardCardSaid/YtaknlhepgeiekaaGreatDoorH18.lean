import Derived.Test.YtaknlhepgeiekaaGreatDoorH17
import Derived.Test.YtaknlhepgeiekaaGreatDoorH40
namespace Go.Proofs.YtaknlhepgeiekaaGreatDoor
set_option linter.all false
open Go.RowKit Go.Fl
def toldI (B D : Bool) (v : Int) : Int := if B || D then 0 else v
set_option maxRecDepth 100000 in
set_option maxHeartbeats 1000000 in
theorem told_any (rs rf rl ra rb a b c d x y N Q C1 C2 n : Int) (w : World) (h1 : Gs a b) (h2 : Gs c d) (h3 : Gs x y) (hN : N = (c * a + d * b + (x * a + y * b)) * 1000) (hQ : Q = a * a + b * b) (bN : N.natAbs ≤ 1000000000000) (bQ : Q.natAbs ≤ 1000000000) (ha : ra.natAbs ≤ 10000) (hb : rb.natAbs ≤ 10000) (hC1 : C1 = cmpI N (ra * Q)) (hC2 : C2 = cmpI N (rb * Q)) (B0 : Bool) (hB0 : B0 = decide (Q < rl)) (D : Bool) (hD : D = (decide (C1 < 0) || decide (0 < C2))) (hs : 1 ≤ rs ∧ rs ≤ 1000) (hf : 1 ≤ rf ∧ rf ≤ 1000) (hn : n = c * a + d * b - (x * a + y * b)) (bn : n.natAbs ≤ 10000000000000) (hq : 0 < Q) : Calls Tryz.prog 85 #[.agg #[.int .i64 rs, .int .i64 rf, .int .i64 rl, .int .i64 ra, .int .i64 rb], .agg #[.int .i64 a, .int .i64 b, .int .i64 c, .int .i64 d, .int .i64 x, .int .i64 y]] w fun e w' => e = .returned (.tuple #[.int .i64 (toldI B0 D (shownI rs rf n Q)), .string (flagS B0 D)]) ∧ Below w.heap.size w w' := by
 have HF : Hid (∀ W, Calls Tryz.prog 95 #[.agg #[.int .i64 rs, .int .i64 rf, .int .i64 rl, .int .i64 ra, .int .i64 rb], .agg #[.int .i64 a, .int .i64 b, .int .i64 c, .int .i64 d, .int .i64 x, .int .i64 y]] W fun e w' => e = .returned (.string (flagS B0 D)) ∧ Below W.heap.size W w') := fun W => flag_any rs rf rl ra rb a b c d x y N Q C1 C2 W h1 h2 h3 hN hQ bN bQ ha hb hC1 hC2 B0 hB0 D hD
 have HN : Hid (∀ W, Calls Tryz.prog 61 #[.agg #[.int .i64 a, .int .i64 b, .int .i64 c, .int .i64 d, .int .i64 x, .int .i64 y]] W fun e w' => e = .returned (.agg #[.int .i64 n, .int .i64 Q]) ∧ Below W.heap.size W w') := fun W => by rw [hn, hQ]; exact needle_any a b c d x y W h1 h2 h3
 have HW : Hid (∀ W, Calls Tryz.prog 92 #[.agg #[.int .i64 rs, .int .i64 rf, .int .i64 rl, .int .i64 ra, .int .i64 rb], .agg #[.int .i64 n, .int .i64 Q]] W fun e w' => e = .returned (.int .i64 (shownI rs rf n Q)) ∧ Below W.heap.size W w') := fun W => shown_any rs rf rl ra rb n Q W hs hf bn ⟨hq, by omega⟩
 obtain ⟨v, hv⟩ : ∃ v, v = shownI rs rf n Q := ⟨_, rfl⟩
 rw [← hv] at HW ⊢
 clear h1 h2 h3 hN hQ bN bQ ha hb hC1 hC2 hB0 hD hs hf hn bn hq hv
 cases B0 with
 | true =>
   have eF : flagS true D = ⟨#[119, 101, 97, 107]⟩ := rfl
   have eT : toldI true D v = 0 := rfl
   rw [eF] at HF ⊢
   rw [eT]
   clear eF eT
   go_enter Tryz.func85, Tryz.ntmps85
   go_upto_region 1 with fail
   refine genT (fun V => Row V (w.heap.size) 87 [.int .i64 rs, .int .i64 rf, .int .i64 rl, .int .i64 ra, .int .i64 rb] ∧ Row V (w.heap.size + 1) 35 [.int .i64 a, .int .i64 b, .int .i64 c, .int .i64 d, .int .i64 x, .int .i64 y] ∧ Below w.heap.size w V) ⟨(Row.alloc (rowAt _ _ (by first | rfl | simp only [World.size_alloc])) _), (rowAt _ _ (by first | rfl | simp only [World.size_alloc])), (((Below.refl _ _).alloc (by first | exact Nat.le_refl _ | (simp only [World.size_alloc]; omega)) _).alloc (by first | exact Nat.le_refl _ | (simp only [World.size_alloc]; omega)) _)⟩ ?_
   intro W1 s1
   have HS1 := Lib.hid s1
   clear s1
   go_wp2_with (first
    | (refine wpList_load_row rfl 87 _ rfl (w.heap.size) rfl 87 #[.int .i64 rs, .int .i64 rf, .int .i64 rl, .int .i64 ra, .int .i64 rb] (0, 0) _ HS1.out.1 Tryz.underlying87 rfl ?_ ?_; (kernel_rfl))
    | (refine wpList_load_row rfl 35 _ rfl (w.heap.size + 1) rfl 35 #[.int .i64 a, .int .i64 b, .int .i64 c, .int .i64 d, .int .i64 x, .int .i64 y] (0, 0) _ HS1.out.2.1 Tryz.underlying35 rfl ?_ ?_; (kernel_rfl))
    | (go_at_call 95; refine (HF.out _).mono ?_; rintro e w2 ⟨rfl, hb_w2⟩; have HS2 : Hid (Row w2 (w.heap.size) 87 [.int .i64 rs, .int .i64 rf, .int .i64 rl, .int .i64 ra, .int .i64 rb] ∧ Row w2 (w.heap.size + 1) 35 [.int .i64 a, .int .i64 b, .int .i64 c, .int .i64 d, .int .i64 x, .int .i64 y] ∧ Below w.heap.size w w2) := ⟨(HS1.out.1).old hb_w2, (HS1.out.2.1).old hb_w2, (HS1.out.2.2).trans (hb_w2.mono (HS1.out.2.2).size)⟩; clear hb_w2)
    | (refine wpList_load_row rfl 87 _ rfl (w.heap.size) rfl 87 #[.int .i64 rs, .int .i64 rf, .int .i64 rl, .int .i64 ra, .int .i64 rb] (0, 0) _ HS2.out.1 Tryz.underlying87 rfl ?_ ?_; (kernel_rfl))
    | (refine wpList_load_row rfl 35 _ rfl (w.heap.size + 1) rfl 35 #[.int .i64 a, .int .i64 b, .int .i64 c, .int .i64 d, .int .i64 x, .int .i64 y] (0, 0) _ HS2.out.2.1 Tryz.underlying35 rfl ?_ ?_; (kernel_rfl))
    | (go_at_call 61; refine (HN.out _).mono ?_; rintro e w3 ⟨rfl, hb_w3⟩; have HS3 : Hid (Row w3 (w.heap.size) 87 [.int .i64 rs, .int .i64 rf, .int .i64 rl, .int .i64 ra, .int .i64 rb] ∧ Row w3 (w.heap.size + 1) 35 [.int .i64 a, .int .i64 b, .int .i64 c, .int .i64 d, .int .i64 x, .int .i64 y] ∧ Below w.heap.size w w3) := ⟨(HS2.out.1).old hb_w3, (HS2.out.2.1).old hb_w3, (HS2.out.2.2).trans (hb_w3.mono (HS2.out.2.2).size)⟩; clear hb_w3)
    | (go_at_call 92; refine (HW.out _).mono ?_; rintro e w4 ⟨rfl, hb_w4⟩; have HS4 : Hid (Row w4 (w.heap.size) 87 [.int .i64 rs, .int .i64 rf, .int .i64 rl, .int .i64 ra, .int .i64 rb] ∧ Row w4 (w.heap.size + 1) 35 [.int .i64 a, .int .i64 b, .int .i64 c, .int .i64 d, .int .i64 x, .int .i64 y] ∧ Below w.heap.size w w4) := ⟨(HS3.out.1).old hb_w4, (HS3.out.2.1).old hb_w4, (HS3.out.2.2).trans (hb_w4.mono (HS3.out.2.2).size)⟩; clear hb_w4))
   go_ret2
   exact ⟨rfl, HS2.out.2.2⟩
 | false =>
   cases D with
   | true =>
     have eF : flagS false true = ⟨#[100, 101, 112, 116, 104]⟩ := rfl
     have eT : toldI false true v = 0 := rfl
     rw [eF] at HF ⊢
     rw [eT]
     clear eF eT
     go_enter Tryz.func85, Tryz.ntmps85
     go_upto_region 1 with fail
     refine genT (fun V => Row V (w.heap.size) 87 [.int .i64 rs, .int .i64 rf, .int .i64 rl, .int .i64 ra, .int .i64 rb] ∧ Row V (w.heap.size + 1) 35 [.int .i64 a, .int .i64 b, .int .i64 c, .int .i64 d, .int .i64 x, .int .i64 y] ∧ Below w.heap.size w V) ⟨(Row.alloc (rowAt _ _ (by first | rfl | simp only [World.size_alloc])) _), (rowAt _ _ (by first | rfl | simp only [World.size_alloc])), (((Below.refl _ _).alloc (by first | exact Nat.le_refl _ | (simp only [World.size_alloc]; omega)) _).alloc (by first | exact Nat.le_refl _ | (simp only [World.size_alloc]; omega)) _)⟩ ?_
     intro W1 s1
     have HS1 := Lib.hid s1
     clear s1
     go_wp2_with (first
     | (refine wpList_load_row rfl 87 _ rfl (w.heap.size) rfl 87 #[.int .i64 rs, .int .i64 rf, .int .i64 rl, .int .i64 ra, .int .i64 rb] (0, 0) _ HS1.out.1 Tryz.underlying87 rfl ?_ ?_; (kernel_rfl))
     | (refine wpList_load_row rfl 35 _ rfl (w.heap.size + 1) rfl 35 #[.int .i64 a, .int .i64 b, .int .i64 c, .int .i64 d, .int .i64 x, .int .i64 y] (0, 0) _ HS1.out.2.1 Tryz.underlying35 rfl ?_ ?_; (kernel_rfl))
     | (go_at_call 95; refine (HF.out _).mono ?_; rintro e w2 ⟨rfl, hb_w2⟩; have HS2 : Hid (Row w2 (w.heap.size) 87 [.int .i64 rs, .int .i64 rf, .int .i64 rl, .int .i64 ra, .int .i64 rb] ∧ Row w2 (w.heap.size + 1) 35 [.int .i64 a, .int .i64 b, .int .i64 c, .int .i64 d, .int .i64 x, .int .i64 y] ∧ Below w.heap.size w w2) := ⟨(HS1.out.1).old hb_w2, (HS1.out.2.1).old hb_w2, (HS1.out.2.2).trans (hb_w2.mono (HS1.out.2.2).size)⟩; clear hb_w2)
     | (refine wpList_load_row rfl 87 _ rfl (w.heap.size) rfl 87 #[.int .i64 rs, .int .i64 rf, .int .i64 rl, .int .i64 ra, .int .i64 rb] (0, 0) _ HS2.out.1 Tryz.underlying87 rfl ?_ ?_; (kernel_rfl))
     | (refine wpList_load_row rfl 35 _ rfl (w.heap.size + 1) rfl 35 #[.int .i64 a, .int .i64 b, .int .i64 c, .int .i64 d, .int .i64 x, .int .i64 y] (0, 0) _ HS2.out.2.1 Tryz.underlying35 rfl ?_ ?_; (kernel_rfl))
     | (go_at_call 61; refine (HN.out _).mono ?_; rintro e w3 ⟨rfl, hb_w3⟩; have HS3 : Hid (Row w3 (w.heap.size) 87 [.int .i64 rs, .int .i64 rf, .int .i64 rl, .int .i64 ra, .int .i64 rb] ∧ Row w3 (w.heap.size + 1) 35 [.int .i64 a, .int .i64 b, .int .i64 c, .int .i64 d, .int .i64 x, .int .i64 y] ∧ Below w.heap.size w w3) := ⟨(HS2.out.1).old hb_w3, (HS2.out.2.1).old hb_w3, (HS2.out.2.2).trans (hb_w3.mono (HS2.out.2.2).size)⟩; clear hb_w3)
     | (go_at_call 92; refine (HW.out _).mono ?_; rintro e w4 ⟨rfl, hb_w4⟩; have HS4 : Hid (Row w4 (w.heap.size) 87 [.int .i64 rs, .int .i64 rf, .int .i64 rl, .int .i64 ra, .int .i64 rb] ∧ Row w4 (w.heap.size + 1) 35 [.int .i64 a, .int .i64 b, .int .i64 c, .int .i64 d, .int .i64 x, .int .i64 y] ∧ Below w.heap.size w w4) := ⟨(HS3.out.1).old hb_w4, (HS3.out.2.1).old hb_w4, (HS3.out.2.2).trans (hb_w4.mono (HS3.out.2.2).size)⟩; clear hb_w4))
     go_ret2
     exact ⟨rfl, HS2.out.2.2⟩
   | false =>
     have eF : flagS false false = ⟨#[]⟩ := rfl
     have eT : toldI false false v = v := rfl
     rw [eF] at HF ⊢
     rw [eT]
     clear eF eT
     go_enter Tryz.func85, Tryz.ntmps85
     go_upto_region 1 with fail
     refine genT (fun V => Row V (w.heap.size) 87 [.int .i64 rs, .int .i64 rf, .int .i64 rl, .int .i64 ra, .int .i64 rb] ∧ Row V (w.heap.size + 1) 35 [.int .i64 a, .int .i64 b, .int .i64 c, .int .i64 d, .int .i64 x, .int .i64 y] ∧ Below w.heap.size w V) ⟨(Row.alloc (rowAt _ _ (by first | rfl | simp only [World.size_alloc])) _), (rowAt _ _ (by first | rfl | simp only [World.size_alloc])), (((Below.refl _ _).alloc (by first | exact Nat.le_refl _ | (simp only [World.size_alloc]; omega)) _).alloc (by first | exact Nat.le_refl _ | (simp only [World.size_alloc]; omega)) _)⟩ ?_
     intro W1 s1
     have HS1 := Lib.hid s1
     clear s1
     go_wp2_with (first
     | (refine wpList_load_row rfl 87 _ rfl (w.heap.size) rfl 87 #[.int .i64 rs, .int .i64 rf, .int .i64 rl, .int .i64 ra, .int .i64 rb] (0, 0) _ HS1.out.1 Tryz.underlying87 rfl ?_ ?_; (kernel_rfl))
     | (refine wpList_load_row rfl 35 _ rfl (w.heap.size + 1) rfl 35 #[.int .i64 a, .int .i64 b, .int .i64 c, .int .i64 d, .int .i64 x, .int .i64 y] (0, 0) _ HS1.out.2.1 Tryz.underlying35 rfl ?_ ?_; (kernel_rfl))
     | (go_at_call 95; refine (HF.out _).mono ?_; rintro e w2 ⟨rfl, hb_w2⟩; have HS2 : Hid (Row w2 (w.heap.size) 87 [.int .i64 rs, .int .i64 rf, .int .i64 rl, .int .i64 ra, .int .i64 rb] ∧ Row w2 (w.heap.size + 1) 35 [.int .i64 a, .int .i64 b, .int .i64 c, .int .i64 d, .int .i64 x, .int .i64 y] ∧ Below w.heap.size w w2) := ⟨(HS1.out.1).old hb_w2, (HS1.out.2.1).old hb_w2, (HS1.out.2.2).trans (hb_w2.mono (HS1.out.2.2).size)⟩; clear hb_w2)
     | (refine wpList_load_row rfl 87 _ rfl (w.heap.size) rfl 87 #[.int .i64 rs, .int .i64 rf, .int .i64 rl, .int .i64 ra, .int .i64 rb] (0, 0) _ HS2.out.1 Tryz.underlying87 rfl ?_ ?_; (kernel_rfl))
     | (refine wpList_load_row rfl 35 _ rfl (w.heap.size + 1) rfl 35 #[.int .i64 a, .int .i64 b, .int .i64 c, .int .i64 d, .int .i64 x, .int .i64 y] (0, 0) _ HS2.out.2.1 Tryz.underlying35 rfl ?_ ?_; (kernel_rfl))
     | (go_at_call 61; refine (HN.out _).mono ?_; rintro e w3 ⟨rfl, hb_w3⟩; have HS3 : Hid (Row w3 (w.heap.size) 87 [.int .i64 rs, .int .i64 rf, .int .i64 rl, .int .i64 ra, .int .i64 rb] ∧ Row w3 (w.heap.size + 1) 35 [.int .i64 a, .int .i64 b, .int .i64 c, .int .i64 d, .int .i64 x, .int .i64 y] ∧ Below w.heap.size w w3) := ⟨(HS2.out.1).old hb_w3, (HS2.out.2.1).old hb_w3, (HS2.out.2.2).trans (hb_w3.mono (HS2.out.2.2).size)⟩; clear hb_w3)
     | (go_at_call 92; refine (HW.out _).mono ?_; rintro e w4 ⟨rfl, hb_w4⟩; have HS4 : Hid (Row w4 (w.heap.size) 87 [.int .i64 rs, .int .i64 rf, .int .i64 rl, .int .i64 ra, .int .i64 rb] ∧ Row w4 (w.heap.size + 1) 35 [.int .i64 a, .int .i64 b, .int .i64 c, .int .i64 d, .int .i64 x, .int .i64 y] ∧ Below w.heap.size w w4) := ⟨(HS3.out.1).old hb_w4, (HS3.out.2.1).old hb_w4, (HS3.out.2.2).trans (hb_w4.mono (HS3.out.2.2).size)⟩; clear hb_w4))
     refine wp_region_held_drew (S := fun V => Row V (w.heap.size) 87 [.int .i64 rs, .int .i64 rf, .int .i64 rl, .int .i64 ra, .int .i64 rb] ∧ Row V (w.heap.size + 1) 35 [.int .i64 a, .int .i64 b, .int .i64 c, .int .i64 d, .int .i64 x, .int .i64 y] ∧ Below w.heap.size w V) (by kernel_rfl) ?_ (fun hHeld => ?_)
     · exact ⟨(HS2.out.1).drew, (HS2.out.2.1).drew, (HS2.out.2.2).drew⟩
     refine tk 0 13 (.agg #[.int .i64 rs, .int .i64 rf, .int .i64 rl, .int .i64 ra, .int .i64 rb]) rfl (by kernel_rfl) (fun _ _ _ h => h) (by kernel_rfl) (fun V hV => ex_rowT 87 _ rfl (w.heap.size) rfl 87 [.int .i64 rs, .int .i64 rf, .int .i64 rl, .int .i64 ra, .int .i64 rb] _ Tryz.underlying87 rfl (by kernel_rfl) (hV.1)) hHeld ?_
     try simp only [zz]
     refine tk 1 14 (.agg #[.int .i64 a, .int .i64 b, .int .i64 c, .int .i64 d, .int .i64 x, .int .i64 y]) rfl (by kernel_rfl) (fun _ _ _ h => h) (by kernel_rfl) (fun V hV => ex_rowT 35 _ rfl (w.heap.size + 1) rfl 35 [.int .i64 a, .int .i64 b, .int .i64 c, .int .i64 d, .int .i64 x, .int .i64 y] _ Tryz.underlying35 rfl (by kernel_rfl) (hV.2.1)) hHeld ?_
     try simp only [zz]
     refine st2 2 (fun K hK => ?_)
     go_simp
     go_at_call 61
     refine (HN.out _).mono ?_
     rintro e v3 ⟨rfl, hb3⟩
     try go_simp
     refine hK.out _ _ ?_ (fun hHeld => ?_)
     · exact ⟨(hHeld.1).old hb3, (hHeld.2.1).old hb3, (hHeld.2.2).trans ((hb3).mono (hHeld.2.2).size)⟩
     clear hK K
     try simp only [zz]
     refine st2 3 (fun K hK => ?_)
     go_simp
     go_at_call 92
     refine (HW.out _).mono ?_
     rintro e v4 ⟨rfl, hb4⟩
     try go_simp
     refine hK.out _ _ ?_ (fun hHeld => ?_)
     · exact ⟨(hHeld.1).old hb4, (hHeld.2.1).old hb4, (hHeld.2.2).trans ((hb4).mono (hHeld.2.2).size)⟩
     clear hK K
     try simp only [zz]
     refine ta 4 4 hHeld ?_
     try simp only [zz]
     refine ta 5 5 hHeld ?_
     try simp only [zz]
     refine wpAnyH_done (by kernel_rfl) ?_ _
     go_wp2_with fail
     go_ret2
     exact ⟨rfl, hHeld.2.2⟩
set_option maxRecDepth 100000
set_option maxHeartbeats 1000000
structure RecG (rs rf rl ra rb : Int) : Prop where
 s : 1 ≤ rs ∧ rs ≤ 1000
 f : 1 ≤ rf ∧ rf ≤ 1000
 l : 0 ≤ rl ∧ rl ≤ 200000000
 a : -10000 ≤ ra ∧ ra ≤ 10000
 b : -10000 ≤ rb ∧ rb ≤ 10000
 o : ra ≤ rb
theorem prod8 {a b : Int} (ha : -10000 ≤ a ∧ a ≤ 10000) (hb : -10000 ≤ b ∧ b ≤ 10000) : -100000000 ≤ a * b ∧ a * b ≤ 100000000 := by
 have h : (a * b).natAbs ≤ 10000 * 10000 := by rw [Int.natAbs_mul]; exact Nat.mul_le_mul (by omega) (by omega)
 omega
def nS (s : Sg) : Int := s.c * s.a + s.d * s.b - (s.x * s.a + s.y * s.b)
def tS (s : Sg) : Int := s.c * s.a + s.d * s.b + (s.x * s.a + s.y * s.b)
def qS (s : Sg) : Int := s.a * s.a + s.b * s.b
theorem sgG {s : Sg} (h : sgE s = 0) : SigG s.a s.b s.c s.d s.x s.y := sig_good h
theorem sg_bd {s : Sg} (h : SigG s.a s.b s.c s.d s.x s.y) : (nS s).natAbs ≤ 400000000 ∧ (tS s).natAbs ≤ 400000000 ∧ 0 < qS s ∧ qS s ≤ 200000000 := by
 have h1 := prod8 h.pc h.pa; have h2 := prod8 h.pd h.pb; have h3 := prod8 h.px h.pa; have h4 := prod8 h.py h.pb
 have h5 := h.pos.1; have h6 := prod8 h.pa h.pa; have h7 := prod8 h.pb h.pb
 refine ⟨?_, ?_, h5, ?_⟩
 · unfold nS; omega
 · unfold tS; omega
 · unfold qS; omega
def flB (rl : Int) (s : Sg) : Bool := decide (qS s < rl)
def flD (ra rb : Int) (s : Sg) : Bool := decide (cmpI (tS s * 1000) (ra * qS s) < 0) || decide (0 < cmpI (tS s * 1000) (rb * qS s))
def tvS (rs rf rl ra rb : Int) (s : Sg) : Int := toldI (flB rl s) (flD ra rb s) (shownI rs rf (nS s) (qS s))
def flS (rl ra rb : Int) (s : Sg) : ByteArray := flagS (flB rl s) (flD ra rb s)
theorem tv_bd {rs rf rl ra rb : Int} (hR : RecG rs rf rl ra rb) (s : Sg) : -rf ≤ tvS rs rf rl ra rb s ∧ tvS rs rf rl ra rb s ≤ rf := by
 have := hR.f
 unfold tvS toldI shownI
 split <;> omega
theorem told_sg (rs rf rl ra rb : Int) (s : Sg) (w : World) (hR : RecG rs rf rl ra rb) (h : SigG s.a s.b s.c s.d s.x s.y) : Calls Tryz.prog 85 #[.agg #[.int .i64 rs, .int .i64 rf, .int .i64 rl, .int .i64 ra, .int .i64 rb], .agg #[.int .i64 s.a, .int .i64 s.b, .int .i64 s.c, .int .i64 s.d, .int .i64 s.x, .int .i64 s.y]] w fun e w' => e = .returned (.tuple #[.int .i64 (tvS rs rf rl ra rb s), .string (flS rl ra rb s)]) ∧ Below w.heap.size w w' := by
 have hb := sg_bd h
 have ha := hR.a; have hbb := hR.b
 exact told_any rs rf rl ra rb s.a s.b s.c s.d s.x s.y (tS s * 1000) (qS s) _ _ (nS s) w h.g1 h.g2 h.g3 rfl rfl (by omega) (by omega) (by omega) (by omega) rfl rfl (flB rl s) rfl (flD ra rb s) rfl hR.s hR.f rfl (by omega) hb.2.2.1
theorem flag_sg (rs rf rl ra rb : Int) (s : Sg) (w : World) (hR : RecG rs rf rl ra rb) (h : SigG s.a s.b s.c s.d s.x s.y) : Calls Tryz.prog 95 #[.agg #[.int .i64 rs, .int .i64 rf, .int .i64 rl, .int .i64 ra, .int .i64 rb], .agg #[.int .i64 s.a, .int .i64 s.b, .int .i64 s.c, .int .i64 s.d, .int .i64 s.x, .int .i64 s.y]] w fun e w' => e = .returned (.string (flS rl ra rb s)) ∧ Below w.heap.size w w' := by
 have hb := sg_bd h
 have ha := hR.a; have hbb := hR.b
 exact flag_any rs rf rl ra rb s.a s.b s.c s.d s.x s.y (tS s * 1000) (qS s) _ _ w h.g1 h.g2 h.g3 rfl rfl (by omega) (by omega) (by omega) (by omega) rfl rfl (flB rl s) rfl (flD ra rb s) rfl
theorem sg_all {L : List Sg} (h2 : firstI (L.map sgE) = 0) : ∀ s ∈ L, SigG s.a s.b s.c s.d s.x s.y := by
 induction L with
 | nil => intro s hs; cases hs
 | cons p L ih =>
   rw [List.map_cons, firstI] at h2
   by_cases hp : sgE p = 0
   · rw [if_pos hp] at h2
     intro s hs
     rcases List.mem_cons.1 hs with rfl | hs
     · exact sgG hp
     · exact ih h2 s hs
   · rw [if_neg hp] at h2; exact absurd h2 hp
theorem sgs_good {L : List Sg} (h : sgsE L = 0) : 0 < L.length ∧ L.length ≤ 256 ∧ ∀ s ∈ L, SigG s.a s.b s.c s.d s.x s.y := by
 obtain ⟨h1, h2⟩ := fI2 h
 have h1 := whenZ (by decide) h1
 simp only [decide_eq_false_iff_not] at h1
 by_cases h3 : 256 < L.length
 · rw [if_pos h3] at h2; exact absurd h2 (by decide)
 · rw [if_neg h3] at h2
   refine ⟨by omega, by omega, ?_⟩
   exact sg_all h2
def foN (rs rf rl ra rb lag n : Int) (s : Sg) : Int := if flB rl s || flD ra rb s then n else n + (tvS rs rf rl ra rb s - n) / lag
def foL (rs rf rl ra rb lag start : Int) (L : List Sg) : List Int := (List.range L.length).map fun k => (L.take (k + 1)).foldl (foN rs rf rl ra rb lag) start
theorem div_bd {m lag : Int} (hl : 1 ≤ lag) : (0 ≤ m → 0 ≤ m / lag ∧ m / lag ≤ m) ∧ (m < 0 → m ≤ m / lag ∧ m / lag < 0) := by
 refine ⟨fun h => ⟨Int.ediv_nonneg h (by omega), Int.ediv_le_self _ h⟩, fun h => ⟨?_, Int.ediv_neg_of_neg_of_pos h (by omega)⟩⟩
 have h1 : lag * (m / lag) ≤ m := Int.mul_ediv_self_le (by omega)
 have h2 := Int.emod_lt_of_pos m (show (0 : Int) < lag by omega)
 have h3 := Int.mul_ediv_add_emod m lag
 have h4 : m / lag < 0 := Int.ediv_neg_of_neg_of_pos h (by omega)
 have h5 : (lag - 1) * (m / lag) ≤ 0 := Int.mul_nonpos_of_nonneg_of_nonpos (by omega) (by omega)
 have h6 : (lag - 1) * (m / lag) = lag * (m / lag) - m / lag := by rw [Int.sub_mul, Int.one_mul]
 have h7 := Int.emod_nonneg m (show lag ≠ 0 by omega)
 rcases Int.lt_or_le (m / lag) m with h8 | h8
 · exfalso
   have h9 : lag * (m / lag) + lag ≤ lag * m := by
    have : lag * (m / lag + 1) ≤ lag * m := Int.mul_le_mul_of_nonneg_left (by omega) (by omega)
    rw [Int.mul_add, Int.mul_one] at this; exact this
   have h10 : lag * m ≤ m := by
    have : lag * m ≤ 1 * m := Int.mul_le_mul_of_nonpos_right hl (by omega)
    rw [Int.one_mul] at this; exact this
   omega
 · exact h8
theorem foN_bd {rs rf rl ra rb lag n : Int} (hR : RecG rs rf rl ra rb) (hl : 1 ≤ lag) (hn : -rf ≤ n ∧ n ≤ rf) (s : Sg) : -rf ≤ foN rs rf rl ra rb lag n s ∧ foN rs rf rl ra rb lag n s ≤ rf := by
 have ht := tv_bd hR s
 unfold foN
 split
 · exact hn
 · have h := div_bd (m := tvS rs rf rl ra rb s - n) hl
   rcases Int.lt_or_le (tvS rs rf rl ra rb s - n) 0 with h1 | h1
   · have := h.2 h1; omega
   · have := h.1 h1; omega
set_option maxRecDepth 100000
set_option maxHeartbeats 4000000
def spL (p : Nat → Bool) : Nat → List (Int × Int)
 | 0 => []
 | k + 1 => if p k then widL (spL p k) (k : Int) else spL p k
theorem widL_len (l : List (Int × Int)) (i : Int) : (widL l i).length ≤ l.length + 1 := by
 unfold widL
 split
 · split
   · simp
   · simp
 · simp
theorem spL_len (p : Nat → Bool) (k : Nat) : (spL p k).length ≤ k := by
 induction k with
 | zero => exact Nat.le_refl _
 | succ k ih =>
   rw [spL]
   split
   · have := widL_len (spL p k) (k : Int); omega
   · omega
theorem own_slice {w : World} {B : Nat} {e : TypeId} {s n : Nat} {v : Value} {xs : List Value} (h : w.ownsRow B e s v n xs) : ∃ A c, v = .slice A n c := by
 rcases h.2 with ⟨rfl, rfl, _⟩ | ⟨g, cap, cur, rfl, _⟩
 · exact ⟨_, _, rfl⟩
 · exact ⟨_, _, rfl⟩
theorem own_keep {w w' : World} {B : Nat} {e : TypeId} {s n : Nat} {v : Value} {xs : List Value} (h : w.ownsRow B e s v n xs) (hb : Below w.heap.size w w') : w'.ownsRow B e s v n xs :=
 h.kept (row := none) ⟨hb.os, hb.tape, hb.output, hb.size, fun k hk _ => hb.block k hk⟩ (by cases v.ownBlock <;> simp)
theorem spansWhereS_any (A : Option Addr) (c : Nat) (l : List Sg) (p : Nat → Bool) (F : Nat) (bs : Array Value) (w : World) (hA : Rd w A (sgC l)) (hm : l.length ≤ 1000000)
 (hF : ∀ k (h : k < l.length) W, Below w.heap.size w W → Calls Tryz.prog F (#[.agg #[.int .i64 l[k].a, .int .i64 l[k].b, .int .i64 l[k].c, .int .i64 l[k].d, .int .i64 l[k].x, .int .i64 l[k].y]] ++ bs) W fun e w' => e = .returned (.bool (p k)) ∧ Below W.heap.size W w') (eg : ∀ args w, (callFunc F args).run Tryz.prog w = .ok (.enter F args) w) :
 Calls Tryz.prog 93 #[.slice A l.length c, .func (.func F) #[] bs] w fun e w' => ∃ v, e = .returned v ∧ w'.ownsRow w.heap.size 77 2 v (spL p l.length).length (spanC (spL p l.length)) ∧ Below w.heap.size w w' := by
 have HF := Lib.hid hF; have HA := Lib.hid hA
 clear hF hA
 go_enter Tryz.func93, Tryz.ntmps93
 go_wp2
 go_loopw [5, 10] (fun v i wr => ∃ k : Nat, k ≤ l.length ∧ i = .int .i64 k ∧ Hid (wr.ownsRow w.heap.size 77 2 v (spL p k).length (spanC (spL p k))) ∧ Hid (Below w.heap.size w wr)) (fun _ i _ => l.length - (intOf i).toNat)
 case atStart => exact ⟨0, Nat.zero_le _, rfl, World.ownsRow_nil _ _ _ _, Below.refl _ _⟩
 case round =>
  rename_i v _ wr
  obtain ⟨k, hk, rfl, Hown, Hb⟩ := hrel
  obtain ⟨VA, VC, rfl⟩ := own_slice Hown.out
  by_cases hlt : k < l.length
  · obtain ⟨b0, off, rfl, q0, q1, q2, q3, q4, q5⟩ := Rd.sg (HA.out.below Hb.out) hlt
    have HFk := Lib.hid (HF.out k hlt)
    obtain ⟨⟨a, b, cc, d, x, y⟩, hs⟩ : ∃ s, s = l[k] := ⟨_, rfl⟩
    rw [← hs] at q0 q1 q2 q3 q4 q5 HFk
    dsimp only at q0 q1 q2 q3 q4 q5 HFk
    have hbn : Below wr.heap.size wr ((wr.alloc (.cells #[.int .i64 0, .int .i64 0, .int .i64 0, .int .i64 0, .int .i64 0, .int .i64 0] 35)).setRow wr.heap.size #[.int .i64 a, .int .i64 b, .int .i64 cc, .int .i64 d, .int .i64 x, .int .i64 y]) := Below.setRow ((Below.refl _ _).alloc (Nat.le_refl _) _) (Nat.le_refl _) _
    have HW := Lib.hid hbn
    have Hn : Hid (Row ((wr.alloc (.cells #[.int .i64 0, .int .i64 0, .int .i64 0, .int .i64 0, .int .i64 0, .int .i64 0] 35)).setRow wr.heap.size #[.int .i64 a, .int .i64 b, .int .i64 cc, .int .i64 d, .int .i64 x, .int .i64 y]) wr.heap.size 35 [.int .i64 a, .int .i64 b, .int .i64 cc, .int .i64 d, .int .i64 x, .int .i64 y]) := (Row.new wr 35 [.int .i64 0, .int .i64 0, .int .i64 0, .int .i64 0, .int .i64 0, .int .i64 0]).setRow _
    have HK1 : Hid ((spL p (k + 1)) = if p k then widL (spL p k) (k : Int) else spL p k) := rfl
    have Hln := Lib.hid (spL_len p k)
    clear hs hbn
    go_wp2_with (first
     | (refine wpList_store_row rfl 35 _ _ rfl (wr.heap.size) #[.int .i64 a, .int .i64 b, .int .i64 cc, .int .i64 d, .int .i64 x, .int .i64 y] rfl rfl 35 _ (Row.new wr 35 [.int .i64 0, .int .i64 0, .int .i64 0, .int .i64 0, .int .i64 0, .int .i64 0]) ?_ ?_ ?_ ?_; (kernel_rfl); (rfl); (simp [Value.oneCell']))
     | (refine wpList_load_row rfl 35 _ rfl (wr.heap.size) rfl 35 #[.int .i64 a, .int .i64 b, .int .i64 cc, .int .i64 d, .int .i64 x, .int .i64 y] (0, 0) _ Hn.out Tryz.underlying35 rfl ?_ ?_; (kernel_rfl)))
    refine (HFk.out _ (Hb.out.trans (HW.out.mono Hb.out.size))).mono ?_
    rintro e w1 ⟨rfl, hb1⟩
    have HB1 := Lib.hid (HW.out.trans (hb1.mono HW.out.size))
    have HO1 := Lib.hid (own_keep Hown.out HB1.out)
    have HBw := Lib.hid (Hb.out.trans (HB1.out.mono Hb.out.size))
    clear hb1 HFk Hown Hn HW q0 q1 q2 q3 q4 q5
    cases hp : p k with
    | true =>
      have HK2 : Hid (spL p (k + 1) = widL (spL p k) (k : Int)) := by unfold Hid; rw [HK1.out, if_pos hp]
      clear hp HK1
      go_wp2_with (go_at_call 127; refine (widened_any w.heap.size (.slice VA (spL p k).length VC) (spL p k) (k : Int) _ HO1.out HBw.out.size (by have := Hln.out; omega) (by omega)).mono ?_; rintro e w2 ⟨v2, rfl, ho2, hst2⟩; have HO2 := Lib.hid ho2; have HB2 := Lib.hid (HBw.out.trans ((hst2.below HO1.out HBw.out.size))); clear ho2 hst2)
      go_roundw
      case rel => exact ⟨k + 1, by omega, by go_num, by rw [HK2.out]; exact HO2.out, HB2.out⟩
      case measure => simp [intOf]; omega
    | false =>
      have HK2 : Hid (spL p (k + 1) = spL p k) := by unfold Hid; rw [HK1.out, if_neg (by rw [hp]; decide)]
      clear hp HK1
      go_wp2_with fail
      go_roundw
      case rel => exact ⟨k + 1, by omega, by go_num, by rw [HK2.out]; exact HO1.out, HBw.out⟩
      case measure => simp [intOf]; omega
  · obtain rfl : k = l.length := by omega
    go_wp2
    go_ret
    exact ⟨_, rfl, Hown.out, Hb.out⟩
theorem flagged1_any (rs rf rl ra rb : Int) (s : Sg) (g : Nat) (w : World) (hR : RecG rs rf rl ra rb) (h : SigG s.a s.b s.c s.d s.x s.y) (hg : Row w g 87 [.int .i64 rs, .int .i64 rf, .int .i64 rl, .int .i64 ra, .int .i64 rb]) : Calls Tryz.prog 94 #[.agg #[.int .i64 s.a, .int .i64 s.b, .int .i64 s.c, .int .i64 s.d, .int .i64 s.x, .int .i64 s.y], .pointer (some ⟨g, 0, none⟩)] w fun e w' => e = .returned (.bool (flB rl s || flD ra rb s)) ∧ Below w.heap.size w w' := by
 have HF := Lib.hid (fun W => flag_sg rs rf rl ra rb s W hR h)
 have HG := Lib.hid (hg.alloc (.cells #[.int .i64 s.a, .int .i64 s.b, .int .i64 s.c, .int .i64 s.d, .int .i64 s.x, .int .i64 s.y] 35))
 have HN : Hid (Row (w.alloc (.cells #[.int .i64 s.a, .int .i64 s.b, .int .i64 s.c, .int .i64 s.d, .int .i64 s.x, .int .i64 s.y] 35)) w.heap.size 35 [.int .i64 s.a, .int .i64 s.b, .int .i64 s.c, .int .i64 s.d, .int .i64 s.x, .int .i64 s.y]) := Row.new w _ [.int .i64 s.a, .int .i64 s.b, .int .i64 s.c, .int .i64 s.d, .int .i64 s.x, .int .i64 s.y]
 have HB : Hid (Below w.heap.size w (w.alloc (.cells #[.int .i64 s.a, .int .i64 s.b, .int .i64 s.c, .int .i64 s.d, .int .i64 s.x, .int .i64 s.y] 35))) := (Below.refl _ _).alloc (Nat.le_refl _) _
 unfold flS at HF
 obtain ⟨B0, hB⟩ : ∃ B0, B0 = flB rl s := ⟨_, rfl⟩
 obtain ⟨D0, hD⟩ : ∃ D0, D0 = flD ra rb s := ⟨_, rfl⟩
 rw [← hB, ← hD] at HF ⊢
 clear hB hD hg hR h
 have hk : Hid (flagS B0 D0 = if B0 then ⟨#[119, 101, 97, 107]⟩ else if D0 then ⟨#[100, 101, 112, 116, 104]⟩ else ⟨#[]⟩) := rfl
 cases B0
 all_goals cases D0
 all_goals
  rw [show _ from hk.out] at HF
  simp only [if_true, if_false, Bool.false_eq_true] at HF
  clear hk
  go_enter Tryz.func94, Tryz.ntmps94
  go_wp2_with (first
   | (refine wpList_load_row rfl 87 _ rfl (g) rfl 87 #[.int .i64 rs, .int .i64 rf, .int .i64 rl, .int .i64 ra, .int .i64 rb] (0, 0) _ HG.out Tryz.underlying87 rfl ?_ ?_; (kernel_rfl))
   | (refine wpList_load_row rfl 35 _ rfl (w.heap.size) rfl 35 #[.int .i64 s.a, .int .i64 s.b, .int .i64 s.c, .int .i64 s.d, .int .i64 s.x, .int .i64 s.y] (0, 0) _ HN.out Tryz.underlying35 rfl ?_ ?_; (kernel_rfl))
   | (go_at_call 95; refine (HF.out _).mono ?_; rintro e w2 ⟨rfl, hb2⟩; have HB2 := Lib.hid (HB.out.trans (hb2.mono HB.out.size)); clear hb2))
  go_ret
  exact ⟨rfl, HB2.out⟩

end Go.Proofs.YtaknlhepgeiekaaGreatDoor
