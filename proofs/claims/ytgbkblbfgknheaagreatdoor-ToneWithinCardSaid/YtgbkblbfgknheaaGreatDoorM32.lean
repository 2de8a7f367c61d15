import Derived.Test.YtgbkblbfgknheaaGreatDoorM15
namespace Go.Proofs.YtgbkblbfgknheaaGreatDoor
set_option linter.all false
open Go.RowKit Go.Fl
theorem size_drewT (w : World) : w.drew.heap.size = w.heap.size := rfl
set_option maxRecDepth 100000 in
set_option maxHeartbeats 8000000 in
theorem mixedT_k2 (a b c d x y k l m n u v t : Int) (w : World) (hE : firstI [sigE a b c d x y, sigE k l m n u v, whenI (rangeB t 1000 10000) 3] = 0) (p q : Int) (HK : ∀ W, Calls Tryz.prog 86 #[.agg #[.int .i64 a, .int .i64 b, .int .i64 c, .int .i64 d, .int .i64 x, .int .i64 y, .int .i64 k, .int .i64 l, .int .i64 m, .int .i64 n, .int .i64 u, .int .i64 v], .int .i64 t] W fun e w' => e = .returned (.int .i64 2) ∧ Below W.heap.size W w') (n1 Q1 n2 Q2 : Int) (bn1 : n1.natAbs ≤ 1000000000) (bn2 : n2.natAbs ≤ 1000000000) (bQ1 : 0 ≤ Q1 ∧ Q1 ≤ 1000000000) (bQ2 : 0 ≤ Q2 ∧ Q2 ≤ 1000000000) (HN1 : ∀ W, Calls Tryz.prog 82 #[.agg #[.int .i64 a, .int .i64 b, .int .i64 c, .int .i64 d, .int .i64 x, .int .i64 y]] W fun e w' => e = .returned (.agg #[.int .i64 n1, .int .i64 Q1]) ∧ Below W.heap.size W w') (HN2 : ∀ W, Calls Tryz.prog 82 #[.agg #[.int .i64 k, .int .i64 l, .int .i64 m, .int .i64 n, .int .i64 u, .int .i64 v]] W fun e w' => e = .returned (.agg #[.int .i64 n2, .int .i64 Q2]) ∧ Below W.heap.size W w') (HR : ∀ W, Calls Tryz.prog 87 #[.agg #[.int .i64 (n1 + n2), .int .i64 (Q1 + Q2)]] W fun e w' => e = .returned (.agg #[.int .i64 p, .int .i64 q]) ∧ Below W.heap.size W w') : Calls Tryz.prog 34 #[.agg #[.int .i64 a, .int .i64 b, .int .i64 c, .int .i64 d, .int .i64 x, .int .i64 y, .int .i64 k, .int .i64 l, .int .i64 m, .int .i64 n, .int .i64 u, .int .i64 v], .int .i64 t] w fun e w' => e = .returned (.tuple #[.agg #[.int .i64 p, .int .i64 q], .int .i64 0]) ∧ Below w.heap.size w w' := by
 have HK := Lib.hid HK; have HN1 := Lib.hid HN1; have HN2 := Lib.hid HN2
 have HR := Lib.hid HR
 have HC : Hid (∀ W, Calls Tryz.prog 85 #[.agg #[.int .i64 a, .int .i64 b, .int .i64 c, .int .i64 d, .int .i64 x, .int .i64 y, .int .i64 k, .int .i64 l, .int .i64 m, .int .i64 n, .int .i64 u, .int .i64 v], .int .i64 t] W fun e w' => e = .returned (.int .i64 0) ∧ Below W.heap.size W w') := fun W => by have h := checkTwo_any a b c d x y k l m n u v t W; rw [hE] at h; exact h
 have e1 : IntKind.i64.wrap (n1 + n2) = n1 + n2 := IntWalk.i64_in _ (by omega)
 have e2 : IntKind.i64.wrap (Q1 + Q2) = Q1 + Q2 := IntWalk.i64_in _ (by omega)
 clear hE bn1 bn2 bQ1 bQ2
 go_enter Tryz.func34, Tryz.ntmps34
 go_upto_region 1 with fail
 refine genT (fun V => Row V (w.heap.size) 86 [.int .i64 a, .int .i64 b, .int .i64 c, .int .i64 d, .int .i64 x, .int .i64 y, .int .i64 k, .int .i64 l, .int .i64 m, .int .i64 n, .int .i64 u, .int .i64 v] ∧ Row V (w.heap.size + 1) 90 [.int .i64 0, .int .i64 0] ∧ Below w.heap.size w V) ⟨(Row.alloc (rowAt _ _ (by first | rfl | simp only [World.size_alloc])) _), (rowAt _ _ (by first | rfl | simp only [World.size_alloc])), (((Below.refl _ _).alloc (by first | exact Nat.le_refl _ | (simp only [World.size_alloc]; omega)) _).alloc (by first | exact Nat.le_refl _ | (simp only [World.size_alloc]; omega)) _)⟩ ?_
 intro W1 s1
 have HS1 := Lib.hid s1
 clear s1
 go_upto_region 7 with (first | (refine wpList_load_row rfl 86 _ rfl (w.heap.size) rfl 86 #[.int .i64 a, .int .i64 b, .int .i64 c, .int .i64 d, .int .i64 x, .int .i64 y, .int .i64 k, .int .i64 l, .int .i64 m, .int .i64 n, .int .i64 u, .int .i64 v] (0, 0) _ HS1.out.1 Tryz.underlying86 rfl ?_ ?_; (kernel_rfl)) | (go_at_call 85; refine (HC.out _).mono ?_; rintro e w2 ⟨rfl, hb_w2⟩; have HS2 : Hid (Row w2 (w.heap.size) 86 [.int .i64 a, .int .i64 b, .int .i64 c, .int .i64 d, .int .i64 x, .int .i64 y, .int .i64 k, .int .i64 l, .int .i64 m, .int .i64 n, .int .i64 u, .int .i64 v] ∧ Row w2 (w.heap.size + 1) 90 [.int .i64 0, .int .i64 0] ∧ Below w.heap.size w w2) := ⟨(HS1.out.1).old hb_w2, (HS1.out.2.1).old hb_w2, (HS1.out.2.2).trans (hb_w2.mono (HS1.out.2.2).size)⟩; clear hb_w2) | (refine wpList_load_row rfl 86 _ rfl (w.heap.size) rfl 86 #[.int .i64 a, .int .i64 b, .int .i64 c, .int .i64 d, .int .i64 x, .int .i64 y, .int .i64 k, .int .i64 l, .int .i64 m, .int .i64 n, .int .i64 u, .int .i64 v] (0, 0) _ HS2.out.1 Tryz.underlying86 rfl ?_ ?_; (kernel_rfl)) | (go_at_call 86; refine (HK.out _).mono ?_; rintro e w3 ⟨rfl, hb_w3⟩; have HS3 : Hid (Row w3 (w.heap.size) 86 [.int .i64 a, .int .i64 b, .int .i64 c, .int .i64 d, .int .i64 x, .int .i64 y, .int .i64 k, .int .i64 l, .int .i64 m, .int .i64 n, .int .i64 u, .int .i64 v] ∧ Row w3 (w.heap.size + 1) 90 [.int .i64 0, .int .i64 0] ∧ Below w.heap.size w w3) := ⟨(HS2.out.1).old hb_w3, (HS2.out.2.1).old hb_w3, (HS2.out.2.2).trans (hb_w3.mono (HS2.out.2.2).size)⟩; clear hb_w3))
 have hz1 : w.heap.size + 1 < w3.heap.size := HS3.out.2.1.lt
 have hzw : w.heap.size < w3.heap.size := by omega
 clear HS1 HS2 HC HK
 go_cut [8, 9] from 27 to 33 (fun s8 s9 wx => ∃ g8 g9, s8 = .pointer (some ⟨g8, 0, none⟩) ∧ s9 = .pointer (some ⟨g9, 0, none⟩) ∧ Row wx g8 167 [.int .i64 n1, .int .i64 Q1] ∧ Row wx g9 167 [.int .i64 n2, .int .i64 Q2] ∧ Row wx (w.heap.size) 86 [.int .i64 a, .int .i64 b, .int .i64 c, .int .i64 d, .int .i64 x, .int .i64 y, .int .i64 k, .int .i64 l, .int .i64 m, .int .i64 n, .int .i64 u, .int .i64 v] ∧ Row wx (w.heap.size + 1) 90 [.int .i64 0, .int .i64 0] ∧ Below w.heap.size w wx)
 case first =>
  clear HR e1 e2
  refine wp_region_held_drew (S := fun V => Row V (w.heap.size) 86 [.int .i64 a, .int .i64 b, .int .i64 c, .int .i64 d, .int .i64 x, .int .i64 y, .int .i64 k, .int .i64 l, .int .i64 m, .int .i64 n, .int .i64 u, .int .i64 v] ∧ Row V (w.heap.size + 1) 90 [.int .i64 0, .int .i64 0] ∧ Below w.heap.size w V) (by kernel_rfl) ?_ (fun hHeld => ?_)
  · exact ⟨(HS3.out.1).drew, (HS3.out.2.1).drew, (HS3.out.2.2).drew⟩
  refine tk 0 27 ?_ rfl (by kernel_rfl) (fun _ _ _ h => h) (by kernel_rfl) ?_ hHeld ?_
  rotate_left
  · intro w1 hSw; (try dsimp only at hSw); go_simp <;> with_reducible rfl
  try simp only [zz]
  refine tk 1 28 (.agg #[.int .i64 a, .int .i64 b, .int .i64 c, .int .i64 d, .int .i64 x, .int .i64 y]) rfl (by kernel_rfl) (fun _ _ _ h => h) (by kernel_rfl) (fun V hV => ex_Signal _ rfl (w.heap.size) 0 rfl ((hV.1).cell 0) ((hV.1).cell 1) ((hV.1).cell 2) ((hV.1).cell 3) ((hV.1).cell 4) ((hV.1).cell 5)) hHeld ?_
  try simp only [zz]
  refine tk 3 30 ?_ rfl (by kernel_rfl) (fun _ _ _ h => h) (by kernel_rfl) ?_ hHeld ?_
  rotate_left
  · intro w1 hSw; (try dsimp only at hSw); go_simp <;> with_reducible rfl
  try simp only [zz]
  refine tk 4 31 (.agg #[.int .i64 k, .int .i64 l, .int .i64 m, .int .i64 n, .int .i64 u, .int .i64 v]) rfl (by kernel_rfl) (fun _ _ _ h => h) (by kernel_rfl) (fun V hV => ex_Signal _ rfl (w.heap.size) 6 rfl ((hV.1).cell 6) ((hV.1).cell 7) ((hV.1).cell 8) ((hV.1).cell 9) ((hV.1).cell 10) ((hV.1).cell 11)) hHeld ?_
  try simp only [zz]
  refine wpAnyH_ready (rs := [2, 6, 7]) (by kernel_rfl) (by simp) ?_
  refine AllReadyH.cons rfl (fun K hK => ?_) (AllReadyH.cons rfl (fun K hK => ?_) (AllReadyH.cons rfl (fun K hK => ?_) (AllReadyH.nil)))
  ·
   go_simp
   go_at_call 82
   refine (HN1.out _).mono ?_
   rintro e v2 ⟨rfl, hb2⟩
   have hz2 := hb2.size
   try simp only [World.size_alloc, size_drewT] at hz2
   try go_simp
   refine hK.out _ _ ?_ (fun hHeld => ?_)
   · exact ⟨(hHeld.1).old hb2, (hHeld.2.1).old hb2, (hHeld.2.2).trans ((hb2).mono (hHeld.2.2).size)⟩
   clear hK K
   try simp only [zz]
   refine wpAnyH_ready (rs := [5, 6, 7]) (by kernel_rfl) (by simp) ?_
   refine AllReadyH.cons rfl (fun K hK => ?_) (AllReadyH.cons rfl (fun K hK => ?_) (AllReadyH.cons rfl (fun K hK => ?_) (AllReadyH.nil)))
   ·
    go_simp
    go_at_call 82
    refine (HN2.out _).mono ?_
    rintro e v5 ⟨rfl, hb5⟩
    have hz5 := hb5.size
    try simp only [World.size_alloc, size_drewT] at hz5
    try go_simp
    refine hK.out _ _ ?_ (fun hHeld => ?_)
    · exact ⟨(hHeld.1).old hb5, (hHeld.2.1).old hb5, (hHeld.2.2).trans ((hb5).mono (hHeld.2.2).size)⟩
    clear hK K
    try simp only [zz]
    refine wpAnyH_ready (rs := [6, 7]) (by kernel_rfl) (by simp) ?_
    refine AllReadyH.cons rfl (fun K hK => ?_) (AllReadyH.cons rfl (fun K hK => ?_) (AllReadyH.nil))
    ·
     go_simp
     refine hK.out _ _ ?_ (fun hHeld => ?_)
     · exact ⟨(hHeld.1).old ((Below.refl _ _).alloc (Nat.le_refl _) _), (hHeld.2.1).old ((Below.refl _ _).alloc (Nat.le_refl _) _), (hHeld.2.2).trans ((((Below.refl _ _).alloc (Nat.le_refl _) _)).mono (hHeld.2.2).size)⟩
     clear hK K
     try simp only [zz]
     refine st1 7 (by kernel_rfl) rfl (fun K hK => ?_)
     go_simp
     refine hK.out _ _ ?_ (fun hHeld => ?_)
     · exact ⟨(hHeld.1).old ((Below.refl _ _).alloc (Nat.le_refl _) _), (hHeld.2.1).old ((Below.refl _ _).alloc (Nat.le_refl _) _), (hHeld.2.2).trans ((((Below.refl _ _).alloc (Nat.le_refl _) _)).mono (hHeld.2.2).size)⟩
     clear hK K
     try simp only [zz]
     refine st1 8 (by kernel_rfl) rfl (fun K hK => ?_)
     refine step_store_row rfl 167 _ _ rfl _ [.int .i64 n1, .int .i64 Q1] rfl rfl 167 [.int .i64 0, .int .i64 0] ?_ (by kernel_rfl) rfl (by simp [Value.oneCell']) ?_
     · (repeat (first | with_reducible exact Row.new _ _ _ | (refine rowAt _ _ ?_; first | rfl | (simp only [World.size_alloc, size_drewT]; done)) | with_reducible refine Row.setRow (vs := [.int .i64 0, .int .i64 0]) ?_ _ | (with_reducible refine Row.farRow ?_ (by (try simp only [World.size_alloc, size_drewT] at *); omega) _) | with_reducible refine Row.old ?_ hb2 | with_reducible refine Row.old ?_ hb5 | with_reducible refine Row.alloc ?_ _ | with_reducible refine Row.drew ?_))
     refine hK.out _ _ ?_ (fun hHeld => ?_)
     · exact ⟨hHeld.1.farRow (by (try simp only [World.size_alloc, size_drewT]); omega) _, hHeld.2.1.farRow (by (try simp only [World.size_alloc, size_drewT]); omega) _, Below.setRow hHeld.2.2 (by (try simp only [World.size_alloc, size_drewT]); omega) _⟩
     clear hK K
     try simp only [zz]
     refine st1 9 (by kernel_rfl) rfl (fun K hK => ?_)
     refine step_store_row rfl 167 _ _ rfl _ [.int .i64 n2, .int .i64 Q2] rfl rfl 167 [.int .i64 0, .int .i64 0] ?_ (by kernel_rfl) rfl (by simp [Value.oneCell']) ?_
     · (repeat (first | with_reducible exact Row.new _ _ _ | (refine rowAt _ _ ?_; first | rfl | (simp only [World.size_alloc, size_drewT]; done)) | with_reducible refine Row.setRow (vs := [.int .i64 0, .int .i64 0]) ?_ _ | (with_reducible refine Row.farRow ?_ (by (try simp only [World.size_alloc, size_drewT] at *); omega) _) | with_reducible refine Row.old ?_ hb2 | with_reducible refine Row.old ?_ hb5 | with_reducible refine Row.alloc ?_ _ | with_reducible refine Row.drew ?_))
     refine hK.out _ _ ?_ (fun hHeld => ?_)
     · exact ⟨hHeld.1.farRow (by (try simp only [World.size_alloc, size_drewT]); omega) _, hHeld.2.1.farRow (by (try simp only [World.size_alloc, size_drewT]); omega) _, Below.setRow hHeld.2.2 (by (try simp only [World.size_alloc, size_drewT]); omega) _⟩
     clear hK K
     try simp only [zz]
     refine wpAnyH_done (by kernel_rfl) ?_ _
     go_wp2_with fail
     go_meet
     exact ⟨_, _, rfl, rfl, (by (repeat (first | with_reducible exact Row.new _ _ _ | (refine rowAt _ _ ?_; first | rfl | (simp only [World.size_alloc, size_drewT]; done)) | with_reducible refine Row.setRow (vs := [.int .i64 0, .int .i64 0]) ?_ _ | (with_reducible refine Row.farRow ?_ (by (try simp only [World.size_alloc, size_drewT] at *); omega) _) | with_reducible refine Row.old ?_ hb2 | with_reducible refine Row.old ?_ hb5 | with_reducible refine Row.alloc ?_ _ | with_reducible refine Row.drew ?_))), (by (repeat (first | with_reducible exact Row.new _ _ _ | (refine rowAt _ _ ?_; first | rfl | (simp only [World.size_alloc, size_drewT]; done)) | with_reducible refine Row.setRow (vs := [.int .i64 0, .int .i64 0]) ?_ _ | (with_reducible refine Row.farRow ?_ (by (try simp only [World.size_alloc, size_drewT] at *); omega) _) | with_reducible refine Row.old ?_ hb2 | with_reducible refine Row.old ?_ hb5 | with_reducible refine Row.alloc ?_ _ | with_reducible refine Row.drew ?_))), hHeld⟩
    ·
     go_simp
     refine hK.out _ _ ?_ (fun hHeld => ?_)
     · exact ⟨(hHeld.1).old ((Below.refl _ _).alloc (Nat.le_refl _) _), (hHeld.2.1).old ((Below.refl _ _).alloc (Nat.le_refl _) _), (hHeld.2.2).trans ((((Below.refl _ _).alloc (Nat.le_refl _) _)).mono (hHeld.2.2).size)⟩
     clear hK K
     try simp only [zz]
     refine st1 6 (by kernel_rfl) rfl (fun K hK => ?_)
     go_simp
     refine hK.out _ _ ?_ (fun hHeld => ?_)
     · exact ⟨(hHeld.1).old ((Below.refl _ _).alloc (Nat.le_refl _) _), (hHeld.2.1).old ((Below.refl _ _).alloc (Nat.le_refl _) _), (hHeld.2.2).trans ((((Below.refl _ _).alloc (Nat.le_refl _) _)).mono (hHeld.2.2).size)⟩
     clear hK K
     try simp only [zz]
     refine st1 8 (by kernel_rfl) rfl (fun K hK => ?_)
     refine step_store_row rfl 167 _ _ rfl _ [.int .i64 n1, .int .i64 Q1] rfl rfl 167 [.int .i64 0, .int .i64 0] ?_ (by kernel_rfl) rfl (by simp [Value.oneCell']) ?_
     · (repeat (first | with_reducible exact Row.new _ _ _ | (refine rowAt _ _ ?_; first | rfl | (simp only [World.size_alloc, size_drewT]; done)) | with_reducible refine Row.setRow (vs := [.int .i64 0, .int .i64 0]) ?_ _ | (with_reducible refine Row.farRow ?_ (by (try simp only [World.size_alloc, size_drewT] at *); omega) _) | with_reducible refine Row.old ?_ hb2 | with_reducible refine Row.old ?_ hb5 | with_reducible refine Row.alloc ?_ _ | with_reducible refine Row.drew ?_))
     refine hK.out _ _ ?_ (fun hHeld => ?_)
     · exact ⟨hHeld.1.farRow (by (try simp only [World.size_alloc, size_drewT]); omega) _, hHeld.2.1.farRow (by (try simp only [World.size_alloc, size_drewT]); omega) _, Below.setRow hHeld.2.2 (by (try simp only [World.size_alloc, size_drewT]); omega) _⟩
     clear hK K
     try simp only [zz]
     refine st1 9 (by kernel_rfl) rfl (fun K hK => ?_)
     refine step_store_row rfl 167 _ _ rfl _ [.int .i64 n2, .int .i64 Q2] rfl rfl 167 [.int .i64 0, .int .i64 0] ?_ (by kernel_rfl) rfl (by simp [Value.oneCell']) ?_
     · (repeat (first | with_reducible exact Row.new _ _ _ | (refine rowAt _ _ ?_; first | rfl | (simp only [World.size_alloc, size_drewT]; done)) | with_reducible refine Row.setRow (vs := [.int .i64 0, .int .i64 0]) ?_ _ | (with_reducible refine Row.farRow ?_ (by (try simp only [World.size_alloc, size_drewT] at *); omega) _) | with_reducible refine Row.old ?_ hb2 | with_reducible refine Row.old ?_ hb5 | with_reducible refine Row.alloc ?_ _ | with_reducible refine Row.drew ?_))
     refine hK.out _ _ ?_ (fun hHeld => ?_)
     · exact ⟨hHeld.1.farRow (by (try simp only [World.size_alloc, size_drewT]); omega) _, hHeld.2.1.farRow (by (try simp only [World.size_alloc, size_drewT]); omega) _, Below.setRow hHeld.2.2 (by (try simp only [World.size_alloc, size_drewT]); omega) _⟩
     clear hK K
     try simp only [zz]
     refine wpAnyH_done (by kernel_rfl) ?_ _
     go_wp2_with fail
     go_meet
     exact ⟨_, _, rfl, rfl, (by (repeat (first | with_reducible exact Row.new _ _ _ | (refine rowAt _ _ ?_; first | rfl | (simp only [World.size_alloc, size_drewT]; done)) | with_reducible refine Row.setRow (vs := [.int .i64 0, .int .i64 0]) ?_ _ | (with_reducible refine Row.farRow ?_ (by (try simp only [World.size_alloc, size_drewT] at *); omega) _) | with_reducible refine Row.old ?_ hb2 | with_reducible refine Row.old ?_ hb5 | with_reducible refine Row.alloc ?_ _ | with_reducible refine Row.drew ?_))), (by (repeat (first | with_reducible exact Row.new _ _ _ | (refine rowAt _ _ ?_; first | rfl | (simp only [World.size_alloc, size_drewT]; done)) | with_reducible refine Row.setRow (vs := [.int .i64 0, .int .i64 0]) ?_ _ | (with_reducible refine Row.farRow ?_ (by (try simp only [World.size_alloc, size_drewT] at *); omega) _) | with_reducible refine Row.old ?_ hb2 | with_reducible refine Row.old ?_ hb5 | with_reducible refine Row.alloc ?_ _ | with_reducible refine Row.drew ?_))), hHeld⟩
   ·
    go_simp
    refine hK.out _ _ ?_ (fun hHeld => ?_)
    · exact ⟨(hHeld.1).old ((Below.refl _ _).alloc (Nat.le_refl _) _), (hHeld.2.1).old ((Below.refl _ _).alloc (Nat.le_refl _) _), (hHeld.2.2).trans ((((Below.refl _ _).alloc (Nat.le_refl _) _)).mono (hHeld.2.2).size)⟩
    clear hK K
    try simp only [zz]
    refine wpAnyH_ready (rs := [5, 7]) (by kernel_rfl) (by simp) ?_
    refine AllReadyH.cons rfl (fun K hK => ?_) (AllReadyH.cons rfl (fun K hK => ?_) (AllReadyH.nil))
    ·
     go_simp
     go_at_call 82
     refine (HN2.out _).mono ?_
     rintro e v5 ⟨rfl, hb5⟩
     have hz5 := hb5.size
     try simp only [World.size_alloc, size_drewT] at hz5
     try go_simp
     refine hK.out _ _ ?_ (fun hHeld => ?_)
     · exact ⟨(hHeld.1).old hb5, (hHeld.2.1).old hb5, (hHeld.2.2).trans ((hb5).mono (hHeld.2.2).size)⟩
     clear hK K
     try simp only [zz]
     refine st1 7 (by kernel_rfl) rfl (fun K hK => ?_)
     go_simp
     refine hK.out _ _ ?_ (fun hHeld => ?_)
     · exact ⟨(hHeld.1).old ((Below.refl _ _).alloc (Nat.le_refl _) _), (hHeld.2.1).old ((Below.refl _ _).alloc (Nat.le_refl _) _), (hHeld.2.2).trans ((((Below.refl _ _).alloc (Nat.le_refl _) _)).mono (hHeld.2.2).size)⟩
     clear hK K
     try simp only [zz]
     refine st1 8 (by kernel_rfl) rfl (fun K hK => ?_)
     refine step_store_row rfl 167 _ _ rfl _ [.int .i64 n1, .int .i64 Q1] rfl rfl 167 [.int .i64 0, .int .i64 0] ?_ (by kernel_rfl) rfl (by simp [Value.oneCell']) ?_
     · (repeat (first | with_reducible exact Row.new _ _ _ | (refine rowAt _ _ ?_; first | rfl | (simp only [World.size_alloc, size_drewT]; done)) | with_reducible refine Row.setRow (vs := [.int .i64 0, .int .i64 0]) ?_ _ | (with_reducible refine Row.farRow ?_ (by (try simp only [World.size_alloc, size_drewT] at *); omega) _) | with_reducible refine Row.old ?_ hb2 | with_reducible refine Row.old ?_ hb5 | with_reducible refine Row.alloc ?_ _ | with_reducible refine Row.drew ?_))
     refine hK.out _ _ ?_ (fun hHeld => ?_)
     · exact ⟨hHeld.1.farRow (by (try simp only [World.size_alloc, size_drewT]); omega) _, hHeld.2.1.farRow (by (try simp only [World.size_alloc, size_drewT]); omega) _, Below.setRow hHeld.2.2 (by (try simp only [World.size_alloc, size_drewT]); omega) _⟩
     clear hK K
     try simp only [zz]
     refine st1 9 (by kernel_rfl) rfl (fun K hK => ?_)
     refine step_store_row rfl 167 _ _ rfl _ [.int .i64 n2, .int .i64 Q2] rfl rfl 167 [.int .i64 0, .int .i64 0] ?_ (by kernel_rfl) rfl (by simp [Value.oneCell']) ?_
     · (repeat (first | with_reducible exact Row.new _ _ _ | (refine rowAt _ _ ?_; first | rfl | (simp only [World.size_alloc, size_drewT]; done)) | with_reducible refine Row.setRow (vs := [.int .i64 0, .int .i64 0]) ?_ _ | (with_reducible refine Row.farRow ?_ (by (try simp only [World.size_alloc, size_drewT] at *); omega) _) | with_reducible refine Row.old ?_ hb2 | with_reducible refine Row.old ?_ hb5 | with_reducible refine Row.alloc ?_ _ | with_reducible refine Row.drew ?_))
     refine hK.out _ _ ?_ (fun hHeld => ?_)
     · exact ⟨hHeld.1.farRow (by (try simp only [World.size_alloc, size_drewT]); omega) _, hHeld.2.1.farRow (by (try simp only [World.size_alloc, size_drewT]); omega) _, Below.setRow hHeld.2.2 (by (try simp only [World.size_alloc, size_drewT]); omega) _⟩
     clear hK K
     try simp only [zz]
     refine wpAnyH_done (by kernel_rfl) ?_ _
     go_wp2_with fail
     go_meet
     exact ⟨_, _, rfl, rfl, (by (repeat (first | with_reducible exact Row.new _ _ _ | (refine rowAt _ _ ?_; first | rfl | (simp only [World.size_alloc, size_drewT]; done)) | with_reducible refine Row.setRow (vs := [.int .i64 0, .int .i64 0]) ?_ _ | (with_reducible refine Row.farRow ?_ (by (try simp only [World.size_alloc, size_drewT] at *); omega) _) | with_reducible refine Row.old ?_ hb2 | with_reducible refine Row.old ?_ hb5 | with_reducible refine Row.alloc ?_ _ | with_reducible refine Row.drew ?_))), (by (repeat (first | with_reducible exact Row.new _ _ _ | (refine rowAt _ _ ?_; first | rfl | (simp only [World.size_alloc, size_drewT]; done)) | with_reducible refine Row.setRow (vs := [.int .i64 0, .int .i64 0]) ?_ _ | (with_reducible refine Row.farRow ?_ (by (try simp only [World.size_alloc, size_drewT] at *); omega) _) | with_reducible refine Row.old ?_ hb2 | with_reducible refine Row.old ?_ hb5 | with_reducible refine Row.alloc ?_ _ | with_reducible refine Row.drew ?_))), hHeld⟩
    ·
     go_simp
     refine hK.out _ _ ?_ (fun hHeld => ?_)
     · exact ⟨(hHeld.1).old ((Below.refl _ _).alloc (Nat.le_refl _) _), (hHeld.2.1).old ((Below.refl _ _).alloc (Nat.le_refl _) _), (hHeld.2.2).trans ((((Below.refl _ _).alloc (Nat.le_refl _) _)).mono (hHeld.2.2).size)⟩
     clear hK K
     try simp only [zz]
     refine st1 5 (by kernel_rfl) rfl (fun K hK => ?_)
     go_simp
     go_at_call 82
     refine (HN2.out _).mono ?_
     rintro e v5 ⟨rfl, hb5⟩
     have hz5 := hb5.size
     try simp only [World.size_alloc, size_drewT] at hz5
     try go_simp
     refine hK.out _ _ ?_ (fun hHeld => ?_)
     · exact ⟨(hHeld.1).old hb5, (hHeld.2.1).old hb5, (hHeld.2.2).trans ((hb5).mono (hHeld.2.2).size)⟩
     clear hK K
     try simp only [zz]
     refine st1 8 (by kernel_rfl) rfl (fun K hK => ?_)
     refine step_store_row rfl 167 _ _ rfl _ [.int .i64 n1, .int .i64 Q1] rfl rfl 167 [.int .i64 0, .int .i64 0] ?_ (by kernel_rfl) rfl (by simp [Value.oneCell']) ?_
     · (repeat (first | with_reducible exact Row.new _ _ _ | (refine rowAt _ _ ?_; first | rfl | (simp only [World.size_alloc, size_drewT]; done)) | with_reducible refine Row.setRow (vs := [.int .i64 0, .int .i64 0]) ?_ _ | (with_reducible refine Row.farRow ?_ (by (try simp only [World.size_alloc, size_drewT] at *); omega) _) | with_reducible refine Row.old ?_ hb2 | with_reducible refine Row.old ?_ hb5 | with_reducible refine Row.alloc ?_ _ | with_reducible refine Row.drew ?_))
     refine hK.out _ _ ?_ (fun hHeld => ?_)
     · exact ⟨hHeld.1.farRow (by (try simp only [World.size_alloc, size_drewT]); omega) _, hHeld.2.1.farRow (by (try simp only [World.size_alloc, size_drewT]); omega) _, Below.setRow hHeld.2.2 (by (try simp only [World.size_alloc, size_drewT]); omega) _⟩
     clear hK K
     try simp only [zz]
     refine st1 9 (by kernel_rfl) rfl (fun K hK => ?_)
     refine step_store_row rfl 167 _ _ rfl _ [.int .i64 n2, .int .i64 Q2] rfl rfl 167 [.int .i64 0, .int .i64 0] ?_ (by kernel_rfl) rfl (by simp [Value.oneCell']) ?_
     · (repeat (first | with_reducible exact Row.new _ _ _ | (refine rowAt _ _ ?_; first | rfl | (simp only [World.size_alloc, size_drewT]; done)) | with_reducible refine Row.setRow (vs := [.int .i64 0, .int .i64 0]) ?_ _ | (with_reducible refine Row.farRow ?_ (by (try simp only [World.size_alloc, size_drewT] at *); omega) _) | with_reducible refine Row.old ?_ hb2 | with_reducible refine Row.old ?_ hb5 | with_reducible refine Row.alloc ?_ _ | with_reducible refine Row.drew ?_))
     refine hK.out _ _ ?_ (fun hHeld => ?_)
     · exact ⟨hHeld.1.farRow (by (try simp only [World.size_alloc, size_drewT]); omega) _, hHeld.2.1.farRow (by (try simp only [World.size_alloc, size_drewT]); omega) _, Below.setRow hHeld.2.2 (by (try simp only [World.size_alloc, size_drewT]); omega) _⟩
     clear hK K
     try simp only [zz]
     refine wpAnyH_done (by kernel_rfl) ?_ _
     go_wp2_with fail
     go_meet
     exact ⟨_, _, rfl, rfl, (by (repeat (first | with_reducible exact Row.new _ _ _ | (refine rowAt _ _ ?_; first | rfl | (simp only [World.size_alloc, size_drewT]; done)) | with_reducible refine Row.setRow (vs := [.int .i64 0, .int .i64 0]) ?_ _ | (with_reducible refine Row.farRow ?_ (by (try simp only [World.size_alloc, size_drewT] at *); omega) _) | with_reducible refine Row.old ?_ hb2 | with_reducible refine Row.old ?_ hb5 | with_reducible refine Row.alloc ?_ _ | with_reducible refine Row.drew ?_))), (by (repeat (first | with_reducible exact Row.new _ _ _ | (refine rowAt _ _ ?_; first | rfl | (simp only [World.size_alloc, size_drewT]; done)) | with_reducible refine Row.setRow (vs := [.int .i64 0, .int .i64 0]) ?_ _ | (with_reducible refine Row.farRow ?_ (by (try simp only [World.size_alloc, size_drewT] at *); omega) _) | with_reducible refine Row.old ?_ hb2 | with_reducible refine Row.old ?_ hb5 | with_reducible refine Row.alloc ?_ _ | with_reducible refine Row.drew ?_))), hHeld⟩
   ·
    go_simp
    refine hK.out _ _ ?_ (fun hHeld => ?_)
    · exact ⟨(hHeld.1).old ((Below.refl _ _).alloc (Nat.le_refl _) _), (hHeld.2.1).old ((Below.refl _ _).alloc (Nat.le_refl _) _), (hHeld.2.2).trans ((((Below.refl _ _).alloc (Nat.le_refl _) _)).mono (hHeld.2.2).size)⟩
    clear hK K
    try simp only [zz]
    refine wpAnyH_ready (rs := [5, 6]) (by kernel_rfl) (by simp) ?_
    refine AllReadyH.cons rfl (fun K hK => ?_) (AllReadyH.cons rfl (fun K hK => ?_) (AllReadyH.nil))
    ·
     go_simp
     go_at_call 82
     refine (HN2.out _).mono ?_
     rintro e v5 ⟨rfl, hb5⟩
     have hz5 := hb5.size
     try simp only [World.size_alloc, size_drewT] at hz5
     try go_simp
     refine hK.out _ _ ?_ (fun hHeld => ?_)
     · exact ⟨(hHeld.1).old hb5, (hHeld.2.1).old hb5, (hHeld.2.2).trans ((hb5).mono (hHeld.2.2).size)⟩
     clear hK K
     try simp only [zz]
     refine st1 6 (by kernel_rfl) rfl (fun K hK => ?_)
     go_simp
     refine hK.out _ _ ?_ (fun hHeld => ?_)
     · exact ⟨(hHeld.1).old ((Below.refl _ _).alloc (Nat.le_refl _) _), (hHeld.2.1).old ((Below.refl _ _).alloc (Nat.le_refl _) _), (hHeld.2.2).trans ((((Below.refl _ _).alloc (Nat.le_refl _) _)).mono (hHeld.2.2).size)⟩
     clear hK K
     try simp only [zz]
     refine st1 8 (by kernel_rfl) rfl (fun K hK => ?_)
     refine step_store_row rfl 167 _ _ rfl _ [.int .i64 n1, .int .i64 Q1] rfl rfl 167 [.int .i64 0, .int .i64 0] ?_ (by kernel_rfl) rfl (by simp [Value.oneCell']) ?_
     · (repeat (first | with_reducible exact Row.new _ _ _ | (refine rowAt _ _ ?_; first | rfl | (simp only [World.size_alloc, size_drewT]; done)) | with_reducible refine Row.setRow (vs := [.int .i64 0, .int .i64 0]) ?_ _ | (with_reducible refine Row.farRow ?_ (by (try simp only [World.size_alloc, size_drewT] at *); omega) _) | with_reducible refine Row.old ?_ hb2 | with_reducible refine Row.old ?_ hb5 | with_reducible refine Row.alloc ?_ _ | with_reducible refine Row.drew ?_))
     refine hK.out _ _ ?_ (fun hHeld => ?_)
     · exact ⟨hHeld.1.farRow (by (try simp only [World.size_alloc, size_drewT]); omega) _, hHeld.2.1.farRow (by (try simp only [World.size_alloc, size_drewT]); omega) _, Below.setRow hHeld.2.2 (by (try simp only [World.size_alloc, size_drewT]); omega) _⟩
     clear hK K
     try simp only [zz]
     refine st1 9 (by kernel_rfl) rfl (fun K hK => ?_)
     refine step_store_row rfl 167 _ _ rfl _ [.int .i64 n2, .int .i64 Q2] rfl rfl 167 [.int .i64 0, .int .i64 0] ?_ (by kernel_rfl) rfl (by simp [Value.oneCell']) ?_
     · (repeat (first | with_reducible exact Row.new _ _ _ | (refine rowAt _ _ ?_; first | rfl | (simp only [World.size_alloc, size_drewT]; done)) | with_reducible refine Row.setRow (vs := [.int .i64 0, .int .i64 0]) ?_ _ | (with_reducible refine Row.farRow ?_ (by (try simp only [World.size_alloc, size_drewT] at *); omega) _) | with_reducible refine Row.old ?_ hb2 | with_reducible refine Row.old ?_ hb5 | with_reducible refine Row.alloc ?_ _ | with_reducible refine Row.drew ?_))
     refine hK.out _ _ ?_ (fun hHeld => ?_)
     · exact ⟨hHeld.1.farRow (by (try simp only [World.size_alloc, size_drewT]); omega) _, hHeld.2.1.farRow (by (try simp only [World.size_alloc, size_drewT]); omega) _, Below.setRow hHeld.2.2 (by (try simp only [World.size_alloc, size_drewT]); omega) _⟩
     clear hK K
     try simp only [zz]
     refine wpAnyH_done (by kernel_rfl) ?_ _
     go_wp2_with fail
     go_meet
     exact ⟨_, _, rfl, rfl, (by (repeat (first | with_reducible exact Row.new _ _ _ | (refine rowAt _ _ ?_; first | rfl | (simp only [World.size_alloc, size_drewT]; done)) | with_reducible refine Row.setRow (vs := [.int .i64 0, .int .i64 0]) ?_ _ | (with_reducible refine Row.farRow ?_ (by (try simp only [World.size_alloc, size_drewT] at *); omega) _) | with_reducible refine Row.old ?_ hb2 | with_reducible refine Row.old ?_ hb5 | with_reducible refine Row.alloc ?_ _ | with_reducible refine Row.drew ?_))), (by (repeat (first | with_reducible exact Row.new _ _ _ | (refine rowAt _ _ ?_; first | rfl | (simp only [World.size_alloc, size_drewT]; done)) | with_reducible refine Row.setRow (vs := [.int .i64 0, .int .i64 0]) ?_ _ | (with_reducible refine Row.farRow ?_ (by (try simp only [World.size_alloc, size_drewT] at *); omega) _) | with_reducible refine Row.old ?_ hb2 | with_reducible refine Row.old ?_ hb5 | with_reducible refine Row.alloc ?_ _ | with_reducible refine Row.drew ?_))), hHeld⟩
    ·
     go_simp
     refine hK.out _ _ ?_ (fun hHeld => ?_)
     · exact ⟨(hHeld.1).old ((Below.refl _ _).alloc (Nat.le_refl _) _), (hHeld.2.1).old ((Below.refl _ _).alloc (Nat.le_refl _) _), (hHeld.2.2).trans ((((Below.refl _ _).alloc (Nat.le_refl _) _)).mono (hHeld.2.2).size)⟩
     clear hK K
     try simp only [zz]
     refine st1 5 (by kernel_rfl) rfl (fun K hK => ?_)
     go_simp
     go_at_call 82
     refine (HN2.out _).mono ?_
     rintro e v5 ⟨rfl, hb5⟩
     have hz5 := hb5.size
     try simp only [World.size_alloc, size_drewT] at hz5
     try go_simp
     refine hK.out _ _ ?_ (fun hHeld => ?_)
     · exact ⟨(hHeld.1).old hb5, (hHeld.2.1).old hb5, (hHeld.2.2).trans ((hb5).mono (hHeld.2.2).size)⟩
     clear hK K
     try simp only [zz]
     refine st1 8 (by kernel_rfl) rfl (fun K hK => ?_)
     refine step_store_row rfl 167 _ _ rfl _ [.int .i64 n1, .int .i64 Q1] rfl rfl 167 [.int .i64 0, .int .i64 0] ?_ (by kernel_rfl) rfl (by simp [Value.oneCell']) ?_
     · (repeat (first | with_reducible exact Row.new _ _ _ | (refine rowAt _ _ ?_; first | rfl | (simp only [World.size_alloc, size_drewT]; done)) | with_reducible refine Row.setRow (vs := [.int .i64 0, .int .i64 0]) ?_ _ | (with_reducible refine Row.farRow ?_ (by (try simp only [World.size_alloc, size_drewT] at *); omega) _) | with_reducible refine Row.old ?_ hb2 | with_reducible refine Row.old ?_ hb5 | with_reducible refine Row.alloc ?_ _ | with_reducible refine Row.drew ?_))
     refine hK.out _ _ ?_ (fun hHeld => ?_)
     · exact ⟨hHeld.1.farRow (by (try simp only [World.size_alloc, size_drewT]); omega) _, hHeld.2.1.farRow (by (try simp only [World.size_alloc, size_drewT]); omega) _, Below.setRow hHeld.2.2 (by (try simp only [World.size_alloc, size_drewT]); omega) _⟩
     clear hK K
     try simp only [zz]
     refine st1 9 (by kernel_rfl) rfl (fun K hK => ?_)
     refine step_store_row rfl 167 _ _ rfl _ [.int .i64 n2, .int .i64 Q2] rfl rfl 167 [.int .i64 0, .int .i64 0] ?_ (by kernel_rfl) rfl (by simp [Value.oneCell']) ?_
     · (repeat (first | with_reducible exact Row.new _ _ _ | (refine rowAt _ _ ?_; first | rfl | (simp only [World.size_alloc, size_drewT]; done)) | with_reducible refine Row.setRow (vs := [.int .i64 0, .int .i64 0]) ?_ _ | (with_reducible refine Row.farRow ?_ (by (try simp only [World.size_alloc, size_drewT] at *); omega) _) | with_reducible refine Row.old ?_ hb2 | with_reducible refine Row.old ?_ hb5 | with_reducible refine Row.alloc ?_ _ | with_reducible refine Row.drew ?_))
     refine hK.out _ _ ?_ (fun hHeld => ?_)
     · exact ⟨hHeld.1.farRow (by (try simp only [World.size_alloc, size_drewT]); omega) _, hHeld.2.1.farRow (by (try simp only [World.size_alloc, size_drewT]); omega) _, Below.setRow hHeld.2.2 (by (try simp only [World.size_alloc, size_drewT]); omega) _⟩
     clear hK K
     try simp only [zz]
     refine wpAnyH_done (by kernel_rfl) ?_ _
     go_wp2_with fail
     go_meet
     exact ⟨_, _, rfl, rfl, (by (repeat (first | with_reducible exact Row.new _ _ _ | (refine rowAt _ _ ?_; first | rfl | (simp only [World.size_alloc, size_drewT]; done)) | with_reducible refine Row.setRow (vs := [.int .i64 0, .int .i64 0]) ?_ _ | (with_reducible refine Row.farRow ?_ (by (try simp only [World.size_alloc, size_drewT] at *); omega) _) | with_reducible refine Row.old ?_ hb2 | with_reducible refine Row.old ?_ hb5 | with_reducible refine Row.alloc ?_ _ | with_reducible refine Row.drew ?_))), (by (repeat (first | with_reducible exact Row.new _ _ _ | (refine rowAt _ _ ?_; first | rfl | (simp only [World.size_alloc, size_drewT]; done)) | with_reducible refine Row.setRow (vs := [.int .i64 0, .int .i64 0]) ?_ _ | (with_reducible refine Row.farRow ?_ (by (try simp only [World.size_alloc, size_drewT] at *); omega) _) | with_reducible refine Row.old ?_ hb2 | with_reducible refine Row.old ?_ hb5 | with_reducible refine Row.alloc ?_ _ | with_reducible refine Row.drew ?_))), hHeld⟩
  ·
   go_simp
   refine hK.out _ _ ?_ (fun hHeld => ?_)
   · exact ⟨(hHeld.1).old ((Below.refl _ _).alloc (Nat.le_refl _) _), (hHeld.2.1).old ((Below.refl _ _).alloc (Nat.le_refl _) _), (hHeld.2.2).trans ((((Below.refl _ _).alloc (Nat.le_refl _) _)).mono (hHeld.2.2).size)⟩
   clear hK K
   try simp only [zz]
   refine wpAnyH_ready (rs := [2, 7]) (by kernel_rfl) (by simp) ?_
   refine AllReadyH.cons rfl (fun K hK => ?_) (AllReadyH.cons rfl (fun K hK => ?_) (AllReadyH.nil))
   ·
    go_simp
    go_at_call 82
    refine (HN1.out _).mono ?_
    rintro e v2 ⟨rfl, hb2⟩
    have hz2 := hb2.size
    try simp only [World.size_alloc, size_drewT] at hz2
    try go_simp
    refine hK.out _ _ ?_ (fun hHeld => ?_)
    · exact ⟨(hHeld.1).old hb2, (hHeld.2.1).old hb2, (hHeld.2.2).trans ((hb2).mono (hHeld.2.2).size)⟩
    clear hK K
    try simp only [zz]
    refine wpAnyH_ready (rs := [5, 7]) (by kernel_rfl) (by simp) ?_
    refine AllReadyH.cons rfl (fun K hK => ?_) (AllReadyH.cons rfl (fun K hK => ?_) (AllReadyH.nil))
    ·
     go_simp
     go_at_call 82
     refine (HN2.out _).mono ?_
     rintro e v5 ⟨rfl, hb5⟩
     have hz5 := hb5.size
     try simp only [World.size_alloc, size_drewT] at hz5
     try go_simp
     refine hK.out _ _ ?_ (fun hHeld => ?_)
     · exact ⟨(hHeld.1).old hb5, (hHeld.2.1).old hb5, (hHeld.2.2).trans ((hb5).mono (hHeld.2.2).size)⟩
     clear hK K
     try simp only [zz]
     refine st1 7 (by kernel_rfl) rfl (fun K hK => ?_)
     go_simp
     refine hK.out _ _ ?_ (fun hHeld => ?_)
     · exact ⟨(hHeld.1).old ((Below.refl _ _).alloc (Nat.le_refl _) _), (hHeld.2.1).old ((Below.refl _ _).alloc (Nat.le_refl _) _), (hHeld.2.2).trans ((((Below.refl _ _).alloc (Nat.le_refl _) _)).mono (hHeld.2.2).size)⟩
     clear hK K
     try simp only [zz]
     refine st1 8 (by kernel_rfl) rfl (fun K hK => ?_)
     refine step_store_row rfl 167 _ _ rfl _ [.int .i64 n1, .int .i64 Q1] rfl rfl 167 [.int .i64 0, .int .i64 0] ?_ (by kernel_rfl) rfl (by simp [Value.oneCell']) ?_
     · (repeat (first | with_reducible exact Row.new _ _ _ | (refine rowAt _ _ ?_; first | rfl | (simp only [World.size_alloc, size_drewT]; done)) | with_reducible refine Row.setRow (vs := [.int .i64 0, .int .i64 0]) ?_ _ | (with_reducible refine Row.farRow ?_ (by (try simp only [World.size_alloc, size_drewT] at *); omega) _) | with_reducible refine Row.old ?_ hb2 | with_reducible refine Row.old ?_ hb5 | with_reducible refine Row.alloc ?_ _ | with_reducible refine Row.drew ?_))
     refine hK.out _ _ ?_ (fun hHeld => ?_)
     · exact ⟨hHeld.1.farRow (by (try simp only [World.size_alloc, size_drewT]); omega) _, hHeld.2.1.farRow (by (try simp only [World.size_alloc, size_drewT]); omega) _, Below.setRow hHeld.2.2 (by (try simp only [World.size_alloc, size_drewT]); omega) _⟩
     clear hK K
     try simp only [zz]
     refine st1 9 (by kernel_rfl) rfl (fun K hK => ?_)
     refine step_store_row rfl 167 _ _ rfl _ [.int .i64 n2, .int .i64 Q2] rfl rfl 167 [.int .i64 0, .int .i64 0] ?_ (by kernel_rfl) rfl (by simp [Value.oneCell']) ?_
     · (repeat (first | with_reducible exact Row.new _ _ _ | (refine rowAt _ _ ?_; first | rfl | (simp only [World.size_alloc, size_drewT]; done)) | with_reducible refine Row.setRow (vs := [.int .i64 0, .int .i64 0]) ?_ _ | (with_reducible refine Row.farRow ?_ (by (try simp only [World.size_alloc, size_drewT] at *); omega) _) | with_reducible refine Row.old ?_ hb2 | with_reducible refine Row.old ?_ hb5 | with_reducible refine Row.alloc ?_ _ | with_reducible refine Row.drew ?_))
     refine hK.out _ _ ?_ (fun hHeld => ?_)
     · exact ⟨hHeld.1.farRow (by (try simp only [World.size_alloc, size_drewT]); omega) _, hHeld.2.1.farRow (by (try simp only [World.size_alloc, size_drewT]); omega) _, Below.setRow hHeld.2.2 (by (try simp only [World.size_alloc, size_drewT]); omega) _⟩
     clear hK K
     try simp only [zz]
     refine wpAnyH_done (by kernel_rfl) ?_ _
     go_wp2_with fail
     go_meet
     exact ⟨_, _, rfl, rfl, (by (repeat (first | with_reducible exact Row.new _ _ _ | (refine rowAt _ _ ?_; first | rfl | (simp only [World.size_alloc, size_drewT]; done)) | with_reducible refine Row.setRow (vs := [.int .i64 0, .int .i64 0]) ?_ _ | (with_reducible refine Row.farRow ?_ (by (try simp only [World.size_alloc, size_drewT] at *); omega) _) | with_reducible refine Row.old ?_ hb2 | with_reducible refine Row.old ?_ hb5 | with_reducible refine Row.alloc ?_ _ | with_reducible refine Row.drew ?_))), (by (repeat (first | with_reducible exact Row.new _ _ _ | (refine rowAt _ _ ?_; first | rfl | (simp only [World.size_alloc, size_drewT]; done)) | with_reducible refine Row.setRow (vs := [.int .i64 0, .int .i64 0]) ?_ _ | (with_reducible refine Row.farRow ?_ (by (try simp only [World.size_alloc, size_drewT] at *); omega) _) | with_reducible refine Row.old ?_ hb2 | with_reducible refine Row.old ?_ hb5 | with_reducible refine Row.alloc ?_ _ | with_reducible refine Row.drew ?_))), hHeld⟩
    ·
     go_simp
     refine hK.out _ _ ?_ (fun hHeld => ?_)
     · exact ⟨(hHeld.1).old ((Below.refl _ _).alloc (Nat.le_refl _) _), (hHeld.2.1).old ((Below.refl _ _).alloc (Nat.le_refl _) _), (hHeld.2.2).trans ((((Below.refl _ _).alloc (Nat.le_refl _) _)).mono (hHeld.2.2).size)⟩
     clear hK K
     try simp only [zz]
     refine st1 5 (by kernel_rfl) rfl (fun K hK => ?_)
     go_simp
     go_at_call 82
     refine (HN2.out _).mono ?_
     rintro e v5 ⟨rfl, hb5⟩
     have hz5 := hb5.size
     try simp only [World.size_alloc, size_drewT] at hz5
     try go_simp
     refine hK.out _ _ ?_ (fun hHeld => ?_)
     · exact ⟨(hHeld.1).old hb5, (hHeld.2.1).old hb5, (hHeld.2.2).trans ((hb5).mono (hHeld.2.2).size)⟩
     clear hK K
     try simp only [zz]
     refine st1 8 (by kernel_rfl) rfl (fun K hK => ?_)
     refine step_store_row rfl 167 _ _ rfl _ [.int .i64 n1, .int .i64 Q1] rfl rfl 167 [.int .i64 0, .int .i64 0] ?_ (by kernel_rfl) rfl (by simp [Value.oneCell']) ?_
     · (repeat (first | with_reducible exact Row.new _ _ _ | (refine rowAt _ _ ?_; first | rfl | (simp only [World.size_alloc, size_drewT]; done)) | with_reducible refine Row.setRow (vs := [.int .i64 0, .int .i64 0]) ?_ _ | (with_reducible refine Row.farRow ?_ (by (try simp only [World.size_alloc, size_drewT] at *); omega) _) | with_reducible refine Row.old ?_ hb2 | with_reducible refine Row.old ?_ hb5 | with_reducible refine Row.alloc ?_ _ | with_reducible refine Row.drew ?_))
     refine hK.out _ _ ?_ (fun hHeld => ?_)
     · exact ⟨hHeld.1.farRow (by (try simp only [World.size_alloc, size_drewT]); omega) _, hHeld.2.1.farRow (by (try simp only [World.size_alloc, size_drewT]); omega) _, Below.setRow hHeld.2.2 (by (try simp only [World.size_alloc, size_drewT]); omega) _⟩
     clear hK K
     try simp only [zz]
     refine st1 9 (by kernel_rfl) rfl (fun K hK => ?_)
     refine step_store_row rfl 167 _ _ rfl _ [.int .i64 n2, .int .i64 Q2] rfl rfl 167 [.int .i64 0, .int .i64 0] ?_ (by kernel_rfl) rfl (by simp [Value.oneCell']) ?_
     · (repeat (first | with_reducible exact Row.new _ _ _ | (refine rowAt _ _ ?_; first | rfl | (simp only [World.size_alloc, size_drewT]; done)) | with_reducible refine Row.setRow (vs := [.int .i64 0, .int .i64 0]) ?_ _ | (with_reducible refine Row.farRow ?_ (by (try simp only [World.size_alloc, size_drewT] at *); omega) _) | with_reducible refine Row.old ?_ hb2 | with_reducible refine Row.old ?_ hb5 | with_reducible refine Row.alloc ?_ _ | with_reducible refine Row.drew ?_))
     refine hK.out _ _ ?_ (fun hHeld => ?_)
     · exact ⟨hHeld.1.farRow (by (try simp only [World.size_alloc, size_drewT]); omega) _, hHeld.2.1.farRow (by (try simp only [World.size_alloc, size_drewT]); omega) _, Below.setRow hHeld.2.2 (by (try simp only [World.size_alloc, size_drewT]); omega) _⟩
     clear hK K
     try simp only [zz]
     refine wpAnyH_done (by kernel_rfl) ?_ _
     go_wp2_with fail
     go_meet
     exact ⟨_, _, rfl, rfl, (by (repeat (first | with_reducible exact Row.new _ _ _ | (refine rowAt _ _ ?_; first | rfl | (simp only [World.size_alloc, size_drewT]; done)) | with_reducible refine Row.setRow (vs := [.int .i64 0, .int .i64 0]) ?_ _ | (with_reducible refine Row.farRow ?_ (by (try simp only [World.size_alloc, size_drewT] at *); omega) _) | with_reducible refine Row.old ?_ hb2 | with_reducible refine Row.old ?_ hb5 | with_reducible refine Row.alloc ?_ _ | with_reducible refine Row.drew ?_))), (by (repeat (first | with_reducible exact Row.new _ _ _ | (refine rowAt _ _ ?_; first | rfl | (simp only [World.size_alloc, size_drewT]; done)) | with_reducible refine Row.setRow (vs := [.int .i64 0, .int .i64 0]) ?_ _ | (with_reducible refine Row.farRow ?_ (by (try simp only [World.size_alloc, size_drewT] at *); omega) _) | with_reducible refine Row.old ?_ hb2 | with_reducible refine Row.old ?_ hb5 | with_reducible refine Row.alloc ?_ _ | with_reducible refine Row.drew ?_))), hHeld⟩
   ·
    go_simp
    refine hK.out _ _ ?_ (fun hHeld => ?_)
    · exact ⟨(hHeld.1).old ((Below.refl _ _).alloc (Nat.le_refl _) _), (hHeld.2.1).old ((Below.refl _ _).alloc (Nat.le_refl _) _), (hHeld.2.2).trans ((((Below.refl _ _).alloc (Nat.le_refl _) _)).mono (hHeld.2.2).size)⟩
    clear hK K
    try simp only [zz]
    refine st1 2 (by kernel_rfl) rfl (fun K hK => ?_)
    go_simp
    go_at_call 82
    refine (HN1.out _).mono ?_
    rintro e v2 ⟨rfl, hb2⟩
    have hz2 := hb2.size
    try simp only [World.size_alloc, size_drewT] at hz2
    try go_simp
    refine hK.out _ _ ?_ (fun hHeld => ?_)
    · exact ⟨(hHeld.1).old hb2, (hHeld.2.1).old hb2, (hHeld.2.2).trans ((hb2).mono (hHeld.2.2).size)⟩
    clear hK K
    try simp only [zz]
    refine st1 5 (by kernel_rfl) rfl (fun K hK => ?_)
    go_simp
    go_at_call 82
    refine (HN2.out _).mono ?_
    rintro e v5 ⟨rfl, hb5⟩
    have hz5 := hb5.size
    try simp only [World.size_alloc, size_drewT] at hz5
    try go_simp
    refine hK.out _ _ ?_ (fun hHeld => ?_)
    · exact ⟨(hHeld.1).old hb5, (hHeld.2.1).old hb5, (hHeld.2.2).trans ((hb5).mono (hHeld.2.2).size)⟩
    clear hK K
    try simp only [zz]
    refine st1 8 (by kernel_rfl) rfl (fun K hK => ?_)
    refine step_store_row rfl 167 _ _ rfl _ [.int .i64 n1, .int .i64 Q1] rfl rfl 167 [.int .i64 0, .int .i64 0] ?_ (by kernel_rfl) rfl (by simp [Value.oneCell']) ?_
    · (repeat (first | with_reducible exact Row.new _ _ _ | (refine rowAt _ _ ?_; first | rfl | (simp only [World.size_alloc, size_drewT]; done)) | with_reducible refine Row.setRow (vs := [.int .i64 0, .int .i64 0]) ?_ _ | (with_reducible refine Row.farRow ?_ (by (try simp only [World.size_alloc, size_drewT] at *); omega) _) | with_reducible refine Row.old ?_ hb2 | with_reducible refine Row.old ?_ hb5 | with_reducible refine Row.alloc ?_ _ | with_reducible refine Row.drew ?_))
    refine hK.out _ _ ?_ (fun hHeld => ?_)
    · exact ⟨hHeld.1.farRow (by (try simp only [World.size_alloc, size_drewT]); omega) _, hHeld.2.1.farRow (by (try simp only [World.size_alloc, size_drewT]); omega) _, Below.setRow hHeld.2.2 (by (try simp only [World.size_alloc, size_drewT]); omega) _⟩
    clear hK K
    try simp only [zz]
    refine st1 9 (by kernel_rfl) rfl (fun K hK => ?_)
    refine step_store_row rfl 167 _ _ rfl _ [.int .i64 n2, .int .i64 Q2] rfl rfl 167 [.int .i64 0, .int .i64 0] ?_ (by kernel_rfl) rfl (by simp [Value.oneCell']) ?_
    · (repeat (first | with_reducible exact Row.new _ _ _ | (refine rowAt _ _ ?_; first | rfl | (simp only [World.size_alloc, size_drewT]; done)) | with_reducible refine Row.setRow (vs := [.int .i64 0, .int .i64 0]) ?_ _ | (with_reducible refine Row.farRow ?_ (by (try simp only [World.size_alloc, size_drewT] at *); omega) _) | with_reducible refine Row.old ?_ hb2 | with_reducible refine Row.old ?_ hb5 | with_reducible refine Row.alloc ?_ _ | with_reducible refine Row.drew ?_))
    refine hK.out _ _ ?_ (fun hHeld => ?_)
    · exact ⟨hHeld.1.farRow (by (try simp only [World.size_alloc, size_drewT]); omega) _, hHeld.2.1.farRow (by (try simp only [World.size_alloc, size_drewT]); omega) _, Below.setRow hHeld.2.2 (by (try simp only [World.size_alloc, size_drewT]); omega) _⟩
    clear hK K
    try simp only [zz]
    refine wpAnyH_done (by kernel_rfl) ?_ _
    go_wp2_with fail
    go_meet
    exact ⟨_, _, rfl, rfl, (by (repeat (first | with_reducible exact Row.new _ _ _ | (refine rowAt _ _ ?_; first | rfl | (simp only [World.size_alloc, size_drewT]; done)) | with_reducible refine Row.setRow (vs := [.int .i64 0, .int .i64 0]) ?_ _ | (with_reducible refine Row.farRow ?_ (by (try simp only [World.size_alloc, size_drewT] at *); omega) _) | with_reducible refine Row.old ?_ hb2 | with_reducible refine Row.old ?_ hb5 | with_reducible refine Row.alloc ?_ _ | with_reducible refine Row.drew ?_))), (by (repeat (first | with_reducible exact Row.new _ _ _ | (refine rowAt _ _ ?_; first | rfl | (simp only [World.size_alloc, size_drewT]; done)) | with_reducible refine Row.setRow (vs := [.int .i64 0, .int .i64 0]) ?_ _ | (with_reducible refine Row.farRow ?_ (by (try simp only [World.size_alloc, size_drewT] at *); omega) _) | with_reducible refine Row.old ?_ hb2 | with_reducible refine Row.old ?_ hb5 | with_reducible refine Row.alloc ?_ _ | with_reducible refine Row.drew ?_))), hHeld⟩
  ·
   go_simp
   refine hK.out _ _ ?_ (fun hHeld => ?_)
   · exact ⟨(hHeld.1).old ((Below.refl _ _).alloc (Nat.le_refl _) _), (hHeld.2.1).old ((Below.refl _ _).alloc (Nat.le_refl _) _), (hHeld.2.2).trans ((((Below.refl _ _).alloc (Nat.le_refl _) _)).mono (hHeld.2.2).size)⟩
   clear hK K
   try simp only [zz]
   refine wpAnyH_ready (rs := [2, 6]) (by kernel_rfl) (by simp) ?_
   refine AllReadyH.cons rfl (fun K hK => ?_) (AllReadyH.cons rfl (fun K hK => ?_) (AllReadyH.nil))
   ·
    go_simp
    go_at_call 82
    refine (HN1.out _).mono ?_
    rintro e v2 ⟨rfl, hb2⟩
    have hz2 := hb2.size
    try simp only [World.size_alloc, size_drewT] at hz2
    try go_simp
    refine hK.out _ _ ?_ (fun hHeld => ?_)
    · exact ⟨(hHeld.1).old hb2, (hHeld.2.1).old hb2, (hHeld.2.2).trans ((hb2).mono (hHeld.2.2).size)⟩
    clear hK K
    try simp only [zz]
    refine wpAnyH_ready (rs := [5, 6]) (by kernel_rfl) (by simp) ?_
    refine AllReadyH.cons rfl (fun K hK => ?_) (AllReadyH.cons rfl (fun K hK => ?_) (AllReadyH.nil))
    ·
     go_simp
     go_at_call 82
     refine (HN2.out _).mono ?_
     rintro e v5 ⟨rfl, hb5⟩
     have hz5 := hb5.size
     try simp only [World.size_alloc, size_drewT] at hz5
     try go_simp
     refine hK.out _ _ ?_ (fun hHeld => ?_)
     · exact ⟨(hHeld.1).old hb5, (hHeld.2.1).old hb5, (hHeld.2.2).trans ((hb5).mono (hHeld.2.2).size)⟩
     clear hK K
     try simp only [zz]
     refine st1 6 (by kernel_rfl) rfl (fun K hK => ?_)
     go_simp
     refine hK.out _ _ ?_ (fun hHeld => ?_)
     · exact ⟨(hHeld.1).old ((Below.refl _ _).alloc (Nat.le_refl _) _), (hHeld.2.1).old ((Below.refl _ _).alloc (Nat.le_refl _) _), (hHeld.2.2).trans ((((Below.refl _ _).alloc (Nat.le_refl _) _)).mono (hHeld.2.2).size)⟩
     clear hK K
     try simp only [zz]
     refine st1 8 (by kernel_rfl) rfl (fun K hK => ?_)
     refine step_store_row rfl 167 _ _ rfl _ [.int .i64 n1, .int .i64 Q1] rfl rfl 167 [.int .i64 0, .int .i64 0] ?_ (by kernel_rfl) rfl (by simp [Value.oneCell']) ?_
     · (repeat (first | with_reducible exact Row.new _ _ _ | (refine rowAt _ _ ?_; first | rfl | (simp only [World.size_alloc, size_drewT]; done)) | with_reducible refine Row.setRow (vs := [.int .i64 0, .int .i64 0]) ?_ _ | (with_reducible refine Row.farRow ?_ (by (try simp only [World.size_alloc, size_drewT] at *); omega) _) | with_reducible refine Row.old ?_ hb2 | with_reducible refine Row.old ?_ hb5 | with_reducible refine Row.alloc ?_ _ | with_reducible refine Row.drew ?_))
     refine hK.out _ _ ?_ (fun hHeld => ?_)
     · exact ⟨hHeld.1.farRow (by (try simp only [World.size_alloc, size_drewT]); omega) _, hHeld.2.1.farRow (by (try simp only [World.size_alloc, size_drewT]); omega) _, Below.setRow hHeld.2.2 (by (try simp only [World.size_alloc, size_drewT]); omega) _⟩
     clear hK K
     try simp only [zz]
     refine st1 9 (by kernel_rfl) rfl (fun K hK => ?_)
     refine step_store_row rfl 167 _ _ rfl _ [.int .i64 n2, .int .i64 Q2] rfl rfl 167 [.int .i64 0, .int .i64 0] ?_ (by kernel_rfl) rfl (by simp [Value.oneCell']) ?_
     · (repeat (first | with_reducible exact Row.new _ _ _ | (refine rowAt _ _ ?_; first | rfl | (simp only [World.size_alloc, size_drewT]; done)) | with_reducible refine Row.setRow (vs := [.int .i64 0, .int .i64 0]) ?_ _ | (with_reducible refine Row.farRow ?_ (by (try simp only [World.size_alloc, size_drewT] at *); omega) _) | with_reducible refine Row.old ?_ hb2 | with_reducible refine Row.old ?_ hb5 | with_reducible refine Row.alloc ?_ _ | with_reducible refine Row.drew ?_))
     refine hK.out _ _ ?_ (fun hHeld => ?_)
     · exact ⟨hHeld.1.farRow (by (try simp only [World.size_alloc, size_drewT]); omega) _, hHeld.2.1.farRow (by (try simp only [World.size_alloc, size_drewT]); omega) _, Below.setRow hHeld.2.2 (by (try simp only [World.size_alloc, size_drewT]); omega) _⟩
     clear hK K
     try simp only [zz]
     refine wpAnyH_done (by kernel_rfl) ?_ _
     go_wp2_with fail
     go_meet
     exact ⟨_, _, rfl, rfl, (by (repeat (first | with_reducible exact Row.new _ _ _ | (refine rowAt _ _ ?_; first | rfl | (simp only [World.size_alloc, size_drewT]; done)) | with_reducible refine Row.setRow (vs := [.int .i64 0, .int .i64 0]) ?_ _ | (with_reducible refine Row.farRow ?_ (by (try simp only [World.size_alloc, size_drewT] at *); omega) _) | with_reducible refine Row.old ?_ hb2 | with_reducible refine Row.old ?_ hb5 | with_reducible refine Row.alloc ?_ _ | with_reducible refine Row.drew ?_))), (by (repeat (first | with_reducible exact Row.new _ _ _ | (refine rowAt _ _ ?_; first | rfl | (simp only [World.size_alloc, size_drewT]; done)) | with_reducible refine Row.setRow (vs := [.int .i64 0, .int .i64 0]) ?_ _ | (with_reducible refine Row.farRow ?_ (by (try simp only [World.size_alloc, size_drewT] at *); omega) _) | with_reducible refine Row.old ?_ hb2 | with_reducible refine Row.old ?_ hb5 | with_reducible refine Row.alloc ?_ _ | with_reducible refine Row.drew ?_))), hHeld⟩
    ·
     go_simp
     refine hK.out _ _ ?_ (fun hHeld => ?_)
     · exact ⟨(hHeld.1).old ((Below.refl _ _).alloc (Nat.le_refl _) _), (hHeld.2.1).old ((Below.refl _ _).alloc (Nat.le_refl _) _), (hHeld.2.2).trans ((((Below.refl _ _).alloc (Nat.le_refl _) _)).mono (hHeld.2.2).size)⟩
     clear hK K
     try simp only [zz]
     refine st1 5 (by kernel_rfl) rfl (fun K hK => ?_)
     go_simp
     go_at_call 82
     refine (HN2.out _).mono ?_
     rintro e v5 ⟨rfl, hb5⟩
     have hz5 := hb5.size
     try simp only [World.size_alloc, size_drewT] at hz5
     try go_simp
     refine hK.out _ _ ?_ (fun hHeld => ?_)
     · exact ⟨(hHeld.1).old hb5, (hHeld.2.1).old hb5, (hHeld.2.2).trans ((hb5).mono (hHeld.2.2).size)⟩
     clear hK K
     try simp only [zz]
     refine st1 8 (by kernel_rfl) rfl (fun K hK => ?_)
     refine step_store_row rfl 167 _ _ rfl _ [.int .i64 n1, .int .i64 Q1] rfl rfl 167 [.int .i64 0, .int .i64 0] ?_ (by kernel_rfl) rfl (by simp [Value.oneCell']) ?_
     · (repeat (first | with_reducible exact Row.new _ _ _ | (refine rowAt _ _ ?_; first | rfl | (simp only [World.size_alloc, size_drewT]; done)) | with_reducible refine Row.setRow (vs := [.int .i64 0, .int .i64 0]) ?_ _ | (with_reducible refine Row.farRow ?_ (by (try simp only [World.size_alloc, size_drewT] at *); omega) _) | with_reducible refine Row.old ?_ hb2 | with_reducible refine Row.old ?_ hb5 | with_reducible refine Row.alloc ?_ _ | with_reducible refine Row.drew ?_))
     refine hK.out _ _ ?_ (fun hHeld => ?_)
     · exact ⟨hHeld.1.farRow (by (try simp only [World.size_alloc, size_drewT]); omega) _, hHeld.2.1.farRow (by (try simp only [World.size_alloc, size_drewT]); omega) _, Below.setRow hHeld.2.2 (by (try simp only [World.size_alloc, size_drewT]); omega) _⟩
     clear hK K
     try simp only [zz]
     refine st1 9 (by kernel_rfl) rfl (fun K hK => ?_)
     refine step_store_row rfl 167 _ _ rfl _ [.int .i64 n2, .int .i64 Q2] rfl rfl 167 [.int .i64 0, .int .i64 0] ?_ (by kernel_rfl) rfl (by simp [Value.oneCell']) ?_
     · (repeat (first | with_reducible exact Row.new _ _ _ | (refine rowAt _ _ ?_; first | rfl | (simp only [World.size_alloc, size_drewT]; done)) | with_reducible refine Row.setRow (vs := [.int .i64 0, .int .i64 0]) ?_ _ | (with_reducible refine Row.farRow ?_ (by (try simp only [World.size_alloc, size_drewT] at *); omega) _) | with_reducible refine Row.old ?_ hb2 | with_reducible refine Row.old ?_ hb5 | with_reducible refine Row.alloc ?_ _ | with_reducible refine Row.drew ?_))
     refine hK.out _ _ ?_ (fun hHeld => ?_)
     · exact ⟨hHeld.1.farRow (by (try simp only [World.size_alloc, size_drewT]); omega) _, hHeld.2.1.farRow (by (try simp only [World.size_alloc, size_drewT]); omega) _, Below.setRow hHeld.2.2 (by (try simp only [World.size_alloc, size_drewT]); omega) _⟩
     clear hK K
     try simp only [zz]
     refine wpAnyH_done (by kernel_rfl) ?_ _
     go_wp2_with fail
     go_meet
     exact ⟨_, _, rfl, rfl, (by (repeat (first | with_reducible exact Row.new _ _ _ | (refine rowAt _ _ ?_; first | rfl | (simp only [World.size_alloc, size_drewT]; done)) | with_reducible refine Row.setRow (vs := [.int .i64 0, .int .i64 0]) ?_ _ | (with_reducible refine Row.farRow ?_ (by (try simp only [World.size_alloc, size_drewT] at *); omega) _) | with_reducible refine Row.old ?_ hb2 | with_reducible refine Row.old ?_ hb5 | with_reducible refine Row.alloc ?_ _ | with_reducible refine Row.drew ?_))), (by (repeat (first | with_reducible exact Row.new _ _ _ | (refine rowAt _ _ ?_; first | rfl | (simp only [World.size_alloc, size_drewT]; done)) | with_reducible refine Row.setRow (vs := [.int .i64 0, .int .i64 0]) ?_ _ | (with_reducible refine Row.farRow ?_ (by (try simp only [World.size_alloc, size_drewT] at *); omega) _) | with_reducible refine Row.old ?_ hb2 | with_reducible refine Row.old ?_ hb5 | with_reducible refine Row.alloc ?_ _ | with_reducible refine Row.drew ?_))), hHeld⟩
   ·
    go_simp
    refine hK.out _ _ ?_ (fun hHeld => ?_)
    · exact ⟨(hHeld.1).old ((Below.refl _ _).alloc (Nat.le_refl _) _), (hHeld.2.1).old ((Below.refl _ _).alloc (Nat.le_refl _) _), (hHeld.2.2).trans ((((Below.refl _ _).alloc (Nat.le_refl _) _)).mono (hHeld.2.2).size)⟩
    clear hK K
    try simp only [zz]
    refine st1 2 (by kernel_rfl) rfl (fun K hK => ?_)
    go_simp
    go_at_call 82
    refine (HN1.out _).mono ?_
    rintro e v2 ⟨rfl, hb2⟩
    have hz2 := hb2.size
    try simp only [World.size_alloc, size_drewT] at hz2
    try go_simp
    refine hK.out _ _ ?_ (fun hHeld => ?_)
    · exact ⟨(hHeld.1).old hb2, (hHeld.2.1).old hb2, (hHeld.2.2).trans ((hb2).mono (hHeld.2.2).size)⟩
    clear hK K
    try simp only [zz]
    refine st1 5 (by kernel_rfl) rfl (fun K hK => ?_)
    go_simp
    go_at_call 82
    refine (HN2.out _).mono ?_
    rintro e v5 ⟨rfl, hb5⟩
    have hz5 := hb5.size
    try simp only [World.size_alloc, size_drewT] at hz5
    try go_simp
    refine hK.out _ _ ?_ (fun hHeld => ?_)
    · exact ⟨(hHeld.1).old hb5, (hHeld.2.1).old hb5, (hHeld.2.2).trans ((hb5).mono (hHeld.2.2).size)⟩
    clear hK K
    try simp only [zz]
    refine st1 8 (by kernel_rfl) rfl (fun K hK => ?_)
    refine step_store_row rfl 167 _ _ rfl _ [.int .i64 n1, .int .i64 Q1] rfl rfl 167 [.int .i64 0, .int .i64 0] ?_ (by kernel_rfl) rfl (by simp [Value.oneCell']) ?_
    · (repeat (first | with_reducible exact Row.new _ _ _ | (refine rowAt _ _ ?_; first | rfl | (simp only [World.size_alloc, size_drewT]; done)) | with_reducible refine Row.setRow (vs := [.int .i64 0, .int .i64 0]) ?_ _ | (with_reducible refine Row.farRow ?_ (by (try simp only [World.size_alloc, size_drewT] at *); omega) _) | with_reducible refine Row.old ?_ hb2 | with_reducible refine Row.old ?_ hb5 | with_reducible refine Row.alloc ?_ _ | with_reducible refine Row.drew ?_))
    refine hK.out _ _ ?_ (fun hHeld => ?_)
    · exact ⟨hHeld.1.farRow (by (try simp only [World.size_alloc, size_drewT]); omega) _, hHeld.2.1.farRow (by (try simp only [World.size_alloc, size_drewT]); omega) _, Below.setRow hHeld.2.2 (by (try simp only [World.size_alloc, size_drewT]); omega) _⟩
    clear hK K
    try simp only [zz]
    refine st1 9 (by kernel_rfl) rfl (fun K hK => ?_)
    refine step_store_row rfl 167 _ _ rfl _ [.int .i64 n2, .int .i64 Q2] rfl rfl 167 [.int .i64 0, .int .i64 0] ?_ (by kernel_rfl) rfl (by simp [Value.oneCell']) ?_
    · (repeat (first | with_reducible exact Row.new _ _ _ | (refine rowAt _ _ ?_; first | rfl | (simp only [World.size_alloc, size_drewT]; done)) | with_reducible refine Row.setRow (vs := [.int .i64 0, .int .i64 0]) ?_ _ | (with_reducible refine Row.farRow ?_ (by (try simp only [World.size_alloc, size_drewT] at *); omega) _) | with_reducible refine Row.old ?_ hb2 | with_reducible refine Row.old ?_ hb5 | with_reducible refine Row.alloc ?_ _ | with_reducible refine Row.drew ?_))
    refine hK.out _ _ ?_ (fun hHeld => ?_)
    · exact ⟨hHeld.1.farRow (by (try simp only [World.size_alloc, size_drewT]); omega) _, hHeld.2.1.farRow (by (try simp only [World.size_alloc, size_drewT]); omega) _, Below.setRow hHeld.2.2 (by (try simp only [World.size_alloc, size_drewT]); omega) _⟩
    clear hK K
    try simp only [zz]
    refine wpAnyH_done (by kernel_rfl) ?_ _
    go_wp2_with fail
    go_meet
    exact ⟨_, _, rfl, rfl, (by (repeat (first | with_reducible exact Row.new _ _ _ | (refine rowAt _ _ ?_; first | rfl | (simp only [World.size_alloc, size_drewT]; done)) | with_reducible refine Row.setRow (vs := [.int .i64 0, .int .i64 0]) ?_ _ | (with_reducible refine Row.farRow ?_ (by (try simp only [World.size_alloc, size_drewT] at *); omega) _) | with_reducible refine Row.old ?_ hb2 | with_reducible refine Row.old ?_ hb5 | with_reducible refine Row.alloc ?_ _ | with_reducible refine Row.drew ?_))), (by (repeat (first | with_reducible exact Row.new _ _ _ | (refine rowAt _ _ ?_; first | rfl | (simp only [World.size_alloc, size_drewT]; done)) | with_reducible refine Row.setRow (vs := [.int .i64 0, .int .i64 0]) ?_ _ | (with_reducible refine Row.farRow ?_ (by (try simp only [World.size_alloc, size_drewT] at *); omega) _) | with_reducible refine Row.old ?_ hb2 | with_reducible refine Row.old ?_ hb5 | with_reducible refine Row.alloc ?_ _ | with_reducible refine Row.drew ?_))), hHeld⟩
 case rest =>
 obtain ⟨g8, g9, rfl, rfl, k8, k9, k1, k2, kb⟩ := hcut
 have HS9 : Hid (Row wc (w.heap.size) 86 [.int .i64 a, .int .i64 b, .int .i64 c, .int .i64 d, .int .i64 x, .int .i64 y, .int .i64 k, .int .i64 l, .int .i64 m, .int .i64 n, .int .i64 u, .int .i64 v] ∧ Row wc (w.heap.size + 1) 90 [.int .i64 0, .int .i64 0] ∧ Below w.heap.size w wc) := ⟨k1, k2, kb⟩
 have c0 := k8.cell 0; have c1 := k8.cell 1; have d0 := k9.cell 0; have d1 := k9.cell 1
 simp only [List.getElem?_cons_succ, List.getElem?_cons_zero] at c0 c1 d0 d1
 clear k8 k9 k1 k2 kb HS3 HN1 HN2
 go_wp2_with (first
  | (go_at_call 87; refine (HR.out _).mono ?_; rintro e w10 ⟨rfl, hb_w10⟩; have HS10 : Hid (Row w10 (w.heap.size) 86 [.int .i64 a, .int .i64 b, .int .i64 c, .int .i64 d, .int .i64 x, .int .i64 y, .int .i64 k, .int .i64 l, .int .i64 m, .int .i64 n, .int .i64 u, .int .i64 v] ∧ Row w10 (w.heap.size + 1) 90 [.int .i64 0, .int .i64 0] ∧ Below w.heap.size w w10) := ⟨(HS9.out.1).old hb_w10, (HS9.out.2.1).old hb_w10, (HS9.out.2.2).trans (hb_w10.mono (HS9.out.2.2).size)⟩; clear hb_w10)
  | (refine wpList_store_row rfl 90 _ _ rfl (w.heap.size + 1) #[.int .i64 p, .int .i64 q] rfl rfl 90 _ HS10.out.2.1 ?_ ?_ ?_ ?_; (kernel_rfl); (rfl); (simp [Value.oneCell'])))
 refine bodyPost_ret (results_rt rfl _ _ (w.heap.size + 1) 90 #[.int .i64 p, .int .i64 q] (0, 0) _ rfl (HS10.out.2.1.setRow [.int .i64 p, .int .i64 q]) Tryz.underlying90 rfl (by kernel_rfl)) rfl ⟨rfl, Below.setRow HS10.out.2.2 (by omega) _⟩
end Go.Proofs.YtgbkblbfgknheaaGreatDoor
