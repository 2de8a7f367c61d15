import Derived.Test.YtaknlhepgeiekaaGreatDoorH15
namespace Go.Proofs.YtaknlhepgeiekaaGreatDoor
set_option linter.all false
open Go.RowKit Go.Fl
theorem rwAA {p : Prop} (h : p := by (repeat (first | with_reducible exact Row.new _ _ _ | (refine rowAt _ _ ?_; first | rfl | (simp only [World.size_alloc, size_drewT]; done)) | with_reducible refine Row.setRow (vs := [.int .i64 0, .int .i64 0]) ?_ _ | (with_reducible refine Row.farRow ?_ (by (try simp only [World.size_alloc, size_drewT] at *); omega) _) | with_reducible refine Row.old ?_ hb2 | with_reducible refine Row.old ?_ hb5 | with_reducible refine Row.alloc ?_ _ | with_reducible refine Row.drew ?_))) : p := h
theorem size_drewT (w : World) : w.drew.heap.size = w.heap.size := rfl
set_option maxRecDepth 100000 in
set_option maxHeartbeats 8000000 in
theorem mixedT_k2 (a b c d x y k l m n u v t : Int) (w : World) (hE : firstI [sigE a b c d x y, sigE k l m n u v, whenI (rangeB t 1000 10000) 3] = 0) (p q : Int) (HK : ∀ W, Calls Tryz.prog 60 #[.agg #[.int .i64 a, .int .i64 b, .int .i64 c, .int .i64 d, .int .i64 x, .int .i64 y, .int .i64 k, .int .i64 l, .int .i64 m, .int .i64 n, .int .i64 u, .int .i64 v], .int .i64 t] W fun e w' => e = .returned (.int .i64 2) ∧ Below W.heap.size W w') (n1 Q1 n2 Q2 : Int) (bn1 : n1.natAbs ≤ 1000000000) (bn2 : n2.natAbs ≤ 1000000000) (bQ1 : 0 ≤ Q1 ∧ Q1 ≤ 1000000000) (bQ2 : 0 ≤ Q2 ∧ Q2 ≤ 1000000000) (HN1 : ∀ W, Calls Tryz.prog 61 #[.agg #[.int .i64 a, .int .i64 b, .int .i64 c, .int .i64 d, .int .i64 x, .int .i64 y]] W fun e w' => e = .returned (.agg #[.int .i64 n1, .int .i64 Q1]) ∧ Below W.heap.size W w') (HN2 : ∀ W, Calls Tryz.prog 61 #[.agg #[.int .i64 k, .int .i64 l, .int .i64 m, .int .i64 n, .int .i64 u, .int .i64 v]] W fun e w' => e = .returned (.agg #[.int .i64 n2, .int .i64 Q2]) ∧ Below W.heap.size W w') (HR : ∀ W, Calls Tryz.prog 62 #[.agg #[.int .i64 (n1 + n2), .int .i64 (Q1 + Q2)]] W fun e w' => e = .returned (.agg #[.int .i64 p, .int .i64 q]) ∧ Below W.heap.size W w') : Calls Tryz.prog 20 #[.agg #[.int .i64 a, .int .i64 b, .int .i64 c, .int .i64 d, .int .i64 x, .int .i64 y, .int .i64 k, .int .i64 l, .int .i64 m, .int .i64 n, .int .i64 u, .int .i64 v], .int .i64 t] w fun e w' => e = .returned (.tuple #[.agg #[.int .i64 p, .int .i64 q], .int .i64 0]) ∧ Below w.heap.size w w' := by
 have HK := Lib.hid HK; have HN1 := Lib.hid HN1; have HN2 := Lib.hid HN2
 have HR := Lib.hid HR
 have HC : Hid (∀ W, Calls Tryz.prog 59 #[.agg #[.int .i64 a, .int .i64 b, .int .i64 c, .int .i64 d, .int .i64 x, .int .i64 y, .int .i64 k, .int .i64 l, .int .i64 m, .int .i64 n, .int .i64 u, .int .i64 v], .int .i64 t] W fun e w' => e = .returned (.int .i64 0) ∧ Below W.heap.size W w') := fun W => by have h := checkTwo_any a b c d x y k l m n u v t W; rw [hE] at h; exact h
 have e1 : IntKind.i64.wrap (n1 + n2) = n1 + n2 := IntWalk.i64_in _ (by omega)
 have e2 : IntKind.i64.wrap (Q1 + Q2) = Q1 + Q2 := IntWalk.i64_in _ (by omega)
 clear hE bn1 bn2 bQ1 bQ2
 go_enter Tryz.func20, Tryz.ntmps20
 go_upto_region 1 with fail
 refine genT (fun V => Row V (w.heap.size) 57 [.int .i64 a, .int .i64 b, .int .i64 c, .int .i64 d, .int .i64 x, .int .i64 y, .int .i64 k, .int .i64 l, .int .i64 m, .int .i64 n, .int .i64 u, .int .i64 v] ∧ Row V (w.heap.size + 1) 61 [.int .i64 0, .int .i64 0] ∧ Below w.heap.size w V) ⟨(Row.alloc (rowAt _ _ (by first | rfl | simp only [World.size_alloc])) _), (rowAt _ _ (by first | rfl | simp only [World.size_alloc])), (((Below.refl _ _).alloc (by first | exact Nat.le_refl _ | (simp only [World.size_alloc]; omega)) _).alloc (by first | exact Nat.le_refl _ | (simp only [World.size_alloc]; omega)) _)⟩ ?_
 intro W1 s1
 have HS1 := Lib.hid s1
 clear s1
 go_upto_region 7 with (first | (refine wpList_load_row rfl 57 _ rfl (w.heap.size) rfl 57 #[.int .i64 a, .int .i64 b, .int .i64 c, .int .i64 d, .int .i64 x, .int .i64 y, .int .i64 k, .int .i64 l, .int .i64 m, .int .i64 n, .int .i64 u, .int .i64 v] (0, 0) _ HS1.out.1 Tryz.underlying57 rfl ?_ ?_; (kernel_rfl)) | (go_at_call 59; refine (HC.out _).mono ?_; rintro e w2 ⟨rfl, hb_w2⟩; have HS2 : Hid (Row w2 (w.heap.size) 57 [.int .i64 a, .int .i64 b, .int .i64 c, .int .i64 d, .int .i64 x, .int .i64 y, .int .i64 k, .int .i64 l, .int .i64 m, .int .i64 n, .int .i64 u, .int .i64 v] ∧ Row w2 (w.heap.size + 1) 61 [.int .i64 0, .int .i64 0] ∧ Below w.heap.size w w2) := ⟨(HS1.out.1).old hb_w2, (HS1.out.2.1).old hb_w2, (HS1.out.2.2).trans (hb_w2.mono (HS1.out.2.2).size)⟩; clear hb_w2) | (refine wpList_load_row rfl 57 _ rfl (w.heap.size) rfl 57 #[.int .i64 a, .int .i64 b, .int .i64 c, .int .i64 d, .int .i64 x, .int .i64 y, .int .i64 k, .int .i64 l, .int .i64 m, .int .i64 n, .int .i64 u, .int .i64 v] (0, 0) _ HS2.out.1 Tryz.underlying57 rfl ?_ ?_; (kernel_rfl)) | (go_at_call 60; refine (HK.out _).mono ?_; rintro e w3 ⟨rfl, hb_w3⟩; have HS3 : Hid (Row w3 (w.heap.size) 57 [.int .i64 a, .int .i64 b, .int .i64 c, .int .i64 d, .int .i64 x, .int .i64 y, .int .i64 k, .int .i64 l, .int .i64 m, .int .i64 n, .int .i64 u, .int .i64 v] ∧ Row w3 (w.heap.size + 1) 61 [.int .i64 0, .int .i64 0] ∧ Below w.heap.size w w3) := ⟨(HS2.out.1).old hb_w3, (HS2.out.2.1).old hb_w3, (HS2.out.2.2).trans (hb_w3.mono (HS2.out.2.2).size)⟩; clear hb_w3))
 have hz1 : w.heap.size + 1 < w3.heap.size := HS3.out.2.1.lt
 have hzw : w.heap.size < w3.heap.size := by omega
 clear HS1 HS2 HC HK
 go_cut [8, 9] from 27 to 33 (fun s8 s9 wx => ∃ g8 g9, s8 = .pointer (some ⟨g8, 0, none⟩) ∧ s9 = .pointer (some ⟨g9, 0, none⟩) ∧ Row wx g8 141 [.int .i64 n1, .int .i64 Q1] ∧ Row wx g9 141 [.int .i64 n2, .int .i64 Q2] ∧ Row wx (w.heap.size) 57 [.int .i64 a, .int .i64 b, .int .i64 c, .int .i64 d, .int .i64 x, .int .i64 y, .int .i64 k, .int .i64 l, .int .i64 m, .int .i64 n, .int .i64 u, .int .i64 v] ∧ Row wx (w.heap.size + 1) 61 [.int .i64 0, .int .i64 0] ∧ Below w.heap.size w wx)
 case first =>
  clear HR e1 e2
  refine wp_region_held_drew (S := fun V => Row V (w.heap.size) 57 [.int .i64 a, .int .i64 b, .int .i64 c, .int .i64 d, .int .i64 x, .int .i64 y, .int .i64 k, .int .i64 l, .int .i64 m, .int .i64 n, .int .i64 u, .int .i64 v] ∧ Row V (w.heap.size + 1) 61 [.int .i64 0, .int .i64 0] ∧ Below w.heap.size w V) (by kernel_rfl) ?_ (fun hHeld => ?_)
  · exact ⟨(HS3.out.1).drew, (HS3.out.2.1).drew, (HS3.out.2.2).drew⟩
  refine ta 0 27 hHeld ?_
  try simp only [zz]
  refine tk 1 28 (.agg #[.int .i64 a, .int .i64 b, .int .i64 c, .int .i64 d, .int .i64 x, .int .i64 y]) rfl (by kernel_rfl) (fun _ _ _ h => h) (by kernel_rfl) (fun V hV => ex_Signal _ rfl (w.heap.size) 0 rfl ((hV.1).cell 0) ((hV.1).cell 1) ((hV.1).cell 2) ((hV.1).cell 3) ((hV.1).cell 4) ((hV.1).cell 5)) hHeld ?_
  try simp only [zz]
  refine ta 3 30 hHeld ?_
  try simp only [zz]
  refine tk 4 31 (.agg #[.int .i64 k, .int .i64 l, .int .i64 m, .int .i64 n, .int .i64 u, .int .i64 v]) rfl (by kernel_rfl) (fun _ _ _ h => h) (by kernel_rfl) (fun V hV => ex_Signal _ rfl (w.heap.size) 6 rfl ((hV.1).cell 6) ((hV.1).cell 7) ((hV.1).cell 8) ((hV.1).cell 9) ((hV.1).cell 10) ((hV.1).cell 11)) hHeld ?_
  try simp only [zz]
  refine wpAnyH_ready (rs := [2, 6, 7]) (by kernel_rfl) (by simp) ?_
  refine AllReadyH.cons rfl (fun K hK => ?_) (AllReadyH.cons rfl (fun K hK => ?_) (AllReadyH.cons rfl (fun K hK => ?_) (AllReadyH.nil)))
  ·
   go_simp
   go_at_call 61
   refine (HN1.out _).mono ?_
   rintro e v2 ⟨rfl, hb2⟩
   have hz2 := hb2.size
   try simp only [World.size_alloc, size_drewT] at hz2
   try go_simp
   refine hK.out _ _ ?_ (fun hHeld => ?_)
   · exact ⟨(hHeld.1).old hb2, (hHeld.2.1).old hb2, (hHeld.2.2).trans ((hb2).mono (hHeld.2.2).size)⟩
   clear hK K
   try simp only [zz]
   refine wpAnyH_ready (rs := [5, 6, 7]) (by kernel_rfl) (by simp) ?_
   refine AllReadyH.cons rfl (fun K hK => ?_) (AllReadyH.cons rfl (fun K hK => ?_) (AllReadyH.cons rfl (fun K hK => ?_) (AllReadyH.nil)))
   ·
    go_simp
    go_at_call 61
    refine (HN2.out _).mono ?_
    rintro e v5 ⟨rfl, hb5⟩
    have hz5 := hb5.size
    try simp only [World.size_alloc, size_drewT] at hz5
    try go_simp
    refine hK.out _ _ ?_ (fun hHeld => ?_)
    · exact ⟨(hHeld.1).old hb5, (hHeld.2.1).old hb5, (hHeld.2.2).trans ((hb5).mono (hHeld.2.2).size)⟩
    clear hK K
    try simp only [zz]
    refine st3 6 7 (fun K hK => ?_) (fun K hK => ?_)
    ·
     go_simp
     refine hK.out _ _ ?_ (fun hHeld => ?_)
     · exact ⟨(hHeld.1).old ((Below.refl _ _).alloc (Nat.le_refl _) _), (hHeld.2.1).old ((Below.refl _ _).alloc (Nat.le_refl _) _), (hHeld.2.2).trans ((((Below.refl _ _).alloc (Nat.le_refl _) _)).mono (hHeld.2.2).size)⟩
     clear hK K
     try simp only [zz]
     refine st2 7 (fun K hK => ?_)
     go_simp
     refine hK.out _ _ ?_ (fun hHeld => ?_)
     · exact ⟨(hHeld.1).old ((Below.refl _ _).alloc (Nat.le_refl _) _), (hHeld.2.1).old ((Below.refl _ _).alloc (Nat.le_refl _) _), (hHeld.2.2).trans ((((Below.refl _ _).alloc (Nat.le_refl _) _)).mono (hHeld.2.2).size)⟩
     clear hK K
     try simp only [zz]
     refine st2 8 (fun K hK => ?_)
     refine step_store_row rfl 141 _ _ rfl _ [.int .i64 n1, .int .i64 Q1] rfl rfl 141 [.int .i64 0, .int .i64 0] ?_ (by kernel_rfl) rfl (by simp [Value.oneCell']) ?_
     · exact rwAA
     refine hK.out _ _ ?_ (fun hHeld => ?_)
     · exact ⟨hHeld.1.farRow (by (try simp only [World.size_alloc, size_drewT]); omega) _, hHeld.2.1.farRow (by (try simp only [World.size_alloc, size_drewT]); omega) _, Below.setRow hHeld.2.2 (by (try simp only [World.size_alloc, size_drewT]); omega) _⟩
     clear hK K
     try simp only [zz]
     refine st2 9 (fun K hK => ?_)
     refine step_store_row rfl 141 _ _ rfl _ [.int .i64 n2, .int .i64 Q2] rfl rfl 141 [.int .i64 0, .int .i64 0] ?_ (by kernel_rfl) rfl (by simp [Value.oneCell']) ?_
     · exact rwAA
     refine hK.out _ _ ?_ (fun hHeld => ?_)
     · exact ⟨hHeld.1.farRow (by (try simp only [World.size_alloc, size_drewT]); omega) _, hHeld.2.1.farRow (by (try simp only [World.size_alloc, size_drewT]); omega) _, Below.setRow hHeld.2.2 (by (try simp only [World.size_alloc, size_drewT]); omega) _⟩
     clear hK K
     try simp only [zz]
     refine wpAnyH_done (by kernel_rfl) ?_ _
     go_wp2_with fail
     go_meet
     exact ⟨_, _, rfl, rfl, rwAA, rwAA, hHeld⟩
    ·
     go_simp
     refine hK.out _ _ ?_ (fun hHeld => ?_)
     · exact ⟨(hHeld.1).old ((Below.refl _ _).alloc (Nat.le_refl _) _), (hHeld.2.1).old ((Below.refl _ _).alloc (Nat.le_refl _) _), (hHeld.2.2).trans ((((Below.refl _ _).alloc (Nat.le_refl _) _)).mono (hHeld.2.2).size)⟩
     clear hK K
     try simp only [zz]
     refine st2 6 (fun K hK => ?_)
     go_simp
     refine hK.out _ _ ?_ (fun hHeld => ?_)
     · exact ⟨(hHeld.1).old ((Below.refl _ _).alloc (Nat.le_refl _) _), (hHeld.2.1).old ((Below.refl _ _).alloc (Nat.le_refl _) _), (hHeld.2.2).trans ((((Below.refl _ _).alloc (Nat.le_refl _) _)).mono (hHeld.2.2).size)⟩
     clear hK K
     try simp only [zz]
     refine st2 8 (fun K hK => ?_)
     refine step_store_row rfl 141 _ _ rfl _ [.int .i64 n1, .int .i64 Q1] rfl rfl 141 [.int .i64 0, .int .i64 0] ?_ (by kernel_rfl) rfl (by simp [Value.oneCell']) ?_
     · exact rwAA
     refine hK.out _ _ ?_ (fun hHeld => ?_)
     · exact ⟨hHeld.1.farRow (by (try simp only [World.size_alloc, size_drewT]); omega) _, hHeld.2.1.farRow (by (try simp only [World.size_alloc, size_drewT]); omega) _, Below.setRow hHeld.2.2 (by (try simp only [World.size_alloc, size_drewT]); omega) _⟩
     clear hK K
     try simp only [zz]
     refine st2 9 (fun K hK => ?_)
     refine step_store_row rfl 141 _ _ rfl _ [.int .i64 n2, .int .i64 Q2] rfl rfl 141 [.int .i64 0, .int .i64 0] ?_ (by kernel_rfl) rfl (by simp [Value.oneCell']) ?_
     · exact rwAA
     refine hK.out _ _ ?_ (fun hHeld => ?_)
     · exact ⟨hHeld.1.farRow (by (try simp only [World.size_alloc, size_drewT]); omega) _, hHeld.2.1.farRow (by (try simp only [World.size_alloc, size_drewT]); omega) _, Below.setRow hHeld.2.2 (by (try simp only [World.size_alloc, size_drewT]); omega) _⟩
     clear hK K
     try simp only [zz]
     refine wpAnyH_done (by kernel_rfl) ?_ _
     go_wp2_with fail
     go_meet
     exact ⟨_, _, rfl, rfl, rwAA, rwAA, hHeld⟩
   ·
    go_simp
    refine hK.out _ _ ?_ (fun hHeld => ?_)
    · exact ⟨(hHeld.1).old ((Below.refl _ _).alloc (Nat.le_refl _) _), (hHeld.2.1).old ((Below.refl _ _).alloc (Nat.le_refl _) _), (hHeld.2.2).trans ((((Below.refl _ _).alloc (Nat.le_refl _) _)).mono (hHeld.2.2).size)⟩
    clear hK K
    try simp only [zz]
    refine st3 5 7 (fun K hK => ?_) (fun K hK => ?_)
    ·
     go_simp
     go_at_call 61
     refine (HN2.out _).mono ?_
     rintro e v5 ⟨rfl, hb5⟩
     have hz5 := hb5.size
     try simp only [World.size_alloc, size_drewT] at hz5
     try go_simp
     refine hK.out _ _ ?_ (fun hHeld => ?_)
     · exact ⟨(hHeld.1).old hb5, (hHeld.2.1).old hb5, (hHeld.2.2).trans ((hb5).mono (hHeld.2.2).size)⟩
     clear hK K
     try simp only [zz]
     refine st2 7 (fun K hK => ?_)
     go_simp
     refine hK.out _ _ ?_ (fun hHeld => ?_)
     · exact ⟨(hHeld.1).old ((Below.refl _ _).alloc (Nat.le_refl _) _), (hHeld.2.1).old ((Below.refl _ _).alloc (Nat.le_refl _) _), (hHeld.2.2).trans ((((Below.refl _ _).alloc (Nat.le_refl _) _)).mono (hHeld.2.2).size)⟩
     clear hK K
     try simp only [zz]
     refine st2 8 (fun K hK => ?_)
     refine step_store_row rfl 141 _ _ rfl _ [.int .i64 n1, .int .i64 Q1] rfl rfl 141 [.int .i64 0, .int .i64 0] ?_ (by kernel_rfl) rfl (by simp [Value.oneCell']) ?_
     · exact rwAA
     refine hK.out _ _ ?_ (fun hHeld => ?_)
     · exact ⟨hHeld.1.farRow (by (try simp only [World.size_alloc, size_drewT]); omega) _, hHeld.2.1.farRow (by (try simp only [World.size_alloc, size_drewT]); omega) _, Below.setRow hHeld.2.2 (by (try simp only [World.size_alloc, size_drewT]); omega) _⟩
     clear hK K
     try simp only [zz]
     refine st2 9 (fun K hK => ?_)
     refine step_store_row rfl 141 _ _ rfl _ [.int .i64 n2, .int .i64 Q2] rfl rfl 141 [.int .i64 0, .int .i64 0] ?_ (by kernel_rfl) rfl (by simp [Value.oneCell']) ?_
     · exact rwAA
     refine hK.out _ _ ?_ (fun hHeld => ?_)
     · exact ⟨hHeld.1.farRow (by (try simp only [World.size_alloc, size_drewT]); omega) _, hHeld.2.1.farRow (by (try simp only [World.size_alloc, size_drewT]); omega) _, Below.setRow hHeld.2.2 (by (try simp only [World.size_alloc, size_drewT]); omega) _⟩
     clear hK K
     try simp only [zz]
     refine wpAnyH_done (by kernel_rfl) ?_ _
     go_wp2_with fail
     go_meet
     exact ⟨_, _, rfl, rfl, rwAA, rwAA, hHeld⟩
    ·
     go_simp
     refine hK.out _ _ ?_ (fun hHeld => ?_)
     · exact ⟨(hHeld.1).old ((Below.refl _ _).alloc (Nat.le_refl _) _), (hHeld.2.1).old ((Below.refl _ _).alloc (Nat.le_refl _) _), (hHeld.2.2).trans ((((Below.refl _ _).alloc (Nat.le_refl _) _)).mono (hHeld.2.2).size)⟩
     clear hK K
     try simp only [zz]
     refine st2 5 (fun K hK => ?_)
     go_simp
     go_at_call 61
     refine (HN2.out _).mono ?_
     rintro e v5 ⟨rfl, hb5⟩
     have hz5 := hb5.size
     try simp only [World.size_alloc, size_drewT] at hz5
     try go_simp
     refine hK.out _ _ ?_ (fun hHeld => ?_)
     · exact ⟨(hHeld.1).old hb5, (hHeld.2.1).old hb5, (hHeld.2.2).trans ((hb5).mono (hHeld.2.2).size)⟩
     clear hK K
     try simp only [zz]
     refine st2 8 (fun K hK => ?_)
     refine step_store_row rfl 141 _ _ rfl _ [.int .i64 n1, .int .i64 Q1] rfl rfl 141 [.int .i64 0, .int .i64 0] ?_ (by kernel_rfl) rfl (by simp [Value.oneCell']) ?_
     · exact rwAA
     refine hK.out _ _ ?_ (fun hHeld => ?_)
     · exact ⟨hHeld.1.farRow (by (try simp only [World.size_alloc, size_drewT]); omega) _, hHeld.2.1.farRow (by (try simp only [World.size_alloc, size_drewT]); omega) _, Below.setRow hHeld.2.2 (by (try simp only [World.size_alloc, size_drewT]); omega) _⟩
     clear hK K
     try simp only [zz]
     refine st2 9 (fun K hK => ?_)
     refine step_store_row rfl 141 _ _ rfl _ [.int .i64 n2, .int .i64 Q2] rfl rfl 141 [.int .i64 0, .int .i64 0] ?_ (by kernel_rfl) rfl (by simp [Value.oneCell']) ?_
     · exact rwAA
     refine hK.out _ _ ?_ (fun hHeld => ?_)
     · exact ⟨hHeld.1.farRow (by (try simp only [World.size_alloc, size_drewT]); omega) _, hHeld.2.1.farRow (by (try simp only [World.size_alloc, size_drewT]); omega) _, Below.setRow hHeld.2.2 (by (try simp only [World.size_alloc, size_drewT]); omega) _⟩
     clear hK K
     try simp only [zz]
     refine wpAnyH_done (by kernel_rfl) ?_ _
     go_wp2_with fail
     go_meet
     exact ⟨_, _, rfl, rfl, rwAA, rwAA, hHeld⟩
   ·
    go_simp
    refine hK.out _ _ ?_ (fun hHeld => ?_)
    · exact ⟨(hHeld.1).old ((Below.refl _ _).alloc (Nat.le_refl _) _), (hHeld.2.1).old ((Below.refl _ _).alloc (Nat.le_refl _) _), (hHeld.2.2).trans ((((Below.refl _ _).alloc (Nat.le_refl _) _)).mono (hHeld.2.2).size)⟩
    clear hK K
    try simp only [zz]
    refine st3 5 6 (fun K hK => ?_) (fun K hK => ?_)
    ·
     go_simp
     go_at_call 61
     refine (HN2.out _).mono ?_
     rintro e v5 ⟨rfl, hb5⟩
     have hz5 := hb5.size
     try simp only [World.size_alloc, size_drewT] at hz5
     try go_simp
     refine hK.out _ _ ?_ (fun hHeld => ?_)
     · exact ⟨(hHeld.1).old hb5, (hHeld.2.1).old hb5, (hHeld.2.2).trans ((hb5).mono (hHeld.2.2).size)⟩
     clear hK K
     try simp only [zz]
     refine st2 6 (fun K hK => ?_)
     go_simp
     refine hK.out _ _ ?_ (fun hHeld => ?_)
     · exact ⟨(hHeld.1).old ((Below.refl _ _).alloc (Nat.le_refl _) _), (hHeld.2.1).old ((Below.refl _ _).alloc (Nat.le_refl _) _), (hHeld.2.2).trans ((((Below.refl _ _).alloc (Nat.le_refl _) _)).mono (hHeld.2.2).size)⟩
     clear hK K
     try simp only [zz]
     refine st2 8 (fun K hK => ?_)
     refine step_store_row rfl 141 _ _ rfl _ [.int .i64 n1, .int .i64 Q1] rfl rfl 141 [.int .i64 0, .int .i64 0] ?_ (by kernel_rfl) rfl (by simp [Value.oneCell']) ?_
     · exact rwAA
     refine hK.out _ _ ?_ (fun hHeld => ?_)
     · exact ⟨hHeld.1.farRow (by (try simp only [World.size_alloc, size_drewT]); omega) _, hHeld.2.1.farRow (by (try simp only [World.size_alloc, size_drewT]); omega) _, Below.setRow hHeld.2.2 (by (try simp only [World.size_alloc, size_drewT]); omega) _⟩
     clear hK K
     try simp only [zz]
     refine st2 9 (fun K hK => ?_)
     refine step_store_row rfl 141 _ _ rfl _ [.int .i64 n2, .int .i64 Q2] rfl rfl 141 [.int .i64 0, .int .i64 0] ?_ (by kernel_rfl) rfl (by simp [Value.oneCell']) ?_
     · exact rwAA
     refine hK.out _ _ ?_ (fun hHeld => ?_)
     · exact ⟨hHeld.1.farRow (by (try simp only [World.size_alloc, size_drewT]); omega) _, hHeld.2.1.farRow (by (try simp only [World.size_alloc, size_drewT]); omega) _, Below.setRow hHeld.2.2 (by (try simp only [World.size_alloc, size_drewT]); omega) _⟩
     clear hK K
     try simp only [zz]
     refine wpAnyH_done (by kernel_rfl) ?_ _
     go_wp2_with fail
     go_meet
     exact ⟨_, _, rfl, rfl, rwAA, rwAA, hHeld⟩
    ·
     go_simp
     refine hK.out _ _ ?_ (fun hHeld => ?_)
     · exact ⟨(hHeld.1).old ((Below.refl _ _).alloc (Nat.le_refl _) _), (hHeld.2.1).old ((Below.refl _ _).alloc (Nat.le_refl _) _), (hHeld.2.2).trans ((((Below.refl _ _).alloc (Nat.le_refl _) _)).mono (hHeld.2.2).size)⟩
     clear hK K
     try simp only [zz]
     refine st2 5 (fun K hK => ?_)
     go_simp
     go_at_call 61
     refine (HN2.out _).mono ?_
     rintro e v5 ⟨rfl, hb5⟩
     have hz5 := hb5.size
     try simp only [World.size_alloc, size_drewT] at hz5
     try go_simp
     refine hK.out _ _ ?_ (fun hHeld => ?_)
     · exact ⟨(hHeld.1).old hb5, (hHeld.2.1).old hb5, (hHeld.2.2).trans ((hb5).mono (hHeld.2.2).size)⟩
     clear hK K
     try simp only [zz]
     refine st2 8 (fun K hK => ?_)
     refine step_store_row rfl 141 _ _ rfl _ [.int .i64 n1, .int .i64 Q1] rfl rfl 141 [.int .i64 0, .int .i64 0] ?_ (by kernel_rfl) rfl (by simp [Value.oneCell']) ?_
     · exact rwAA
     refine hK.out _ _ ?_ (fun hHeld => ?_)
     · exact ⟨hHeld.1.farRow (by (try simp only [World.size_alloc, size_drewT]); omega) _, hHeld.2.1.farRow (by (try simp only [World.size_alloc, size_drewT]); omega) _, Below.setRow hHeld.2.2 (by (try simp only [World.size_alloc, size_drewT]); omega) _⟩
     clear hK K
     try simp only [zz]
     refine st2 9 (fun K hK => ?_)
     refine step_store_row rfl 141 _ _ rfl _ [.int .i64 n2, .int .i64 Q2] rfl rfl 141 [.int .i64 0, .int .i64 0] ?_ (by kernel_rfl) rfl (by simp [Value.oneCell']) ?_
     · exact rwAA
     refine hK.out _ _ ?_ (fun hHeld => ?_)
     · exact ⟨hHeld.1.farRow (by (try simp only [World.size_alloc, size_drewT]); omega) _, hHeld.2.1.farRow (by (try simp only [World.size_alloc, size_drewT]); omega) _, Below.setRow hHeld.2.2 (by (try simp only [World.size_alloc, size_drewT]); omega) _⟩
     clear hK K
     try simp only [zz]
     refine wpAnyH_done (by kernel_rfl) ?_ _
     go_wp2_with fail
     go_meet
     exact ⟨_, _, rfl, rfl, rwAA, rwAA, hHeld⟩
  ·
   go_simp
   refine hK.out _ _ ?_ (fun hHeld => ?_)
   · exact ⟨(hHeld.1).old ((Below.refl _ _).alloc (Nat.le_refl _) _), (hHeld.2.1).old ((Below.refl _ _).alloc (Nat.le_refl _) _), (hHeld.2.2).trans ((((Below.refl _ _).alloc (Nat.le_refl _) _)).mono (hHeld.2.2).size)⟩
   clear hK K
   try simp only [zz]
   refine st3 2 7 (fun K hK => ?_) (fun K hK => ?_)
   ·
    go_simp
    go_at_call 61
    refine (HN1.out _).mono ?_
    rintro e v2 ⟨rfl, hb2⟩
    have hz2 := hb2.size
    try simp only [World.size_alloc, size_drewT] at hz2
    try go_simp
    refine hK.out _ _ ?_ (fun hHeld => ?_)
    · exact ⟨(hHeld.1).old hb2, (hHeld.2.1).old hb2, (hHeld.2.2).trans ((hb2).mono (hHeld.2.2).size)⟩
    clear hK K
    try simp only [zz]
    refine st3 5 7 (fun K hK => ?_) (fun K hK => ?_)
    ·
     go_simp
     go_at_call 61
     refine (HN2.out _).mono ?_
     rintro e v5 ⟨rfl, hb5⟩
     have hz5 := hb5.size
     try simp only [World.size_alloc, size_drewT] at hz5
     try go_simp
     refine hK.out _ _ ?_ (fun hHeld => ?_)
     · exact ⟨(hHeld.1).old hb5, (hHeld.2.1).old hb5, (hHeld.2.2).trans ((hb5).mono (hHeld.2.2).size)⟩
     clear hK K
     try simp only [zz]
     refine st2 7 (fun K hK => ?_)
     go_simp
     refine hK.out _ _ ?_ (fun hHeld => ?_)
     · exact ⟨(hHeld.1).old ((Below.refl _ _).alloc (Nat.le_refl _) _), (hHeld.2.1).old ((Below.refl _ _).alloc (Nat.le_refl _) _), (hHeld.2.2).trans ((((Below.refl _ _).alloc (Nat.le_refl _) _)).mono (hHeld.2.2).size)⟩
     clear hK K
     try simp only [zz]
     refine st2 8 (fun K hK => ?_)
     refine step_store_row rfl 141 _ _ rfl _ [.int .i64 n1, .int .i64 Q1] rfl rfl 141 [.int .i64 0, .int .i64 0] ?_ (by kernel_rfl) rfl (by simp [Value.oneCell']) ?_
     · exact rwAA
     refine hK.out _ _ ?_ (fun hHeld => ?_)
     · exact ⟨hHeld.1.farRow (by (try simp only [World.size_alloc, size_drewT]); omega) _, hHeld.2.1.farRow (by (try simp only [World.size_alloc, size_drewT]); omega) _, Below.setRow hHeld.2.2 (by (try simp only [World.size_alloc, size_drewT]); omega) _⟩
     clear hK K
     try simp only [zz]
     refine st2 9 (fun K hK => ?_)
     refine step_store_row rfl 141 _ _ rfl _ [.int .i64 n2, .int .i64 Q2] rfl rfl 141 [.int .i64 0, .int .i64 0] ?_ (by kernel_rfl) rfl (by simp [Value.oneCell']) ?_
     · exact rwAA
     refine hK.out _ _ ?_ (fun hHeld => ?_)
     · exact ⟨hHeld.1.farRow (by (try simp only [World.size_alloc, size_drewT]); omega) _, hHeld.2.1.farRow (by (try simp only [World.size_alloc, size_drewT]); omega) _, Below.setRow hHeld.2.2 (by (try simp only [World.size_alloc, size_drewT]); omega) _⟩
     clear hK K
     try simp only [zz]
     refine wpAnyH_done (by kernel_rfl) ?_ _
     go_wp2_with fail
     go_meet
     exact ⟨_, _, rfl, rfl, rwAA, rwAA, hHeld⟩
    ·
     go_simp
     refine hK.out _ _ ?_ (fun hHeld => ?_)
     · exact ⟨(hHeld.1).old ((Below.refl _ _).alloc (Nat.le_refl _) _), (hHeld.2.1).old ((Below.refl _ _).alloc (Nat.le_refl _) _), (hHeld.2.2).trans ((((Below.refl _ _).alloc (Nat.le_refl _) _)).mono (hHeld.2.2).size)⟩
     clear hK K
     try simp only [zz]
     refine st2 5 (fun K hK => ?_)
     go_simp
     go_at_call 61
     refine (HN2.out _).mono ?_
     rintro e v5 ⟨rfl, hb5⟩
     have hz5 := hb5.size
     try simp only [World.size_alloc, size_drewT] at hz5
     try go_simp
     refine hK.out _ _ ?_ (fun hHeld => ?_)
     · exact ⟨(hHeld.1).old hb5, (hHeld.2.1).old hb5, (hHeld.2.2).trans ((hb5).mono (hHeld.2.2).size)⟩
     clear hK K
     try simp only [zz]
     refine st2 8 (fun K hK => ?_)
     refine step_store_row rfl 141 _ _ rfl _ [.int .i64 n1, .int .i64 Q1] rfl rfl 141 [.int .i64 0, .int .i64 0] ?_ (by kernel_rfl) rfl (by simp [Value.oneCell']) ?_
     · exact rwAA
     refine hK.out _ _ ?_ (fun hHeld => ?_)
     · exact ⟨hHeld.1.farRow (by (try simp only [World.size_alloc, size_drewT]); omega) _, hHeld.2.1.farRow (by (try simp only [World.size_alloc, size_drewT]); omega) _, Below.setRow hHeld.2.2 (by (try simp only [World.size_alloc, size_drewT]); omega) _⟩
     clear hK K
     try simp only [zz]
     refine st2 9 (fun K hK => ?_)
     refine step_store_row rfl 141 _ _ rfl _ [.int .i64 n2, .int .i64 Q2] rfl rfl 141 [.int .i64 0, .int .i64 0] ?_ (by kernel_rfl) rfl (by simp [Value.oneCell']) ?_
     · exact rwAA
     refine hK.out _ _ ?_ (fun hHeld => ?_)
     · exact ⟨hHeld.1.farRow (by (try simp only [World.size_alloc, size_drewT]); omega) _, hHeld.2.1.farRow (by (try simp only [World.size_alloc, size_drewT]); omega) _, Below.setRow hHeld.2.2 (by (try simp only [World.size_alloc, size_drewT]); omega) _⟩
     clear hK K
     try simp only [zz]
     refine wpAnyH_done (by kernel_rfl) ?_ _
     go_wp2_with fail
     go_meet
     exact ⟨_, _, rfl, rfl, rwAA, rwAA, hHeld⟩
   ·
    go_simp
    refine hK.out _ _ ?_ (fun hHeld => ?_)
    · exact ⟨(hHeld.1).old ((Below.refl _ _).alloc (Nat.le_refl _) _), (hHeld.2.1).old ((Below.refl _ _).alloc (Nat.le_refl _) _), (hHeld.2.2).trans ((((Below.refl _ _).alloc (Nat.le_refl _) _)).mono (hHeld.2.2).size)⟩
    clear hK K
    try simp only [zz]
    refine st2 2 (fun K hK => ?_)
    go_simp
    go_at_call 61
    refine (HN1.out _).mono ?_
    rintro e v2 ⟨rfl, hb2⟩
    have hz2 := hb2.size
    try simp only [World.size_alloc, size_drewT] at hz2
    try go_simp
    refine hK.out _ _ ?_ (fun hHeld => ?_)
    · exact ⟨(hHeld.1).old hb2, (hHeld.2.1).old hb2, (hHeld.2.2).trans ((hb2).mono (hHeld.2.2).size)⟩
    clear hK K
    try simp only [zz]
    refine st2 5 (fun K hK => ?_)
    go_simp
    go_at_call 61
    refine (HN2.out _).mono ?_
    rintro e v5 ⟨rfl, hb5⟩
    have hz5 := hb5.size
    try simp only [World.size_alloc, size_drewT] at hz5
    try go_simp
    refine hK.out _ _ ?_ (fun hHeld => ?_)
    · exact ⟨(hHeld.1).old hb5, (hHeld.2.1).old hb5, (hHeld.2.2).trans ((hb5).mono (hHeld.2.2).size)⟩
    clear hK K
    try simp only [zz]
    refine st2 8 (fun K hK => ?_)
    refine step_store_row rfl 141 _ _ rfl _ [.int .i64 n1, .int .i64 Q1] rfl rfl 141 [.int .i64 0, .int .i64 0] ?_ (by kernel_rfl) rfl (by simp [Value.oneCell']) ?_
    · exact rwAA
    refine hK.out _ _ ?_ (fun hHeld => ?_)
    · exact ⟨hHeld.1.farRow (by (try simp only [World.size_alloc, size_drewT]); omega) _, hHeld.2.1.farRow (by (try simp only [World.size_alloc, size_drewT]); omega) _, Below.setRow hHeld.2.2 (by (try simp only [World.size_alloc, size_drewT]); omega) _⟩
    clear hK K
    try simp only [zz]
    refine st2 9 (fun K hK => ?_)
    refine step_store_row rfl 141 _ _ rfl _ [.int .i64 n2, .int .i64 Q2] rfl rfl 141 [.int .i64 0, .int .i64 0] ?_ (by kernel_rfl) rfl (by simp [Value.oneCell']) ?_
    · exact rwAA
    refine hK.out _ _ ?_ (fun hHeld => ?_)
    · exact ⟨hHeld.1.farRow (by (try simp only [World.size_alloc, size_drewT]); omega) _, hHeld.2.1.farRow (by (try simp only [World.size_alloc, size_drewT]); omega) _, Below.setRow hHeld.2.2 (by (try simp only [World.size_alloc, size_drewT]); omega) _⟩
    clear hK K
    try simp only [zz]
    refine wpAnyH_done (by kernel_rfl) ?_ _
    go_wp2_with fail
    go_meet
    exact ⟨_, _, rfl, rfl, rwAA, rwAA, hHeld⟩
  ·
   go_simp
   refine hK.out _ _ ?_ (fun hHeld => ?_)
   · exact ⟨(hHeld.1).old ((Below.refl _ _).alloc (Nat.le_refl _) _), (hHeld.2.1).old ((Below.refl _ _).alloc (Nat.le_refl _) _), (hHeld.2.2).trans ((((Below.refl _ _).alloc (Nat.le_refl _) _)).mono (hHeld.2.2).size)⟩
   clear hK K
   try simp only [zz]
   refine st3 2 6 (fun K hK => ?_) (fun K hK => ?_)
   ·
    go_simp
    go_at_call 61
    refine (HN1.out _).mono ?_
    rintro e v2 ⟨rfl, hb2⟩
    have hz2 := hb2.size
    try simp only [World.size_alloc, size_drewT] at hz2
    try go_simp
    refine hK.out _ _ ?_ (fun hHeld => ?_)
    · exact ⟨(hHeld.1).old hb2, (hHeld.2.1).old hb2, (hHeld.2.2).trans ((hb2).mono (hHeld.2.2).size)⟩
    clear hK K
    try simp only [zz]
    refine st3 5 6 (fun K hK => ?_) (fun K hK => ?_)
    ·
     go_simp
     go_at_call 61
     refine (HN2.out _).mono ?_
     rintro e v5 ⟨rfl, hb5⟩
     have hz5 := hb5.size
     try simp only [World.size_alloc, size_drewT] at hz5
     try go_simp
     refine hK.out _ _ ?_ (fun hHeld => ?_)
     · exact ⟨(hHeld.1).old hb5, (hHeld.2.1).old hb5, (hHeld.2.2).trans ((hb5).mono (hHeld.2.2).size)⟩
     clear hK K
     try simp only [zz]
     refine st2 6 (fun K hK => ?_)
     go_simp
     refine hK.out _ _ ?_ (fun hHeld => ?_)
     · exact ⟨(hHeld.1).old ((Below.refl _ _).alloc (Nat.le_refl _) _), (hHeld.2.1).old ((Below.refl _ _).alloc (Nat.le_refl _) _), (hHeld.2.2).trans ((((Below.refl _ _).alloc (Nat.le_refl _) _)).mono (hHeld.2.2).size)⟩
     clear hK K
     try simp only [zz]
     refine st2 8 (fun K hK => ?_)
     refine step_store_row rfl 141 _ _ rfl _ [.int .i64 n1, .int .i64 Q1] rfl rfl 141 [.int .i64 0, .int .i64 0] ?_ (by kernel_rfl) rfl (by simp [Value.oneCell']) ?_
     · exact rwAA
     refine hK.out _ _ ?_ (fun hHeld => ?_)
     · exact ⟨hHeld.1.farRow (by (try simp only [World.size_alloc, size_drewT]); omega) _, hHeld.2.1.farRow (by (try simp only [World.size_alloc, size_drewT]); omega) _, Below.setRow hHeld.2.2 (by (try simp only [World.size_alloc, size_drewT]); omega) _⟩
     clear hK K
     try simp only [zz]
     refine st2 9 (fun K hK => ?_)
     refine step_store_row rfl 141 _ _ rfl _ [.int .i64 n2, .int .i64 Q2] rfl rfl 141 [.int .i64 0, .int .i64 0] ?_ (by kernel_rfl) rfl (by simp [Value.oneCell']) ?_
     · exact rwAA
     refine hK.out _ _ ?_ (fun hHeld => ?_)
     · exact ⟨hHeld.1.farRow (by (try simp only [World.size_alloc, size_drewT]); omega) _, hHeld.2.1.farRow (by (try simp only [World.size_alloc, size_drewT]); omega) _, Below.setRow hHeld.2.2 (by (try simp only [World.size_alloc, size_drewT]); omega) _⟩
     clear hK K
     try simp only [zz]
     refine wpAnyH_done (by kernel_rfl) ?_ _
     go_wp2_with fail
     go_meet
     exact ⟨_, _, rfl, rfl, rwAA, rwAA, hHeld⟩
    ·
     go_simp
     refine hK.out _ _ ?_ (fun hHeld => ?_)
     · exact ⟨(hHeld.1).old ((Below.refl _ _).alloc (Nat.le_refl _) _), (hHeld.2.1).old ((Below.refl _ _).alloc (Nat.le_refl _) _), (hHeld.2.2).trans ((((Below.refl _ _).alloc (Nat.le_refl _) _)).mono (hHeld.2.2).size)⟩
     clear hK K
     try simp only [zz]
     refine st2 5 (fun K hK => ?_)
     go_simp
     go_at_call 61
     refine (HN2.out _).mono ?_
     rintro e v5 ⟨rfl, hb5⟩
     have hz5 := hb5.size
     try simp only [World.size_alloc, size_drewT] at hz5
     try go_simp
     refine hK.out _ _ ?_ (fun hHeld => ?_)
     · exact ⟨(hHeld.1).old hb5, (hHeld.2.1).old hb5, (hHeld.2.2).trans ((hb5).mono (hHeld.2.2).size)⟩
     clear hK K
     try simp only [zz]
     refine st2 8 (fun K hK => ?_)
     refine step_store_row rfl 141 _ _ rfl _ [.int .i64 n1, .int .i64 Q1] rfl rfl 141 [.int .i64 0, .int .i64 0] ?_ (by kernel_rfl) rfl (by simp [Value.oneCell']) ?_
     · exact rwAA
     refine hK.out _ _ ?_ (fun hHeld => ?_)
     · exact ⟨hHeld.1.farRow (by (try simp only [World.size_alloc, size_drewT]); omega) _, hHeld.2.1.farRow (by (try simp only [World.size_alloc, size_drewT]); omega) _, Below.setRow hHeld.2.2 (by (try simp only [World.size_alloc, size_drewT]); omega) _⟩
     clear hK K
     try simp only [zz]
     refine st2 9 (fun K hK => ?_)
     refine step_store_row rfl 141 _ _ rfl _ [.int .i64 n2, .int .i64 Q2] rfl rfl 141 [.int .i64 0, .int .i64 0] ?_ (by kernel_rfl) rfl (by simp [Value.oneCell']) ?_
     · exact rwAA
     refine hK.out _ _ ?_ (fun hHeld => ?_)
     · exact ⟨hHeld.1.farRow (by (try simp only [World.size_alloc, size_drewT]); omega) _, hHeld.2.1.farRow (by (try simp only [World.size_alloc, size_drewT]); omega) _, Below.setRow hHeld.2.2 (by (try simp only [World.size_alloc, size_drewT]); omega) _⟩
     clear hK K
     try simp only [zz]
     refine wpAnyH_done (by kernel_rfl) ?_ _
     go_wp2_with fail
     go_meet
     exact ⟨_, _, rfl, rfl, rwAA, rwAA, hHeld⟩
   ·
    go_simp
    refine hK.out _ _ ?_ (fun hHeld => ?_)
    · exact ⟨(hHeld.1).old ((Below.refl _ _).alloc (Nat.le_refl _) _), (hHeld.2.1).old ((Below.refl _ _).alloc (Nat.le_refl _) _), (hHeld.2.2).trans ((((Below.refl _ _).alloc (Nat.le_refl _) _)).mono (hHeld.2.2).size)⟩
    clear hK K
    try simp only [zz]
    refine st2 2 (fun K hK => ?_)
    go_simp
    go_at_call 61
    refine (HN1.out _).mono ?_
    rintro e v2 ⟨rfl, hb2⟩
    have hz2 := hb2.size
    try simp only [World.size_alloc, size_drewT] at hz2
    try go_simp
    refine hK.out _ _ ?_ (fun hHeld => ?_)
    · exact ⟨(hHeld.1).old hb2, (hHeld.2.1).old hb2, (hHeld.2.2).trans ((hb2).mono (hHeld.2.2).size)⟩
    clear hK K
    try simp only [zz]
    refine st2 5 (fun K hK => ?_)
    go_simp
    go_at_call 61
    refine (HN2.out _).mono ?_
    rintro e v5 ⟨rfl, hb5⟩
    have hz5 := hb5.size
    try simp only [World.size_alloc, size_drewT] at hz5
    try go_simp
    refine hK.out _ _ ?_ (fun hHeld => ?_)
    · exact ⟨(hHeld.1).old hb5, (hHeld.2.1).old hb5, (hHeld.2.2).trans ((hb5).mono (hHeld.2.2).size)⟩
    clear hK K
    try simp only [zz]
    refine st2 8 (fun K hK => ?_)
    refine step_store_row rfl 141 _ _ rfl _ [.int .i64 n1, .int .i64 Q1] rfl rfl 141 [.int .i64 0, .int .i64 0] ?_ (by kernel_rfl) rfl (by simp [Value.oneCell']) ?_
    · exact rwAA
    refine hK.out _ _ ?_ (fun hHeld => ?_)
    · exact ⟨hHeld.1.farRow (by (try simp only [World.size_alloc, size_drewT]); omega) _, hHeld.2.1.farRow (by (try simp only [World.size_alloc, size_drewT]); omega) _, Below.setRow hHeld.2.2 (by (try simp only [World.size_alloc, size_drewT]); omega) _⟩
    clear hK K
    try simp only [zz]
    refine st2 9 (fun K hK => ?_)
    refine step_store_row rfl 141 _ _ rfl _ [.int .i64 n2, .int .i64 Q2] rfl rfl 141 [.int .i64 0, .int .i64 0] ?_ (by kernel_rfl) rfl (by simp [Value.oneCell']) ?_
    · exact rwAA
    refine hK.out _ _ ?_ (fun hHeld => ?_)
    · exact ⟨hHeld.1.farRow (by (try simp only [World.size_alloc, size_drewT]); omega) _, hHeld.2.1.farRow (by (try simp only [World.size_alloc, size_drewT]); omega) _, Below.setRow hHeld.2.2 (by (try simp only [World.size_alloc, size_drewT]); omega) _⟩
    clear hK K
    try simp only [zz]
    refine wpAnyH_done (by kernel_rfl) ?_ _
    go_wp2_with fail
    go_meet
    exact ⟨_, _, rfl, rfl, rwAA, rwAA, hHeld⟩
 case rest =>
 obtain ⟨g8, g9, rfl, rfl, k8, k9, k1, k2, kb⟩ := hcut
 have HS9 : Hid (Row wc (w.heap.size) 57 [.int .i64 a, .int .i64 b, .int .i64 c, .int .i64 d, .int .i64 x, .int .i64 y, .int .i64 k, .int .i64 l, .int .i64 m, .int .i64 n, .int .i64 u, .int .i64 v] ∧ Row wc (w.heap.size + 1) 61 [.int .i64 0, .int .i64 0] ∧ Below w.heap.size w wc) := ⟨k1, k2, kb⟩
 have c0 := k8.cell 0; have c1 := k8.cell 1; have d0 := k9.cell 0; have d1 := k9.cell 1
 simp only [List.getElem?_cons_succ, List.getElem?_cons_zero] at c0 c1 d0 d1
 clear k8 k9 k1 k2 kb HS3 HN1 HN2
 go_wp2_with (first
  | (go_at_call 62; refine (HR.out _).mono ?_; rintro e w10 ⟨rfl, hb_w10⟩; have HS10 : Hid (Row w10 (w.heap.size) 57 [.int .i64 a, .int .i64 b, .int .i64 c, .int .i64 d, .int .i64 x, .int .i64 y, .int .i64 k, .int .i64 l, .int .i64 m, .int .i64 n, .int .i64 u, .int .i64 v] ∧ Row w10 (w.heap.size + 1) 61 [.int .i64 0, .int .i64 0] ∧ Below w.heap.size w w10) := ⟨(HS9.out.1).old hb_w10, (HS9.out.2.1).old hb_w10, (HS9.out.2.2).trans (hb_w10.mono (HS9.out.2.2).size)⟩; clear hb_w10)
  | (refine wpList_store_row rfl 61 _ _ rfl (w.heap.size + 1) #[.int .i64 p, .int .i64 q] rfl rfl 61 _ HS10.out.2.1 ?_ ?_ ?_ ?_; (kernel_rfl); (rfl); (simp [Value.oneCell'])))
 refine bodyPost_ret (results_rt rfl _ _ (w.heap.size + 1) 61 #[.int .i64 p, .int .i64 q] (0, 0) _ rfl (HS10.out.2.1.setRow [.int .i64 p, .int .i64 q]) Tryz.underlying61 rfl (by kernel_rfl)) rfl ⟨rfl, Below.setRow HS10.out.2.2 (by omega) _⟩
theorem results_ttt {P : Program} {fn : Func} {t u v : Tmp} (h : fn.results = #[.tmp t, .tmp u, .tmp v]) (tmps : Array Value) (w : World) : (results fn tmps).run P w = .ok (.tuple #[tmps.getD t undef, tmps.getD u undef, tmps.getD v undef]) w := by
 simp [results, h]
set_option maxRecDepth 100000 in
set_option maxHeartbeats 1000000 in
theorem toldT_ok (rs rf rl ra rb a b c d x y E : Int) (w : World) (hE : E = firstI [recE rs rf rl ra rb, sigE a b c d x y]) (h0 : E = 0) (tn : Int) (fl : ByteArray) (HM : ∀ W, Calls Tryz.prog 85 #[.agg #[.int .i64 rs, .int .i64 rf, .int .i64 rl, .int .i64 ra, .int .i64 rb], .agg #[.int .i64 a, .int .i64 b, .int .i64 c, .int .i64 d, .int .i64 x, .int .i64 y]] W fun e w' => e = .returned (.tuple #[.int .i64 tn, .string fl]) ∧ Below W.heap.size W w') : Calls Tryz.prog 32 #[.agg #[.int .i64 rs, .int .i64 rf, .int .i64 rl, .int .i64 ra, .int .i64 rb], .agg #[.int .i64 a, .int .i64 b, .int .i64 c, .int .i64 d, .int .i64 x, .int .i64 y]] w fun e w' => e = .returned (.tuple #[.int .i64 tn, .string fl, .int .i64 0]) ∧ Below w.heap.size w w' := by
 have HC1 : Hid (∀ W, Calls Tryz.prog 84 #[.agg #[.int .i64 rs, .int .i64 rf, .int .i64 rl, .int .i64 ra, .int .i64 rb]] W fun e w' => e = .returned (.int .i64 (recE rs rf rl ra rb)) ∧ Below W.heap.size W w') := fun W => checkReceiver_any rs rf rl ra rb W
 have HC2 : Hid (∀ W, Calls Tryz.prog 44 #[.agg #[.int .i64 a, .int .i64 b, .int .i64 c, .int .i64 d, .int .i64 x, .int .i64 y]] W fun e w' => e = .returned (.int .i64 (sigE a b c d x y)) ∧ Below W.heap.size W w') := fun W => checkSignal_any a b c d x y W
 have HM := Lib.hid HM
 obtain ⟨E1, hE1⟩ : ∃ E1, E1 = recE rs rf rl ra rb := ⟨_, rfl⟩
 obtain ⟨E2, hE2⟩ : ∃ E2, E2 = sigE a b c d x y := ⟨_, rfl⟩
 rw [← hE1] at HC1 hE
 rw [← hE2] at HC2 hE
 have HE := Lib.hid hE
 have hne : (E == 0) = true := by simpa using h0
 have hne2 : (E != 0) = false := by simpa using h0
 clear hE hE1 hE2 h0
 go_enter Tryz.func32, Tryz.ntmps32
 go_upto_region 1 with fail
 refine genT (fun V => Row V (w.heap.size) 87 [.int .i64 rs, .int .i64 rf, .int .i64 rl, .int .i64 ra, .int .i64 rb] ∧ Row V (w.heap.size + 1) 35 [.int .i64 a, .int .i64 b, .int .i64 c, .int .i64 d, .int .i64 x, .int .i64 y] ∧ Below w.heap.size w V) ⟨(Row.alloc (rowAt _ _ (by first | rfl | simp only [World.size_alloc])) _), (rowAt _ _ (by first | rfl | simp only [World.size_alloc])), (((Below.refl _ _).alloc (by first | exact Nat.le_refl _ | (simp only [World.size_alloc]; omega)) _).alloc (by first | exact Nat.le_refl _ | (simp only [World.size_alloc]; omega)) _)⟩ ?_
 intro W1 s1
 have HS1 := Lib.hid s1
 clear s1
 refine wp_region_held_drew (S := fun V => Row V (w.heap.size) 87 [.int .i64 rs, .int .i64 rf, .int .i64 rl, .int .i64 ra, .int .i64 rb] ∧ Row V (w.heap.size + 1) 35 [.int .i64 a, .int .i64 b, .int .i64 c, .int .i64 d, .int .i64 x, .int .i64 y] ∧ Below w.heap.size w V) (by kernel_rfl) ?_ (fun hHeld => ?_)
 · exact ⟨(HS1.out.1).drew, (HS1.out.2.1).drew, (HS1.out.2.2).drew⟩
 refine tk 0 10 (.agg #[.int .i64 rs, .int .i64 rf, .int .i64 rl, .int .i64 ra, .int .i64 rb]) rfl (by kernel_rfl) (fun _ _ _ h => h) (by kernel_rfl) (fun V hV => ex_rowT 87 _ rfl (w.heap.size) rfl 87 [.int .i64 rs, .int .i64 rf, .int .i64 rl, .int .i64 ra, .int .i64 rb] _ Tryz.underlying87 rfl (by kernel_rfl) (hV.1)) hHeld ?_
 try simp only [zz]
 refine tk 2 12 (.agg #[.int .i64 a, .int .i64 b, .int .i64 c, .int .i64 d, .int .i64 x, .int .i64 y]) rfl (by kernel_rfl) (fun _ _ _ h => h) (by kernel_rfl) (fun V hV => ex_rowT 35 _ rfl (w.heap.size + 1) rfl 35 [.int .i64 a, .int .i64 b, .int .i64 c, .int .i64 d, .int .i64 x, .int .i64 y] _ Tryz.underlying35 rfl (by kernel_rfl) (hV.2.1)) hHeld ?_
 try simp only [zz]
 refine st2 1 (fun K hK => ?_)
 go_simp
 go_at_call 84
 refine (HC1.out _).mono ?_
 rintro e v1 ⟨rfl, hb1⟩
 try go_simp
 refine hK.out _ _ ?_ (fun hHeld => ?_)
 · exact ⟨(hHeld.1).old hb1, (hHeld.2.1).old hb1, (hHeld.2.2).trans ((hb1).mono (hHeld.2.2).size)⟩
 clear hK K
 try simp only [zz]
 refine st2 3 (fun K hK => ?_)
 go_simp
 go_at_call 44
 refine (HC2.out _).mono ?_
 rintro e v3 ⟨rfl, hb3⟩
 try go_simp
 refine hK.out _ _ ?_ (fun hHeld => ?_)
 · exact ⟨(hHeld.1).old hb3, (hHeld.2.1).old hb3, (hHeld.2.2).trans ((hb3).mono (hHeld.2.2).size)⟩
 clear hK K
 try simp only [zz]
 refine st2 4 (fun K hK => ?_)
 go_simp
 refine hK.out _ _ ?_ (fun hHeld => ?_)
 · exact ⟨(hHeld.1).old ((Below.refl _ _).alloc (Nat.le_refl _) _), (hHeld.2.1).old ((Below.refl _ _).alloc (Nat.le_refl _) _), (hHeld.2.2).trans ((((Below.refl _ _).alloc (Nat.le_refl _) _)).mono (hHeld.2.2).size)⟩
 clear hK K
 try simp only [zz]
 refine st2 5 (fun K hK => ?_)
 go_simp
 go_at_call 64
 refine (firstV_any _ _ _ [E1, E2] _ ?_ rfl (by simp)).mono ?_
 · exact Rd.newT (t := 32)
 rintro e v13 ⟨rfl, rfl⟩
 try go_simp
 refine hK.out _ _ ?_ (fun hHeld => ?_)
 · exact hHeld
 clear hK K
 try simp only [zz]
 refine ta 6 7 hHeld ?_
 try simp only [zz]
 refine wpAnyH_done (by kernel_rfl) ?_ _
 rw [← HE.out]
 clear HC1 HC2 HE
 have HS4 := Lib.hid hHeld
 clear hHeld
 go_wp2_with (first
  | (refine wpList_load_row rfl 87 _ rfl (w.heap.size) rfl 87 #[.int .i64 rs, .int .i64 rf, .int .i64 rl, .int .i64 ra, .int .i64 rb] (0, 0) _ HS4.out.1 Tryz.underlying87 rfl ?_ ?_; (kernel_rfl))
  | (refine wpList_load_row rfl 35 _ rfl (w.heap.size + 1) rfl 35 #[.int .i64 a, .int .i64 b, .int .i64 c, .int .i64 d, .int .i64 x, .int .i64 y] (0, 0) _ HS4.out.2.1 Tryz.underlying35 rfl ?_ ?_; (kernel_rfl))
  | (go_at_call 85; refine (HM.out _).mono ?_; rintro e w5 ⟨rfl, hb_w5⟩; have HS5 : Hid (Row w5 (w.heap.size) 87 [.int .i64 rs, .int .i64 rf, .int .i64 rl, .int .i64 ra, .int .i64 rb] ∧ Row w5 (w.heap.size + 1) 35 [.int .i64 a, .int .i64 b, .int .i64 c, .int .i64 d, .int .i64 x, .int .i64 y] ∧ Below w.heap.size w w5) := ⟨(HS4.out.1).old hb_w5, (HS4.out.2.1).old hb_w5, (HS4.out.2.2).trans (hb_w5.mono (HS4.out.2.2).size)⟩; clear hb_w5))
 refine bodyPost_ret (results_ttt rfl _ _) rfl ?_
 exact ⟨rfl, HS5.out.2.2⟩
set_option maxRecDepth 100000
set_option maxHeartbeats 1000000
def mnI (a b : Int) : Int := if b < a then b else a
def mxI (a b : Int) : Int := if a < b then b else a
def minL (zs : List Int) : Int := (zs.drop 1).foldl mnI (zs.headD 0)
def maxL (zs : List Int) : Int := (zs.drop 1).foldl mxI (zs.headD 0)
theorem fold_snoc (f : Int → Int → Int) (zs : List Int) (k : Nat) (hk : k < zs.length) (h0 : 0 < k) : f (((zs.take k).drop 1).foldl f ((zs.take k).headD 0)) zs[k] = ((zs.take (k + 1)).drop 1).foldl f ((zs.take (k + 1)).headD 0) := by
 match zs, k, h0 with
 | z :: zs, k + 1, _ =>
   have hk' : k < zs.length := by simpa using hk
   show f ((zs.take k).foldl f z) zs[k] = (zs.take (k + 1)).foldl f z
   rw [List.take_succ_eq_append_getElem hk', List.foldl_append]; rfl
 | [], _, _ => simp at hk
theorem minS_any (A : Option Addr) (n c : Nat) (zs : List Int) (w : World) (h : Rd w A (ints zs)) (hn : n = zs.length) (h0 : 0 < zs.length) (hm : zs.length ≤ 1000000000) :
 Calls Tryz.prog 135 #[.slice A n c] w fun e w' => e = .returned (.int .i64 (minL zs)) ∧ w = w' := by
 subst hn
 obtain ⟨b0, off0, e0, hc0⟩ := Rd.int h h0
 have hz : decide ((zs.length : Int) < 1) = false := decide_eq_false (by omega)
 have hf : Hid (zs[0] = ((zs.take 1).drop 1).foldl mnI ((zs.take 1).headD 0)) := by
  match zs, h0 with
  | z :: zs, _ => exact rfl
 subst e0
 rw [Nat.add_zero] at hc0
 go_enter Tryz.func135, Tryz.ntmps135
 go_wp2
 go_loop [3, 4] (fun m i => ∃ k : Nat, 1 ≤ k ∧ k ≤ zs.length ∧ i = .int .i64 k ∧ ∃ x : Int, m = .int .i64 x ∧ Hid (x = ((zs.take k).drop 1).foldl mnI ((zs.take k).headD 0))) (fun _ i => zs.length - (intOf i).toNat)
 case atStart => exact ⟨1, Nat.le_refl _, h0, rfl, _, rfl, hf⟩
 case round =>
  obtain ⟨k, hk0, hk, rfl, x, rfl, H⟩ := hrel
  by_cases hlt : k < zs.length
  · obtain ⟨b, off, e, hc⟩ := Rd.int h hlt
    cases e
    have hd := Lib.hid (fold_snoc mnI zs k hlt (by omega))
    obtain ⟨y, hy⟩ : ∃ y, y = zs[k] := ⟨_, rfl⟩
    rw [← hy] at hc hd
    have HY := Lib.hid hy
    clear hy hf hc0
    go_wp2
    all_goals
     go_round
     case rel => exact ⟨k + 1, by omega, by omega, by go_num, _, rfl, by show _ = _; rw [← hd.out, ← H.out]; unfold mnI; first | rfl | omega | (split <;> omega)⟩
     case measure => simp [intOf]; omega
  · obtain rfl : k = zs.length := by omega
    go_wp2
    go_ret
    exact ⟨ret_int (by rw [H.out, List.take_length]; rfl), rfl⟩
theorem maxS_any (A : Option Addr) (n c : Nat) (zs : List Int) (w : World) (h : Rd w A (ints zs)) (hn : n = zs.length) (h0 : 0 < zs.length) (hm : zs.length ≤ 1000000000) :
 Calls Tryz.prog 136 #[.slice A n c] w fun e w' => e = .returned (.int .i64 (maxL zs)) ∧ w = w' := by
 subst hn
 obtain ⟨b0, off0, e0, hc0⟩ := Rd.int h h0
 have hz : decide ((zs.length : Int) < 1) = false := decide_eq_false (by omega)
 have hf : Hid (zs[0] = ((zs.take 1).drop 1).foldl mxI ((zs.take 1).headD 0)) := by
  match zs, h0 with
  | z :: zs, _ => exact rfl
 subst e0
 rw [Nat.add_zero] at hc0
 go_enter Tryz.func136, Tryz.ntmps136
 go_wp2
 go_loop [3, 4] (fun m i => ∃ k : Nat, 1 ≤ k ∧ k ≤ zs.length ∧ i = .int .i64 k ∧ ∃ x : Int, m = .int .i64 x ∧ Hid (x = ((zs.take k).drop 1).foldl mxI ((zs.take k).headD 0))) (fun _ i => zs.length - (intOf i).toNat)
 case atStart => exact ⟨1, Nat.le_refl _, h0, rfl, _, rfl, hf⟩
 case round =>
  obtain ⟨k, hk0, hk, rfl, x, rfl, H⟩ := hrel
  by_cases hlt : k < zs.length
  · obtain ⟨b, off, e, hc⟩ := Rd.int h hlt
    cases e
    have hd := Lib.hid (fold_snoc mxI zs k hlt (by omega))
    obtain ⟨y, hy⟩ : ∃ y, y = zs[k] := ⟨_, rfl⟩
    rw [← hy] at hc hd
    have HY := Lib.hid hy
    clear hy hf hc0
    go_wp2
    all_goals
     go_round
     case rel => exact ⟨k + 1, by omega, by omega, by go_num, _, rfl, by show _ = _; rw [← hd.out, ← H.out]; unfold mxI; first | rfl | omega | (split <;> omega)⟩
     case measure => simp [intOf]; omega
  · obtain rfl : k = zs.length := by omega
    go_wp2
    go_ret
    exact ⟨ret_int (by rw [H.out, List.take_length]; rfl), rfl⟩
theorem reach_any (A : Option Addr) (n c : Nat) (zs : List Int) (w : World) (h : Rd w A (ints zs)) (hn : n = zs.length) (h0 : 0 < zs.length) (hm : zs.length ≤ 1000000000) :
 Calls Tryz.prog 90 #[.slice A n c] w fun e w' => e = .returned (.agg #[.int .i64 (minL zs), .int .i64 (maxL zs)]) ∧ Below w.heap.size w w' := by
 have H1 : Hid (∀ W, Rd W A (ints zs) → Calls Tryz.prog 135 #[.slice A n c] W fun e w' => e = .returned (.int .i64 (minL zs)) ∧ W = w') := fun W hW => minS_any A n c zs W hW hn h0 hm
 have H2 : Hid (∀ W, Rd W A (ints zs) → Calls Tryz.prog 136 #[.slice A n c] W fun e w' => e = .returned (.int .i64 (maxL zs)) ∧ W = w') := fun W hW => maxS_any A n c zs W hW hn h0 hm
 have hb : Below w.heap.size w (w.alloc (.cells #[.int .i64 0, .int .i64 0] 85)) := (Below.refl _ _).alloc (Nat.le_refl _) _
 have HR := Lib.hid (h.below hb)
 have HB := Lib.hid hb
 have HN : Hid (Row (w.alloc (.cells #[.int .i64 0, .int .i64 0] 85)) w.heap.size 85 [.int .i64 0, .int .i64 0]) := Row.new w 85 [.int .i64 0, .int .i64 0]
 obtain ⟨p, hp⟩ : ∃ p, p = minL zs := ⟨_, rfl⟩
 obtain ⟨q, hq⟩ : ∃ q, q = maxL zs := ⟨_, rfl⟩
 rw [← hp] at H1 ⊢; rw [← hq] at H2 ⊢
 clear h hn h0 hm hb hp hq
 go_enter Tryz.func90, Tryz.ntmps90
 go_wp2_with (first
  | (go_at_call 135; refine (H1.out _ HR.out).mono ?_; rintro e w2 ⟨rfl, rfl⟩)
  | (go_at_call 136; refine (H2.out _ HR.out).mono ?_; rintro e w2 ⟨rfl, rfl⟩)
  | (refine wpList_store_row rfl 85 _ _ rfl (w.heap.size) #[.int .i64 p, .int .i64 q] rfl rfl 85 _ HN.out ?_ ?_ ?_ ?_; (kernel_rfl); (rfl); (simp [Value.oneCell'])))
 refine bodyPost_ret (results_rowA rfl _ _ (w.heap.size) 85 #[.int .i64 p, .int .i64 q] (0, 0) _ rfl (HN.out.setRow [.int .i64 p, .int .i64 q]) Tryz.underlying85 rfl (by kernel_rfl)) rfl ⟨rfl, Below.setRow HB.out (Nat.le_refl _) _⟩
end Go.Proofs.YtaknlhepgeiekaaGreatDoor
