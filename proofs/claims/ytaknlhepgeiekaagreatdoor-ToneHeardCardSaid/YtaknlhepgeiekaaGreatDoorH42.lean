import Derived.Test.YtaknlhepgeiekaaGreatDoorH41
namespace Go.Proofs.YtaknlhepgeiekaaGreatDoor
set_option linter.all false
open Go.RowKit Go.Fl
set_option maxRecDepth 100000 in
set_option maxHeartbeats 16000000 in
theorem awake_ok (w : World) (hA : AwT w) : Calls Tryz.prog 5 #[] w fun e w' => e = .returned (.bool true) ∧ Below w.heap.size w w' := by
 have HK : Hid (KpT w [] [] w) := ⟨hA, fun r h => (List.not_mem_nil h).elim, fun r h => (List.not_mem_nil h).elim, Below.refl _ _⟩
 clear hA
 go_enter Tryz.func5, Tryz.ntmps5
 go_upto_region 1 with fail
 go_cut [1] from 61 to 61 (fun s1 wx => ∃ g1, s1 = .pointer (some ⟨g1, 0, none⟩) ∧ Hid (KpT w [(g1, 35, q0)] [] wx))
 case first =>
  have HV := HK
  go_wp2_with (first
   | (go_at_call 29; refine (of2_any _ _ _ _).mono ?_; rintro e w2 ⟨rfl, hb⟩; replace HV := Lib.hid (HV.out.old hb); clear hb)
   | (refine wpList_store_row rfl 35 _ _ rfl (w2.heap.size) #[.int .i64 10, .int .i64 0, .int .i64 3, .int .i64 0, .int .i64 1, .int .i64 0] rfl rfl 35 _ (Row.new w2 35 [.int .i64 0, .int .i64 0, .int .i64 0, .int .i64 0, .int .i64 0, .int .i64 0]) ?_ ?_ ?_ ?_; (kernel_rfl); (rfl); (simp [Value.oneCell'])))
  go_meet
  exact ⟨_, rfl, Lib.hid (KpT.cons (HV.out.old (Below.setRow ((Below.refl _ _).alloc (Nat.le_refl _) _) (Nat.le_refl _) _)) ((Row.new w2 35 [.int .i64 0, .int .i64 0, .int .i64 0, .int .i64 0, .int .i64 0, .int .i64 0]).setRow [.int .i64 10, .int .i64 0, .int .i64 3, .int .i64 0, .int .i64 1, .int .i64 0]))⟩
 case rest =>
 clear HK
 obtain ⟨g1, rfl, HK⟩ := hcut
 go_upto_region 2 with fail
 go_cut [2, 3, 4] from 62 to 67 (fun s2 s3 s4 wx => ∃ g2 g3, s2 = .pointer (some ⟨g2, 0, none⟩) ∧ s3 = .pointer (some ⟨g3, 0, none⟩) ∧ s4 = .int .i64 0 ∧ Hid (KpT w [(g3, 61, q1), (g2, 61, q2), (g1, 35, q0)] [] wx))
 case first =>
  have HV := HK
  go_wp2_with (first
   | (refine wpList_load_row rfl 35 _ rfl g1 rfl 35 #[.int .i64 10, .int .i64 0, .int .i64 3, .int .i64 0, .int .i64 1, .int .i64 0] (0, 0) _ (HV.out.row g1 35 q0 (.head _)) Tryz.underlying35 rfl ?_ ?_; (kernel_rfl))
   | (go_at_call 30; refine (xDepths _).mono ?_; rintro e w2 ⟨rfl, hb⟩; replace HV := Lib.hid (HV.out.old hb); clear hb)
   | (refine wpList_store_row rfl 61 _ _ rfl (w2.heap.size) #[.int .i64 3, .int .i64 10] rfl rfl 61 _ ((Row.new w2 61 [.int .i64 0, .int .i64 0]).alloc (.cells ([.int .i64 0, .int .i64 0] : List Value).toArray 61)) ?_ ?_ ?_ ?_; (kernel_rfl); (rfl); (simp [Value.oneCell']))
   | (refine wpList_store_row rfl 61 _ _ rfl (w2.heap.size + 1) #[.int .i64 1, .int .i64 10] rfl rfl 61 _ ((row2 (w := w2) (t1 := 61) (t2 := 61) (L1 := [.int .i64 0, .int .i64 0]) (L2 := [.int .i64 0, .int .i64 0])).farRow (by omega : w2.heap.size + 1 ≠ w2.heap.size) #[.int .i64 3, .int .i64 10]) ?_ ?_ ?_ ?_; (kernel_rfl); (rfl); (simp [Value.oneCell'])))
  go_meet
  exact ⟨_, _, rfl, rfl, rfl, Lib.hid (KpT.cons (KpT.cons (HV.out.old (Below.setRow (Below.setRow (((Below.refl _ _).alloc (Nat.le_refl _) _).alloc (by simp) _) (Nat.le_refl _) _) (by omega) _)) ((((Row.new w2 61 [.int .i64 0, .int .i64 0]).alloc (.cells ([.int .i64 0, .int .i64 0] : List Value).toArray 61)).setRow [.int .i64 3, .int .i64 10]).farRow (by omega) _)) (((row2 (w := w2) (t1 := 61) (t2 := 61) (L1 := [.int .i64 0, .int .i64 0]) (L2 := [.int .i64 0, .int .i64 0])).farRow (by omega : w2.heap.size + 1 ≠ w2.heap.size) #[.int .i64 3, .int .i64 10]).setRow [.int .i64 1, .int .i64 10]))⟩
 case rest =>
 clear HK
 obtain ⟨g2, g3, rfl, rfl, rfl, HK⟩ := hcut
 go_upto_region 3 with fail
 go_cut [5, 6] from 68 to 72 (fun s5 s6 wx => ∃ g5, s5 = .pointer (some ⟨g5, 0, none⟩) ∧ s6 = .int .i64 0 ∧ Hid (KpT w [(g5, 61, q3), (g3, 61, q1), (g2, 61, q2), (g1, 35, q0)] [] wx))
 case first =>
  have HV := HK
  go_wp2_with (first
   | (refine wpList_load_row rfl 35 _ rfl g1 rfl 35 #[.int .i64 10, .int .i64 0, .int .i64 3, .int .i64 0, .int .i64 1, .int .i64 0] (0, 0) _ (HV.out.row g1 35 q0 (.tail _ (.tail _ (.head _)))) Tryz.underlying35 rfl ?_ ?_; (kernel_rfl))
   | (go_at_call 21; refine (xNeedle _).mono ?_; rintro e w2 ⟨rfl, hb⟩; replace HV := Lib.hid (HV.out.old hb); clear hb)
   | (refine wpList_store_row rfl 61 _ _ rfl (w2.heap.size) #[.int .i64 1, .int .i64 5] rfl rfl 61 _ (Row.new w2 61 [.int .i64 0, .int .i64 0]) ?_ ?_ ?_ ?_; (kernel_rfl); (rfl); (simp [Value.oneCell'])))
  go_meet
  exact ⟨_, rfl, rfl, Lib.hid (KpT.cons (HV.out.old (Below.setRow ((Below.refl _ _).alloc (Nat.le_refl _) _) (Nat.le_refl _) _)) ((Row.new w2 61 [.int .i64 0, .int .i64 0]).setRow [.int .i64 1, .int .i64 5]))⟩
 case rest =>
 clear HK
 obtain ⟨g5, rfl, rfl, HK⟩ := hcut
 go_upto_region 4 with fail
 go_cut [7, 8] from 73 to 77 (fun s7 s8 wx => ∃ g7, s7 = .pointer (some ⟨g7, 0, none⟩) ∧ s8 = .int .i64 0 ∧ Hid (KpT w [(g7, 61, q4), (g5, 61, q3), (g3, 61, q1), (g2, 61, q2), (g1, 35, q0)] [] wx))
 case first =>
  have HV := HK
  go_wp2_with (first
   | (refine wpList_load_row rfl 35 _ rfl g1 rfl 35 #[.int .i64 10, .int .i64 0, .int .i64 3, .int .i64 0, .int .i64 1, .int .i64 0] (0, 0) _ (HV.out.row g1 35 q0 (.tail _ (.tail _ (.tail _ (.head _))))) Tryz.underlying35 rfl ?_ ?_; (kernel_rfl))
   | (go_at_call 31; refine (xSum _).mono ?_; rintro e w2 ⟨rfl, hb⟩; replace HV := Lib.hid (HV.out.old hb); clear hb)
   | (refine wpList_store_row rfl 61 _ _ rfl (w2.heap.size) #[.int .i64 2, .int .i64 5] rfl rfl 61 _ (Row.new w2 61 [.int .i64 0, .int .i64 0]) ?_ ?_ ?_ ?_; (kernel_rfl); (rfl); (simp [Value.oneCell'])))
  go_meet
  exact ⟨_, rfl, rfl, Lib.hid (KpT.cons (HV.out.old (Below.setRow ((Below.refl _ _).alloc (Nat.le_refl _) _) (Nat.le_refl _) _)) ((Row.new w2 61 [.int .i64 0, .int .i64 0]).setRow [.int .i64 2, .int .i64 5]))⟩
 case rest =>
 clear HK
 obtain ⟨g7, rfl, rfl, HK⟩ := hcut
 go_upto_region 5 with fail
 go_cut [9, 10] from 78 to 82 (fun s9 s10 wx => ∃ g9, s9 = .pointer (some ⟨g9, 0, none⟩) ∧ s10 = .int .i64 0 ∧ Hid (KpT w [(g9, 35, q5), (g7, 61, q4), (g5, 61, q3), (g3, 61, q1), (g2, 61, q2), (g1, 35, q0)] [] wx))
 case first =>
  have HV := HK
  go_wp2_with (first
   | (refine wpList_load_row rfl 35 _ rfl g1 rfl 35 #[.int .i64 10, .int .i64 0, .int .i64 3, .int .i64 0, .int .i64 1, .int .i64 0] (0, 0) _ (HV.out.row g1 35 q0 (.tail _ (.tail _ (.tail _ (.tail _ (.head _)))))) Tryz.underlying35 rfl ?_ ?_; (kernel_rfl))
   | (go_at_call 24; refine (xTurned _ HV.out.1.1).mono ?_; rintro e w2 ⟨rfl, hb⟩; replace HV := Lib.hid (HV.out.old hb); clear hb)
   | (refine wpList_store_row rfl 35 _ _ rfl (w2.heap.size) #[.int .i64 0, .int .i64 10, .int .i64 0, .int .i64 3, .int .i64 0, .int .i64 1] rfl rfl 35 _ (Row.new w2 35 [.int .i64 0, .int .i64 0, .int .i64 0, .int .i64 0, .int .i64 0, .int .i64 0]) ?_ ?_ ?_ ?_; (kernel_rfl); (rfl); (simp [Value.oneCell'])))
  go_meet
  exact ⟨_, rfl, rfl, Lib.hid (KpT.cons (HV.out.old (Below.setRow ((Below.refl _ _).alloc (Nat.le_refl _) _) (Nat.le_refl _) _)) ((Row.new w2 35 [.int .i64 0, .int .i64 0, .int .i64 0, .int .i64 0, .int .i64 0, .int .i64 0]).setRow [.int .i64 0, .int .i64 10, .int .i64 0, .int .i64 3, .int .i64 0, .int .i64 1]))⟩
 case rest =>
 clear HK
 obtain ⟨g9, rfl, rfl, HK⟩ := hcut
 go_upto_region 6 with fail
 go_cut [11, 12] from 83 to 89 (fun s11 s12 wx => ∃ g11, s11 = .pointer (some ⟨g11, 0, none⟩) ∧ s12 = .int .i64 0 ∧ Hid (KpT w [(g11, 35, q6), (g9, 35, q5), (g7, 61, q4), (g5, 61, q3), (g3, 61, q1), (g2, 61, q2), (g1, 35, q0)] [] wx))
 case first =>
  refine wp_region_held_drew (S := fun V => Below wc.heap.size wc V) (by kernel_rfl) ?_ (fun hHeld => ?_)
  · exact (Below.refl _ _).drew
  refine tk 0 84 (.agg #[.int .i64 10, .int .i64 0, .int .i64 3, .int .i64 0, .int .i64 1, .int .i64 0]) rfl (by kernel_rfl) (fun _ _ _ h => h) (by kernel_rfl) (fun V hV => ex_rowT 35 _ rfl (g1) rfl 35 [.int .i64 10, .int .i64 0, .int .i64 3, .int .i64 0, .int .i64 1, .int .i64 0] _ Tryz.underlying35 rfl (by kernel_rfl) ((HK.out.old hV).row g1 35 q0 (.tail _ (.tail _ (.tail _ (.tail _ (.tail _ (.head _)))))))) hHeld ?_
  try simp only [zz]
  refine st3 1 7 (fun K hK => ?_) (fun K hK => ?_)
  ·
   go_simp
   go_at_call 7
   refine (at2_any _ _ _).mono ?_
   rintro e v1 ⟨rfl, hb1⟩
   have hz1 := hb1.size
   try simp only [World.size_alloc, size_drewT] at hz1
   try go_simp
   refine hK.out _ _ ?_ (fun hHeld => ?_)
   · exact hHeld.trans (hb1.mono hHeld.size)
   clear hK K
   try simp only [zz]
   refine st3 2 7 (fun K hK => ?_) (fun K hK => ?_)
   ·
    go_simp
    go_at_call 7
    refine (at2_any _ _ _).mono ?_
    rintro e v2 ⟨rfl, hb2⟩
    have hz2 := hb2.size
    try simp only [World.size_alloc, size_drewT] at hz2
    try go_simp
    refine hK.out _ _ ?_ (fun hHeld => ?_)
    · exact hHeld.trans (hb2.mono hHeld.size)
    clear hK K
    try simp only [zz]
    refine st3 3 7 (fun K hK => ?_) (fun K hK => ?_)
    ·
     go_simp
     go_at_call 25
     refine (xScaled _).mono ?_
     rintro e v3 ⟨rfl, hb3⟩
     have hz3 := hb3.size
     try simp only [World.size_alloc, size_drewT] at hz3
     try go_simp
     refine hK.out _ _ ?_ (fun hHeld => ?_)
     · exact hHeld.trans (hb3.mono hHeld.size)
     clear hK K
     try simp only [zz]
     refine ta 4 83 hHeld ?_
     try simp only [zz]
     refine ta 5 88 hHeld ?_
     try simp only [zz]
     refine ta 6 89 hHeld ?_
     try simp only [zz]
     refine st2 7 (fun K hK => ?_)
     go_simp
     refine hK.out _ _ ?_ (fun hHeld => ?_)
     · exact hHeld.alloc hHeld.size _
     clear hK K
     try simp only [zz]
     refine st2 8 (fun K hK => ?_)
     refine step_store_row rfl 35 _ _ rfl _ [.int .i64 10, .int .i64 0, .int .i64 0, .int .i64 3, .int .i64 0, .int .i64 1] rfl rfl 35 [.int .i64 0, .int .i64 0, .int .i64 0, .int .i64 0, .int .i64 0, .int .i64 0] ?_ (by kernel_rfl) rfl (by simp [Value.oneCell']) ?_
     · exact Row.new _ _ _
     refine hK.out _ _ ?_ (fun hHeld => ?_)
     · exact Below.setRow hHeld (by (try simp only [World.size_alloc, size_drewT] at *); omega) _
     clear hK K
     try simp only [zz]
     refine ta 9 12 hHeld ?_
     try simp only [zz]
     refine wpAnyH_done (by kernel_rfl) ?_ _
     go_wp2_with fail
     go_meet
     exact ⟨_, rfl, rfl, Lib.hid (KpT.cons (HK.out.old hHeld) (by exact (Row.new _ _ _).setRow _))⟩
    ·
     go_simp
     refine hK.out _ _ ?_ (fun hHeld => ?_)
     · exact hHeld.alloc hHeld.size _
     clear hK K
     try simp only [zz]
     refine st2 3 (fun K hK => ?_)
     go_simp
     go_at_call 25
     refine (xScaled _).mono ?_
     rintro e v3 ⟨rfl, hb3⟩
     have hz3 := hb3.size
     try simp only [World.size_alloc, size_drewT] at hz3
     try go_simp
     refine hK.out _ _ ?_ (fun hHeld => ?_)
     · exact hHeld.trans (hb3.mono hHeld.size)
     clear hK K
     try simp only [zz]
     refine ta 4 83 hHeld ?_
     try simp only [zz]
     refine ta 5 88 hHeld ?_
     try simp only [zz]
     refine ta 6 89 hHeld ?_
     try simp only [zz]
     refine st2 8 (fun K hK => ?_)
     refine step_store_row rfl 35 _ _ rfl _ [.int .i64 10, .int .i64 0, .int .i64 0, .int .i64 3, .int .i64 0, .int .i64 1] rfl rfl 35 [.int .i64 0, .int .i64 0, .int .i64 0, .int .i64 0, .int .i64 0, .int .i64 0] ?_ (by kernel_rfl) rfl (by simp [Value.oneCell']) ?_
     · exact (Row.new _ _ _).old hb3
     refine hK.out _ _ ?_ (fun hHeld => ?_)
     · exact Below.setRow hHeld (by (try simp only [World.size_alloc, size_drewT] at *); omega) _
     clear hK K
     try simp only [zz]
     refine ta 9 12 hHeld ?_
     try simp only [zz]
     refine wpAnyH_done (by kernel_rfl) ?_ _
     go_wp2_with fail
     go_meet
     exact ⟨_, rfl, rfl, Lib.hid (KpT.cons (HK.out.old hHeld) (by exact ((Row.new _ _ _).old hb3).setRow _))⟩
   ·
    go_simp
    refine hK.out _ _ ?_ (fun hHeld => ?_)
    · exact hHeld.alloc hHeld.size _
    clear hK K
    try simp only [zz]
    refine st2 2 (fun K hK => ?_)
    go_simp
    go_at_call 7
    refine (at2_any _ _ _).mono ?_
    rintro e v2 ⟨rfl, hb2⟩
    have hz2 := hb2.size
    try simp only [World.size_alloc, size_drewT] at hz2
    try go_simp
    refine hK.out _ _ ?_ (fun hHeld => ?_)
    · exact hHeld.trans (hb2.mono hHeld.size)
    clear hK K
    try simp only [zz]
    refine st2 3 (fun K hK => ?_)
    go_simp
    go_at_call 25
    refine (xScaled _).mono ?_
    rintro e v3 ⟨rfl, hb3⟩
    have hz3 := hb3.size
    try simp only [World.size_alloc, size_drewT] at hz3
    try go_simp
    refine hK.out _ _ ?_ (fun hHeld => ?_)
    · exact hHeld.trans (hb3.mono hHeld.size)
    clear hK K
    try simp only [zz]
    refine ta 4 83 hHeld ?_
    try simp only [zz]
    refine ta 5 88 hHeld ?_
    try simp only [zz]
    refine ta 6 89 hHeld ?_
    try simp only [zz]
    refine st2 8 (fun K hK => ?_)
    refine step_store_row rfl 35 _ _ rfl _ [.int .i64 10, .int .i64 0, .int .i64 0, .int .i64 3, .int .i64 0, .int .i64 1] rfl rfl 35 [.int .i64 0, .int .i64 0, .int .i64 0, .int .i64 0, .int .i64 0, .int .i64 0] ?_ (by kernel_rfl) rfl (by simp [Value.oneCell']) ?_
    · exact ((Row.new _ _ _).old hb2).old hb3
    refine hK.out _ _ ?_ (fun hHeld => ?_)
    · exact Below.setRow hHeld (by (try simp only [World.size_alloc, size_drewT] at *); omega) _
    clear hK K
    try simp only [zz]
    refine ta 9 12 hHeld ?_
    try simp only [zz]
    refine wpAnyH_done (by kernel_rfl) ?_ _
    go_wp2_with fail
    go_meet
    exact ⟨_, rfl, rfl, Lib.hid (KpT.cons (HK.out.old hHeld) (by exact (((Row.new _ _ _).old hb2).old hb3).setRow _))⟩
  ·
   go_simp
   refine hK.out _ _ ?_ (fun hHeld => ?_)
   · exact hHeld.alloc hHeld.size _
   clear hK K
   try simp only [zz]
   refine st2 1 (fun K hK => ?_)
   go_simp
   go_at_call 7
   refine (at2_any _ _ _).mono ?_
   rintro e v1 ⟨rfl, hb1⟩
   have hz1 := hb1.size
   try simp only [World.size_alloc, size_drewT] at hz1
   try go_simp
   refine hK.out _ _ ?_ (fun hHeld => ?_)
   · exact hHeld.trans (hb1.mono hHeld.size)
   clear hK K
   try simp only [zz]
   refine st2 2 (fun K hK => ?_)
   go_simp
   go_at_call 7
   refine (at2_any _ _ _).mono ?_
   rintro e v2 ⟨rfl, hb2⟩
   have hz2 := hb2.size
   try simp only [World.size_alloc, size_drewT] at hz2
   try go_simp
   refine hK.out _ _ ?_ (fun hHeld => ?_)
   · exact hHeld.trans (hb2.mono hHeld.size)
   clear hK K
   try simp only [zz]
   refine st2 3 (fun K hK => ?_)
   go_simp
   go_at_call 25
   refine (xScaled _).mono ?_
   rintro e v3 ⟨rfl, hb3⟩
   have hz3 := hb3.size
   try simp only [World.size_alloc, size_drewT] at hz3
   try go_simp
   refine hK.out _ _ ?_ (fun hHeld => ?_)
   · exact hHeld.trans (hb3.mono hHeld.size)
   clear hK K
   try simp only [zz]
   refine ta 4 83 hHeld ?_
   try simp only [zz]
   refine ta 5 88 hHeld ?_
   try simp only [zz]
   refine ta 6 89 hHeld ?_
   try simp only [zz]
   refine st2 8 (fun K hK => ?_)
   refine step_store_row rfl 35 _ _ rfl _ [.int .i64 10, .int .i64 0, .int .i64 0, .int .i64 3, .int .i64 0, .int .i64 1] rfl rfl 35 [.int .i64 0, .int .i64 0, .int .i64 0, .int .i64 0, .int .i64 0, .int .i64 0] ?_ (by kernel_rfl) rfl (by simp [Value.oneCell']) ?_
   · exact ((((Row.new _ _ _).drew).old hb1).old hb2).old hb3
   refine hK.out _ _ ?_ (fun hHeld => ?_)
   · exact Below.setRow hHeld (by (try simp only [World.size_alloc, size_drewT] at *); omega) _
   clear hK K
   try simp only [zz]
   refine ta 9 12 hHeld ?_
   try simp only [zz]
   refine wpAnyH_done (by kernel_rfl) ?_ _
   go_wp2_with fail
   go_meet
   exact ⟨_, rfl, rfl, Lib.hid (KpT.cons (HK.out.old hHeld) (by exact (((((Row.new _ _ _).drew).old hb1).old hb2).old hb3).setRow _))⟩
 case rest =>
 clear HK
 obtain ⟨g11, rfl, rfl, HK⟩ := hcut
 go_upto_region 7 with fail
 go_cut [13, 14] from 90 to 94 (fun s13 s14 wx => ∃ g13, s13 = .pointer (some ⟨g13, 0, none⟩) ∧ s14 = .int .i64 0 ∧ Hid (KpT w [(g13, 61, q7), (g11, 35, q6), (g9, 35, q5), (g7, 61, q4), (g5, 61, q3), (g3, 61, q1), (g2, 61, q2), (g1, 35, q0)] [] wx))
 case first =>
  have HV := HK
  go_wp2_with (first
   | (refine wpList_load_row rfl 35 _ rfl g11 rfl 35 #[.int .i64 10, .int .i64 0, .int .i64 0, .int .i64 3, .int .i64 0, .int .i64 1] (0, 0) _ (HV.out.row g11 35 q6 (.head _)) Tryz.underlying35 rfl ?_ ?_; (kernel_rfl))
   | (go_at_call 21; refine (xNeedle2 _).mono ?_; rintro e w2 ⟨rfl, hb⟩; replace HV := Lib.hid (HV.out.old hb); clear hb)
   | (refine wpList_store_row rfl 61 _ _ rfl (w2.heap.size) #[.int .i64 0, .int .i64 1] rfl rfl 61 _ (Row.new w2 61 [.int .i64 0, .int .i64 0]) ?_ ?_ ?_ ?_; (kernel_rfl); (rfl); (simp [Value.oneCell'])))
  go_meet
  exact ⟨_, rfl, rfl, Lib.hid (KpT.cons (HV.out.old (Below.setRow ((Below.refl _ _).alloc (Nat.le_refl _) _) (Nat.le_refl _) _)) ((Row.new w2 61 [.int .i64 0, .int .i64 0]).setRow [.int .i64 0, .int .i64 1]))⟩
 case rest =>
 clear HK
 obtain ⟨g13, rfl, rfl, HK⟩ := hcut
 go_upto_region 8 with fail
 go_cut [15, 16, 17] from 95 to 101 (fun s15 s16 s17 wx => s15 = .int .i64 20 ∧ s16 = .string ⟨#[]⟩ ∧ s17 = .int .i64 0 ∧ Hid (KpT w [(g13, 61, q7), (g11, 35, q6), (g9, 35, q5), (g7, 61, q4), (g5, 61, q3), (g3, 61, q1), (g2, 61, q2), (g1, 35, q0)] [] wx))
 case first =>
  refine wp_region_held_drew (S := fun V => Below wc.heap.size wc V) (by kernel_rfl) ?_ (fun hHeld => ?_)
  · exact (Below.refl _ _).drew
  refine tk 1 97 (.agg #[.int .i64 10, .int .i64 0, .int .i64 3, .int .i64 0, .int .i64 1, .int .i64 0]) rfl (by kernel_rfl) (fun _ _ _ h => h) (by kernel_rfl) (fun V hV => ex_rowT 35 _ rfl (g1) rfl 35 [.int .i64 10, .int .i64 0, .int .i64 3, .int .i64 0, .int .i64 1, .int .i64 0] _ Tryz.underlying35 rfl (by kernel_rfl) ((HK.out.old hV).row g1 35 q0 (.tail _ (.tail _ (.tail _ (.tail _ (.tail _ (.tail _ (.tail _ (.head _)))))))))) hHeld ?_
  try simp only [zz]
  refine st2 0 (fun K hK => ?_)
  go_simp
  go_at_call 33
  refine (set2_any _).mono ?_
  rintro e v0 ⟨rfl, hb0⟩
  have hz0 := hb0.size
  try simp only [World.size_alloc, size_drewT] at hz0
  try go_simp
  refine hK.out _ _ ?_ (fun hHeld => ?_)
  · exact hHeld.trans (hb0.mono hHeld.size)
  clear hK K
  try simp only [zz]
  refine st2 2 (fun K hK => ?_)
  go_simp
  go_at_call 32
  refine (xTold _).mono ?_
  rintro e v2 ⟨rfl, hb2⟩
  have hz2 := hb2.size
  try simp only [World.size_alloc, size_drewT] at hz2
  try go_simp
  refine hK.out _ _ ?_ (fun hHeld => ?_)
  · exact hHeld.trans (hb2.mono hHeld.size)
  clear hK K
  try simp only [zz]
  refine ta 3 95 hHeld ?_
  try simp only [zz]
  refine ta 4 99 hHeld ?_
  try simp only [zz]
  refine ta 5 100 hHeld ?_
  try simp only [zz]
  refine ta 6 101 hHeld ?_
  try simp only [zz]
  refine ta 7 15 hHeld ?_
  try simp only [zz]
  refine ta 8 16 hHeld ?_
  try simp only [zz]
  refine ta 9 17 hHeld ?_
  try simp only [zz]
  refine wpAnyH_done (by kernel_rfl) ?_ _
  go_wp2_with fail
  go_meet
  exact ⟨rfl, rfl, rfl, Lib.hid (HK.out.old hHeld)⟩
 case rest =>
 clear HK
 obtain ⟨rfl, rfl, rfl, HK⟩ := hcut
 go_upto_region 9 with fail
 go_cut [18, 19, 20] from 102 to 108 (fun s18 s19 s20 wx => s18 = .int .i64 30 ∧ s19 = .string ⟨#[]⟩ ∧ s20 = .int .i64 0 ∧ Hid (KpT w [(g13, 61, q7), (g11, 35, q6), (g9, 35, q5), (g7, 61, q4), (g5, 61, q3), (g3, 61, q1), (g2, 61, q2), (g1, 35, q0)] [] wx))
 case first =>
  have HV := HK
  go_wp2_with (first
   | (go_at_call 33; refine (set2_any _).mono ?_; rintro e w2 ⟨rfl, hb⟩; replace HV := Lib.hid (HV.out.old hb); clear hb)
   | (go_at_call 29; refine (of2_any _ _ _ _).mono ?_; rintro e w2 ⟨rfl, hb⟩; replace HV := Lib.hid (HV.out.old hb); clear hb)
   | (go_at_call 32; refine (xTold5 _).mono ?_; rintro e w2 ⟨rfl, hb⟩; replace HV := Lib.hid (HV.out.old hb); clear hb))
  go_meet
  exact ⟨rfl, rfl, rfl, HV⟩
 case rest =>
 clear HK
 obtain ⟨rfl, rfl, rfl, HK⟩ := hcut
 go_upto_region 10 with fail
 go_cut [21, 22, 23] from 109 to 115 (fun s21 s22 s23 wx => s21 = .int .i64 0 ∧ s22 = .string ⟨#[100, 101, 112, 116, 104]⟩ ∧ s23 = .int .i64 0 ∧ Hid (KpT w [(g13, 61, q7), (g11, 35, q6), (g9, 35, q5), (g7, 61, q4), (g5, 61, q3), (g3, 61, q1), (g2, 61, q2), (g1, 35, q0)] [] wx))
 case first =>
  have HV := HK
  go_wp2_with (first
   | (go_at_call 33; refine (set2_any _).mono ?_; rintro e w2 ⟨rfl, hb⟩; replace HV := Lib.hid (HV.out.old hb); clear hb)
   | (go_at_call 29; refine (of2_any _ _ _ _).mono ?_; rintro e w2 ⟨rfl, hb⟩; replace HV := Lib.hid (HV.out.old hb); clear hb)
   | (go_at_call 32; refine (xTold6 _).mono ?_; rintro e w2 ⟨rfl, hb⟩; replace HV := Lib.hid (HV.out.old hb); clear hb))
  go_meet
  exact ⟨rfl, rfl, rfl, HV⟩
 case rest =>
 clear HK
 obtain ⟨rfl, rfl, rfl, HK⟩ := hcut
 go_upto_region 11 with fail
 go_cut [24, 25, 26] from 116 to 122 (fun s24 s25 s26 wx => s24 = .int .i64 0 ∧ s25 = .string ⟨#[119, 101, 97, 107]⟩ ∧ s26 = .int .i64 0 ∧ Hid (KpT w [(g13, 61, q7), (g11, 35, q6), (g9, 35, q5), (g7, 61, q4), (g5, 61, q3), (g3, 61, q1), (g2, 61, q2), (g1, 35, q0)] [] wx))
 case first =>
  have HV := HK
  go_wp2_with (first
   | (go_at_call 33; refine (set2_any _).mono ?_; rintro e w2 ⟨rfl, hb⟩; replace HV := Lib.hid (HV.out.old hb); clear hb)
   | (go_at_call 29; refine (of2_any _ _ _ _).mono ?_; rintro e w2 ⟨rfl, hb⟩; replace HV := Lib.hid (HV.out.old hb); clear hb)
   | (go_at_call 32; refine (xTold7 _).mono ?_; rintro e w2 ⟨rfl, hb⟩; replace HV := Lib.hid (HV.out.old hb); clear hb))
  go_meet
  exact ⟨rfl, rfl, rfl, HV⟩
 case rest =>
 clear HK
 obtain ⟨rfl, rfl, rfl, HK⟩ := hcut
 go_upto_region 12 with fail
 go_cut [27, 28] from 123 to 131 (fun s27 s28 wx => ∃ g27, s27 = .slice (some ⟨g27, 0, none⟩) 3 3 ∧ s28 = .int .i64 0 ∧ Hid (KpT w [(g27, 3, (ints [5, 8, 11])), (g13, 61, q7), (g11, 35, q6), (g9, 35, q5), (g7, 61, q4), (g5, 61, q3), (g3, 61, q1), (g2, 61, q2), (g1, 35, q0)] [] wx))
 case first =>
  refine wp_region_held_drew (S := fun V => Below wc.heap.size wc V) (by kernel_rfl) ?_ (fun hHeld => ?_)
  · exact (Below.refl _ _).drew
  refine tk 1 125 (.agg #[.int .i64 10, .int .i64 0, .int .i64 3, .int .i64 0, .int .i64 1, .int .i64 0]) rfl (by kernel_rfl) (fun _ _ _ h => h) (by kernel_rfl) (fun V hV => ex_rowT 35 _ rfl (g1) rfl 35 [.int .i64 10, .int .i64 0, .int .i64 3, .int .i64 0, .int .i64 1, .int .i64 0] _ Tryz.underlying35 rfl (by kernel_rfl) ((HK.out.old hV).row g1 35 q0 (.tail _ (.tail _ (.tail _ (.tail _ (.tail _ (.tail _ (.tail _ (.head _)))))))))) hHeld ?_
  try simp only [zz]
  refine tk 2 126 (.agg #[.int .i64 10, .int .i64 0, .int .i64 3, .int .i64 0, .int .i64 1, .int .i64 0]) rfl (by kernel_rfl) (fun _ _ _ h => h) (by kernel_rfl) (fun V hV => ex_rowT 35 _ rfl (g1) rfl 35 [.int .i64 10, .int .i64 0, .int .i64 3, .int .i64 0, .int .i64 1, .int .i64 0] _ Tryz.underlying35 rfl (by kernel_rfl) ((HK.out.old hV).row g1 35 q0 (.tail _ (.tail _ (.tail _ (.tail _ (.tail _ (.tail _ (.tail _ (.head _)))))))))) hHeld ?_
  try simp only [zz]
  refine tk 3 127 (.agg #[.int .i64 10, .int .i64 0, .int .i64 3, .int .i64 0, .int .i64 1, .int .i64 0]) rfl (by kernel_rfl) (fun _ _ _ h => h) (by kernel_rfl) (fun V hV => ex_rowT 35 _ rfl (g1) rfl 35 [.int .i64 10, .int .i64 0, .int .i64 3, .int .i64 0, .int .i64 1, .int .i64 0] _ Tryz.underlying35 rfl (by kernel_rfl) ((HK.out.old hV).row g1 35 q0 (.tail _ (.tail _ (.tail _ (.tail _ (.tail _ (.tail _ (.tail _ (.head _)))))))))) hHeld ?_
  try simp only [zz]
  refine st3 0 4 (fun K hK => ?_) (fun K hK => ?_)
  ·
   go_simp
   go_at_call 33
   refine (set2_any _).mono ?_
   rintro e v0 ⟨rfl, hb0⟩
   have hz0 := hb0.size
   try simp only [World.size_alloc, size_drewT] at hz0
   try go_simp
   refine hK.out _ _ ?_ (fun hHeld => ?_)
   · exact hHeld.trans (hb0.mono hHeld.size)
   clear hK K
   try simp only [zz]
   refine st2 4 (fun K hK => ?_)
   go_simp
   refine hK.out _ _ ?_ (fun hHeld => ?_)
   · exact hHeld.alloc hHeld.size _
   clear hK K
   try simp only [zz]
   refine st2 5 (fun K hK => ?_)
   go_simp
   go_at_call 34
   refine (xFollowed _ _ _ (by rw [show sgC [sgP 10 3 1, sgP 10 3 1, sgP 10 3 1] = [.int .i64 10, .int .i64 0, .int .i64 3, .int .i64 0, .int .i64 1, .int .i64 0, .int .i64 10, .int .i64 0, .int .i64 3, .int .i64 0, .int .i64 1, .int .i64 0, .int .i64 10, .int .i64 0, .int .i64 3, .int .i64 0, .int .i64 1, .int .i64 0] from rfl]; exact Rd.row (t := 35) (by exact Row.new _ _ _))).mono ?_
   rintro e v5 ⟨g27, rfl, hF, hgF, hb5⟩
   have hz5 := hb5.size
   try simp only [World.size_alloc, size_drewT] at hz5
   try go_simp
   refine hK.out _ _ ?_ (fun hHeld => ?_)
   · exact hHeld.trans (hb5.mono hHeld.size)
   clear hK K
   try simp only [zz]
   refine ta 6 123 hHeld ?_
   try simp only [zz]
   refine ta 7 130 hHeld ?_
   try simp only [zz]
   refine ta 8 131 hHeld ?_
   try simp only [zz]
   refine ta 9 27 hHeld ?_
   try simp only [zz]
   refine ta 10 28 hHeld ?_
   try simp only [zz]
   refine wpAnyH_done (by kernel_rfl) ?_ _
   go_wp2_with fail
   go_meet
   exact ⟨g27, rfl, rfl, Lib.hid (KpT.cons (HK.out.old hHeld) hF)⟩
  ·
   go_simp
   refine hK.out _ _ ?_ (fun hHeld => ?_)
   · exact hHeld.alloc hHeld.size _
   clear hK K
   try simp only [zz]
   refine st2 0 (fun K hK => ?_)
   go_simp
   go_at_call 33
   refine (set2_any _).mono ?_
   rintro e v0 ⟨rfl, hb0⟩
   have hz0 := hb0.size
   try simp only [World.size_alloc, size_drewT] at hz0
   try go_simp
   refine hK.out _ _ ?_ (fun hHeld => ?_)
   · exact hHeld.trans (hb0.mono hHeld.size)
   clear hK K
   try simp only [zz]
   refine st2 5 (fun K hK => ?_)
   go_simp
   go_at_call 34
   refine (xFollowed _ _ _ (by rw [show sgC [sgP 10 3 1, sgP 10 3 1, sgP 10 3 1] = [.int .i64 10, .int .i64 0, .int .i64 3, .int .i64 0, .int .i64 1, .int .i64 0, .int .i64 10, .int .i64 0, .int .i64 3, .int .i64 0, .int .i64 1, .int .i64 0, .int .i64 10, .int .i64 0, .int .i64 3, .int .i64 0, .int .i64 1, .int .i64 0] from rfl]; exact Rd.row (t := 35) (by exact ((Row.new _ _ _).drew).old hb0))).mono ?_
   rintro e v5 ⟨g27, rfl, hF, hgF, hb5⟩
   have hz5 := hb5.size
   try simp only [World.size_alloc, size_drewT] at hz5
   try go_simp
   refine hK.out _ _ ?_ (fun hHeld => ?_)
   · exact hHeld.trans (hb5.mono hHeld.size)
   clear hK K
   try simp only [zz]
   refine ta 6 123 hHeld ?_
   try simp only [zz]
   refine ta 7 130 hHeld ?_
   try simp only [zz]
   refine ta 8 131 hHeld ?_
   try simp only [zz]
   refine ta 9 27 hHeld ?_
   try simp only [zz]
   refine ta 10 28 hHeld ?_
   try simp only [zz]
   refine wpAnyH_done (by kernel_rfl) ?_ _
   go_wp2_with fail
   go_meet
   exact ⟨g27, rfl, rfl, Lib.hid (KpT.cons (HK.out.old hHeld) hF)⟩
 case rest =>
 clear HK
 obtain ⟨g27, rfl, rfl, HK⟩ := hcut
 go_upto_region 13 with fail
 go_cut [29, 30] from 132 to 138 (fun s29 s30 wx => s29 = .int .i64 0 ∧ s30 = .int .i64 0 ∧ Hid (KpT w [(g27, 3, (ints [5, 8, 11])), (g13, 61, q7), (g11, 35, q6), (g9, 35, q5), (g7, 61, q4), (g5, 61, q3), (g3, 61, q1), (g2, 61, q2), (g1, 35, q0)] [] wx))
 case first =>
  refine wp_region_held_drew (S := fun V => Below wc.heap.size wc V) (by kernel_rfl) ?_ (fun hHeld => ?_)
  · exact (Below.refl _ _).drew
  refine tk 0 133 (.agg #[.int .i64 10, .int .i64 0, .int .i64 3, .int .i64 0, .int .i64 1, .int .i64 0]) rfl (by kernel_rfl) (fun _ _ _ h => h) (by kernel_rfl) (fun V hV => ex_rowT 35 _ rfl (g1) rfl 35 [.int .i64 10, .int .i64 0, .int .i64 3, .int .i64 0, .int .i64 1, .int .i64 0] _ Tryz.underlying35 rfl (by kernel_rfl) ((HK.out.old hV).row g1 35 q0 (.tail _ (.tail _ (.tail _ (.tail _ (.tail _ (.tail _ (.tail _ (.tail _ (.head _))))))))))) hHeld ?_
  try simp only [zz]
  refine st2 1 (fun K hK => ?_)
  go_simp
  go_at_call 29
  refine (of2_any _ _ _ _).mono ?_
  rintro e v1 ⟨rfl, hb1⟩
  have hz1 := hb1.size
  try simp only [World.size_alloc, size_drewT] at hz1
  try go_simp
  refine hK.out _ _ ?_ (fun hHeld => ?_)
  · exact hHeld.trans (hb1.mono hHeld.size)
  clear hK K
  try simp only [zz]
  refine ta 2 135 hHeld ?_
  try simp only [zz]
  refine st2 3 (fun K hK => ?_)
  go_simp
  go_at_call 19
  refine (xCap2 _).mono ?_
  rintro e v3 ⟨rfl, hb3⟩
  have hz3 := hb3.size
  try simp only [World.size_alloc, size_drewT] at hz3
  try go_simp
  refine hK.out _ _ ?_ (fun hHeld => ?_)
  · exact hHeld.trans (hb3.mono hHeld.size)
  clear hK K
  try simp only [zz]
  refine ta 4 132 hHeld ?_
  try simp only [zz]
  refine ta 5 137 hHeld ?_
  try simp only [zz]
  refine ta 6 138 hHeld ?_
  try simp only [zz]
  refine ta 7 29 hHeld ?_
  try simp only [zz]
  refine ta 8 30 hHeld ?_
  try simp only [zz]
  refine wpAnyH_done (by kernel_rfl) ?_ _
  go_wp2_with fail
  go_meet
  exact ⟨rfl, rfl, Lib.hid (HK.out.old hHeld)⟩
 case rest =>
 clear HK
 obtain ⟨rfl, rfl, HK⟩ := hcut
 go_upto_region 14 with fail
 go_cut [31, 32] from 139 to 145 (fun s31 s32 wx => s31 = .int .i64 2 ∧ s32 = .int .i64 0 ∧ Hid (KpT w [(g27, 3, (ints [5, 8, 11])), (g13, 61, q7), (g11, 35, q6), (g9, 35, q5), (g7, 61, q4), (g5, 61, q3), (g3, 61, q1), (g2, 61, q2), (g1, 35, q0)] [] wx))
 case first =>
  refine wp_region_held_drew (S := fun V => Below wc.heap.size wc V) (by kernel_rfl) ?_ (fun hHeld => ?_)
  · exact (Below.refl _ _).drew
  refine tk 0 140 (.agg #[.int .i64 10, .int .i64 0, .int .i64 3, .int .i64 0, .int .i64 1, .int .i64 0]) rfl (by kernel_rfl) (fun _ _ _ h => h) (by kernel_rfl) (fun V hV => ex_rowT 35 _ rfl (g1) rfl 35 [.int .i64 10, .int .i64 0, .int .i64 3, .int .i64 0, .int .i64 1, .int .i64 0] _ Tryz.underlying35 rfl (by kernel_rfl) ((HK.out.old hV).row g1 35 q0 (.tail _ (.tail _ (.tail _ (.tail _ (.tail _ (.tail _ (.tail _ (.tail _ (.head _))))))))))) hHeld ?_
  try simp only [zz]
  refine st2 1 (fun K hK => ?_)
  go_simp
  go_at_call 29
  refine (of2_any _ _ _ _).mono ?_
  rintro e v1 ⟨rfl, hb1⟩
  have hz1 := hb1.size
  try simp only [World.size_alloc, size_drewT] at hz1
  try go_simp
  refine hK.out _ _ ?_ (fun hHeld => ?_)
  · exact hHeld.trans (hb1.mono hHeld.size)
  clear hK K
  try simp only [zz]
  refine ta 2 142 hHeld ?_
  try simp only [zz]
  refine st2 3 (fun K hK => ?_)
  go_simp
  go_at_call 19
  refine (xCap3 _).mono ?_
  rintro e v3 ⟨rfl, hb3⟩
  have hz3 := hb3.size
  try simp only [World.size_alloc, size_drewT] at hz3
  try go_simp
  refine hK.out _ _ ?_ (fun hHeld => ?_)
  · exact hHeld.trans (hb3.mono hHeld.size)
  clear hK K
  try simp only [zz]
  refine ta 4 139 hHeld ?_
  try simp only [zz]
  refine ta 5 144 hHeld ?_
  try simp only [zz]
  refine ta 6 145 hHeld ?_
  try simp only [zz]
  refine ta 7 31 hHeld ?_
  try simp only [zz]
  refine ta 8 32 hHeld ?_
  try simp only [zz]
  refine wpAnyH_done (by kernel_rfl) ?_ _
  go_wp2_with fail
  go_meet
  exact ⟨rfl, rfl, Lib.hid (HK.out.old hHeld)⟩
 case rest =>
 clear HK
 obtain ⟨rfl, rfl, HK⟩ := hcut
 go_upto_region 15 with fail
 go_cut [33, 34] from 146 to 152 (fun s33 s34 wx => ∃ g33, s33 = .pointer (some ⟨g33, 0, none⟩) ∧ s34 = .int .i64 0 ∧ Hid (KpT w [(g33, 61, q8), (g27, 3, (ints [5, 8, 11])), (g13, 61, q7), (g11, 35, q6), (g9, 35, q5), (g7, 61, q4), (g5, 61, q3), (g3, 61, q1), (g2, 61, q2), (g1, 35, q0)] [] wx))
 case first =>
  refine wp_region_held_drew (S := fun V => Below wc.heap.size wc V) (by kernel_rfl) ?_ (fun hHeld => ?_)
  · exact (Below.refl _ _).drew
  refine tk 0 147 (.agg #[.int .i64 10, .int .i64 0, .int .i64 3, .int .i64 0, .int .i64 1, .int .i64 0]) rfl (by kernel_rfl) (fun _ _ _ h => h) (by kernel_rfl) (fun V hV => ex_rowT 35 _ rfl (g1) rfl 35 [.int .i64 10, .int .i64 0, .int .i64 3, .int .i64 0, .int .i64 1, .int .i64 0] _ Tryz.underlying35 rfl (by kernel_rfl) ((HK.out.old hV).row g1 35 q0 (.tail _ (.tail _ (.tail _ (.tail _ (.tail _ (.tail _ (.tail _ (.tail _ (.head _))))))))))) hHeld ?_
  try simp only [zz]
  refine st3 1 7 (fun K hK => ?_) (fun K hK => ?_)
  ·
   go_simp
   go_at_call 29
   refine (of2_any _ _ _ _).mono ?_
   rintro e v1 ⟨rfl, hb1⟩
   have hz1 := hb1.size
   try simp only [World.size_alloc, size_drewT] at hz1
   try go_simp
   refine hK.out _ _ ?_ (fun hHeld => ?_)
   · exact hHeld.trans (hb1.mono hHeld.size)
   clear hK K
   try simp only [zz]
   refine ta 2 149 hHeld ?_
   try simp only [zz]
   refine st3 3 7 (fun K hK => ?_) (fun K hK => ?_)
   ·
    go_simp
    go_at_call 20
    refine (xMixed _).mono ?_
    rintro e v3 ⟨rfl, hb3⟩
    have hz3 := hb3.size
    try simp only [World.size_alloc, size_drewT] at hz3
    try go_simp
    refine hK.out _ _ ?_ (fun hHeld => ?_)
    · exact hHeld.trans (hb3.mono hHeld.size)
    clear hK K
    try simp only [zz]
    refine ta 4 146 hHeld ?_
    try simp only [zz]
    refine ta 5 151 hHeld ?_
    try simp only [zz]
    refine ta 6 152 hHeld ?_
    try simp only [zz]
    refine st2 7 (fun K hK => ?_)
    go_simp
    refine hK.out _ _ ?_ (fun hHeld => ?_)
    · exact hHeld.alloc hHeld.size _
    clear hK K
    try simp only [zz]
    refine st2 8 (fun K hK => ?_)
    refine step_store_row rfl 61 _ _ rfl _ [.int .i64 1, .int .i64 68] rfl rfl 61 [.int .i64 0, .int .i64 0] ?_ (by kernel_rfl) rfl (by simp [Value.oneCell']) ?_
    · exact Row.new _ _ _
    refine hK.out _ _ ?_ (fun hHeld => ?_)
    · exact Below.setRow hHeld (by (try simp only [World.size_alloc, size_drewT] at *); omega) _
    clear hK K
    try simp only [zz]
    refine ta 9 34 hHeld ?_
    try simp only [zz]
    refine wpAnyH_done (by kernel_rfl) ?_ _
    go_wp2_with fail
    go_meet
    exact ⟨_, rfl, rfl, Lib.hid (KpT.cons (HK.out.old hHeld) (by exact (Row.new _ _ _).setRow _))⟩
   ·
    go_simp
    refine hK.out _ _ ?_ (fun hHeld => ?_)
    · exact hHeld.alloc hHeld.size _
    clear hK K
    try simp only [zz]
    refine st2 3 (fun K hK => ?_)
    go_simp
    go_at_call 20
    refine (xMixed _).mono ?_
    rintro e v3 ⟨rfl, hb3⟩
    have hz3 := hb3.size
    try simp only [World.size_alloc, size_drewT] at hz3
    try go_simp
    refine hK.out _ _ ?_ (fun hHeld => ?_)
    · exact hHeld.trans (hb3.mono hHeld.size)
    clear hK K
    try simp only [zz]
    refine ta 4 146 hHeld ?_
    try simp only [zz]
    refine ta 5 151 hHeld ?_
    try simp only [zz]
    refine ta 6 152 hHeld ?_
    try simp only [zz]
    refine st2 8 (fun K hK => ?_)
    refine step_store_row rfl 61 _ _ rfl _ [.int .i64 1, .int .i64 68] rfl rfl 61 [.int .i64 0, .int .i64 0] ?_ (by kernel_rfl) rfl (by simp [Value.oneCell']) ?_
    · exact (Row.new _ _ _).old hb3
    refine hK.out _ _ ?_ (fun hHeld => ?_)
    · exact Below.setRow hHeld (by (try simp only [World.size_alloc, size_drewT] at *); omega) _
    clear hK K
    try simp only [zz]
    refine ta 9 34 hHeld ?_
    try simp only [zz]
    refine wpAnyH_done (by kernel_rfl) ?_ _
    go_wp2_with fail
    go_meet
    exact ⟨_, rfl, rfl, Lib.hid (KpT.cons (HK.out.old hHeld) (by exact ((Row.new _ _ _).old hb3).setRow _))⟩
  ·
   go_simp
   refine hK.out _ _ ?_ (fun hHeld => ?_)
   · exact hHeld.alloc hHeld.size _
   clear hK K
   try simp only [zz]
   refine st2 1 (fun K hK => ?_)
   go_simp
   go_at_call 29
   refine (of2_any _ _ _ _).mono ?_
   rintro e v1 ⟨rfl, hb1⟩
   have hz1 := hb1.size
   try simp only [World.size_alloc, size_drewT] at hz1
   try go_simp
   refine hK.out _ _ ?_ (fun hHeld => ?_)
   · exact hHeld.trans (hb1.mono hHeld.size)
   clear hK K
   try simp only [zz]
   refine ta 2 149 hHeld ?_
   try simp only [zz]
   refine st2 3 (fun K hK => ?_)
   go_simp
   go_at_call 20
   refine (xMixed _).mono ?_
   rintro e v3 ⟨rfl, hb3⟩
   have hz3 := hb3.size
   try simp only [World.size_alloc, size_drewT] at hz3
   try go_simp
   refine hK.out _ _ ?_ (fun hHeld => ?_)
   · exact hHeld.trans (hb3.mono hHeld.size)
   clear hK K
   try simp only [zz]
   refine ta 4 146 hHeld ?_
   try simp only [zz]
   refine ta 5 151 hHeld ?_
   try simp only [zz]
   refine ta 6 152 hHeld ?_
   try simp only [zz]
   refine st2 8 (fun K hK => ?_)
   refine step_store_row rfl 61 _ _ rfl _ [.int .i64 1, .int .i64 68] rfl rfl 61 [.int .i64 0, .int .i64 0] ?_ (by kernel_rfl) rfl (by simp [Value.oneCell']) ?_
   · exact (((Row.new _ _ _).drew).old hb1).old hb3
   refine hK.out _ _ ?_ (fun hHeld => ?_)
   · exact Below.setRow hHeld (by (try simp only [World.size_alloc, size_drewT] at *); omega) _
   clear hK K
   try simp only [zz]
   refine ta 9 34 hHeld ?_
   try simp only [zz]
   refine wpAnyH_done (by kernel_rfl) ?_ _
   go_wp2_with fail
   go_meet
   exact ⟨_, rfl, rfl, Lib.hid (KpT.cons (HK.out.old hHeld) (by exact ((((Row.new _ _ _).drew).old hb1).old hb3).setRow _))⟩
 case rest =>
 clear HK
 obtain ⟨g33, rfl, rfl, HK⟩ := hcut
 go_upto_region 16 with fail
 go_cut [256] from 153 to 255 (fun s256 wx => s256 = .bool false ∧ Hid (KpT w [(g33, 61, q8), (g27, 3, (ints [5, 8, 11])), (g13, 61, q7), (g11, 35, q6), (g9, 35, q5), (g7, 61, q4), (g5, 61, q3), (g3, 61, q1), (g2, 61, q2), (g1, 35, q0)] [] wx))
 case first =>
  refine cond9_16 _ (by kernel_rfl) HK (fun _ _ _ d _ h => by cases d <;> exact h) ?_
  intros
  rename_i hHeld
  go_wp2_with fail
  go_meet
  exact ⟨rfl, Lib.hid (HK.out.old hHeld)⟩
 case rest =>
 clear HK
 obtain ⟨rfl, HK⟩ := hcut
 go_upto_region 18 with fail
 go_cut [35, 36] from 257 to 261 (fun s35 s36 wx => ∃ g35, s35 = .pointer (some ⟨g35, 0, none⟩) ∧ s36 = .int .i64 0 ∧ Hid (KpT w [(g35, 31, q9), (g33, 61, q8), (g27, 3, (ints [5, 8, 11])), (g13, 61, q7), (g11, 35, q6), (g9, 35, q5), (g7, 61, q4), (g5, 61, q3), (g3, 61, q1), (g2, 61, q2), (g1, 35, q0)] [] wx))
 case first =>
  have HV := HK
  go_wp2_with (first
   | (refine wpList_load_row rfl 35 _ rfl g1 rfl 35 #[.int .i64 10, .int .i64 0, .int .i64 3, .int .i64 0, .int .i64 1, .int .i64 0] (0, 0) _ (HV.out.row g1 35 q0 (.tail _ (.tail _ (.tail _ (.tail _ (.tail _ (.tail _ (.tail _ (.tail _ (.tail _ (.head _))))))))))) Tryz.underlying35 rfl ?_ ?_; (kernel_rfl))
   | (go_at_call 8; refine (xSampled _).mono ?_; rintro e w2 ⟨rfl, hb⟩; replace HV := Lib.hid (HV.out.old hb); clear hb)
   | (refine wpList_store_row rfl 31 _ _ rfl (w2.heap.size) #[.complex .f32 1096810496 0, .complex .f32 1094713344 0, .complex .f32 1090519040 0, .complex .f32 1086324736 0] rfl rfl 31 _ (Row.new w2 31 [.complex .f32 0 0, .complex .f32 0 0, .complex .f32 0 0, .complex .f32 0 0]) ?_ ?_ ?_ ?_; (kernel_rfl); (rfl); (simp [Value.oneCell'])))
  go_meet
  exact ⟨_, rfl, rfl, Lib.hid (KpT.cons (HV.out.old (Below.setRow ((Below.refl _ _).alloc (Nat.le_refl _) _) (Nat.le_refl _) _)) ((Row.new w2 31 [.complex .f32 0 0, .complex .f32 0 0, .complex .f32 0 0, .complex .f32 0 0]).setRow [.complex .f32 1096810496 0, .complex .f32 1094713344 0, .complex .f32 1090519040 0, .complex .f32 1086324736 0]))⟩
 case rest =>
 clear HK
 obtain ⟨g35, rfl, rfl, HK⟩ := hcut
 go_upto_region 19 with fail
 go_cut [37, 38, 39] from 262 to 267 (fun s37 s38 s39 wx => ∃ g37 g38, s37 = .pointer (some ⟨g37, 0, none⟩) ∧ s38 = .pointer (some ⟨g38, 0, none⟩) ∧ s39 = .int .i64 0 ∧ Hid (KpT w [(g38, 23, q10), (g37, 35, q11), (g35, 31, q9), (g33, 61, q8), (g27, 3, (ints [5, 8, 11])), (g13, 61, q7), (g11, 35, q6), (g9, 35, q5), (g7, 61, q4), (g5, 61, q3), (g3, 61, q1), (g2, 61, q2), (g1, 35, q0)] [] wx))
 case first =>
  have HV := HK
  go_wp2_with (first
   | (go_at_call 9; refine (recvX _).mono ?_; rintro e w2 ⟨rfl, hb⟩; replace HV := Lib.hid (HV.out.old hb); clear hb)
   | (refine wpList_store_row rfl 35 _ _ rfl (w2.heap.size) #[.int .i64 11, .int .i64 0, .int .i64 2, .int .i64 0, .int .i64 0, .int .i64 0] rfl rfl 35 _ ((Row.new w2 35 [.int .i64 0, .int .i64 0, .int .i64 0, .int .i64 0, .int .i64 0, .int .i64 0]).alloc (.cells ([.int .i64 0, .int .i64 0] : List Value).toArray 23)) ?_ ?_ ?_ ?_; (kernel_rfl); (rfl); (simp [Value.oneCell']))
   | (refine wpList_store_row rfl 23 _ _ rfl (w2.heap.size + 1) #[.int .i64 1, .int .i64 0] rfl rfl 23 _ ((row2 (w := w2) (t1 := 35) (t2 := 23) (L1 := [.int .i64 0, .int .i64 0, .int .i64 0, .int .i64 0, .int .i64 0, .int .i64 0]) (L2 := [.int .i64 0, .int .i64 0])).farRow (by omega : w2.heap.size + 1 ≠ w2.heap.size) #[.int .i64 11, .int .i64 0, .int .i64 2, .int .i64 0, .int .i64 0, .int .i64 0]) ?_ ?_ ?_ ?_; (kernel_rfl); (rfl); (simp [Value.oneCell'])))
  go_meet
  exact ⟨_, _, rfl, rfl, rfl, Lib.hid (KpT.cons (KpT.cons (HV.out.old (Below.setRow (Below.setRow (((Below.refl _ _).alloc (Nat.le_refl _) _).alloc (by simp) _) (Nat.le_refl _) _) (by omega) _)) ((((Row.new w2 35 [.int .i64 0, .int .i64 0, .int .i64 0, .int .i64 0, .int .i64 0, .int .i64 0]).alloc (.cells ([.int .i64 0, .int .i64 0] : List Value).toArray 23)).setRow [.int .i64 11, .int .i64 0, .int .i64 2, .int .i64 0, .int .i64 0, .int .i64 0]).farRow (by omega) _)) (((row2 (w := w2) (t1 := 35) (t2 := 23) (L1 := [.int .i64 0, .int .i64 0, .int .i64 0, .int .i64 0, .int .i64 0, .int .i64 0]) (L2 := [.int .i64 0, .int .i64 0])).farRow (by omega : w2.heap.size + 1 ≠ w2.heap.size) #[.int .i64 11, .int .i64 0, .int .i64 2, .int .i64 0, .int .i64 0, .int .i64 0]).setRow [.int .i64 1, .int .i64 0]))⟩
 case rest =>
 clear HK
 obtain ⟨g37, g38, rfl, rfl, rfl, HK⟩ := hcut
 go_upto_region 20 with fail
 go_cut [40, 41, 42] from 268 to 273 (fun s40 s41 s42 wx => ∃ g40 g41, s40 = .pointer (some ⟨g40, 0, none⟩) ∧ s41 = .pointer (some ⟨g41, 0, none⟩) ∧ s42 = .int .i64 2 ∧ Hid (KpT w [(g41, 23, q12), (g40, 35, q13), (g38, 23, q10), (g37, 35, q11), (g35, 31, q9), (g33, 61, q8), (g27, 3, (ints [5, 8, 11])), (g13, 61, q7), (g11, 35, q6), (g9, 35, q5), (g7, 61, q4), (g5, 61, q3), (g3, 61, q1), (g2, 61, q2), (g1, 35, q0)] [] wx))
 case first =>
  have HV := HK
  go_wp2_with (first
   | (go_at_call 9; refine (recvY _).mono ?_; rintro e w2 ⟨rfl, hb⟩; replace HV := Lib.hid (HV.out.old hb); clear hb)
   | (refine wpList_store_row rfl 35 _ _ rfl (w2.heap.size) #[.int .i64 0, .int .i64 0, .int .i64 0, .int .i64 0, .int .i64 0, .int .i64 0] rfl rfl 35 _ ((Row.new w2 35 [.int .i64 0, .int .i64 0, .int .i64 0, .int .i64 0, .int .i64 0, .int .i64 0]).alloc (.cells ([.int .i64 0, .int .i64 0] : List Value).toArray 23)) ?_ ?_ ?_ ?_; (kernel_rfl); (rfl); (simp [Value.oneCell']))
   | (refine wpList_store_row rfl 23 _ _ rfl (w2.heap.size + 1) #[.int .i64 0, .int .i64 0] rfl rfl 23 _ ((row2 (w := w2) (t1 := 35) (t2 := 23) (L1 := [.int .i64 0, .int .i64 0, .int .i64 0, .int .i64 0, .int .i64 0, .int .i64 0]) (L2 := [.int .i64 0, .int .i64 0])).farRow (by omega : w2.heap.size + 1 ≠ w2.heap.size) #[.int .i64 0, .int .i64 0, .int .i64 0, .int .i64 0, .int .i64 0, .int .i64 0]) ?_ ?_ ?_ ?_; (kernel_rfl); (rfl); (simp [Value.oneCell'])))
  go_meet
  exact ⟨_, _, rfl, rfl, rfl, Lib.hid (KpT.cons (KpT.cons (HV.out.old (Below.setRow (Below.setRow (((Below.refl _ _).alloc (Nat.le_refl _) _).alloc (by simp) _) (Nat.le_refl _) _) (by omega) _)) ((((Row.new w2 35 [.int .i64 0, .int .i64 0, .int .i64 0, .int .i64 0, .int .i64 0, .int .i64 0]).alloc (.cells ([.int .i64 0, .int .i64 0] : List Value).toArray 23)).setRow [.int .i64 0, .int .i64 0, .int .i64 0, .int .i64 0, .int .i64 0, .int .i64 0]).farRow (by omega) _)) (((row2 (w := w2) (t1 := 35) (t2 := 23) (L1 := [.int .i64 0, .int .i64 0, .int .i64 0, .int .i64 0, .int .i64 0, .int .i64 0]) (L2 := [.int .i64 0, .int .i64 0])).farRow (by omega : w2.heap.size + 1 ≠ w2.heap.size) #[.int .i64 0, .int .i64 0, .int .i64 0, .int .i64 0, .int .i64 0, .int .i64 0]).setRow [.int .i64 0, .int .i64 0]))⟩
 case rest =>
 clear HK
 obtain ⟨g40, g41, rfl, rfl, rfl, HK⟩ := hcut
 go_upto_region 21 with fail
 go_cut [43, 44, 45] from 274 to 281 (fun s43 s44 s45 wx => ∃ g43 g44, s43 = .pointer (some ⟨g43, 0, none⟩) ∧ s44 = .pointer (some ⟨g44, 0, none⟩) ∧ s45 = .int .i64 0 ∧ Hid (KpT w [(g44, 23, q12), (g43, 35, q0), (g41, 23, q12), (g40, 35, q13), (g38, 23, q10), (g37, 35, q11), (g35, 31, q9), (g33, 61, q8), (g27, 3, (ints [5, 8, 11])), (g13, 61, q7), (g11, 35, q6), (g9, 35, q5), (g7, 61, q4), (g5, 61, q3), (g3, 61, q1), (g2, 61, q2), (g1, 35, q0)] [] wx))
 case first =>
  have HV := HK
  go_wp2_with (first
   | (go_at_call 12; refine (avgW _ _ _ (by rw [show panC [panW, panW] = [.complex .f32 1096810496 0, .complex .f32 1094713344 0, .complex .f32 1090519040 0, .complex .f32 1086324736 0, .complex .f32 1096810496 0, .complex .f32 1094713344 0, .complex .f32 1090519040 0, .complex .f32 1086324736 0] from rfl]; exact Rd.row (Row.new _ _ _))).mono ?_; rintro e w2 ⟨rfl, hb⟩; replace HV := Lib.hid (HV.out.old (((Below.refl _ _).alloc (Nat.le_refl _) _).trans (hb.mono ((Below.refl _ _).alloc (Nat.le_refl _) _).size))); clear hb)
   | (refine wpList_store_row rfl 35 _ _ rfl (w2.heap.size) #[.int .i64 10, .int .i64 0, .int .i64 3, .int .i64 0, .int .i64 1, .int .i64 0] rfl rfl 35 _ ((Row.new w2 35 [.int .i64 0, .int .i64 0, .int .i64 0, .int .i64 0, .int .i64 0, .int .i64 0]).alloc (.cells ([.int .i64 0, .int .i64 0] : List Value).toArray 23)) ?_ ?_ ?_ ?_; (kernel_rfl); (rfl); (simp [Value.oneCell']))
   | (refine wpList_store_row rfl 23 _ _ rfl (w2.heap.size + 1) #[.int .i64 0, .int .i64 0] rfl rfl 23 _ ((row2 (w := w2) (t1 := 35) (t2 := 23) (L1 := [.int .i64 0, .int .i64 0, .int .i64 0, .int .i64 0, .int .i64 0, .int .i64 0]) (L2 := [.int .i64 0, .int .i64 0])).farRow (by omega : w2.heap.size + 1 ≠ w2.heap.size) #[.int .i64 10, .int .i64 0, .int .i64 3, .int .i64 0, .int .i64 1, .int .i64 0]) ?_ ?_ ?_ ?_; (kernel_rfl); (rfl); (simp [Value.oneCell'])))
  go_meet
  exact ⟨_, _, rfl, rfl, rfl, Lib.hid (KpT.cons (KpT.cons (HV.out.old (Below.setRow (Below.setRow (((Below.refl _ _).alloc (Nat.le_refl _) _).alloc (by simp) _) (Nat.le_refl _) _) (by omega) _)) ((((Row.new w2 35 [.int .i64 0, .int .i64 0, .int .i64 0, .int .i64 0, .int .i64 0, .int .i64 0]).alloc (.cells ([.int .i64 0, .int .i64 0] : List Value).toArray 23)).setRow [.int .i64 10, .int .i64 0, .int .i64 3, .int .i64 0, .int .i64 1, .int .i64 0]).farRow (by omega) _)) (((row2 (w := w2) (t1 := 35) (t2 := 23) (L1 := [.int .i64 0, .int .i64 0, .int .i64 0, .int .i64 0, .int .i64 0, .int .i64 0]) (L2 := [.int .i64 0, .int .i64 0])).farRow (by omega : w2.heap.size + 1 ≠ w2.heap.size) #[.int .i64 10, .int .i64 0, .int .i64 3, .int .i64 0, .int .i64 1, .int .i64 0]).setRow [.int .i64 0, .int .i64 0]))⟩
 case rest =>
 clear HK
 obtain ⟨g43, g44, rfl, rfl, rfl, HK⟩ := hcut
 go_upto_region 22 with fail
 go_cut [46, 47] from 282 to 288 (fun s46 s47 wx => ∃ g46, s46 = .pointer (some ⟨g46, 0, none⟩) ∧ s47 = .int .i64 0 ∧ Hid (KpT w [(g46, 85, q14), (g44, 23, q12), (g43, 35, q0), (g41, 23, q12), (g40, 35, q13), (g38, 23, q10), (g37, 35, q11), (g35, 31, q9), (g33, 61, q8), (g27, 3, (ints [5, 8, 11])), (g13, 61, q7), (g11, 35, q6), (g9, 35, q5), (g7, 61, q4), (g5, 61, q3), (g3, 61, q1), (g2, 61, q2), (g1, 35, q0)] [] wx))
 case first =>
  refine wp_region_held_drew (S := fun V => Below wc.heap.size wc V) (by kernel_rfl) ?_ (fun hHeld => ?_)
  · exact (Below.refl _ _).drew
  refine tk 1 284 (.agg #[.int .i64 10, .int .i64 0, .int .i64 3, .int .i64 0, .int .i64 1, .int .i64 0]) rfl (by kernel_rfl) (fun _ _ _ h => h) (by kernel_rfl) (fun V hV => ex_rowT 35 _ rfl (g1) rfl 35 [.int .i64 10, .int .i64 0, .int .i64 3, .int .i64 0, .int .i64 1, .int .i64 0] _ Tryz.underlying35 rfl (by kernel_rfl) ((HK.out.old hV).row g1 35 q0 (.tail _ (.tail _ (.tail _ (.tail _ (.tail _ (.tail _ (.tail _ (.tail _ (.tail _ (.tail _ (.tail _ (.tail _ (.tail _ (.tail _ (.tail _ (.tail _ (.head _))))))))))))))))))) hHeld ?_
  try simp only [zz]
  refine st3 0 7 (fun K hK => ?_) (fun K hK => ?_)
  ·
   go_simp
   go_at_call 33
   refine (set2_any _).mono ?_
   rintro e v0 ⟨rfl, hb0⟩
   have hz0 := hb0.size
   try simp only [World.size_alloc, size_drewT] at hz0
   try go_simp
   refine hK.out _ _ ?_ (fun hHeld => ?_)
   · exact hHeld.trans (hb0.mono hHeld.size)
   clear hK K
   try simp only [zz]
   refine st3 2 7 (fun K hK => ?_) (fun K hK => ?_)
   ·
    go_simp
    go_at_call 37
    refine (to2_any _ _ _).mono ?_
    rintro e v2 ⟨rfl, hb2⟩
    have hz2 := hb2.size
    try simp only [World.size_alloc, size_drewT] at hz2
    try go_simp
    refine hK.out _ _ ?_ (fun hHeld => ?_)
    · exact hHeld.trans (hb2.mono hHeld.size)
    clear hK K
    try simp only [zz]
    refine st3 3 7 (fun K hK => ?_) (fun K hK => ?_)
    ·
     go_simp
     go_at_call 36
     refine (xLost _).mono ?_
     rintro e v3 ⟨rfl, hb3⟩
     have hz3 := hb3.size
     try simp only [World.size_alloc, size_drewT] at hz3
     try go_simp
     refine hK.out _ _ ?_ (fun hHeld => ?_)
     · exact hHeld.trans (hb3.mono hHeld.size)
     clear hK K
     try simp only [zz]
     refine ta 4 282 hHeld ?_
     try simp only [zz]
     refine ta 5 287 hHeld ?_
     try simp only [zz]
     refine ta 6 288 hHeld ?_
     try simp only [zz]
     refine st2 7 (fun K hK => ?_)
     go_simp
     refine hK.out _ _ ?_ (fun hHeld => ?_)
     · exact hHeld.alloc hHeld.size _
     clear hK K
     try simp only [zz]
     refine st2 8 (fun K hK => ?_)
     refine step_store_row rfl 85 _ _ rfl _ [.int .i64 10, .int .i64 20] rfl rfl 85 [.int .i64 0, .int .i64 0] ?_ (by kernel_rfl) rfl (by simp [Value.oneCell']) ?_
     · exact Row.new _ _ _
     refine hK.out _ _ ?_ (fun hHeld => ?_)
     · exact Below.setRow hHeld (by (try simp only [World.size_alloc, size_drewT] at *); omega) _
     clear hK K
     try simp only [zz]
     refine ta 9 47 hHeld ?_
     try simp only [zz]
     refine wpAnyH_done (by kernel_rfl) ?_ _
     go_wp2_with fail
     go_meet
     exact ⟨_, rfl, rfl, Lib.hid (KpT.cons (HK.out.old hHeld) (by exact (Row.new _ _ _).setRow _))⟩
    ·
     go_simp
     refine hK.out _ _ ?_ (fun hHeld => ?_)
     · exact hHeld.alloc hHeld.size _
     clear hK K
     try simp only [zz]
     refine st2 3 (fun K hK => ?_)
     go_simp
     go_at_call 36
     refine (xLost _).mono ?_
     rintro e v3 ⟨rfl, hb3⟩
     have hz3 := hb3.size
     try simp only [World.size_alloc, size_drewT] at hz3
     try go_simp
     refine hK.out _ _ ?_ (fun hHeld => ?_)
     · exact hHeld.trans (hb3.mono hHeld.size)
     clear hK K
     try simp only [zz]
     refine ta 4 282 hHeld ?_
     try simp only [zz]
     refine ta 5 287 hHeld ?_
     try simp only [zz]
     refine ta 6 288 hHeld ?_
     try simp only [zz]
     refine st2 8 (fun K hK => ?_)
     refine step_store_row rfl 85 _ _ rfl _ [.int .i64 10, .int .i64 20] rfl rfl 85 [.int .i64 0, .int .i64 0] ?_ (by kernel_rfl) rfl (by simp [Value.oneCell']) ?_
     · exact (Row.new _ _ _).old hb3
     refine hK.out _ _ ?_ (fun hHeld => ?_)
     · exact Below.setRow hHeld (by (try simp only [World.size_alloc, size_drewT] at *); omega) _
     clear hK K
     try simp only [zz]
     refine ta 9 47 hHeld ?_
     try simp only [zz]
     refine wpAnyH_done (by kernel_rfl) ?_ _
     go_wp2_with fail
     go_meet
     exact ⟨_, rfl, rfl, Lib.hid (KpT.cons (HK.out.old hHeld) (by exact ((Row.new _ _ _).old hb3).setRow _))⟩
   ·
    go_simp
    refine hK.out _ _ ?_ (fun hHeld => ?_)
    · exact hHeld.alloc hHeld.size _
    clear hK K
    try simp only [zz]
    refine st2 2 (fun K hK => ?_)
    go_simp
    go_at_call 37
    refine (to2_any _ _ _).mono ?_
    rintro e v2 ⟨rfl, hb2⟩
    have hz2 := hb2.size
    try simp only [World.size_alloc, size_drewT] at hz2
    try go_simp
    refine hK.out _ _ ?_ (fun hHeld => ?_)
    · exact hHeld.trans (hb2.mono hHeld.size)
    clear hK K
    try simp only [zz]
    refine st2 3 (fun K hK => ?_)
    go_simp
    go_at_call 36
    refine (xLost _).mono ?_
    rintro e v3 ⟨rfl, hb3⟩
    have hz3 := hb3.size
    try simp only [World.size_alloc, size_drewT] at hz3
    try go_simp
    refine hK.out _ _ ?_ (fun hHeld => ?_)
    · exact hHeld.trans (hb3.mono hHeld.size)
    clear hK K
    try simp only [zz]
    refine ta 4 282 hHeld ?_
    try simp only [zz]
    refine ta 5 287 hHeld ?_
    try simp only [zz]
    refine ta 6 288 hHeld ?_
    try simp only [zz]
    refine st2 8 (fun K hK => ?_)
    refine step_store_row rfl 85 _ _ rfl _ [.int .i64 10, .int .i64 20] rfl rfl 85 [.int .i64 0, .int .i64 0] ?_ (by kernel_rfl) rfl (by simp [Value.oneCell']) ?_
    · exact ((Row.new _ _ _).old hb2).old hb3
    refine hK.out _ _ ?_ (fun hHeld => ?_)
    · exact Below.setRow hHeld (by (try simp only [World.size_alloc, size_drewT] at *); omega) _
    clear hK K
    try simp only [zz]
    refine ta 9 47 hHeld ?_
    try simp only [zz]
    refine wpAnyH_done (by kernel_rfl) ?_ _
    go_wp2_with fail
    go_meet
    exact ⟨_, rfl, rfl, Lib.hid (KpT.cons (HK.out.old hHeld) (by exact (((Row.new _ _ _).old hb2).old hb3).setRow _))⟩
  ·
   go_simp
   refine hK.out _ _ ?_ (fun hHeld => ?_)
   · exact hHeld.alloc hHeld.size _
   clear hK K
   try simp only [zz]
   refine st2 0 (fun K hK => ?_)
   go_simp
   go_at_call 33
   refine (set2_any _).mono ?_
   rintro e v0 ⟨rfl, hb0⟩
   have hz0 := hb0.size
   try simp only [World.size_alloc, size_drewT] at hz0
   try go_simp
   refine hK.out _ _ ?_ (fun hHeld => ?_)
   · exact hHeld.trans (hb0.mono hHeld.size)
   clear hK K
   try simp only [zz]
   refine st2 2 (fun K hK => ?_)
   go_simp
   go_at_call 37
   refine (to2_any _ _ _).mono ?_
   rintro e v2 ⟨rfl, hb2⟩
   have hz2 := hb2.size
   try simp only [World.size_alloc, size_drewT] at hz2
   try go_simp
   refine hK.out _ _ ?_ (fun hHeld => ?_)
   · exact hHeld.trans (hb2.mono hHeld.size)
   clear hK K
   try simp only [zz]
   refine st2 3 (fun K hK => ?_)
   go_simp
   go_at_call 36
   refine (xLost _).mono ?_
   rintro e v3 ⟨rfl, hb3⟩
   have hz3 := hb3.size
   try simp only [World.size_alloc, size_drewT] at hz3
   try go_simp
   refine hK.out _ _ ?_ (fun hHeld => ?_)
   · exact hHeld.trans (hb3.mono hHeld.size)
   clear hK K
   try simp only [zz]
   refine ta 4 282 hHeld ?_
   try simp only [zz]
   refine ta 5 287 hHeld ?_
   try simp only [zz]
   refine ta 6 288 hHeld ?_
   try simp only [zz]
   refine st2 8 (fun K hK => ?_)
   refine step_store_row rfl 85 _ _ rfl _ [.int .i64 10, .int .i64 20] rfl rfl 85 [.int .i64 0, .int .i64 0] ?_ (by kernel_rfl) rfl (by simp [Value.oneCell']) ?_
   · exact ((((Row.new _ _ _).drew).old hb0).old hb2).old hb3
   refine hK.out _ _ ?_ (fun hHeld => ?_)
   · exact Below.setRow hHeld (by (try simp only [World.size_alloc, size_drewT] at *); omega) _
   clear hK K
   try simp only [zz]
   refine ta 9 47 hHeld ?_
   try simp only [zz]
   refine wpAnyH_done (by kernel_rfl) ?_ _
   go_wp2_with fail
   go_meet
   exact ⟨_, rfl, rfl, Lib.hid (KpT.cons (HK.out.old hHeld) (by exact (((((Row.new _ _ _).drew).old hb0).old hb2).old hb3).setRow _))⟩
 case rest =>
 clear HK
 obtain ⟨g46, rfl, rfl, HK⟩ := hcut
 go_upto_region 23 with fail
 go_cut [48, 49] from 289 to 294 (fun s48 s49 wx => ∃ g48, s48 = .pointer (some ⟨g48, 0, none⟩) ∧ s49 = .int .i64 0 ∧ Hid (KpT w [(g48, 85, q15), (g46, 85, q14), (g44, 23, q12), (g43, 35, q0), (g41, 23, q12), (g40, 35, q13), (g38, 23, q10), (g37, 35, q11), (g35, 31, q9), (g33, 61, q8), (g27, 3, (ints [5, 8, 11])), (g13, 61, q7), (g11, 35, q6), (g9, 35, q5), (g7, 61, q4), (g5, 61, q3), (g3, 61, q1), (g2, 61, q2), (g1, 35, q0)] [] wx))
 case first =>
  refine wp_region_held_drew (S := fun V => Below wc.heap.size wc V) (by kernel_rfl) ?_ (fun hHeld => ?_)
  · exact (Below.refl _ _).drew
  refine tk 1 291 (.agg #[.int .i64 10, .int .i64 0, .int .i64 3, .int .i64 0, .int .i64 1, .int .i64 0]) rfl (by kernel_rfl) (fun _ _ _ h => h) (by kernel_rfl) (fun V hV => ex_rowT 35 _ rfl (g1) rfl 35 [.int .i64 10, .int .i64 0, .int .i64 3, .int .i64 0, .int .i64 1, .int .i64 0] _ Tryz.underlying35 rfl (by kernel_rfl) ((HK.out.old hV).row g1 35 q0 (.tail _ (.tail _ (.tail _ (.tail _ (.tail _ (.tail _ (.tail _ (.tail _ (.tail _ (.tail _ (.tail _ (.tail _ (.tail _ (.tail _ (.tail _ (.tail _ (.tail _ (.head _)))))))))))))))))))) hHeld ?_
  try simp only [zz]
  refine st3 0 6 (fun K hK => ?_) (fun K hK => ?_)
  ·
   go_simp
   go_at_call 33
   refine (set2_any _).mono ?_
   rintro e v0 ⟨rfl, hb0⟩
   have hz0 := hb0.size
   try simp only [World.size_alloc, size_drewT] at hz0
   try go_simp
   refine hK.out _ _ ?_ (fun hHeld => ?_)
   · exact hHeld.trans (hb0.mono hHeld.size)
   clear hK K
   try simp only [zz]
   refine st3 2 6 (fun K hK => ?_) (fun K hK => ?_)
   ·
    go_simp
    go_at_call 38
    refine (xNoisy _).mono ?_
    rintro e v2 ⟨rfl, hb2⟩
    have hz2 := hb2.size
    try simp only [World.size_alloc, size_drewT] at hz2
    try go_simp
    refine hK.out _ _ ?_ (fun hHeld => ?_)
    · exact hHeld.trans (hb2.mono hHeld.size)
    clear hK K
    try simp only [zz]
    refine ta 3 289 hHeld ?_
    try simp only [zz]
    refine ta 4 293 hHeld ?_
    try simp only [zz]
    refine ta 5 294 hHeld ?_
    try simp only [zz]
    refine st2 6 (fun K hK => ?_)
    go_simp
    refine hK.out _ _ ?_ (fun hHeld => ?_)
    · exact hHeld.alloc hHeld.size _
    clear hK K
    try simp only [zz]
    refine st2 7 (fun K hK => ?_)
    refine step_store_row rfl 85 _ _ rfl _ [.int .i64 0, .int .i64 30] rfl rfl 85 [.int .i64 0, .int .i64 0] ?_ (by kernel_rfl) rfl (by simp [Value.oneCell']) ?_
    · exact Row.new _ _ _
    refine hK.out _ _ ?_ (fun hHeld => ?_)
    · exact Below.setRow hHeld (by (try simp only [World.size_alloc, size_drewT] at *); omega) _
    clear hK K
    try simp only [zz]
    refine ta 8 49 hHeld ?_
    try simp only [zz]
    refine wpAnyH_done (by kernel_rfl) ?_ _
    go_wp2_with fail
    go_meet
    exact ⟨_, rfl, rfl, Lib.hid (KpT.cons (HK.out.old hHeld) (by exact (Row.new _ _ _).setRow _))⟩
   ·
    go_simp
    refine hK.out _ _ ?_ (fun hHeld => ?_)
    · exact hHeld.alloc hHeld.size _
    clear hK K
    try simp only [zz]
    refine st2 2 (fun K hK => ?_)
    go_simp
    go_at_call 38
    refine (xNoisy _).mono ?_
    rintro e v2 ⟨rfl, hb2⟩
    have hz2 := hb2.size
    try simp only [World.size_alloc, size_drewT] at hz2
    try go_simp
    refine hK.out _ _ ?_ (fun hHeld => ?_)
    · exact hHeld.trans (hb2.mono hHeld.size)
    clear hK K
    try simp only [zz]
    refine ta 3 289 hHeld ?_
    try simp only [zz]
    refine ta 4 293 hHeld ?_
    try simp only [zz]
    refine ta 5 294 hHeld ?_
    try simp only [zz]
    refine st2 7 (fun K hK => ?_)
    refine step_store_row rfl 85 _ _ rfl _ [.int .i64 0, .int .i64 30] rfl rfl 85 [.int .i64 0, .int .i64 0] ?_ (by kernel_rfl) rfl (by simp [Value.oneCell']) ?_
    · exact (Row.new _ _ _).old hb2
    refine hK.out _ _ ?_ (fun hHeld => ?_)
    · exact Below.setRow hHeld (by (try simp only [World.size_alloc, size_drewT] at *); omega) _
    clear hK K
    try simp only [zz]
    refine ta 8 49 hHeld ?_
    try simp only [zz]
    refine wpAnyH_done (by kernel_rfl) ?_ _
    go_wp2_with fail
    go_meet
    exact ⟨_, rfl, rfl, Lib.hid (KpT.cons (HK.out.old hHeld) (by exact ((Row.new _ _ _).old hb2).setRow _))⟩
  ·
   go_simp
   refine hK.out _ _ ?_ (fun hHeld => ?_)
   · exact hHeld.alloc hHeld.size _
   clear hK K
   try simp only [zz]
   refine st2 0 (fun K hK => ?_)
   go_simp
   go_at_call 33
   refine (set2_any _).mono ?_
   rintro e v0 ⟨rfl, hb0⟩
   have hz0 := hb0.size
   try simp only [World.size_alloc, size_drewT] at hz0
   try go_simp
   refine hK.out _ _ ?_ (fun hHeld => ?_)
   · exact hHeld.trans (hb0.mono hHeld.size)
   clear hK K
   try simp only [zz]
   refine st2 2 (fun K hK => ?_)
   go_simp
   go_at_call 38
   refine (xNoisy _).mono ?_
   rintro e v2 ⟨rfl, hb2⟩
   have hz2 := hb2.size
   try simp only [World.size_alloc, size_drewT] at hz2
   try go_simp
   refine hK.out _ _ ?_ (fun hHeld => ?_)
   · exact hHeld.trans (hb2.mono hHeld.size)
   clear hK K
   try simp only [zz]
   refine ta 3 289 hHeld ?_
   try simp only [zz]
   refine ta 4 293 hHeld ?_
   try simp only [zz]
   refine ta 5 294 hHeld ?_
   try simp only [zz]
   refine st2 7 (fun K hK => ?_)
   refine step_store_row rfl 85 _ _ rfl _ [.int .i64 0, .int .i64 30] rfl rfl 85 [.int .i64 0, .int .i64 0] ?_ (by kernel_rfl) rfl (by simp [Value.oneCell']) ?_
   · exact (((Row.new _ _ _).drew).old hb0).old hb2
   refine hK.out _ _ ?_ (fun hHeld => ?_)
   · exact Below.setRow hHeld (by (try simp only [World.size_alloc, size_drewT] at *); omega) _
   clear hK K
   try simp only [zz]
   refine ta 8 49 hHeld ?_
   try simp only [zz]
   refine wpAnyH_done (by kernel_rfl) ?_ _
   go_wp2_with fail
   go_meet
   exact ⟨_, rfl, rfl, Lib.hid (KpT.cons (HK.out.old hHeld) (by exact ((((Row.new _ _ _).drew).old hb0).old hb2).setRow _))⟩
 case rest =>
 clear HK
 obtain ⟨g48, rfl, rfl, HK⟩ := hcut
 go_upto_region 24 with fail
 go_cut [50, 51] from 295 to 302 (fun s50 s51 wx => ∃ A50 c50, s50 = .slice A50 2 c50 ∧ s51 = .int .i64 0 ∧ Hid (KpT w [(g48, 85, q15), (g46, 85, q14), (g44, 23, q12), (g43, 35, q0), (g41, 23, q12), (g40, 35, q13), (g38, 23, q10), (g37, 35, q11), (g35, 31, q9), (g33, 61, q8), (g27, 3, (ints [5, 8, 11])), (g13, 61, q7), (g11, 35, q6), (g9, 35, q5), (g7, 61, q4), (g5, 61, q3), (g3, 61, q1), (g2, 61, q2), (g1, 35, q0)] [(A50, (spanC [(0, 2), (2, 3)]))] wx))
 case first =>
  refine wp_region_held_drew (S := fun V => Below wc.heap.size wc V) (by kernel_rfl) ?_ (fun hHeld => ?_)
  · exact (Below.refl _ _).drew
  refine tk 0 296 (.agg #[.int .i64 10, .int .i64 0, .int .i64 3, .int .i64 0, .int .i64 1, .int .i64 0]) rfl (by kernel_rfl) (fun _ _ _ h => h) (by kernel_rfl) (fun V hV => ex_rowT 35 _ rfl (g1) rfl 35 [.int .i64 10, .int .i64 0, .int .i64 3, .int .i64 0, .int .i64 1, .int .i64 0] _ Tryz.underlying35 rfl (by kernel_rfl) ((HK.out.old hV).row g1 35 q0 (.tail _ (.tail _ (.tail _ (.tail _ (.tail _ (.tail _ (.tail _ (.tail _ (.tail _ (.tail _ (.tail _ (.tail _ (.tail _ (.tail _ (.tail _ (.tail _ (.tail _ (.tail _ (.head _))))))))))))))))))))) hHeld ?_
  try simp only [zz]
  refine st2 1 (fun K hK => ?_)
  go_simp
  go_at_call 29
  refine (of2_any _ _ _ _).mono ?_
  rintro e v1 ⟨rfl, hb1⟩
  have hz1 := hb1.size
  try simp only [World.size_alloc, size_drewT] at hz1
  try go_simp
  refine hK.out _ _ ?_ (fun hHeld => ?_)
  · exact hHeld.trans (hb1.mono hHeld.size)
  clear hK K
  try simp only [zz]
  refine st2 2 (fun K hK => ?_)
  go_simp
  go_at_call 29
  refine (of2_any _ _ _ _).mono ?_
  rintro e v2 ⟨rfl, hb2⟩
  have hz2 := hb2.size
  try simp only [World.size_alloc, size_drewT] at hz2
  try go_simp
  refine hK.out _ _ ?_ (fun hHeld => ?_)
  · exact hHeld.trans (hb2.mono hHeld.size)
  clear hK K
  try simp only [zz]
  refine st2 3 (fun K hK => ?_)
  go_simp
  refine hK.out _ _ ?_ (fun hHeld => ?_)
  · exact hHeld.alloc hHeld.size _
  clear hK K
  try simp only [zz]
  refine st2 4 (fun K hK => ?_)
  go_simp
  go_at_call 27
  refine (xCross _ _ _ (by rw [show sgC [sgP 10 3 1, sgP 10 1 3, sgP 10 1 1] = [.int .i64 10, .int .i64 0, .int .i64 3, .int .i64 0, .int .i64 1, .int .i64 0, .int .i64 10, .int .i64 0, .int .i64 1, .int .i64 0, .int .i64 3, .int .i64 0, .int .i64 10, .int .i64 0, .int .i64 1, .int .i64 0, .int .i64 1, .int .i64 0] from rfl]; exact Rd.row (t := 35) (by exact Row.new _ _ _))).mono ?_
  rintro e v4 ⟨A50, c50, rfl, hF, hb4⟩
  have hz4 := hb4.size
  try simp only [World.size_alloc, size_drewT] at hz4
  try go_simp
  refine hK.out _ _ ?_ (fun hHeld => ?_)
  · exact hHeld.trans (hb4.mono hHeld.size)
  clear hK K
  try simp only [zz]
  refine ta 5 295 hHeld ?_
  try simp only [zz]
  refine ta 6 301 hHeld ?_
  try simp only [zz]
  refine ta 7 302 hHeld ?_
  try simp only [zz]
  refine ta 8 50 hHeld ?_
  try simp only [zz]
  refine ta 9 51 hHeld ?_
  try simp only [zz]
  refine wpAnyH_done (by kernel_rfl) ?_ _
  go_wp2_with fail
  go_meet
  exact ⟨A50, c50, rfl, rfl, Lib.hid (KpT.rcons (HK.out.old hHeld) hF)⟩
 case rest =>
 clear HK
 obtain ⟨A50, c50, rfl, rfl, HK⟩ := hcut
 go_upto_region 25 with fail
 go_cut [52, 53] from 303 to 312 (fun s52 s53 wx => ∃ A52 c52, s52 = .slice A52 1 c52 ∧ s53 = .int .i64 0 ∧ Hid (KpT w [(g48, 85, q15), (g46, 85, q14), (g44, 23, q12), (g43, 35, q0), (g41, 23, q12), (g40, 35, q13), (g38, 23, q10), (g37, 35, q11), (g35, 31, q9), (g33, 61, q8), (g27, 3, (ints [5, 8, 11])), (g13, 61, q7), (g11, 35, q6), (g9, 35, q5), (g7, 61, q4), (g5, 61, q3), (g3, 61, q1), (g2, 61, q2), (g1, 35, q0)] [(A52, (spanC [(1, 3)])), (A50, (spanC [(0, 2), (2, 3)]))] wx))
 case first =>
  refine wp_region_held_drew (S := fun V => Below wc.heap.size wc V) (by kernel_rfl) ?_ (fun hHeld => ?_)
  · exact (Below.refl _ _).drew
  refine tk 1 305 (.agg #[.int .i64 10, .int .i64 0, .int .i64 3, .int .i64 0, .int .i64 1, .int .i64 0]) rfl (by kernel_rfl) (fun _ _ _ h => h) (by kernel_rfl) (fun V hV => ex_rowT 35 _ rfl (g1) rfl 35 [.int .i64 10, .int .i64 0, .int .i64 3, .int .i64 0, .int .i64 1, .int .i64 0] _ Tryz.underlying35 rfl (by kernel_rfl) ((HK.out.old hV).row g1 35 q0 (.tail _ (.tail _ (.tail _ (.tail _ (.tail _ (.tail _ (.tail _ (.tail _ (.tail _ (.tail _ (.tail _ (.tail _ (.tail _ (.tail _ (.tail _ (.tail _ (.tail _ (.tail _ (.head _))))))))))))))))))))) hHeld ?_
  try simp only [zz]
  refine tk 4 308 (.agg #[.int .i64 10, .int .i64 0, .int .i64 3, .int .i64 0, .int .i64 1, .int .i64 0]) rfl (by kernel_rfl) (fun _ _ _ h => h) (by kernel_rfl) (fun V hV => ex_rowT 35 _ rfl (g1) rfl 35 [.int .i64 10, .int .i64 0, .int .i64 3, .int .i64 0, .int .i64 1, .int .i64 0] _ Tryz.underlying35 rfl (by kernel_rfl) ((HK.out.old hV).row g1 35 q0 (.tail _ (.tail _ (.tail _ (.tail _ (.tail _ (.tail _ (.tail _ (.tail _ (.tail _ (.tail _ (.tail _ (.tail _ (.tail _ (.tail _ (.tail _ (.tail _ (.tail _ (.tail _ (.head _))))))))))))))))))))) hHeld ?_
  try simp only [zz]
  refine st2 0 (fun K hK => ?_)
  go_simp
  go_at_call 33
  refine (set2_any _).mono ?_
  rintro e v0 ⟨rfl, hb0⟩
  have hz0 := hb0.size
  try simp only [World.size_alloc, size_drewT] at hz0
  try go_simp
  refine hK.out _ _ ?_ (fun hHeld => ?_)
  · exact hHeld.trans (hb0.mono hHeld.size)
  clear hK K
  try simp only [zz]
  refine st2 2 (fun K hK => ?_)
  go_simp
  go_at_call 29
  refine (of2_any _ _ _ _).mono ?_
  rintro e v2 ⟨rfl, hb2⟩
  have hz2 := hb2.size
  try simp only [World.size_alloc, size_drewT] at hz2
  try go_simp
  refine hK.out _ _ ?_ (fun hHeld => ?_)
  · exact hHeld.trans (hb2.mono hHeld.size)
  clear hK K
  try simp only [zz]
  refine st2 3 (fun K hK => ?_)
  go_simp
  go_at_call 29
  refine (of2_any _ _ _ _).mono ?_
  rintro e v3 ⟨rfl, hb3⟩
  have hz3 := hb3.size
  try simp only [World.size_alloc, size_drewT] at hz3
  try go_simp
  refine hK.out _ _ ?_ (fun hHeld => ?_)
  · exact hHeld.trans (hb3.mono hHeld.size)
  clear hK K
  try simp only [zz]
  refine st2 5 (fun K hK => ?_)
  go_simp
  refine hK.out _ _ ?_ (fun hHeld => ?_)
  · exact hHeld.alloc hHeld.size _
  clear hK K
  try simp only [zz]
  refine st2 6 (fun K hK => ?_)
  go_simp
  go_at_call 39
  refine (xFlag _ _ _ (by rw [show sgC [sgP 10 3 1, sgP 7 3 1, sgP 10 6 1, sgP 10 3 1] = [.int .i64 10, .int .i64 0, .int .i64 3, .int .i64 0, .int .i64 1, .int .i64 0, .int .i64 7, .int .i64 0, .int .i64 3, .int .i64 0, .int .i64 1, .int .i64 0, .int .i64 10, .int .i64 0, .int .i64 6, .int .i64 0, .int .i64 1, .int .i64 0, .int .i64 10, .int .i64 0, .int .i64 3, .int .i64 0, .int .i64 1, .int .i64 0] from rfl]; exact Rd.row (t := 35) (by exact Row.new _ _ _))).mono ?_
  rintro e v6 ⟨A52, c52, rfl, hF, hb6⟩
  have hz6 := hb6.size
  try simp only [World.size_alloc, size_drewT] at hz6
  try go_simp
  refine hK.out _ _ ?_ (fun hHeld => ?_)
  · exact hHeld.trans (hb6.mono hHeld.size)
  clear hK K
  try simp only [zz]
  refine ta 7 303 hHeld ?_
  try simp only [zz]
  refine ta 8 311 hHeld ?_
  try simp only [zz]
  refine ta 9 312 hHeld ?_
  try simp only [zz]
  refine ta 10 52 hHeld ?_
  try simp only [zz]
  refine ta 11 53 hHeld ?_
  try simp only [zz]
  refine wpAnyH_done (by kernel_rfl) ?_ _
  go_wp2_with fail
  go_meet
  exact ⟨A52, c52, rfl, rfl, Lib.hid (KpT.rcons (HK.out.old hHeld) hF)⟩
 case rest =>
 clear HK
 obtain ⟨A52, c52, rfl, rfl, HK⟩ := hcut
 go_upto_region 26 with fail
 go_cut [54, 55] from 313 to 318 (fun s54 s55 wx => s54 = .string ⟨#[115, 105, 103, 110, 97, 108, 32, 49, 48, 32, 48, 32, 51, 32, 48, 32, 49, 32, 48, 10]⟩ ∧ s55 = .int .i64 0 ∧ Hid (KpT w [(g48, 85, q15), (g46, 85, q14), (g44, 23, q12), (g43, 35, q0), (g41, 23, q12), (g40, 35, q13), (g38, 23, q10), (g37, 35, q11), (g35, 31, q9), (g33, 61, q8), (g27, 3, (ints [5, 8, 11])), (g13, 61, q7), (g11, 35, q6), (g9, 35, q5), (g7, 61, q4), (g5, 61, q3), (g3, 61, q1), (g2, 61, q2), (g1, 35, q0)] [(A52, (spanC [(1, 3)])), (A50, (spanC [(0, 2), (2, 3)]))] wx))
 case first =>
  have HV := HK
  go_wp2_with (first
   | (refine wpList_load_row rfl 35 _ rfl g1 rfl 35 #[.int .i64 10, .int .i64 0, .int .i64 3, .int .i64 0, .int .i64 1, .int .i64 0] (0, 0) _ (HV.out.row g1 35 q0 (.tail _ (.tail _ (.tail _ (.tail _ (.tail _ (.tail _ (.tail _ (.tail _ (.tail _ (.tail _ (.tail _ (.tail _ (.tail _ (.tail _ (.tail _ (.tail _ (.tail _ (.tail _ (.head _)))))))))))))))))))) Tryz.underlying35 rfl ?_ ?_; (kernel_rfl))
   | (go_at_call 13; refine (xPrint _ (HV.out.old ((Below.refl _ _).alloc (Nat.le_refl _) _)).1.2.1 _ _ (by rw [show sgC [sgP 10 3 1] = [.int .i64 10, .int .i64 0, .int .i64 3, .int .i64 0, .int .i64 1, .int .i64 0] from rfl]; exact Rd.row (Row.new _ _ _))).mono ?_; rintro e w2 ⟨rfl, hb⟩; replace HV := Lib.hid (HV.out.old (((Below.refl _ _).alloc (Nat.le_refl _) _).trans (hb.mono ((Below.refl _ _).alloc (Nat.le_refl _) _).size))); clear hb))
  go_meet
  exact ⟨rfl, rfl, HV⟩
 case rest =>
 clear HK
 obtain ⟨rfl, rfl, HK⟩ := hcut
 go_upto_region 27 with fail
 go_cut [56, 57, 58] from 319 to 324 (fun s56 s57 s58 wx => ∃ A56 c56, s56 = .slice A56 1 c56 ∧ s57 = .int .i64 0 ∧ s58 = .int .i64 0 ∧ Hid (KpT w [(g48, 85, q15), (g46, 85, q14), (g44, 23, q12), (g43, 35, q0), (g41, 23, q12), (g40, 35, q13), (g38, 23, q10), (g37, 35, q11), (g35, 31, q9), (g33, 61, q8), (g27, 3, (ints [5, 8, 11])), (g13, 61, q7), (g11, 35, q6), (g9, 35, q5), (g7, 61, q4), (g5, 61, q3), (g3, 61, q1), (g2, 61, q2), (g1, 35, q0)] [(A56, (sgC [sgP 10 3 1])), (A52, (spanC [(1, 3)])), (A50, (spanC [(0, 2), (2, 3)]))] wx))
 case first =>
  have HV := HK
  go_wp2_with (first
   | (go_at_call 15; refine (xParse _ HV.out.1.2.2).mono ?_; rintro e w2 ⟨⟨A56, c56, rfl, hF⟩, hb⟩; replace HV := Lib.hid (HV.out.old hb); clear hb))
  go_meet
  exact ⟨_, _, rfl, rfl, rfl, Lib.hid (KpT.rcons HV.out hF)⟩
 case rest =>
 clear HK
 obtain ⟨A56, c56, rfl, rfl, rfl, HK⟩ := hcut
 go_upto_region 28 with fail
 go_cut [59, 60] from 325 to 330 (fun s59 s60 wx => ∃ g59, s59 = .pointer (some ⟨g59, 0, none⟩) ∧ s60 = .int .i64 0 ∧ Hid (KpT w [(g59, 35, q16), (g48, 85, q15), (g46, 85, q14), (g44, 23, q12), (g43, 35, q0), (g41, 23, q12), (g40, 35, q13), (g38, 23, q10), (g37, 35, q11), (g35, 31, q9), (g33, 61, q8), (g27, 3, (ints [5, 8, 11])), (g13, 61, q7), (g11, 35, q6), (g9, 35, q5), (g7, 61, q4), (g5, 61, q3), (g3, 61, q1), (g2, 61, q2), (g1, 35, q0)] [(A56, (sgC [sgP 10 3 1])), (A52, (spanC [(1, 3)])), (A50, (spanC [(0, 2), (2, 3)]))] wx))
 case first =>
  refine wp_region_held_drew (S := fun V => Below wc.heap.size wc V) (by kernel_rfl) ?_ (fun hHeld => ?_)
  · exact (Below.refl _ _).drew
  refine tk 0 326 (.agg #[.int .i64 10, .int .i64 0, .int .i64 3, .int .i64 0, .int .i64 1, .int .i64 0]) rfl (by kernel_rfl) (fun _ _ _ h => h) (by kernel_rfl) (fun V hV => ex_rowT 35 _ rfl (g1) rfl 35 [.int .i64 10, .int .i64 0, .int .i64 3, .int .i64 0, .int .i64 1, .int .i64 0] _ Tryz.underlying35 rfl (by kernel_rfl) ((HK.out.old hV).row g1 35 q0 (.tail _ (.tail _ (.tail _ (.tail _ (.tail _ (.tail _ (.tail _ (.tail _ (.tail _ (.tail _ (.tail _ (.tail _ (.tail _ (.tail _ (.tail _ (.tail _ (.tail _ (.tail _ (.head _))))))))))))))))))))) hHeld ?_
  try simp only [zz]
  refine st3 1 6 (fun K hK => ?_) (fun K hK => ?_)
  ·
   go_simp
   go_at_call 29
   refine (of2_any _ _ _ _).mono ?_
   rintro e v1 ⟨rfl, hb1⟩
   have hz1 := hb1.size
   try simp only [World.size_alloc, size_drewT] at hz1
   try go_simp
   refine hK.out _ _ ?_ (fun hHeld => ?_)
   · exact hHeld.trans (hb1.mono hHeld.size)
   clear hK K
   try simp only [zz]
   refine st3 2 6 (fun K hK => ?_) (fun K hK => ?_)
   ·
    go_simp
    go_at_call 40
    refine (xAdded _).mono ?_
    rintro e v2 ⟨rfl, hb2⟩
    have hz2 := hb2.size
    try simp only [World.size_alloc, size_drewT] at hz2
    try go_simp
    refine hK.out _ _ ?_ (fun hHeld => ?_)
    · exact hHeld.trans (hb2.mono hHeld.size)
    clear hK K
    try simp only [zz]
    refine ta 3 325 hHeld ?_
    try simp only [zz]
    refine ta 4 329 hHeld ?_
    try simp only [zz]
    refine ta 5 330 hHeld ?_
    try simp only [zz]
    refine st2 6 (fun K hK => ?_)
    go_simp
    refine hK.out _ _ ?_ (fun hHeld => ?_)
    · exact hHeld.alloc hHeld.size _
    clear hK K
    try simp only [zz]
    refine st2 7 (fun K hK => ?_)
    refine step_store_row rfl 35 _ _ rfl _ [.int .i64 11, .int .i64 0, .int .i64 2, .int .i64 0, .int .i64 1, .int .i64 0] rfl rfl 35 [.int .i64 0, .int .i64 0, .int .i64 0, .int .i64 0, .int .i64 0, .int .i64 0] ?_ (by kernel_rfl) rfl (by simp [Value.oneCell']) ?_
    · exact Row.new _ _ _
    refine hK.out _ _ ?_ (fun hHeld => ?_)
    · exact Below.setRow hHeld (by (try simp only [World.size_alloc, size_drewT] at *); omega) _
    clear hK K
    try simp only [zz]
    refine ta 8 60 hHeld ?_
    try simp only [zz]
    refine wpAnyH_done (by kernel_rfl) ?_ _
    go_wp2_with fail
    go_meet
    exact ⟨_, rfl, rfl, Lib.hid (KpT.cons (HK.out.old hHeld) (by exact (Row.new _ _ _).setRow _))⟩
   ·
    go_simp
    refine hK.out _ _ ?_ (fun hHeld => ?_)
    · exact hHeld.alloc hHeld.size _
    clear hK K
    try simp only [zz]
    refine st2 2 (fun K hK => ?_)
    go_simp
    go_at_call 40
    refine (xAdded _).mono ?_
    rintro e v2 ⟨rfl, hb2⟩
    have hz2 := hb2.size
    try simp only [World.size_alloc, size_drewT] at hz2
    try go_simp
    refine hK.out _ _ ?_ (fun hHeld => ?_)
    · exact hHeld.trans (hb2.mono hHeld.size)
    clear hK K
    try simp only [zz]
    refine ta 3 325 hHeld ?_
    try simp only [zz]
    refine ta 4 329 hHeld ?_
    try simp only [zz]
    refine ta 5 330 hHeld ?_
    try simp only [zz]
    refine st2 7 (fun K hK => ?_)
    refine step_store_row rfl 35 _ _ rfl _ [.int .i64 11, .int .i64 0, .int .i64 2, .int .i64 0, .int .i64 1, .int .i64 0] rfl rfl 35 [.int .i64 0, .int .i64 0, .int .i64 0, .int .i64 0, .int .i64 0, .int .i64 0] ?_ (by kernel_rfl) rfl (by simp [Value.oneCell']) ?_
    · exact (Row.new _ _ _).old hb2
    refine hK.out _ _ ?_ (fun hHeld => ?_)
    · exact Below.setRow hHeld (by (try simp only [World.size_alloc, size_drewT] at *); omega) _
    clear hK K
    try simp only [zz]
    refine ta 8 60 hHeld ?_
    try simp only [zz]
    refine wpAnyH_done (by kernel_rfl) ?_ _
    go_wp2_with fail
    go_meet
    exact ⟨_, rfl, rfl, Lib.hid (KpT.cons (HK.out.old hHeld) (by exact ((Row.new _ _ _).old hb2).setRow _))⟩
  ·
   go_simp
   refine hK.out _ _ ?_ (fun hHeld => ?_)
   · exact hHeld.alloc hHeld.size _
   clear hK K
   try simp only [zz]
   refine st2 1 (fun K hK => ?_)
   go_simp
   go_at_call 29
   refine (of2_any _ _ _ _).mono ?_
   rintro e v1 ⟨rfl, hb1⟩
   have hz1 := hb1.size
   try simp only [World.size_alloc, size_drewT] at hz1
   try go_simp
   refine hK.out _ _ ?_ (fun hHeld => ?_)
   · exact hHeld.trans (hb1.mono hHeld.size)
   clear hK K
   try simp only [zz]
   refine st2 2 (fun K hK => ?_)
   go_simp
   go_at_call 40
   refine (xAdded _).mono ?_
   rintro e v2 ⟨rfl, hb2⟩
   have hz2 := hb2.size
   try simp only [World.size_alloc, size_drewT] at hz2
   try go_simp
   refine hK.out _ _ ?_ (fun hHeld => ?_)
   · exact hHeld.trans (hb2.mono hHeld.size)
   clear hK K
   try simp only [zz]
   refine ta 3 325 hHeld ?_
   try simp only [zz]
   refine ta 4 329 hHeld ?_
   try simp only [zz]
   refine ta 5 330 hHeld ?_
   try simp only [zz]
   refine st2 7 (fun K hK => ?_)
   refine step_store_row rfl 35 _ _ rfl _ [.int .i64 11, .int .i64 0, .int .i64 2, .int .i64 0, .int .i64 1, .int .i64 0] rfl rfl 35 [.int .i64 0, .int .i64 0, .int .i64 0, .int .i64 0, .int .i64 0, .int .i64 0] ?_ (by kernel_rfl) rfl (by simp [Value.oneCell']) ?_
   · exact (((Row.new _ _ _).drew).old hb1).old hb2
   refine hK.out _ _ ?_ (fun hHeld => ?_)
   · exact Below.setRow hHeld (by (try simp only [World.size_alloc, size_drewT] at *); omega) _
   clear hK K
   try simp only [zz]
   refine ta 8 60 hHeld ?_
   try simp only [zz]
   refine wpAnyH_done (by kernel_rfl) ?_ _
   go_wp2_with fail
   go_meet
   exact ⟨_, rfl, rfl, Lib.hid (KpT.cons (HK.out.old hHeld) (by exact ((((Row.new _ _ _).drew).old hb1).old hb2).setRow _))⟩
 case rest =>
 clear HK
 obtain ⟨g59, rfl, rfl, HK⟩ := hcut
 go_upto_region 29 with fail
 have hP := HK.out.rd A56 (sgC [sgP 10 3 1]) (.head _)
 rw [show sgC [sgP 10 3 1] = [.int .i64 10, .int .i64 0, .int .i64 3, .int .i64 0, .int .i64 1, .int .i64 0] from rfl] at hP
 obtain ⟨b56, o56, rfl, hq0⟩ := hP 0 _ rfl
 have HP := Lib.hid hP
 clear hP hq0
 have HC6 : Hid (∀ V, Below wc.heap.size wc V → V.cell? ⟨b56, o56, none⟩ = some (.int .i64 10) ∧ V.cell? ⟨b56, o56 + 1, none⟩ = some (.int .i64 0) ∧ V.cell? ⟨b56, o56 + 2, none⟩ = some (.int .i64 3) ∧ V.cell? ⟨b56, o56 + 3, none⟩ = some (.int .i64 0) ∧ V.cell? ⟨b56, o56 + 4, none⟩ = some (.int .i64 1) ∧ V.cell? ⟨b56, o56 + 5, none⟩ = some (.int .i64 0)) := fun V hV => ⟨(by obtain ⟨bb, oo, hab, hcc⟩ := HP.out 0 _ rfl; cases hab; exact keepT hcc hV), (by obtain ⟨bb, oo, hab, hcc⟩ := HP.out 1 _ rfl; cases hab; exact keepT hcc hV), (by obtain ⟨bb, oo, hab, hcc⟩ := HP.out 2 _ rfl; cases hab; exact keepT hcc hV), (by obtain ⟨bb, oo, hab, hcc⟩ := HP.out 3 _ rfl; cases hab; exact keepT hcc hV), (by obtain ⟨bb, oo, hab, hcc⟩ := HP.out 4 _ rfl; cases hab; exact keepT hcc hV), (by obtain ⟨bb, oo, hab, hcc⟩ := HP.out 5 _ rfl; cases hab; exact keepT hcc hV)⟩
 clear HP
 refine cond9_29 _ (by kernel_rfl) HK HC6 (fun _ _ _ d _ h => by cases d <;> exact h) ?_
 intros
 rename_i hHeld
 go_wp2_with fail
 go_ret
 exact ⟨rfl, (HK.out.old hHeld).2.2.2⟩
end Go.Proofs.YtaknlhepgeiekaaGreatDoor
