import Derived.Test.YtaeebedchbkniaaGreatDoorVJ
import Derived.Test.YtaeebedchbkniaaGreatDoorM46
import Derived.Test.YtaeebedchbkniaaGreatDoorM12
import Derived.Test.YtaeebedchbkniaaGreatDoorUQ
namespace Go.Proofs.YtaeebedchbkniaaGreatDoor
set_option linter.all false
open Go.RowKit Go.Fl

theorem calls_intB {f : FuncId} {args : Array Value} {w : World} {a b : Int} (h : Calls Tryz.prog f args w fun e w' => e = .returned (.int .i64 a) ∧ w = w') (ha : a = b) : Calls Tryz.prog f args w fun e w' => e = .returned (.int .i64 b) ∧ Below w.heap.size w w' :=
 h.mono fun e w1 h => ⟨by rw [h.1, ha], by rw [← h.2]; exact Below.refl _ _⟩
set_option maxRecDepth 100000 in
set_option maxHeartbeats 8000000 in
theorem spans_out (rs rf rl ra rb : Int) (A : Option Addr) (N c : Nat) (SC : List Value) (w : World) (hA : AwT w) (hSC : Rd w A SC) (hsh : (decide (N ≤ 20) || decide (N = 257)) = false) : Calls Tryz.prog 4 #[.agg #[.int .i64 rs, .int .i64 rf, .int .i64 rl, .int .i64 ra, .int .i64 rb], .slice A N c] w fun e w' => e = .returned (.bool true) ∧ Below w.heap.size w w' := by
 have HK : Hid (KpT w [(w.heap.size, 25, [.int .i64 rs, .int .i64 rf, .int .i64 rl, .int .i64 ra, .int .i64 rb])] [(A, SC)] (w.alloc (.cells #[.int .i64 rs, .int .i64 rf, .int .i64 rl, .int .i64 ra, .int .i64 rb] 25))) := Lib.hid (KpT.cons (KpT.old (V := w) ⟨hA, fun r h => (List.not_mem_nil h).elim, fun r h => by rw [List.mem_singleton.1 h]; exact hSC, Below.refl _ _⟩ ((Below.refl _ _).alloc (Nat.le_refl _) _)) (Row.new w 25 [.int .i64 rs, .int .i64 rf, .int .i64 rl, .int .i64 ra, .int .i64 rb]))
 have HSH : Hid (∀ W, Calls Tryz.prog 10 #[.slice A N c] W fun e w' => e = .returned (.bool false) ∧ W = w') := fun W => by rw [← hsh]; exact shortR_any A N c W
 clear hsh
 clear hA
 go_enter Tryz.func4, Tryz.ntmps4
 go_upto_region 1 with fail
 refine genT (fun V => KpT w [(w.heap.size, 25, [.int .i64 rs, .int .i64 rf, .int .i64 rl, .int .i64 ra, .int .i64 rb])] [(A, SC)] V) HK.out ?_
 clear HK
 intro wc s0
 have HK := Lib.hid s0
 clear s0
 have HV := HK
 go_upto_region 2 with (first | (go_at_call 9; refine (awake_ok _ HV.out.1).mono ?_; rintro e w2 ⟨rfl, hb⟩; replace HV := Lib.hid (HV.out.old hb); clear hb) | (go_at_call 10; refine (HSH.out _).mono ?_; rintro e w2b ⟨rfl, rfl⟩))
 go_wp2_with (first | (go_at_call 9; refine (awake_ok _ HV.out.1).mono ?_; rintro e w2 ⟨rfl, hb⟩; replace HV := Lib.hid (HV.out.old hb); clear hb))
 go_ret
 exact ⟨rfl, HV.out.2.2.2⟩
set_option maxRecDepth 100000 in
set_option maxHeartbeats 16000000 in
theorem spans_law (rs rf rl ra rb : Int) (A : Option Addr) (N c : Nat) (SC : List Value) (E0 E1 E2 : Int) (XS YS : List (Int × Int)) (XN YN : Nat) (w : World) (hA : AwT w) (hSC : Rd w A SC) (hsh : (decide (N ≤ 20) || decide (N = 257)) = true) (hRr : ∀ W, Calls Tryz.prog 11 #[.agg #[.int .i64 rs, .int .i64 rf, .int .i64 rl, .int .i64 ra, .int .i64 rb]] W fun e w' => e = .returned (.int .i64 E0) ∧ Below W.heap.size W w') (hSg : ∀ W, Rd W A SC → Calls Tryz.prog 18 #[.slice A N c] W fun e w' => ∃ As cs, e = .returned (.slice As N cs) ∧ Rd w' As SC ∧ Below W.heap.size W w') (hCx : ∀ As cs W, Rd W As SC → Calls Tryz.prog 23 #[.slice As N cs] W fun e w' => ∃ Ax cx, e = .returned (.tuple #[.slice Ax XN cx, .int .i64 E1]) ∧ Rd w' Ax (spanC XS) ∧ Below W.heap.size W w') (hFg : ∀ As cs W, Rd W As SC → Calls Tryz.prog 24 #[.agg #[.int .i64 rs, .int .i64 rf, .int .i64 rl, .int .i64 ra, .int .i64 rb], .slice As N cs] W fun e w' => ∃ Af cf, e = .returned (.tuple #[.slice Af YN cf, .int .i64 E2]) ∧ Rd w' Af (spanC YS) ∧ Below W.heap.size W w') (hSs : ∀ W, Rd W A SC → Calls Tryz.prog 20 #[.slice A N c] W fun e w' => e = .returned (.int .i64 E1) ∧ Below W.heap.size W w') (hE2 : firstI [E0, E1] = E2) (hXr : E1 = 0 → ∀ W, Rd W A SC → Calls Tryz.prog 25 #[.slice A N c] W fun e w' => ∃ Ar cr, e = .returned (.slice Ar XN cr) ∧ Rd w' Ar (spanC XS) ∧ Below W.heap.size W w') (hz1 : E1 ≠ 0 → XS = [] ∧ XN = 0) (hXN : XN = XS.length) (hXm : XS.length ≤ 1000000) (hYr : E2 = 0 → ∀ W, Rd W A SC → Calls Tryz.prog 26 #[.agg #[.int .i64 rs, .int .i64 rf, .int .i64 rl, .int .i64 ra, .int .i64 rb], .slice A N c] W fun e w' => ∃ Ar cr, e = .returned (.slice Ar YN cr) ∧ Rd w' Ar (spanC YS) ∧ Below W.heap.size W w') (hz2 : E2 ≠ 0 → YS = [] ∧ YN = 0) (hYN : YN = YS.length) (hYm : YS.length ≤ 1000000) : Calls Tryz.prog 4 #[.agg #[.int .i64 rs, .int .i64 rf, .int .i64 rl, .int .i64 ra, .int .i64 rb], .slice A N c] w fun e w' => e = .returned (.bool true) ∧ Below w.heap.size w w' := by
 have HK : Hid (KpT w [(w.heap.size, 25, [.int .i64 rs, .int .i64 rf, .int .i64 rl, .int .i64 ra, .int .i64 rb])] [(A, SC)] (w.alloc (.cells #[.int .i64 rs, .int .i64 rf, .int .i64 rl, .int .i64 ra, .int .i64 rb] 25))) := Lib.hid (KpT.cons (KpT.old (V := w) ⟨hA, fun r h => (List.not_mem_nil h).elim, fun r h => by rw [List.mem_singleton.1 h]; exact hSC, Below.refl _ _⟩ ((Below.refl _ _).alloc (Nat.le_refl _) _)) (Row.new w 25 [.int .i64 rs, .int .i64 rf, .int .i64 rl, .int .i64 ra, .int .i64 rb]))
 replace hRr := Lib.hid hRr
 replace hSg := Lib.hid hSg
 replace hCx := Lib.hid hCx
 replace hFg := Lib.hid hFg
 replace hSs := Lib.hid hSs
 replace hE2 := Lib.hid hE2
 replace hXr := Lib.hid hXr
 replace hz1 := Lib.hid hz1
 replace hXN := Lib.hid hXN
 replace hXm := Lib.hid hXm
 replace hYr := Lib.hid hYr
 replace hz2 := Lib.hid hz2
 replace hYN := Lib.hid hYN
 replace hYm := Lib.hid hYm
 have HSH : Hid (∀ W, Calls Tryz.prog 10 #[.slice A N c] W fun e w' => e = .returned (.bool true) ∧ W = w') := fun W => by rw [← hsh]; exact shortR_any A N c W
 clear hsh
 clear hA
 go_enter Tryz.func4, Tryz.ntmps4
 go_upto_region 1 with fail
 refine genT (fun V => KpT w [(w.heap.size, 25, [.int .i64 rs, .int .i64 rf, .int .i64 rl, .int .i64 ra, .int .i64 rb])] [(A, SC)] V) HK.out ?_
 clear HK
 intro wc s0
 have HK := Lib.hid s0
 clear s0
 go_cut [19] from 13 to 18 (fun s19 wx => s19 = .bool false ∧ Hid (KpT w [(w.heap.size, 25, [.int .i64 rs, .int .i64 rf, .int .i64 rl, .int .i64 ra, .int .i64 rb])] [(A, SC)] wx))
 case first =>
  have HV := HK
  go_wp2_with (first | (go_at_call 9; refine (awake_ok _ HV.out.1).mono ?_; rintro e w2 ⟨rfl, hb⟩; replace HV := Lib.hid (HV.out.old hb); clear hb) | (go_at_call 10; refine (HSH.out _).mono ?_; rintro e w2b ⟨rfl, rfl⟩))
  go_meet
  exact ⟨rfl, HV⟩
 case rest =>
 clear HK
 obtain ⟨rfl, HK⟩ := hcut
 go_upto_region 3 with fail
 go_cut [5, 6] from 21 to 26 (fun s5 s6 wx => ∃ Ax cx, s5 = .slice Ax XN cx ∧ s6 = .int .i64 E1 ∧ Hid (KpT w [(w.heap.size, 25, [.int .i64 rs, .int .i64 rf, .int .i64 rl, .int .i64 ra, .int .i64 rb])] [(Ax, (spanC XS)), (A, SC)] wx))
 case first =>
  have HV := HK
  go_wp2_with (first
   | (go_at_call 18; refine (hSg.out _ (HV.out.rd A SC (.head _))).mono ?_; rintro e w2 ⟨As, cs, rfl, hFs, hb⟩; replace HV := Lib.hid (HV.out.old hb); clear hb)
   | (go_at_call 23; refine (hCx.out _ _ _ hFs).mono ?_; rintro e w3 ⟨Ax, cx, rfl, hF, hb⟩; replace HV := Lib.hid (HV.out.old hb); clear hb))
  go_meet
  exact ⟨_, _, rfl, rfl, Lib.hid (KpT.rcons HV.out hF)⟩
 case rest =>
 clear HK
 obtain ⟨Ax, cx, rfl, rfl, HK⟩ := hcut
 go_upto_region 4 with fail
 go_cut [7, 8] from 27 to 33 (fun s7 s8 wx => ∃ Af cf, s7 = .slice Af YN cf ∧ s8 = .int .i64 E2 ∧ Hid (KpT w [(w.heap.size, 25, [.int .i64 rs, .int .i64 rf, .int .i64 rl, .int .i64 ra, .int .i64 rb])] [(Af, (spanC YS)), (Ax, (spanC XS)), (A, SC)] wx))
 case first =>
  refine wp_region_held_drew (S := fun V => Below wc.heap.size wc V) (by kernel_rfl) ?_ (fun hHeld => ?_)
  · exact (Below.refl _ _).drew
  refine tk 0 28 (.agg #[.int .i64 rs, .int .i64 rf, .int .i64 rl, .int .i64 ra, .int .i64 rb]) rfl (by kernel_rfl) (fun _ _ _ h => h) (by kernel_rfl) (fun V hV => ex_rowT 25 _ rfl (w.heap.size) rfl 25 [.int .i64 rs, .int .i64 rf, .int .i64 rl, .int .i64 ra, .int .i64 rb] _ Tryz.underlying25 rfl (by kernel_rfl) ((HK.out.old hV).row w.heap.size 25 [.int .i64 rs, .int .i64 rf, .int .i64 rl, .int .i64 ra, .int .i64 rb] (.head _))) hHeld ?_
  try simp only [zz]
  refine tk 1 29 ?_ rfl (by kernel_rfl) (fun _ _ _ h => h) (by kernel_rfl) ?_ hHeld ?_
  rotate_left
  · intro a h; go_simp <;> with_reducible rfl
  try simp only [zz]
  refine st1 2 (by kernel_rfl) rfl (fun K hK => ?_)
  go_simp
  go_at_call 18
  refine (hSg.out _ ((HK.out.old hHeld).rd A SC (.tail _ (.head _)))).mono ?_
  rintro e v2 ⟨As, cs, rfl, hFs, hb2⟩
  have hz2 := hb2.size
  try simp only [World.size_alloc, size_drewT] at hz2
  try go_simp
  refine hK.out _ _ ?_ (fun hHeld => ?_)
  · exact hHeld.trans (hb2.mono hHeld.size)
  clear hK K
  try simp only [zz]
  refine st1 3 (by kernel_rfl) rfl (fun K hK => ?_)
  go_simp
  go_at_call 24
  refine (hFg.out _ _ _ hFs).mono ?_
  rintro e v3 ⟨Af, cf, rfl, hF, hb3⟩
  have hz3 := hb3.size
  try simp only [World.size_alloc, size_drewT] at hz3
  try go_simp
  refine hK.out _ _ ?_ (fun hHeld => ?_)
  · exact hHeld.trans (hb3.mono hHeld.size)
  clear hK K
  try simp only [zz]
  refine tk 4 27 ?_ rfl (by kernel_rfl) (fun _ _ _ h => h) (by kernel_rfl) ?_ hHeld ?_
  rotate_left
  · intro a h; go_simp <;> with_reducible rfl
  try simp only [zz]
  refine tk 5 32 ?_ rfl (by kernel_rfl) (fun _ _ _ h => h) (by kernel_rfl) ?_ hHeld ?_
  rotate_left
  · intro a h; go_simp <;> with_reducible rfl
  try simp only [zz]
  refine tk 6 33 ?_ rfl (by kernel_rfl) (fun _ _ _ h => h) (by kernel_rfl) ?_ hHeld ?_
  rotate_left
  · intro a h; go_simp <;> with_reducible rfl
  try simp only [zz]
  refine tk 7 7 ?_ rfl (by kernel_rfl) (fun _ _ _ h => h) (by kernel_rfl) ?_ hHeld ?_
  rotate_left
  · intro a h; go_simp <;> with_reducible rfl
  try simp only [zz]
  refine tk 8 8 ?_ rfl (by kernel_rfl) (fun _ _ _ h => h) (by kernel_rfl) ?_ hHeld ?_
  rotate_left
  · intro a h; go_simp <;> with_reducible rfl
  try simp only [zz]
  refine wpAnyH_done (by kernel_rfl) ?_ _
  go_wp2_with fail
  go_meet
  exact ⟨Af, cf, rfl, rfl, Lib.hid (KpT.rcons (HK.out.old hHeld) hF)⟩
 case rest =>
 clear HK
 obtain ⟨Af, cf, rfl, rfl, HK⟩ := hcut
 go_upto_region 5 with fail
 go_cut [9, 10] from 34 to 41 (fun s9 s10 wx => s9 = .int .i64 E1 ∧ s10 = .int .i64 E2 ∧ Hid (KpT w [(w.heap.size, 25, [.int .i64 rs, .int .i64 rf, .int .i64 rl, .int .i64 ra, .int .i64 rb])] [(Af, (spanC YS)), (Ax, (spanC XS)), (A, SC)] wx))
 case first =>
  refine wp_region_held_drew (S := fun V => Below wc.heap.size wc V) (by kernel_rfl) ?_ (fun hHeld => ?_)
  · exact (Below.refl _ _).drew
  refine tk 0 34 ?_ rfl (by kernel_rfl) (fun _ _ _ h => h) (by kernel_rfl) ?_ hHeld ?_
  rotate_left
  · intro a h; go_simp <;> with_reducible rfl
  try simp only [zz]
  refine tk 2 36 (.agg #[.int .i64 rs, .int .i64 rf, .int .i64 rl, .int .i64 ra, .int .i64 rb]) rfl (by kernel_rfl) (fun _ _ _ h => h) (by kernel_rfl) (fun V hV => ex_rowT 25 _ rfl (w.heap.size) rfl 25 [.int .i64 rs, .int .i64 rf, .int .i64 rl, .int .i64 ra, .int .i64 rb] _ Tryz.underlying25 rfl (by kernel_rfl) ((HK.out.old hV).row w.heap.size 25 [.int .i64 rs, .int .i64 rf, .int .i64 rl, .int .i64 ra, .int .i64 rb] (.head _))) hHeld ?_
  try simp only [zz]
  refine tk 4 38 ?_ rfl (by kernel_rfl) (fun _ _ _ h => h) (by kernel_rfl) ?_ hHeld ?_
  rotate_left
  · intro a h; go_simp <;> with_reducible rfl
  try simp only [zz]
  refine st1 1 (by kernel_rfl) rfl (fun K hK => ?_)
  go_simp
  go_at_call 20
  refine (hSs.out _ ((HK.out.old hHeld).rd A SC (.tail _ (.tail _ (.head _))))).mono ?_
  rintro e v1 ⟨rfl, hb1⟩
  have hz1 := hb1.size
  try simp only [World.size_alloc, size_drewT] at hz1
  try go_simp
  refine hK.out _ _ ?_ (fun hHeld => ?_)
  · exact hHeld.trans (hb1.mono hHeld.size)
  clear hK K
  try simp only [zz]
  refine st1 3 (by kernel_rfl) rfl (fun K hK => ?_)
  go_simp
  go_at_call 11
  refine (hRr.out _).mono ?_
  rintro e v3 ⟨rfl, hb3⟩
  have hz3 := hb3.size
  try simp only [World.size_alloc, size_drewT] at hz3
  try go_simp
  refine hK.out _ _ ?_ (fun hHeld => ?_)
  · exact hHeld.trans (hb3.mono hHeld.size)
  clear hK K
  try simp only [zz]
  refine st1 5 (by kernel_rfl) rfl (fun K hK => ?_)
  go_simp
  go_at_call 20
  refine (hSs.out _ ((HK.out.old hHeld).rd A SC (.tail _ (.tail _ (.head _))))).mono ?_
  rintro e v5 ⟨rfl, hb5⟩
  have hz5 := hb5.size
  try simp only [World.size_alloc, size_drewT] at hz5
  try go_simp
  refine hK.out _ _ ?_ (fun hHeld => ?_)
  · exact hHeld.trans (hb5.mono hHeld.size)
  clear hK K
  try simp only [zz]
  refine st1 6 (by kernel_rfl) rfl (fun K hK => ?_)
  go_simp
  refine hK.out _ _ ?_ (fun hHeld => ?_)
  · exact hHeld.alloc hHeld.size _
  clear hK K
  try simp only [zz]
  refine st1 7 (by kernel_rfl) rfl (fun K hK => ?_)
  go_simp
  go_at_call 14
  refine (calls_intB (first_any _ _ _ [E0, E1] _ (by exact Rd.row (t := 3) (by exact Row.new _ _ _)) rfl (by simp)) hE2.out).mono ?_
  rintro e v7 ⟨rfl, hb7⟩
  have hz7 := hb7.size
  try simp only [World.size_alloc, size_drewT] at hz7
  try go_simp
  refine hK.out _ _ ?_ (fun hHeld => ?_)
  · exact hHeld.trans (hb7.mono hHeld.size)
  clear hK K
  try simp only [zz]
  refine tk 8 9 ?_ rfl (by kernel_rfl) (fun _ _ _ h => h) (by kernel_rfl) ?_ hHeld ?_
  rotate_left
  · intro a h; go_simp <;> with_reducible rfl
  try simp only [zz]
  refine tk 9 10 ?_ rfl (by kernel_rfl) (fun _ _ _ h => h) (by kernel_rfl) ?_ hHeld ?_
  rotate_left
  · intro a h; go_simp <;> with_reducible rfl
  try simp only [zz]
  refine wpAnyH_done (by kernel_rfl) ?_ _
  go_wp2_with fail
  go_meet
  exact ⟨rfl, rfl, Lib.hid (HK.out.old hHeld)⟩
 case rest =>
 clear HK
 obtain ⟨rfl, rfl, HK⟩ := hcut
 go_upto_if 43 with fail
 go_cut [11] from 42 to 45 (fun s11 wx => ∃ Ar1 cr1, s11 = .slice Ar1 XN cr1 ∧ Hid (KpT w [(w.heap.size, 25, [.int .i64 rs, .int .i64 rf, .int .i64 rl, .int .i64 ra, .int .i64 rb])] [(Ar1, (spanC XS)), (Af, (spanC YS)), (Ax, (spanC XS)), (A, SC)] wx))
 case first =>
  by_cases h0 : E1 = 0
  · have hr2 := Lib.hid (hXr.out h0)
    have hz : (E1 == 0) = true := by simpa using h0
    clear h0
    have HV := HK
    go_wp2_with (first | (go_at_call 25; refine (hr2.out _ (HV.out.rd A SC (.tail _ (.tail _ (.head _))))).mono ?_; rintro e w2 ⟨Ar1, cr1, rfl, hF, hb⟩; have HV2 := Lib.hid (KpT.rcons (HV.out.old hb) hF); clear hb))
    go_meet
    exact ⟨_, _, rfl, HV2⟩
  · have hz : (E1 == 0) = false := by simpa using h0
    obtain ⟨rfl, rfl⟩ := hz1.out h0
    clear h0
    go_wp2_with fail
    go_meet
    exact ⟨none, 0, rfl, Lib.hid (KpT.rcons HK.out (fun j v hv => by simp [spanC] at hv))⟩
 case rest =>
 clear HK hXr hz1
 obtain ⟨Ar1, cr1, rfl, HK⟩ := hcut
 go_upto_if 47 with fail
 go_cut [12] from 46 to 50 (fun s12 wx => ∃ Ar2 cr2, s12 = .slice Ar2 YN cr2 ∧ Hid (KpT w [(w.heap.size, 25, [.int .i64 rs, .int .i64 rf, .int .i64 rl, .int .i64 ra, .int .i64 rb])] [(Ar2, (spanC YS)), (Ar1, (spanC XS)), (Af, (spanC YS)), (Ax, (spanC XS)), (A, SC)] wx))
 case first =>
  by_cases h0 : E2 = 0
  · have hr2 := Lib.hid (hYr.out h0)
    have hz : (E2 == 0) = true := by simpa using h0
    clear h0
    have HV := HK
    go_wp2_with (first | (refine wpList_load_row rfl 25 _ rfl w.heap.size rfl 25 #[.int .i64 rs, .int .i64 rf, .int .i64 rl, .int .i64 ra, .int .i64 rb] (0, 0) _ (HV.out.row w.heap.size 25 [.int .i64 rs, .int .i64 rf, .int .i64 rl, .int .i64 ra, .int .i64 rb] (.head _)) Tryz.underlying25 rfl ?_ ?_; (kernel_rfl)) | (go_at_call 26; refine (hr2.out _ (HV.out.rd A SC (.tail _ (.tail _ (.tail _ (.head _)))))).mono ?_; rintro e w2 ⟨Ar2, cr2, rfl, hF, hb⟩; have HV2 := Lib.hid (KpT.rcons (HV.out.old hb) hF); clear hb))
    go_meet
    exact ⟨_, _, rfl, HV2⟩
  · have hz : (E2 == 0) = false := by simpa using h0
    obtain ⟨rfl, rfl⟩ := hz2.out h0
    clear h0
    go_wp2_with fail
    go_meet
    exact ⟨none, 0, rfl, Lib.hid (KpT.rcons HK.out (fun j v hv => by simp [spanC] at hv))⟩
 case rest =>
 clear HK hYr hz2
 obtain ⟨Ar2, cr2, rfl, HK⟩ := hcut
 have HV := HK; have HV0 := HK
 have hb1 : (E1 == E1) = true := by simp
 have hb2 : (E2 == E2) = true := by simp
 clear hRr hSg hCx hFg hSs hE2 HK
 go_wp2_with fail
 refine (sameSpans_any _ _ _ _ _ _ XS XS _ (HV.out.rd Ax (spanC XS) (.tail _ (.tail _ (.tail _ (.head _))))) (HV.out.rd Ar1 (spanC XS) (.tail _ (.head _))) hXN.out hXN.out (Nat.le_trans hXm.out (by decide))).mono ?_
 rintro e wX ⟨rfl, qX, rfl⟩
 rw [sameSp_refl XS]
 replace HV := Lib.hid (HV.out.drewN qX)
 go_wp2_with fail
 refine (sameSpans_any _ _ _ _ _ _ YS YS _ (HV.out.rd Af (spanC YS) (.tail _ (.tail _ (.head _)))) (HV.out.rd Ar2 (spanC YS) (.head _)) hYN.out hYN.out (Nat.le_trans hYm.out (by decide))).mono ?_
 rintro e wY ⟨rfl, qY, rfl⟩
 rw [sameSp_refl YS]
 replace HV := Lib.hid (HV.out.drewN qY)
 go_wp2_with fail
 go_ret
 exact ⟨by simp, (HV0.out.drewN (qX + qY)).2.2.2⟩
end Go.Proofs.YtaeebedchbkniaaGreatDoor
