import Derived.Test.YtaeebedchbkniaaGreatDoorVF
import Derived.Test.YtaeebedchbkniaaGreatDoorM31
import Derived.Test.YtaeebedchbkniaaGreatDoorM37
import Derived.Test.YtaeebedchbkniaaGreatDoorM38
import Derived.Test.YtaeebedchbkniaaGreatDoorM12
namespace Go.Proofs.YtaeebedchbkniaaGreatDoor
set_option linter.all false
open Go.RowKit Go.Fl

theorem sameSp_refl (l : List (Int × Int)) : sameSp l l = true := by
 induction l with
 | nil => rfl
 | cons p l ih => simp [sameSp, ih]
set_option maxRecDepth 100000 in
set_option maxHeartbeats 1000000 in
theorem flagged_bad (rs rf rl ra rb E : Int) (A : Option Addr) (c : Nat) (L : List Sg) (w : World) (hA : Rd w A (sgC L)) (hL : L.length ≤ 1000000) (hE : E = firstI [recE rs rf rl ra rb, sgsE L]) (h0 : E ≠ 0) : Calls Tryz.prog 24 #[.agg #[.int .i64 rs, .int .i64 rf, .int .i64 rl, .int .i64 ra, .int .i64 rb], .slice A L.length c] w fun e w' => e = .returned (.tuple #[.slice none 0 0, .int .i64 E]) ∧ Below w.heap.size w w' := by
 have HC1 : Hid (∀ W, Calls Tryz.prog 12 #[.agg #[.int .i64 rs, .int .i64 rf, .int .i64 rl, .int .i64 ra, .int .i64 rb]] W fun e w' => e = .returned (.int .i64 (recE rs rf rl ra rb)) ∧ Below W.heap.size W w') := fun W => checkReceiver_any rs rf rl ra rb W
 have HC4 : Hid (∀ W, Below w.heap.size w W → Calls Tryz.prog 73 #[.slice A L.length c] W fun e w' => e = .returned (.int .i64 (sgsE L)) ∧ Below W.heap.size W w') := fun W hW => checkSignals_any A c L W (hA.below hW) hL
 obtain ⟨E1, hE1⟩ : ∃ E1, E1 = recE rs rf rl ra rb := ⟨_, rfl⟩
 obtain ⟨E4, hE4⟩ : ∃ E4, E4 = sgsE L := ⟨_, rfl⟩
 rw [← hE1] at HC1 hE
 rw [← hE4] at HC4 hE
 have HE : Hid (firstI [E1, E4] = E) := hE.symm
 have hne : (E == 0) = false := by simpa using h0
 have hne2 : (E != 0) = true := by simpa using h0
 have HS1 : Hid (Row (w.alloc (.cells #[.int .i64 rs, .int .i64 rf, .int .i64 rl, .int .i64 ra, .int .i64 rb] 33)) w.heap.size 33 [.int .i64 rs, .int .i64 rf, .int .i64 rl, .int .i64 ra, .int .i64 rb] ∧ Below w.heap.size w (w.alloc (.cells #[.int .i64 rs, .int .i64 rf, .int .i64 rl, .int .i64 ra, .int .i64 rb] 33))) := ⟨Row.new w _ _, (Below.refl _ _).alloc (Nat.le_refl _) _⟩
 clear hE hE1 hE4 h0 hA
 go_enter Tryz.func24, Tryz.ntmps24
 go_wp2_with (first
  | (go_at_call 12; refine (HC1.out _).mono ?_; rintro e w2 ⟨rfl, hb2⟩; have HS2 : Hid (Row _ w.heap.size 33 [.int .i64 rs, .int .i64 rf, .int .i64 rl, .int .i64 ra, .int .i64 rb] ∧ Below w.heap.size w _) := ⟨HS1.out.1.old hb2, HS1.out.2.trans (hb2.mono HS1.out.2.size)⟩; clear hb2)
  | (go_at_call 73; refine (HC4.out _ HS2.out.2).mono ?_; rintro e w3 ⟨rfl, hb3⟩; have HS3 : Hid (Row _ w.heap.size 33 [.int .i64 rs, .int .i64 rf, .int .i64 rl, .int .i64 ra, .int .i64 rb] ∧ Below w.heap.size w _) := ⟨HS2.out.1.old hb3, HS2.out.2.trans (hb3.mono HS2.out.2.size)⟩; clear hb3)
  | (go_at_call 61; refine (firstV_any _ _ _ [E1, E4] _ Rd.newT rfl (by simp)).mono ?_; rintro e w4 ⟨rfl, rfl⟩; rw [HE.out])
  | (refine wpList_load_row rfl 33 _ rfl (w.heap.size) rfl 33 #[.int .i64 rs, .int .i64 rf, .int .i64 rl, .int .i64 ra, .int .i64 rb] (0, 0) _ HS1.out.1 Tryz.underlying33 rfl ?_ ?_; (kernel_rfl)))
 go_ret2
 exact ⟨rfl, HS3.out.2.alloc HS3.out.2.size _⟩
set_option maxRecDepth 100000 in
set_option maxHeartbeats 1000000 in
theorem crossings_bad (E : Int) (A : Option Addr) (c : Nat) (L : List Sg) (w : World) (hA : Rd w A (sgC L)) (hL : L.length ≤ 1000000) (hE : E = sgsE L) (h0 : E ≠ 0) : Calls Tryz.prog 23 #[.slice A L.length c] w fun e w' => e = .returned (.tuple #[.slice none 0 0, .int .i64 E]) ∧ Below w.heap.size w w' := by
 have HC4 : Hid (Calls Tryz.prog 73 #[.slice A L.length c] w fun e w' => e = .returned (.int .i64 E) ∧ Below w.heap.size w w') := by unfold Hid; rw [hE]; exact checkSignals_any A c L w hA hL
 have hne : (E == 0) = false := by simpa using h0
 have hne2 : (E != 0) = true := by simpa using h0
 clear hE h0 hA
 go_enter Tryz.func23, Tryz.ntmps23
 go_wp2_with (go_at_call 73; refine HC4.out.mono ?_; rintro e w2 ⟨rfl, hb2⟩; have HB2 := Lib.hid hb2; clear hb2)
 go_ret2
 exact ⟨rfl, HB2.out⟩

set_option maxRecDepth 100000 in
set_option maxHeartbeats 1000000 in
theorem flagR_sg (rs rf rl ra rb : Int) (s : Sg) (w : World) (hR : RecG rs rf rl ra rb) (h : SigG s.a s.b s.c s.d s.x s.y) : Calls Tryz.prog 69 #[.agg #[.int .i64 rs, .int .i64 rf, .int .i64 rl, .int .i64 ra, .int .i64 rb], .agg #[.int .i64 s.a, .int .i64 s.b, .int .i64 s.c, .int .i64 s.d, .int .i64 s.x, .int .i64 s.y]] w fun e w' => e = .returned (.string (flagS (flB rl s) (flD ra rb s))) ∧ Below w.heap.size w w' := by
 have hb := sg_bd h
 have ha := hR.a; have hb2 := hR.b
 have m1 : (ra * qS s).natAbs ≤ 10000 * 200000000 := by rw [Int.natAbs_mul]; exact Nat.mul_le_mul (by omega) (by have := hb.2.2; omega)
 have m2 : (rb * qS s).natAbs ≤ 10000 * 200000000 := by rw [Int.natAbs_mul]; exact Nat.mul_le_mul (by omega) (by have := hb.2.2; omega)
 have hD : flD ra rb s = (decide (1000 * tS s < ra * qS s) || decide (rb * qS s < 1000 * tS s)) := by
  unfold flD
  rw [cmp_lt, cmp_gt, Int.mul_comm (tS s) 1000]
 rw [hD]
 exact flagR_any rs rf rl ra rb s.a s.b s.c s.d s.x s.y (tS s) (qS s) (1000 * tS s) (ra * qS s) (rb * qS s) (flB rl s) (decide (1000 * tS s < ra * qS s)) (decide (rb * qS s < 1000 * tS s)) w (fun W => squareR_any s.a s.b s.c s.d s.x s.y W h.g1) (fun W => totalR_any s.a s.b s.c s.d s.x s.y W h.g1 h.g2 h.g3) (IntWalk.i64_in _ (by have := hb.2.1; omega)) (IntWalk.i64_in _ (by omega)) (IntWalk.i64_in _ (by omega)) rfl rfl rfl
set_option maxRecDepth 100000 in
set_option maxHeartbeats 1000000 in
theorem signR_any (a b c d x y n : Int) (w : World) (HD : ∀ W, Calls Tryz.prog 71 #[.agg #[.int .i64 a, .int .i64 b, .int .i64 c, .int .i64 d, .int .i64 x, .int .i64 y]] W fun e w' => e = .returned (.int .i64 n) ∧ Below W.heap.size W w') : Calls Tryz.prog 90 #[.agg #[.int .i64 a, .int .i64 b, .int .i64 c, .int .i64 d, .int .i64 x, .int .i64 y]] w fun e w' => e = .returned (.int .i64 (cmpI n 0)) ∧ Below w.heap.size w w' := by
 have HD := Lib.hid HD
 go_enter Tryz.func90, Tryz.ntmps90
 go_upto_region 1 with fail
 refine genT (fun V => Row V (w.heap.size) 40 [.int .i64 a, .int .i64 b, .int .i64 c, .int .i64 d, .int .i64 x, .int .i64 y] ∧ Below w.heap.size w V) ⟨(rowAt _ _ (by first | rfl | simp only [World.size_alloc])), ((Below.refl _ _).alloc (by first | exact Nat.le_refl _ | (simp only [World.size_alloc]; omega)) _)⟩ ?_
 intro W1 s1
 have HS1 := Lib.hid s1
 clear s1
 go_upto_region 2 with (first | (refine wpList_load_row rfl 40 _ rfl (w.heap.size) rfl 40 #[.int .i64 a, .int .i64 b, .int .i64 c, .int .i64 d, .int .i64 x, .int .i64 y] (0, 0) _ HS1.out.1 Tryz.underlying40 rfl ?_ ?_; (kernel_rfl)) | (go_at_call 71; refine (HD.out _).mono ?_; rintro e w2 ⟨rfl, hb_w2⟩; have HS2 : Hid (Row w2 (w.heap.size) 40 [.int .i64 a, .int .i64 b, .int .i64 c, .int .i64 d, .int .i64 x, .int .i64 y] ∧ Below w.heap.size w w2) := ⟨(HS1.out.1).old hb_w2, (HS1.out.2).trans (hb_w2.mono (HS1.out.2).size)⟩; clear hb_w2))
 have h3 : n < 0 ∨ n = 0 ∨ 0 < n := by omega
 rcases h3 with h | h | h
 · have e1 : decide (0 < n) = false := decide_eq_false (by omega)
   have e2 : decide (n < 0) = true := decide_eq_true h
   have hr : cmpI n 0 = -1 := by unfold cmpI; rw [if_pos h]
   have e3 : ¬ 0 < n := by omega
   go_wp2_with fail
   go_ret
   exact ⟨by first | rfl | exact ret_int hr.symm, HS2.out.2⟩
 · subst h
   have hr : cmpI 0 0 = 0 := rfl
   go_wp2_with fail
   go_ret
   exact ⟨by first | rfl | exact ret_int hr.symm, HS2.out.2⟩
 · have e1 : decide (0 < n) = true := decide_eq_true h
   have hr : cmpI n 0 = 1 := by unfold cmpI; rw [if_neg (by omega), if_pos h]
   go_wp2_with fail
   go_ret
   exact ⟨by first | rfl | exact ret_int hr.symm, HS2.out.2⟩
set_option maxRecDepth 100000 in
set_option maxHeartbeats 8000000 in
theorem flaggedR_any (rs rf rl ra rb : Int) (A : Option Addr) (c : Nat) (L : List Sg) (w : World) (hA : Rd w A (sgC L)) (hm : L.length ≤ 1000000) (hR : RecG rs rf rl ra rb) (hg : ∀ s ∈ L, SigG s.a s.b s.c s.d s.x s.y) :
 Calls Tryz.prog 26 #[.agg #[.int .i64 rs, .int .i64 rf, .int .i64 rl, .int .i64 ra, .int .i64 rb], .slice A L.length c] w fun e w' => ∃ v, e = .returned v ∧ w'.ownsRow (w.heap.size + 1) 111 2 v (spL (fgB rl ra rb L) L.length).length (spanC (spL (fgB rl ra rb L) L.length)) ∧ Below w.heap.size w w' := by
 have HA := Lib.hid hA; have HG := Lib.hid hg; have HRR := Lib.hid hR; have Hm := Lib.hid (show L.length ≤ 1000000 from hm)
 clear hA hg hR
 obtain ⟨p, hpd⟩ : ∃ p, p = fgB rl ra rb L := ⟨_, rfl⟩
 rw [← hpd]
 have HP := Lib.hid hpd
 clear hpd
 obtain ⟨i0, hi0, hz0, hz1, hz2⟩ := info_parts info94
 go_enter Tryz.func26, Tryz.ntmps26
 go_upto_region 1 with fail
 refine genT (fun V => Row V (w.heap.size) 25 [.int .i64 rs, .int .i64 rf, .int .i64 rl, .int .i64 ra, .int .i64 rb] ∧ Below w.heap.size w V) ⟨(rowAt _ _ (by first | rfl | simp only [World.size_alloc])), ((Below.refl _ _).alloc (by first | exact Nat.le_refl _ | (simp only [World.size_alloc]; omega)) _)⟩ ?_
 intro W1 s1
 have HS1 := Lib.hid s1
 clear s1
 go_wp2_with fail
 go_loopw [5, 6] (fun v i wr => ∃ k : Nat, k ≤ L.length ∧ i = .int .i64 k ∧ Hid (wr.ownsRow (w.heap.size + 1) 111 2 v (spL p k).length (spanC (spL p k))) ∧ Hid (Row wr w.heap.size 25 [.int .i64 rs, .int .i64 rf, .int .i64 rl, .int .i64 ra, .int .i64 rb]) ∧ Hid (Below w.heap.size w wr)) (fun _ i _ => L.length - (intOf i).toNat)
 case atStart => exact ⟨0, Nat.zero_le _, rfl, World.ownsRow_nil _ _ _ _, Lib.hid HS1.out.1, Lib.hid HS1.out.2⟩
 case round =>
  rename_i v _ wr
  clear HS1
  obtain ⟨k, hk, rfl, Ho, Hr, Hb⟩ := hrel
  by_cases hlt : k < L.length
  · obtain ⟨b0, off, rfl, q0, q1, q2, q3, q4, q5⟩ := Rd.sg (HA.out.below Hb.out) hlt
    have hgk := HG.out L[k] (List.getElem_mem hlt)
    have hpk : p k = (flB rl L[k] || flD ra rb L[k]) := by rw [HP.out]; unfold fgB; rw [List.getD_eq_getElem?_getD, List.getElem?_eq_getElem hlt]; rfl
    obtain ⟨⟨sa, sb, sc, sd, sx, sy⟩, hs⟩ : ∃ s, s = L[k] := ⟨_, rfl⟩
    rw [← hs] at q0 q1 q2 q3 q4 q5 hgk hpk
    dsimp only at q0 q1 q2 q3 q4 q5
    obtain ⟨B, hB⟩ : ∃ B, B = flB rl ⟨sa, sb, sc, sd, sx, sy⟩ := ⟨_, rfl⟩
    obtain ⟨D, hD⟩ : ∃ D, D = flD ra rb ⟨sa, sb, sc, sd, sx, sy⟩ := ⟨_, rfl⟩
    have HF : Hid (∀ W, Calls Tryz.prog 69 #[.agg #[.int .i64 rs, .int .i64 rf, .int .i64 rl, .int .i64 ra, .int .i64 rb], .agg #[.int .i64 sa, .int .i64 sb, .int .i64 sc, .int .i64 sd, .int .i64 sx, .int .i64 sy]] W fun e w' => e = .returned (.string (flagS B D)) ∧ Below W.heap.size W w') := fun W => by rw [hB, hD]; exact flagR_sg rs rf rl ra rb ⟨sa, sb, sc, sd, sx, sy⟩ W HRR.out hgk
    rw [← hB, ← hD] at hpk
    have HC := Lib.hid (And.intro q0 (And.intro q1 (And.intro q2 (And.intro q3 (And.intro q4 q5)))))
    have hltI : (k : Int) < (L.length : Int) := by omega
    have Hlt := Lib.hid hlt
    have Hll : Hid ((spL p k).length ≤ k) := spL_len p k
    have Hpk := Lib.hid hpk
    clear q0 q1 q2 q3 q4 q5 hs hgk hB hD hlt hpk
    have HSR : Hid (Row wr (w.heap.size) 25 [.int .i64 rs, .int .i64 rf, .int .i64 rl, .int .i64 ra, .int .i64 rb] ∧ Below wr.heap.size wr wr) := ⟨Hr.out, Below.refl _ _⟩
    obtain ⟨FG, hFG⟩ : ∃ FG, FG = flagS B D := ⟨_, rfl⟩
    rw [← hFG] at HF
    have hq : FG.toList.isEmpty = !(p k) := by
     rw [hFG, Hpk.out]; cases B <;> cases D <;> first | rfl | kernel_rfl | decide | (simp [flagS]; done)
    have Hq := Lib.hid hq
    clear hq hFG
    go_upto_region 5 with fail
    refine wp_region_held_drew (S := fun V => Row V (w.heap.size) 25 [.int .i64 rs, .int .i64 rf, .int .i64 rl, .int .i64 ra, .int .i64 rb] ∧ Below wr.heap.size wr V) (by kernel_rfl) ?_ (fun hHeld => ?_)
    · exact ⟨(HSR.out.1).drew, (HSR.out.2).drew⟩
    refine tk 0 13 (.agg #[.int .i64 rs, .int .i64 rf, .int .i64 rl, .int .i64 ra, .int .i64 rb]) rfl (by kernel_rfl) (fun _ _ _ h => h) (by kernel_rfl) (fun V hV => ex_rowT 25 _ rfl (w.heap.size) rfl 25 [.int .i64 rs, .int .i64 rf, .int .i64 rl, .int .i64 ra, .int .i64 rb] _ Tryz.underlying25 rfl (by kernel_rfl) (hV.1)) hHeld ?_
    try simp only [zz]
    refine tk 1 14 ?_ rfl (by kernel_rfl) (fun _ _ _ h => h) (by kernel_rfl) ?_ hHeld ?_
    rotate_left
    · intro a h; go_simp <;> with_reducible rfl
    try simp only [zz]
    refine tk 2 15 ?_ rfl (by kernel_rfl) (fun _ _ _ h => h) (by kernel_rfl) ?_ hHeld ?_
    rotate_left
    · intro a h; go_simp <;> with_reducible rfl
    try simp only [zz]
    refine tk 3 16 ?_ rfl (by kernel_rfl) (fun _ _ _ h => h) (by kernel_rfl) ?_ hHeld ?_
    rotate_left
    · intro a h; go_simp <;> with_reducible rfl
    try simp only [zz]
    refine tk 4 17 (.agg #[.int .i64 sa, .int .i64 sb, .int .i64 sc, .int .i64 sd, .int .i64 sx, .int .i64 sy]) rfl (by kernel_rfl) (fun _ _ _ h => h) (by kernel_rfl) (fun V hV => ex_SgR _ rfl b0 (off + k * 6) rfl (keepT HC.out.1 hV.2) (keepT HC.out.2.1 hV.2) (keepT HC.out.2.2.1 hV.2) (keepT HC.out.2.2.2.1 hV.2) (keepT HC.out.2.2.2.2.1 hV.2) (keepT HC.out.2.2.2.2.2 hV.2)) hHeld ?_
    try simp only [zz]
    refine st1 5 (by kernel_rfl) rfl (fun K hK => ?_)
    go_simp
    go_at_call 69
    refine (HF.out _).mono ?_
    rintro e v5 ⟨rfl, hb5⟩
    try go_simp
    refine hK.out _ _ ?_ (fun hHeld => ?_)
    · exact ⟨(hHeld.1).old hb5, (hHeld.2).trans ((hb5).mono (hHeld.2).size)⟩
    clear hK K
    try simp only [zz]
    refine tk 6 19 ?_ rfl (by kernel_rfl) (fun _ _ _ h => h) (by kernel_rfl) ?_ hHeld ?_
    rotate_left
    · intro a h; go_simp <;> with_reducible rfl
    try simp only [zz]
    refine wpAnyH_done (by kernel_rfl) ?_ _
    refine genT (fun V => Row V (w.heap.size) 25 [.int .i64 rs, .int .i64 rf, .int .i64 rl, .int .i64 ra, .int .i64 rb] ∧ Below wr.heap.size wr V) hHeld ?_
    intro W6 s6
    have HK := Lib.hid s6
    clear s6 hHeld HSR HC HF
    have Ho6 := Lib.hid (own_keep Ho.out HK.out.2)
    have Hb6 := Lib.hid (Hb.out.trans (HK.out.2.mono Hb.out.size))
    have Hr6 := Lib.hid HK.out.1
    have Hsz : Hid ((w.heap.size + 1) ≤ W6.heap.size) := Lib.hid (by have := HK.out.1.lt; omega)
    clear HK Ho Hb Hr
    cases hp : p k
    case false =>
     have he : FG.toList.isEmpty = true := by rw [Hq.out, hp]; rfl
     have HN : Hid (spL p (k + 1) = spL p k) := Lib.hid (by rw [spL, hp]; rfl)
     clear Hq
     go_upto_if 19 with fail
     rw [he]
     clear he
     go_wp2_with fail
     go_roundw
     case rel => exact ⟨k + 1, by have := Hlt.out; omega, by go_num, by show World.ownsRow _ _ _ _ _ _ _; rw [HN.out]; exact Ho6.out, Hr6, Hb6⟩
     case measure => have := Hlt.out; simp [intOf]; omega
    case true =>
     have he : FG.toList.isEmpty = false := by rw [Hq.out, hp]; rfl
     clear Hq
     go_upto_if 19 with fail
     rw [he]
     clear he
     have HN : Hid (spL p (k + 1) = widL (spL p k) (k : Int)) := Lib.hid (by rw [spL, hp]; rfl)
     rcases List.eq_nil_or_concat (spL p k) with hnil | ⟨init, ⟨sf, st⟩, hcon⟩
     · rw [hnil] at Ho6 HN Hll
       obtain ⟨VA, VC, rfl⟩ := own_slice Ho6.out
       have hw : Hid (widL [] (k : Int) = [] ++ [((k : Int), (k : Int) + 1)]) := rfl
       go_wp2_with (at_builtin; refine wpList_append_own_at _ rfl _ _ 55 rfl (w.heap.size + 1) 111 i0 (.agg #[.int .i64 0, .int .i64 0]) 2 16 Tryz.underlying55 hi0 hz0 hz1 hz2 rfl (by decide) _ 0 [] rfl (Ho6.out.alloc _) ⟨W6.heap.size, 0, none⟩ 1 1 [.int .i64 (k : Int), .int .i64 ((k : Int) + 1)] rfl rfl (news2 _ _ _ _ _ rfl) (by simp [Value.oneCell']) ?c3 ?c4 ?c5 ?_)
       case c3 => have q1 := Hlt.out; have q2 := Hm.out; have q3 := Hll.out; unfold maxLen; omega
       case c4 => have q3 := Hll.out; have q1 := Hlt.out; have q2 := Hm.out; first | omega | (unfold maxLen; omega)
       case c5 => simp; try (have := Hsz.out; omega)
       intro v' w1 ho hg2 _ hat
       have hst : Step W6 w1 _ v' := Step.of_alloc hg2 (by rw [World.size_alloc]; exact hat)
       have Ho1 : Hid (w1.ownsRow (w.heap.size + 1) 111 2 v' (spL p (k + 1)).length (spanC (spL p (k + 1)))) := by
        unfold Hid; rw [HN.out, hw.out, spanC_app]
        have e : ([] ++ [((k : Int), (k : Int) + 1)] : List (Int × Int)).length = 0 + 1 := by simp
        rw [e]; exact ho
       have Hb1 := Lib.hid (Hb6.out.trans ((hst.below Ho6.out Hsz.out).mono (by omega)))
       have Hr1 : Hid (Row w1 w.heap.size 25 [.int .i64 rs, .int .i64 rf, .int .i64 rl, .int .i64 ra, .int .i64 rb]) := Hr6.out.app6 Ho6.out hg2
       clear ho hg2 hat hst
       go_wp2_with fail
       go_roundw
       case rel => exact ⟨k + 1, by have := Hlt.out; omega, by go_num, Ho1, Hr1, Hb1⟩
       case measure => have := Hlt.out; simp [intOf]; omega
     · rw [List.concat_eq_append] at hcon
       rw [hcon] at Ho6 HN Hll
       obtain ⟨g, cap, rfl, hBg, hgs⟩ := ownsRow.addr Ho6.out (by simp)
       have hlen : (init ++ [(sf, st)]).length = init.length + 1 := by simp
       have hown := Ho6.out
       rw [hlen] at hown
       have hcell : W6.cell? ⟨g, init.length * 2 + 1, none⟩ = some (.int .i64 st) := by
        rw [hown.cellAt _ (by omega), spanC_app, List.getElem?_append_right (by rw [spanC_length]; omega), spanC_length]
        have : init.length * 2 + 1 - init.length * 2 = 1 := by omega
        rw [this]; rfl
       have hfree := hown.frozenAt (init.length * 2 + 1)
       have hst := hown.stored (init.length * 2 + 1) (.int .i64 ((k : Int) + 1))
       have Hst := Lib.hid hst
       replace Ho6 := Lib.hid hown
       have hml : init.length ≤ 1000000 := by have q1 := Hll.out; have q2 := Hlt.out; have q3 := Hm.out; rw [hlen] at q1; omega
       clear hown hst
       obtain ⟨m, hk⟩ : ∃ m, init.length = m := ⟨_, rfl⟩
       have Hk := Lib.hid hk
       rw [hk] at hcell hfree hml hlen
       rw [hk] at Ho6
       rw [hlen]
       have Hlen := Lib.hid hlen
       have Hml := Lib.hid hml
       clear hk hlen hml
       have hp0 : (0 : Int) < (m : Int) + 1 := by omega
       have hp1 : (m : Int) < (m : Int) + 1 := by omega
       have hp2 : m < m + 1 := by omega
       have h1 : IntKind.i64.wrap ((m : Int) + 1 - 1) = (m : Int) := by rw [show (m : Int) + 1 - 1 = m by omega]; exact IntWalk.i64_in _ (by have := Hml.out; omega)
       have h1b : IntKind.i64.wrap (m : Int) = (m : Int) := IntWalk.i64_in _ (by have := Hml.out; omega)
       by_cases hti : st = (k : Int)
       · subst hti
         have hw : Hid (widL (init ++ [(sf, (k : Int))]) (k : Int) = init ++ [(sf, (k : Int) + 1)]) := by unfold Hid widL; simp
         go_wp2_with fail
         have e : (widL (init ++ [(sf, (k : Int))]) (k : Int)).length = m + 1 := by rw [hw.out, ← Hk.out]; simp
         have e2 : (spanC (init ++ [(sf, (k : Int))])).set (m * 2 + 1) (.int .i64 ((k : Int) + 1)) = spanC (widL (init ++ [(sf, (k : Int))]) (k : Int)) := by
          rw [hw.out, spanC_app, spanC_app, List.set_append_right _ _ (by rw [spanC_length, Hk.out]; omega), spanC_length, Hk.out]
          have : m * 2 + 1 - m * 2 = 1 := by omega
          rw [this]; rfl
         have h := Hst.out
         rw [Hk.out, e2] at h
         go_roundw
         case rel => exact ⟨k + 1, by have := Hlt.out; omega, by go_num, by show World.ownsRow _ _ _ _ _ _ _; rw [HN.out, e]; exact h.1, Row.far Hr6.out (by show w.heap.size ≠ g; omega) _, Below.setCell Hb6.out (by show w.heap.size ≤ g; omega) _⟩
         case measure => have := Hlt.out; simp [intOf]; omega
       · have hti2 : (st == (k : Int)) = false := by simpa using hti
         have hw : Hid (widL (init ++ [(sf, st)]) (k : Int) = (init ++ [(sf, st)]) ++ [((k : Int), (k : Int) + 1)]) := by unfold Hid widL; simp [hti]
         have Hti := Lib.hid hti
         clear hti Hst
         go_wp2_with (at_builtin; refine wpList_append_own_at _ rfl _ _ 55 rfl (w.heap.size + 1) 111 i0 (.agg #[.int .i64 0, .int .i64 0]) 2 16 Tryz.underlying55 hi0 hz0 hz1 hz2 rfl (by decide) _ (m + 1) (spanC (init ++ [(sf, st)])) rfl (Ho6.out.alloc _) ⟨W6.heap.size, 0, none⟩ 1 1 [.int .i64 (k : Int), .int .i64 ((k : Int) + 1)] rfl rfl (news2 _ _ _ _ _ rfl) (by simp [Value.oneCell']) ?c3 ?c4 ?c5 ?_)
         case c3 => have q1 := Hlt.out; have q2 := Hm.out; have q3 := Hml.out; unfold maxLen; omega
         case c4 => have q3 := Hml.out; have q1 := Hlt.out; have q2 := Hm.out; first | omega | (unfold maxLen; omega)
         case c5 => simp; try (have := Hsz.out; omega)
         intro v' w1 ho hg2 _ hat
         have hst : Step W6 w1 _ v' := Step.of_alloc hg2 (by rw [World.size_alloc]; exact hat)
         have Ho1 : Hid (w1.ownsRow (w.heap.size + 1) 111 2 v' (spL p (k + 1)).length (spanC (spL p (k + 1)))) := by
          unfold Hid; rw [HN.out, hw.out, spanC_app]
          have e : ((init ++ [(sf, st)]) ++ [((k : Int), (k : Int) + 1)]).length = m + 1 + 1 := by rw [← Hk.out]; simp
          rw [e]; exact ho
         have Hb1 := Lib.hid (Hb6.out.trans ((hst.below Ho6.out Hsz.out).mono (by omega)))
         have Hr1 : Hid (Row w1 w.heap.size 25 [.int .i64 rs, .int .i64 rf, .int .i64 rl, .int .i64 ra, .int .i64 rb]) := Hr6.out.app6 Ho6.out hg2
         clear ho hg2 hat hst
         go_wp2_with fail
         go_roundw
         case rel => exact ⟨k + 1, by have := Hlt.out; omega, by go_num, Ho1, Hr1, Hb1⟩
         case measure => have := Hlt.out; simp [intOf]; omega
  · obtain rfl : k = L.length := by omega
    have hn : ¬ (L.length : Int) < (L.length : Int) := by omega
    go_wp2_with fail
    go_ret
    exact ⟨_, rfl, Ho.out, Hb.out⟩
end Go.Proofs.YtaeebedchbkniaaGreatDoor
