import Derived.Test.YtjdniebjhilooaaGreatDoorM34
namespace Go.Proofs.YtjdniebjhilooaaGreatDoor
set_option linter.all false
open Go.RowKit Go.Fl
set_option maxRecDepth 100000 in
set_option maxHeartbeats 4000000 in
theorem print_bad (st sp : Int) (A B : Option Addr) (c d : Nat) (xs : List Nat) (ms : List (Int × ByteArray)) (E : Int) (w : World) (hA : Rd w A (flts xs)) (hB : Rd w B (markC ms)) (hx : xs.length ≤ 1000000000) (hE : recI st sp xs ms = E) (h0 : E ≠ 0) :
 Calls Tryz.prog 9 #[.agg #[.int .i64 st, .int .i64 sp, .slice A xs.length c, .slice B ms.length d]] w fun e w' => e = .returned (.tuple #[.string ⟨#[]⟩, .int .i64 E]) ∧ Below w.heap.size w w' := by
 have HC : Hid (∀ W, Below w.heap.size w W → Calls Tryz.prog 45 #[.agg #[.int .i64 st, .int .i64 sp, .slice A xs.length c, .slice B ms.length d]] W fun e w' => e = .returned (.int .i64 E) ∧ Below W.heap.size W w') := fun W h => by
  have := checkRecording_any st sp A B xs.length c ms.length d xs ms W (hA.below h) (hB.below h) rfl rfl (by omega)
  rw [hE] at this; exact this
 have HB0 := Lib.hid ((Below.refl w.heap.size w).alloc (Nat.le_refl _) (.cells #[.int .i64 st, .int .i64 sp, .slice A xs.length c, .slice B ms.length d] 33))
 have hne : (E == 0) = false := by simpa using h0
 have hne2 : (E != 0) = true := by simpa using h0
 clear hA hB hE h0 hx
 go_enter Tryz.func9, Tryz.ntmps9
 go_wp2_with fail
 refine (HC.out _ HB0.out).mono ?_
 rintro e w1 ⟨rfl, hb1⟩
 have HB1 := Lib.hid (HB0.out.trans (hb1.mono HB0.out.size))
 clear hb1
 go_wp2_with fail
 go_ret2
 exact ⟨rfl, HB1.out⟩
def ParsE (st sp : Int) (xs : List Nat) (ms : List (Int × ByteArray)) (i E : Int) (W : World) (e : Ending) (w' : World) : Prop :=
 ∃ CA cc CB cd, e = .returned (.tuple #[.agg #[.int .i64 st, .int .i64 sp, .slice CA xs.length cc, .slice CB ms.length cd], .int .i64 i, .int .i64 E]) ∧ Rd w' CA (flts xs) ∧ Rd w' CB (markC ms) ∧ (CA = none → cc = 0) ∧ Below W.heap.size W w'
theorem parsE_zero {i E : Int} {W w' : World} {e : Ending} (h : e = .returned (.tuple #[zaggV, .int .i64 i, .int .i64 E]) ∧ Below W.heap.size W w') : ParsE 0 0 [] [] i E W e w' :=
 ⟨none, 0, none, 0, h.1, fun j v hj => by simp [flts] at hj, fun j v hj => by simp [markC] at hj, fun _ => rfl, h.2⟩
theorem parse_both (s : ByteArray) (hs : s.size ≤ 100000) : ∃ (st sp : Int) (xs : List Nat) (ms : List (Int × ByteArray)) (i E : Int), sameF xs xs = true ∧ xs.length ≤ 1000000 ∧ ms.length ≤ 1000000 ∧
 (∀ W, Mx W → Calls Tryz.prog 11 #[.string s] W fun e w' => ParsE st sp xs ms i E W e w') ∧
 (∀ W, Calls Tryz.prog 14 #[.string s] W fun e w' => ParsE st sp xs ms i E W e w') := by
 by_cases hl : 4096 < s.size
 · exact ⟨0, 0, [], [], 0, 26, rfl, by simp, by simp, fun W _ => (parse_long s W hl hs).mono fun e w' h => parsE_zero h, fun W => (parseR_long s W hl hs).mono fun e w' h => parsE_zero h⟩
 have hl2 : s.size ≤ 4096 := by omega
 obtain ⟨k, ok, S, hg⟩ : ∃ k ok S, linesGo 0 zeroS (linesL s) = (k, ok, S) := ⟨_, _, _, rfl⟩
 have hR : ∀ W, Calls Tryz.prog 14 #[.string s] W fun e w' => RpQ W (k, ok, S) e w' := fun W => by
  have h := parseR_any s W hl2
  rw [hg] at h; exact h
 cases ok with
 | false => exact ⟨0, 0, [], [], k, 25, rfl, by simp, by simp, fun W hM => (parse_bad s W k S hM hl2 hg).mono fun e w' h => parsE_zero h, fun W => (hR W).mono fun e w' h => parsE_zero (h.1 rfl)⟩
 | true =>
   cases k with
   | zero => exact ⟨0, 0, [], [], 0, 25, rfl, by simp, by simp, fun W hM => (parse_empty s W S hM hl2 hg).mono fun e w' h => parsE_zero h, fun W => (hR W).mono fun e w' h => parsE_zero (h.2.1 rfl rfl)⟩
   | succ n =>
     obtain ⟨st, sp, ys, ms⟩ := S
     by_cases h0 : recI st sp ys ms = 0
     · have hgd := goodR_of h0
       refine ⟨st, sp, ys, ms, 0, 0, sameF_self ys hgd.samp, by have := hgd.many; omega, by have := hgd.marks; omega, fun W hM => (parse_good s W st sp ys ms n hM hl2 hg h0).mono fun e w' h => h, fun W => (hR W).mono fun e w' h => h.2.2.2 rfl (Nat.succ_ne_zero n) h0⟩
     · have hl : ys.length ≤ 1000000000 := by
        have h1 := go_len (linesL s) 0 zeroS
        rw [hg] at h1
        have h2 := linesL_le s
        have h3 : zeroS.2.2.1.length = 0 := rfl
        dsimp only at h1
        omega
       exact ⟨0, 0, [], [], (n + 1 : Nat), recI st sp ys ms, rfl, by simp, by simp, fun W hM => (parse_err s W n st sp ys ms hl h0 hM hl2 hg).mono fun e w' h => parsE_zero h, fun W => (hR W).mono fun e w' h => parsE_zero (h.2.2.1 rfl (Nat.succ_ne_zero n) h0)⟩
def StrS (w : World) (A B : Option Addr) (xs : List Nat) (ms : List (Int × ByteArray)) (L0 : List Value) (W : World) : Prop := Row W w.heap.size 25 L0 ∧ Rd W A (flts xs) ∧ Rd W B (markC ms) ∧ Aw W ∧ Below w.heap.size w W
theorem StrS.keep {w W W' : World} {A B : Option Addr} {xs : List Nat} {ms : List (Int × ByteArray)} {L0 : List Value} (h : StrS w A B xs ms L0 W) (hb : Below W.heap.size W W') : StrS w A B xs ms L0 W' :=
 ⟨h.1.old hb, h.2.1.below hb, h.2.2.1.below hb, h.2.2.2.1.old hb, h.2.2.2.2.trans (hb.mono h.2.2.2.2.size)⟩
theorem StrS.new {w : World} {A B : Option Addr} {xs : List Nat} {ms : List (Int × ByteArray)} {L0 : List Value} (hA : Rd w A (flts xs)) (hB : Rd w B (markC ms)) (hW : Aw w) : StrS w A B xs ms L0 (w.alloc (.cells L0.toArray 25)) := by
 have hb : Below w.heap.size w (w.alloc (.cells L0.toArray 25)) := (Below.refl _ _).alloc (Nat.le_refl _) _
 exact ⟨Row.new w 25 L0, hA.below hb, hB.below hb, hW.old hb, hb⟩
theorem strs_len {n : Nat} {ms : List (Int × ByteArray)} (h : shortRB n ms = true) : n ≤ 4097 ∧ ms.length ≤ 17 := by
 unfold shortRB shortB at h
 simp only [Bool.and_eq_true, Bool.or_eq_true, decide_eq_true_eq] at h
 omega
set_option maxRecDepth 100000 in
set_option maxHeartbeats 1000000 in
theorem strs_far1 (haw : AwakeOk) (st sp : Int) (A B : Option Addr) (c d : Nat) (xs : List Nat) (ms : List (Int × ByteArray)) (s : ByteArray) (w : World) (hW : Aw w) (hA : Rd w A (flts xs)) (hB : Rd w B (markC ms)) (hlc : xs.length ≤ c) (hca : A = none → c = 0) (hx : xs.length ≤ 9223372036854775807) (hm : ms.length ≤ 9223372036854775807) (h1 : shortRB xs.length ms = false) : Calls Tryz.prog 3 #[.agg #[.int .i64 st, .int .i64 sp, .slice A xs.length c, .slice B ms.length d], .string s] w fun e w' => e = .returned (.bool true) ∧ Below w.heap.size w w' := by
 obtain ⟨bsh, hbsh⟩ : ∃ bsh, shortRB xs.length ms = bsh := ⟨_, rfl⟩
 have HS0 := Lib.hid (StrS.new (L0 := [.int .i64 st, .int .i64 sp, .slice A xs.length c, .slice B ms.length d]) hA hB hW)
 have HSH : Hid (∀ W, Rd W B (markC ms) → Calls Tryz.prog 7 #[.agg #[.int .i64 st, .int .i64 sp, .slice A xs.length c, .slice B ms.length d]] W fun e w' => e = .returned (.bool bsh) ∧ Below W.heap.size W w') := fun W h => by
  have k := shortRecording_any st sp A B xs.length c ms.length d ms W h rfl hx hm
  rw [hbsh] at k; exact k
 have e1 : bsh = false := hbsh.symm.trans h1
 subst e1
 clear hW hA hB h1 hbsh
 go_enter Tryz.func3, Tryz.ntmps3
 go_upto_region 1 with fail
 refine genR (StrS w A B xs ms [.int .i64 st, .int .i64 sp, .slice A xs.length c, .slice B ms.length d]) HS0.out ?_
 clear HS0
 intro W1 s1
 have HS1 := Lib.hid s1
 clear s1
 go_wp2_with (first | (go_at_call 8; refine (haw _ HS2.out.2.2.2.1).mono ?_; rintro e w5 ⟨rfl, hb5⟩; have HS4 := Lib.hid (HS2.out.keep hb5); clear hb5) | (first | (refine wpList_load_row rfl 25 _ rfl w.heap.size rfl 25 #[.int .i64 st, .int .i64 sp, .slice A xs.length c, .slice B ms.length d] (0, 0) _ HS1.out.1 Tryz.underlying25 rfl ?_ ?_; (kernel_rfl)) | (go_at_call 7; refine (HSH.out _ HS1.out.2.2.1).mono ?_; rintro e w1 ⟨rfl, hb1⟩; have HS2 := Lib.hid (HS1.out.keep hb1); clear hb1)))
 go_ret
 exact ⟨rfl, HS4.out.2.2.2.2⟩
set_option maxRecDepth 100000 in
set_option maxHeartbeats 1000000 in
theorem strs_far2 (haw : AwakeOk) (st sp : Int) (A B : Option Addr) (c d : Nat) (xs : List Nat) (ms : List (Int × ByteArray)) (s : ByteArray) (w : World) (hW : Aw w) (hA : Rd w A (flts xs)) (hB : Rd w B (markC ms)) (hlc : xs.length ≤ c) (hca : A = none → c = 0) (hx : xs.length ≤ 9223372036854775807) (hm : ms.length ≤ 9223372036854775807) (h1 : shortRB xs.length ms = true) (h2 : 300 < s.size) (h3 : s.size ≠ 4097) : Calls Tryz.prog 3 #[.agg #[.int .i64 st, .int .i64 sp, .slice A xs.length c, .slice B ms.length d], .string s] w fun e w' => e = .returned (.bool true) ∧ Below w.heap.size w w' := by
 obtain ⟨bsh, hbsh⟩ : ∃ bsh, shortRB xs.length ms = bsh := ⟨_, rfl⟩
 have HS0 := Lib.hid (StrS.new (L0 := [.int .i64 st, .int .i64 sp, .slice A xs.length c, .slice B ms.length d]) hA hB hW)
 have HSH : Hid (∀ W, Rd W B (markC ms) → Calls Tryz.prog 7 #[.agg #[.int .i64 st, .int .i64 sp, .slice A xs.length c, .slice B ms.length d]] W fun e w' => e = .returned (.bool bsh) ∧ Below W.heap.size W w') := fun W h => by
  have k := shortRecording_any st sp A B xs.length c ms.length d ms W h rfl hx hm
  rw [hbsh] at k; exact k
 have e1 : bsh = true := hbsh.symm.trans h1
 subst e1
 have g2 : decide ((300 : Int) < (s.size : Int)) = true := decide_eq_true (by omega)
 have g3 : ((s.size : Int) != 4097) = true := by rw [bne_iff_ne]; omega
 have g4 : ((s.size : Int) == 4097) = false := by rw [beq_eq_false_iff_ne]; omega
 clear hW hA hB h1 h2 h3 hbsh
 go_enter Tryz.func3, Tryz.ntmps3
 go_upto_region 1 with fail
 refine genR (StrS w A B xs ms [.int .i64 st, .int .i64 sp, .slice A xs.length c, .slice B ms.length d]) HS0.out ?_
 clear HS0
 intro W1 s1
 have HS1 := Lib.hid s1
 clear s1
 go_wp2_with (first | (go_at_call 8; refine (haw _ HS2.out.2.2.2.1).mono ?_; rintro e w5 ⟨rfl, hb5⟩; have HS4 := Lib.hid (HS2.out.keep hb5); clear hb5) | (first | (refine wpList_load_row rfl 25 _ rfl w.heap.size rfl 25 #[.int .i64 st, .int .i64 sp, .slice A xs.length c, .slice B ms.length d] (0, 0) _ HS1.out.1 Tryz.underlying25 rfl ?_ ?_; (kernel_rfl)) | (go_at_call 7; refine (HSH.out _ HS1.out.2.2.1).mono ?_; rintro e w1 ⟨rfl, hb1⟩; have HS2 := Lib.hid (HS1.out.keep hb1); clear hb1)))
 go_ret
 exact ⟨rfl, HS4.out.2.2.2.2⟩
set_option maxRecDepth 100000 in
set_option maxHeartbeats 8000000 in
theorem strs_walk (haw : AwakeOk) (st sp : Int) (A B : Option Addr) (c d : Nat) (xs : List Nat) (ms : List (Int × ByteArray)) (s : ByteArray) (w : World) (hW : Aw w) (hA : Rd w A (flts xs)) (hB : Rd w B (markC ms)) (hlc : xs.length ≤ c) (hca : A = none → c = 0) (hx : xs.length ≤ 9223372036854775807) (hm : ms.length ≤ 9223372036854775807) (h1 : shortRB xs.length ms = true) (h2 : s.size ≤ 300 ∨ s.size = 4097)
 (E : Int) (T1 : ByteArray) (hE : recI st sp xs ms = E)
 (hPR : ∀ W GA gc GB gd, It W → Rd W GA (flts xs) → Rd W GB (markC ms) → Calls Tryz.prog 9 #[.agg #[.int .i64 st, .int .i64 sp, .slice GA xs.length gc, .slice GB ms.length gd]] W fun e w' => e = .returned (.tuple #[.string T1, .int .i64 E]) ∧ Below W.heap.size W w')
 (hPQ : E = 0 → ∀ W, Rd W A (flts xs) → Rd W B (markC ms) → Calls Tryz.prog 13 #[.agg #[.int .i64 st, .int .i64 sp, .slice A xs.length c, .slice B ms.length d]] W fun e w' => e = .returned (.tuple #[.string T1, .int .i64 0]) ∧ Below W.heap.size W w')
 (hT1 : E ≠ 0 → T1 = ⟨#[]⟩)
 (qs qp : Int) (ys : List Nat) (ks : List (Int × ByteArray)) (qi E2 : Int) (hsf : sameF ys ys = true) (hy : ys.length ≤ 1000000) (hk : ks.length ≤ 1000000)
 (hPA : ∀ W, Mx W → Calls Tryz.prog 11 #[.string s] W fun e w' => ParsE qs qp ys ks qi E2 W e w')
 (hPB : ∀ W, Calls Tryz.prog 14 #[.string s] W fun e w' => ParsE qs qp ys ks qi E2 W e w') : Calls Tryz.prog 3 #[.agg #[.int .i64 st, .int .i64 sp, .slice A xs.length c, .slice B ms.length d], .string s] w fun e w' => e = .returned (.bool true) ∧ Below w.heap.size w w' := by
 obtain ⟨bsh, hbsh⟩ : ∃ bsh, shortRB xs.length ms = bsh := ⟨_, rfl⟩
 obtain ⟨hl, hm17⟩ := strs_len h1
 have HS0 := Lib.hid (StrS.new (L0 := [.int .i64 st, .int .i64 sp, .slice A xs.length c, .slice B ms.length d]) hA hB hW)
 have HSH : Hid (∀ W, Rd W B (markC ms) → Calls Tryz.prog 7 #[.agg #[.int .i64 st, .int .i64 sp, .slice A xs.length c, .slice B ms.length d]] W fun e w' => e = .returned (.bool bsh) ∧ Below W.heap.size W w') := fun W h => by
  have k := shortRecording_any st sp A B xs.length c ms.length d ms W h rfl hx hm
  rw [hbsh] at k; exact k
 have e1 : bsh = true := hbsh.symm.trans h1
 subst e1
 have HCK : Hid (∀ W, Rd W A (flts xs) → Rd W B (markC ms) → Calls Tryz.prog 12 #[.agg #[.int .i64 st, .int .i64 sp, .slice A xs.length c, .slice B ms.length d]] W fun e w' => e = .returned (.int .i64 E) ∧ Below W.heap.size W w') := fun W h1 h2 => by
  have k := checkRecordingR_any st sp A B xs.length c ms.length d xs ms W h1 h2 rfl rfl hlc hx hm
  rw [hE] at k; exact k
 have HGI : Hid (∀ W, Rd W A (flts xs) → Rd W B (markC ms) → Calls Tryz.prog 10 #[.agg #[.int .i64 st, .int .i64 sp, .slice A xs.length c, .slice B ms.length d]] W fun e w' => ∃ GA gc GB gd, e = .returned (.agg #[.int .i64 st, .int .i64 sp, .slice GA xs.length gc, .slice GB ms.length gd]) ∧ Rd w' GA (flts xs) ∧ Rd w' GB (markC ms) ∧ Below W.heap.size W w') := fun W h1 h2 =>
  (given_ok st sp A B c d xs ms W h1 h2 (by omega) (by omega) hca).mono fun e w' ⟨A', c', B', d', k1, k2, k3, k4, _, _⟩ => ⟨A', c', B', d', k1, k2, k3, k4⟩
 have HTO : Hid (∀ W CA cc CB cd, Rd W CA (flts ys) → Rd W CB (markC ks) → (CA = none → cc = 0) → Calls Tryz.prog 16 #[.agg #[.int .i64 qs, .int .i64 qp, .slice CA ys.length cc, .slice CB ks.length cd]] W fun e w' => ∃ TA tc TB td, e = .returned (.agg #[.int .i64 qs, .int .i64 qp, .slice TA ys.length tc, .slice TB ks.length td]) ∧ Rd w' TA (flts ys) ∧ Rd w' TB (markC ks) ∧ Below W.heap.size W w') := fun W CA cc CB cd h1 h2 h3 => told_ok qs qp CA CB cc cd ys ks W h1 h2 hy hk h3
 have HSM : Hid (∀ W TA tc TB td DA dc DB dd, Rd W TA (flts ys) → Rd W TB (markC ks) → Rd W DA (flts ys) → Rd W DB (markC ks) → Calls Tryz.prog 15 #[.agg #[.int .i64 qs, .int .i64 qp, .slice TA ys.length tc, .slice TB ks.length td], .agg #[.int .i64 qs, .int .i64 qp, .slice DA ys.length dc, .slice DB ks.length dd]] W fun e w' => e = .returned (.bool true) ∧ Below W.heap.size W w') := fun W TA tc TB td DA dc DB dd h1 h2 h3 h4 => sameRecording_true qs qp TA TB DA DB tc td dc dd ys ys ks W h1 h2 h3 h4 hy hk hsf
 have HPR := Lib.hid hPR; have HPQ := Lib.hid hPQ; have HT1 := Lib.hid hT1; have HPA := Lib.hid hPA; have HPB := Lib.hid hPB; have H2 := Lib.hid h2
 clear hW hA hB hca h1 h2 hbsh hE hl hm17 hsf hy hk hPR hPQ hT1 hPA hPB hx hm hlc
 go_enter Tryz.func3, Tryz.ntmps3
 go_upto_region 1 with fail
 refine genR (StrS w A B xs ms [.int .i64 st, .int .i64 sp, .slice A xs.length c, .slice B ms.length d]) HS0.out ?_
 clear HS0
 intro W1 s1
 have HS1 := Lib.hid s1
 clear s1
 go_cut [27] from 15 to 28 (fun s27 wx => s27 = .bool false ∧ StrS w A B xs ms [.int .i64 st, .int .i64 sp, .slice A xs.length c, .slice B ms.length d] wx)
 case first =>
  clear HPR HPQ HPA HPB HTO HSM HGI HCK
  rcases H2.out with h3 | h3
  · have g2 : decide ((300 : Int) < (s.size : Int)) = false := decide_eq_false (by omega)
    clear h3
    go_wp2_with (first | (refine wpList_load_row rfl 25 _ rfl w.heap.size rfl 25 #[.int .i64 st, .int .i64 sp, .slice A xs.length c, .slice B ms.length d] (0, 0) _ HS1.out.1 Tryz.underlying25 rfl ?_ ?_; (kernel_rfl)) | (go_at_call 7; refine (HSH.out _ HS1.out.2.2.1).mono ?_; rintro e w1 ⟨rfl, hb1⟩; have HS2 := Lib.hid (HS1.out.keep hb1); clear hb1))
    go_meet
    exact ⟨rfl, HS2.out⟩
  · have g2 : decide ((300 : Int) < (s.size : Int)) = true := decide_eq_true (by omega)
    have g3 : ((s.size : Int) != 4097) = false := by rw [h3]; rfl
    have g4 : ((s.size : Int) == 4097) = true := by rw [h3]; rfl
    clear h3
    go_wp2_with (first | (refine wpList_load_row rfl 25 _ rfl w.heap.size rfl 25 #[.int .i64 st, .int .i64 sp, .slice A xs.length c, .slice B ms.length d] (0, 0) _ HS1.out.1 Tryz.underlying25 rfl ?_ ?_; (kernel_rfl)) | (go_at_call 7; refine (HSH.out _ HS1.out.2.2.1).mono ?_; rintro e w1 ⟨rfl, hb1⟩; have HS2 := Lib.hid (HS1.out.keep hb1); clear hb1))
    go_meet
    exact ⟨rfl, HS2.out⟩
 case rest =>
 obtain ⟨rfl, hs⟩ := hcut
 have HS := Lib.hid hs
 clear hs HS1 HSH
 obtain ⟨W2, hW2⟩ : ∃ W2 : World, W2 = wc := ⟨_, rfl⟩
 subst hW2
 go_upto_region 3 with fail
 go_cut [5, 6] from 29 to 35 (fun s5 s6 wx => s5 = .string T1 ∧ s6 = .int .i64 E ∧ Below W2.heap.size W2 wx)
 case first =>
  clear HPA HPB HTO HSM HPQ HCK
  go_wp2_with (first
   | (refine wpList_load_row rfl 25 _ rfl w.heap.size rfl 25 #[.int .i64 st, .int .i64 sp, .slice A xs.length c, .slice B ms.length d] (0, 0) _ HS.out.1 Tryz.underlying25 rfl ?_ ?_; (kernel_rfl))
   | (go_at_call 10; refine (HGI.out _ HS.out.2.1 HS.out.2.2.1).mono ?_; rintro e w1 ⟨GA, gc, GB, gd, rfl, hga, hgb, hb1⟩; have HGA := Lib.hid hga; have HGB := Lib.hid hgb; have HB1 := Lib.hid hb1; clear hga hgb hb1)
   | (go_at_call 9; refine (HPR.out _ _ _ _ _ (HS.out.keep HB1.out).2.2.2.1.it HGA.out HGB.out).mono ?_; rintro e w2 ⟨rfl, hb2⟩; have HB2 := Lib.hid (HB1.out.trans (hb2.mono HB1.out.size)); clear hb2))
  go_meet
  exact ⟨rfl, rfl, HB2.out⟩
 case rest =>
 obtain ⟨rfl, rfl, hb⟩ := hcut
 have HS' := Lib.hid (HS.out.keep hb)
 clear HS hb HGI HPR
 have HS := HS'
 clear HS'
 obtain ⟨W3, hW3⟩ : ∃ W3 : World, W3 = wc := ⟨_, rfl⟩
 subst hW3
 go_upto_region 4 with fail
 go_cut [7, 8, 9] from 35 to 41 (fun s7 s8 s9 wx => ∃ g CA cc CB cd, s7 = .pointer (some ⟨g, 0, none⟩) ∧ s8 = .int .i64 qi ∧ s9 = .int .i64 E2 ∧ Row wx g 33 [.int .i64 qs, .int .i64 qp, .slice CA ys.length cc, .slice CB ks.length cd] ∧ Rd wx CA (flts ys) ∧ Rd wx CB (markC ks) ∧ (CA = none → cc = 0) ∧ Below W3.heap.size W3 wx)
 case first =>
  clear HPB HTO HSM HPQ HCK
  go_wp2_with (first
   | (go_at_call 11; refine (HPA.out _ HS.out.2.2.2.1.mx).mono ?_; rintro e v1 ⟨CA, cc, CB, cd, rfl, hca, hcb, hcz, hb1⟩; have HCAA := Lib.hid hca; have HCBB := Lib.hid hcb; have HCZ := Lib.hid hcz; have HB1 := Lib.hid hb1; clear hca hcb hcz hb1)
   | (refine wpList_store_row rfl 33 _ _ rfl v1.heap.size #[.int .i64 qs, .int .i64 qp, .slice CA ys.length cc, .slice CB ks.length cd] rfl rfl 33 _ (Row.new v1 33 zero4) ?_ ?_ ?_ ?_; (kernel_rfl); (rfl); (simp [Value.oneCell'])))
  go_meet
  have hb2 : Below v1.heap.size v1 ((v1.alloc (.cells zero4.toArray 33)).setRow v1.heap.size #[.int .i64 qs, .int .i64 qp, .slice CA ys.length cc, .slice CB ks.length cd]) := Below.setRow ((Below.refl _ _).alloc (Nat.le_refl _) _) (Nat.le_refl _) _
  exact ⟨_, CA, cc, CB, cd, rfl, rfl, rfl, (Row.new v1 33 zero4).setRow _, HCAA.out.below hb2, HCBB.out.below hb2, HCZ.out, HB1.out.trans (hb2.mono HB1.out.size)⟩
 case rest =>
 obtain ⟨g, CA, cc, CB, cd, rfl, rfl, rfl, hrg, hra, hrb, hcz, hb⟩ := hcut
 have HRG := Lib.hid hrg; have HRA := Lib.hid hra; have HRB := Lib.hid hrb; have HCZ := Lib.hid hcz
 clear hrg hra hrb hcz
 have HS' := Lib.hid (HS.out.keep hb)
 clear HS hb HPA
 have HS := HS'
 clear HS'
 obtain ⟨W4, hW4⟩ : ∃ W4 : World, W4 = wc := ⟨_, rfl⟩
 subst hW4
 go_upto_if 44 with (first
  | (refine wpList_load_row rfl 25 _ rfl w.heap.size rfl 25 #[.int .i64 st, .int .i64 sp, .slice A xs.length c, .slice B ms.length d] (0, 0) _ HS.out.1 Tryz.underlying25 rfl ?_ ?_; (kernel_rfl))
  | (go_at_call 12; refine (HCK.out _ HS.out.2.1 HS.out.2.2.1).mono ?_; rintro e w7 ⟨rfl, hb7⟩; have HB7 := Lib.hid hb7; have HS7 := Lib.hid (HS.out.keep hb7); clear hb7))
 go_cut [10, 11] from 44 to 50 (fun s10 s11 wx => s10 = .int .i64 E ∧ s11 = .string T1 ∧ Below W4.heap.size W4 wx)
 case first =>
  clear HPB HTO HSM
  by_cases hE0 : E = 0
  · have HPQ2 := Lib.hid (HPQ.out hE0)
    have hne : (E == 0) = true := by simpa using hE0
    have HE0 := Lib.hid hE0
    clear HPQ HT1 hE0
    go_wp2_with (first
     | (refine wpList_load_row rfl 25 _ rfl w.heap.size rfl 25 #[.int .i64 st, .int .i64 sp, .slice A xs.length c, .slice B ms.length d] (0, 0) _ HS7.out.1 Tryz.underlying25 rfl ?_ ?_; (kernel_rfl))
     | (go_at_call 13; refine (HPQ2.out _ HS7.out.2.1 HS7.out.2.2.1).mono ?_; rintro e w8 ⟨rfl, hb8⟩; have HB8 := Lib.hid (HB7.out.trans (hb8.mono HB7.out.size)); clear hb8))
    go_meet
    exact ⟨by rw [HE0.out], rfl, HB8.out⟩
  · obtain rfl := HT1.out hE0
    have hne : (E == 0) = false := by simpa using hE0
    clear HPQ HT1 hE0
    go_wp2_with fail
    go_meet
    exact ⟨rfl, rfl, HB7.out⟩
 case rest =>
 obtain ⟨rfl, rfl, hb⟩ := hcut
 have HRG' := Lib.hid (HRG.out.old hb); have HRA' := Lib.hid (HRA.out.below hb); have HRB' := Lib.hid (HRB.out.below hb)
 clear HRG HRA HRB
 have HRG := HRG'; have HRA := HRA'; have HRB := HRB'
 clear HRG' HRA' HRB'
 have HS' := Lib.hid (HS.out.keep hb)
 clear HS hb HPQ HT1 HCK
 have HS := HS'
 clear HS'
 obtain ⟨W5, hW5⟩ : ∃ W5 : World, W5 = wc := ⟨_, rfl⟩
 subst hW5
 go_upto_region 8 with fail
 go_cut [12, 13, 14] from 50 to 56 (fun s12 s13 s14 wx => ∃ h DA dc DB dd, s12 = .pointer (some ⟨h, 0, none⟩) ∧ s13 = .int .i64 qi ∧ s14 = .int .i64 E2 ∧ Row wx h 25 [.int .i64 qs, .int .i64 qp, .slice DA ys.length dc, .slice DB ks.length dd] ∧ Rd wx DA (flts ys) ∧ Rd wx DB (markC ks) ∧ Below W5.heap.size W5 wx)
 case first =>
  clear HTO HSM
  go_wp2_with (first
   | (go_at_call 14; refine (HPB.out _).mono ?_; rintro e v1 ⟨DA, dc, DB, dd, rfl, hca, hcb, hcz, hb1⟩; have HCAA := Lib.hid hca; have HCBB := Lib.hid hcb; have HB1 := Lib.hid hb1; clear hca hcb hcz hb1)
   | (refine wpList_store_row rfl 25 _ _ rfl v1.heap.size #[.int .i64 qs, .int .i64 qp, .slice DA ys.length dc, .slice DB ks.length dd] rfl rfl 25 _ (Row.new v1 25 zero4) ?_ ?_ ?_ ?_; (kernel_rfl); (rfl); (simp [Value.oneCell'])))
  go_meet
  have hb2 : Below v1.heap.size v1 ((v1.alloc (.cells zero4.toArray 25)).setRow v1.heap.size #[.int .i64 qs, .int .i64 qp, .slice DA ys.length dc, .slice DB ks.length dd]) := Below.setRow ((Below.refl _ _).alloc (Nat.le_refl _) _) (Nat.le_refl _) _
  exact ⟨_, DA, dc, DB, dd, rfl, rfl, rfl, (Row.new v1 25 zero4).setRow _, HCAA.out.below hb2, HCBB.out.below hb2, HB1.out.trans (hb2.mono HB1.out.size)⟩
 case rest =>
 obtain ⟨h, DA, dc, DB, dd, rfl, rfl, rfl, hrh, hda, hdb, hb⟩ := hcut
 have HRH := Lib.hid hrh; have HDA := Lib.hid hda; have HDB := Lib.hid hdb
 have HRG' := Lib.hid (HRG.out.old hb); have HRA' := Lib.hid (HRA.out.below hb); have HRB' := Lib.hid (HRB.out.below hb)
 clear HRG HRA HRB hrh hda hdb
 have HRG := HRG'; have HRA := HRA'; have HRB := HRB'
 clear HRG' HRA' HRB'
 have HS' := Lib.hid (HS.out.keep hb)
 clear HS hb HPB
 have HS := HS'
 clear HS'
 obtain ⟨W6, hW6⟩ : ∃ W6 : World, W6 = wc := ⟨_, rfl⟩
 subst hW6
 go_upto_region 9 with fail
 refine wp_region_held_drew (S := fun V => Below W6.heap.size W6 V) (by kernel_rfl) ?_ (fun hHeld => ?_)
 · exact (Below.refl _ _).drew
 refine wpAnyH_take (i := 0) (oi := ⟨some 56, _, _, _, _, _⟩) (v := ?_) rfl (by kernel_rfl) (by kernel_rfl) (by kernel_rfl) (fun _ _ _ h => h) (Or.inl ⟨by kernel_rfl, ?_⟩) hHeld ?_
 rotate_left
 · intro w1 hSw; (try dsimp only at hSw); go_simp <;> with_reducible rfl
 try simp only [Act.put, List.setIfInBounds_toArray, List.set_cons_zero, List.set_cons_succ]
 refine wpAnyH_take (i := 1) (oi := ⟨some 57, _, _, _, _, _⟩) (v := ?_) rfl (by kernel_rfl) (by kernel_rfl) (by kernel_rfl) (fun _ _ _ h => h) (Or.inl ⟨by kernel_rfl, ?_⟩) hHeld ?_
 rotate_left
 · intro w1 hSw; (try dsimp only at hSw); go_simp <;> with_reducible rfl
 try simp only [Act.put, List.setIfInBounds_toArray, List.set_cons_zero, List.set_cons_succ]
 refine wpAnyH_take (i := 2) (oi := ⟨some 58, _, _, _, _, _⟩) (v := ?_) rfl (by kernel_rfl) (by kernel_rfl) (by kernel_rfl) (fun _ _ _ h => h) (Or.inl ⟨by kernel_rfl, ?_⟩) hHeld ?_
 rotate_left
 · intro w1 hSw; (try dsimp only at hSw); go_simp <;> with_reducible rfl
 try simp only [Act.put, List.setIfInBounds_toArray, List.set_cons_zero, List.set_cons_succ]
 refine wpAnyH_take (i := 3) (oi := ⟨some 59, _, _, _, _, _⟩) (v := ?_) rfl (by kernel_rfl) (by kernel_rfl) (by kernel_rfl) (fun _ _ _ h => h) (Or.inl ⟨by kernel_rfl, ?_⟩) hHeld ?_
 rotate_left
 · intro w1 hSw; (try dsimp only at hSw); go_simp <;> with_reducible rfl
 try simp only [Act.put, List.setIfInBounds_toArray, List.set_cons_zero, List.set_cons_succ]
 refine wpAnyH_take (i := 4) (oi := ⟨some 60, _, _, _, _, _⟩) (v := ?_) rfl (by kernel_rfl) (by kernel_rfl) (by kernel_rfl) (fun _ _ _ h => h) (Or.inl ⟨by kernel_rfl, ?_⟩) hHeld ?_
 rotate_left
 · intro w1 hSw; (try dsimp only at hSw); go_simp <;> with_reducible rfl
 try simp only [Act.put, List.setIfInBounds_toArray, List.set_cons_zero, List.set_cons_succ]
 refine wpAnyH_take (i := 5) (oi := ⟨some 61, _, _, _, _, _⟩) (v := ?_) rfl (by kernel_rfl) (by kernel_rfl) (by kernel_rfl) (fun _ _ _ h => h) (Or.inl ⟨by kernel_rfl, ?_⟩) hHeld ?_
 rotate_left
 · intro w1 hSw; (try dsimp only at hSw); go_simp <;> with_reducible rfl
 try simp only [Act.put, List.setIfInBounds_toArray, List.set_cons_zero, List.set_cons_succ]
 refine wpAnyH_take (i := 6) (oi := ⟨some 62, _, _, _, _, _⟩) (v := ?_) rfl (by kernel_rfl) (by kernel_rfl) (by kernel_rfl) (fun _ _ _ h => h) (Or.inl ⟨by kernel_rfl, ?_⟩) hHeld ?_
 rotate_left
 · intro w1 hSw; (try dsimp only at hSw); go_simp <;> with_reducible rfl
 try simp only [Act.put, List.setIfInBounds_toArray, List.set_cons_zero, List.set_cons_succ]
 refine wpAnyH_take (i := 7) (oi := ⟨some 63, _, _, _, _, _⟩) (v := ?_) rfl (by kernel_rfl) (by kernel_rfl) (by kernel_rfl) (fun _ _ _ h => h) (Or.inl ⟨by kernel_rfl, ?_⟩) hHeld ?_
 rotate_left
 · intro w1 hSw; (try dsimp only at hSw); go_simp <;> with_reducible rfl
 try simp only [Act.put, List.setIfInBounds_toArray, List.set_cons_zero, List.set_cons_succ]
 refine wpAnyH_take (i := 8) (oi := ⟨some 64, _, _, _, _, _⟩) (v := ?_) rfl (by kernel_rfl) (by kernel_rfl) (by kernel_rfl) (fun _ _ _ h => h) (Or.inl ⟨by kernel_rfl, ?_⟩) hHeld ?_
 rotate_left
 · intro w1 hSw; (try dsimp only at hSw); go_simp <;> with_reducible rfl
 try simp only [Act.put, List.setIfInBounds_toArray, List.set_cons_zero, List.set_cons_succ]
 refine wpAnyH_take (i := 9) (oi := ⟨some 65, _, _, _, _, _⟩) (v := .agg #[.int .i64 qs, .int .i64 qp, .slice CA ys.length cc, .slice CB ks.length cd]) rfl (by kernel_rfl) (by kernel_rfl) (by kernel_rfl) (fun _ _ _ h => h) (Or.inl ⟨by kernel_rfl, fun V hV => ex_row2 33 _ rfl g rfl 33 [.int .i64 qs, .int .i64 qp, .slice CA ys.length cc, .slice CB ks.length cd] _ Tryz.underlying33 rfl (by kernel_rfl) (HRG.out.old hV)⟩) hHeld ?_
 try simp only [Act.put, List.setIfInBounds_toArray, List.set_cons_zero, List.set_cons_succ]
 refine wpAnyH_take (i := 11) (oi := ⟨some 67, _, _, _, _, _⟩) (v := .agg #[.int .i64 qs, .int .i64 qp, .slice DA ys.length dc, .slice DB ks.length dd]) rfl (by kernel_rfl) (by kernel_rfl) (by kernel_rfl) (fun _ _ _ h => h) (Or.inl ⟨by kernel_rfl, fun V hV => ex_row2 25 _ rfl h rfl 25 [.int .i64 qs, .int .i64 qp, .slice DA ys.length dc, .slice DB ks.length dd] _ Tryz.underlying25 rfl (by kernel_rfl) (HRH.out.old hV)⟩) hHeld ?_
 try simp only [Act.put, List.setIfInBounds_toArray, List.set_cons_zero, List.set_cons_succ]
 refine wpAnyH_ready (rs := [10]) (by kernel_rfl) (by simp) ?_
 refine AllReadyH.cons rfl (fun K hK => ?_) AllReadyH.nil
 go_simp
 go_at_call 16
 refine (HTO.out _ _ _ _ _ (HRA.out.below hHeld) (HRB.out.below hHeld) HCZ.out).mono ?_
 rintro e v10 ⟨TA, tc, TB, td, rfl, hta, htb, hb10⟩
 try go_simp
 refine hK.out _ _ ?_ (fun hHeld => ?_)
 · exact hHeld.trans (hb10.mono hHeld.size)
 clear hK K
 try simp only [Act.put, List.setIfInBounds_toArray, List.set_cons_zero, List.set_cons_succ]
 refine wpAnyH_ready (rs := [12]) (by kernel_rfl) (by simp) ?_
 refine AllReadyH.cons rfl (fun K hK => ?_) AllReadyH.nil
 go_simp
 go_at_call 15
 refine (HSM.out _ _ _ _ _ _ _ _ _ hta htb (HDA.out.below hHeld) (HDB.out.below hHeld)).mono ?_
 rintro e v12 ⟨rfl, hb12⟩
 try go_simp
 refine hK.out _ _ ?_ (fun hHeld => ?_)
 · exact hHeld.trans (hb12.mono hHeld.size)
 clear hK K
 try simp only [Act.put, List.setIfInBounds_toArray, List.set_cons_zero, List.set_cons_succ]
 refine wpAnyH_take (i := 13) (oi := ⟨some 69, _, _, _, _, _⟩) (v := ?_) rfl (by kernel_rfl) (by kernel_rfl) (by kernel_rfl) (fun _ _ _ h => h) (Or.inl ⟨by kernel_rfl, ?_⟩) hHeld ?_
 rotate_left
 · intro w1 hSw; (try dsimp only at hSw); go_simp <;> with_reducible rfl
 try simp only [Act.put, List.setIfInBounds_toArray, List.set_cons_zero, List.set_cons_succ]
 refine wpAnyH_take (i := 14) (oi := ⟨some 70, _, _, _, _, _⟩) (v := ?_) rfl (by kernel_rfl) (by kernel_rfl) (by kernel_rfl) (fun _ _ _ h => h) (Or.inl ⟨by kernel_rfl, ?_⟩) hHeld ?_
 rotate_left
 · intro w1 hSw; (try dsimp only at hSw); go_simp <;> with_reducible rfl
 try simp only [Act.put, List.setIfInBounds_toArray, List.set_cons_zero, List.set_cons_succ]
 refine wpAnyH_take (i := 15) (oi := ⟨some 71, _, _, _, _, _⟩) (v := ?_) rfl (by kernel_rfl) (by kernel_rfl) (by kernel_rfl) (fun _ _ _ h => h) (Or.inl ⟨by kernel_rfl, ?_⟩) hHeld ?_
 rotate_left
 · intro w1 hSw; (try dsimp only at hSw); go_simp <;> with_reducible rfl
 try simp only [Act.put, List.setIfInBounds_toArray, List.set_cons_zero, List.set_cons_succ]
 refine wpAnyH_take (i := 16) (oi := ⟨some 72, _, _, _, _, _⟩) (v := ?_) rfl (by kernel_rfl) (by kernel_rfl) (by kernel_rfl) (fun _ _ _ h => h) (Or.inl ⟨by kernel_rfl, ?_⟩) hHeld ?_
 rotate_left
 · intro w1 hSw; (try dsimp only at hSw); go_simp <;> with_reducible rfl
 try simp only [Act.put, List.setIfInBounds_toArray, List.set_cons_zero, List.set_cons_succ]
 refine wpAnyH_take (i := 17) (oi := ⟨some 73, _, _, _, _, _⟩) (v := ?_) rfl (by kernel_rfl) (by kernel_rfl) (by kernel_rfl) (fun _ _ _ h => h) (Or.inl ⟨by kernel_rfl, ?_⟩) hHeld ?_
 rotate_left
 · intro w1 hSw; (try dsimp only at hSw); go_simp <;> with_reducible rfl
 try simp only [Act.put, List.setIfInBounds_toArray, List.set_cons_zero, List.set_cons_succ]
 refine wpAnyH_take (i := 18) (oi := ⟨some 74, _, _, _, _, _⟩) (v := ?_) rfl (by kernel_rfl) (by kernel_rfl) (by kernel_rfl) (fun _ _ _ h => h) (Or.inl ⟨by kernel_rfl, ?_⟩) hHeld ?_
 rotate_left
 · intro w1 hSw; (try dsimp only at hSw); go_simp <;> with_reducible rfl
 try simp only [Act.put, List.setIfInBounds_toArray, List.set_cons_zero, List.set_cons_succ]
 refine wpAnyH_take (i := 19) (oi := ⟨some 75, _, _, _, _, _⟩) (v := ?_) rfl (by kernel_rfl) (by kernel_rfl) (by kernel_rfl) (fun _ _ _ h => h) (Or.inl ⟨by kernel_rfl, ?_⟩) hHeld ?_
 rotate_left
 · intro w1 hSw; (try dsimp only at hSw); go_simp <;> with_reducible rfl
 try simp only [Act.put, List.setIfInBounds_toArray, List.set_cons_zero, List.set_cons_succ]
 refine wpAnyH_take (i := 20) (oi := ⟨some 76, _, _, _, _, _⟩) (v := ?_) rfl (by kernel_rfl) (by kernel_rfl) (by kernel_rfl) (fun _ _ _ h => h) (Or.inl ⟨by kernel_rfl, ?_⟩) hHeld ?_
 rotate_left
 · intro w1 hSw; (try dsimp only at hSw); go_simp <;> with_reducible rfl
 try simp only [Act.put, List.setIfInBounds_toArray, List.set_cons_zero, List.set_cons_succ]
 refine wpAnyH_take (i := 21) (oi := ⟨some 77, _, _, _, _, _⟩) (v := ?_) rfl (by kernel_rfl) (by kernel_rfl) (by kernel_rfl) (fun _ _ _ h => h) (Or.inl ⟨by kernel_rfl, ?_⟩) hHeld ?_
 rotate_left
 · intro w1 hSw; (try dsimp only at hSw); go_simp <;> with_reducible rfl
 try simp only [Act.put, List.setIfInBounds_toArray, List.set_cons_zero, List.set_cons_succ]
 refine wpAnyH_take (i := 22) (oi := ⟨some 78, _, _, _, _, _⟩) (v := ?_) rfl (by kernel_rfl) (by kernel_rfl) (by kernel_rfl) (fun _ _ _ h => h) (Or.inl ⟨by kernel_rfl, ?_⟩) hHeld ?_
 rotate_left
 · intro w1 hSw; (try dsimp only at hSw); go_simp <;> with_reducible rfl
 try simp only [Act.put, List.setIfInBounds_toArray, List.set_cons_zero, List.set_cons_succ]
 refine wpAnyH_take (i := 23) (oi := ⟨some 79, _, _, _, _, _⟩) (v := ?_) rfl (by kernel_rfl) (by kernel_rfl) (by kernel_rfl) (fun _ _ _ h => h) (Or.inl ⟨by kernel_rfl, ?_⟩) hHeld ?_
 rotate_left
 · intro w1 hSw; (try dsimp only at hSw); go_simp <;> with_reducible rfl
 try simp only [Act.put, List.setIfInBounds_toArray, List.set_cons_zero, List.set_cons_succ]
 refine wpAnyH_take (i := 24) (oi := ⟨some 80, _, _, _, _, _⟩) (v := ?_) rfl (by kernel_rfl) (by kernel_rfl) (by kernel_rfl) (fun _ _ _ h => h) (Or.inl ⟨by kernel_rfl, ?_⟩) hHeld ?_
 rotate_left
 · intro w1 hSw; (try dsimp only at hSw); go_simp <;> with_reducible rfl
 try simp only [Act.put, List.setIfInBounds_toArray, List.set_cons_zero, List.set_cons_succ]
 refine wpAnyH_ready (rs := [25]) (by kernel_rfl) (by simp) ?_
 refine AllReadyH.cons rfl (fun K hK => ?_) AllReadyH.nil
 go_simp
 go_at_call 8
 refine (haw _ (HS.out.keep hHeld).2.2.2.1).mono ?_
 rintro e v25 ⟨rfl, hb25⟩
 try go_simp
 refine hK.out _ _ ?_ (fun hHeld => ?_)
 · exact hHeld.trans (hb25.mono hHeld.size)
 clear hK K
 try simp only [Act.put, List.setIfInBounds_toArray, List.set_cons_zero, List.set_cons_succ]
 refine wpAnyH_take (i := 26) (oi := ⟨some 82, _, _, _, _, _⟩) (v := ?_) rfl (by kernel_rfl) (by kernel_rfl) (by kernel_rfl) (fun _ _ _ h => h) (Or.inl ⟨by kernel_rfl, ?_⟩) hHeld ?_
 rotate_left
 · intro w1 hSw; (try dsimp only at hSw); go_simp <;> with_reducible rfl
 try simp only [Act.put, List.setIfInBounds_toArray, List.set_cons_zero, List.set_cons_succ]
 refine wpAnyH_take (i := 27) (oi := ⟨some 4, _, _, _, _, _⟩) (v := ?_) rfl (by kernel_rfl) (by kernel_rfl) (by kernel_rfl) (fun _ _ _ h => h) (Or.inl ⟨by kernel_rfl, ?_⟩) hHeld ?_
 rotate_left
 · intro w1 hSw; (try dsimp only at hSw); go_simp <;> with_reducible rfl
 try simp only [Act.put, List.setIfInBounds_toArray, List.set_cons_zero, List.set_cons_succ]
 refine wpAnyH_done (by kernel_rfl) ?_ _
 go_wp2_with fail
 go_ret
 exact ⟨by simp, (HS.out.keep hHeld).2.2.2.2⟩
theorem recordStrings_ok (haw : AwakeOk) (st sp : Int) (A B : Option Addr) (c d : Nat) (xs : List Nat) (ms : List (Int × ByteArray)) (s : ByteArray) (w : World) (hW : Aw w) (hA : Rd w A (flts xs)) (hB : Rd w B (markC ms)) (hlc : xs.length ≤ c) (hca : A = none → c = 0) (hx : xs.length ≤ 9223372036854775807) (hm : ms.length ≤ 9223372036854775807) : Calls Tryz.prog 3 #[.agg #[.int .i64 st, .int .i64 sp, .slice A xs.length c, .slice B ms.length d], .string s] w fun e w' => e = .returned (.bool true) ∧ Below w.heap.size w w' := by
 cases h1 : shortRB xs.length ms with
 | false => exact strs_far1 haw st sp A B c d xs ms s w hW hA hB hlc hca hx hm h1
 | true =>
   by_cases h2 : s.size ≤ 300 ∨ s.size = 4097
   · obtain ⟨qs, qp, ys, ks, qi, E2, hsf, hy, hk, hPA, hPB⟩ := parse_both s (by omega)
     by_cases hE : recI st sp xs ms = 0
     · have hgr := goodR_of hE
       obtain ⟨hl6, hm6⟩ : xs.length ≤ 40 ∧ ms.length ≤ 6 := by
        have h3 := hgr.many; have h4 := hgr.marks
        unfold shortRB shortB at h1
        simp only [Bool.and_eq_true, Bool.or_eq_true, decide_eq_true_eq] at h1
        omega
       have hpl := (print_len hgr hl6 hm6).1
       refine strs_walk haw st sp A B c d xs ms s w hW hA hB hlc hca hx hm h1 h2 0 (lb (printL st sp xs ms)) hE ?_ ?_ (fun h => absurd rfl h) qs qp ys ks qi E2 hsf hy hk hPA hPB
       · intro W GA gc GB gd hT h3 h4
         have k := print_ok st sp GA GB xs.length gc ms.length gd xs ms W hT h3 h4 rfl rfl hE
         unfold printRes at k
         rw [if_pos (by omega)] at k
         exact k
       · intro _ W h3 h4
         exact printR_ok st sp A B c d xs ms W h3 h4 hE hl6 hm6
     · refine strs_walk haw st sp A B c d xs ms s w hW hA hB hlc hca hx hm h1 h2 (recI st sp xs ms) ⟨#[]⟩ rfl ?_ (fun h => absurd h hE) (fun _ => rfl) qs qp ys ks qi E2 hsf hy hk hPA hPB
       intro W GA gc GB gd hT h3 h4
       exact print_bad st sp GA GB gc gd xs ms _ W h3 h4 (by have := (strs_len h1).1; omega) rfl hE
   · exact strs_far2 haw st sp A B c d xs ms s w hW hA hB hlc hca hx hm h1 (by omega) (by omega)
end Go.Proofs.YtjdniebjhilooaaGreatDoor
