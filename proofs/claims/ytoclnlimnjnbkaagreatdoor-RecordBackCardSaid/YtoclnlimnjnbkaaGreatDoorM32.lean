import Derived.Test.YtoclnlimnjnbkaaGreatDoorM23
import Derived.Test.YtoclnlimnjnbkaaGreatDoorM31
namespace Go.Proofs.YtoclnlimnjnbkaaGreatDoor
set_option linter.all false
open Go.RowKit Go.Fl
def BaS (w : World) (A B : Option Addr) (xs : List Nat) (ms : List (Int × ByteArray)) (L0 : List Value) (W : World) : Prop := Row W w.heap.size 25 L0 ∧ Rd W A (flts xs) ∧ Rd W B (markC ms) ∧ Aw W ∧ Below w.heap.size w W
theorem BaS.keep {w W W' : World} {A B : Option Addr} {xs : List Nat} {ms : List (Int × ByteArray)} {L0 : List Value} (h : BaS w A B xs ms L0 W) (hb : Below W.heap.size W W') : BaS w A B xs ms L0 W' :=
  ⟨h.1.old hb, h.2.1.below hb, h.2.2.1.below hb, h.2.2.2.1.old hb, h.2.2.2.2.trans (hb.mono h.2.2.2.2.size)⟩
theorem BaS.new {w : World} {A B : Option Addr} {xs : List Nat} {ms : List (Int × ByteArray)} {L0 : List Value} (hA : Rd w A (flts xs)) (hB : Rd w B (markC ms)) (hW : Aw w) : BaS w A B xs ms L0 (w.alloc (.cells L0.toArray 25)) := by
  have hb : Below w.heap.size w (w.alloc (.cells L0.toArray 25)) := (Below.refl _ _).alloc (Nat.le_refl _) _
  exact ⟨Row.new w 25 L0, hA.below hb, hB.below hb, hW.old hb, hb⟩
theorem parse_out (s : ByteArray) (hs : s.size ≤ 300) :
    (∃ i E2 : Int, E2 ≠ 0 ∧ ∀ W, Mx W → Calls Tryz.prog 11 #[.string s] W fun e w' => e = .returned (.tuple #[.agg #[.int .i64 0, .int .i64 0, .slice none 0 0, .slice none 0 0], .int .i64 i, .int .i64 E2]) ∧ Below W.heap.size W w') ∨
    (∃ (st sp : Int) (ys : List Nat) (ms : List (Int × ByteArray)), recI st sp ys ms = 0 ∧ lb (printL st sp ys ms) = s ∧ ∀ W, Mx W → Calls Tryz.prog 11 #[.string s] W fun e w' => ∃ CA cc CB cd, e = .returned (.tuple #[.agg #[.int .i64 st, .int .i64 sp, .slice CA ys.length cc, .slice CB ms.length cd], .int .i64 0, .int .i64 0]) ∧ Rd w' CA (flts ys) ∧ Rd w' CB (markC ms) ∧ Below W.heap.size W w') := by
  obtain ⟨k, ok, S, hg⟩ : ∃ k ok S, linesGo 0 zeroS (linesL s) = (k, ok, S) := ⟨_, _, _, rfl⟩
  cases ok with
  | false => exact .inl ⟨k, 25, by decide, fun W hM => parse_bad s W k S hM (by omega) hg⟩
  | true =>
    cases k with
    | zero => exact .inl ⟨0, 25, by decide, fun W hM => parse_empty s W S hM (by omega) hg⟩
    | succ n =>
      obtain ⟨st, sp, ys, ms⟩ := S
      by_cases h0 : recI st sp ys ms = 0
      · refine .inr ⟨st, sp, ys, ms, h0, parsed_printed hg h0, fun W hM => (parse_good s W st sp ys ms n hM (by omega) hg h0).mono fun e w' ⟨CA, cc, CB, cd, h1, h2, h3, _, h5⟩ => ⟨CA, cc, CB, cd, h1, h2, h3, h5⟩⟩
      · have hl : ys.length ≤ 1000000000 := by
          have h1 := go_len (linesL s) 0 zeroS
          rw [hg] at h1
          have h2 := linesL_le s
          have h3 : zeroS.2.2.1.length = 0 := rfl
          dsimp only at h1
          omega
        exact .inl ⟨_, _, h0, fun W hM => parse_err s W n st sp ys ms hl h0 hM (by omega) hg⟩
set_option maxRecDepth 100000 in
set_option maxHeartbeats 1000000 in
theorem back_far1 (haw : AwakeOk) (st sp : Int) (A B : Option Addr) (c d : Nat) (xs : List Nat) (ms : List (Int × ByteArray)) (s : ByteArray) (w : World) (hW : Aw w) (hA : Rd w A (flts xs)) (hB : Rd w B (markC ms)) (hlc : xs.length ≤ c) (hca : A = none → c = 0) (hx : xs.length ≤ 9223372036854775807) (hm : ms.length ≤ 9223372036854775807) (h1 : shortRB xs.length ms = false) : Calls Tryz.prog 6 #[.agg #[.int .i64 st, .int .i64 sp, .slice A xs.length c, .slice B ms.length d], .string s] w fun e w' => e = .returned (.bool true) ∧ Below w.heap.size w w' := by
  obtain ⟨bsh, hbsh⟩ : ∃ bsh, shortRB xs.length ms = bsh := ⟨_, rfl⟩
  obtain ⟨E, hE⟩ : ∃ E, recI st sp xs ms = E := ⟨_, rfl⟩
  have HS0 := Lib.hid (BaS.new (L0 := [.int .i64 st, .int .i64 sp, .slice A xs.length c, .slice B ms.length d]) hA hB hW)
  have HSH : Hid (∀ W, Rd W B (markC ms) → Calls Tryz.prog 7 #[.agg #[.int .i64 st, .int .i64 sp, .slice A xs.length c, .slice B ms.length d]] W fun e w' => e = .returned (.bool bsh) ∧ Below W.heap.size W w') := fun W h => by
    have k := shortRecording_any st sp A B xs.length c ms.length d ms W h rfl hx hm
    rw [hbsh] at k; exact k
  have HCK : Hid (∀ W, Rd W A (flts xs) → Rd W B (markC ms) → Calls Tryz.prog 12 #[.agg #[.int .i64 st, .int .i64 sp, .slice A xs.length c, .slice B ms.length d]] W fun e w' => e = .returned (.int .i64 E) ∧ Below W.heap.size W w') := fun W h1 h2 => by
    have k := checkRecordingR_any st sp A B xs.length c ms.length d xs ms W h1 h2 rfl rfl hlc hx hm
    rw [hE] at k; exact k
  have e1 : bsh = false := hbsh.symm.trans h1
  subst e1
  clear hW hA hB h1 hbsh hE
  go_enter Tryz.func6, Tryz.ntmps6
  go_upto_region 1 with fail
  refine genR (BaS w A B xs ms [.int .i64 st, .int .i64 sp, .slice A xs.length c, .slice B ms.length d]) HS0.out ?_
  clear HS0
  intro W1 s1
  have HS1 := Lib.hid s1
  clear s1
  have c0 := HS1.out.1.cell 0; have c1 := HS1.out.1.cell 1; have c2 := HS1.out.1.cell 2; have c3 := HS1.out.1.cell 3; simp only [List.getElem?_cons_succ, List.getElem?_cons_zero] at c0 c1 c2 c3
  go_wp2_with (first | (go_at_call 8; refine (haw _ HS2.out.2.2.2.1).mono ?_; rintro e w5 ⟨rfl, hb5⟩; have HS4 := Lib.hid (HS2.out.keep hb5); clear hb5) | (first | (refine wpList_load_row rfl 25 _ rfl w.heap.size rfl 25 #[.int .i64 st, .int .i64 sp, .slice A xs.length c, .slice B ms.length d] (0, 0) _ HS2.out.1 Tryz.underlying25 rfl ?_ ?_; (kernel_rfl)) | (refine wpList_load_row rfl 25 _ rfl w.heap.size rfl 25 #[.int .i64 st, .int .i64 sp, .slice A xs.length c, .slice B ms.length d] (0, 0) _ HS1.out.1 Tryz.underlying25 rfl ?_ ?_; (kernel_rfl)) | (go_at_call 7; refine (HSH.out _ HS1.out.2.2.1).mono ?_; rintro e w1 ⟨rfl, hb1⟩; have HS2 := Lib.hid (HS1.out.keep hb1); clear hb1 c0 c1 c2 c3; have c0 := HS2.out.1.cell 0; have c1 := HS2.out.1.cell 1; have c2 := HS2.out.1.cell 2; have c3 := HS2.out.1.cell 3; simp only [List.getElem?_cons_succ, List.getElem?_cons_zero] at c0 c1 c2 c3) | (go_at_call 12; refine (HCK.out _ HS2.out.2.1 HS2.out.2.2.1).mono ?_; rintro e w2 ⟨rfl, hb2⟩; have HS3 := Lib.hid (HS2.out.keep hb2); clear hb2)))
  go_ret
  exact ⟨rfl, HS4.out.2.2.2.2⟩
set_option maxRecDepth 100000 in
set_option maxHeartbeats 1000000 in
theorem back_far2 (haw : AwakeOk) (st sp : Int) (A B : Option Addr) (c d : Nat) (xs : List Nat) (ms : List (Int × ByteArray)) (s : ByteArray) (w : World) (hW : Aw w) (hA : Rd w A (flts xs)) (hB : Rd w B (markC ms)) (hlc : xs.length ≤ c) (hca : A = none → c = 0) (hx : xs.length ≤ 9223372036854775807) (hm : ms.length ≤ 9223372036854775807) (h1 : shortRB xs.length ms = true) (h2 : 40 < xs.length) : Calls Tryz.prog 6 #[.agg #[.int .i64 st, .int .i64 sp, .slice A xs.length c, .slice B ms.length d], .string s] w fun e w' => e = .returned (.bool true) ∧ Below w.heap.size w w' := by
  obtain ⟨bsh, hbsh⟩ : ∃ bsh, shortRB xs.length ms = bsh := ⟨_, rfl⟩
  obtain ⟨E, hE⟩ : ∃ E, recI st sp xs ms = E := ⟨_, rfl⟩
  have HS0 := Lib.hid (BaS.new (L0 := [.int .i64 st, .int .i64 sp, .slice A xs.length c, .slice B ms.length d]) hA hB hW)
  have HSH : Hid (∀ W, Rd W B (markC ms) → Calls Tryz.prog 7 #[.agg #[.int .i64 st, .int .i64 sp, .slice A xs.length c, .slice B ms.length d]] W fun e w' => e = .returned (.bool bsh) ∧ Below W.heap.size W w') := fun W h => by
    have k := shortRecording_any st sp A B xs.length c ms.length d ms W h rfl hx hm
    rw [hbsh] at k; exact k
  have HCK : Hid (∀ W, Rd W A (flts xs) → Rd W B (markC ms) → Calls Tryz.prog 12 #[.agg #[.int .i64 st, .int .i64 sp, .slice A xs.length c, .slice B ms.length d]] W fun e w' => e = .returned (.int .i64 E) ∧ Below W.heap.size W w') := fun W h1 h2 => by
    have k := checkRecordingR_any st sp A B xs.length c ms.length d xs ms W h1 h2 rfl rfl hlc hx hm
    rw [hE] at k; exact k
  have e1 : bsh = true := hbsh.symm.trans h1
  subst e1
  have g2 : decide ((40 : Int) < (xs.length : Int)) = true := decide_eq_true (by omega)
  clear hW hA hB h1 h2 hbsh hE
  go_enter Tryz.func6, Tryz.ntmps6
  go_upto_region 1 with fail
  refine genR (BaS w A B xs ms [.int .i64 st, .int .i64 sp, .slice A xs.length c, .slice B ms.length d]) HS0.out ?_
  clear HS0
  intro W1 s1
  have HS1 := Lib.hid s1
  clear s1
  have c0 := HS1.out.1.cell 0; have c1 := HS1.out.1.cell 1; have c2 := HS1.out.1.cell 2; have c3 := HS1.out.1.cell 3; simp only [List.getElem?_cons_succ, List.getElem?_cons_zero] at c0 c1 c2 c3
  go_wp2_with (first | (go_at_call 8; refine (haw _ HS2.out.2.2.2.1).mono ?_; rintro e w5 ⟨rfl, hb5⟩; have HS4 := Lib.hid (HS2.out.keep hb5); clear hb5) | (first | (refine wpList_load_row rfl 25 _ rfl w.heap.size rfl 25 #[.int .i64 st, .int .i64 sp, .slice A xs.length c, .slice B ms.length d] (0, 0) _ HS2.out.1 Tryz.underlying25 rfl ?_ ?_; (kernel_rfl)) | (refine wpList_load_row rfl 25 _ rfl w.heap.size rfl 25 #[.int .i64 st, .int .i64 sp, .slice A xs.length c, .slice B ms.length d] (0, 0) _ HS1.out.1 Tryz.underlying25 rfl ?_ ?_; (kernel_rfl)) | (go_at_call 7; refine (HSH.out _ HS1.out.2.2.1).mono ?_; rintro e w1 ⟨rfl, hb1⟩; have HS2 := Lib.hid (HS1.out.keep hb1); clear hb1 c0 c1 c2 c3; have c0 := HS2.out.1.cell 0; have c1 := HS2.out.1.cell 1; have c2 := HS2.out.1.cell 2; have c3 := HS2.out.1.cell 3; simp only [List.getElem?_cons_succ, List.getElem?_cons_zero] at c0 c1 c2 c3) | (go_at_call 12; refine (HCK.out _ HS2.out.2.1 HS2.out.2.2.1).mono ?_; rintro e w2 ⟨rfl, hb2⟩; have HS3 := Lib.hid (HS2.out.keep hb2); clear hb2)))
  go_ret
  exact ⟨rfl, HS4.out.2.2.2.2⟩
set_option maxRecDepth 100000 in
set_option maxHeartbeats 1000000 in
theorem back_far3 (haw : AwakeOk) (st sp : Int) (A B : Option Addr) (c d : Nat) (xs : List Nat) (ms : List (Int × ByteArray)) (s : ByteArray) (w : World) (hW : Aw w) (hA : Rd w A (flts xs)) (hB : Rd w B (markC ms)) (hlc : xs.length ≤ c) (hca : A = none → c = 0) (hx : xs.length ≤ 9223372036854775807) (hm : ms.length ≤ 9223372036854775807) (h1 : shortRB xs.length ms = true) (h2 : ¬ 40 < xs.length) (h3 : 6 < ms.length) : Calls Tryz.prog 6 #[.agg #[.int .i64 st, .int .i64 sp, .slice A xs.length c, .slice B ms.length d], .string s] w fun e w' => e = .returned (.bool true) ∧ Below w.heap.size w w' := by
  obtain ⟨bsh, hbsh⟩ : ∃ bsh, shortRB xs.length ms = bsh := ⟨_, rfl⟩
  obtain ⟨E, hE⟩ : ∃ E, recI st sp xs ms = E := ⟨_, rfl⟩
  have HS0 := Lib.hid (BaS.new (L0 := [.int .i64 st, .int .i64 sp, .slice A xs.length c, .slice B ms.length d]) hA hB hW)
  have HSH : Hid (∀ W, Rd W B (markC ms) → Calls Tryz.prog 7 #[.agg #[.int .i64 st, .int .i64 sp, .slice A xs.length c, .slice B ms.length d]] W fun e w' => e = .returned (.bool bsh) ∧ Below W.heap.size W w') := fun W h => by
    have k := shortRecording_any st sp A B xs.length c ms.length d ms W h rfl hx hm
    rw [hbsh] at k; exact k
  have HCK : Hid (∀ W, Rd W A (flts xs) → Rd W B (markC ms) → Calls Tryz.prog 12 #[.agg #[.int .i64 st, .int .i64 sp, .slice A xs.length c, .slice B ms.length d]] W fun e w' => e = .returned (.int .i64 E) ∧ Below W.heap.size W w') := fun W h1 h2 => by
    have k := checkRecordingR_any st sp A B xs.length c ms.length d xs ms W h1 h2 rfl rfl hlc hx hm
    rw [hE] at k; exact k
  have e1 : bsh = true := hbsh.symm.trans h1
  subst e1
  have g2 : decide ((40 : Int) < (xs.length : Int)) = false := decide_eq_false (by omega)
  have g3 : decide ((6 : Int) < (ms.length : Int)) = true := decide_eq_true (by omega)
  clear hW hA hB h1 h2 h3 hbsh hE
  go_enter Tryz.func6, Tryz.ntmps6
  go_upto_region 1 with fail
  refine genR (BaS w A B xs ms [.int .i64 st, .int .i64 sp, .slice A xs.length c, .slice B ms.length d]) HS0.out ?_
  clear HS0
  intro W1 s1
  have HS1 := Lib.hid s1
  clear s1
  have c0 := HS1.out.1.cell 0; have c1 := HS1.out.1.cell 1; have c2 := HS1.out.1.cell 2; have c3 := HS1.out.1.cell 3; simp only [List.getElem?_cons_succ, List.getElem?_cons_zero] at c0 c1 c2 c3
  go_wp2_with (first | (go_at_call 8; refine (haw _ HS2.out.2.2.2.1).mono ?_; rintro e w5 ⟨rfl, hb5⟩; have HS4 := Lib.hid (HS2.out.keep hb5); clear hb5) | (first | (refine wpList_load_row rfl 25 _ rfl w.heap.size rfl 25 #[.int .i64 st, .int .i64 sp, .slice A xs.length c, .slice B ms.length d] (0, 0) _ HS2.out.1 Tryz.underlying25 rfl ?_ ?_; (kernel_rfl)) | (refine wpList_load_row rfl 25 _ rfl w.heap.size rfl 25 #[.int .i64 st, .int .i64 sp, .slice A xs.length c, .slice B ms.length d] (0, 0) _ HS1.out.1 Tryz.underlying25 rfl ?_ ?_; (kernel_rfl)) | (go_at_call 7; refine (HSH.out _ HS1.out.2.2.1).mono ?_; rintro e w1 ⟨rfl, hb1⟩; have HS2 := Lib.hid (HS1.out.keep hb1); clear hb1 c0 c1 c2 c3; have c0 := HS2.out.1.cell 0; have c1 := HS2.out.1.cell 1; have c2 := HS2.out.1.cell 2; have c3 := HS2.out.1.cell 3; simp only [List.getElem?_cons_succ, List.getElem?_cons_zero] at c0 c1 c2 c3) | (go_at_call 12; refine (HCK.out _ HS2.out.2.1 HS2.out.2.2.1).mono ?_; rintro e w2 ⟨rfl, hb2⟩; have HS3 := Lib.hid (HS2.out.keep hb2); clear hb2)))
  go_ret
  exact ⟨rfl, HS4.out.2.2.2.2⟩
set_option maxRecDepth 100000 in
set_option maxHeartbeats 1000000 in
theorem back_far4 (haw : AwakeOk) (st sp : Int) (A B : Option Addr) (c d : Nat) (xs : List Nat) (ms : List (Int × ByteArray)) (s : ByteArray) (w : World) (hW : Aw w) (hA : Rd w A (flts xs)) (hB : Rd w B (markC ms)) (hlc : xs.length ≤ c) (hca : A = none → c = 0) (hx : xs.length ≤ 9223372036854775807) (hm : ms.length ≤ 9223372036854775807) (h1 : shortRB xs.length ms = true) (h2 : ¬ 40 < xs.length) (h3 : ¬ 6 < ms.length) (h4 : recI st sp xs ms ≠ 0) : Calls Tryz.prog 6 #[.agg #[.int .i64 st, .int .i64 sp, .slice A xs.length c, .slice B ms.length d], .string s] w fun e w' => e = .returned (.bool true) ∧ Below w.heap.size w w' := by
  obtain ⟨bsh, hbsh⟩ : ∃ bsh, shortRB xs.length ms = bsh := ⟨_, rfl⟩
  obtain ⟨E, hE⟩ : ∃ E, recI st sp xs ms = E := ⟨_, rfl⟩
  have HS0 := Lib.hid (BaS.new (L0 := [.int .i64 st, .int .i64 sp, .slice A xs.length c, .slice B ms.length d]) hA hB hW)
  have HSH : Hid (∀ W, Rd W B (markC ms) → Calls Tryz.prog 7 #[.agg #[.int .i64 st, .int .i64 sp, .slice A xs.length c, .slice B ms.length d]] W fun e w' => e = .returned (.bool bsh) ∧ Below W.heap.size W w') := fun W h => by
    have k := shortRecording_any st sp A B xs.length c ms.length d ms W h rfl hx hm
    rw [hbsh] at k; exact k
  have HCK : Hid (∀ W, Rd W A (flts xs) → Rd W B (markC ms) → Calls Tryz.prog 12 #[.agg #[.int .i64 st, .int .i64 sp, .slice A xs.length c, .slice B ms.length d]] W fun e w' => e = .returned (.int .i64 E) ∧ Below W.heap.size W w') := fun W h1 h2 => by
    have k := checkRecordingR_any st sp A B xs.length c ms.length d xs ms W h1 h2 rfl rfl hlc hx hm
    rw [hE] at k; exact k
  have e1 : bsh = true := hbsh.symm.trans h1
  subst e1
  have g2 : decide ((40 : Int) < (xs.length : Int)) = false := decide_eq_false (by omega)
  have g3 : decide ((6 : Int) < (ms.length : Int)) = false := decide_eq_false (by omega)
  have g4 : (E != 0) = true := by rw [bne_iff_ne, ← hE]; exact h4
  clear hW hA hB h1 h2 h3 h4 hbsh hE
  go_enter Tryz.func6, Tryz.ntmps6
  go_upto_region 1 with fail
  refine genR (BaS w A B xs ms [.int .i64 st, .int .i64 sp, .slice A xs.length c, .slice B ms.length d]) HS0.out ?_
  clear HS0
  intro W1 s1
  have HS1 := Lib.hid s1
  clear s1
  have c0 := HS1.out.1.cell 0; have c1 := HS1.out.1.cell 1; have c2 := HS1.out.1.cell 2; have c3 := HS1.out.1.cell 3; simp only [List.getElem?_cons_succ, List.getElem?_cons_zero] at c0 c1 c2 c3
  go_wp2_with (first | (go_at_call 8; refine (haw _ HS3.out.2.2.2.1).mono ?_; rintro e w5 ⟨rfl, hb5⟩; have HS4 := Lib.hid (HS3.out.keep hb5); clear hb5) | (first | (refine wpList_load_row rfl 25 _ rfl w.heap.size rfl 25 #[.int .i64 st, .int .i64 sp, .slice A xs.length c, .slice B ms.length d] (0, 0) _ HS2.out.1 Tryz.underlying25 rfl ?_ ?_; (kernel_rfl)) | (refine wpList_load_row rfl 25 _ rfl w.heap.size rfl 25 #[.int .i64 st, .int .i64 sp, .slice A xs.length c, .slice B ms.length d] (0, 0) _ HS1.out.1 Tryz.underlying25 rfl ?_ ?_; (kernel_rfl)) | (go_at_call 7; refine (HSH.out _ HS1.out.2.2.1).mono ?_; rintro e w1 ⟨rfl, hb1⟩; have HS2 := Lib.hid (HS1.out.keep hb1); clear hb1 c0 c1 c2 c3; have c0 := HS2.out.1.cell 0; have c1 := HS2.out.1.cell 1; have c2 := HS2.out.1.cell 2; have c3 := HS2.out.1.cell 3; simp only [List.getElem?_cons_succ, List.getElem?_cons_zero] at c0 c1 c2 c3) | (go_at_call 12; refine (HCK.out _ HS2.out.2.1 HS2.out.2.2.1).mono ?_; rintro e w2 ⟨rfl, hb2⟩; have HS3 := Lib.hid (HS2.out.keep hb2); clear hb2)))
  go_ret
  exact ⟨rfl, HS4.out.2.2.2.2⟩
set_option maxRecDepth 100000 in
set_option maxHeartbeats 1000000 in
theorem back_far5 (haw : AwakeOk) (st sp : Int) (A B : Option Addr) (c d : Nat) (xs : List Nat) (ms : List (Int × ByteArray)) (s : ByteArray) (w : World) (hW : Aw w) (hA : Rd w A (flts xs)) (hB : Rd w B (markC ms)) (hlc : xs.length ≤ c) (hca : A = none → c = 0) (hx : xs.length ≤ 9223372036854775807) (hm : ms.length ≤ 9223372036854775807) (h1 : shortRB xs.length ms = true) (h2 : ¬ 40 < xs.length) (h3 : ¬ 6 < ms.length) (h4 : recI st sp xs ms = 0) (h5 : 300 < s.size) : Calls Tryz.prog 6 #[.agg #[.int .i64 st, .int .i64 sp, .slice A xs.length c, .slice B ms.length d], .string s] w fun e w' => e = .returned (.bool true) ∧ Below w.heap.size w w' := by
  obtain ⟨bsh, hbsh⟩ : ∃ bsh, shortRB xs.length ms = bsh := ⟨_, rfl⟩
  obtain ⟨E, hE⟩ : ∃ E, recI st sp xs ms = E := ⟨_, rfl⟩
  have HS0 := Lib.hid (BaS.new (L0 := [.int .i64 st, .int .i64 sp, .slice A xs.length c, .slice B ms.length d]) hA hB hW)
  have HSH : Hid (∀ W, Rd W B (markC ms) → Calls Tryz.prog 7 #[.agg #[.int .i64 st, .int .i64 sp, .slice A xs.length c, .slice B ms.length d]] W fun e w' => e = .returned (.bool bsh) ∧ Below W.heap.size W w') := fun W h => by
    have k := shortRecording_any st sp A B xs.length c ms.length d ms W h rfl hx hm
    rw [hbsh] at k; exact k
  have HCK : Hid (∀ W, Rd W A (flts xs) → Rd W B (markC ms) → Calls Tryz.prog 12 #[.agg #[.int .i64 st, .int .i64 sp, .slice A xs.length c, .slice B ms.length d]] W fun e w' => e = .returned (.int .i64 E) ∧ Below W.heap.size W w') := fun W h1 h2 => by
    have k := checkRecordingR_any st sp A B xs.length c ms.length d xs ms W h1 h2 rfl rfl hlc hx hm
    rw [hE] at k; exact k
  have e1 : bsh = true := hbsh.symm.trans h1
  subst e1
  have g2 : decide ((40 : Int) < (xs.length : Int)) = false := decide_eq_false (by omega)
  have g3 : decide ((6 : Int) < (ms.length : Int)) = false := decide_eq_false (by omega)
  have e4 : E = 0 := hE.symm.trans h4
  subst e4
  have g5 : decide ((300 : Int) < (s.size : Int)) = true := decide_eq_true (by omega)
  clear hW hA hB h1 h2 h3 h4 h5 hbsh hE
  go_enter Tryz.func6, Tryz.ntmps6
  go_upto_region 1 with fail
  refine genR (BaS w A B xs ms [.int .i64 st, .int .i64 sp, .slice A xs.length c, .slice B ms.length d]) HS0.out ?_
  clear HS0
  intro W1 s1
  have HS1 := Lib.hid s1
  clear s1
  have c0 := HS1.out.1.cell 0; have c1 := HS1.out.1.cell 1; have c2 := HS1.out.1.cell 2; have c3 := HS1.out.1.cell 3; simp only [List.getElem?_cons_succ, List.getElem?_cons_zero] at c0 c1 c2 c3
  go_wp2_with (first | (go_at_call 8; refine (haw _ HS3.out.2.2.2.1).mono ?_; rintro e w5 ⟨rfl, hb5⟩; have HS4 := Lib.hid (HS3.out.keep hb5); clear hb5) | (first | (refine wpList_load_row rfl 25 _ rfl w.heap.size rfl 25 #[.int .i64 st, .int .i64 sp, .slice A xs.length c, .slice B ms.length d] (0, 0) _ HS2.out.1 Tryz.underlying25 rfl ?_ ?_; (kernel_rfl)) | (refine wpList_load_row rfl 25 _ rfl w.heap.size rfl 25 #[.int .i64 st, .int .i64 sp, .slice A xs.length c, .slice B ms.length d] (0, 0) _ HS1.out.1 Tryz.underlying25 rfl ?_ ?_; (kernel_rfl)) | (go_at_call 7; refine (HSH.out _ HS1.out.2.2.1).mono ?_; rintro e w1 ⟨rfl, hb1⟩; have HS2 := Lib.hid (HS1.out.keep hb1); clear hb1 c0 c1 c2 c3; have c0 := HS2.out.1.cell 0; have c1 := HS2.out.1.cell 1; have c2 := HS2.out.1.cell 2; have c3 := HS2.out.1.cell 3; simp only [List.getElem?_cons_succ, List.getElem?_cons_zero] at c0 c1 c2 c3) | (go_at_call 12; refine (HCK.out _ HS2.out.2.1 HS2.out.2.2.1).mono ?_; rintro e w2 ⟨rfl, hb2⟩; have HS3 := Lib.hid (HS2.out.keep hb2); clear hb2)))
  go_ret
  exact ⟨rfl, HS4.out.2.2.2.2⟩
set_option maxRecDepth 100000 in
set_option maxHeartbeats 8000000 in
theorem back_walk (haw : AwakeOk) (st sp : Int) (A B : Option Addr) (c d : Nat) (xs : List Nat) (ms : List (Int × ByteArray)) (s : ByteArray) (w : World) (hW : Aw w) (hA : Rd w A (flts xs)) (hB : Rd w B (markC ms)) (hlc : xs.length ≤ c) (hca : A = none → c = 0) (hx : xs.length ≤ 9223372036854775807) (hm : ms.length ≤ 9223372036854775807) (h1 : shortRB xs.length ms = true) (h2 : ¬ 40 < xs.length) (h3 : ¬ 6 < ms.length) (h4 : recI st sp xs ms = 0) (h5 : ¬ 300 < s.size) : Calls Tryz.prog 6 #[.agg #[.int .i64 st, .int .i64 sp, .slice A xs.length c, .slice B ms.length d], .string s] w fun e w' => e = .returned (.bool true) ∧ Below w.heap.size w w' := by
  obtain ⟨bsh, hbsh⟩ : ∃ bsh, shortRB xs.length ms = bsh := ⟨_, rfl⟩
  obtain ⟨E, hE⟩ : ∃ E, recI st sp xs ms = E := ⟨_, rfl⟩
  have hg := goodR_of h4
  obtain ⟨PL, hPL⟩ : ∃ PL, PL = printL st sp xs ms := ⟨_, rfl⟩
  obtain ⟨pl1, pl2⟩ := print_len hg (by omega) (by omega)
  rw [← hPL] at pl1 pl2
  obtain ⟨ps, hps⟩ : ∃ ps, ps = lb PL := ⟨_, rfl⟩
  have hpsz : ps.size = PL.length := by rw [hps]; exact List.size_toArray
  have hlin : linesGo 0 zeroS (linesL ps) = (ms.length + xs.length + 1, true, (st, sp, againL xs, ms)) := by
    rw [hps, hPL, print_lines hg, go_print hg, show 1 + ms.length + xs.length = ms.length + xs.length + 1 by omega]; rfl
  have hag := again_rec h4
  have hal := again_len xs
  have hsf : sameF (againL xs) xs = true := again_same hg.samp
  obtain ⟨ys, hys⟩ : ∃ ys, ys = againL xs := ⟨_, rfl⟩
  rw [← hys] at hlin hag hal hsf
  have hcnt : (bl ps).count 10 + 1 = xs.length + ms.length + 2 := by
    have k := print_pieces hg
    rw [cut_count, ← hPL] at k
    rw [hps, bl_lb]; exact k
  obtain ⟨pc, hpc⟩ : ∃ pc : ByteArray, pc = lb (PL.take (PL.length - 1)) := ⟨_, rfl⟩
  have hpc2 : ∃ S, linesGo 0 zeroS (linesL pc) = (xs.length + ms.length, false, S) := by rw [hpc, hPL]; exact print_cut hg
  have hex : ps.extract 0 (PL.length - 1) = pc := by
    have e1 : bl (ps.extract 0 (PL.length - 1)) = PL.take (PL.length - 1) := by
      have k := Lib.extract_from_zero ps (PL.length - 1)
      rw [hps] at k ⊢
      exact k
    rw [hpc, ← e1, lb_bl]
  have hpcs : pc.size ≤ 4096 := by
    rw [hpc]
    show (PL.take (PL.length - 1)).toArray.size ≤ 4096
    rw [List.size_toArray, List.length_take]; omega
  have HS0 := Lib.hid (BaS.new (L0 := [.int .i64 st, .int .i64 sp, .slice A xs.length c, .slice B ms.length d]) hA hB hW)
  have HSH : Hid (∀ W, Rd W B (markC ms) → Calls Tryz.prog 7 #[.agg #[.int .i64 st, .int .i64 sp, .slice A xs.length c, .slice B ms.length d]] W fun e w' => e = .returned (.bool bsh) ∧ Below W.heap.size W w') := fun W h => by
    have k := shortRecording_any st sp A B xs.length c ms.length d ms W h rfl hx hm
    rw [hbsh] at k; exact k
  have HCK : Hid (∀ W, Rd W A (flts xs) → Rd W B (markC ms) → Calls Tryz.prog 12 #[.agg #[.int .i64 st, .int .i64 sp, .slice A xs.length c, .slice B ms.length d]] W fun e w' => e = .returned (.int .i64 E) ∧ Below W.heap.size W w') := fun W h1 h2 => by
    have k := checkRecordingR_any st sp A B xs.length c ms.length d xs ms W h1 h2 rfl rfl hlc hx hm
    rw [hE] at k; exact k
  have e1 : bsh = true := hbsh.symm.trans h1
  subst e1
  have g2 : decide ((40 : Int) < (xs.length : Int)) = false := decide_eq_false (by omega)
  have g3 : decide ((6 : Int) < (ms.length : Int)) = false := decide_eq_false (by omega)
  have HE := Lib.hid h4
  have e4 : E = 0 := hE.symm.trans h4
  subst e4
  have g5 : decide ((300 : Int) < (s.size : Int)) = false := decide_eq_false (by omega)
  have HPR : Hid (∀ W CA cc CB cd, It W → Rd W CA (flts xs) → Rd W CB (markC ms) → Calls Tryz.prog 9 #[.agg #[.int .i64 st, .int .i64 sp, .slice CA xs.length cc, .slice CB ms.length cd]] W fun e w' => e = .returned (.tuple #[.string ps, .int .i64 0]) ∧ Below W.heap.size W w') := fun W CA cc CB cd hT h1 h2 => by
    have k := print_ok st sp CA CB xs.length cc ms.length cd xs ms W hT h1 h2 rfl rfl h4
    unfold printRes at k
    rw [← hPL, if_pos (by omega)] at k
    rw [hps]; exact k
  have HPA : Hid (∀ W, Mx W → Calls Tryz.prog 11 #[.string ps] W fun e w' => ∃ CA cc CB cd, e = .returned (.tuple #[.agg #[.int .i64 st, .int .i64 sp, .slice CA xs.length cc, .slice CB ms.length cd], .int .i64 0, .int .i64 0]) ∧ Rd w' CA (flts ys) ∧ Rd w' CB (markC ms) ∧ (CA = none → cc = 0) ∧ Below W.heap.size W w') := fun W hM => by
    have k := parse_good ps W st sp ys ms (ms.length + xs.length) hM (by omega) hlin hag
    rw [hal] at k
    exact k
  have HSP : Hid (∀ W, Calls Tryz.prog 30 #[.string ps, .int .u8 10] W fun e w' => ∃ QA qc, e = .returned (.slice QA (xs.length + ms.length + 2) qc) ∧ Below W.heap.size W w') := fun W => by
    have k := splitR_any ps 10 W (by omega)
    rw [hcnt] at k
    exact k
  have HPC : Hid (∀ W, Mx W → Calls Tryz.prog 11 #[.string pc] W fun e w' => e = .returned (.tuple #[zaggV, .int .i64 ((xs.length + ms.length : Nat) : Int), .int .i64 25]) ∧ Below W.heap.size W w') := fun W hM => by
    obtain ⟨S, hS⟩ := hpc2
    exact parse_bad pc W (xs.length + ms.length) S hM hpcs hS
  have HTO : Hid (∀ W CA cc CB cd, Rd W CA (flts ys) → Rd W CB (markC ms) → (CA = none → cc = 0) → Calls Tryz.prog 16 #[.agg #[.int .i64 st, .int .i64 sp, .slice CA xs.length cc, .slice CB ms.length cd]] W fun e w' => ∃ TA tc TB td, e = .returned (.agg #[.int .i64 st, .int .i64 sp, .slice TA xs.length tc, .slice TB ms.length td]) ∧ Rd w' TA (flts ys) ∧ Rd w' TB (markC ms) ∧ Below W.heap.size W w') := fun W CA cc CB cd h1 h2 h3 => by
    have k := told_ok st sp CA CB cc cd ys ms W h1 h2 (by rw [hal]; omega) (by omega) h3
    rw [hal] at k
    exact k
  have HSM : Hid (∀ W TA tc TB td, Rd W TA (flts ys) → Rd W TB (markC ms) → Rd W A (flts xs) → Rd W B (markC ms) → Calls Tryz.prog 15 #[.agg #[.int .i64 st, .int .i64 sp, .slice TA xs.length tc, .slice TB ms.length td], .agg #[.int .i64 st, .int .i64 sp, .slice A xs.length c, .slice B ms.length d]] W fun e w' => e = .returned (.bool true) ∧ Below W.heap.size W w') := fun W TA tc TB td h1 h2 h3 h4 => by
    have k := sameRecording_true st sp TA TB A B tc td c d ys xs ms W h1 h2 h3 h4 (by rw [hal]; omega) (by omega) hsf
    rw [hal] at k
    exact k
  have HCA := Lib.hid hca
  have HEX := Lib.hid hex
  have hpz : ps.size = PL.length := hpsz
  obtain ⟨pz, hpz2⟩ : ∃ pz, pz = ps.size := ⟨_, rfl⟩
  have hx40 : xs.length ≤ 40 := by omega
  have hm6 : ms.length ≤ 6 := by omega
  have pz1 : 1 ≤ pz := by omega
  have pz2 : pz ≤ 4000 := by omega
  have HEX2 : Hid (ps.extract 0 (pz - 1) = pc) := by rw [hpz2, hpz]; exact hex
  have HPZ := Lib.hid hpz2
  have HS300 : Hid (s.size ≤ 300) := by unfold Hid; omega
  clear hW hA hB hca h1 h2 h3 h4 h5 hbsh hE hg pl1 pl2 hps hpsz hlin hag hal hsf hys hcnt hpc hpc2 hex hpcs hPL hpz hpz2 HEX
  go_enter Tryz.func6, Tryz.ntmps6
  go_upto_region 1 with fail
  refine genR (BaS w A B xs ms [.int .i64 st, .int .i64 sp, .slice A xs.length c, .slice B ms.length d]) HS0.out ?_
  clear HS0
  intro W1 s1
  have HS1 := Lib.hid s1
  clear s1
  have c0 := HS1.out.1.cell 0; have c1 := HS1.out.1.cell 1; have c2 := HS1.out.1.cell 2; have c3 := HS1.out.1.cell 3; simp only [List.getElem?_cons_succ, List.getElem?_cons_zero] at c0 c1 c2 c3
  go_cut [42] from 18 to 43 (fun s42 wx => s42 = .bool false ∧ BaS w A B xs ms [.int .i64 st, .int .i64 sp, .slice A xs.length c, .slice B ms.length d] wx)
  case first =>
    clear HPR HPA HSP HPC HTO HSM
    go_wp2_with (first | (refine wpList_load_row rfl 25 _ rfl w.heap.size rfl 25 #[.int .i64 st, .int .i64 sp, .slice A xs.length c, .slice B ms.length d] (0, 0) _ HS2.out.1 Tryz.underlying25 rfl ?_ ?_; (kernel_rfl)) | (refine wpList_load_row rfl 25 _ rfl w.heap.size rfl 25 #[.int .i64 st, .int .i64 sp, .slice A xs.length c, .slice B ms.length d] (0, 0) _ HS1.out.1 Tryz.underlying25 rfl ?_ ?_; (kernel_rfl)) | (go_at_call 7; refine (HSH.out _ HS1.out.2.2.1).mono ?_; rintro e w1 ⟨rfl, hb1⟩; have HS2 := Lib.hid (HS1.out.keep hb1); clear hb1 c0 c1 c2 c3; have c0 := HS2.out.1.cell 0; have c1 := HS2.out.1.cell 1; have c2 := HS2.out.1.cell 2; have c3 := HS2.out.1.cell 3; simp only [List.getElem?_cons_succ, List.getElem?_cons_zero] at c0 c1 c2 c3) | (go_at_call 12; refine (HCK.out _ HS2.out.2.1 HS2.out.2.2.1).mono ?_; rintro e w2 ⟨rfl, hb2⟩; have HS3 := Lib.hid (HS2.out.keep hb2); clear hb2))
    go_meet
    exact ⟨rfl, HS3.out⟩
  case rest =>
  obtain ⟨rfl, hs⟩ := hcut
  have HS := Lib.hid hs
  clear hs HS1 HSH HCK c0 c1 c2 c3 g2 g3 g5
  obtain ⟨W2, hW2⟩ : ∃ W2 : World, W2 = wc := ⟨_, rfl⟩
  subst hW2
  have HGI : Hid (∀ W, Rd W A (flts xs) → Rd W B (markC ms) → Calls Tryz.prog 10 #[.agg #[.int .i64 st, .int .i64 sp, .slice A xs.length c, .slice B ms.length d]] W fun e w' => ∃ GA gc GB gd, e = .returned (.agg #[.int .i64 st, .int .i64 sp, .slice GA xs.length gc, .slice GB ms.length gd]) ∧ Rd w' GA (flts xs) ∧ Rd w' GB (markC ms) ∧ Below W.heap.size W w') := fun W h1 h2 =>
    (given_ok st sp A B c d xs ms W h1 h2 (by omega) (by omega) HCA.out).mono fun e w' ⟨A', c', B', d', k1, k2, k3, k4, _, _⟩ => ⟨A', c', B', d', k1, k2, k3, k4⟩
  go_upto_region 3 with fail
  go_cut [5, 6] from 44 to 50 (fun s5 s6 wx => s5 = .string ps ∧ s6 = .int .i64 0 ∧ Below W2.heap.size W2 wx)
  case first =>
    clear HPA HSP HPC HTO HSM
    go_wp2_with (first
      | (refine wpList_load_row rfl 25 _ rfl w.heap.size rfl 25 #[.int .i64 st, .int .i64 sp, .slice A xs.length c, .slice B ms.length d] (0, 0) _ HS.out.1 Tryz.underlying25 rfl ?_ ?_; (kernel_rfl))
      | (go_at_call 10; refine (HGI.out _ HS.out.2.1 HS.out.2.2.1).mono ?_; rintro e w1 ⟨GA, gc, GB, gd, rfl, hga, hgb, hb1⟩; have HGA := Lib.hid hga; have HGB := Lib.hid hgb; have HB1 := Lib.hid hb1; clear hga hgb hb1)
      | (go_at_call 9; refine (HPR.out _ _ _ _ _ (HS.out.keep HB1.out).2.2.2.1.it HGA.out HGB.out).mono ?_; rintro e w2 ⟨rfl, hb2⟩; have HB2 := Lib.hid (HB1.out.trans (hb2.mono HB1.out.size)); clear hb2))
    go_meet
    exact ⟨rfl, rfl, HB2.out⟩
  case rest =>
  obtain ⟨rfl, rfl, hb⟩ := hcut
  have HS' := Lib.hid (HS.out.keep hb)
  clear HS hb HGI HPR
  have HS := HS'
  clear HS'
  obtain ⟨W3, hW3⟩ : ∃ W3 : World, W3 = wc := ⟨_, rfl⟩
  subst hW3
  go_upto_region 4 with fail
  go_cut [7, 8, 9] from 50 to 56 (fun s7 s8 s9 wx => ∃ g CA cc CB cd, s7 = .pointer (some ⟨g, 0, none⟩) ∧ s8 = .int .i64 0 ∧ s9 = .int .i64 0 ∧ Row wx g 33 [.int .i64 st, .int .i64 sp, .slice CA xs.length cc, .slice CB ms.length cd] ∧ Rd wx CA (flts ys) ∧ Rd wx CB (markC ms) ∧ (CA = none → cc = 0) ∧ Below W3.heap.size W3 wx)
  case first =>
    clear HSP HPC HTO HSM
    go_wp2_with (first
      | (go_at_call 11; refine (HPA.out _ HS.out.2.2.2.1.mx).mono ?_; rintro e v1 ⟨CA, cc, CB, cd, rfl, hca, hcb, hcz, hb1⟩; have HCAA := Lib.hid hca; have HCBB := Lib.hid hcb; have HCZ := Lib.hid hcz; have HB1 := Lib.hid hb1; clear hca hcb hcz hb1)
      | (refine wpList_store_row rfl 33 _ _ rfl v1.heap.size #[.int .i64 st, .int .i64 sp, .slice CA xs.length cc, .slice CB ms.length cd] rfl rfl 33 _ (Row.new v1 33 zero4) ?_ ?_ ?_ ?_; (kernel_rfl); (rfl); (simp [Value.oneCell'])))
    go_meet
    have hb2 : Below v1.heap.size v1 ((v1.alloc (.cells zero4.toArray 33)).setRow v1.heap.size #[.int .i64 st, .int .i64 sp, .slice CA xs.length cc, .slice CB ms.length cd]) := Below.setRow ((Below.refl _ _).alloc (Nat.le_refl _) _) (Nat.le_refl _) _
    exact ⟨_, CA, cc, CB, cd, rfl, rfl, rfl, (Row.new v1 33 zero4).setRow _, HCAA.out.below hb2, HCBB.out.below hb2, HCZ.out, HB1.out.trans (hb2.mono HB1.out.size)⟩
  case rest =>
  obtain ⟨g, CA, cc, CB, cd, rfl, rfl, rfl, hrg, hra, hrb, hcz, hb⟩ := hcut
  have HS' := Lib.hid (HS.out.keep hb)
  have HRG := Lib.hid hrg; have HRA := Lib.hid hra; have HRB := Lib.hid hrb; have HCZ := Lib.hid hcz
  clear HS hb hrg hra hrb hcz HPA
  have HS := HS'
  clear HS'
  obtain ⟨W4, hW4⟩ : ∃ W4 : World, W4 = wc := ⟨_, rfl⟩
  subst hW4
  have t1 : IntKind.i64.wrap ((xs.length : Int) + (ms.length : Int)) = (xs.length : Int) + (ms.length : Int) := IntWalk.i64_in _ (by omega)
  have t2 : IntKind.i64.wrap ((xs.length : Int) + (ms.length : Int) + 2) = (xs.length : Int) + (ms.length : Int) + 2 := IntWalk.i64_in _ (by omega)
  go_upto_region 5 with fail
  go_cut [86] from 56 to 87 (fun s86 wx => s86 = .bool false ∧ Below W4.heap.size W4 wx)
  case first =>
    clear HPC
    refine wp_region_held_drew (S := fun V => Below W4.heap.size W4 V) (by kernel_rfl) ?_ (fun hHeld => ?_)
    · exact (Below.refl _ _).drew
    refine wpAnyH_take (i := 0) (oi := ⟨some 56, _, _, _, _, _⟩) (v := ?_) rfl (by kernel_rfl) (by kernel_rfl) (by kernel_rfl) (fun _ _ _ h => h) (Or.inl ⟨by kernel_rfl, ?_⟩) hHeld ?_
    rotate_left
    · intro w1 hSw; (try dsimp only at hSw); go_simp <;> with_reducible rfl
    try simp only [Act.put, List.setIfInBounds_toArray, List.set_cons_zero, List.set_cons_succ]
    refine wpAnyH_take (i := 1) (oi := ⟨some 57, _, _, _, _, _⟩) (v := ?_) rfl (by kernel_rfl) (by kernel_rfl) (by kernel_rfl) (fun _ _ _ h => h) (Or.inl ⟨by kernel_rfl, ?_⟩) hHeld ?_
    rotate_left
    · intro w1 hSw; (try dsimp only at hSw); go_simp <;> with_reducible rfl
    try simp only [Act.put, List.setIfInBounds_toArray, List.set_cons_zero, List.set_cons_succ]
    refine wpAnyH_take (i := 2) (oi := ⟨some 58, _, _, _, _, _⟩) (v := ?_) rfl (by kernel_rfl) (by kernel_rfl) (by kernel_rfl) (fun _ _ _ h => h) (Or.inl ⟨by kernel_rfl, ?_⟩) hHeld ?_
    rotate_left
    · intro w1 hSw; (try dsimp only at hSw); go_simp <;> with_reducible rfl
    try simp only [Act.put, List.setIfInBounds_toArray, List.set_cons_zero, List.set_cons_succ]
    refine wpAnyH_take (i := 3) (oi := ⟨some 59, _, _, _, _, _⟩) (v := ?_) rfl (by kernel_rfl) (by kernel_rfl) (by kernel_rfl) (fun _ _ _ h => h) (Or.inl ⟨by kernel_rfl, ?_⟩) hHeld ?_
    rotate_left
    · intro w1 hSw; (try dsimp only at hSw); go_simp <;> with_reducible rfl
    try simp only [Act.put, List.setIfInBounds_toArray, List.set_cons_zero, List.set_cons_succ]
    refine wpAnyH_take (i := 4) (oi := ⟨some 60, _, _, _, _, _⟩) (v := ?_) rfl (by kernel_rfl) (by kernel_rfl) (by kernel_rfl) (fun _ _ _ h => h) (Or.inl ⟨by kernel_rfl, ?_⟩) hHeld ?_
    rotate_left
    · intro w1 hSw; (try dsimp only at hSw); go_simp <;> with_reducible rfl
    try simp only [Act.put, List.setIfInBounds_toArray, List.set_cons_zero, List.set_cons_succ]
    refine wpAnyH_take (i := 5) (oi := ⟨some 61, _, _, _, _, _⟩) (v := ?_) rfl (by kernel_rfl) (by kernel_rfl) (by kernel_rfl) (fun _ _ _ h => h) (Or.inl ⟨by kernel_rfl, ?_⟩) hHeld ?_
    rotate_left
    · intro w1 hSw; (try dsimp only at hSw); go_simp <;> with_reducible rfl
    try simp only [Act.put, List.setIfInBounds_toArray, List.set_cons_zero, List.set_cons_succ]
    refine wpAnyH_take (i := 6) (oi := ⟨some 62, _, _, _, _, _⟩) (v := ?_) rfl (by kernel_rfl) (by kernel_rfl) (by kernel_rfl) (fun _ _ _ h => h) (Or.inl ⟨by kernel_rfl, ?_⟩) hHeld ?_
    rotate_left
    · intro w1 hSw; (try dsimp only at hSw); go_simp <;> with_reducible rfl
    try simp only [Act.put, List.setIfInBounds_toArray, List.set_cons_zero, List.set_cons_succ]
    refine wpAnyH_take (i := 7) (oi := ⟨some 63, _, _, _, _, _⟩) (v := ?_) rfl (by kernel_rfl) (by kernel_rfl) (by kernel_rfl) (fun _ _ _ h => h) (Or.inl ⟨by kernel_rfl, ?_⟩) hHeld ?_
    rotate_left
    · intro w1 hSw; (try dsimp only at hSw); go_simp <;> with_reducible rfl
    try simp only [Act.put, List.setIfInBounds_toArray, List.set_cons_zero, List.set_cons_succ]
    refine wpAnyH_take (i := 8) (oi := ⟨some 64, _, _, _, _, _⟩) (v := ?_) rfl (by kernel_rfl) (by kernel_rfl) (by kernel_rfl) (fun _ _ _ h => h) (Or.inl ⟨by kernel_rfl, ?_⟩) hHeld ?_
    rotate_left
    · intro w1 hSw; (try dsimp only at hSw); go_simp <;> with_reducible rfl
    try simp only [Act.put, List.setIfInBounds_toArray, List.set_cons_zero, List.set_cons_succ]
    refine wpAnyH_take (i := 9) (oi := ⟨some 65, _, _, _, _, _⟩) (v := ?_) rfl (by kernel_rfl) (by kernel_rfl) (by kernel_rfl) (fun _ _ _ h => h) (Or.inl ⟨by kernel_rfl, ?_⟩) hHeld ?_
    rotate_left
    · intro w1 hSw; (try dsimp only at hSw); go_simp <;> with_reducible rfl
    try simp only [Act.put, List.setIfInBounds_toArray, List.set_cons_zero, List.set_cons_succ]
    refine wpAnyH_take (i := 10) (oi := ⟨some 66, _, _, _, _, _⟩) (v := ?_) rfl (by kernel_rfl) (by kernel_rfl) (by kernel_rfl) (fun _ _ _ h => h) (Or.inl ⟨by kernel_rfl, ?_⟩) hHeld ?_
    rotate_left
    · intro w1 hSw; (try dsimp only at hSw); go_simp <;> with_reducible rfl
    try simp only [Act.put, List.setIfInBounds_toArray, List.set_cons_zero, List.set_cons_succ]
    refine wpAnyH_take (i := 11) (oi := ⟨some 67, _, _, _, _, _⟩) (v := .agg #[.int .i64 st, .int .i64 sp, .slice CA xs.length cc, .slice CB ms.length cd]) rfl (by kernel_rfl) (by kernel_rfl) (by kernel_rfl) (fun _ _ _ h => h) (Or.inl ⟨by kernel_rfl, fun V hV => ex_row2 33 _ rfl g rfl 33 [.int .i64 st, .int .i64 sp, .slice CA xs.length cc, .slice CB ms.length cd] _ Tryz.underlying33 rfl (by kernel_rfl) (HRG.out.old hV)⟩) hHeld ?_
    try simp only [Act.put, List.setIfInBounds_toArray, List.set_cons_zero, List.set_cons_succ]
    refine wpAnyH_take (i := 13) (oi := ⟨some 69, _, _, _, _, _⟩) (v := .agg #[.int .i64 st, .int .i64 sp, .slice A xs.length c, .slice B ms.length d]) rfl (by kernel_rfl) (by kernel_rfl) (by kernel_rfl) (fun _ _ _ h => h) (Or.inl ⟨by kernel_rfl, fun V hV => ex_row2 25 _ rfl w.heap.size rfl 25 [.int .i64 st, .int .i64 sp, .slice A xs.length c, .slice B ms.length d] _ Tryz.underlying25 rfl (by kernel_rfl) (HS.out.keep hV).1⟩) hHeld ?_
    try simp only [Act.put, List.setIfInBounds_toArray, List.set_cons_zero, List.set_cons_succ]
    refine wpAnyH_ready (rs := [12]) (by kernel_rfl) (by simp) ?_
    refine AllReadyH.cons rfl (fun K hK => ?_) AllReadyH.nil
    go_simp
    go_at_call 16
    refine (HTO.out _ _ _ _ _ (HRA.out.below hHeld) (HRB.out.below hHeld) HCZ.out).mono ?_
    rintro e v12 ⟨TA, tc, TB, td, rfl, hta, htb, hb12⟩
    try go_simp
    refine hK.out _ _ ?_ (fun hHeld => ?_)
    · exact hHeld.trans (hb12.mono hHeld.size)
    clear hK K
    try simp only [Act.put, List.setIfInBounds_toArray, List.set_cons_zero, List.set_cons_succ]
    refine wpAnyH_ready (rs := [14]) (by kernel_rfl) (by simp) ?_
    refine AllReadyH.cons rfl (fun K hK => ?_) AllReadyH.nil
    go_simp
    go_at_call 15
    refine (HSM.out _ _ _ _ _ hta htb (HS.out.keep hHeld).2.1 (HS.out.keep hHeld).2.2.1).mono ?_
    rintro e v14 ⟨rfl, hb14⟩
    try go_simp
    refine hK.out _ _ ?_ (fun hHeld => ?_)
    · exact hHeld.trans (hb14.mono hHeld.size)
    clear hK K
    try simp only [Act.put, List.setIfInBounds_toArray, List.set_cons_zero, List.set_cons_succ]
    refine wpAnyH_take (i := 15) (oi := ⟨some 71, _, _, _, _, _⟩) (v := ?_) rfl (by kernel_rfl) (by kernel_rfl) (by kernel_rfl) (fun _ _ _ h => h) (Or.inl ⟨by kernel_rfl, ?_⟩) hHeld ?_
    rotate_left
    · intro w1 hSw; (try dsimp only at hSw); go_simp <;> with_reducible rfl
    try simp only [Act.put, List.setIfInBounds_toArray, List.set_cons_zero, List.set_cons_succ]
    refine wpAnyH_take (i := 16) (oi := ⟨some 72, _, _, _, _, _⟩) (v := ?_) rfl (by kernel_rfl) (by kernel_rfl) (by kernel_rfl) (fun _ _ _ h => h) (Or.inl ⟨by kernel_rfl, ?_⟩) hHeld ?_
    rotate_left
    · intro w1 hSw; (try dsimp only at hSw); go_simp <;> with_reducible rfl
    try simp only [Act.put, List.setIfInBounds_toArray, List.set_cons_zero, List.set_cons_succ]
    refine wpAnyH_take (i := 17) (oi := ⟨some 73, _, _, _, _, _⟩) (v := ?_) rfl (by kernel_rfl) (by kernel_rfl) (by kernel_rfl) (fun _ _ _ h => h) (Or.inl ⟨by kernel_rfl, ?_⟩) hHeld ?_
    rotate_left
    · intro w1 hSw; (try dsimp only at hSw); go_simp <;> with_reducible rfl
    try simp only [Act.put, List.setIfInBounds_toArray, List.set_cons_zero, List.set_cons_succ]
    refine wpAnyH_take (i := 18) (oi := ⟨some 74, _, _, _, _, _⟩) (v := ?_) rfl (by kernel_rfl) (by kernel_rfl) (by kernel_rfl) (fun _ _ _ h => h) (Or.inl ⟨by kernel_rfl, ?_⟩) hHeld ?_
    rotate_left
    · intro w1 hSw; (try dsimp only at hSw); go_simp <;> with_reducible rfl
    try simp only [Act.put, List.setIfInBounds_toArray, List.set_cons_zero, List.set_cons_succ]
    refine wpAnyH_take (i := 21) (oi := ⟨some 77, _, _, _, _, _⟩) (v := ?_) rfl (by kernel_rfl) (by kernel_rfl) (by kernel_rfl) (fun _ _ _ h => h) (Or.inl ⟨by kernel_rfl, ?_⟩) hHeld ?_
    rotate_left
    · intro w1 hSw; (try dsimp only at hSw); go_simp <;> with_reducible rfl
    try simp only [Act.put, List.setIfInBounds_toArray, List.set_cons_zero, List.set_cons_succ]
    refine wpAnyH_take (i := 22) (oi := ⟨some 78, _, _, _, _, _⟩) (v := ?_) rfl (by kernel_rfl) (by kernel_rfl) (by kernel_rfl) (fun _ _ _ h => h) (Or.inl ⟨by kernel_rfl, ?_⟩) hHeld ?_
    rotate_left
    · intro w1 hSw; (try dsimp only at hSw); have cc2 := (HS.out.keep hSw).1.cell 2; simp only [List.getElem?_cons_succ, List.getElem?_cons_zero] at cc2; go_simp <;> with_reducible rfl
    try simp only [Act.put, List.setIfInBounds_toArray, List.set_cons_zero, List.set_cons_succ]
    refine wpAnyH_take (i := 23) (oi := ⟨some 79, _, _, _, _, _⟩) (v := ?_) rfl (by kernel_rfl) (by kernel_rfl) (by kernel_rfl) (fun _ _ _ h => h) (Or.inl ⟨by kernel_rfl, ?_⟩) hHeld ?_
    rotate_left
    · intro w1 hSw; (try dsimp only at hSw); go_simp <;> with_reducible rfl
    try simp only [Act.put, List.setIfInBounds_toArray, List.set_cons_zero, List.set_cons_succ]
    refine wpAnyH_take (i := 24) (oi := ⟨some 80, _, _, _, _, _⟩) (v := ?_) rfl (by kernel_rfl) (by kernel_rfl) (by kernel_rfl) (fun _ _ _ h => h) (Or.inl ⟨by kernel_rfl, ?_⟩) hHeld ?_
    rotate_left
    · intro w1 hSw; (try dsimp only at hSw); go_simp <;> with_reducible rfl
    try simp only [Act.put, List.setIfInBounds_toArray, List.set_cons_zero, List.set_cons_succ]
    refine wpAnyH_take (i := 25) (oi := ⟨some 81, _, _, _, _, _⟩) (v := ?_) rfl (by kernel_rfl) (by kernel_rfl) (by kernel_rfl) (fun _ _ _ h => h) (Or.inl ⟨by kernel_rfl, ?_⟩) hHeld ?_
    rotate_left
    · intro w1 hSw; (try dsimp only at hSw); have cc3 := (HS.out.keep hSw).1.cell 3; simp only [List.getElem?_cons_succ, List.getElem?_cons_zero] at cc3; go_simp <;> with_reducible rfl
    try simp only [Act.put, List.setIfInBounds_toArray, List.set_cons_zero, List.set_cons_succ]
    refine wpAnyH_take (i := 26) (oi := ⟨some 82, _, _, _, _, _⟩) (v := ?_) rfl (by kernel_rfl) (by kernel_rfl) (by kernel_rfl) (fun _ _ _ h => h) (Or.inl ⟨by kernel_rfl, ?_⟩) hHeld ?_
    rotate_left
    · intro w1 hSw; (try dsimp only at hSw); go_simp <;> with_reducible rfl
    try simp only [Act.put, List.setIfInBounds_toArray, List.set_cons_zero, List.set_cons_succ]
    refine wpAnyH_take (i := 27) (oi := ⟨some 83, _, _, _, _, _⟩) (v := ?_) rfl (by kernel_rfl) (by kernel_rfl) (by kernel_rfl) (fun _ _ _ h => h) (Or.inl ⟨by kernel_rfl, ?_⟩) hHeld ?_
    rotate_left
    · intro w1 hSw; (try dsimp only at hSw); go_simp <;> with_reducible rfl
    try simp only [Act.put, List.setIfInBounds_toArray, List.set_cons_zero, List.set_cons_succ]
    refine wpAnyH_take (i := 28) (oi := ⟨some 84, _, _, _, _, _⟩) (v := ?_) rfl (by kernel_rfl) (by kernel_rfl) (by kernel_rfl) (fun _ _ _ h => h) (Or.inl ⟨by kernel_rfl, ?_⟩) hHeld ?_
    rotate_left
    · intro w1 hSw; (try dsimp only at hSw); go_simp <;> with_reducible rfl
    try simp only [Act.put, List.setIfInBounds_toArray, List.set_cons_zero, List.set_cons_succ]
    refine wpAnyH_ready (rs := [19]) (by kernel_rfl) (by simp) ?_
    refine AllReadyH.cons rfl (fun K hK => ?_) AllReadyH.nil
    go_simp
    go_at_call 30
    refine (HSP.out _).mono ?_
    rintro e v19 ⟨QA, qc, rfl, hb19⟩
    try go_simp
    refine hK.out _ _ ?_ (fun hHeld => ?_)
    · exact hHeld.trans (hb19.mono hHeld.size)
    clear hK K
    try simp only [Act.put, List.setIfInBounds_toArray, List.set_cons_zero, List.set_cons_succ]
    refine wpAnyH_take (i := 20) (oi := ⟨some 76, _, _, _, _, _⟩) (v := ?_) rfl (by kernel_rfl) (by kernel_rfl) (by kernel_rfl) (fun _ _ _ h => h) (Or.inl ⟨by kernel_rfl, ?_⟩) hHeld ?_
    rotate_left
    · intro w1 hSw; (try dsimp only at hSw); go_simp <;> with_reducible rfl
    try simp only [Act.put, List.setIfInBounds_toArray, List.set_cons_zero, List.set_cons_succ]
    refine wpAnyH_take (i := 29) (oi := ⟨some 85, _, _, _, _, _⟩) (v := ?_) rfl (by kernel_rfl) (by kernel_rfl) (by kernel_rfl) (fun _ _ _ h => h) (Or.inl ⟨by kernel_rfl, ?_⟩) hHeld ?_
    rotate_left
    · intro w1 hSw; (try dsimp only at hSw); go_simp <;> with_reducible rfl
    try simp only [Act.put, List.setIfInBounds_toArray, List.set_cons_zero, List.set_cons_succ]
    refine wpAnyH_take (i := 30) (oi := ⟨some 86, _, _, _, _, _⟩) (v := ?_) rfl (by kernel_rfl) (by kernel_rfl) (by kernel_rfl) (fun _ _ _ h => h) (Or.inl ⟨by kernel_rfl, ?_⟩) hHeld ?_
    rotate_left
    · intro w1 hSw; (try dsimp only at hSw); go_simp <;> with_reducible rfl
    try simp only [Act.put, List.setIfInBounds_toArray, List.set_cons_zero, List.set_cons_succ]
    refine wpAnyH_done (by kernel_rfl) ?_ _
    go_wp2_with fail
    go_meet
    exact ⟨by simp, hHeld⟩
  case rest =>
  obtain ⟨rfl, hb⟩ := hcut
  have HS' := Lib.hid (HS.out.keep hb)
  clear HS hb HRG HRA HRB HCZ HSP HTO HSM
  have HS := HS'
  clear HS'
  clear t2
  obtain ⟨W5, hW5⟩ : ∃ W5 : World, W5 = wc := ⟨_, rfl⟩
  subst hW5
  obtain ⟨q, hq⟩ : ∃ q, q = pz - 1 := ⟨_, rfl⟩
  have hpz := HPZ.out
  have u1 : (ps.size : Int) - 1 = (q : Int) := by omega
  have u2 : IntKind.i64.wrap (q : Int) = (q : Int) := IntWalk.i64_in _ (by omega)
  have u3 : (q : Int) ≤ (ps.size : Int) := by omega
  have u4 : (0 : Int) ≤ (q : Int) := by omega
  have HPC2 : Hid (∀ W, Mx W → Calls Tryz.prog 11 #[.string (ps.extract 0 q)] W fun e w' => e = .returned (.tuple #[.agg #[.int .i64 0, .int .i64 0, .slice none 0 0, .slice none 0 0], .int .i64 ((xs.length + ms.length : Nat) : Int), .int .i64 25]) ∧ Below W.heap.size W w') := fun W hM => by
    have h := HPC.out W hM
    rw [hq, HEX2.out]
    exact h
  have u5 : ((xs.length + ms.length : Nat) : Int) = (xs.length : Int) + (ms.length : Int) := Int.natCast_add _ _
  clear hpz hq HPC HEX2 HPZ
  rcases parse_out s HS300.out with ⟨i2, E2, hE2, hPO⟩ | ⟨st2, sp2, xs2, ms2, hr2, hp2, hPO⟩
  · have HPO := Lib.hid hPO
    have b1 : (E2 == 0) = false := by rw [beq_eq_false_iff_ne]; exact hE2
    clear hPO hE2
    go_upto_region 7 with fail
    go_cut [10, 11, 12] from 88 to 94 (fun s10 s11 s12 wx => ∃ g2, s10 = .pointer (some ⟨g2, 0, none⟩) ∧ s12 = .int .i64 E2 ∧ Below W5.heap.size W5 wx)
    case first =>
      clear HPC2
      go_wp2_with (first
        | (go_at_call 11; refine (HPO.out _ HS.out.2.2.2.1.mx).mono ?_; rintro e v1 ⟨rfl, hb1⟩; have HB1 := Lib.hid hb1; clear hb1)
        | (refine wpList_store_row rfl 33 _ _ rfl v1.heap.size #[.int .i64 0, .int .i64 0, .slice none 0 0, .slice none 0 0] rfl rfl 33 _ (Row.new v1 33 zero4) ?_ ?_ ?_ ?_; (kernel_rfl); (rfl); (simp [Value.oneCell'])))
      go_meet
      exact ⟨_, rfl, rfl, Below.setRow (HB1.out.alloc HB1.out.size _) HB1.out.size _⟩
    case rest =>
    obtain ⟨g2, rfl, rfl, hb⟩ := hcut
    have HS' := Lib.hid (HS.out.keep hb)
    clear HS hb HPO
    have HS := HS'
    clear HS'
    go_upto_region 12 with fail
    go_cut [15, 16, 17] from 108 to 117 (fun s15 s16 s17 wx => ∃ g3, s15 = .pointer (some ⟨g3, 0, none⟩) ∧ s16 = .int .i64 ((xs.length + ms.length : Nat) : Int) ∧ s17 = .int .i64 25 ∧ BaS w A B xs ms [.int .i64 st, .int .i64 sp, .slice A xs.length c, .slice B ms.length d] wx)
    case first =>
      go_wp2_with (first
        | (go_at_call 11; refine (HPC2.out _ HS.out.2.2.2.1.mx).mono ?_; rintro e v1 ⟨rfl, hb1⟩; have HB1 := Lib.hid hb1; have HS8 := Lib.hid (HS.out.keep hb1); clear hb1)
        | (refine wpList_store_row rfl 33 _ _ rfl v1.heap.size #[.int .i64 0, .int .i64 0, .slice none 0 0, .slice none 0 0] rfl rfl 33 _ (Row.new v1 33 zero4) ?_ ?_ ?_ ?_; (kernel_rfl); (rfl); (simp [Value.oneCell'])))
      go_meet
      exact ⟨_, rfl, rfl, rfl, HS8.out.keep (Below.setRow ((Below.refl _ _).alloc (Nat.le_refl _) _) (Nat.le_refl _) _)⟩
    case rest =>
    obtain ⟨g3, rfl, rfl, rfl, hs⟩ := hcut
    have HS' := Lib.hid hs
    have c2 := hs.1.cell 2
    have c3 := hs.1.cell 3
    simp only [List.getElem?_cons_succ, List.getElem?_cons_zero] at c2 c3
    clear HS hs u1 u2 u3 u4 HPC2
    have HS := HS'
    clear HS'
    rw [u5]
    go_wp2_with (go_at_call 8; refine (haw _ HS.out.2.2.2.1).mono ?_; rintro e w5 ⟨rfl, hb5⟩; have HS4 := Lib.hid (HS.out.keep hb5); clear hb5)
    go_ret
    exact ⟨rfl, HS4.out.2.2.2.2⟩
  · have HPO := Lib.hid hPO
    have HPR2 : Hid (∀ W CA cc CB cd, It W → Rd W CA (flts xs2) → Rd W CB (markC ms2) → Calls Tryz.prog 9 #[.agg #[.int .i64 st2, .int .i64 sp2, .slice CA xs2.length cc, .slice CB ms2.length cd]] W fun e w' => e = .returned (.tuple #[.string s, .int .i64 0]) ∧ Below W.heap.size W w') := fun W CA cc CB cd hT h1 h2 => by
      have k := print_ok st2 sp2 CA CB xs2.length cc ms2.length cd xs2 ms2 W hT h1 h2 rfl rfl hr2
      have hl : (printL st2 sp2 xs2 ms2).length ≤ 4096 := by
        have h3 := congrArg ByteArray.size hp2
        have h4 : (lb (printL st2 sp2 xs2 ms2)).size = (printL st2 sp2 xs2 ms2).length := List.size_toArray
        have h5 := HS300.out
        omega
      unfold printRes at k
      rw [if_pos hl] at k
      have h6 : (⟨(printL st2 sp2 xs2 ms2).toArray⟩ : ByteArray) = s := hp2
      rw [h6] at k
      exact k
    clear hPO hr2 hp2
    go_upto_region 7 with fail
    go_cut [10, 11, 12] from 88 to 94 (fun s10 s11 s12 wx => ∃ g2 CA cc CB cd, s10 = .pointer (some ⟨g2, 0, none⟩) ∧ s12 = .int .i64 0 ∧ Row wx g2 33 [.int .i64 st2, .int .i64 sp2, .slice CA xs2.length cc, .slice CB ms2.length cd] ∧ Rd wx CA (flts xs2) ∧ Rd wx CB (markC ms2) ∧ Below W5.heap.size W5 wx)
    case first =>
      clear HPC2 HPR2
      go_wp2_with (first
        | (go_at_call 11; refine (HPO.out _ HS.out.2.2.2.1.mx).mono ?_; rintro e v1 ⟨CA, cc, CB, cd, rfl, hca, hcb, hb1⟩; have HCAA := Lib.hid hca; have HCBB := Lib.hid hcb; have HB1 := Lib.hid hb1; clear hca hcb hb1)
        | (refine wpList_store_row rfl 33 _ _ rfl v1.heap.size #[.int .i64 st2, .int .i64 sp2, .slice CA xs2.length cc, .slice CB ms2.length cd] rfl rfl 33 _ (Row.new v1 33 zero4) ?_ ?_ ?_ ?_; (kernel_rfl); (rfl); (simp [Value.oneCell'])))
      go_meet
      have hb2 : Below v1.heap.size v1 ((v1.alloc (.cells zero4.toArray 33)).setRow v1.heap.size #[.int .i64 st2, .int .i64 sp2, .slice CA xs2.length cc, .slice CB ms2.length cd]) := Below.setRow ((Below.refl _ _).alloc (Nat.le_refl _) _) (Nat.le_refl _) _
      exact ⟨_, CA, cc, CB, cd, rfl, rfl, (Row.new v1 33 zero4).setRow _, HCAA.out.below hb2, HCBB.out.below hb2, HB1.out.trans (hb2.mono HB1.out.size)⟩
    case rest =>
    obtain ⟨g2, CA2, cc2, CB2, cd2, rfl, rfl, hrg, hra, hrb, hb⟩ := hcut
    have HS' := Lib.hid (HS.out.keep hb)
    have HRG := Lib.hid hrg; have HRA := Lib.hid hra; have HRB := Lib.hid hrb
    clear HS hb HPO hrg hra hrb
    have HS := HS'
    clear HS'
    obtain ⟨W6, hW6⟩ : ∃ W6 : World, W6 = wc := ⟨_, rfl⟩
    subst hW6
    go_upto_region 12 with (first
      | (refine wpList_load_row rfl 33 _ rfl g2 rfl 33 #[.int .i64 st2, .int .i64 sp2, .slice CA2 xs2.length cc2, .slice CB2 ms2.length cd2] (0, 0) _ HRG.out Tryz.underlying33 rfl ?_ ?_; (kernel_rfl))
      | (go_at_call 9; refine (HPR2.out _ _ _ _ _ HS.out.2.2.2.1.it HRA.out HRB.out).mono ?_; rintro e w7 ⟨rfl, hb7⟩; have HS' := Lib.hid (HS.out.keep hb7); clear HS hb7; have HS := HS'; clear HS'))
    clear HRG HRA HRB HPR2
    go_cut [15, 16, 17] from 108 to 117 (fun s15 s16 s17 wx => ∃ g3, s15 = .pointer (some ⟨g3, 0, none⟩) ∧ s16 = .int .i64 ((xs.length + ms.length : Nat) : Int) ∧ s17 = .int .i64 25 ∧ BaS w A B xs ms [.int .i64 st, .int .i64 sp, .slice A xs.length c, .slice B ms.length d] wx)
    case first =>
      go_wp2_with (first
        | (go_at_call 11; refine (HPC2.out _ HS.out.2.2.2.1.mx).mono ?_; rintro e v1 ⟨rfl, hb1⟩; have HB1 := Lib.hid hb1; have HS8 := Lib.hid (HS.out.keep hb1); clear hb1)
        | (refine wpList_store_row rfl 33 _ _ rfl v1.heap.size #[.int .i64 0, .int .i64 0, .slice none 0 0, .slice none 0 0] rfl rfl 33 _ (Row.new v1 33 zero4) ?_ ?_ ?_ ?_; (kernel_rfl); (rfl); (simp [Value.oneCell'])))
      go_meet
      exact ⟨_, rfl, rfl, rfl, HS8.out.keep (Below.setRow ((Below.refl _ _).alloc (Nat.le_refl _) _) (Nat.le_refl _) _)⟩
    case rest =>
    obtain ⟨g3, rfl, rfl, rfl, hs⟩ := hcut
    have HS' := Lib.hid hs
    have c2 := hs.1.cell 2
    have c3 := hs.1.cell 3
    simp only [List.getElem?_cons_succ, List.getElem?_cons_zero] at c2 c3
    clear HS hs u1 u2 u3 u4 HPC2
    have HS := HS'
    clear HS'
    rw [u5]
    go_wp2_with (go_at_call 8; refine (haw _ HS.out.2.2.2.1).mono ?_; rintro e w5 ⟨rfl, hb5⟩; have HS4 := Lib.hid (HS.out.keep hb5); clear hb5)
    go_ret
    exact ⟨rfl, HS4.out.2.2.2.2⟩
theorem recordBack_ok (haw : AwakeOk) (st sp : Int) (A B : Option Addr) (c d : Nat) (xs : List Nat) (ms : List (Int × ByteArray)) (s : ByteArray) (w : World) (hW : Aw w) (hA : Rd w A (flts xs)) (hB : Rd w B (markC ms)) (hlc : xs.length ≤ c) (hca : A = none → c = 0) (hx : xs.length ≤ 9223372036854775807) (hm : ms.length ≤ 9223372036854775807) : Calls Tryz.prog 6 #[.agg #[.int .i64 st, .int .i64 sp, .slice A xs.length c, .slice B ms.length d], .string s] w fun e w' => e = .returned (.bool true) ∧ Below w.heap.size w w' := by
  cases h1 : shortRB xs.length ms with
  | false => exact back_far1 haw st sp A B c d xs ms s w hW hA hB hlc hca hx hm h1
  | true =>
    by_cases h2 : 40 < xs.length
    · exact back_far2 haw st sp A B c d xs ms s w hW hA hB hlc hca hx hm h1 h2
    by_cases h3 : 6 < ms.length
    · exact back_far3 haw st sp A B c d xs ms s w hW hA hB hlc hca hx hm h1 h2 h3
    by_cases h4 : recI st sp xs ms = 0
    · by_cases h5 : 300 < s.size
      · exact back_far5 haw st sp A B c d xs ms s w hW hA hB hlc hca hx hm h1 h2 h3 h4 h5
      · exact back_walk haw st sp A B c d xs ms s w hW hA hB hlc hca hx hm h1 h2 h3 h4 h5
    · exact back_far4 haw st sp A B c d xs ms s w hW hA hB hlc hca hx hm h1 h2 h3 h4
end Go.Proofs.YtoclnlimnjnbkaaGreatDoor
