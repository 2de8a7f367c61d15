import Derived.Test.YtphgfiihccofnaaGreatDoorM42
import Derived.Test.YtphgfiihccofnaaGreatDoorM34
/- The law of joins, walked. -/
namespace Go.Proofs.YtphgfiihccofnaaGreatDoor
set_option linter.all false
open Go.RowKit Go.Fl
set_option linter.unusedVariables false
set_option linter.unusedSimpArgs false
def kA := @List.setIfInBounds_toArray
def kB := @List.set_cons_zero
def kC := @List.set_cons_succ

/-- the law's parameters, where they lie -/
def RjS (w : World) (A B C D : Option Addr) (xs : List Nat) (ms : List (Int × ByteArray)) (ys : List Nat) (ns : List (Int × ByteArray)) (L0 L1 : List Value) (W : World) : Prop := Row W w.heap.size 25 L0 ∧ Row W (w.heap.size + 1) 25 L1 ∧ Rd W A (flts xs) ∧ Rd W B (markC ms) ∧ Rd W C (flts ys) ∧ Rd W D (markC ns) ∧ Aw W ∧ Below w.heap.size w W
theorem RjS.keep {w W W' : World} {A B C D : Option Addr} {xs : List Nat} {ms : List (Int × ByteArray)} {ys : List Nat} {ns : List (Int × ByteArray)} {L0 L1 : List Value} (h : RjS w A B C D xs ms ys ns L0 L1 W) (hb : Below W.heap.size W W') : RjS w A B C D xs ms ys ns L0 L1 W' :=
  ⟨h.1.old hb, h.2.1.old hb, h.2.2.1.below hb, h.2.2.2.1.below hb, h.2.2.2.2.1.below hb, h.2.2.2.2.2.1.below hb, h.2.2.2.2.2.2.1.old hb, h.2.2.2.2.2.2.2.trans (hb.mono h.2.2.2.2.2.2.2.size)⟩
theorem RjS.new {w : World} {A B C D : Option Addr} {xs : List Nat} {ms : List (Int × ByteArray)} {ys : List Nat} {ns : List (Int × ByteArray)} {L0 L1 : List Value} (hA : Rd w A (flts xs)) (hB : Rd w B (markC ms)) (hC : Rd w C (flts ys)) (hD : Rd w D (markC ns)) (hW : Aw w) : RjS w A B C D xs ms ys ns L0 L1 ((w.alloc (.cells L0.toArray 25)).alloc (.cells L1.toArray 25)) := by
  have hb : Below w.heap.size w ((w.alloc (.cells L0.toArray 25)).alloc (.cells L1.toArray 25)) := ((Below.refl _ _).alloc (Nat.le_refl _) _).alloc (by simp) _
  have r1 := Row.new (w.alloc (.cells L0.toArray 25)) 25 L1
  rw [World.size_alloc] at r1
  exact ⟨(Row.new w 25 L0).alloc _, r1, hA.below hb, hB.below hb, hC.below hb, hD.below hb, hW.old hb, hb⟩

set_option maxRecDepth 100000 in
set_option maxHeartbeats 1000000 in
theorem joins_far1 (haw : AwakeOk) (st sp : Int) (A B : Option Addr) (c d : Nat) (xs : List Nat) (ms : List (Int × ByteArray)) (st2 sp2 : Int) (C D : Option Addr) (e1 e2 : Nat) (ys : List Nat) (ns : List (Int × ByteArray)) (w : World) (haW : Aw w) (hA : Rd w A (flts xs)) (hB : Rd w B (markC ms)) (hC : Rd w C (flts ys)) (hD : Rd w D (markC ns)) (hx : xs.length ≤ 9223372036854775807) (hmm : ms.length ≤ 9223372036854775807) (hy : ys.length ≤ 9223372036854775807) (hnn : ns.length ≤ 9223372036854775807) (hs : shortRB xs.length ms = false) :
    Calls Tryz.prog 4 #[.agg #[.int .i64 st, .int .i64 sp, .slice A xs.length c, .slice B ms.length d], .agg #[.int .i64 st2, .int .i64 sp2, .slice C ys.length e1, .slice D ns.length e2]] w fun e w' => e = .returned (.bool true) ∧ Below w.heap.size w w' := by
  have HS0 := Lib.hid (RjS.new (L0 := [.int .i64 st, .int .i64 sp, .slice A xs.length c, .slice B ms.length d]) (L1 := [.int .i64 st2, .int .i64 sp2, .slice C ys.length e1, .slice D ns.length e2]) hA hB hC hD haW)
  have HSA : Hid (∀ W, Rd W B (markC ms) → Calls Tryz.prog 8 #[.agg #[.int .i64 st, .int .i64 sp, .slice A xs.length c, .slice B ms.length d]] W fun e w' => e = .returned (.bool false) ∧ Below W.heap.size W w') := fun W h => by
    have k := shortRecording_any st sp A B xs.length c ms.length d ms W h rfl (by omega) (by omega)
    rw [hs] at k; exact k
  clear haW hA hB hC hD hs
  go_enter Tryz.func4, Tryz.ntmps4
  go_upto_region 1 with fail
  refine genR (RjS w A B C D xs ms ys ns [.int .i64 st, .int .i64 sp, .slice A xs.length c, .slice B ms.length d] [.int .i64 st2, .int .i64 sp2, .slice C ys.length e1, .slice D ns.length e2]) HS0.out ?_
  clear HS0
  intro W1 s1
  have HS1 := Lib.hid s1
  clear s1
  go_wp2_with (first | (refine wpList_load_row rfl 25 _ rfl w.heap.size rfl 25 #[.int .i64 st, .int .i64 sp, .slice A xs.length c, .slice B ms.length d] (0, 0) _ HS1.out.1 Tryz.underlying25 rfl ?_ ?_; (kernel_rfl)) | (go_at_call 8; refine (HSA.out _ HS1.out.2.2.2.1).mono ?_; rintro e w1 ⟨rfl, hb1⟩; have HS2 := Lib.hid (HS1.out.keep hb1); clear hb1) | (go_at_call 9; refine (haw _ HS2.out.2.2.2.2.2.2.1).mono ?_; rintro e w3 ⟨rfl, hb3⟩; have HS4 := Lib.hid (HS2.out.keep hb3); clear hb3))
  go_ret
  exact ⟨rfl, HS4.out.2.2.2.2.2.2.2⟩

set_option maxRecDepth 100000 in
set_option maxHeartbeats 1000000 in
theorem joins_far2 (haw : AwakeOk) (st sp : Int) (A B : Option Addr) (c d : Nat) (xs : List Nat) (ms : List (Int × ByteArray)) (st2 sp2 : Int) (C D : Option Addr) (e1 e2 : Nat) (ys : List Nat) (ns : List (Int × ByteArray)) (w : World) (haW : Aw w) (hA : Rd w A (flts xs)) (hB : Rd w B (markC ms)) (hC : Rd w C (flts ys)) (hD : Rd w D (markC ns)) (hx : xs.length ≤ 9223372036854775807) (hmm : ms.length ≤ 9223372036854775807) (hy : ys.length ≤ 9223372036854775807) (hnn : ns.length ≤ 9223372036854775807) (hs : shortRB xs.length ms = true) (hs2 : shortRB ys.length ns = false) :
    Calls Tryz.prog 4 #[.agg #[.int .i64 st, .int .i64 sp, .slice A xs.length c, .slice B ms.length d], .agg #[.int .i64 st2, .int .i64 sp2, .slice C ys.length e1, .slice D ns.length e2]] w fun e w' => e = .returned (.bool true) ∧ Below w.heap.size w w' := by
  have HS0 := Lib.hid (RjS.new (L0 := [.int .i64 st, .int .i64 sp, .slice A xs.length c, .slice B ms.length d]) (L1 := [.int .i64 st2, .int .i64 sp2, .slice C ys.length e1, .slice D ns.length e2]) hA hB hC hD haW)
  have HSA : Hid (∀ W, Rd W B (markC ms) → Calls Tryz.prog 8 #[.agg #[.int .i64 st, .int .i64 sp, .slice A xs.length c, .slice B ms.length d]] W fun e w' => e = .returned (.bool true) ∧ Below W.heap.size W w') := fun W h => by
    have k := shortRecording_any st sp A B xs.length c ms.length d ms W h rfl (by omega) (by omega)
    rw [hs] at k; exact k
  have HSB : Hid (∀ W, Rd W D (markC ns) → Calls Tryz.prog 8 #[.agg #[.int .i64 st2, .int .i64 sp2, .slice C ys.length e1, .slice D ns.length e2]] W fun e w' => e = .returned (.bool false) ∧ Below W.heap.size W w') := fun W h => by
    have k := shortRecording_any st2 sp2 C D ys.length e1 ns.length e2 ns W h rfl (by omega) (by omega)
    rw [hs2] at k; exact k
  clear haW hA hB hC hD hs hs2
  go_enter Tryz.func4, Tryz.ntmps4
  go_upto_region 1 with fail
  refine genR (RjS w A B C D xs ms ys ns [.int .i64 st, .int .i64 sp, .slice A xs.length c, .slice B ms.length d] [.int .i64 st2, .int .i64 sp2, .slice C ys.length e1, .slice D ns.length e2]) HS0.out ?_
  clear HS0
  intro W1 s1
  have HS1 := Lib.hid s1
  clear s1
  go_wp2_with (refine wpList_load_row rfl 25 _ rfl w.heap.size rfl 25 #[.int .i64 st, .int .i64 sp, .slice A xs.length c, .slice B ms.length d] (0, 0) _ HS1.out.1 Tryz.underlying25 rfl ?_ ?_; (kernel_rfl))
  refine (HSA.out _ HS1.out.2.2.2.1).mono ?_
  rintro e w1 ⟨rfl, hb1⟩
  have HS2 := Lib.hid (HS1.out.keep hb1)
  clear hb1
  have p0 := HS2.out.2.1.cell 0; have p1 := HS2.out.2.1.cell 1; have p2 := HS2.out.2.1.cell 2; have p3 := HS2.out.2.1.cell 3
  simp only [List.getElem?_cons_succ, List.getElem?_cons_zero] at p0 p1 p2 p3
  go_wp2_with fail
  clear p0 p1 p2 p3
  refine (HSB.out _ HS2.out.2.2.2.2.2.1).mono ?_
  rintro e w2 ⟨rfl, hb2⟩
  have HS3 := Lib.hid (HS2.out.keep hb2)
  clear hb2
  go_wp2_with fail
  refine (haw _ HS3.out.2.2.2.2.2.2.1).mono ?_
  rintro e w3 ⟨rfl, hb3⟩
  have HS4 := Lib.hid (HS3.out.keep hb3)
  clear hb3
  go_wp2
  go_ret
  exact ⟨rfl, HS4.out.2.2.2.2.2.2.2⟩

set_option maxRecDepth 100000 in
set_option maxHeartbeats 2000000 in
theorem joins_walk (haw : AwakeOk) (st sp : Int) (A B : Option Addr) (c d : Nat) (xs : List Nat) (ms : List (Int × ByteArray)) (st2 sp2 : Int) (C D : Option Addr) (e1 e2 : Nat) (ys : List Nat) (ns : List (Int × ByteArray)) (w : World) (haW : Aw w) (hA : Rd w A (flts xs)) (hB : Rd w B (markC ms)) (hC : Rd w C (flts ys)) (hD : Rd w D (markC ns)) (hx : xs.length ≤ 9223372036854775807) (hmm : ms.length ≤ 9223372036854775807) (hy : ys.length ≤ 9223372036854775807) (hnn : ns.length ≤ 9223372036854775807) (hs : shortRB xs.length ms = true) (hs2 : shortRB ys.length ns = true) (s' p' CE E1 E2 ONE : Int) (cx : List Nat) (cm : List (Int × ByteArray))
    (hG1 : ∀ W, Rd W A (flts xs) → Rd W B (markC ms) → Calls Tryz.prog 11 #[.agg #[.int .i64 st, .int .i64 sp, .slice A xs.length c, .slice B ms.length d]] W fun e w' => ∃ GA gc GB gd, e = .returned (.agg #[.int .i64 st, .int .i64 sp, .slice GA xs.length gc, .slice GB ms.length gd]) ∧ Rd w' GA (flts xs) ∧ Rd w' GB (markC ms) ∧ Below W.heap.size W w' ∧ xs.length ≤ gc ∧ (GA = none → gc = 0))
    (hG2 : ∀ W, Rd W C (flts ys) → Rd W D (markC ns) → Calls Tryz.prog 11 #[.agg #[.int .i64 st2, .int .i64 sp2, .slice C ys.length e1, .slice D ns.length e2]] W fun e w' => ∃ GA gc GB gd, e = .returned (.agg #[.int .i64 st2, .int .i64 sp2, .slice GA ys.length gc, .slice GB ns.length gd]) ∧ Rd w' GA (flts ys) ∧ Rd w' GB (markC ns) ∧ Below W.heap.size W w' ∧ ys.length ≤ gc ∧ (GA = none → gc = 0))
    (hJoin : ∀ W GA gc GB gd HA hc HB hd, Rd W GA (flts xs) → Rd W GB (markC ms) → Rd W HA (flts ys) → Rd W HB (markC ns) → Calls Tryz.prog 19 #[.agg #[.int .i64 st, .int .i64 sp, .slice GA xs.length gc, .slice GB ms.length gd], .agg #[.int .i64 st2, .int .i64 sp2, .slice HA ys.length hc, .slice HB ns.length hd]] W fun e w' => ∃ CA cc CB cd, e = .returned (.tuple #[.agg #[.int .i64 s', .int .i64 p', .slice CA cx.length cc, .slice CB cm.length cd], .int .i64 CE]) ∧ w'.ownsRow W.heap.size 90 1 (.slice CA cx.length cc) cx.length (flts cx) ∧ w'.ownsRow W.heap.size 120 2 (.slice CB cm.length cd) cm.length (markC cm) ∧ Below W.heap.size W w')
    (hC1 : ∀ W, Rd W A (flts xs) → Rd W B (markC ms) → Calls Tryz.prog 12 #[.agg #[.int .i64 st, .int .i64 sp, .slice A xs.length c, .slice B ms.length d]] W fun e w' => e = .returned (.int .i64 E1) ∧ Below W.heap.size W w')
    (hC2 : ∀ W, Rd W C (flts ys) → Rd W D (markC ns) → Calls Tryz.prog 12 #[.agg #[.int .i64 st2, .int .i64 sp2, .slice C ys.length e1, .slice D ns.length e2]] W fun e w' => e = .returned (.int .i64 E2) ∧ Below W.heap.size W w')
    (hOne : firstI [E1, E2] = ONE)
    (hRef : ONE = 0 → ∀ W, Rd W A (flts xs) → Rd W B (markC ms) → Rd W C (flts ys) → Rd W D (markC ns) → Calls Tryz.prog 20 #[.agg #[.int .i64 st, .int .i64 sp, .slice A xs.length c, .slice B ms.length d], .agg #[.int .i64 st2, .int .i64 sp2, .slice C ys.length e1, .slice D ns.length e2]] W fun e w' => ∃ QA qc QB qd, e = .returned (.tuple #[.agg #[.int .i64 s', .int .i64 p', .slice QA cx.length qc, .slice QB cm.length qd], .int .i64 CE]) ∧ w'.ownsRow W.heap.size 90 1 (.slice QA cx.length qc) cx.length (flts cx) ∧ w'.ownsRow W.heap.size 83 2 (.slice QB cm.length qd) cm.length (markC cm) ∧ Below W.heap.size W w')
    (hNo : ONE ≠ 0 → s' = 0 ∧ p' = 0 ∧ cx = [] ∧ cm = [] ∧ CE = ONE)
    (hsf : sameF cx cx = true) (hcx : cx.length ≤ 1000000) (hcm : cm.length ≤ 1000000) :
    Calls Tryz.prog 4 #[.agg #[.int .i64 st, .int .i64 sp, .slice A xs.length c, .slice B ms.length d], .agg #[.int .i64 st2, .int .i64 sp2, .slice C ys.length e1, .slice D ns.length e2]] w fun e w' => e = .returned (.bool true) ∧ Below w.heap.size w w' := by
  have HS0 := Lib.hid (RjS.new (L0 := [.int .i64 st, .int .i64 sp, .slice A xs.length c, .slice B ms.length d]) (L1 := [.int .i64 st2, .int .i64 sp2, .slice C ys.length e1, .slice D ns.length e2]) hA hB hC hD haW)
  have HSA : Hid (∀ W, Rd W B (markC ms) → Calls Tryz.prog 8 #[.agg #[.int .i64 st, .int .i64 sp, .slice A xs.length c, .slice B ms.length d]] W fun e w' => e = .returned (.bool true) ∧ Below W.heap.size W w') := fun W h => by
    have k := shortRecording_any st sp A B xs.length c ms.length d ms W h rfl (by omega) (by omega)
    rw [hs] at k; exact k
  have HSB : Hid (∀ W, Rd W D (markC ns) → Calls Tryz.prog 8 #[.agg #[.int .i64 st2, .int .i64 sp2, .slice C ys.length e1, .slice D ns.length e2]] W fun e w' => e = .returned (.bool true) ∧ Below W.heap.size W w') := fun W h => by
    have k := shortRecording_any st2 sp2 C D ys.length e1 ns.length e2 ns W h rfl (by omega) (by omega)
    rw [hs2] at k; exact k
  have HG1 := Lib.hid hG1; have HG2 := Lib.hid hG2; have HJN := Lib.hid hJoin; have HC1 := Lib.hid hC1; have HC2 := Lib.hid hC2; have HON := Lib.hid hOne; have HRF := Lib.hid hRef; have HNO := Lib.hid hNo; have HSF := Lib.hid hsf; have HX := Lib.hid hcx; have HM := Lib.hid hcm
  clear haW hA hB hC hD hs hs2 hG1 hG2 hJoin hC1 hC2 hOne hRef hNo hsf hcx hcm
  go_enter Tryz.func4, Tryz.ntmps4
  go_upto_region 1 with fail
  refine genR (RjS w A B C D xs ms ys ns [.int .i64 st, .int .i64 sp, .slice A xs.length c, .slice B ms.length d] [.int .i64 st2, .int .i64 sp2, .slice C ys.length e1, .slice D ns.length e2]) HS0.out ?_
  clear HS0
  intro W1 s1
  have HS1 := Lib.hid s1
  clear s1
  go_wp2_with (refine wpList_load_row rfl 25 _ rfl w.heap.size rfl 25 #[.int .i64 st, .int .i64 sp, .slice A xs.length c, .slice B ms.length d] (0, 0) _ HS1.out.1 Tryz.underlying25 rfl ?_ ?_; (kernel_rfl))
  refine (HSA.out _ HS1.out.2.2.2.1).mono ?_
  rintro e w1 ⟨rfl, hb1⟩
  have HS2 := Lib.hid (HS1.out.keep hb1)
  clear hb1 HS1
  have p0 := HS2.out.2.1.cell 0; have p1 := HS2.out.2.1.cell 1; have p2 := HS2.out.2.1.cell 2; have p3 := HS2.out.2.1.cell 3
  simp only [List.getElem?_cons_succ, List.getElem?_cons_zero] at p0 p1 p2 p3
  go_wp2_with fail
  clear p0 p1 p2 p3
  refine (HSB.out _ HS2.out.2.2.2.2.2.1).mono ?_
  rintro e W3 ⟨rfl, hb2⟩
  have HS3 := Lib.hid (HS2.out.keep hb2)
  clear hb2 HS2 HSA HSB
  go_upto_region 3 with fail
  go_cut [5, 6] from 18 to 26 (fun s5 s6 wx => ∃ (g : Nat) (CA : Option Addr) (cc : Nat) (CB : Option Addr) (cd : Nat), s5 = .pointer (some ⟨g, 0, none⟩) ∧ s6 = .int .i64 CE ∧ Row wx g 32 [.int .i64 s', .int .i64 p', .slice CA cx.length cc, .slice CB cm.length cd] ∧ Rd wx CA (flts cx) ∧ Rd wx CB (markC cm) ∧ (CA = none → cc = 0) ∧ W3.heap.size ≤ g ∧ Below W3.heap.size W3 wx)
  case first =>
    clear HC1 HC2 HON HRF HNO HSF HX HM
    refine wp_region_held_drew (S := fun V => Below W3.heap.size W3 V) (by kernel_rfl) ?_ (fun hHeld => ?_)
    · exact (Below.refl _ _).drew
    refine wpAnyH_take (i := 0) (oi := ⟨some 19, _, _, _, _, _⟩) (v := .agg #[.int .i64 st, .int .i64 sp, .slice A xs.length c, .slice B ms.length d]) rfl (by kernel_rfl) (by kernel_rfl) (by kernel_rfl) (fun _ _ _ h => h) (Or.inl ⟨by kernel_rfl, fun V hV => ex_row2 25 _ rfl w.heap.size rfl 25 [.int .i64 st, .int .i64 sp, .slice A xs.length c, .slice B ms.length d] _ Tryz.underlying25 rfl (by kernel_rfl) (HS3.out.keep hV).1⟩) hHeld ?_
    try simp only [Act.put, kA, kB, kC]
    refine wpAnyH_take (i := 2) (oi := ⟨some 21, _, _, _, _, _⟩) (v := .agg #[.int .i64 st2, .int .i64 sp2, .slice C ys.length e1, .slice D ns.length e2]) rfl (by kernel_rfl) (by kernel_rfl) (by kernel_rfl) (fun _ _ _ h => h) (Or.inl ⟨by kernel_rfl, fun V hV => ex_row2 25 _ rfl (w.heap.size + 1) rfl 25 [.int .i64 st2, .int .i64 sp2, .slice C ys.length e1, .slice D ns.length e2] _ Tryz.underlying25 rfl (by kernel_rfl) (HS3.out.keep hV).2.1⟩) hHeld ?_
    try simp only [Act.put, kA, kB, kC]
    refine wpAnyH_ready (rs := [1, 8]) (by kernel_rfl) (by simp) ?_
    refine AllReadyH.cons rfl (fun K hK => ?_) (AllReadyH.cons rfl (fun K hK => ?_) (AllReadyH.nil))
    ·
      go_simp
      go_at_call 11
      refine (HG1.out _ (HS3.out.keep hHeld).2.2.1 (HS3.out.keep hHeld).2.2.2.1).mono ?_
      rintro e w4 ⟨GA, gc, GB, gd, rfl, hga, hgb, hb4, -, -⟩
      have z4 := (hHeld.trans (hb4.mono hHeld.size)).size
      try go_simp
      refine hK.out _ _ ?_ (fun hHeld => ?_)
      · exact hHeld.trans (hb4.mono hHeld.size)
      clear hK K
      try simp only [Act.put, kA, kB, kC]
      refine wpAnyH_ready (rs := [3, 8]) (by kernel_rfl) (by simp) ?_
      refine AllReadyH.cons rfl (fun K hK => ?_) (AllReadyH.cons rfl (fun K hK => ?_) (AllReadyH.nil))
      ·
        go_simp
        go_at_call 11
        refine (HG2.out _ (HS3.out.keep hHeld).2.2.2.2.1 (HS3.out.keep hHeld).2.2.2.2.2.1).mono ?_
        rintro e w4b ⟨HA, hc, HB, hd, rfl, hha, hhb, hb4b, -, -⟩
        have z4b := (hHeld.trans (hb4b.mono hHeld.size)).size
        try go_simp
        refine hK.out _ _ ?_ (fun hHeld => ?_)
        · exact hHeld.trans (hb4b.mono hHeld.size)
        clear hK K
        try simp only [Act.put, kA, kB, kC]
        refine wpAnyH_ready (rs := [4, 8]) (by kernel_rfl) (by simp) ?_
        refine AllReadyH.cons rfl (fun K hK => ?_) (AllReadyH.cons rfl (fun K hK => ?_) (AllReadyH.nil))
        ·
          go_simp
          go_at_call 19
          refine (HJN.out _ _ _ _ _ _ _ _ _ ((hga).below hb4b) ((hgb).below hb4b) (hha) (hhb)).mono ?_
          rintro e w5 ⟨CA, cc, CB, cd, rfl, ho5, hu5, hb5⟩
          have z5 := (hHeld.trans (hb5.mono hHeld.size)).size
          try go_simp
          refine hK.out _ _ ?_ (fun hHeld => ?_)
          · exact hHeld.trans (hb5.mono hHeld.size)
          clear hK K
          try simp only [Act.put, kA, kB, kC]
          refine wpAnyH_take (i := 5) (oi := ⟨some 18, _, _, _, _, _⟩) (v := ?_) rfl (by kernel_rfl) (by kernel_rfl) (by kernel_rfl) (fun _ _ _ h => h) (Or.inl ⟨by kernel_rfl, ?_⟩) hHeld ?_
          rotate_left
          · intro w1 hSw; (try dsimp only at hSw); go_simp <;> with_reducible rfl
          try simp only [Act.put, kA, kB, kC]
          refine wpAnyH_take (i := 6) (oi := ⟨some 24, _, _, _, _, _⟩) (v := ?_) rfl (by kernel_rfl) (by kernel_rfl) (by kernel_rfl) (fun _ _ _ h => h) (Or.inl ⟨by kernel_rfl, ?_⟩) hHeld ?_
          rotate_left
          · intro w1 hSw; (try dsimp only at hSw); go_simp <;> with_reducible rfl
          try simp only [Act.put, kA, kB, kC]
          refine wpAnyH_take (i := 7) (oi := ⟨some 25, _, _, _, _, _⟩) (v := ?_) rfl (by kernel_rfl) (by kernel_rfl) (by kernel_rfl) (fun _ _ _ h => h) (Or.inl ⟨by kernel_rfl, ?_⟩) hHeld ?_
          rotate_left
          · intro w1 hSw; (try dsimp only at hSw); go_simp <;> with_reducible rfl
          try simp only [Act.put, kA, kB, kC]
          refine wpAnyH_ready (rs := [8]) (by kernel_rfl) (by simp) ?_
          refine AllReadyH.cons rfl (fun K hK => ?_) (AllReadyH.nil)
          go_simp
          refine hK.out _ _ ?_ (fun hHeld => ?_)
          · exact hHeld.alloc hHeld.size _
          clear hK K
          try simp only [Act.put, kA, kB, kC]
          refine wpAnyH_ready (rs := [9]) (by kernel_rfl) (by simp) ?_
          refine AllReadyH.cons rfl (fun K hK => ?_) (AllReadyH.nil)
          have hz := Row.new w5 32 zero4
          have hg : W3.heap.size ≤ w5.heap.size := z5
          refine step_store_row rfl 32 _ _ rfl w5.heap.size [.int .i64 s', .int .i64 p', .slice CA cx.length cc, .slice CB cm.length cd] rfl rfl 32 zero4 hz (by kernel_rfl) rfl (by simp [Value.oneCell']) ?_
          refine hK.out _ _ ?_ (fun hHeld => ?_)
          · exact Below.setRow hHeld hg _
          clear hK K
          try simp only [Act.put, kA, kB, kC]
          refine wpAnyH_take (i := 10) (oi := ⟨some 6, _, _, _, _, _⟩) (v := ?_) rfl (by kernel_rfl) (by kernel_rfl) (by kernel_rfl) (fun _ _ _ h => h) (Or.inl ⟨by kernel_rfl, ?_⟩) hHeld ?_
          rotate_left
          · intro w1 hSw; (try dsimp only at hSw); go_simp <;> with_reducible rfl
          try simp only [Act.put, kA, kB, kC]
          refine wpAnyH_done (by kernel_rfl) ?_ _
          go_wp2_with fail
          go_meet
          exact ⟨_, CA, cc, CB, cd, rfl, rfl, hz.setRow _, owned_rd (owns_other w5.heap.size (ho5.alloc _) (fun j hj hne => setRow_other _ _ _ _ hne) (fun e => by have := (ho5.lt _ e).2; omega)), owned_rd (owns_other w5.heap.size (hu5.alloc _) (fun j hj hne => setRow_other _ _ _ _ hne) (fun e => by have := (hu5.lt _ e).2; omega)), (owns_cap ho5).2, hg, hHeld⟩
        ·
          go_simp
          refine hK.out _ _ ?_ (fun hHeld => ?_)
          · exact hHeld.alloc hHeld.size _
          clear hK K
          try simp only [Act.put, kA, kB, kC]
          refine wpAnyH_ready (rs := [4]) (by kernel_rfl) (by simp) ?_
          refine AllReadyH.cons rfl (fun K hK => ?_) (AllReadyH.nil)
          go_simp
          go_at_call 19
          refine (HJN.out _ _ _ _ _ _ _ _ _ (((hga).below hb4b).below ((Below.refl _ _).alloc (Nat.le_refl _) _)) (((hgb).below hb4b).below ((Below.refl _ _).alloc (Nat.le_refl _) _)) ((hha).below ((Below.refl _ _).alloc (Nat.le_refl _) _)) ((hhb).below ((Below.refl _ _).alloc (Nat.le_refl _) _))).mono ?_
          rintro e w5 ⟨CA, cc, CB, cd, rfl, ho5, hu5, hb5⟩
          have z5 := (hHeld.trans (hb5.mono hHeld.size)).size
          try go_simp
          refine hK.out _ _ ?_ (fun hHeld => ?_)
          · exact hHeld.trans (hb5.mono hHeld.size)
          clear hK K
          try simp only [Act.put, kA, kB, kC]
          refine wpAnyH_take (i := 5) (oi := ⟨some 18, _, _, _, _, _⟩) (v := ?_) rfl (by kernel_rfl) (by kernel_rfl) (by kernel_rfl) (fun _ _ _ h => h) (Or.inl ⟨by kernel_rfl, ?_⟩) hHeld ?_
          rotate_left
          · intro w1 hSw; (try dsimp only at hSw); go_simp <;> with_reducible rfl
          try simp only [Act.put, kA, kB, kC]
          refine wpAnyH_take (i := 6) (oi := ⟨some 24, _, _, _, _, _⟩) (v := ?_) rfl (by kernel_rfl) (by kernel_rfl) (by kernel_rfl) (fun _ _ _ h => h) (Or.inl ⟨by kernel_rfl, ?_⟩) hHeld ?_
          rotate_left
          · intro w1 hSw; (try dsimp only at hSw); go_simp <;> with_reducible rfl
          try simp only [Act.put, kA, kB, kC]
          refine wpAnyH_take (i := 7) (oi := ⟨some 25, _, _, _, _, _⟩) (v := ?_) rfl (by kernel_rfl) (by kernel_rfl) (by kernel_rfl) (fun _ _ _ h => h) (Or.inl ⟨by kernel_rfl, ?_⟩) hHeld ?_
          rotate_left
          · intro w1 hSw; (try dsimp only at hSw); go_simp <;> with_reducible rfl
          try simp only [Act.put, kA, kB, kC]
          refine wpAnyH_ready (rs := [9]) (by kernel_rfl) (by simp) ?_
          refine AllReadyH.cons rfl (fun K hK => ?_) (AllReadyH.nil)
          have hz := (Row.new w4b 32 zero4).old hb5
          have hg : W3.heap.size ≤ w4b.heap.size := z4b
          refine step_store_row rfl 32 _ _ rfl w4b.heap.size [.int .i64 s', .int .i64 p', .slice CA cx.length cc, .slice CB cm.length cd] rfl rfl 32 zero4 hz (by kernel_rfl) rfl (by simp [Value.oneCell']) ?_
          refine hK.out _ _ ?_ (fun hHeld => ?_)
          · exact Below.setRow hHeld hg _
          clear hK K
          try simp only [Act.put, kA, kB, kC]
          refine wpAnyH_take (i := 10) (oi := ⟨some 6, _, _, _, _, _⟩) (v := ?_) rfl (by kernel_rfl) (by kernel_rfl) (by kernel_rfl) (fun _ _ _ h => h) (Or.inl ⟨by kernel_rfl, ?_⟩) hHeld ?_
          rotate_left
          · intro w1 hSw; (try dsimp only at hSw); go_simp <;> with_reducible rfl
          try simp only [Act.put, kA, kB, kC]
          refine wpAnyH_done (by kernel_rfl) ?_ _
          go_wp2_with fail
          go_meet
          exact ⟨_, CA, cc, CB, cd, rfl, rfl, hz.setRow _, owned_rd (owns_far ho5 _ _ (by have q1 := hb4.size; have q2 := hb4b.size; (simp at q1 q2 ⊢) <;> omega) (Nat.zero_le _)), owned_rd (owns_far hu5 _ _ (by have q1 := hb4.size; have q2 := hb4b.size; (simp at q1 q2 ⊢) <;> omega) (Nat.zero_le _)), (owns_cap ho5).2, hg, hHeld⟩
      ·
        go_simp
        refine hK.out _ _ ?_ (fun hHeld => ?_)
        · exact hHeld.alloc hHeld.size _
        clear hK K
        try simp only [Act.put, kA, kB, kC]
        refine wpAnyH_ready (rs := [3]) (by kernel_rfl) (by simp) ?_
        refine AllReadyH.cons rfl (fun K hK => ?_) (AllReadyH.nil)
        go_simp
        go_at_call 11
        refine (HG2.out _ (HS3.out.keep hHeld).2.2.2.2.1 (HS3.out.keep hHeld).2.2.2.2.2.1).mono ?_
        rintro e w4b ⟨HA, hc, HB, hd, rfl, hha, hhb, hb4b, -, -⟩
        have z4b := (hHeld.trans (hb4b.mono hHeld.size)).size
        try go_simp
        refine hK.out _ _ ?_ (fun hHeld => ?_)
        · exact hHeld.trans (hb4b.mono hHeld.size)
        clear hK K
        try simp only [Act.put, kA, kB, kC]
        refine wpAnyH_ready (rs := [4]) (by kernel_rfl) (by simp) ?_
        refine AllReadyH.cons rfl (fun K hK => ?_) (AllReadyH.nil)
        go_simp
        go_at_call 19
        refine (HJN.out _ _ _ _ _ _ _ _ _ (((hga).below ((Below.refl _ _).alloc (Nat.le_refl _) _)).below hb4b) (((hgb).below ((Below.refl _ _).alloc (Nat.le_refl _) _)).below hb4b) (hha) (hhb)).mono ?_
        rintro e w5 ⟨CA, cc, CB, cd, rfl, ho5, hu5, hb5⟩
        have z5 := (hHeld.trans (hb5.mono hHeld.size)).size
        try go_simp
        refine hK.out _ _ ?_ (fun hHeld => ?_)
        · exact hHeld.trans (hb5.mono hHeld.size)
        clear hK K
        try simp only [Act.put, kA, kB, kC]
        refine wpAnyH_take (i := 5) (oi := ⟨some 18, _, _, _, _, _⟩) (v := ?_) rfl (by kernel_rfl) (by kernel_rfl) (by kernel_rfl) (fun _ _ _ h => h) (Or.inl ⟨by kernel_rfl, ?_⟩) hHeld ?_
        rotate_left
        · intro w1 hSw; (try dsimp only at hSw); go_simp <;> with_reducible rfl
        try simp only [Act.put, kA, kB, kC]
        refine wpAnyH_take (i := 6) (oi := ⟨some 24, _, _, _, _, _⟩) (v := ?_) rfl (by kernel_rfl) (by kernel_rfl) (by kernel_rfl) (fun _ _ _ h => h) (Or.inl ⟨by kernel_rfl, ?_⟩) hHeld ?_
        rotate_left
        · intro w1 hSw; (try dsimp only at hSw); go_simp <;> with_reducible rfl
        try simp only [Act.put, kA, kB, kC]
        refine wpAnyH_take (i := 7) (oi := ⟨some 25, _, _, _, _, _⟩) (v := ?_) rfl (by kernel_rfl) (by kernel_rfl) (by kernel_rfl) (fun _ _ _ h => h) (Or.inl ⟨by kernel_rfl, ?_⟩) hHeld ?_
        rotate_left
        · intro w1 hSw; (try dsimp only at hSw); go_simp <;> with_reducible rfl
        try simp only [Act.put, kA, kB, kC]
        refine wpAnyH_ready (rs := [9]) (by kernel_rfl) (by simp) ?_
        refine AllReadyH.cons rfl (fun K hK => ?_) (AllReadyH.nil)
        have hz := ((Row.new w4 32 zero4).old hb4b).old hb5
        have hg : W3.heap.size ≤ w4.heap.size := z4
        refine step_store_row rfl 32 _ _ rfl w4.heap.size [.int .i64 s', .int .i64 p', .slice CA cx.length cc, .slice CB cm.length cd] rfl rfl 32 zero4 hz (by kernel_rfl) rfl (by simp [Value.oneCell']) ?_
        refine hK.out _ _ ?_ (fun hHeld => ?_)
        · exact Below.setRow hHeld hg _
        clear hK K
        try simp only [Act.put, kA, kB, kC]
        refine wpAnyH_take (i := 10) (oi := ⟨some 6, _, _, _, _, _⟩) (v := ?_) rfl (by kernel_rfl) (by kernel_rfl) (by kernel_rfl) (fun _ _ _ h => h) (Or.inl ⟨by kernel_rfl, ?_⟩) hHeld ?_
        rotate_left
        · intro w1 hSw; (try dsimp only at hSw); go_simp <;> with_reducible rfl
        try simp only [Act.put, kA, kB, kC]
        refine wpAnyH_done (by kernel_rfl) ?_ _
        go_wp2_with fail
        go_meet
        exact ⟨_, CA, cc, CB, cd, rfl, rfl, hz.setRow _, owned_rd (owns_far ho5 _ _ (by have q1 := hb4.size; have q2 := hb4b.size; (simp at q1 q2 ⊢) <;> omega) (Nat.zero_le _)), owned_rd (owns_far hu5 _ _ (by have q1 := hb4.size; have q2 := hb4b.size; (simp at q1 q2 ⊢) <;> omega) (Nat.zero_le _)), (owns_cap ho5).2, hg, hHeld⟩
    ·
      go_simp
      refine hK.out _ _ ?_ (fun hHeld => ?_)
      · exact hHeld.alloc hHeld.size _
      clear hK K
      try simp only [Act.put, kA, kB, kC]
      refine wpAnyH_ready (rs := [1]) (by kernel_rfl) (by simp) ?_
      refine AllReadyH.cons rfl (fun K hK => ?_) (AllReadyH.nil)
      go_simp
      go_at_call 11
      refine (HG1.out _ (HS3.out.keep hHeld).2.2.1 (HS3.out.keep hHeld).2.2.2.1).mono ?_
      rintro e w4 ⟨GA, gc, GB, gd, rfl, hga, hgb, hb4, -, -⟩
      have z4 := (hHeld.trans (hb4.mono hHeld.size)).size
      try go_simp
      refine hK.out _ _ ?_ (fun hHeld => ?_)
      · exact hHeld.trans (hb4.mono hHeld.size)
      clear hK K
      try simp only [Act.put, kA, kB, kC]
      refine wpAnyH_ready (rs := [3]) (by kernel_rfl) (by simp) ?_
      refine AllReadyH.cons rfl (fun K hK => ?_) (AllReadyH.nil)
      go_simp
      go_at_call 11
      refine (HG2.out _ (HS3.out.keep hHeld).2.2.2.2.1 (HS3.out.keep hHeld).2.2.2.2.2.1).mono ?_
      rintro e w4b ⟨HA, hc, HB, hd, rfl, hha, hhb, hb4b, -, -⟩
      have z4b := (hHeld.trans (hb4b.mono hHeld.size)).size
      try go_simp
      refine hK.out _ _ ?_ (fun hHeld => ?_)
      · exact hHeld.trans (hb4b.mono hHeld.size)
      clear hK K
      try simp only [Act.put, kA, kB, kC]
      refine wpAnyH_ready (rs := [4]) (by kernel_rfl) (by simp) ?_
      refine AllReadyH.cons rfl (fun K hK => ?_) (AllReadyH.nil)
      go_simp
      go_at_call 19
      refine (HJN.out _ _ _ _ _ _ _ _ _ ((hga).below hb4b) ((hgb).below hb4b) (hha) (hhb)).mono ?_
      rintro e w5 ⟨CA, cc, CB, cd, rfl, ho5, hu5, hb5⟩
      have z5 := (hHeld.trans (hb5.mono hHeld.size)).size
      try go_simp
      refine hK.out _ _ ?_ (fun hHeld => ?_)
      · exact hHeld.trans (hb5.mono hHeld.size)
      clear hK K
      try simp only [Act.put, kA, kB, kC]
      refine wpAnyH_take (i := 5) (oi := ⟨some 18, _, _, _, _, _⟩) (v := ?_) rfl (by kernel_rfl) (by kernel_rfl) (by kernel_rfl) (fun _ _ _ h => h) (Or.inl ⟨by kernel_rfl, ?_⟩) hHeld ?_
      rotate_left
      · intro w1 hSw; (try dsimp only at hSw); go_simp <;> with_reducible rfl
      try simp only [Act.put, kA, kB, kC]
      refine wpAnyH_take (i := 6) (oi := ⟨some 24, _, _, _, _, _⟩) (v := ?_) rfl (by kernel_rfl) (by kernel_rfl) (by kernel_rfl) (fun _ _ _ h => h) (Or.inl ⟨by kernel_rfl, ?_⟩) hHeld ?_
      rotate_left
      · intro w1 hSw; (try dsimp only at hSw); go_simp <;> with_reducible rfl
      try simp only [Act.put, kA, kB, kC]
      refine wpAnyH_take (i := 7) (oi := ⟨some 25, _, _, _, _, _⟩) (v := ?_) rfl (by kernel_rfl) (by kernel_rfl) (by kernel_rfl) (fun _ _ _ h => h) (Or.inl ⟨by kernel_rfl, ?_⟩) hHeld ?_
      rotate_left
      · intro w1 hSw; (try dsimp only at hSw); go_simp <;> with_reducible rfl
      try simp only [Act.put, kA, kB, kC]
      refine wpAnyH_ready (rs := [9]) (by kernel_rfl) (by simp) ?_
      refine AllReadyH.cons rfl (fun K hK => ?_) (AllReadyH.nil)
      have hz := (((Row.new W3.drew 32 zero4).old hb4).old hb4b).old hb5
      have hg : W3.heap.size ≤ W3.heap.size := Nat.le_refl _
      refine step_store_row rfl 32 _ _ rfl W3.heap.size [.int .i64 s', .int .i64 p', .slice CA cx.length cc, .slice CB cm.length cd] rfl rfl 32 zero4 hz (by kernel_rfl) rfl (by simp [Value.oneCell']) ?_
      refine hK.out _ _ ?_ (fun hHeld => ?_)
      · exact Below.setRow hHeld hg _
      clear hK K
      try simp only [Act.put, kA, kB, kC]
      refine wpAnyH_take (i := 10) (oi := ⟨some 6, _, _, _, _, _⟩) (v := ?_) rfl (by kernel_rfl) (by kernel_rfl) (by kernel_rfl) (fun _ _ _ h => h) (Or.inl ⟨by kernel_rfl, ?_⟩) hHeld ?_
      rotate_left
      · intro w1 hSw; (try dsimp only at hSw); go_simp <;> with_reducible rfl
      try simp only [Act.put, kA, kB, kC]
      refine wpAnyH_done (by kernel_rfl) ?_ _
      go_wp2_with fail
      go_meet
      exact ⟨_, CA, cc, CB, cd, rfl, rfl, hz.setRow _, owned_rd (owns_far ho5 _ _ (by have q1 := hb4.size; have q2 := hb4b.size; (simp at q1 q2 ⊢) <;> omega) (Nat.zero_le _)), owned_rd (owns_far hu5 _ _ (by have q1 := hb4.size; have q2 := hb4b.size; (simp at q1 q2 ⊢) <;> omega) (Nat.zero_le _)), (owns_cap ho5).2, hg, hHeld⟩
  case rest =>
    obtain ⟨g5, CA, cc, CB, cd, rfl, rfl, r5, hca, hcb, hcn, hg5, hb3⟩ := hcut
    have HS4 := Lib.hid (HS3.out.keep hb3); have H5 := Lib.hid r5; have HCA := Lib.hid hca; have HCB := Lib.hid hcb; have HCN := Lib.hid hcn
    clear r5 hca hcb hcn hg5 hb3 HS3 HJN HG1 HG2
    obtain ⟨W4, hW4⟩ : ∃ W4 : World, W4 = wc := ⟨_, rfl⟩
    subst hW4
    go_upto_region 4 with fail
    refine wp_region_held_drew (S := fun V => Below W4.heap.size W4 V) (by kernel_rfl) ?_ (fun hHeld => ?_)
    · exact (Below.refl _ _).drew
    refine wpAnyH_take (i := 0) (oi := ⟨some 26, _, _, _, _, _⟩) (v := .agg #[.int .i64 st, .int .i64 sp, .slice A xs.length c, .slice B ms.length d]) rfl (by kernel_rfl) (by kernel_rfl) (by kernel_rfl) (fun _ _ _ h => h) (Or.inl ⟨by kernel_rfl, fun V hV => ex_row2 25 _ rfl w.heap.size rfl 25 [.int .i64 st, .int .i64 sp, .slice A xs.length c, .slice B ms.length d] _ Tryz.underlying25 rfl (by kernel_rfl) (HS4.out.keep hV).1⟩) hHeld ?_
    try simp only [Act.put, kA, kB, kC]
    refine wpAnyH_take (i := 2) (oi := ⟨some 28, _, _, _, _, _⟩) (v := .agg #[.int .i64 st2, .int .i64 sp2, .slice C ys.length e1, .slice D ns.length e2]) rfl (by kernel_rfl) (by kernel_rfl) (by kernel_rfl) (fun _ _ _ h => h) (Or.inl ⟨by kernel_rfl, fun V hV => ex_row2 25 _ rfl (w.heap.size + 1) rfl 25 [.int .i64 st2, .int .i64 sp2, .slice C ys.length e1, .slice D ns.length e2] _ Tryz.underlying25 rfl (by kernel_rfl) (HS4.out.keep hV).2.1⟩) hHeld ?_
    try simp only [Act.put, kA, kB, kC]
    refine wpAnyH_ready (rs := [1]) (by kernel_rfl) (by simp) ?_
    refine AllReadyH.cons rfl (fun K hK => ?_) AllReadyH.nil
    go_simp
    go_at_call 12
    refine (HC1.out _ (HS4.out.keep hHeld).2.2.1 (HS4.out.keep hHeld).2.2.2.1).mono ?_
    rintro e w6 ⟨rfl, hb6⟩
    try go_simp
    refine hK.out _ _ ?_ (fun hHeld => ?_)
    · exact hHeld.trans (hb6.mono hHeld.size)
    clear hK K
    try simp only [Act.put, kA, kB, kC]
    refine wpAnyH_ready (rs := [3]) (by kernel_rfl) (by simp) ?_
    refine AllReadyH.cons rfl (fun K hK => ?_) AllReadyH.nil
    go_simp
    go_at_call 12
    refine (HC2.out _ (HS4.out.keep hHeld).2.2.2.2.1 (HS4.out.keep hHeld).2.2.2.2.2.1).mono ?_
    rintro e w6b ⟨rfl, hb6b⟩
    try go_simp
    refine hK.out _ _ ?_ (fun hHeld => ?_)
    · exact hHeld.trans (hb6b.mono hHeld.size)
    clear hK K
    try simp only [Act.put, kA, kB, kC]
    refine wpAnyH_ready (rs := [4]) (by kernel_rfl) (by simp) ?_
    refine AllReadyH.cons rfl (fun K hK => ?_) AllReadyH.nil
    go_simp
    refine hK.out _ _ ?_ (fun hHeld => ?_)
    · exact hHeld.alloc hHeld.size _
    clear hK K
    try simp only [Act.put, kA, kB, kC]
    refine wpAnyH_ready (rs := [5]) (by kernel_rfl) (by simp) ?_
    refine AllReadyH.cons rfl (fun K hK => ?_) AllReadyH.nil
    go_simp
    go_at_call 13
    refine (first_any _ _ _ [E1, E2] _ ?_ rfl (by simp)).mono ?_
    · exact Rd.new _ _ _ _ (by simp)
    rintro e w7 ⟨rfl, rfl⟩
    rw [HON.out]
    try go_simp
    refine hK.out _ _ ?_ (fun hHeld => ?_)
    · exact hHeld
    clear hK K
    try simp only [Act.put, kA, kB, kC]
    refine wpAnyH_take (i := 6) (oi := ⟨some 7, _, _, _, _, _⟩) (v := ?_) rfl (by kernel_rfl) (by kernel_rfl) (by kernel_rfl) (fun _ _ _ h => h) (Or.inl ⟨by kernel_rfl, ?_⟩) hHeld ?_
    rotate_left
    · intro w1 hSw; (try dsimp only at hSw); go_simp <;> with_reducible rfl
    try simp only [Act.put, kA, kB, kC]
    refine wpAnyH_done (by kernel_rfl) ?_ _
    refine genR (fun V => RjS w A B C D xs ms ys ns [.int .i64 st, .int .i64 sp, .slice A xs.length c, .slice B ms.length d] [.int .i64 st2, .int .i64 sp2, .slice C ys.length e1, .slice D ns.length e2] V ∧ Row V g5 32 [.int .i64 s', .int .i64 p', .slice CA cx.length cc, .slice CB cm.length cd] ∧ Rd V CA (flts cx) ∧ Rd V CB (markC cm)) ⟨HS4.out.keep hHeld, H5.out.old hHeld, HCA.out.below hHeld, HCB.out.below hHeld⟩ ?_
    clear hHeld HS4 H5 HCA HCB HC1 HC2
    rintro W7 ⟨s7, r7, a7, b7⟩
    have HS7 := Lib.hid s7; have H7 := Lib.hid r7; have HA7 := Lib.hid a7; have HB7 := Lib.hid b7
    clear s7 r7 a7 b7
    go_upto_if 34 with (refine wpList_store_row rfl 25 _ _ rfl W7.heap.size zero4.toArray rfl rfl 25 _ (Row.new W7 25 zero4) ?_ ?_ ?_ ?_; (kernel_rfl); (rfl); (simp [zero4, Value.oneCell']))
    have nb := new_below W7 (.cells zero4.toArray 25) zero4.toArray
    refine genR (fun V => Below W7.heap.size W7 V ∧ Row V W7.heap.size 25 zero4) ⟨nb, new_row W7 25 zero4 zero4⟩ ?_
    clear nb
    rintro W8 ⟨n8, r9⟩
    have HN8 := Lib.hid n8
    have HS8 := Lib.hid (HS7.out.keep n8); have H9 := Lib.hid r9
    clear n8 r9
    go_cut [7] from 34 to 41 (fun s8 wx => ∃ (QA : Option Addr) (qc : Nat) (QB : Option Addr) (qd : Nat), s8 = .int .i64 CE ∧ RjS w A B C D xs ms ys ns [.int .i64 st, .int .i64 sp, .slice A xs.length c, .slice B ms.length d] [.int .i64 st2, .int .i64 sp2, .slice C ys.length e1, .slice D ns.length e2] wx ∧ Row wx g5 32 [.int .i64 s', .int .i64 p', .slice CA cx.length cc, .slice CB cm.length cd] ∧ Rd wx CA (flts cx) ∧ Rd wx CB (markC cm) ∧ Row wx W7.heap.size 25 [.int .i64 s', .int .i64 p', .slice QA cx.length qc, .slice QB cm.length qd] ∧ Rd wx QA (flts cx) ∧ Rd wx QB (markC cm))
    case first =>
      clear HSF
      by_cases hE : ONE = 0
      · have HRF2 := Lib.hid (HRF.out hE)
        have hE2 : (ONE == 0) = true := by simpa using hE
        clear HRF HNO hE HON
        go_wp2_with (first | (refine wpList_load_row rfl 25 _ rfl w.heap.size rfl 25 #[.int .i64 st, .int .i64 sp, .slice A xs.length c, .slice B ms.length d] (0, 0) _ HS8.out.1 Tryz.underlying25 rfl ?_ ?_; (kernel_rfl)) | (refine wpList_load_row rfl 25 _ rfl (w.heap.size + 1) rfl 25 #[.int .i64 st2, .int .i64 sp2, .slice C ys.length e1, .slice D ns.length e2] (0, 0) _ HS8.out.2.1 Tryz.underlying25 rfl ?_ ?_; (kernel_rfl)) | (go_at_call 20; refine (HRF2.out _ HS8.out.2.2.1 HS8.out.2.2.2.1 HS8.out.2.2.2.2.1 HS8.out.2.2.2.2.2.1).mono ?_; rintro e w9 ⟨QA, qc, QB, qd, rfl, hqa, hqb, hb9⟩; have K9 := Lib.hid (H9.out.old hb9); have KQA := Lib.hid hqa; have KQB := Lib.hid hqb; have KB9 := Lib.hid (HN8.out.trans (hb9.mono HN8.out.size)); have Z9 := Lib.hid (H9.out.lt); clear hqa hqb hb9) | (refine wpList_store_row rfl 25 _ _ rfl W7.heap.size #[.int .i64 s', .int .i64 p', .slice QA cx.length qc, .slice QB cm.length qd] rfl rfl 25 _ K9.out ?_ ?_ ?_ ?_; (kernel_rfl); (rfl); (simp [Value.oneCell'])))
        go_meet
        have nb : Below W7.heap.size W7 (w9.setRow W7.heap.size [.int .i64 s', .int .i64 p', .slice QA cx.length qc, .slice QB cm.length qd].toArray) := Below.setRow KB9.out (Nat.le_refl _) _
        exact ⟨QA, qc, QB, qd, rfl, HS7.out.keep nb, H7.out.old nb, HA7.out.below nb, HB7.out.below nb, K9.out.setRow _, owned_rd (owns_far KQA.out _ _ Z9.out (Nat.zero_le _)), owned_rd (owns_far KQB.out _ _ Z9.out (Nat.zero_le _))⟩
      · have hE2 : (ONE == 0) = false := by simpa using hE
        obtain ⟨f1, f2, f3, f4, f5⟩ := HNO.out hE
        subst f1 f2 f3 f4 f5
        clear HRF HNO hE HON
        go_wp2_with fail
        go_meet
        exact ⟨none, 0, none, 0, rfl, HS8.out, H7.out.old HN8.out, HA7.out.below HN8.out, HB7.out.below HN8.out, H9.out, (fun j v hv => by simp [flts] at hv), (fun j v hv => by simp [markC] at hv)⟩
    case rest =>
      obtain ⟨QA, qc, QB, qd, rfl, s9, r5, a5, b5, r9, qa, qb⟩ := hcut
      have HS9 := Lib.hid s9; have H5 := Lib.hid r5; have HCA := Lib.hid a5; have HCB := Lib.hid b5; have H9' := Lib.hid r9; have HQA := Lib.hid qa; have HQB := Lib.hid qb
      clear s9 r5 a5 b5 r9 qa qb HS8 HS7 H7 HA7 HB7 HN8 H9 HRF HNO HON
      obtain ⟨W9, hW9⟩ : ∃ W9 : World, W9 = wc := ⟨_, rfl⟩
      subst hW9
      have H9 := H9'
      go_upto_region 8 with fail
      refine wp_region_held_drew (S := fun V => Below W9.heap.size W9 V) (by kernel_rfl) ?_ (fun hHeld => ?_)
      · exact (Below.refl _ _).drew
      refine wpAnyH_take (i := 0) (oi := ⟨some 41, _, _, _, _, _⟩) (v := .agg #[.int .i64 s', .int .i64 p', .slice CA cx.length cc, .slice CB cm.length cd]) rfl (by kernel_rfl) (by kernel_rfl) (by kernel_rfl) (fun _ _ _ h => h) (Or.inl ⟨by kernel_rfl, fun V hV => ex_row2 32 _ rfl g5 rfl 32 [.int .i64 s', .int .i64 p', .slice CA cx.length cc, .slice CB cm.length cd] _ Tryz.underlying32 rfl (by kernel_rfl) (H5.out.old hV)⟩) hHeld ?_
      try simp only [Act.put, kA, kB, kC]
      refine wpAnyH_take (i := 2) (oi := ⟨some 43, _, _, _, _, _⟩) (v := .agg #[.int .i64 s', .int .i64 p', .slice QA cx.length qc, .slice QB cm.length qd]) rfl (by kernel_rfl) (by kernel_rfl) (by kernel_rfl) (fun _ _ _ h => h) (Or.inl ⟨by kernel_rfl, fun V hV => ex_row2 25 _ rfl W7.heap.size rfl 25 [.int .i64 s', .int .i64 p', .slice QA cx.length qc, .slice QB cm.length qd] _ Tryz.underlying25 rfl (by kernel_rfl) (H9.out.old hV)⟩) hHeld ?_
      try simp only [Act.put, kA, kB, kC]
      refine wpAnyH_ready (rs := [1]) (by kernel_rfl) (by simp) ?_
      refine AllReadyH.cons rfl (fun K hK => ?_) AllReadyH.nil
      go_simp
      go_at_call 18
      refine (told_ok s' p' CA CB cc cd cx cm _ (HCA.out.below hHeld) (HCB.out.below hHeld) HX.out HM.out HCN.out).mono ?_
      rintro e v3 ⟨TA, tc, TB, td, rfl, hta, htb, hb3⟩
      have TA' := Lib.hid hta; have TB' := Lib.hid htb
      clear hta htb
      try go_simp
      refine hK.out _ _ ?_ (fun hHeld => ?_)
      · exact hHeld.trans (hb3.mono hHeld.size)
      clear hK K
      try simp only [Act.put, kA, kB, kC]
      refine wpAnyH_ready (rs := [3]) (by kernel_rfl) (by simp) ?_
      refine AllReadyH.cons rfl (fun K hK => ?_) AllReadyH.nil
      go_simp
      go_at_call 17
      refine (sameRecording_true s' p' TA TB QA QB tc td qc qd cx cx cm _ TA'.out TB'.out (HQA.out.below hHeld) (HQB.out.below hHeld) HX.out HM.out HSF.out).mono ?_
      rintro e v4 ⟨rfl, hb4⟩
      try go_simp
      refine hK.out _ _ ?_ (fun hHeld => ?_)
      · exact hHeld.trans (hb4.mono hHeld.size)
      clear hK K
      try simp only [Act.put, kA, kB, kC]
      refine wpAnyH_take (i := 4) (oi := ⟨some 45, _, _, _, _, _⟩) (v := ?_) rfl (by kernel_rfl) (by kernel_rfl) (by kernel_rfl) (fun _ _ _ h => h) (Or.inl ⟨by kernel_rfl, ?_⟩) hHeld ?_
      rotate_left
      · intro w1 hSw; (try dsimp only at hSw); go_simp <;> with_reducible rfl
      try simp only [Act.put, kA, kB, kC]
      refine wpAnyH_take (i := 5) (oi := ⟨some 46, _, _, _, _, _⟩) (v := ?_) rfl (by kernel_rfl) (by kernel_rfl) (by kernel_rfl) (fun _ _ _ h => h) (Or.inl ⟨by kernel_rfl, ?_⟩) hHeld ?_
      rotate_left
      · intro w1 hSw; (try dsimp only at hSw); go_simp <;> with_reducible rfl
      try simp only [Act.put, kA, kB, kC]
      refine wpAnyH_take (i := 6) (oi := ⟨some 47, _, _, _, _, _⟩) (v := ?_) rfl (by kernel_rfl) (by kernel_rfl) (by kernel_rfl) (fun _ _ _ h => h) (Or.inl ⟨by kernel_rfl, ?_⟩) hHeld ?_
      rotate_left
      · intro w1 hSw; (try dsimp only at hSw); go_simp <;> with_reducible rfl
      try simp only [Act.put, kA, kB, kC]
      refine wpAnyH_take (i := 7) (oi := ⟨some 48, _, _, _, _, _⟩) (v := ?_) rfl (by kernel_rfl) (by kernel_rfl) (by kernel_rfl) (fun _ _ _ h => h) (Or.inl ⟨by kernel_rfl, ?_⟩) hHeld ?_
      rotate_left
      · intro w1 hSw; (try dsimp only at hSw); go_simp <;> with_reducible rfl
      try simp only [Act.put, kA, kB, kC]
      refine wpAnyH_take (i := 8) (oi := ⟨some 49, _, _, _, _, _⟩) (v := ?_) rfl (by kernel_rfl) (by kernel_rfl) (by kernel_rfl) (fun _ _ _ h => h) (Or.inl ⟨by kernel_rfl, ?_⟩) hHeld ?_
      rotate_left
      · intro w1 hSw; (try dsimp only at hSw); go_simp <;> with_reducible rfl
      try simp only [Act.put, kA, kB, kC]
      refine wpAnyH_take (i := 9) (oi := ⟨some 50, _, _, _, _, _⟩) (v := ?_) rfl (by kernel_rfl) (by kernel_rfl) (by kernel_rfl) (fun _ _ _ h => h) (Or.inl ⟨by kernel_rfl, ?_⟩) hHeld ?_
      rotate_left
      · intro w1 hSw; (try dsimp only at hSw); go_simp <;> with_reducible rfl
      try simp only [Act.put, kA, kB, kC]
      refine wpAnyH_ready (rs := [10]) (by kernel_rfl) (by simp) ?_
      refine AllReadyH.cons rfl (fun K hK => ?_) AllReadyH.nil
      go_simp
      go_at_call 9
      refine (haw _ (HS9.out.keep hHeld).2.2.2.2.2.2.1).mono ?_
      rintro e v5 ⟨rfl, hb5⟩
      try go_simp
      refine hK.out _ _ ?_ (fun hHeld => ?_)
      · exact hHeld.trans (hb5.mono hHeld.size)
      clear hK K
      try simp only [Act.put, kA, kB, kC]
      refine wpAnyH_take (i := 11) (oi := ⟨some 52, _, _, _, _, _⟩) (v := ?_) rfl (by kernel_rfl) (by kernel_rfl) (by kernel_rfl) (fun _ _ _ h => h) (Or.inl ⟨by kernel_rfl, ?_⟩) hHeld ?_
      rotate_left
      · intro w1 hSw; (try dsimp only at hSw); go_simp <;> with_reducible rfl
      try simp only [Act.put, kA, kB, kC]
      refine wpAnyH_take (i := 12) (oi := ⟨some 4, _, _, _, _, _⟩) (v := ?_) rfl (by kernel_rfl) (by kernel_rfl) (by kernel_rfl) (fun _ _ _ h => h) (Or.inl ⟨by kernel_rfl, ?_⟩) hHeld ?_
      rotate_left
      · intro w1 hSw; (try dsimp only at hSw); go_simp <;> with_reducible rfl
      try simp only [Act.put, kA, kB, kC]
      refine wpAnyH_done (by kernel_rfl) ?_ _
      go_wp2
      go_ret
      exact ⟨rfl, HS9.out.2.2.2.2.2.2.2.trans (hHeld.mono HS9.out.2.2.2.2.2.2.2.size)⟩
end Go.Proofs.YtphgfiihccofnaaGreatDoor
