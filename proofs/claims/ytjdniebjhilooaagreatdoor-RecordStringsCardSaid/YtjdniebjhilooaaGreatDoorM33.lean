import Derived.Test.YtjdniebjhilooaaGreatDoorM32
namespace Go.Proofs.YtjdniebjhilooaaGreatDoor
set_option linter.all false
open Go.RowKit Go.Fl
def namesB (ms : List (Int × ByteArray)) : Bool := ms.all fun m => decide (m.2.size ≤ 40)
def shortRB (n : Nat) (ms : List (Int × ByteArray)) : Bool := namesB ms && shortB n && (decide (ms.length ≤ 6) || decide (ms.length = 17))
set_option maxRecDepth 100000 in
set_option maxHeartbeats 1000000 in
theorem shortRecording_any (st sp : Int) (A B : Option Addr) (n c m d : Nat) (ms : List (Int × ByteArray)) (w : World) (hB : Rd w B (markC ms)) (hm : m = ms.length) (hx : n ≤ 9223372036854775807) (hmm : ms.length ≤ 9223372036854775807) :
 Calls Tryz.prog 7 #[.agg #[.int .i64 st, .int .i64 sp, .slice A n c, .slice B m d]] w fun e w' => e = .returned (.bool (shortRB n ms)) ∧ Below w.heap.size w w' := by
 subst hm
 have HB : Hid (∀ W, Below w.heap.size w W → Rd W B (markC ms)) := fun W h => hB.below h
 have R0 := Lib.hid (Row.new w 25 [.int .i64 st, .int .i64 sp, .slice A n c, .slice B ms.length d])
 have B0 : Hid (Below w.heap.size w (w.alloc (.cells #[.int .i64 st, .int .i64 sp, .slice A n c, .slice B ms.length d] 25))) := (Below.refl _ _).alloc (Nat.le_refl _) _
 have HSL := Lib.hid (fun W => shortList_any A n c W hx)
 obtain ⟨SB, hSB⟩ : ∃ SB, SB = shortB n := ⟨_, rfl⟩
 rw [← hSB] at HSL
 have HSR : Hid (shortRB n ms = (namesB ms && SB && (decide (ms.length ≤ 6) || decide (ms.length = 17)))) := by unfold Hid shortRB; rw [hSB]
 clear hB hSB
 go_enter Tryz.func7, Tryz.ntmps7
 go_wp2
 go_loopw [3] (fun i wr => ∃ k : Nat, k ≤ ms.length ∧ i = .int .i64 k ∧ Hid (namesB (ms.drop k) = namesB ms) ∧ Hid (Row wr w.heap.size 25 [.int .i64 st, .int .i64 sp, .slice A n c, .slice B ms.length d]) ∧ Hid (Below w.heap.size w wr)) (fun i _ => ms.length - (intOf i).toNat)
 case atStart => exact ⟨0, Nat.zero_le _, rfl, rfl, R0, B0⟩
 case round =>
  clear R0 B0
  obtain ⟨k, hk, rfl, HF, R3, HBW3⟩ := hrel
  have q0 := R3.out.cell 0; have q1 := R3.out.cell 1; have q2 := R3.out.cell 2; have q3 := R3.out.cell 3
  simp only [List.getElem?_cons_succ, List.getElem?_cons_zero] at q0 q1 q2 q3
  by_cases hlt : k < ms.length
  · obtain ⟨b, off, hAb, hc1, hc2⟩ := Rd.mark (HB.out _ HBW3.out) hlt
    subst hAb
    have hd : namesB (ms.drop k) = (decide (ms[k].2.size ≤ 40) && namesB (ms.drop (k + 1))) := by
     unfold namesB; rw [List.drop_eq_getElem_cons hlt, List.all_cons]
    rw [HF.out] at hd
    obtain ⟨nm, hnm⟩ : ∃ nm, nm = ms[k].2 := ⟨_, rfl⟩
    rw [← hnm] at hc2 hd
    have HD := Lib.hid hd
    clear hd hnm HF hc1
    by_cases h40 : nm.size ≤ 40
    · have g1 : decide ((40 : Int) < (nm.size : Int)) = false := decide_eq_false (by omega)
      have HF : Hid (namesB (ms.drop (k + 1)) = namesB ms) := by unfold Hid; rw [HD.out, decide_eq_true h40]; rfl
      clear HD h40
      go_wp2
      go_roundw
      case rel => exact ⟨k + 1, by omega, by go_num, HF, R3, HBW3⟩
      case measure => simp [intOf]; omega
    · have g1 : (40 : Int) < (nm.size : Int) := by omega
      have HF : Hid (shortRB n ms = false) := by unfold Hid; rw [HSR.out, HD.out, decide_eq_false h40]; rfl
      clear HD h40
      go_wp2
      go_ret
      exact ⟨ret_bool HF.out.symm, HBW3.out⟩
  · obtain rfl : k = ms.length := by omega
    have HN : Hid (namesB ms = true) := by unfold Hid; rw [← HF.out, List.drop_of_length_le (Nat.le_refl _)]; rfl
    have HSR2 : Hid (shortRB n ms = (SB && (decide (ms.length ≤ 6) || decide (ms.length = 17)))) := by unfold Hid; rw [HSR.out, HN.out]; rfl
    clear HSR HN HF
    cases SB
    · have HF : Hid (shortRB n ms = false) := HSR2.out
      clear HSR2
      go_wp2_with (go_at_call 31; refine (HSL.out _).mono ?_; rintro e w1 ⟨rfl, hb1⟩; have HB1 := Lib.hid (HBW3.out.trans (hb1.mono HBW3.out.size)); have R4 := Lib.hid (R3.out.old hb1); have p3 := R4.out.cell 3; simp only [List.getElem?_cons_succ, List.getElem?_cons_zero] at p3; clear hb1)
      go_ret
      exact ⟨ret_bool HF.out.symm, HB1.out⟩
    · by_cases h6 : ms.length ≤ 6
      · have HF : Hid (shortRB n ms = true) := by unfold Hid; rw [HSR2.out, decide_eq_true h6]; rfl
        have g1 : (ms.length : Int) ≤ 6 := by omega
        clear HSR2
        go_wp2_with (go_at_call 31; refine (HSL.out _).mono ?_; rintro e w1 ⟨rfl, hb1⟩; have HB1 := Lib.hid (HBW3.out.trans (hb1.mono HBW3.out.size)); have R4 := Lib.hid (R3.out.old hb1); have p3 := R4.out.cell 3; simp only [List.getElem?_cons_succ, List.getElem?_cons_zero] at p3; clear hb1)
        go_ret
        exact ⟨ret_bool HF.out.symm, HB1.out⟩
      · have g1 : decide ((ms.length : Int) ≤ 6) = false := decide_eq_false (by omega)
        obtain ⟨b17, hb17⟩ : ∃ b17, b17 = ((ms.length : Int) == 17) := ⟨_, rfl⟩
        have HF : Hid (shortRB n ms = b17) := by
         unfold Hid; rw [HSR2.out, decide_eq_false h6, hb17]
         by_cases h7 : ms.length = 17
         · rw [decide_eq_true h7, h7]; rfl
         · rw [decide_eq_false h7]; symm; simp only [Bool.false_or, Bool.and_false]; rw [beq_eq_false_iff_ne]; omega
        have g2 : ((ms.length : Int) == 17) = b17 := hb17.symm
        clear HSR2 h6 hb17
        go_wp2_with (go_at_call 31; refine (HSL.out _).mono ?_; rintro e w1 ⟨rfl, hb1⟩; have HB1 := Lib.hid (HBW3.out.trans (hb1.mono HBW3.out.size)); have R4 := Lib.hid (R3.out.old hb1); have p3 := R4.out.cell 3; simp only [List.getElem?_cons_succ, List.getElem?_cons_zero] at p3; clear hb1)
        go_ret
        exact ⟨ret_bool HF.out.symm, HB1.out⟩
theorem own_nb {w : World} {B g : Nat} {e : TypeId} {s n : Nat} {v : Value} {xs : List Value} (h : w.ownsRow B e s v n xs) (hg : g < B) : some g ≠ v.ownBlock := fun hh => by have := (h.lt g hh.symm).1; omega
theorem ex_row2 {P : Program} {o : Oper} {a : Act} {w : World} (ty : TypeId) (x : Operand) (ho : o.op = .load ty x) (g : Nat) (hx : a.eval x = .pointer (some ⟨g, 0, none⟩)) (t : TypeId) (cs : List Value) (d : TypeDesc)
 (hu : P.underlying ty = some d) (hd : (match d with | .struct _ | .array _ _ => true | _ => false) = true) (hi : (P.info? ty).map (·.size) = some cs.length) (hr : Row w g t cs) : (execOp a.eval o).run P w = .ok (.value (.agg cs.toArray)) w := by
 unfold execOp
 simp only [ho, hx, Instr.loadAt, Instr.sureAddr, Sem.run_bind, Sem.run_pure, Result.andThen_ok, run_loadVar_row w g t ty cs.toArray (0, 0) d hr hu hd (by simpa using hi)]
def RrS (w : World) (A B : Option Addr) (xs : List Nat) (ms : List (Int × ByteArray)) (L0 L1 : List Value) (W : World) : Prop := Row W w.heap.size 25 L0 ∧ Row W (w.heap.size + 1) 70 L1 ∧ Rd W A (flts xs) ∧ Rd W B (markC ms) ∧ Aw W ∧ Below w.heap.size w W
theorem RrS.keep {w W W' : World} {A B : Option Addr} {xs : List Nat} {ms : List (Int × ByteArray)} {L0 L1 : List Value} (h : RrS w A B xs ms L0 L1 W) (hb : Below W.heap.size W W') : RrS w A B xs ms L0 L1 W' :=
 ⟨h.1.old hb, h.2.1.old hb, h.2.2.1.below hb, h.2.2.2.1.below hb, h.2.2.2.2.1.old hb, h.2.2.2.2.2.trans (hb.mono h.2.2.2.2.2.size)⟩
theorem RrS.new {w : World} {A B : Option Addr} {xs : List Nat} {ms : List (Int × ByteArray)} {L0 L1 : List Value} (hA : Rd w A (flts xs)) (hB : Rd w B (markC ms)) (hW : Aw w) : RrS w A B xs ms L0 L1 ((w.alloc (.cells L0.toArray 25)).alloc (.cells L1.toArray 70)) := by
 have hb : Below w.heap.size w ((w.alloc (.cells L0.toArray 25)).alloc (.cells L1.toArray 70)) := ((Below.refl _ _).alloc (Nat.le_refl _) _).alloc (by simp) _
 have r1 := Row.new (w.alloc (.cells L0.toArray 25)) 70 L1
 rw [World.size_alloc] at r1
 exact ⟨(Row.new w 25 L0).alloc _, r1, hA.below hb, hB.below hb, hW.old hb, hb⟩
theorem new_below (w : World) (o : Obj) (cs : Array Value) : Below w.heap.size w ((w.alloc o).setRow w.heap.size cs) := Below.setRow ((Below.refl _ _).alloc (Nat.le_refl _) _) (Nat.le_refl _) _
theorem new_row (w : World) (t : TypeId) (vs us : List Value) : Row ((w.alloc (.cells vs.toArray t)).setRow w.heap.size us.toArray) w.heap.size t us := (Row.new w t vs).setRow _
theorem head_bytes (a b : ByteArray) : ((((⟨#[114, 101, 99, 111, 114, 100, 105, 110, 103, 32]⟩ : ByteArray) ++ a) ++ ⟨#[32]⟩) ++ b) ++ ⟨#[10]⟩ = lb (bl (lineB [wRec, a, b])) := by
 rw [lineB_bl]
 apply ByteArray.ext
 simp [ByteArray.data_append, lb, bl, Lib.join, wRec]
theorem mark_bytes (p a b : ByteArray) : ((((p ++ ⟨#[109, 97, 114, 107, 32]⟩) ++ a) ++ ⟨#[32]⟩) ++ b) ++ ⟨#[10]⟩ = lb (bl p ++ bl (lineB [wMark, a, b])) := by
 rw [lineB_bl]
 apply ByteArray.ext
 simp [ByteArray.data_append, lb, bl, Lib.join, wMark]
theorem samp_bytes (p a : ByteArray) : ((p ++ ⟨#[115, 97, 109, 112, 108, 101, 32]⟩) ++ a) ++ ⟨#[10]⟩ = lb (bl p ++ bl (lineB [wSamp, a])) := by
 rw [lineB_bl]
 apply ByteArray.ext
 simp [ByteArray.data_append, lb, bl, Lib.join, wSamp]
def pm (st sp : Int) (ms : List (Int × ByteArray)) : List UInt8 := flatC (numLineB wRec [st, sp] :: ms.map markB)
theorem pm_snoc (st sp : Int) (ms : List (Int × ByteArray)) (p : Int × ByteArray) : pm st sp (ms ++ [p]) = pm st sp ms ++ bl (markB p) := by
 unfold pm
 rw [List.map_append, ← List.cons_append, flatC_app]
 simp [flatC, bl]
theorem printL_snoc (st sp : Int) (xs : List Nat) (x : Nat) (ms : List (Int × ByteArray)) : printL st sp (xs ++ [x]) ms = printL st sp xs ms ++ bl (sampB x) := by
 unfold printL printLs
 rw [List.map_append, ← List.append_assoc, ← List.cons_append, flatC_app]
 simp [flatC, bl]
theorem printL_nil (st sp : Int) (ms : List (Int × ByteArray)) : printL st sp [] ms = pm st sp ms := by
 unfold printL printLs pm
 rw [List.map_nil, List.append_nil]
theorem pm_le (st sp : Int) (xs : List Nat) (ms : List (Int × ByteArray)) (i : Nat) : (pm st sp (ms.take i)).length ≤ (printL st sp xs ms).length := by
 have h : printL st sp xs ms = pm st sp (ms.take i) ++ (flatC ((ms.drop i).map markB) ++ flatC (xs.map sampB)) := by
  unfold printL printLs pm
  rw [← flatC_app, ← flatC_app]
  congr 1
  rw [List.cons_append, ← List.append_assoc, ← List.map_append, List.take_append_drop]
 rw [h, List.length_append]; omega
theorem printL_le (st sp : Int) (xs : List Nat) (ms : List (Int × ByteArray)) (i : Nat) : (printL st sp (xs.take i) ms).length ≤ (printL st sp xs ms).length := by
 have h : printL st sp xs ms = printL st sp (xs.take i) ms ++ flatC ((xs.drop i).map sampB) := by
  unfold printL printLs
  rw [← flatC_app]
  congr 1
  rw [List.cons_append, List.append_assoc, ← List.map_append, List.take_append_drop]
 rw [h, List.length_append]; omega
theorem mark_cells {W : World} {B : Option Addr} {ms : List (Int × ByteArray)} {i : Nat} {p : Int × ByteArray} (h : Rd W B (markC ms)) (hi : i < ms.length) (hp : ms[i] = p) : ∃ b o, B = some ⟨b, o, none⟩ ∧ W.cell? ⟨b, o + i * 2, none⟩ = some (.int .i64 p.1) ∧ W.cell? ⟨b, o + i * 2 + 1, none⟩ = some (.string p.2) := by
 have hg := fun j hj => flat_get (fun p : Int × ByteArray => [Value.int .i64 p.1, Value.string p.2]) 2 ms (fun p _ => rfl) i hi j hj
 have g0 := hg 0 (by omega)
 have g1 := hg 1 (by omega)
 rw [hp] at g0 g1
 obtain ⟨b, o, e, c0⟩ := h (i * 2) (.int .i64 p.1) g0
 obtain ⟨b', o', e', c1⟩ := h (i * 2 + 1) (.string p.2) g1
 rw [e] at e'
 cases e'
 exact ⟨b, o, e, c0, by rw [Nat.add_assoc]; exact c1⟩
set_option maxRecDepth 100000 in
set_option maxHeartbeats 4000000 in
theorem printR_ok (st sp : Int) (A B : Option Addr) (c d : Nat) (xs : List Nat) (ms : List (Int × ByteArray)) (w : World) (hA : Rd w A (flts xs)) (hB : Rd w B (markC ms)) (h0 : recI st sp xs ms = 0) (hx : xs.length ≤ 40) (hm : ms.length ≤ 6) :
 Calls Tryz.prog 13 #[.agg #[.int .i64 st, .int .i64 sp, .slice A xs.length c, .slice B ms.length d]] w fun e w' => e = .returned (.tuple #[.string (lb (printL st sp xs ms)), .int .i64 0]) ∧ Below w.heap.size w w' := by
 have hg := goodR_of h0
 obtain ⟨pl1, -⟩ := print_len hg hx hm
 have hst := hg.start; have hsp := hg.step
 have HG := Lib.hid hg
 have HTX : Hid (∀ (n : Int) W, n.natAbs ≤ 1000000000 → Calls Tryz.prog 62 #[.int .i64 n] W fun e w' => e = .returned (.string (itoaB n)) ∧ Below W.heap.size W w') := fun n W h => textR_any n W (by omega)
 have HA : Hid (∀ W, Below w.heap.size w W → Rd W A (flts xs)) := fun W h => hA.below h
 have HB : Hid (∀ W, Below w.heap.size w W → Rd W B (markC ms)) := fun W h => hB.below h
 have HSZ : Hid (∀ n : Int, n.natAbs ≤ 1000000000 → (itoaB n).size ≤ 21) := fun n h => numeral_len n (by omega)
 obtain ⟨ta, hta⟩ : ∃ ta, ta = itoaB st := ⟨_, rfl⟩
 obtain ⟨tb, htb⟩ : ∃ tb, tb = itoaB sp := ⟨_, rfl⟩
 have HT1 : Hid (∀ W, Calls Tryz.prog 62 #[.int .i64 st] W fun e w' => e = .returned (.string ta) ∧ Below W.heap.size W w') := fun W => by rw [hta]; exact HTX.out st W (by omega)
 have HT2 : Hid (∀ W, Calls Tryz.prog 62 #[.int .i64 sp] W fun e w' => e = .returned (.string tb) ∧ Below W.heap.size W w') := fun W => by rw [htb]; exact HTX.out sp W (by omega)
 have za : ta.size ≤ 21 := by rw [hta]; exact HSZ.out st (by omega)
 have zb : tb.size ≤ 21 := by rw [htb]; exact HSZ.out sp (by omega)
 have hhead : ((((⟨#[114, 101, 99, 111, 114, 100, 105, 110, 103, 32]⟩ : ByteArray) ++ ta) ++ ⟨#[32]⟩) ++ tb) ++ ⟨#[10]⟩ = lb (pm st sp []) := by
  rw [head_bytes, hta, htb]
  unfold pm flatC
  rw [List.map_nil, List.flatMap_cons, List.flatMap_nil, List.append_nil]; rfl
 have HHD := Lib.hid hhead
 have HR0 := Lib.hid (Row.new w 25 [.int .i64 st, .int .i64 sp, .slice A xs.length c, .slice B ms.length d])
 have HB0 := Lib.hid ((Below.refl w.heap.size w).alloc (Nat.le_refl _) (.cells #[.int .i64 st, .int .i64 sp, .slice A xs.length c, .slice B ms.length d] 25))
 clear hA hB hg hst hsp hta htb hhead h0
 go_enter Tryz.func13, Tryz.ntmps13
 go_upto_region 1 with fail
 refine genR (fun V => Row V w.heap.size 25 [.int .i64 st, .int .i64 sp, .slice A xs.length c, .slice B ms.length d] ∧ Below w.heap.size w V) ⟨HR0.out, HB0.out⟩ ?_
 clear HR0 HB0
 rintro W1 ⟨hr1, hb1⟩
 have HR := Lib.hid hr1; have HBW := Lib.hid hb1
 clear hb1
 have c0 := hr1.cell 0; have c1 := hr1.cell 1
 simp only [List.getElem?_cons_succ, List.getElem?_cons_zero] at c0 c1
 clear hr1
 have z1 : ¬ 9223372036854775807 < 10 + ta.size := by omega
 have z2 : ¬ 9223372036854775807 < 10 + ta.size + 1 := by omega
 have z3 : ¬ 9223372036854775807 < 10 + ta.size + 1 + tb.size := by omega
 have z4 : ¬ 9223372036854775807 < 10 + ta.size + 1 + tb.size + 1 := by omega
 go_cut [4] from 7 to 17 (fun s4 wx => s4 = .string (lb (pm st sp [])) ∧ Below W1.heap.size W1 wx)
 case first =>
  refine wp_region_held_drew (S := fun V => Below W1.heap.size W1 V) (by kernel_rfl) ?_ (fun hHeld => ?_)
  · exact (Below.refl _ _).drew
  refine wpAnyH_take (i := 0) (oi := ⟨some 7, _, _, _, _, _⟩) (v := ?_) rfl (by kernel_rfl) (by kernel_rfl) (by kernel_rfl) (fun _ _ _ h => h) (Or.inl ⟨by kernel_rfl, ?_⟩) hHeld ?_
  rotate_left
  · intro w1 hSw; (try dsimp only at hSw); go_simp <;> with_reducible rfl
  try simp only [Act.put, List.setIfInBounds_toArray, List.set_cons_zero, List.set_cons_succ]
  refine wpAnyH_take (i := 1) (oi := ⟨some 8, _, _, _, _, _⟩) (v := ?_) rfl (by kernel_rfl) (by kernel_rfl) (by kernel_rfl) (fun _ _ _ h => h) (Or.inl ⟨by kernel_rfl, ?_⟩) hHeld ?_
  rotate_left
  · intro w1 hSw; (try dsimp only at hSw); have cc0 := (HR.out.old hSw).cell 0; simp only [List.getElem?_cons_succ, List.getElem?_cons_zero] at cc0; go_simp <;> with_reducible rfl
  try simp only [Act.put, List.setIfInBounds_toArray, List.set_cons_zero, List.set_cons_succ]
  refine wpAnyH_take (i := 5) (oi := ⟨some 12, _, _, _, _, _⟩) (v := ?_) rfl (by kernel_rfl) (by kernel_rfl) (by kernel_rfl) (fun _ _ _ h => h) (Or.inl ⟨by kernel_rfl, ?_⟩) hHeld ?_
  rotate_left
  · intro w1 hSw; (try dsimp only at hSw); go_simp <;> with_reducible rfl
  try simp only [Act.put, List.setIfInBounds_toArray, List.set_cons_zero, List.set_cons_succ]
  refine wpAnyH_take (i := 6) (oi := ⟨some 13, _, _, _, _, _⟩) (v := ?_) rfl (by kernel_rfl) (by kernel_rfl) (by kernel_rfl) (fun _ _ _ h => h) (Or.inl ⟨by kernel_rfl, ?_⟩) hHeld ?_
  rotate_left
  · intro w1 hSw; (try dsimp only at hSw); have cc1 := (HR.out.old hSw).cell 1; simp only [List.getElem?_cons_succ, List.getElem?_cons_zero] at cc1; go_simp <;> with_reducible rfl
  try simp only [Act.put, List.setIfInBounds_toArray, List.set_cons_zero, List.set_cons_succ]
  refine wpAnyH_ready (rs := [2]) (by kernel_rfl) (by simp) ?_
  refine AllReadyH.cons rfl (fun K hK => ?_) AllReadyH.nil
  go_simp
  go_at_call 62
  refine (HT1.out _).mono ?_
  rintro e v2 ⟨rfl, hb2⟩
  try go_simp
  refine hK.out _ _ ?_ (fun hHeld => ?_)
  · exact hHeld.trans (hb2.mono hHeld.size)
  clear hK K
  try simp only [Act.put, List.setIfInBounds_toArray, List.set_cons_zero, List.set_cons_succ]
  refine wpAnyH_take (i := 3) (oi := ⟨some 10, _, _, _, _, _⟩) (v := ?_) rfl (by kernel_rfl) (by kernel_rfl) (by kernel_rfl) (fun _ _ _ h => h) (Or.inl ⟨by kernel_rfl, ?_⟩) hHeld ?_
  rotate_left
  · intro w1 hSw; (try dsimp only at hSw); go_simp <;> with_reducible rfl
  try simp only [Act.put, List.setIfInBounds_toArray, List.set_cons_zero, List.set_cons_succ]
  refine wpAnyH_take (i := 4) (oi := ⟨some 11, _, _, _, _, _⟩) (v := ?_) rfl (by kernel_rfl) (by kernel_rfl) (by kernel_rfl) (fun _ _ _ h => h) (Or.inl ⟨by kernel_rfl, ?_⟩) hHeld ?_
  rotate_left
  · intro w1 hSw; (try dsimp only at hSw); go_simp <;> with_reducible rfl
  try simp only [Act.put, List.setIfInBounds_toArray, List.set_cons_zero, List.set_cons_succ]
  refine wpAnyH_ready (rs := [7]) (by kernel_rfl) (by simp) ?_
  refine AllReadyH.cons rfl (fun K hK => ?_) AllReadyH.nil
  go_simp
  go_at_call 62
  refine (HT2.out _).mono ?_
  rintro e v7 ⟨rfl, hb7⟩
  try go_simp
  refine hK.out _ _ ?_ (fun hHeld => ?_)
  · exact hHeld.trans (hb7.mono hHeld.size)
  clear hK K
  try simp only [Act.put, List.setIfInBounds_toArray, List.set_cons_zero, List.set_cons_succ]
  refine wpAnyH_take (i := 8) (oi := ⟨some 15, _, _, _, _, _⟩) (v := ?_) rfl (by kernel_rfl) (by kernel_rfl) (by kernel_rfl) (fun _ _ _ h => h) (Or.inl ⟨by kernel_rfl, ?_⟩) hHeld ?_
  rotate_left
  · intro w1 hSw; (try dsimp only at hSw); go_simp <;> with_reducible rfl
  try simp only [Act.put, List.setIfInBounds_toArray, List.set_cons_zero, List.set_cons_succ]
  refine wpAnyH_take (i := 9) (oi := ⟨some 16, _, _, _, _, _⟩) (v := ?_) rfl (by kernel_rfl) (by kernel_rfl) (by kernel_rfl) (fun _ _ _ h => h) (Or.inl ⟨by kernel_rfl, ?_⟩) hHeld ?_
  rotate_left
  · intro w1 hSw; (try dsimp only at hSw); go_simp <;> with_reducible rfl
  try simp only [Act.put, List.setIfInBounds_toArray, List.set_cons_zero, List.set_cons_succ]
  refine wpAnyH_take (i := 10) (oi := ⟨some 4, _, _, _, _, _⟩) (v := ?_) rfl (by kernel_rfl) (by kernel_rfl) (by kernel_rfl) (fun _ _ _ h => h) (Or.inl ⟨by kernel_rfl, ?_⟩) hHeld ?_
  rotate_left
  · intro w1 hSw; (try dsimp only at hSw); go_simp <;> with_reducible rfl
  try simp only [Act.put, List.setIfInBounds_toArray, List.set_cons_zero, List.set_cons_succ]
  refine wpAnyH_done (by kernel_rfl) ?_ _
  go_wp2_with fail
  go_meet
  exact ⟨congrArg Value.string HHD.out, hHeld⟩
 case rest =>
 obtain ⟨rfl, hb⟩ := hcut
 have HBW2 := Lib.hid (HBW.out.trans (hb.mono HBW.out.size))
 have HR2 := Lib.hid (HR.out.old hb)
 clear HR HBW hb c0 c1 z1 z2 z3 z4 HHD HT1 HT2 za zb
 obtain ⟨W2, hW2⟩ : ∃ W2 : World, W2 = wc := ⟨_, rfl⟩
 subst hW2
 go_wp2_with fail
 go_loopg [4, 5] ms.length (fun g s4 s5 wr => ∃ i : Nat, i + g = ms.length ∧ s5 = .int .i64 i ∧ s4 = .string (lb (pm st sp (ms.take i))) ∧ Hid (Below W2.heap.size W2 wr))
 case atStart => exact ⟨0, by omega, rfl, rfl, Below.refl _ _⟩
 case round =>
  obtain ⟨i, hi, rfl, rfl, hb⟩ := hrel
  have hbw : Below w.heap.size w wr := HBW2.out.trans (hb.out.mono HBW2.out.size)
  have hr := HR2.out.old hb.out
  have c3 := hr.cell 3
  simp only [List.getElem?_cons_succ, List.getElem?_cons_zero] at c3
  by_cases hlt : i < ms.length
  · obtain ⟨p, hp⟩ : ∃ p, p = ms[i] := ⟨_, rfl⟩
    have hsn := pm_snoc st sp (ms.take i) p
    rw [hp, ← List.take_succ_eq_append_getElem hlt] at hsn
    have hmk := HG.out.mark p (by rw [hp]; exact List.getElem_mem hlt)
    have hmany := HG.out.many
    have hple := pm_le st sp xs ms i
    have hple2 := pm_le st sp xs ms (i + 1)
    rw [hsn, List.length_append] at hple2
    obtain ⟨pp, hpp⟩ : ∃ pp, pp = lb (pm st sp (ms.take i)) := ⟨_, rfl⟩
    have zp : pp.size ≤ 4000 := by rw [hpp]; show (pm st sp (ms.take i)).toArray.size ≤ _; rw [List.size_toArray]; omega
    obtain ⟨ti, hti⟩ : ∃ ti, ti = itoaB p.1 := ⟨_, rfl⟩
    have zt : ti.size ≤ 21 := by rw [hti]; exact HSZ.out _ (by omega)
    have zn : p.2.size ≤ 24 := by
     have h1 := hmk.2
     unfold nameL at h1
     simp only [Bool.and_eq_true, decide_eq_true_eq] at h1
     have h2 : p.2.data.toList.length = p.2.size := Array.length_toList
     omega
    obtain ⟨pi, pn, hpq⟩ : ∃ pi pn, p = (pi, pn) := ⟨_, _, rfl⟩
    subst hpq
    dsimp only at zn hti hmk
    have hTI : Hid (∀ W, Calls Tryz.prog 62 #[.int .i64 pi] W fun e w' => e = .returned (.string ti) ∧ Below W.heap.size W w') := fun W => by rw [hti]; exact HTX.out pi W (by omega)
    have hnew : ((((pp ++ ⟨#[109, 97, 114, 107, 32]⟩) ++ ti) ++ ⟨#[32]⟩) ++ pn) ++ ⟨#[10]⟩ = lb (pm st sp (ms.take (i + 1))) := by
     rw [mark_bytes, hpp, hti, bl_lb, hsn, ← hp]; rfl
    have HNEW := Lib.hid hnew
    have hmi := fun V (hV : Below wr.heap.size wr V) => mark_cells (HB.out V (hbw.trans (hV.mono hbw.size))) hlt hp.symm
    have HMI := Lib.hid hmi
    have i1 : (i : Int) < (ms.length : Int) := by omega
    have z1 : ¬ 9223372036854775807 < pp.size + 5 := by omega
    have z2 : ¬ 9223372036854775807 < pp.size + 5 + ti.size := by omega
    have z3 : ¬ 9223372036854775807 < pp.size + 5 + ti.size + 1 := by omega
    have z4 : ¬ 9223372036854775807 < pp.size + 5 + ti.size + 1 + pn.size := by omega
    have z5 : ¬ 9223372036854775807 < pp.size + 5 + ti.size + 1 + pn.size + 1 := by omega
    obtain ⟨bM, oM, hBM, -⟩ := hmi wr (Below.refl _ _)
    subst hBM
    have HR3 := Lib.hid hr; have HBB := Lib.hid hb.out
    rw [← hpp]
    clear hsn hmk hple hple2 hpp hti hnew hmi hp hr hb hbw c3
    have c3 := HR3.out.cell 3
    simp only [List.getElem?_cons_succ, List.getElem?_cons_zero] at c3
    go_upto_region 5 with fail
    refine wp_region_held_drew (S := fun V => Below wr.heap.size wr V) (by kernel_rfl) ?_ (fun hHeld => ?_)
    · exact (Below.refl _ _).drew
    refine wpAnyH_take (i := 0) (oi := ⟨some 24, _, _, _, _, _⟩) (v := ?_) rfl (by kernel_rfl) (by kernel_rfl) (by kernel_rfl) (fun _ _ _ h => h) (Or.inl ⟨by kernel_rfl, ?_⟩) hHeld ?_
    rotate_left
    · intro w1 hSw; (try dsimp only at hSw); go_simp <;> with_reducible rfl
    try simp only [Act.put, List.setIfInBounds_toArray, List.set_cons_zero, List.set_cons_succ]
    refine wpAnyH_take (i := 1) (oi := ⟨some 25, _, _, _, _, _⟩) (v := ?_) rfl (by kernel_rfl) (by kernel_rfl) (by kernel_rfl) (fun _ _ _ h => h) (Or.inl ⟨by kernel_rfl, ?_⟩) hHeld ?_
    rotate_left
    · intro w1 hSw; (try dsimp only at hSw); go_simp <;> with_reducible rfl
    try simp only [Act.put, List.setIfInBounds_toArray, List.set_cons_zero, List.set_cons_succ]
    refine wpAnyH_take (i := 2) (oi := ⟨some 26, _, _, _, _, _⟩) (v := ?_) rfl (by kernel_rfl) (by kernel_rfl) (by kernel_rfl) (fun _ _ _ h => h) (Or.inl ⟨by kernel_rfl, ?_⟩) hHeld ?_
    rotate_left
    · intro w1 hSw; (try dsimp only at hSw); go_simp <;> with_reducible rfl
    try simp only [Act.put, List.setIfInBounds_toArray, List.set_cons_zero, List.set_cons_succ]
    refine wpAnyH_take (i := 3) (oi := ⟨some 27, _, _, _, _, _⟩) (v := ?_) rfl (by kernel_rfl) (by kernel_rfl) (by kernel_rfl) (fun _ _ _ h => h) (Or.inl ⟨by kernel_rfl, ?_⟩) hHeld ?_
    rotate_left
    · intro w1 hSw; (try dsimp only at hSw); have cc3 := (HR3.out.old hSw).cell 3; simp only [List.getElem?_cons_succ, List.getElem?_cons_zero] at cc3; go_simp <;> with_reducible rfl
    try simp only [Act.put, List.setIfInBounds_toArray, List.set_cons_zero, List.set_cons_succ]
    refine wpAnyH_take (i := 4) (oi := ⟨some 28, _, _, _, _, _⟩) (v := ?_) rfl (by kernel_rfl) (by kernel_rfl) (by kernel_rfl) (fun _ _ _ h => h) (Or.inl ⟨by kernel_rfl, ?_⟩) hHeld ?_
    rotate_left
    · intro w1 hSw; (try dsimp only at hSw); go_simp <;> with_reducible rfl
    try simp only [Act.put, List.setIfInBounds_toArray, List.set_cons_zero, List.set_cons_succ]
    refine wpAnyH_take (i := 5) (oi := ⟨some 29, _, _, _, _, _⟩) (v := ?_) rfl (by kernel_rfl) (by kernel_rfl) (by kernel_rfl) (fun _ _ _ h => h) (Or.inl ⟨by kernel_rfl, ?_⟩) hHeld ?_
    rotate_left
    · intro w1 hSw; (try dsimp only at hSw); go_simp <;> with_reducible rfl
    try simp only [Act.put, List.setIfInBounds_toArray, List.set_cons_zero, List.set_cons_succ]
    refine wpAnyH_take (i := 6) (oi := ⟨some 30, _, _, _, _, _⟩) (v := ?_) rfl (by kernel_rfl) (by kernel_rfl) (by kernel_rfl) (fun _ _ _ h => h) (Or.inl ⟨by kernel_rfl, ?_⟩) hHeld ?_
    rotate_left
    · intro w1 hSw; (try dsimp only at hSw); go_simp <;> with_reducible rfl
    try simp only [Act.put, List.setIfInBounds_toArray, List.set_cons_zero, List.set_cons_succ]
    refine wpAnyH_take (i := 7) (oi := ⟨some 31, _, _, _, _, _⟩) (v := ?_) rfl (by kernel_rfl) (by kernel_rfl) (by kernel_rfl) (fun _ _ _ h => h) (Or.inl ⟨by kernel_rfl, ?_⟩) hHeld ?_
    rotate_left
    · intro w1 hSw; (try dsimp only at hSw); obtain ⟨bM', oM', eM, cm0, cm1⟩ := HMI.out _ hSw; cases eM; go_simp <;> with_reducible rfl
    try simp only [Act.put, List.setIfInBounds_toArray, List.set_cons_zero, List.set_cons_succ]
    refine wpAnyH_take (i := 11) (oi := ⟨some 35, _, _, _, _, _⟩) (v := ?_) rfl (by kernel_rfl) (by kernel_rfl) (by kernel_rfl) (fun _ _ _ h => h) (Or.inl ⟨by kernel_rfl, ?_⟩) hHeld ?_
    rotate_left
    · intro w1 hSw; (try dsimp only at hSw); go_simp <;> with_reducible rfl
    try simp only [Act.put, List.setIfInBounds_toArray, List.set_cons_zero, List.set_cons_succ]
    refine wpAnyH_take (i := 12) (oi := ⟨some 36, _, _, _, _, _⟩) (v := ?_) rfl (by kernel_rfl) (by kernel_rfl) (by kernel_rfl) (fun _ _ _ h => h) (Or.inl ⟨by kernel_rfl, ?_⟩) hHeld ?_
    rotate_left
    · intro w1 hSw; (try dsimp only at hSw); have cc3 := (HR3.out.old hSw).cell 3; simp only [List.getElem?_cons_succ, List.getElem?_cons_zero] at cc3; go_simp <;> with_reducible rfl
    try simp only [Act.put, List.setIfInBounds_toArray, List.set_cons_zero, List.set_cons_succ]
    refine wpAnyH_take (i := 13) (oi := ⟨some 37, _, _, _, _, _⟩) (v := ?_) rfl (by kernel_rfl) (by kernel_rfl) (by kernel_rfl) (fun _ _ _ h => h) (Or.inl ⟨by kernel_rfl, ?_⟩) hHeld ?_
    rotate_left
    · intro w1 hSw; (try dsimp only at hSw); go_simp <;> with_reducible rfl
    try simp only [Act.put, List.setIfInBounds_toArray, List.set_cons_zero, List.set_cons_succ]
    refine wpAnyH_take (i := 14) (oi := ⟨some 38, _, _, _, _, _⟩) (v := ?_) rfl (by kernel_rfl) (by kernel_rfl) (by kernel_rfl) (fun _ _ _ h => h) (Or.inl ⟨by kernel_rfl, ?_⟩) hHeld ?_
    rotate_left
    · intro w1 hSw; (try dsimp only at hSw); go_simp <;> with_reducible rfl
    try simp only [Act.put, List.setIfInBounds_toArray, List.set_cons_zero, List.set_cons_succ]
    refine wpAnyH_take (i := 15) (oi := ⟨some 39, _, _, _, _, _⟩) (v := ?_) rfl (by kernel_rfl) (by kernel_rfl) (by kernel_rfl) (fun _ _ _ h => h) (Or.inl ⟨by kernel_rfl, ?_⟩) hHeld ?_
    rotate_left
    · intro w1 hSw; (try dsimp only at hSw); go_simp <;> with_reducible rfl
    try simp only [Act.put, List.setIfInBounds_toArray, List.set_cons_zero, List.set_cons_succ]
    refine wpAnyH_take (i := 16) (oi := ⟨some 40, _, _, _, _, _⟩) (v := ?_) rfl (by kernel_rfl) (by kernel_rfl) (by kernel_rfl) (fun _ _ _ h => h) (Or.inl ⟨by kernel_rfl, ?_⟩) hHeld ?_
    rotate_left
    · intro w1 hSw; (try dsimp only at hSw); obtain ⟨bM', oM', eM, cm0, cm1⟩ := HMI.out _ hSw; cases eM; go_simp <;> with_reducible rfl
    try simp only [Act.put, List.setIfInBounds_toArray, List.set_cons_zero, List.set_cons_succ]
    refine wpAnyH_ready (rs := [8]) (by kernel_rfl) (by simp) ?_
    refine AllReadyH.cons rfl (fun K hK => ?_) AllReadyH.nil
    go_simp
    go_at_call 62
    refine (hTI.out _).mono ?_
    rintro e v8 ⟨rfl, hb8⟩
    try go_simp
    refine hK.out _ _ ?_ (fun hHeld => ?_)
    · exact hHeld.trans (hb8.mono hHeld.size)
    clear hK K
    try simp only [Act.put, List.setIfInBounds_toArray, List.set_cons_zero, List.set_cons_succ]
    refine wpAnyH_take (i := 9) (oi := ⟨some 33, _, _, _, _, _⟩) (v := ?_) rfl (by kernel_rfl) (by kernel_rfl) (by kernel_rfl) (fun _ _ _ h => h) (Or.inl ⟨by kernel_rfl, ?_⟩) hHeld ?_
    rotate_left
    · intro w1 hSw; (try dsimp only at hSw); go_simp <;> with_reducible rfl
    try simp only [Act.put, List.setIfInBounds_toArray, List.set_cons_zero, List.set_cons_succ]
    refine wpAnyH_take (i := 10) (oi := ⟨some 34, _, _, _, _, _⟩) (v := ?_) rfl (by kernel_rfl) (by kernel_rfl) (by kernel_rfl) (fun _ _ _ h => h) (Or.inl ⟨by kernel_rfl, ?_⟩) hHeld ?_
    rotate_left
    · intro w1 hSw; (try dsimp only at hSw); go_simp <;> with_reducible rfl
    try simp only [Act.put, List.setIfInBounds_toArray, List.set_cons_zero, List.set_cons_succ]
    refine wpAnyH_take (i := 17) (oi := ⟨some 41, _, _, _, _, _⟩) (v := ?_) rfl (by kernel_rfl) (by kernel_rfl) (by kernel_rfl) (fun _ _ _ h => h) (Or.inl ⟨by kernel_rfl, ?_⟩) hHeld ?_
    rotate_left
    · intro w1 hSw; (try dsimp only at hSw); go_simp <;> with_reducible rfl
    try simp only [Act.put, List.setIfInBounds_toArray, List.set_cons_zero, List.set_cons_succ]
    refine wpAnyH_take (i := 18) (oi := ⟨some 42, _, _, _, _, _⟩) (v := ?_) rfl (by kernel_rfl) (by kernel_rfl) (by kernel_rfl) (fun _ _ _ h => h) (Or.inl ⟨by kernel_rfl, ?_⟩) hHeld ?_
    rotate_left
    · intro w1 hSw; (try dsimp only at hSw); go_simp <;> with_reducible rfl
    try simp only [Act.put, List.setIfInBounds_toArray, List.set_cons_zero, List.set_cons_succ]
    refine wpAnyH_take (i := 19) (oi := ⟨some 4, _, _, _, _, _⟩) (v := ?_) rfl (by kernel_rfl) (by kernel_rfl) (by kernel_rfl) (fun _ _ _ h => h) (Or.inl ⟨by kernel_rfl, ?_⟩) hHeld ?_
    rotate_left
    · intro w1 hSw; (try dsimp only at hSw); go_simp <;> with_reducible rfl
    try simp only [Act.put, List.setIfInBounds_toArray, List.set_cons_zero, List.set_cons_succ]
    refine wpAnyH_done (by kernel_rfl) ?_ _
    go_wp2_with fail
    go_roundg (ms.length - (i + 1))
    case measure => omega
    case rel => exact ⟨i + 1, by omega, by go_num, congrArg Value.string HNEW.out, HBB.out.trans (hHeld.mono HBB.out.size)⟩
  · obtain rfl : i = ms.length := by omega
    have htk : ms.take ms.length = ms := List.take_of_length_le (Nat.le_refl _)
    rw [htk]
    have HBW3 := Lib.hid hbw; have HR3 := Lib.hid hr
    clear hbw hr hb HR2 HBW2 htk
    have hpn : pm st sp ms = printL st sp (xs.take 0) ms := (printL_nil st sp ms).symm
    rw [hpn]
    obtain ⟨W5, hW5⟩ : ∃ W5 : World, W5 = wr := ⟨_, rfl⟩
    subst hW5
    clear hpn
    go_wp2_with fail
    clear c3
    go_loopg [4, 6] xs.length (fun g s4 s6 wr => ∃ i : Nat, i + g = xs.length ∧ s6 = .int .i64 i ∧ s4 = .string (lb (printL st sp (xs.take i) ms)) ∧ Hid (Below W5.heap.size W5 wr))
    case atStart => exact ⟨0, by omega, rfl, rfl, Below.refl _ _⟩
    case round =>
     obtain ⟨i, hi, rfl, rfl, hb⟩ := hrel
     have hbw : Below w.heap.size w wr := HBW3.out.trans (hb.out.mono HBW3.out.size)
     have hr := HR3.out.old hb.out
     have c2 := hr.cell 2
     simp only [List.getElem?_cons_succ, List.getElem?_cons_zero] at c2
     by_cases hlt : i < xs.length
     · obtain ⟨x, hxv⟩ : ∃ x, x = xs[i] := ⟨_, rfl⟩
       have hsn := printL_snoc st sp (xs.take i) x ms
       rw [hxv, ← List.take_succ_eq_append_getElem hlt] at hsn
       have hsx := HG.out.samp x (by rw [hxv]; exact List.getElem_mem hlt)
       have hub := unitI_bd hsx
       have hple := printL_le st sp xs ms i
       obtain ⟨pp, hpp⟩ : ∃ pp, pp = lb (printL st sp (xs.take i) ms) := ⟨_, rfl⟩
       have zp : pp.size ≤ 4000 := by rw [hpp]; show (printL st sp (xs.take i) ms).toArray.size ≤ _; rw [List.size_toArray]; omega
       obtain ⟨un, hun⟩ : ∃ un, un = unitI x := ⟨_, rfl⟩
       rw [← hun] at hub
       obtain ⟨ti, hti⟩ : ∃ ti, ti = itoaB un := ⟨_, rfl⟩
       have zt : ti.size ≤ 21 := by rw [hti]; exact HSZ.out _ (by omega)
       have hTI : Hid (∀ W, Calls Tryz.prog 62 #[.int .i64 un] W fun e w' => e = .returned (.string ti) ∧ Below W.heap.size W w') := fun W => by rw [hti]; exact HTX.out un W (by omega)
       have hSX : Hid (∀ W, Calls Tryz.prog 63 #[.float .f32 x] W fun e w' => e = .returned (.int .i64 un) ∧ W = w') := fun W => by rw [hun]; exact sixteenths_ok x W hsx
       have hnew : ((pp ++ ⟨#[115, 97, 109, 112, 108, 101, 32]⟩) ++ ti) ++ ⟨#[10]⟩ = lb (printL st sp (xs.take (i + 1)) ms) := by
        rw [samp_bytes, hpp, hti, hun, bl_lb, hsn, ← hxv]; rfl
       have HNEW := Lib.hid hnew
       have i1 : (i : Int) < (xs.length : Int) := by omega
       have z1 : ¬ 9223372036854775807 < pp.size + 7 := by omega
       have z2 : ¬ 9223372036854775807 < pp.size + 7 + ti.size := by omega
       have z3 : ¬ 9223372036854775807 < pp.size + 7 + ti.size + 1 := by omega
       obtain ⟨bX, oX, hAX, hcx⟩ := Rd.flt (HA.out wr hbw) hlt
       subst hAX
       rw [← hxv] at hcx
       have HR4 := Lib.hid hr; have HBB := Lib.hid hb.out
       have z1' : pp.size + 7 ≤ 9223372036854775807 := by omega
       have z2' : pp.size + 7 + ti.size ≤ 9223372036854775807 := by omega
       have z3' : pp.size + 7 + ti.size + 1 ≤ 9223372036854775807 := by omega
       rw [← hpp]
       clear hsn hsx hub hple hpp hti hun hnew hr hb hbw hxv
       go_wp2_with (first
        | (go_at_call 63; refine (hSX.out _).mono ?_; rintro e w1 ⟨rfl, rfl⟩)
        | (go_at_call 62; refine (hTI.out _).mono ?_; rintro e w2 ⟨rfl, hb2⟩; have HB2 := Lib.hid hb2; clear hb2))
       go_roundg (xs.length - (i + 1))
       case measure => omega
       case rel => exact ⟨i + 1, by omega, by go_num, congrArg Value.string HNEW.out, HBB.out.trans (HB2.out.mono HBB.out.size)⟩
     · obtain rfl : i = xs.length := by omega
       have htk2 : xs.take xs.length = xs := List.take_of_length_le (Nat.le_refl _)
       rw [htk2]
       obtain ⟨PP, hPP⟩ : ∃ PP, PP = lb (printL st sp xs ms) := ⟨_, rfl⟩
       have zPP : PP.size ≤ 4000 := by rw [hPP]; show (printL st sp xs ms).toArray.size ≤ _; rw [List.size_toArray]; omega
       have g1 : decide ((4096 : Int) < (PP.size : Int)) = false := decide_eq_false (by omega)
       have HBF := Lib.hid hbw
       rw [← hPP]
       have HPP := Lib.hid hPP
       clear hr hb hbw htk2 hPP
       go_wp2_with fail
       go_ret2
       exact ⟨by rw [HPP.out]; rfl, HBF.out⟩
theorem cut_both (c : UInt8) : ∀ l : List UInt8, ∃ (ps : List (List UInt8)) (a : List UInt8), cutG c 0 l = ps ++ [a] ∧ cutG c 1 l = (ps.map fun p => p ++ [c]) ++ [a]
 | [] => ⟨[], [], rfl, rfl⟩
 | x :: l => by
   obtain ⟨ps, a, h0, h1⟩ := cut_both c l
   have e0 : cutG c 0 (x :: l) = if x = c then [c].take 0 :: cutG c 0 l else consH x (cutG c 0 l) := rfl
   have e1 : cutG c 1 (x :: l) = if x = c then [c].take 1 :: cutG c 1 l else consH x (cutG c 1 l) := rfl
   rw [e0, e1, h0, h1]
   by_cases h : x = c
   · rw [if_pos h, if_pos h]
     exact ⟨[] :: ps, a, rfl, rfl⟩
   · rw [if_neg h, if_neg h]
     cases ps with
     | nil => exact ⟨[], x :: a, rfl, rfl⟩
     | cons p ps => exact ⟨(x :: p) :: ps, a, rfl, rfl⟩
theorem piece_no (c : UInt8) : ∀ l : List UInt8, ∀ p ∈ cutG c 0 l, c ∉ p
 | [], p, hp => by
   have e : p = [] := by simpa [cutG] using hp
   rw [e]; simp
 | x :: l, p, hp => by
   have e0 : cutG c 0 (x :: l) = if x = c then [c].take 0 :: cutG c 0 l else consH x (cutG c 0 l) := rfl
   rw [e0] at hp
   by_cases h : x = c
   · rw [if_pos h] at hp
     rcases List.mem_cons.1 hp with rfl | hp
     · simp
     · exact piece_no c l p hp
   · rw [if_neg h] at hp
     cases hc : cutG c 0 l with
     | nil => exact absurd hc (cutG_ne c 0 l)
     | cons w ws =>
       rw [hc] at hp
       rcases List.mem_cons.1 hp with rfl | hp
       · intro hm
         rcases List.mem_cons.1 hm with h1 | h1
         · exact h h1.symm
         · exact piece_no c l w (by rw [hc]; exact List.mem_cons_self) h1
       · exact piece_no c l p (by rw [hc]; exact List.mem_cons_of_mem _ hp)
theorem lines_pieces {s : ByteArray} {ps : List (List UInt8)} {a : List UInt8} (h : cutG 10 0 (bl s) = ps ++ [a]) : linesL s = (ps.map fun p => lb (p ++ [10])) ++ (if a = [] then [] else [lb a]) := by
 obtain ⟨ps', a', h0, h1⟩ := cut_both 10 (bl s)
 rw [h] at h0
 have e1 : ps = ps' := List.append_inj_left' h0 rfl
 have e2 : a = a' := by
  have := List.append_inj_right' h0 rfl
  injection this
 subst e1; subst e2
 have hA : linesA s = ((ps.map fun p => p ++ [10]) ++ [a]).map lb := by rw [linesA_cut, h1]
 have hE : lastE s = a.isEmpty := by unfold lastE; rw [hA, lastE_map, emp_lb]
 unfold linesL
 rw [hE, hA, List.map_append, List.map_cons, List.map_nil, List.map_map]
 cases a with
 | nil =>
   show (((ps.map (lb ∘ fun p => p ++ [10])) ++ [lb []]).dropLast) = _
   rw [List.dropLast_concat, if_pos rfl, List.append_nil]; rfl
 | cons x a =>
   rw [if_neg (by simp)]; rfl
theorem piece_words {p : List UInt8} (h : (10 : UInt8) ∉ p) : endedL (lb (p ++ [10])) = true ∧ wordsL (textL (lb (p ++ [10]))) = (cutG 32 0 p).map lb := by
 obtain ⟨h1, h2⟩ := ended_snoc (l := lb (p ++ [10])) (t := p) rfl
 exact ⟨h1, by rw [h2, wordsL_cut, bl_lb]⟩
def markR (S : PaS) (ws : List ByteArray) : Bool := decide (ws.length = 3) && eqW wMark (headW ws) && !(headW ws.tail.tail).toList.isEmpty && decide (S.2.2.1.length = 0)
def refOk (i : Nat) (S : PaS) (ws : List ByteArray) : Bool :=
 if i = 0 then decide (ws.length = 3) && eqW wRec (headW ws) && headOk ws.tail
 else if markR S ws = true then countOk (headW ws.tail).data.toList
 else decide (ws.length = 2) && eqW wSamp (headW ws) && sampOk ws.tail
def refS (i : Nat) (S : PaS) (ws : List ByteArray) : PaS :=
 if i = 0 then headS S ws.tail else if markR S ws = true then markS S ws.tail else sampS S ws.tail
theorem empW {w : ByteArray} (h : w.toList.isEmpty = false) : w.data.toList ≠ [] := by
 intro e
 rw [ByteArray.toList_eq, e] at h
 cases h
theorem len3 {ws : List ByteArray} (h : (headW ws.tail.tail).data.toList ≠ []) : decide (ws.length = 3) = ws.tail.tail.tail.isEmpty := by
 match ws, h with
 | [], h => exact absurd rfl h
 | [_], h => exact absurd rfl h
 | [_, _], h => exact absurd rfl h
 | [_, _, _], _ => rfl
 | _ :: _ :: _ :: _ :: _, _ => simp
theorem len2 {ws : List ByteArray} (h : (headW ws.tail).data.toList ≠ []) : decide (ws.length = 2) = ws.tail.tail.isEmpty := by
 match ws, h with
 | [], h => exact absurd rfl h
 | [_], h => exact absurd rfl h
 | [_, _], _ => rfl
 | _ :: _ :: _ :: _, _ => simp
theorem head_3 (ws : List ByteArray) : (headOk ws.tail && ws.tail.tail.tail.isEmpty) = (decide (ws.length = 3) && headOk ws.tail) := by
 cases hh : headOk ws.tail with
 | false => rw [Bool.false_and, Bool.and_false]
 | true =>
   have h2 := hh
   unfold headOk at h2
   rw [Bool.and_eq_true] at h2
   rw [Bool.true_and, Bool.and_true, len3 (count_ne h2.2)]
theorem samp_2 (ws : List ByteArray) : (sampOk ws.tail && ws.tail.tail.isEmpty) = (decide (ws.length = 2) && sampOk ws.tail) := by
 cases hh : sampOk ws.tail with
 | false => rw [Bool.false_and, Bool.and_false]
 | true =>
   have h2 := hh
   unfold sampOk at h2
   rw [Bool.true_and, Bool.and_true, len2 (int_ne h2)]
theorem eqW_off {a b w : ByteArray} (h : eqW a w = true) (hab : eqW a b = false) : eqW b w = false := by
 have e := eqW_is h
 rw [e]
 cases h2 : eqW b a with
 | false => rfl
 | true =>
   exfalso
   have e2 := eqW_is h2
   rw [e2, eqW_self] at hab
   cases hab
theorem line_ref (i : Nat) (S : PaS) (ws : List ByteArray) : ((lineR i S ws).1 && (lineR i S ws).2.2.isEmpty) = refOk i S ws ∧ (refOk i S ws = true → (lineR i S ws).2.1 = refS i S ws) := by
 by_cases hi : i = 0
 · subst hi
   have f0 : fit0 ((0 : Nat) : Int) = true := rfl
   have f1 : fit1 ((0 : Nat) : Int) S = false := by unfold fit1; rw [decide_eq_false (by decide)]; rfl
   have f2 : fit2 ((0 : Nat) : Int) = false := rfl
   unfold lineR refOk refS
   rw [if_pos rfl, if_pos rfl, f0, f1, f2, Bool.and_true, Bool.and_false, Bool.and_false]
   cases hw : eqW wRec (headW ws) with
   | true =>
     rw [if_pos rfl]
     refine ⟨?_, fun _ => rfl⟩
     rw [Bool.and_true]
     exact head_3 ws
   | false =>
     simp only [Bool.false_eq_true, if_false, Bool.and_false, Bool.false_and]
     exact ⟨trivial, fun h => h.elim⟩
 · have hip : (0 : Int) < (i : Int) := by omega
   have f0 : fit0 (i : Int) = false := decide_eq_false (by omega)
   have f1 : fit1 (i : Int) S = decide (S.2.2.1.length = 0) := by unfold fit1; rw [decide_eq_true hip, Bool.true_and]
   have f2 : fit2 (i : Int) = true := decide_eq_true hip
   unfold lineR refOk refS
   rw [if_neg hi, if_neg hi, f0, f1, f2]
   cases hw : eqW wMark (headW ws) with
   | true =>
     have hs : eqW wSamp (headW ws) = false := eqW_off hw eqW_ms
     cases hz : decide (S.2.2.1.length = 0) with
     | true =>
       have e1 : markR S ws = (decide (ws.length = 3) && !(headW ws.tail.tail).toList.isEmpty) := by unfold markR; rw [hw, hz, Bool.and_true, Bool.and_true]
       rw [e1]
       cases he : (headW ws.tail.tail).toList.isEmpty with
       | true =>
         have hm : markOk ws.tail = false := by
          unfold markOk
          rw [he, Bool.not_true, Bool.and_false]
         simp only [hs, hm, Bool.and_false, Bool.false_and, Bool.and_true, Bool.true_and, Bool.not_true, Bool.false_eq_true, if_false, if_true]
         exact ⟨trivial, fun h => h.elim⟩
       | false =>
         have h3 := len3 (empW he)
         have hm : markOk ws.tail = countOk (headW ws.tail).data.toList := by
          unfold markOk
          rw [he, Bool.not_false, Bool.and_true]
         cases hr : ws.tail.tail.tail.isEmpty with
         | true =>
           rw [hr] at h3
           simp only [h3, hr, hs, hm, Bool.and_false, Bool.false_and, Bool.and_true, Bool.true_and, Bool.not_false, Bool.false_eq_true, if_false, if_true]
           exact ⟨trivial, fun _ => trivial⟩
         | false =>
           rw [hr] at h3
           simp only [h3, hr, hs, hm, Bool.and_false, Bool.false_and, Bool.and_true, Bool.true_and, Bool.not_false, Bool.false_eq_true, if_false, if_true]
           exact ⟨trivial, fun h => h.elim⟩
     | false =>
       have e1 : markR S ws = false := by unfold markR; rw [hz, Bool.and_false]
       simp only [e1, hs, Bool.and_false, Bool.false_and, Bool.false_eq_true, if_false]
       exact ⟨trivial, fun h => h.elim⟩
   | false =>
     have e1 : markR S ws = false := by unfold markR; rw [hw]; simp
     cases hs : eqW wSamp (headW ws) with
     | true =>
       simp only [e1, Bool.and_false, Bool.false_and, Bool.and_true, Bool.false_eq_true, if_false, if_true]
       exact ⟨samp_2 ws, fun _ => trivial⟩
     | false =>
       simp only [e1, Bool.and_false, Bool.false_and, Bool.and_true, Bool.false_eq_true, if_false]
       exact ⟨trivial, fun h => h.elim⟩
theorem step_ref {p : List UInt8} (hp : (10 : UInt8) ∉ p) (i : Nat) (S : PaS) (r : List ByteArray) :
 linesGo i S (lb (p ++ [10]) :: r) = if refOk i S ((cutG 32 0 p).map lb) = true then linesGo (i + 1) (refS i S ((cutG 32 0 p).map lb)) r else (i, false, (stepR i S (lb (p ++ [10]))).2) := by
 obtain ⟨h1, h2⟩ := piece_words hp
 obtain ⟨l1, l2⟩ := line_ref i S ((cutG 32 0 p).map lb)
 have e : stepR i S (lb (p ++ [10])) = (refOk i S ((cutG 32 0 p).map lb), (lineR i S ((cutG 32 0 p).map lb)).2.1) := by
  unfold stepR
  rw [h1, if_pos rfl, h2, l1]
 show (if (stepR i S (lb (p ++ [10]))).1 then linesGo (i + 1) (stepR i S (lb (p ++ [10]))).2 r else (i, false, (stepR i S (lb (p ++ [10]))).2)) = _
 rw [e]
 dsimp only
 by_cases h : refOk i S ((cutG 32 0 p).map lb) = true
 · rw [if_pos h, if_pos h, l2 h]
 · rw [if_neg h, if_neg h]
theorem last_ref {a : List UInt8} (ha : (10 : UInt8) ∉ a) (i : Nat) (S : PaS) : linesGo i S (if a = [] then [] else [lb a]) = (i, decide (a = []), S) := by
 by_cases h : a = []
 · rw [if_pos h, decide_eq_true h]; rfl
 · rw [if_neg h, decide_eq_false h]
   have hend : endedL (lb a) = false := by
    cases hx : endedL (lb a) with
    | false => rfl
    | true =>
      exfalso
      have h5 := ended_is hx
      rw [bl_lb] at h5
      exact ha (by rw [h5]; simp)
   have hs : stepR i S (lb a) = (false, S) := by unfold stepR; rw [hend]; rfl
   show (if (stepR i S (lb a)).1 then _ else (i, false, (stepR i S (lb a)).2)) = _
   rw [hs, if_neg (by simp)]
theorem samp_range {n : Int} (hn : n.natAbs < 2 ^ 30) : sampI (fb n) = whenI (decide (16384 < n.natAbs)) 3 := by
 obtain ⟨-, V, hv, hb⟩ := fb_any hn
 have e : V32 (fb n) = some V := V32_of hv
 rw [sampI_eq]
 unfold partI
 rw [e, if_neg (by simp)]
 congr 1
 by_cases h20 : n.natAbs < 2 ^ 20
 · have hV : V = n * (2 ^ 145 : Nat) := Val.unique hv (fb_spec h20).2
   unfold stepB
   rw [e]
   dsimp only
   rw [hV, cutI_mul, decide_eq_true rfl, Bool.and_true, natAbs_mul_pow]
   by_cases h : n.natAbs ≤ 16384
   · rw [decide_eq_true (Nat.mul_le_mul_right _ h), decide_eq_false (by omega)]; rfl
   · rw [decide_eq_false (fun h2 => h (Nat.le_of_mul_le_mul_right h2 (Nat.two_pow_pos _))), decide_eq_true (by omega)]; rfl
 · have h1 := hb (by omega)
   have h2 : ¬ V.natAbs ≤ 16384 * 2 ^ 145 := by
    intro h3
    have h4 := Nat.le_trans h1 h3
    have h5 : 2 ^ 20 ≤ 16384 := Nat.le_of_mul_le_mul_right h4 (Nat.two_pow_pos _)
    exact absurd h5 (by decide)
   unfold stepB
   rw [e]
   dsimp only
   rw [decide_eq_false h2, Bool.false_and, decide_eq_true (by omega)]; rfl
set_option maxRecDepth 100000 in
set_option maxHeartbeats 4000000 in
theorem readLines_long (s : ByteArray) (f : Value) (w : World) (hs : 4096 < s.size) (h2 : s.size ≤ 100000) :
 Calls Tryz.prog 53 #[.string s, f] w fun e w' => e = .returned (.tuple #[.int .i64 0, .int .i64 26]) ∧ Below w.heap.size w w' := by
 have i1 : (4096 : Int) < (s.size : Int) := by omega
 go_enter Tryz.func53, Tryz.ntmps53
 go_wp2_with fail
 go_ret2
 exact ⟨rfl, Below.refl _ _⟩
set_option maxRecDepth 100000 in
set_option maxHeartbeats 4000000 in
theorem parse_long (s : ByteArray) (w : World) (hs : 4096 < s.size) (h2 : s.size ≤ 100000) :
 Calls Tryz.prog 11 #[.string s] w fun e w' => e = .returned (.tuple #[zaggV, .int .i64 0, .int .i64 26]) ∧ Below w.heap.size w w' := by
 have HL := fun f W => Lib.hid (readLines_long s f W hs h2)
 go_enter Tryz.func11, Tryz.ntmps11
 go_wp2_with fail
 refine (HL _ _).out.mono ?_
 rintro e W ⟨rfl, hbl⟩
 have hr1 : Row W w.heap.size 33 zero4 := ((Row.new _ _ _).alloc _).old hbl
 have HB1 : Hid (Below w.heap.size w W) := (((Below.refl _ _).alloc (Nat.le_refl _) _).alloc (by simp) _).trans (hbl.mono (by simp; omega))
 have z0 := hr1.cell 0; have z1 := hr1.cell 1; have z2 := hr1.cell 2; have z3 := hr1.cell 3
 have f0 := hr1.free 0; have f1 := hr1.free 1; have f2 := hr1.free 2; have f3 := hr1.free 3
 have R1 := Lib.hid hr1
 simp only [zero4, List.getElem?_cons_succ, List.getElem?_cons_zero] at z0 z1 z2 z3
 clear hr1 hbl
 go_wp2
 have hrow := (((R1.out.set 0 (.int .i64 0)).set 1 (.int .i64 0)).set 2 (.slice none 0 0)).set 3 (.slice none 0 0)
 have hbb := (((HB1.out.setCell (p := ⟨w.heap.size, 0, none⟩) (Nat.le_refl _) (.int .i64 0)).setCell (p := ⟨w.heap.size, 1, none⟩) (Nat.le_refl _) (.int .i64 0)).setCell (p := ⟨w.heap.size, 2, none⟩) (Nat.le_refl _) (.slice none 0 0)).setCell (p := ⟨w.heap.size, 3, none⟩) (Nat.le_refl _) (.slice none 0 0)
 exact bodyPost_ret (results_ctt rfl _ _ w.heap.size 33 #[.int .i64 0, .int .i64 0, .slice none 0 0, .slice none 0 0] (0, 0) _ rfl hrow Tryz.underlying33 rfl (by kernel_rfl)) rfl ⟨rfl, hbb⟩
set_option maxRecDepth 100000 in
set_option maxHeartbeats 4000000 in
theorem parseR_long (s : ByteArray) (w : World) (hs : 4096 < s.size) (h2 : s.size ≤ 100000) :
 Calls Tryz.prog 14 #[.string s] w fun e w' => e = .returned (.tuple #[zaggV, .int .i64 0, .int .i64 26]) ∧ Below w.heap.size w w' := by
 have i1 : (4096 : Int) < (s.size : Int) := by omega
 go_enter Tryz.func14, Tryz.ntmps14
 go_upto_region 1 with fail
 refine genR (fun V => Row V w.heap.size 25 zero4 ∧ Hid (Below w.heap.size w V)) ⟨Row.new w 25 zero4, (Below.refl _ _).alloc (Nat.le_refl _) _⟩ ?_
 rintro W ⟨hr1, HB1⟩
 have z0 := hr1.cell 0; have z1 := hr1.cell 1; have z2 := hr1.cell 2; have z3 := hr1.cell 3
 have f0 := hr1.free 0; have f1 := hr1.free 1; have f2 := hr1.free 2; have f3 := hr1.free 3
 have R1 := Lib.hid hr1
 simp only [zero4, List.getElem?_cons_succ, List.getElem?_cons_zero] at z0 z1 z2 z3
 clear hr1
 go_wp2_with fail
 have hrow := (((R1.out.set 0 (.int .i64 0)).set 1 (.int .i64 0)).set 2 (.slice none 0 0)).set 3 (.slice none 0 0)
 have hbb := (((HB1.out.setCell (p := ⟨w.heap.size, 0, none⟩) (Nat.le_refl _) (.int .i64 0)).setCell (p := ⟨w.heap.size, 1, none⟩) (Nat.le_refl _) (.int .i64 0)).setCell (p := ⟨w.heap.size, 2, none⟩) (Nat.le_refl _) (.slice none 0 0)).setCell (p := ⟨w.heap.size, 3, none⟩) (Nat.le_refl _) (.slice none 0 0)
 exact bodyPost_ret (results_ctt rfl _ _ w.heap.size 25 #[.int .i64 0, .int .i64 0, .slice none 0 0, .slice none 0 0] (0, 0) _ rfl hrow Tryz.underlying25 rfl (by kernel_rfl)) rfl ⟨rfl, hbb⟩
structure RpI (w1 : World) (st sp : Int) (ns : List Int) (ms : List (Int × ByteArray)) (t8 vm : Value) (wr : World) : Prop where
 row : Row wr w1.heap.size 25 [.int .i64 st, .int .i64 sp, .slice none 0 0, vm]
 o8 : wr.ownsRow (w1.heap.size + 1) 3 1 t8 ns.length (ints ns)
 om : wr.ownsRow (w1.heap.size + 1) 90 2 vm ms.length (markC ms)
 below : Below w1.heap.size w1 wr
 room : w1.heap.size + 1 ≤ wr.heap.size
theorem RpI.new (w1 : World) : RpI w1 0 0 [] [] (.slice none 0 0) (.slice none 0 0) (w1.alloc (.cells zero4.toArray 25)) :=
 ⟨Row.new w1 _ zero4, World.ownsRow_nil _ _ _ _, World.ownsRow_nil _ _ _ _, (Below.refl _ _).alloc (Nat.le_refl _) _, by simp⟩
theorem RpI.old {w1 : World} {st sp : Int} {ns : List Int} {ms : List (Int × ByteArray)} {t8 vm : Value} {wr w' : World} (h : RpI w1 st sp ns ms t8 vm wr) (hb : Below wr.heap.size wr w') : RpI w1 st sp ns ms t8 vm w' :=
 ⟨h.row.old hb, owns_below h.o8 hb, owns_below h.om hb, h.below.trans (hb.mono h.below.size), Nat.le_trans h.room hb.size⟩
theorem RpI.drew {w1 : World} {st sp : Int} {ns : List Int} {ms : List (Int × ByteArray)} {t8 vm : Value} {wr : World} (h : RpI w1 st sp ns ms t8 vm wr) : RpI w1 st sp ns ms t8 vm wr.drew :=
 ⟨h.row.drew, h.o8, h.om, h.below.drew, h.room⟩
theorem RpI.set {w1 : World} {st sp st' sp' : Int} {ns : List Int} {ms' : List (Int × ByteArray)} {t8 vm vm' : Value} {wr : World} (h : Row wr w1.heap.size 25 [.int .i64 st, .int .i64 sp, .slice none 0 0, vm]) (h8 : wr.ownsRow (w1.heap.size + 1) 3 1 t8 ns.length (ints ns)) (hm : wr.ownsRow (w1.heap.size + 1) 90 2 vm' ms'.length (markC ms')) (hb : Below w1.heap.size w1 wr) (hr : w1.heap.size + 1 ≤ wr.heap.size) (i : Nat) (u : Value)
 (hs : ([.int .i64 st, .int .i64 sp, .slice none 0 0, vm] : List Value).set i u = [.int .i64 st', .int .i64 sp', .slice none 0 0, vm']) : RpI w1 st' sp' ns ms' t8 vm' (wr.setCell ⟨w1.heap.size, i, none⟩ u) := by
 have hgr : wr.grownBy (wr.setCell ⟨w1.heap.size, i, none⟩ u) (some w1.heap.size) := ⟨rfl, rfl, rfl, by simp, fun k _ hk => heap_setCell_other _ _ _ _ (fun e => hk (by rw [e]))⟩
 exact ⟨by rw [← hs]; exact h.set i u, h8.kept hgr (own_ne h h8 (by decide)), hm.kept hgr (own_ne h hm (by decide)), hb.setCell (Nat.le_refl _) _, by simpa using hr⟩
theorem RpI.head {w1 : World} {st sp : Int} {ns : List Int} {ms : List (Int × ByteArray)} {t8 vm : Value} {wr : World} (h : RpI w1 st sp ns ms t8 vm wr) (a b : Int) : RpI w1 a b ns ms t8 vm ((wr.setCell ⟨w1.heap.size, 0, none⟩ (.int .i64 a)).setCell ⟨w1.heap.size, 1, none⟩ (.int .i64 b)) := by
 have k := RpI.set (st' := a) (sp' := sp) (vm' := vm) h.row h.o8 h.om h.below h.room 0 (.int .i64 a) rfl
 exact RpI.set k.row k.o8 k.om k.below k.room 1 (.int .i64 b) rfl
theorem ints_snoc (ns : List Int) (n : Int) : ints (ns ++ [n]) = ints ns ++ [.int .i64 n] := by simp [ints]
theorem RpI.unit {w1 : World} {st sp : Int} {ns : List Int} {ms : List (Int × ByteArray)} {t8 vm u : Value} {wr w' : World} {o : Obj} {n : Int} (h : RpI w1 st sp ns ms t8 vm wr) (hg : (wr.alloc o).grownBy w' t8.ownBlock) (ho : w'.ownsRow (w1.heap.size + 1) 3 1 u (ns.length + 1) (ints ns ++ [.int .i64 n])) : RpI w1 st sp (ns ++ [n]) ms u vm w' := by
 refine ⟨grew_row h.row h.o8 hg (by decide), ?_, grew_own h.om h.o8 hg (by decide), Below.app h.below (by have := h.room; omega) (owns_mono h.o8 (Nat.le_succ _)) hg, ?_⟩
 · rw [ints_snoc, List.length_append]; exact ho
 · have h1 := (Below.app (Below.refl wr.heap.size wr |>.mono h.room) h.room h.o8 hg).size
   have := h.room
   omega
theorem RpI.mark {w1 : World} {st sp : Int} {ns : List Int} {ms : List (Int × ByteArray)} {t8 vm u : Value} {wr w' : World} {o : Obj} {p : Int × ByteArray} (h : RpI w1 st sp ns ms t8 vm wr) (hg : (wr.alloc o).grownBy w' vm.ownBlock) (ho : w'.ownsRow (w1.heap.size + 1) 90 2 u (ms.length + 1) (markC (ms ++ [p]))) : RpI w1 st sp ns (ms ++ [p]) t8 u (w'.setCell ⟨w1.heap.size, 3, none⟩ u) := by
 have k1 := grew_row h.row h.om hg (by decide)
 have k2 := grew_own h.o8 h.om hg (by decide)
 have k3 := Below.app h.below (by have := h.room; omega) (owns_mono h.om (Nat.le_succ _)) hg
 have k4 : w1.heap.size + 1 ≤ w'.heap.size := by
  have h1 := (Below.app (Below.refl wr.heap.size wr |>.mono h.room) h.room h.om hg).size
  have := h.room
  omega
 exact RpI.set k1 k2 (by rw [List.length_append]; exact ho) k3 k4 3 u rfl
theorem rp_out {w W : World} {T : Array Value} {ds : List Deferred} (i k : Int) (hp : T.getD 2 undef = .pointer (some ⟨w.heap.size, 0, none⟩)) (h3 : T.getD 3 undef = .int .i64 i) (h4 : T.getD 4 undef = .int .i64 k) (hr : Row W w.heap.size 25 zero4) (hb : Below w.heap.size w W) (hd : ds = []) {Q : Ending → World → Prop} (hQ : ∀ e w', (e = .returned (.tuple #[zaggV, .int .i64 i, .int .i64 k]) ∧ Below w.heap.size w w') → Q e w') :
 bodyPost Tryz.prog Tryz.f14 Q Exit.ret { tmps := T, defers := ds } ((((W.setCell ⟨w.heap.size, 0, none⟩ (.int .i64 0)).setCell ⟨w.heap.size, 1, none⟩ (.int .i64 0)).setCell ⟨w.heap.size, 2, none⟩ (.slice none 0 0)).setCell ⟨w.heap.size, 3, none⟩ (.slice none 0 0)) := by
 subst hd
 have hrow := (((hr.set 0 (.int .i64 0)).set 1 (.int .i64 0)).set 2 (.slice none 0 0)).set 3 (.slice none 0 0)
 have hbb := (((hb.setCell (p := ⟨w.heap.size, 0, none⟩) (Nat.le_refl _) (.int .i64 0)).setCell (p := ⟨w.heap.size, 1, none⟩) (Nat.le_refl _) (.int .i64 0)).setCell (p := ⟨w.heap.size, 2, none⟩) (Nat.le_refl _) (.slice none 0 0)).setCell (p := ⟨w.heap.size, 3, none⟩) (Nat.le_refl _) (.slice none 0 0)
 have e := results_ctt (fn := Tryz.f14) rfl T _ w.heap.size 25 #[.int .i64 0, .int .i64 0, .slice none 0 0, .slice none 0 0] (0, 0) _ hp hrow Tryz.underlying25 rfl (by kernel_rfl)
 rw [h3, h4] at e
 exact bodyPost_ret e rfl (hQ _ _ ⟨rfl, hbb⟩)
end Go.Proofs.YtjdniebjhilooaaGreatDoor
