import Derived.Test.YtjdniebjhilooaaGreatDoorM22
namespace Go.Proofs.YtjdniebjhilooaaGreatDoor
set_option linter.all false
open Go.RowKit Go.Fl
theorem flatC_app (a b : List ByteArray) : flatC (a ++ b) = flatC a ++ flatC b := by simp [flatC]
theorem print_len {st sp : Int} {xs : List Nat} {ms : List (Int × ByteArray)} (h : GoodR st sp xs ms) (hx : xs.length ≤ 40) (hm : ms.length ≤ 6) : (printL st sp xs ms).length ≤ 4000 ∧ 1 ≤ (printL st sp xs ms).length := by
 obtain ⟨l, hl, hs⟩ := head_line h
 have h1 := flatC_len (ms.map markB) 100 (fun x hx => by
  obtain ⟨p, hp, rfl⟩ := List.mem_map.1 hx
  have := h.mark p hp
  exact markB_size this.1 h.many this.2)
 have h2 := flatC_len (xs.map sampB) 29 (fun x hx => by
  obtain ⟨y, hy, rfl⟩ := List.mem_map.1 hx
  have := numLineB_size wSamp [unitI y] (by intro z hz; simp at hz; subst hz; exact unit_range (h.samp y hy))
  have h3 : wSamp.size = 6 := rfl
  unfold sampB
  simp only [List.length_cons, List.length_nil] at this
  omega)
 rw [List.length_map] at h1 h2
 have e : printL st sp xs ms = l.data.toList ++ (flatC (ms.map markB) ++ flatC (xs.map sampB)) := by
  rw [hl.out, ← flatC_app]
  unfold printL printLs flatC
  rw [List.flatMap_cons]
 have hsz : l.data.toList.length = l.size := Array.length_toList
 have hp : 1 ≤ l.size := by
  rw [hl.out]
  unfold numLineB
  rw [lineB_size]
  unfold lineL
  rw [List.length_append]; simp
 rw [e, List.length_append, List.length_append, hsz]
 omega
set_option maxRecDepth 100000 in
set_option maxHeartbeats 4000000 in
theorem parse_good (s : ByteArray) (w : World) (st sp : Int) (xs : List Nat) (ms : List (Int × ByteArray)) (n : Nat) (hM : Mx w) (hs : s.size ≤ 4096) (hg : linesGo 0 zeroS (linesL s) = (n + 1, true, (st, sp, xs, ms))) (h0 : recI st sp xs ms = 0) :
 Calls Tryz.prog 11 #[.string s] w fun e w' => ∃ A c B d, e = .returned (.tuple #[.agg #[.int .i64 st, .int .i64 sp, .slice A xs.length c, .slice B ms.length d], .int .i64 0, .int .i64 0]) ∧ Rd w' A (flts xs) ∧ Rd w' B (markC ms) ∧ (A = none → c = 0) ∧ Below w.heap.size w w' := by
 have hlx := (goodR_of h0).many
 obtain ⟨w0, hw0⟩ : ∃ w0, w0 = w.alloc (.cells zero4.toArray 33) := ⟨_, rfl⟩
 have hz0 : w0.heap.size = w.heap.size + 1 := by rw [hw0, World.size_alloc]
 have hb0 : Below w.heap.size w w0 := by rw [hw0]; exact (Below.refl _ _).alloc (Nat.le_refl _) _
 have hr0 : Row w0 w.heap.size 33 zero4 := by rw [hw0]; exact Row.new _ _ _
 have hb1 : Below w0.heap.size w0 (w0.alloc (.cells zero4.toArray 33)) := (Below.refl _ _).alloc (Nat.le_refl _) _
 have HI : Hid (RcI w0 (w.heap.size + 1) zeroS (w0.alloc (.cells zero4.toArray 33))) := by
  have h := Row.new w0 33 zero4
  rw [hz0] at h
  exact ⟨by omega, _, _, h, World.ownsRow_nil _ _ _ _, World.ownsRow_nil _ _ _ _, hb1⟩
 have HL : Hid (Calls Tryz.prog 53 #[.string s, .func (.func 54) #[] #[.pointer (some ⟨w.heap.size + 1, 0, none⟩)]] ((w.alloc (.cells zero4.toArray 33)).alloc (.cells zero4.toArray 33)) fun e w' => e = .returned (.tuple #[.int .i64 (n + 1 : Nat), .int .i64 0]) ∧ RcI w0 (w.heap.size + 1) (st, sp, xs, ms) w') := by
  have := readLines_any w0 (w.heap.size + 1) s _ HI.out (hM.old hb0) hs (fun l _ => smallN_all _)
  rw [hg] at this; rw [← hw0]; exact this
 have Hr0 := Lib.hid hr0; have Hb0 := Lib.hid hb0; have Hz0 := Lib.hid hz0
 have HE := Lib.hid h0
 clear hw0 hz0 hb0 hr0 hb1 HI hg h0 hM
 go_enter Tryz.func11, Tryz.ntmps11
 go_wp2_with fail
 refine HL.out.mono ?_
 rintro e w1 ⟨rfl, h1⟩
 obtain ⟨k1, vs, vm, k3, k4, k5, k6⟩ := h1
 obtain ⟨A, c, rfl, hA⟩ := owned_slice k4
 obtain ⟨B, d, rfl, hB⟩ := owned_slice k5
 have HCP := Lib.hid (own_cap k4).2
 have HAb : Hid (∀ b off, A = some ⟨b, off, none⟩ → b ≠ w.heap.size) := fun b off e => by
  have := (k4.lt b (by rw [e]; rfl)).1
  have := Hz0.out; omega
 have HBb : Hid (∀ b off, B = some ⟨b, off, none⟩ → b ≠ w.heap.size) := fun b off e => by
  have := (k5.lt b (by rw [e]; rfl)).1
  have := Hz0.out; omega
 have hr1 : Row w1 w.heap.size 33 zero4 := Hr0.out.below k6 (by have := Hz0.out; omega)
 have HB1 : Hid (Below w.heap.size w w1) := Hb0.out.trans (k6.mono (by have := Hz0.out; omega))
 have q0 := k3.cell 0; have q1 := k3.cell 1; have q2 := k3.cell 2; have q3 := k3.cell 3
 have HC : Hid (Calls Tryz.prog 45 #[.agg #[.int .i64 st, .int .i64 sp, .slice A xs.length c, .slice B ms.length d]] w1 fun e w' => e = .returned (.int .i64 0) ∧ Below w1.heap.size w1 w') := by
  have := checkRecording_any st sp A B xs.length c ms.length d xs ms w1 hA hB rfl rfl (by omega)
  rw [HE.out] at this; exact this
 have HA := Lib.hid hA; have HB := Lib.hid hB; have K3 := Lib.hid k3; have R1 := Lib.hid hr1
 simp only [paV, List.getElem?_cons_succ, List.getElem?_cons_zero] at q0 q1 q2 q3
 clear k1 k3 k4 k5 k6 hA hB hr1
 go_wp2_with fail
 refine HC.out.mono ?_
 rintro e w2 ⟨rfl, hb2⟩
 have k3 := K3.out.old hb2
 have r2 := R1.out.old hb2
 have p0 := k3.cell 0; have p1 := k3.cell 1; have p2 := k3.cell 2; have p3 := k3.cell 3
 have z0 := r2.cell 0; have z1 := r2.cell 1; have z2 := r2.cell 2; have z3 := r2.cell 3
 have f0 := r2.free 0; have f1 := r2.free 1; have f2 := r2.free 2; have f3 := r2.free 3
 have HA2 := Lib.hid (HA.out.below hb2); have HB2 := Lib.hid (HB.out.below hb2)
 have HB3 := Lib.hid (HB1.out.trans (hb2.mono HB1.out.size))
 have R2 := Lib.hid r2
 simp only [paV, zero4, List.getElem?_cons_succ, List.getElem?_cons_zero] at p0 p1 p2 p3 z0 z1 z2 z3
 clear k3 r2 hb2 q0 q1 q2 q3 K3 R1
 go_wp2
 have hrow := (((R2.out.set 0 (.int .i64 st)).set 1 (.int .i64 sp)).set 2 (.slice A xs.length c)).set 3 (.slice B ms.length d)
 have hbb := (((HB3.out.setCell (p := ⟨w.heap.size, 0, none⟩) (Nat.le_refl _) (.int .i64 st)).setCell (p := ⟨w.heap.size, 1, none⟩) (Nat.le_refl _) (.int .i64 sp)).setCell (p := ⟨w.heap.size, 2, none⟩) (Nat.le_refl _) (.slice A xs.length c)).setCell (p := ⟨w.heap.size, 3, none⟩) (Nat.le_refl _) (.slice B ms.length d)
 refine bodyPost_ret (results_ctt rfl _ _ w.heap.size 33 #[.int .i64 st, .int .i64 sp, .slice A xs.length c, .slice B ms.length d] (0, 0) _ rfl hrow Tryz.underlying33 rfl (by kernel_rfl)) rfl ⟨A, c, B, d, rfl, ?_, ?_, HCP.out, hbb⟩
 · exact (((HA2.out.far HAb.out _ _).far HAb.out _ _).far HAb.out _ _).far HAb.out _ _
 · exact (((HB2.out.far HBb.out _ _).far HBb.out _ _).far HBb.out _ _).far HBb.out _ _
end Go.Proofs.YtjdniebjhilooaaGreatDoor
