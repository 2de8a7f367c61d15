import Derived.Test.YtjdniebjhilooaaGreatDoorM14
import Derived.Lib.OthersKept
namespace Go.Proofs.YtjdniebjhilooaaGreatDoor
set_option linter.all false
open Go.RowKit Go.Fl
def RA := @List.setIfInBounds_toArray
def RD := @wpAnyH_take
def RE := @AllReadyH.cons
def RF := @AllReadyH.nil
def RG := @wpAnyH_ready
def RB := @List.set_cons_zero
def RC := @List.set_cons_succ
def recI (st sp : Int) (xs : List Nat) (ms : List (Int × ByteArray)) : Int :=
 firstI [whenI (rangeB st 0 100000000) 3, whenI (rangeB sp 1 1000) 3, sampsI xs, whenI (decide (0 < xs.length) && decide (100000000 < tickI st sp ((xs.length : Int) - 1))) 4, marksI xs.length ms]
set_option maxRecDepth 100000 in
set_option maxHeartbeats 4000000 in
theorem checkRecording_any (st sp : Int) (A B : Option Addr) (n c m d : Nat) (xs : List Nat) (ms : List (Int × ByteArray)) (w : World) (hA : Rd w A (flts xs)) (hB : Rd w B (markC ms)) (hn : n = xs.length) (hm : m = ms.length) (hx : xs.length ≤ 1000000000) :
 Calls Tryz.prog 45 #[.agg #[.int .i64 st, .int .i64 sp, .slice A n c, .slice B m d]] w fun e w' => e = .returned (.int .i64 (recI st sp xs ms)) ∧ Below w.heap.size w w' := by
 subst hn; subst hm
 have HA : Hid (∀ W, Below w.heap.size w W → Rd W A (flts xs)) := fun W h => hA.below h
 have HB : Hid (∀ W, Below w.heap.size w W → Rd W B (markC ms)) := fun W h => hB.below h
 clear hA hB
 by_cases h0 : xs.length = 0
 · have hg : decide (0 < xs.length) = false := decide_eq_false (by omega)
   have HR : Hid (recI st sp xs ms = firstI [whenI (rangeB st 0 100000000) 3, whenI (rangeB sp 1 1000) 3, sampsI xs, whenI false 4, marksI xs.length ms]) := by
    unfold Hid recI; rw [hg]; rfl
   clear h0
   go_enter Tryz.func45, Tryz.ntmps45
   go_wp2
   refine wp_region_held_drew (S := fun w' => w'.cell? ⟨w.heap.size, 0, none⟩ = some (.int .i64 st) ∧ w'.cell? ⟨w.heap.size, 1, none⟩ = some (.int .i64 sp) ∧ w'.cell? ⟨w.heap.size, 2, none⟩ = some (.slice A xs.length c) ∧ w'.cell? ⟨w.heap.size, 3, none⟩ = some (.slice B ms.length d) ∧ Below w.heap.size w w') (by kernel_rfl) ?_ (fun hHeld => ?_)
   · exact ⟨by simp, by simp, by simp, by simp, ((Below.refl _ _).alloc (Nat.le_refl _) _).drew⟩
   refine RD (i := 0) (v := ?_) rfl (by kernel_rfl) (by kernel_rfl) (by kernel_rfl) (fun _ _ _ h => h) (Or.inl ⟨by kernel_rfl, ?_⟩) hHeld ?_
   rotate_left
   · intro w1 hSw; (try dsimp only at hSw); go_simp <;> with_reducible rfl
   try simp only [Act.put, RA, RB, RC]
   refine RD (i := 1) (v := ?_) rfl (by kernel_rfl) (by kernel_rfl) (by kernel_rfl) (fun _ _ _ h => h) (Or.inl ⟨by kernel_rfl, ?_⟩) hHeld ?_
   rotate_left
   · intro w1 hSw; (try dsimp only at hSw); go_simp <;> with_reducible rfl
   try simp only [Act.put, RA, RB, RC]
   refine RD (i := 3) (v := ?_) rfl (by kernel_rfl) (by kernel_rfl) (by kernel_rfl) (fun _ _ _ h => h) (Or.inl ⟨by kernel_rfl, ?_⟩) hHeld ?_
   rotate_left
   · intro w1 hSw; (try dsimp only at hSw); go_simp <;> with_reducible rfl
   try simp only [Act.put, RA, RB, RC]
   refine RD (i := 4) (v := ?_) rfl (by kernel_rfl) (by kernel_rfl) (by kernel_rfl) (fun _ _ _ h => h) (Or.inl ⟨by kernel_rfl, ?_⟩) hHeld ?_
   rotate_left
   · intro w1 hSw; (try dsimp only at hSw); go_simp <;> with_reducible rfl
   try simp only [Act.put, RA, RB, RC]
   refine RD (i := 6) (v := ?_) rfl (by kernel_rfl) (by kernel_rfl) (by kernel_rfl) (fun _ _ _ h => h) (Or.inl ⟨by kernel_rfl, ?_⟩) hHeld ?_
   rotate_left
   · intro w1 hSw; (try dsimp only at hSw); go_simp <;> with_reducible rfl
   try simp only [Act.put, RA, RB, RC]
   refine RD (i := 7) (v := ?_) rfl (by kernel_rfl) (by kernel_rfl) (by kernel_rfl) (fun _ _ _ h => h) (Or.inl ⟨by kernel_rfl, ?_⟩) hHeld ?_
   rotate_left
   · intro w1 hSw; (try dsimp only at hSw); go_simp <;> with_reducible rfl
   try simp only [Act.put, RA, RB, RC]
   refine RD (i := 9) (v := ?_) rfl (by kernel_rfl) (by kernel_rfl) (by kernel_rfl) (fun _ _ _ h => h) (Or.inl ⟨by kernel_rfl, ?_⟩) hHeld ?_
   rotate_left
   · intro w1 hSw; (try dsimp only at hSw); go_simp <;> with_reducible rfl
   try simp only [Act.put, RA, RB, RC]
   refine RD (i := 10) (v := ?_) rfl (by kernel_rfl) (by kernel_rfl) (by kernel_rfl) (fun _ _ _ h => h) (Or.inl ⟨by kernel_rfl, ?_⟩) hHeld ?_
   rotate_left
   · intro w1 hSw; (try dsimp only at hSw); go_simp <;> with_reducible rfl
   try simp only [Act.put, RA, RB, RC]
   refine RD (i := 19) (v := ?_) rfl (by kernel_rfl) (by kernel_rfl) (by kernel_rfl) (fun _ _ _ h => h) (Or.inl ⟨by kernel_rfl, ?_⟩) hHeld ?_
   rotate_left
   · intro w1 hSw; (try dsimp only at hSw); go_simp <;> with_reducible rfl
   try simp only [Act.put, RA, RB, RC]
   refine RD (i := 20) (v := ?_) rfl (by kernel_rfl) (by kernel_rfl) (by kernel_rfl) (fun _ _ _ h => h) (Or.inl ⟨by kernel_rfl, ?_⟩) hHeld ?_
   rotate_left
   · intro w1 hSw; (try dsimp only at hSw); go_simp <;> with_reducible rfl
   try simp only [Act.put, RA, RB, RC]
   refine RD (i := 21) (v := ?_) rfl (by kernel_rfl) (by kernel_rfl) (by kernel_rfl) (fun _ _ _ h => h) (Or.inl ⟨by kernel_rfl, ?_⟩) hHeld ?_
   rotate_left
   · intro w1 hSw; (try dsimp only at hSw); go_simp <;> with_reducible rfl
   try simp only [Act.put, RA, RB, RC]
   refine RG (rs := [2]) (by kernel_rfl) (by simp) ?_
   refine RE rfl (fun K hK => ?_) RF
   go_simp
   go_at_call 78
   refine (between_any _ _ _ _).mono ?_
   rintro e w1 ⟨rfl, rfl⟩
   try go_simp
   refine hK.out _ _ ?_ (fun hHeld => ?_)
   · exact hHeld
   clear hK K
   try simp only [Act.put, RA, RB, RC]
   refine RG (rs := [5]) (by kernel_rfl) (by simp) ?_
   refine RE rfl (fun K hK => ?_) RF
   go_simp
   go_at_call 78
   refine (between_any _ _ _ _).mono ?_
   rintro e w1 ⟨rfl, rfl⟩
   try go_simp
   refine hK.out _ _ ?_ (fun hHeld => ?_)
   · exact hHeld
   clear hK K
   try simp only [Act.put, RA, RB, RC]
   refine RG (rs := [8]) (by kernel_rfl) (by simp) ?_
   refine RE rfl (fun K hK => ?_) RF
   go_simp
   go_at_call 87
   refine (checkSamples_any _ _ _ xs _ (HA.out _ hHeld.2.2.2.2) rfl).mono ?_
   rintro e w1 ⟨rfl, hb1⟩
   try go_simp
   refine hK.out _ _ ?_ (fun hHeld => ?_)
   · exact ⟨keepC hHeld.1 hb1, keepC hHeld.2.1 hb1, keepC hHeld.2.2.1 hb1, keepC hHeld.2.2.2.1 hb1, hHeld.2.2.2.2.trans ((hb1).mono hHeld.2.2.2.2.size)⟩
   clear hK K
   try simp only [Act.put, RA, RB, RC]
   refine RD (i := 11) (v := ?_) rfl (by kernel_rfl) (by kernel_rfl) (by kernel_rfl) (fun _ _ _ h => h) (Or.inl ⟨by kernel_rfl, ?_⟩) hHeld ?_
   rotate_left
   · intro w1 hSw; (try dsimp only at hSw); go_simp <;> with_reducible rfl
   try simp only [Act.put, RA, RB, RC]
   refine RD (i := 12) (v := undef) rfl (by kernel_rfl) (by kernel_rfl) (by kernel_rfl) (fun _ _ _ h => h) (Or.inr ⟨by kernel_rfl, rfl⟩) hHeld ?_
   try simp only [Act.put, RA, RB, RC]
   refine RD (i := 13) (v := undef) rfl (by kernel_rfl) (by kernel_rfl) (by kernel_rfl) (fun _ _ _ h => h) (Or.inr ⟨by kernel_rfl, rfl⟩) hHeld ?_
   try simp only [Act.put, RA, RB, RC]
   refine RD (i := 14) (v := undef) rfl (by kernel_rfl) (by kernel_rfl) (by kernel_rfl) (fun _ _ _ h => h) (Or.inr ⟨by kernel_rfl, rfl⟩) hHeld ?_
   try simp only [Act.put, RA, RB, RC]
   refine RD (i := 15) (v := undef) rfl (by kernel_rfl) (by kernel_rfl) (by kernel_rfl) (fun _ _ _ h => h) (Or.inr ⟨by kernel_rfl, rfl⟩) hHeld ?_
   try simp only [Act.put, RA, RB, RC]
   refine RD (i := 16) (v := undef) rfl (by kernel_rfl) (by kernel_rfl) (by kernel_rfl) (fun _ _ _ h => h) (Or.inr ⟨by kernel_rfl, rfl⟩) hHeld ?_
   try simp only [Act.put, RA, RB, RC]
   refine RD (i := 17) (v := ?_) rfl (by kernel_rfl) (by kernel_rfl) (by kernel_rfl) (fun _ _ _ h => h) (Or.inl ⟨by kernel_rfl, ?_⟩) hHeld ?_
   rotate_left
   · intro w1 hSw; (try dsimp only at hSw); go_simp <;> with_reducible rfl
   try simp only [Act.put, RA, RB, RC]
   refine RG (rs := [18]) (by kernel_rfl) (by simp) ?_
   refine RE rfl (fun K hK => ?_) RF
   go_simp
   go_at_call 96
   refine (failed_any _ _ _).mono ?_
   rintro e w1 ⟨rfl, rfl⟩
   try go_simp
   refine hK.out _ _ ?_ (fun hHeld => ?_)
   · exact hHeld
   clear hK K
   try simp only [Act.put, RA, RB, RC]
   refine RG (rs := [22]) (by kernel_rfl) (by simp) ?_
   refine RE rfl (fun K hK => ?_) RF
   go_simp
   go_at_call 110
   refine (checkMarks_any _ _ _ _ ms _ (HB.out _ hHeld.2.2.2.2) rfl).mono ?_
   rintro e w1 ⟨rfl, hb1⟩
   try go_simp
   refine hK.out _ _ ?_ (fun hHeld => ?_)
   · exact ⟨keepC hHeld.1 hb1, keepC hHeld.2.1 hb1, keepC hHeld.2.2.1 hb1, keepC hHeld.2.2.2.1 hb1, hHeld.2.2.2.2.trans ((hb1).mono hHeld.2.2.2.2.size)⟩
   clear hK K
   try simp only [Act.put, RA, RB, RC]
   refine RG (rs := [23]) (by kernel_rfl) (by simp) ?_
   refine RE rfl (fun K hK => ?_) RF
   go_simp
   refine hK.out _ _ ?_ (fun hHeld => ?_)
   · exact ⟨keepC hHeld.1 ((Below.refl _ _).alloc (Nat.le_refl _) _), keepC hHeld.2.1 ((Below.refl _ _).alloc (Nat.le_refl _) _), keepC hHeld.2.2.1 ((Below.refl _ _).alloc (Nat.le_refl _) _), keepC hHeld.2.2.2.1 ((Below.refl _ _).alloc (Nat.le_refl _) _), hHeld.2.2.2.2.trans ((((Below.refl _ _).alloc (Nat.le_refl _) _)).mono hHeld.2.2.2.2.size)⟩
   clear hK K
   try simp only [Act.put, RA, RB, RC]
   refine RG (rs := [24]) (by kernel_rfl) (by simp) ?_
   refine RE rfl (fun K hK => ?_) RF
   go_simp
   go_at_call 76
   refine (firstV_any _ _ _ [whenI (rangeB st 0 100000000) 3, whenI (rangeB sp 1 1000) 3, sampsI xs, whenI false 4, marksI xs.length ms] _ ?_ rfl (by simp)).mono ?_
   · exact Rd.new _ _ _ _ (by simp)
   rintro e w1 ⟨rfl, rfl⟩
   try go_simp
   refine hK.out _ _ ?_ (fun hHeld => ?_)
   · exact hHeld
   clear hK K
   try simp only [Act.put, RA, RB, RC]
   refine RD (i := 25) (oi := { dst := some 2, op := Op.assign (Operand.tmp 31), type := 28, pos := _, after := #[{ on := 24, ground := Ground.data }, { on := 24, ground := Ground.chain }, { on := 0, ground := Ground.phase }, { on := 1, ground := Ground.phase }, { on := 2, ground := Ground.phase }, { on := 3, ground := Ground.phase }, { on := 4, ground := Ground.phase }, { on := 5, ground := Ground.phase }, { on := 6, ground := Ground.phase }, { on := 7, ground := Ground.phase }, { on := 8, ground := Ground.phase }, { on := 9, ground := Ground.phase }, { on := 10, ground := Ground.phase }, { on := 11, ground := Ground.phase }, { on := 12, ground := Ground.phase }, { on := 13, ground := Ground.phase }, { on := 14, ground := Ground.phase }, { on := 15, ground := Ground.phase }, { on := 16, ground := Ground.phase }, { on := 17, ground := Ground.phase }, { on := 18, ground := Ground.phase }, { on := 19, ground := Ground.phase }, { on := 20, ground := Ground.phase }, { on := 21, ground := Ground.phase }, { on := 22, ground := Ground.phase }, { on := 23, ground := Ground.phase }, { on := 24, ground := Ground.phase }], guard := none }) (v := ?_) rfl (by kernel_rfl) (by kernel_rfl) (by kernel_rfl) (fun _ _ _ h => h) (Or.inl ⟨by kernel_rfl, ?_⟩) hHeld ?_
   rotate_left
   · intro w1 hSw; (try dsimp only at hSw); go_simp <;> with_reducible rfl
   try simp only [Act.put, RA, RB, RC]
   refine wpAnyH_done (by kernel_rfl) ?_ _
   go_wp2
   go_ret
   exact ⟨ret_int HR.out.symm, hHeld.2.2.2.2⟩
 · have hg : decide (0 < xs.length) = true := decide_eq_true (by omega)
   have hsub : IntKind.i64.wrap ((xs.length : Int) - 1) = (xs.length : Int) - 1 := IntWalk.i64_in _ (by omega)
   have HR : Hid (recI st sp xs ms = firstI [whenI (rangeB st 0 100000000) 3, whenI (rangeB sp 1 1000) 3, sampsI xs, whenI (decide (100000000 < tickI st sp ((xs.length : Int) - 1))) 4, marksI xs.length ms]) := by
    unfold Hid recI; rw [hg]; rfl
   clear h0
   go_enter Tryz.func45, Tryz.ntmps45
   go_wp2
   refine wp_region_held_drew (S := fun w' => w'.cell? ⟨w.heap.size, 0, none⟩ = some (.int .i64 st) ∧ w'.cell? ⟨w.heap.size, 1, none⟩ = some (.int .i64 sp) ∧ w'.cell? ⟨w.heap.size, 2, none⟩ = some (.slice A xs.length c) ∧ w'.cell? ⟨w.heap.size, 3, none⟩ = some (.slice B ms.length d) ∧ Below w.heap.size w w') (by kernel_rfl) ?_ (fun hHeld => ?_)
   · exact ⟨by simp, by simp, by simp, by simp, ((Below.refl _ _).alloc (Nat.le_refl _) _).drew⟩
   refine RD (i := 0) (v := ?_) rfl (by kernel_rfl) (by kernel_rfl) (by kernel_rfl) (fun _ _ _ h => h) (Or.inl ⟨by kernel_rfl, ?_⟩) hHeld ?_
   rotate_left
   · intro w1 hSw; (try dsimp only at hSw); go_simp <;> with_reducible rfl
   try simp only [Act.put, RA, RB, RC]
   refine RD (i := 1) (v := ?_) rfl (by kernel_rfl) (by kernel_rfl) (by kernel_rfl) (fun _ _ _ h => h) (Or.inl ⟨by kernel_rfl, ?_⟩) hHeld ?_
   rotate_left
   · intro w1 hSw; (try dsimp only at hSw); go_simp <;> with_reducible rfl
   try simp only [Act.put, RA, RB, RC]
   refine RD (i := 3) (v := ?_) rfl (by kernel_rfl) (by kernel_rfl) (by kernel_rfl) (fun _ _ _ h => h) (Or.inl ⟨by kernel_rfl, ?_⟩) hHeld ?_
   rotate_left
   · intro w1 hSw; (try dsimp only at hSw); go_simp <;> with_reducible rfl
   try simp only [Act.put, RA, RB, RC]
   refine RD (i := 4) (v := ?_) rfl (by kernel_rfl) (by kernel_rfl) (by kernel_rfl) (fun _ _ _ h => h) (Or.inl ⟨by kernel_rfl, ?_⟩) hHeld ?_
   rotate_left
   · intro w1 hSw; (try dsimp only at hSw); go_simp <;> with_reducible rfl
   try simp only [Act.put, RA, RB, RC]
   refine RD (i := 6) (v := ?_) rfl (by kernel_rfl) (by kernel_rfl) (by kernel_rfl) (fun _ _ _ h => h) (Or.inl ⟨by kernel_rfl, ?_⟩) hHeld ?_
   rotate_left
   · intro w1 hSw; (try dsimp only at hSw); go_simp <;> with_reducible rfl
   try simp only [Act.put, RA, RB, RC]
   refine RD (i := 7) (v := ?_) rfl (by kernel_rfl) (by kernel_rfl) (by kernel_rfl) (fun _ _ _ h => h) (Or.inl ⟨by kernel_rfl, ?_⟩) hHeld ?_
   rotate_left
   · intro w1 hSw; (try dsimp only at hSw); go_simp <;> with_reducible rfl
   try simp only [Act.put, RA, RB, RC]
   refine RD (i := 9) (v := ?_) rfl (by kernel_rfl) (by kernel_rfl) (by kernel_rfl) (fun _ _ _ h => h) (Or.inl ⟨by kernel_rfl, ?_⟩) hHeld ?_
   rotate_left
   · intro w1 hSw; (try dsimp only at hSw); go_simp <;> with_reducible rfl
   try simp only [Act.put, RA, RB, RC]
   refine RD (i := 10) (v := ?_) rfl (by kernel_rfl) (by kernel_rfl) (by kernel_rfl) (fun _ _ _ h => h) (Or.inl ⟨by kernel_rfl, ?_⟩) hHeld ?_
   rotate_left
   · intro w1 hSw; (try dsimp only at hSw); go_simp <;> with_reducible rfl
   try simp only [Act.put, RA, RB, RC]
   refine RD (i := 19) (v := ?_) rfl (by kernel_rfl) (by kernel_rfl) (by kernel_rfl) (fun _ _ _ h => h) (Or.inl ⟨by kernel_rfl, ?_⟩) hHeld ?_
   rotate_left
   · intro w1 hSw; (try dsimp only at hSw); go_simp <;> with_reducible rfl
   try simp only [Act.put, RA, RB, RC]
   refine RD (i := 20) (v := ?_) rfl (by kernel_rfl) (by kernel_rfl) (by kernel_rfl) (fun _ _ _ h => h) (Or.inl ⟨by kernel_rfl, ?_⟩) hHeld ?_
   rotate_left
   · intro w1 hSw; (try dsimp only at hSw); go_simp <;> with_reducible rfl
   try simp only [Act.put, RA, RB, RC]
   refine RD (i := 21) (v := ?_) rfl (by kernel_rfl) (by kernel_rfl) (by kernel_rfl) (fun _ _ _ h => h) (Or.inl ⟨by kernel_rfl, ?_⟩) hHeld ?_
   rotate_left
   · intro w1 hSw; (try dsimp only at hSw); go_simp <;> with_reducible rfl
   try simp only [Act.put, RA, RB, RC]
   refine RG (rs := [2]) (by kernel_rfl) (by simp) ?_
   refine RE rfl (fun K hK => ?_) RF
   go_simp
   go_at_call 78
   refine (between_any _ _ _ _).mono ?_
   rintro e w1 ⟨rfl, rfl⟩
   try go_simp
   refine hK.out _ _ ?_ (fun hHeld => ?_)
   · exact hHeld
   clear hK K
   try simp only [Act.put, RA, RB, RC]
   refine RG (rs := [5]) (by kernel_rfl) (by simp) ?_
   refine RE rfl (fun K hK => ?_) RF
   go_simp
   go_at_call 78
   refine (between_any _ _ _ _).mono ?_
   rintro e w1 ⟨rfl, rfl⟩
   try go_simp
   refine hK.out _ _ ?_ (fun hHeld => ?_)
   · exact hHeld
   clear hK K
   try simp only [Act.put, RA, RB, RC]
   refine RG (rs := [8]) (by kernel_rfl) (by simp) ?_
   refine RE rfl (fun K hK => ?_) RF
   go_simp
   go_at_call 87
   refine (checkSamples_any _ _ _ xs _ (HA.out _ hHeld.2.2.2.2) rfl).mono ?_
   rintro e w1 ⟨rfl, hb1⟩
   try go_simp
   refine hK.out _ _ ?_ (fun hHeld => ?_)
   · exact ⟨keepC hHeld.1 hb1, keepC hHeld.2.1 hb1, keepC hHeld.2.2.1 hb1, keepC hHeld.2.2.2.1 hb1, hHeld.2.2.2.2.trans ((hb1).mono hHeld.2.2.2.2.size)⟩
   clear hK K
   try simp only [Act.put, RA, RB, RC]
   refine RD (i := 11) (v := ?_) rfl (by kernel_rfl) (by kernel_rfl) (by kernel_rfl) (fun _ _ _ h => h) (Or.inl ⟨by kernel_rfl, ?_⟩) hHeld ?_
   rotate_left
   · intro w1 hSw; (try dsimp only at hSw); go_simp <;> with_reducible rfl
   try simp only [Act.put, RA, RB, RC]
   refine RD (i := 12) (v := ?_) rfl (by kernel_rfl) (by kernel_rfl) (by kernel_rfl) (fun _ _ _ h => h) (Or.inl ⟨by kernel_rfl, ?_⟩) hHeld ?_
   rotate_left
   · intro w1 hSw; (try dsimp only at hSw); go_simp <;> with_reducible rfl
   try simp only [Act.put, RA, RB, RC]
   refine RD (i := 13) (v := ?_) rfl (by kernel_rfl) (by kernel_rfl) (by kernel_rfl) (fun _ _ _ h => h) (Or.inl ⟨by kernel_rfl, ?_⟩) hHeld ?_
   rotate_left
   · intro w1 hSw; (try dsimp only at hSw); go_simp <;> with_reducible rfl
   try simp only [Act.put, RA, RB, RC]
   refine RD (i := 14) (v := ?_) rfl (by kernel_rfl) (by kernel_rfl) (by kernel_rfl) (fun _ _ _ h => h) (Or.inl ⟨by kernel_rfl, ?_⟩) hHeld ?_
   rotate_left
   · intro w1 hSw; (try dsimp only at hSw); go_simp <;> with_reducible rfl
   try simp only [Act.put, RA, RB, RC]
   refine RG (rs := [15]) (by kernel_rfl) (by simp) ?_
   refine RE rfl (fun K hK => ?_) RF
   go_simp
   go_at_call 97
   refine (tick_any _ _ _ _ _ _ _ _ _ _).mono ?_
   rintro e w1 ⟨rfl, hb1⟩
   try go_simp
   refine hK.out _ _ ?_ (fun hHeld => ?_)
   · exact ⟨keepC hHeld.1 hb1, keepC hHeld.2.1 hb1, keepC hHeld.2.2.1 hb1, keepC hHeld.2.2.2.1 hb1, hHeld.2.2.2.2.trans ((hb1).mono hHeld.2.2.2.2.size)⟩
   clear hK K
   try simp only [Act.put, RA, RB, RC]
   refine RD (i := 16) (v := ?_) rfl (by kernel_rfl) (by kernel_rfl) (by kernel_rfl) (fun _ _ _ h => h) (Or.inl ⟨by kernel_rfl, ?_⟩) hHeld ?_
   rotate_left
   · intro w1 hSw; (try dsimp only at hSw); go_simp <;> with_reducible rfl
   try simp only [Act.put, RA, RB, RC]
   refine RD (i := 17) (v := ?_) rfl (by kernel_rfl) (by kernel_rfl) (by kernel_rfl) (fun _ _ _ h => h) (Or.inl ⟨by kernel_rfl, ?_⟩) hHeld ?_
   rotate_left
   · intro w1 hSw; (try dsimp only at hSw); go_simp <;> with_reducible rfl
   try simp only [Act.put, RA, RB, RC]
   refine RG (rs := [18]) (by kernel_rfl) (by simp) ?_
   refine RE rfl (fun K hK => ?_) RF
   go_simp
   go_at_call 96
   refine (failed_any _ _ _).mono ?_
   rintro e w1 ⟨rfl, rfl⟩
   try go_simp
   refine hK.out _ _ ?_ (fun hHeld => ?_)
   · exact hHeld
   clear hK K
   try simp only [Act.put, RA, RB, RC]
   refine RG (rs := [22]) (by kernel_rfl) (by simp) ?_
   refine RE rfl (fun K hK => ?_) RF
   go_simp
   go_at_call 110
   refine (checkMarks_any _ _ _ _ ms _ (HB.out _ hHeld.2.2.2.2) rfl).mono ?_
   rintro e w1 ⟨rfl, hb1⟩
   try go_simp
   refine hK.out _ _ ?_ (fun hHeld => ?_)
   · exact ⟨keepC hHeld.1 hb1, keepC hHeld.2.1 hb1, keepC hHeld.2.2.1 hb1, keepC hHeld.2.2.2.1 hb1, hHeld.2.2.2.2.trans ((hb1).mono hHeld.2.2.2.2.size)⟩
   clear hK K
   try simp only [Act.put, RA, RB, RC]
   refine RG (rs := [23]) (by kernel_rfl) (by simp) ?_
   refine RE rfl (fun K hK => ?_) RF
   go_simp
   refine hK.out _ _ ?_ (fun hHeld => ?_)
   · exact ⟨keepC hHeld.1 ((Below.refl _ _).alloc (Nat.le_refl _) _), keepC hHeld.2.1 ((Below.refl _ _).alloc (Nat.le_refl _) _), keepC hHeld.2.2.1 ((Below.refl _ _).alloc (Nat.le_refl _) _), keepC hHeld.2.2.2.1 ((Below.refl _ _).alloc (Nat.le_refl _) _), hHeld.2.2.2.2.trans ((((Below.refl _ _).alloc (Nat.le_refl _) _)).mono hHeld.2.2.2.2.size)⟩
   clear hK K
   try simp only [Act.put, RA, RB, RC]
   refine RG (rs := [24]) (by kernel_rfl) (by simp) ?_
   refine RE rfl (fun K hK => ?_) RF
   go_simp
   go_at_call 76
   refine (firstV_any _ _ _ [whenI (rangeB st 0 100000000) 3, whenI (rangeB sp 1 1000) 3, sampsI xs, whenI (decide (100000000 < tickI st sp ((xs.length : Int) - 1))) 4, marksI xs.length ms] _ ?_ rfl (by simp)).mono ?_
   · exact Rd.new _ _ _ _ (by simp)
   rintro e w1 ⟨rfl, rfl⟩
   try go_simp
   refine hK.out _ _ ?_ (fun hHeld => ?_)
   · exact hHeld
   clear hK K
   try simp only [Act.put, RA, RB, RC]
   refine RD (i := 25) (oi := { dst := some 2, op := Op.assign (Operand.tmp 31), type := 28, pos := _, after := #[{ on := 24, ground := Ground.data }, { on := 24, ground := Ground.chain }, { on := 0, ground := Ground.phase }, { on := 1, ground := Ground.phase }, { on := 2, ground := Ground.phase }, { on := 3, ground := Ground.phase }, { on := 4, ground := Ground.phase }, { on := 5, ground := Ground.phase }, { on := 6, ground := Ground.phase }, { on := 7, ground := Ground.phase }, { on := 8, ground := Ground.phase }, { on := 9, ground := Ground.phase }, { on := 10, ground := Ground.phase }, { on := 11, ground := Ground.phase }, { on := 12, ground := Ground.phase }, { on := 13, ground := Ground.phase }, { on := 14, ground := Ground.phase }, { on := 15, ground := Ground.phase }, { on := 16, ground := Ground.phase }, { on := 17, ground := Ground.phase }, { on := 18, ground := Ground.phase }, { on := 19, ground := Ground.phase }, { on := 20, ground := Ground.phase }, { on := 21, ground := Ground.phase }, { on := 22, ground := Ground.phase }, { on := 23, ground := Ground.phase }, { on := 24, ground := Ground.phase }], guard := none }) (v := ?_) rfl (by kernel_rfl) (by kernel_rfl) (by kernel_rfl) (fun _ _ _ h => h) (Or.inl ⟨by kernel_rfl, ?_⟩) hHeld ?_
   rotate_left
   · intro w1 hSw; (try dsimp only at hSw); go_simp <;> with_reducible rfl
   try simp only [Act.put, RA, RB, RC]
   refine wpAnyH_done (by kernel_rfl) ?_ _
   go_wp2
   go_ret
   exact ⟨ret_int HR.out.symm, hHeld.2.2.2.2⟩
def wordI (l : List UInt8) : Int := if firstI [whenI l.isEmpty 12, whenI (decide (4 < l.length)) 26] ≠ 0 then firstI [whenI l.isEmpty 12, whenI (decide (4 < l.length)) 26] else if l.all (fun c => capB (u8I c)) then 0 else 1
theorem wordI_empty : wordI [] = 12 := by decide
theorem wordI_long {l : List UInt8} (h : 4 < l.length) : wordI l = 26 := by
 have he : l.isEmpty = false := by cases l with | nil => simp at h | cons a l => rfl
 unfold wordI; rw [he]; simp [h, firstI, whenI]
theorem wordI_short {l : List UInt8} (h0 : l.isEmpty = false) (h : l.length ≤ 4) : wordI l = if l.all (fun c => capB (u8I c)) then 0 else 1 := by
 have h4 : decide (4 < l.length) = false := by simp; omega
 unfold wordI; rw [h0, h4]; rfl
set_option maxRecDepth 100000 in
set_option maxHeartbeats 1000000 in
theorem checkWord_any (s : ByteArray) (w : World) : Calls Tryz.prog 83 #[.string s] w fun e w' => e = .returned (.int .i64 (wordI s.data.toList)) ∧ Below w.heap.size w w' := by
 have hl : s.data.toList.length = s.size := by simp
 by_cases h0 : s.size = 0
 · have he : s = ByteArray.empty := by
    obtain ⟨⟨l⟩⟩ := s
    cases l with
    | nil => rfl
    | cons a l => simp [ByteArray.size] at h0
   subst he
   clear h0 hl
   go_enter Tryz.func83, Tryz.ntmps83
   go_wp2_with (first | (go_at_call 96; refine (failed_any _ _ _).mono ?_; rintro e w1 ⟨rfl, rfl⟩) | (go_at_call 76; refine (firstV_any _ _ _ [whenI true 12, whenI false 26] _ ?_ rfl (by simp)).mono ?_; (exact Rd.new _ _ _ _ (by simp)); rintro e w1 ⟨rfl, rfl⟩) | (go_at_call 125; refine (isCapital_any _ _).mono ?_; rintro e w1 ⟨rfl, rfl⟩))
   go_ret
   exact ⟨rfl, (Below.refl _ _).alloc (Nat.le_refl _) _⟩
 · have hp : 0 < s.size := by omega
   have hne := isEmpty_eq s hp
   have hne2 : s.toList.isEmpty = false := by rw [ByteArray.toList_eq]; exact hne
   by_cases h1 : 4 < s.size
   · have HW := Lib.hid (wordI_long (l := s.data.toList) (by rw [hl]; exact h1))
     have h1b : decide ((4 : Int) < (s.size : Int)) = true := by simp; omega
     clear hl hne h0 hp
     go_enter Tryz.func83, Tryz.ntmps83
     go_wp2_with (first | (go_at_call 96; refine (failed_any _ _ _).mono ?_; rintro e w1 ⟨rfl, rfl⟩) | (go_at_call 76; refine (firstV_any _ _ _ [whenI false 12, whenI true 26] _ ?_ rfl (by simp)).mono ?_; (exact Rd.new _ _ _ _ (by simp)); rintro e w1 ⟨rfl, rfl⟩) | (go_at_call 125; refine (isCapital_any _ _).mono ?_; rintro e w1 ⟨rfl, rfl⟩))
     go_ret
     exact ⟨ret_int (by rw [HW.out]; rfl), (Below.refl _ _).alloc (Nat.le_refl _) _⟩
   · have h2 : s.size ≤ 4 := by omega
     have HW := Lib.hid (wordI_short hne (by rw [hl]; exact h2))
     have h1b : decide ((4 : Int) < (s.size : Int)) = false := by simp; omega
     clear h1 hne hl
     go_enter Tryz.func83, Tryz.ntmps83
     go_wp2_with (first | (go_at_call 96; refine (failed_any _ _ _).mono ?_; rintro e w1 ⟨rfl, rfl⟩) | (go_at_call 76; refine (firstV_any _ _ _ [whenI false 12, whenI false 26] _ ?_ rfl (by simp)).mono ?_; (exact Rd.new _ _ _ _ (by simp)); rintro e w1 ⟨rfl, rfl⟩) | (go_at_call 125; refine (isCapital_any _ _).mono ?_; rintro e w1 ⟨rfl, rfl⟩))
     go_loopg [19] s.size (fun g i wr => ∃ k : Nat, k ≤ s.size ∧ i = .int .i64 k ∧ g = s.size - k ∧ Hid ((s.data.toList.take k).all (fun c => capB (u8I c)) = true) ∧ Hid (Below w.heap.size w wr))
     case atStart => exact ⟨0, Nat.zero_le _, rfl, rfl, rfl, (Below.refl _ _).alloc (Nat.le_refl _) _⟩
     case round =>
      obtain ⟨k, hk, rfl, hg, H, HB⟩ := hrel
      subst hg
      by_cases hlt : k < s.size
      · have hall := Lib.hid (take_all_succ s k hlt (fun c => capB (u8I c)))
        have hbad := Lib.hid (all_false_of s k hlt (fun c => capB (u8I c)))
        cases hcap : capB (s[k].toNat : Int)
        · have Hc := Lib.hid hcap; clear hcap
          go_wp2_with (go_at_call 125; refine (isCapital_any _ _).mono ?_; rintro e w1 ⟨rfl, rfl⟩; rw [Hc.out])
          go_ret
          exact ⟨ret_int (by rw [HW.out, hbad.out (by unfold u8I; exact Hc.out)]; rfl), HB.out⟩
        · have Hc := Lib.hid hcap; clear hcap
          go_wp2_with (go_at_call 125; refine (isCapital_any _ _).mono ?_; rintro e w1 ⟨rfl, rfl⟩; rw [Hc.out])
          go_roundg (s.size - (k + 1))
          case measure => omega
          case rel => exact ⟨k + 1, by omega, by go_num, rfl, by show _ = true; rw [hall.out, H.out]; unfold u8I; rw [Hc.out]; rfl, HB⟩
      · go_wp2
        go_ret
        exact ⟨ret_int (by have := H.out; rw [List.take_of_length_le (by simp; omega)] at this; rw [HW.out, this]; rfl), HB.out⟩
def one32 : Nat := 1065353216
theorem Step.refl (w : World) (v : Value) : Step w w v v := ⟨World.grownBy.refl w _, .inl rfl⟩
theorem Step.trans {w w1 w2 : World} {v v1 v2 : Value} (h : Step w w1 v v1) (k : Step w1 w2 v1 v2) : Step w w2 v v2 := by
 have hs := h.1.size
 refine ⟨⟨k.1.os.trans h.1.os, k.1.tape.trans h.1.tape, k.1.output.trans h.1.output, Nat.le_trans hs k.1.size, fun j hj hne => ?_⟩, ?_⟩
 · have e1 := h.1.block j hj hne
   refine (k.1.block j (Nat.lt_of_lt_of_le hj hs) ?_).trans e1
   rcases h.2 with h2 | ⟨m, hm, hle⟩
   · rw [h2]; exact hne
   · rw [hm]; intro hh; cases hh; omega
 · rcases k.2 with k2 | ⟨m, hm, hle⟩
   · rcases h.2 with h2 | ⟨m', hm', hle'⟩
     · exact .inl (k2.trans h2)
     · exact .inr ⟨m', k2.trans hm', hle'⟩
   · exact .inr ⟨m, hm, by omega⟩
theorem Step.iter {w w1 : World} {v v1 : Value} (h : Step w w1 v v1) {k : Nat} (hk : w.heap.size ≤ k) (s : ByteArray) (pos : Nat) : Step w (w1.iterAt k s pos) v v1 :=
 ⟨⟨h.1.os, h.1.tape, h.1.output, by rw [Lib.iterAt_size]; exact h.1.size, fun j hj hne => (Lib.iterAt_other w1 k j s pos (by omega)).trans (h.1.block j hj hne)⟩, h.2⟩
theorem Step.alloc {w w1 : World} {v v1 : Value} (h : Step w w1 v v1) (o : Obj) : Step w (w1.alloc o) v v1 :=
 ⟨⟨h.1.os, h.1.tape, h.1.output, by rw [World.size_alloc]; have := h.1.size; omega, fun j hj hne => ((Below.heap_alloc w1 o j (by have := h.1.size; omega))).trans (h.1.block j hj hne)⟩, h.2⟩
theorem Step.heap {w w1 : World} {v v1 : Value} (h : Step w w1 v v1) {j : Nat} {o : Obj} (ho : w.heap[j]? = some o) (hj : some j ≠ v.ownBlock) : w1.heap[j]? = some o :=
 (h.1.block j (Array.getElem?_eq_some_iff.1 ho).1 hj).trans ho
theorem owns_iter {w : World} {B : Nat} {e : TypeId} {s n : Nat} {v : Value} {xs : List Value} (h : w.ownsRow B e s v n xs) {k : Nat} (hk : v.ownBlock ≠ some k) (t : ByteArray) (pos : Nat) : (w.iterAt k t pos).ownsRow B e s v n xs := by
 refine ⟨h.1, ?_⟩
 rcases h.2 with h2 | ⟨g, cap, cur, h1, h2, h3, h4⟩
 · exact .inl h2
 · refine .inr ⟨g, cap, cur, h1, h2, ?_, h4⟩
   rw [Lib.iterAt_other _ _ _ _ _ (fun hh => hk (by rw [h1, hh]; rfl))]; exact h3
set_option maxRecDepth 100000 in
set_option maxHeartbeats 1000000 in
theorem held_step (B : Nat) (v : Value) (xs : List Nat) (b : Nat) (m : Int) (w : World) (hown : w.ownsRow B 56 1 v xs.length (flts xs)) (hB : B ≤ w.heap.size) (hm : m ≤ 1000000) (hx : xs.length ≤ 1000000) :
 Calls Tryz.prog 84 #[v, .float .f32 b, .int .i64 m] w fun e w' => ∃ v', e = .returned v' ∧ w'.ownsRow B 56 1 v' (xs ++ List.replicate m.toNat b).length (flts (xs ++ List.replicate m.toNat b)) ∧ Step w w' v v' := by
 by_cases hneg : m ≤ 0
 · have h0 : m.toNat = 0 := by omega
   have H0 := Lib.hid h0; clear h0
   go_enter Tryz.func84, Tryz.ntmps84
   go_wp2
   refine wp_loop_rounds 1 ?_
   rw [rounds_succ]
   go_wp2
   go_ret
   exact ⟨_, rfl, by rw [H0.out]; simpa using hown, Step.refl _ _⟩
 · obtain ⟨q, rfl⟩ := Int.eq_ofNat_of_zero_le (show 0 ≤ m by omega)
   obtain ⟨i0, hi, hz0, hz1, hz2⟩ := info_parts info37
   go_enter Tryz.func84, Tryz.ntmps84
   go_wp2
   go_loopw [0, 8] (fun u i wr => ∃ k : Nat, k ≤ q ∧ i = .int .i64 k ∧ wr.ownsRow B 56 1 u (xs.length + k) (flts (xs ++ List.replicate k b)) ∧ Step w wr v u) (fun _ i _ => q - (intOf i).toNat)
   case atStart => exact ⟨0, Nat.zero_le _, rfl, by simpa using hown, Step.refl _ _⟩
   case round =>
    clear hown
    obtain ⟨k, hk, rfl, hown, hb⟩ := hrel
    have hsz := hb.1.size
    have Hb := Lib.hid hb
    clear hb
    by_cases hlt : k < q
    · go_wp2_with (at_builtin; refine wpList_append_own_at _ rfl _ _ 22 rfl B 56 i0 (.float .f32 0) 1 4 Tryz.underlying22 hi hz0 hz1 hz2 rfl (by decide) _ _ _ rfl (hown.alloc _) ⟨wr.heap.size, 0, none⟩ 1 1 [.float .f32 b] rfl rfl (news1 _ _ _ _ rfl) ?c2 ?c3 ?c4 ?c5 ?_)
      case c2 => simp [Value.oneCell']
      case c3 => unfold maxLen; omega
      case c4 => omega
      case c5 => simp; omega
      intro v' w1 hown' hgrow _ hat
      have hu := Lib.hid (flts_snoc xs b k)
      have hb1 := Lib.hid (Hb.out.trans (Step.of_alloc hgrow (by rw [World.size_alloc]; exact hat)))
      have ho1 := Lib.hid hown'
      clear hown' hgrow hown hat
      go_wp2
      go_roundw
      case rel => exact ⟨k + 1, by omega, by go_num, by rw [hu.out]; exact ho1.out, hb1.out⟩
      case measure => simp [intOf]; omega
    · obtain rfl : k = q := by omega
      go_wp2
      go_ret
      exact ⟨_, rfl, by simpa using hown, Hb.out⟩
def UA := @List.setIfInBounds_toArray
def UD := @wpAnyH_take
def UE := @AllReadyH.cons
def UF := @AllReadyH.nil
def UG := @wpAnyH_ready
def UB := @List.set_cons_zero
def UC := @List.set_cons_succ
set_option maxRecDepth 100000 in
set_option maxHeartbeats 1000000 in
theorem moved_any (A : Option Addr) (n c : Nat) (ms : List (Int × ByteArray)) (d : Int) (w : World) (hA : Rd w A (markC ms)) (hn : n = ms.length) (hm : ms.length ≤ 1000000) :
 Calls Tryz.prog 98 #[.slice A n c, .int .i64 d] w fun e w' => ∃ g, e = .returned (.slice (some ⟨g, 0, none⟩) n n) ∧ Row w' g 117 (markC (ms.map (shiftM d))) ∧ w.heap.size ≤ g ∧ Below w.heap.size w w' := by
 have HA : Hid (Rd (w.alloc (.cells #[.int .i64 d] 3)) A (markC ms)) := hA.below ((Below.refl _ _).alloc (Nat.le_refl _) _)
 have HN := Lib.hid hn
 have HC : Hid ((w.alloc (.cells #[.int .i64 d] 3)).cell? ⟨w.heap.size, 0, none⟩ = some (.int .i64 d)) := by unfold Hid; simp
 clear hA hn
 go_enter Tryz.func98, Tryz.ntmps98
 go_wp2_with fail
 refine (mappedMark_any A n c ms d w.heap.size _ HA.out HN.out hm HC.out).mono ?_
 rintro e w1 ⟨g, rfl, hr, hg, hb⟩
 have HR := Lib.hid hr
 have hg2 : w.heap.size ≤ g := by simp at hg; omega
 have HG := Lib.hid hg2
 have HB : Hid (Below w.heap.size w w1) := ((Below.refl _ _).alloc (Nat.le_refl _) _).trans (hb.mono (by simp))
 clear hr hg hg2 hb
 go_wp2
 go_ret
 exact ⟨g, rfl, HR.out, HG.out, HB.out⟩
theorem owned_slice {w : World} {B : Nat} {e : TypeId} {s : Nat} {v : Value} {n : Nat} {vs : List Value} (h : w.ownsRow B e s v n vs) : ∃ A c, v = .slice A n c ∧ Rd w A vs := by
 rcases h.2 with ⟨h1, h2⟩ | ⟨g, cap, cur, h1, h2, h3, h4, h5, h6, h7⟩
 · subst h1; subst h2
   refine ⟨none, 0, rfl, ?_⟩
   have : vs = [] := List.eq_nil_of_length_eq_zero (by rw [h.1, Nat.zero_mul])
   subst this
   intro j v hv; cases hv
 · refine ⟨_, _, h1, ?_⟩
   intro j u hu
   have hj : j < n * s := by rw [← h.1]; exact (List.getElem?_eq_some_iff.1 hu).1
   refine ⟨g, 0, rfl, ?_⟩
   rw [Nat.zero_add, cell_of_row w g j cur e (0, 0) h3, ← Array.getElem?_toList]
   rw [← h7, List.getElem?_take, if_pos hj] at hu
   exact hu
theorem cell_far {w : World} {g g' i : Nat} (cs : Array Value) (h : g ≠ g') : (w.setRow g' cs).cell? ⟨g, i, none⟩ = w.cell? ⟨g, i, none⟩ := by
 simp only [World.cell?, setRow_other w g' cs g h]
theorem owns_far {w : World} {B B' : Nat} {e : TypeId} {s n : Nat} {v : Value} {xs : List Value} (h : w.ownsRow B e s v n xs) (g : Nat) (cs : Array Value) (hg : g < B) (hB : B' ≤ B) : (w.setRow g cs).ownsRow B' e s v n xs := by
 refine ⟨h.1, ?_⟩
 rcases h.2 with h2 | ⟨g', cap, cur, h1, h2, h3, h4⟩
 · exact .inl h2
 · exact .inr ⟨g', cap, cur, h1, Nat.le_trans hB h2, (setRow_other w g cs g' (by omega)).trans h3, h4⟩
def inSpan (f t : Int) (m : Int × ByteArray) : Bool := decide (f ≤ m.1) && decide (m.1 < t)
def cutM (f t : Int) (ms : List (Int × ByteArray)) : List (Int × ByteArray) := (ms.filter (inSpan f t)).map (shiftM (-f))
def zero4 : List Value := [.int .i64 0, .int .i64 0, .slice none 0 0, .slice none 0 0]
theorem filter_succ (p : Int × ByteArray → Bool) (ms : List (Int × ByteArray)) (k : Nat) (hk : k < ms.length) : (ms.take (k + 1)).filter p = (ms.take k).filter p ++ (if p ms[k] then [ms[k]] else []) := by
 rw [List.take_succ_eq_append_getElem hk, List.filter_append]
 congr 1
 by_cases h : p ms[k] <;> simp [h]
set_option maxRecDepth 100000 in
set_option maxHeartbeats 4000000 in
theorem cut_ok (st sp : Int) (A B : Option Addr) (n c m d : Nat) (xs : List Nat) (ms : List (Int × ByteArray)) (f t : Nat) (w : World) (hA : Rd w A (flts xs)) (hB : Rd w B (markC ms)) (hn : n = xs.length) (hm : m = ms.length) (hx : xs.length ≤ 1000000) (hms : ms.length ≤ 1000000) (hnc : n ≤ c) (hAc : A = none → c = 0)
 (h0 : recI st sp xs ms = 0) (hft : f ≤ t) (ht : t ≤ xs.length) (htk : tickI st sp f ≤ 100000000) :
 Calls Tryz.prog 37 #[.agg #[.int .i64 st, .int .i64 sp, .slice A n c, .slice B m d], .agg #[.int .i64 f, .int .i64 t]] w
  fun e w' => ∃ v g, e = .returned (.tuple #[.agg #[.int .i64 (tickI st sp f), .int .i64 sp, v, .slice (some ⟨g, 0, none⟩) (cutM f t ms).length (cutM f t ms).length], .int .i64 0]) ∧
   w'.ownsRow w.heap.size 56 1 v (t - f) (flts ((xs.drop f).take (t - f))) ∧ Row w' g 117 (markC (cutM f t ms)) ∧ w.heap.size ≤ g ∧ Below w.heap.size w w' := by
 subst hn; subst hm
 have HA : Hid (∀ W, Below w.heap.size w W → Rd W A (flts xs)) := fun W h => hA.below h
 have HB : Hid (∀ W, Below w.heap.size w W → Rd W B (markC ms)) := fun W h => hB.below h
 have H0 := Lib.hid h0
 have HTK : Hid (decide (100000000 < tickI st sp f) = false) := decide_eq_false (by omega)
 obtain ⟨A', hsl, hslR, hslN⟩ := slice_mid (P := Tryz.prog) 22 (by kernel_rfl) (fun _ => by kernel_rfl) A xs.length c f t hft ht hnc hAc
 have HSR := Lib.hid hslR; have HSN := Lib.hid hslN; have HSL := Lib.hid hsl
 clear hA hB h0 htk hslR hslN hsl
 have R0 := Row.new w 33 [.int .i64 st, .int .i64 sp, .slice A xs.length c, .slice B ms.length d]
 have R1 := Row.new (w.alloc (.cells #[.int .i64 st, .int .i64 sp, .slice A xs.length c, .slice B ms.length d] 33)) 70 [.int .i64 f, .int .i64 t]
 have R2 := Row.new ((w.alloc (.cells #[.int .i64 st, .int .i64 sp, .slice A xs.length c, .slice B ms.length d] 33)).alloc (.cells #[.int .i64 f, .int .i64 t] 70)) 33 zero4
 rw [World.size_alloc] at R1
 rw [World.size_alloc, World.size_alloc] at R2
 have R0' := (R0.alloc (.cells #[.int .i64 f, .int .i64 t] 70)).alloc (.cells zero4.toArray 33)
 have R1' := R1.alloc (.cells zero4.toArray 33)
 have RB := (((Below.refl w.heap.size w).alloc (Nat.le_refl _) (.cells #[.int .i64 st, .int .i64 sp, .slice A xs.length c, .slice B ms.length d] 33)).alloc (by simp) (.cells #[.int .i64 f, .int .i64 t] 70)).alloc (by simp; omega) (.cells zero4.toArray 33)
 have HR0 := Lib.hid R0'; have HR1 := Lib.hid R1'; have HR2 := Lib.hid R2; have HRB := Lib.hid RB
 clear R0 R1 R2 R0' R1' RB
 go_enter Tryz.func37, Tryz.ntmps37
 go_upto_region 1 with fail
 refine genD (w0 := w) w.heap.size (w.heap.size + 1) (w.heap.size + 1 + 1) _ _ _ _ _ _ HR0.out HR1.out HR2.out HRB.out ?_
 clear HR0 HR1 HR2 HRB
 intro W R0 R1 R2 RB
 have G0 := Lib.hid R0; have G1 := Lib.hid R1; have G2 := Lib.hid R2; have GB := Lib.hid RB
 have s2 := R2.lt
 have S2 := Lib.hid s2
 clear R0 R1 R2 RB s2
 have gd1 : decide ((f : Int) < 0) = false := by simp
 have gd2 : decide (t < f) = false := decide_eq_false (by omega)
 have gd3 : decide (xs.length < t) = false := decide_eq_false (by omega)
 refine wp_region_held_drew (S := fun w' => w'.cell? ⟨w.heap.size, 0, none⟩ = some (.int .i64 st) ∧ w'.cell? ⟨w.heap.size, 1, none⟩ = some (.int .i64 sp) ∧ w'.cell? ⟨w.heap.size, 2, none⟩ = some (.slice A xs.length c) ∧ w'.cell? ⟨w.heap.size, 3, none⟩ = some (.slice B ms.length d) ∧ w'.cell? ⟨w.heap.size + 1, 0, none⟩ = some (.int .i64 f) ∧ w'.cell? ⟨w.heap.size + 1, 1, none⟩ = some (.int .i64 t) ∧ Below W.heap.size W w') (by kernel_rfl) ?_ (fun hHeld => ?_)
 · exact ⟨G0.out.cell 0, G0.out.cell 1, G0.out.cell 2, G0.out.cell 3, G1.out.cell 0, G1.out.cell 1, (Below.refl _ _).drew⟩
 refine UD (i := 0) (v := ?_) rfl (by kernel_rfl) (by kernel_rfl) (by kernel_rfl) (fun _ _ _ h => h) (Or.inl ⟨by kernel_rfl, ?_⟩) hHeld ?_
 rotate_left
 · intro w1 hSw; (try dsimp only at hSw); go_simp <;> with_reducible rfl
 try simp only [Act.put, UA, UB, UC]
 refine UD (i := 2) (v := ?_) rfl (by kernel_rfl) (by kernel_rfl) (by kernel_rfl) (fun _ _ _ h => h) (Or.inl ⟨by kernel_rfl, ?_⟩) hHeld ?_
 rotate_left
 · intro w1 hSw; (try dsimp only at hSw); go_simp <;> with_reducible rfl
 try simp only [Act.put, UA, UB, UC]
 refine UD (i := 3) (v := ?_) rfl (by kernel_rfl) (by kernel_rfl) (by kernel_rfl) (fun _ _ _ h => h) (Or.inl ⟨by kernel_rfl, ?_⟩) hHeld ?_
 rotate_left
 · intro w1 hSw; (try dsimp only at hSw); go_simp <;> with_reducible rfl
 try simp only [Act.put, UA, UB, UC]
 refine UD (i := 4) (v := ?_) rfl (by kernel_rfl) (by kernel_rfl) (by kernel_rfl) (fun _ _ _ h => h) (Or.inl ⟨by kernel_rfl, ?_⟩) hHeld ?_
 rotate_left
 · intro w1 hSw; (try dsimp only at hSw); go_simp <;> with_reducible rfl
 try simp only [Act.put, UA, UB, UC]
 refine UD (i := 21) (v := ?_) rfl (by kernel_rfl) (by kernel_rfl) (by kernel_rfl) (fun _ _ _ h => h) (Or.inl ⟨by kernel_rfl, ?_⟩) hHeld ?_
 rotate_left
 · intro w1 hSw; (try dsimp only at hSw); go_simp <;> with_reducible rfl
 try simp only [Act.put, UA, UB, UC]
 refine UD (i := 22) (v := ?_) rfl (by kernel_rfl) (by kernel_rfl) (by kernel_rfl) (fun _ _ _ h => h) (Or.inl ⟨by kernel_rfl, ?_⟩) hHeld ?_
 rotate_left
 · intro w1 hSw; (try dsimp only at hSw); go_simp <;> with_reducible rfl
 try simp only [Act.put, UA, UB, UC]
 refine UD (i := 23) (v := ?_) rfl (by kernel_rfl) (by kernel_rfl) (by kernel_rfl) (fun _ _ _ h => h) (Or.inl ⟨by kernel_rfl, ?_⟩) hHeld ?_
 rotate_left
 · intro w1 hSw; (try dsimp only at hSw); go_simp <;> with_reducible rfl
 try simp only [Act.put, UA, UB, UC]
 refine UG (rs := [1]) (by kernel_rfl) (by simp) ?_
 refine UE rfl (fun K hK => ?_) UF
 go_simp
 go_at_call 45
 refine (checkRecording_any _ _ _ _ _ _ _ _ xs ms _ (HA.out _ (GB.out.trans (hHeld.2.2.2.2.2.2.mono GB.out.size))) (HB.out _ (GB.out.trans (hHeld.2.2.2.2.2.2.mono GB.out.size))) rfl rfl (by omega)).mono ?_
 rintro e w1 ⟨rfl, hb1⟩
 rw [H0.out]
 try go_simp
 refine hK.out _ _ ?_ (fun hHeld => ?_)
 · exact ⟨keepC hHeld.1 hb1, keepC hHeld.2.1 hb1, keepC hHeld.2.2.1 hb1, keepC hHeld.2.2.2.1 hb1, keepC hHeld.2.2.2.2.1 hb1, keepC hHeld.2.2.2.2.2.1 hb1, hHeld.2.2.2.2.2.2.trans ((hb1).mono hHeld.2.2.2.2.2.2.size)⟩
 clear hK K
 try simp only [Act.put, UA, UB, UC]
 refine UD (i := 5) (v := ?_) rfl (by kernel_rfl) (by kernel_rfl) (by kernel_rfl) (fun _ _ _ h => h) (Or.inl ⟨by kernel_rfl, ?_⟩) hHeld ?_
 rotate_left
 · intro w1 hSw; (try dsimp only at hSw); go_simp <;> with_reducible rfl
 try simp only [Act.put, UA, UB, UC]
 refine UD (i := 6) (v := ?_) rfl (by kernel_rfl) (by kernel_rfl) (by kernel_rfl) (fun _ _ _ h => h) (Or.inl ⟨by kernel_rfl, ?_⟩) hHeld ?_
 rotate_left
 · intro w1 hSw; (try dsimp only at hSw); go_simp <;> with_reducible rfl
 try simp only [Act.put, UA, UB, UC]
 refine UD (i := 7) (v := ?_) rfl (by kernel_rfl) (by kernel_rfl) (by kernel_rfl) (fun _ _ _ h => h) (Or.inl ⟨by kernel_rfl, ?_⟩) hHeld ?_
 rotate_left
 · intro w1 hSw; (try dsimp only at hSw); go_simp <;> with_reducible rfl
 try simp only [Act.put, UA, UB, UC]
 refine UD (i := 8) (v := ?_) rfl (by kernel_rfl) (by kernel_rfl) (by kernel_rfl) (fun _ _ _ h => h) (Or.inl ⟨by kernel_rfl, ?_⟩) hHeld ?_
 rotate_left
 · intro w1 hSw; (try dsimp only at hSw); go_simp <;> with_reducible rfl
 try simp only [Act.put, UA, UB, UC]
 refine UD (i := 9) (v := ?_) rfl (by kernel_rfl) (by kernel_rfl) (by kernel_rfl) (fun _ _ _ h => h) (Or.inl ⟨by kernel_rfl, ?_⟩) hHeld ?_
 rotate_left
 · intro w1 hSw; (try dsimp only at hSw); go_simp <;> with_reducible rfl
 try simp only [Act.put, UA, UB, UC]
 refine UD (i := 10) (v := ?_) rfl (by kernel_rfl) (by kernel_rfl) (by kernel_rfl) (fun _ _ _ h => h) (Or.inl ⟨by kernel_rfl, ?_⟩) hHeld ?_
 rotate_left
 · intro w1 hSw; (try dsimp only at hSw); go_simp <;> with_reducible rfl
 try simp only [Act.put, UA, UB, UC]
 refine UD (i := 11) (v := ?_) rfl (by kernel_rfl) (by kernel_rfl) (by kernel_rfl) (fun _ _ _ h => h) (Or.inl ⟨by kernel_rfl, ?_⟩) hHeld ?_
 rotate_left
 · intro w1 hSw; (try dsimp only at hSw); go_simp <;> with_reducible rfl
 try simp only [Act.put, UA, UB, UC]
 refine UD (i := 12) (v := ?_) rfl (by kernel_rfl) (by kernel_rfl) (by kernel_rfl) (fun _ _ _ h => h) (Or.inl ⟨by kernel_rfl, ?_⟩) hHeld ?_
 rotate_left
 · intro w1 hSw; (try dsimp only at hSw); go_simp <;> with_reducible rfl
 try simp only [Act.put, UA, UB, UC]
 refine UD (i := 13) (v := ?_) rfl (by kernel_rfl) (by kernel_rfl) (by kernel_rfl) (fun _ _ _ h => h) (Or.inl ⟨by kernel_rfl, ?_⟩) hHeld ?_
 rotate_left
 · intro w1 hSw; (try dsimp only at hSw); go_simp <;> with_reducible rfl
 try simp only [Act.put, UA, UB, UC]
 refine UD (i := 14) (v := ?_) rfl (by kernel_rfl) (by kernel_rfl) (by kernel_rfl) (fun _ _ _ h => h) (Or.inl ⟨by kernel_rfl, ?_⟩) hHeld ?_
 rotate_left
 · intro w1 hSw; (try dsimp only at hSw); go_simp <;> with_reducible rfl
 try simp only [Act.put, UA, UB, UC]
 refine UD (i := 15) (v := ?_) rfl (by kernel_rfl) (by kernel_rfl) (by kernel_rfl) (fun _ _ _ h => h) (Or.inl ⟨by kernel_rfl, ?_⟩) hHeld ?_
 rotate_left
 · intro w1 hSw; (try dsimp only at hSw); go_simp <;> with_reducible rfl
 try simp only [Act.put, UA, UB, UC]
 refine UD (i := 16) (v := ?_) rfl (by kernel_rfl) (by kernel_rfl) (by kernel_rfl) (fun _ _ _ h => h) (Or.inl ⟨by kernel_rfl, ?_⟩) hHeld ?_
 rotate_left
 · intro w1 hSw; (try dsimp only at hSw); go_simp <;> with_reducible rfl
 try simp only [Act.put, UA, UB, UC]
 refine UD (i := 17) (v := ?_) rfl (by kernel_rfl) (by kernel_rfl) (by kernel_rfl) (fun _ _ _ h => h) (Or.inl ⟨by kernel_rfl, ?_⟩) hHeld ?_
 rotate_left
 · intro w1 hSw; (try dsimp only at hSw); go_simp <;> with_reducible rfl
 try simp only [Act.put, UA, UB, UC]
 refine UD (i := 18) (v := ?_) rfl (by kernel_rfl) (by kernel_rfl) (by kernel_rfl) (fun _ _ _ h => h) (Or.inl ⟨by kernel_rfl, ?_⟩) hHeld ?_
 rotate_left
 · intro w1 hSw; (try dsimp only at hSw); go_simp <;> with_reducible rfl
 try simp only [Act.put, UA, UB, UC]
 refine UD (i := 19) (v := ?_) rfl (by kernel_rfl) (by kernel_rfl) (by kernel_rfl) (fun _ _ _ h => h) (Or.inl ⟨by kernel_rfl, ?_⟩) hHeld ?_
 rotate_left
 · intro w1 hSw; (try dsimp only at hSw); go_simp <;> with_reducible rfl
 try simp only [Act.put, UA, UB, UC]
 refine UG (rs := [20]) (by kernel_rfl) (by simp) ?_
 refine UE rfl (fun K hK => ?_) UF
 go_simp
 go_at_call 96
 refine (failed_any _ _ _).mono ?_
 rintro e w1 ⟨rfl, rfl⟩
 try go_simp
 refine hK.out _ _ ?_ (fun hHeld => ?_)
 · exact hHeld
 clear hK K
 try simp only [Act.put, UA, UB, UC]
 refine UG (rs := [24]) (by kernel_rfl) (by simp) ?_
 refine UE rfl (fun K hK => ?_) UF
 go_simp
 go_at_call 97
 refine (tick_any _ _ _ _ _ _ _ _ _ _).mono ?_
 rintro e w1 ⟨rfl, hb1⟩
 try go_simp
 refine hK.out _ _ ?_ (fun hHeld => ?_)
 · exact ⟨keepC hHeld.1 hb1, keepC hHeld.2.1 hb1, keepC hHeld.2.2.1 hb1, keepC hHeld.2.2.2.1 hb1, keepC hHeld.2.2.2.2.1 hb1, keepC hHeld.2.2.2.2.2.1 hb1, hHeld.2.2.2.2.2.2.trans ((hb1).mono hHeld.2.2.2.2.2.2.size)⟩
 clear hK K
 try simp only [Act.put, UA, UB, UC]
 refine UD (i := 25) (v := ?_) rfl (by kernel_rfl) (by kernel_rfl) (by kernel_rfl) (fun _ _ _ h => h) (Or.inl ⟨by kernel_rfl, ?_⟩) hHeld ?_
 rotate_left
 · intro w1 hSw; (try dsimp only at hSw); go_simp <;> with_reducible rfl
 try simp only [Act.put, UA, UB, UC]
 refine UG (rs := [26]) (by kernel_rfl) (by simp) ?_
 refine UE rfl (fun K hK => ?_) UF
 go_simp
 go_at_call 96
 refine (failed_any _ _ _).mono ?_
 rintro e w1 ⟨rfl, rfl⟩
 rw [HTK.out]
 try go_simp
 refine hK.out _ _ ?_ (fun hHeld => ?_)
 · exact hHeld
 clear hK K
 try simp only [Act.put, UA, UB, UC]
 refine UG (rs := [27]) (by kernel_rfl) (by simp) ?_
 refine UE rfl (fun K hK => ?_) UF
 go_simp
 refine hK.out _ _ ?_ (fun hHeld => ?_)
 · exact ⟨keepC hHeld.1 ((Below.refl _ _).alloc (Nat.le_refl _) _), keepC hHeld.2.1 ((Below.refl _ _).alloc (Nat.le_refl _) _), keepC hHeld.2.2.1 ((Below.refl _ _).alloc (Nat.le_refl _) _), keepC hHeld.2.2.2.1 ((Below.refl _ _).alloc (Nat.le_refl _) _), keepC hHeld.2.2.2.2.1 ((Below.refl _ _).alloc (Nat.le_refl _) _), keepC hHeld.2.2.2.2.2.1 ((Below.refl _ _).alloc (Nat.le_refl _) _), hHeld.2.2.2.2.2.2.trans ((((Below.refl _ _).alloc (Nat.le_refl _) _)).mono hHeld.2.2.2.2.2.2.size)⟩
 clear hK K
 try simp only [Act.put, UA, UB, UC]
 refine UG (rs := [28]) (by kernel_rfl) (by simp) ?_
 refine UE rfl (fun K hK => ?_) UF
 go_simp
 go_at_call 76
 refine (firstV_any _ _ _ [0, whenI false 14, whenI false 3] _ ?_ rfl (by simp)).mono ?_
 · exact Rd.new _ _ _ _ (by simp)
 rintro e w1 ⟨rfl, rfl⟩
 try go_simp
 refine hK.out _ _ ?_ (fun hHeld => ?_)
 · exact hHeld
 clear hK K
 try simp only [Act.put, UA, UB, UC]
 refine UD (i := 29) (oi := { dst := some 6, op := Op.assign (Operand.tmp 39), type := 28, pos := _, after := #[{ on := 28, ground := Ground.data }, { on := 28, ground := Ground.chain }, { on := 0, ground := Ground.phase }, { on := 1, ground := Ground.phase }, { on := 2, ground := Ground.phase }, { on := 3, ground := Ground.phase }, { on := 4, ground := Ground.phase }, { on := 5, ground := Ground.phase }, { on := 6, ground := Ground.phase }, { on := 7, ground := Ground.phase }, { on := 8, ground := Ground.phase }, { on := 9, ground := Ground.phase }, { on := 10, ground := Ground.phase }, { on := 11, ground := Ground.phase }, { on := 12, ground := Ground.phase }, { on := 13, ground := Ground.phase }, { on := 14, ground := Ground.phase }, { on := 15, ground := Ground.phase }, { on := 16, ground := Ground.phase }, { on := 17, ground := Ground.phase }, { on := 18, ground := Ground.phase }, { on := 19, ground := Ground.phase }, { on := 20, ground := Ground.phase }, { on := 21, ground := Ground.phase }, { on := 22, ground := Ground.phase }, { on := 23, ground := Ground.phase }, { on := 24, ground := Ground.phase }, { on := 25, ground := Ground.phase }, { on := 26, ground := Ground.phase }, { on := 27, ground := Ground.phase }, { on := 28, ground := Ground.phase }], guard := none }) (v := ?_) rfl (by kernel_rfl) (by kernel_rfl) (by kernel_rfl) (fun _ _ _ h => h) (Or.inl ⟨by kernel_rfl, ?_⟩) hHeld ?_
 rotate_left
 · intro w1 hSw; (try dsimp only at hSw); go_simp <;> with_reducible rfl
 try simp only [Act.put, UA, UB, UC]
 refine wpAnyH_done (by kernel_rfl) ?_ _
 have I0 := Lib.hid (G0.out.old hHeld.2.2.2.2.2.2); have I1 := Lib.hid (G1.out.old hHeld.2.2.2.2.2.2); have I2 := Lib.hid (G2.out.old hHeld.2.2.2.2.2.2)
 have IB := Lib.hid (GB.out.trans (hHeld.2.2.2.2.2.2.mono GB.out.size))
 clear hHeld
 refine genD (w0 := w) w.heap.size (w.heap.size + 1) (w.heap.size + 1 + 1) _ _ _ _ _ _ I0.out I1.out I2.out IB.out ?_
 clear I0 I1 I2 IB G0 G1 G2 GB S2
 intro W2 R0 R1 R2 RB
 have J0 := Lib.hid R0; have J1 := Lib.hid R1; have J2 := Lib.hid R2; have JB := Lib.hid RB
 have q3 := R0.cell 3
 simp only [List.getElem?_cons_succ, List.getElem?_cons_zero] at q3
 clear R0 R1 R2 RB
 obtain ⟨im, him0, him1, him2, him3⟩ := info_parts info158
 go_wp2
 clear q3
 go_loopg [7, 47] ms.length (fun g v i wr => ∃ k : Nat, k ≤ ms.length ∧ i = .int .i64 k ∧ g = ms.length - k ∧ Hid (wr.ownsRow (w.heap.size + 3) 117 2 v ((ms.take k).filter (inSpan f t)).length (markC ((ms.take k).filter (inSpan f t)))) ∧ Hid (Row wr w.heap.size 33 [.int .i64 st, .int .i64 sp, .slice A xs.length c, .slice B ms.length d]) ∧ Hid (Row wr (w.heap.size + 1) 70 [.int .i64 f, .int .i64 t]) ∧ Hid (Row wr (w.heap.size + 1 + 1) 33 zero4) ∧ Hid (Below w.heap.size w wr))
 case atStart => exact ⟨0, Nat.zero_le _, rfl, rfl, World.ownsRow_nil _ _ _ _, J0, J1, J2, JB⟩
 case round =>
  obtain ⟨k, hk, rfl, hg, Ho, K0, K1, K2, KB⟩ := hrel
  subst hg
  by_cases hlt : k < ms.length
  · obtain ⟨b, off, hAb, hc1, hc2⟩ := Rd.mark (HB.out _ KB.out) hlt
    subst hAb
    have hfs := filter_succ (inSpan f t) ms k hlt
    obtain ⟨ix, hix⟩ : ∃ ix, ix = ms[k].1 := ⟨_, rfl⟩
    obtain ⟨nm, hnm⟩ : ∃ nm, nm = ms[k].2 := ⟨_, rfl⟩
    have hmk : ms[k] = (ix, nm) := by rw [hix, hnm]
    rw [← hix] at hc1; rw [← hnm] at hc2; rw [hmk] at hfs
    have Hfs := Lib.hid hfs
    have hszk : w.heap.size + 1 + 1 < wr.heap.size := K2.out.lt
    have hszl : w.heap.size + 1 < wr.heap.size := by omega
    have N0 := Lib.hid (K0.out.alloc (.cells #[.int .i64 ix, .string nm] 117)); have N1 := Lib.hid (K1.out.alloc (.cells #[.int .i64 ix, .string nm] 117)); have N2 := Lib.hid (K2.out.alloc (.cells #[.int .i64 ix, .string nm] 117))
    have NB := Lib.hid (KB.out.alloc KB.out.size (.cells #[.int .i64 ix, .string nm] 117))
    have No := Lib.hid (Ho.out.alloc (.cells #[.int .i64 ix, .string nm] 117))
    have q10 := N1.out.cell 0
    have q11 := N1.out.cell 1
    simp only [List.getElem?_cons_succ, List.getElem?_cons_zero] at q10 q11
    clear hfs hix hnm hmk
    cases hb1 : decide ((f : Int) ≤ ix)
    · have hin : Hid (inSpan f t (ix, nm) = false) := by unfold Hid inSpan; simp only [hb1]; rfl
      go_wp2
      go_roundg (ms.length - (k + 1))
      case measure => omega
      case rel => exact ⟨k + 1, by omega, by go_num, rfl, by show World.ownsRow _ _ _ _ _ _ _; rw [Hfs.out, hin.out]; simpa using No.out, N0, N1, N2, NB⟩
    · cases hb2 : decide (ix < (t : Int))
      · have hin : Hid (inSpan f t (ix, nm) = false) := by unfold Hid inSpan; simp only [hb1, hb2]; rfl
        go_wp2
        go_roundg (ms.length - (k + 1))
        case measure => omega
        case rel => exact ⟨k + 1, by omega, by go_num, rfl, by show World.ownsRow _ _ _ _ _ _ _; rw [Hfs.out, hin.out]; simpa using No.out, N0, N1, N2, NB⟩
      · have hin : Hid (inSpan f t (ix, nm) = true) := by unfold Hid inSpan; simp only [hb1, hb2]; rfl
        have hfl : ((ms.take k).filter (inSpan f t)).length ≤ ms.length := Nat.le_trans (List.length_filter_le _ _) (by rw [List.length_take]; omega)
        go_wp2_with (at_builtin; refine wpList_append_own_at _ rfl _ _ 31 rfl (w.heap.size + 3) 117 im (.agg #[.int .i64 0, .string ⟨#[]⟩]) 2 24 Tryz.underlying31 him0 him1 him2 him3 rfl (by decide) _ _ _ rfl (No.out.alloc _) ⟨wr.heap.size + 1, 0, none⟩ 1 1 [.int .i64 ix, .string nm] rfl rfl (news2 _ _ _ _ _ ?c1) ?c2 ?c3 ?c4 ?c5 ?_)
        case c1 => simp
        case c2 => simp [Value.oneCell']
        case c3 => unfold maxLen; omega
        case c4 => omega
        case c5 => simp; omega
        intro v' w3 ho hg3 _ hat
        have hst : Step (wr.alloc (.cells #[.int .i64 ix, .string nm] 117)) w3 _ v' := Step.of_alloc hg3 (by rw [World.size_alloc, World.size_alloc]; exact hat)
        have Hb3 := Lib.hid (hst.below No.out (by simp; omega))
        have Ho3 : Hid (w3.ownsRow (w.heap.size + 3) 117 2 v' ((ms.take (k + 1)).filter (inSpan f t)).length (markC ((ms.take (k + 1)).filter (inSpan f t)))) := by
         unfold Hid; rw [Hfs.out, hin.out]
         have e : markC ((ms.take k).filter (inSpan f t) ++ [(ix, nm)]) = markC ((ms.take k).filter (inSpan f t)) ++ [.int .i64 ix, .string nm] := by simp [markC]
         simpa [e] using ho
        clear ho hg3 hat hst
        go_wp2
        go_roundg (ms.length - (k + 1))
        case measure => omega
        case rel => exact ⟨k + 1, by omega, by go_num, rfl, Ho3, N0.out.below Hb3.out (by omega), N1.out.below Hb3.out (by omega), N2.out.below Hb3.out (by omega), NB.out.trans (Hb3.out.mono (by omega))⟩
  · obtain rfl : k = ms.length := by omega
    have hall : (ms.take ms.length).filter (inSpan f t) = ms.filter (inSpan f t) := by rw [List.take_of_length_le (Nat.le_refl _)]
    rw [hall] at Ho
    clear hall
    obtain ⟨V, hV⟩ : ∃ V, V = ms.filter (inSpan f t) := ⟨_, rfl⟩
    rw [← hV] at Ho
    have hVl : V.length ≤ ms.length := by rw [hV]; exact List.length_filter_le _ _
    have HCM : Hid (cutM f t ms = V.map (shiftM (-f))) := by unfold Hid cutM; rw [hV]
    clear hV
    obtain ⟨B', d', rfl, hBR⟩ := owned_slice Ho.out
    have HBR := Lib.hid hBR
    have q0 := K0.out.cell 0
    have q1 := K0.out.cell 1
    have q2 := K0.out.cell 2
    have q3 := K0.out.cell 3
    have q10 := K1.out.cell 0
    have q11 := K1.out.cell 1
    simp only [List.getElem?_cons_succ, List.getElem?_cons_zero] at q0 q1 q2 q3 q10 q11
    have hsl := HSL.out
    have hszk : w.heap.size + 1 + 1 < wr.heap.size := K2.out.lt
    have hszl : w.heap.size + 1 < wr.heap.size := by omega
    have hszm : w.heap.size < wr.heap.size := by omega
    have HRs : Hid (Rd wr A' (flts ((xs.drop f).take (t - f)))) := by
     have h := HSR.out wr _ (HA.out wr KB.out)
     unfold Hid
     simpa only [flts, List.map_drop, List.map_take] using h
    have hlen : ((xs.drop f).take (t - f)).length = t - f := by rw [List.length_take, List.length_drop]; omega
    go_wp2_with (at_builtin; refine wpList_app rfl _ _ 22 rfl wr.heap.size 56 (.float .f32 0) 1 4 Tryz.underlying22 info37 rfl (by decide) (.slice none 0 0) 0 [] rfl (World.ownsRow_nil _ _ _ _) A' (t - f) (c - f) (flts ((xs.drop f).take (t - f))) rfl HSN.out HRs.out ?d0 ?d1 ?d2 ?d3 ?d4 ?_)
    case d0 => simp only [flts, List.length_map, hlen, Nat.mul_one]
    case d1 => intro u hu; obtain ⟨b, -, rfl⟩ := List.mem_map.1 hu; rfl
    case d2 => unfold maxLen; omega
    case d3 => omega
    case d4 => exact Nat.le_refl _
    intro v2 w2 ho2 hg2
    have hb2 : Below wr.heap.size wr w2 := (Below.refl _ _).grown hg2 (Nat.le_refl _) (fun k hk => by cases hk)
    obtain ⟨A2, c2, rfl, -⟩ := owned_slice ho2
    have HO := Lib.hid ho2
    have M0 := Lib.hid (K0.out.old hb2); have M1 := Lib.hid (K1.out.old hb2); have M2 := Lib.hid (K2.out.old hb2)
    have MB := Lib.hid (KB.out.trans (hb2.mono KB.out.size))
    have HS := Lib.hid hszk; have HSB := Lib.hid KB.out.size
    have HMo : Hid (∀ W', Below w2.heap.size w2 W' → Rd W' B' (markC V)) := fun W' h => ((HBR.out).below hb2).below h
    clear ho2 hg2 hb2 q0 q1 q2 q3 q10 q11 hsl hszk hszl hszm HRs K0 K1 K2 KB HBR HSL HSR
    have hneg : IntKind.i64.wrap (-(f : Int)) = -(f : Int) := IntWalk.i64_in _ (by omega)
    go_wp2
    refine wp_region_held_drew (S := fun w' => w'.cell? ⟨w.heap.size, 0, none⟩ = some (.int .i64 st) ∧ w'.cell? ⟨w.heap.size, 1, none⟩ = some (.int .i64 sp) ∧ w'.cell? ⟨w.heap.size, 2, none⟩ = some (.slice A xs.length c) ∧ w'.cell? ⟨w.heap.size, 3, none⟩ = some (.slice B ms.length d) ∧ w'.cell? ⟨w.heap.size + 1, 0, none⟩ = some (.int .i64 f) ∧ Below w.heap.size w w') (by kernel_rfl) ?_ (fun hHeld => ?_)
    · exact ⟨M0.out.cell 0, M0.out.cell 1, M0.out.cell 2, M0.out.cell 3, M1.out.cell 0, MB.out.drew⟩
    refine UD (i := 0) (v := ?_) rfl (by kernel_rfl) (by kernel_rfl) (by kernel_rfl) (fun _ _ _ h => h) (Or.inl ⟨by kernel_rfl, ?_⟩) hHeld ?_
    rotate_left
    · intro w1 hSw; (try dsimp only at hSw); go_simp <;> with_reducible rfl
    try simp only [Act.put, UA, UB, UC]
    refine UD (i := 1) (v := ?_) rfl (by kernel_rfl) (by kernel_rfl) (by kernel_rfl) (fun _ _ _ h => h) (Or.inl ⟨by kernel_rfl, ?_⟩) hHeld ?_
    rotate_left
    · intro w1 hSw; (try dsimp only at hSw); go_simp <;> with_reducible rfl
    try simp only [Act.put, UA, UB, UC]
    refine UD (i := 2) (v := ?_) rfl (by kernel_rfl) (by kernel_rfl) (by kernel_rfl) (fun _ _ _ h => h) (Or.inl ⟨by kernel_rfl, ?_⟩) hHeld ?_
    rotate_left
    · intro w1 hSw; (try dsimp only at hSw); go_simp <;> with_reducible rfl
    try simp only [Act.put, UA, UB, UC]
    refine UD (i := 4) (v := ?_) rfl (by kernel_rfl) (by kernel_rfl) (by kernel_rfl) (fun _ _ _ h => h) (Or.inl ⟨by kernel_rfl, ?_⟩) hHeld ?_
    rotate_left
    · intro w1 hSw; (try dsimp only at hSw); go_simp <;> with_reducible rfl
    try simp only [Act.put, UA, UB, UC]
    refine UD (i := 5) (v := ?_) rfl (by kernel_rfl) (by kernel_rfl) (by kernel_rfl) (fun _ _ _ h => h) (Or.inl ⟨by kernel_rfl, ?_⟩) hHeld ?_
    rotate_left
    · intro w1 hSw; (try dsimp only at hSw); go_simp <;> with_reducible rfl
    try simp only [Act.put, UA, UB, UC]
    refine UD (i := 6) (v := ?_) rfl (by kernel_rfl) (by kernel_rfl) (by kernel_rfl) (fun _ _ _ h => h) (Or.inl ⟨by kernel_rfl, ?_⟩) hHeld ?_
    rotate_left
    · intro w1 hSw; (try dsimp only at hSw); go_simp <;> with_reducible rfl
    try simp only [Act.put, UA, UB, UC]
    refine UD (i := 7) (v := ?_) rfl (by kernel_rfl) (by kernel_rfl) (by kernel_rfl) (fun _ _ _ h => h) (Or.inl ⟨by kernel_rfl, ?_⟩) hHeld ?_
    rotate_left
    · intro w1 hSw; (try dsimp only at hSw); go_simp <;> with_reducible rfl
    try simp only [Act.put, UA, UB, UC]
    refine UD (i := 8) (v := ?_) rfl (by kernel_rfl) (by kernel_rfl) (by kernel_rfl) (fun _ _ _ h => h) (Or.inl ⟨by kernel_rfl, ?_⟩) hHeld ?_
    rotate_left
    · intro w1 hSw; (try dsimp only at hSw); go_simp <;> with_reducible rfl
    try simp only [Act.put, UA, UB, UC]
    refine UD (i := 9) (v := ?_) rfl (by kernel_rfl) (by kernel_rfl) (by kernel_rfl) (fun _ _ _ h => h) (Or.inl ⟨by kernel_rfl, ?_⟩) hHeld ?_
    rotate_left
    · intro w1 hSw; (try dsimp only at hSw); go_simp <;> with_reducible rfl
    try simp only [Act.put, UA, UB, UC]
    refine UD (i := 10) (v := ?_) rfl (by kernel_rfl) (by kernel_rfl) (by kernel_rfl) (fun _ _ _ h => h) (Or.inl ⟨by kernel_rfl, ?_⟩) hHeld ?_
    rotate_left
    · intro w1 hSw; (try dsimp only at hSw); go_simp <;> with_reducible rfl
    try simp only [Act.put, UA, UB, UC]
    refine UG (rs := [3]) (by kernel_rfl) (by simp) ?_
    refine UE rfl (fun K hK => ?_) UF
    go_simp
    go_at_call 97
    refine (tick_any _ _ _ _ _ _ _ _ _ _).mono ?_
    rintro e wa ⟨rfl, hba⟩
    have hBa : Below w2.heap.size w2 wa := (Below.refl _ w2).drew.trans hba
    try go_simp
    refine hK.out _ _ ?_ (fun hHeld => ?_)
    · exact ⟨keepC hHeld.1 hba, keepC hHeld.2.1 hba, keepC hHeld.2.2.1 hba, keepC hHeld.2.2.2.1 hba, keepC hHeld.2.2.2.2.1 hba, hHeld.2.2.2.2.2.trans ((hba).mono hHeld.2.2.2.2.2.size)⟩
    clear hK K
    try simp only [Act.put, UA, UB, UC]
    refine UG (rs := [11]) (by kernel_rfl) (by simp) ?_
    refine UE rfl (fun K hK => ?_) UF
    go_simp
    go_at_call 98
    refine (moved_any B' _ _ V _ _ (HMo.out _ hBa) rfl (by omega)).mono ?_
    rintro e wb ⟨g, rfl, hrg, hgg, hbb⟩
    have hBb : Below w2.heap.size w2 wb := hBa.trans (hbb.mono hBa.size)
    try go_simp
    refine hK.out _ _ ?_ (fun hHeld => ?_)
    · exact ⟨keepC hHeld.1 hbb, keepC hHeld.2.1 hbb, keepC hHeld.2.2.1 hbb, keepC hHeld.2.2.2.1 hbb, keepC hHeld.2.2.2.2.1 hbb, hHeld.2.2.2.2.2.trans ((hbb).mono hHeld.2.2.2.2.2.size)⟩
    clear hK K
    try simp only [Act.put, UA, UB, UC]
    refine UD (i := 12) (oi := { dst := some 88, op := Op.build 33 #[(0, Operand.tmp 79), (1, Operand.tmp 81), (2, Operand.tmp 82), (3, Operand.tmp 87)], type := 33, pos := _, after := #[{ on := 3, ground := Ground.data }, { on := 5, ground := Ground.data }, { on := 6, ground := Ground.data }, { on := 11, ground := Ground.data }], guard := none }) (v := ?_) rfl (by kernel_rfl) (by kernel_rfl) (by kernel_rfl) (fun _ _ _ h => h) (Or.inl ⟨by kernel_rfl, ?_⟩) hHeld ?_
    rotate_left
    · intro w1 hSw; (try dsimp only at hSw); go_simp <;> with_reducible rfl
    try simp only [Act.put, UA, UB, UC]
    refine UG (rs := [13]) (by kernel_rfl) (by simp) ?_
    refine UE rfl (fun K hK => ?_) UF
    refine step_store_row rfl 33 _ _ rfl (w.heap.size + 1 + 1) [.int .i64 (tickI st sp f), .int .i64 sp, .slice A2 (t - f) c2, .slice (some ⟨g, 0, none⟩) V.length V.length] rfl rfl 33 zero4 (M2.out.old hBb) (by kernel_rfl) rfl (by simp [Value.oneCell']) ?_
    refine hK.out _ _ ?_ (fun hHeld => ?_)
    · exact ⟨(cell_far _ (by omega)).trans hHeld.1, (cell_far _ (by omega)).trans hHeld.2.1, (cell_far _ (by omega)).trans hHeld.2.2.1, (cell_far _ (by omega)).trans hHeld.2.2.2.1, (cell_far _ (by omega)).trans hHeld.2.2.2.2.1, Below.setRow hHeld.2.2.2.2.2 (by omega) _⟩
    clear hK K
    try simp only [Act.put, UA, UB, UC]
    refine UD (i := 14) (oi := { dst := some 5, op := Op.assign (Operand.const (Value.int IntKind.i64 0)), type := 28, pos := _, after := #[{ on := 13, ground := Ground.chain }, { on := 0, ground := Ground.phase }, { on := 1, ground := Ground.phase }, { on := 2, ground := Ground.phase }, { on := 3, ground := Ground.phase }, { on := 4, ground := Ground.phase }, { on := 5, ground := Ground.phase }, { on := 6, ground := Ground.phase }, { on := 7, ground := Ground.phase }, { on := 8, ground := Ground.phase }, { on := 9, ground := Ground.phase }, { on := 10, ground := Ground.phase }, { on := 11, ground := Ground.phase }, { on := 12, ground := Ground.phase }, { on := 13, ground := Ground.phase }], guard := none }) (v := ?_) rfl (by kernel_rfl) (by kernel_rfl) (by kernel_rfl) (fun _ _ _ h => h) (Or.inl ⟨by kernel_rfl, ?_⟩) hHeld ?_
    rotate_left
    · intro w1 hSw; (try dsimp only at hSw); go_simp <;> with_reducible rfl
    try simp only [Act.put, UA, UB, UC]
    refine wpAnyH_done (by kernel_rfl) ?_ _
    go_wp2
    have g1 := hBa.size; have g2 := M2.out.lt
    have hrow : Row (wb.setRow (w.heap.size + 1 + 1) [Value.int .i64 (tickI st sp f), .int .i64 sp, .slice A2 (t - f) c2, .slice (some ⟨g, 0, none⟩) V.length V.length].toArray) (w.heap.size + 1 + 1) 33 [Value.int .i64 (tickI st sp f), .int .i64 sp, .slice A2 (t - f) c2, .slice (some ⟨g, 0, none⟩) V.length V.length] := (M2.out.old hBb).setRow _
    refine bodyPost_ret (results_row_tmp rfl _ _ (w.heap.size + 1 + 1) 33 _ (0, 0) _ rfl hrow Tryz.underlying33 rfl (by kernel_rfl)) rfl ⟨.slice A2 (t - f) c2, g, ?_, ?_, ?_, ?_, ?_⟩
    · rw [HCM.out, List.length_map]; rfl
    · exact owns_far (owns_below HO.out hBb) _ _ HS.out HSB.out
    · rw [HCM.out]; exact Row.farRow hrg (by omega) _
    · omega
    · exact Below.setRow (MB.out.trans (hBb.mono MB.out.size)) (by omega) _
end Go.Proofs.YtjdniebjhilooaaGreatDoor
