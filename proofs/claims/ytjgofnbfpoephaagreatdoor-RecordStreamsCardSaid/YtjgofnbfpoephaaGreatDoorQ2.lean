/- Contracts: integers of words. -/
import Derived.Test.YtjgofnbfpoephaaGreatDoorQ1
import Derived.Test.YtjgofnbfpoephaaGreatDoorM05
import Derived.Laws.RangeAny
import Derived.StringKeys
namespace Go.Proofs.YtjgofnbfpoephaaGreatDoor
set_option linter.all false
open Go.RowKit
set_option linter.unusedVariables false
set_option linter.unusedSimpArgs false

def digC (c : UInt8) : Bool := decide (48 ≤ c.toNat) && decide (c.toNat ≤ 57)
/-- the number of digits -/
def valI (l : List UInt8) : Int := l.foldl (fun n c => 10 * n + ((c.toNat : Int) - 48)) 0
def zeroHead (l : List UInt8) : Bool := decide (l.headD 0 = 48) && decide (l ≠ [48])
/-- at most 9 digits without leading zeros -/
def countOk (l : List UInt8) : Bool := !l.isEmpty && decide (l.length ≤ 9) && !zeroHead l && l.all digC
def countV (l : List UInt8) : Int := if countOk l then valI l else 0
def countE (s : ByteArray) : Ending := .returned (.tuple #[.int .i64 (countV s.data.toList), .bool (countOk s.data.toList)])

theorem valI_snoc (l : List UInt8) (c : UInt8) : valI (l ++ [c]) = 10 * valI l + ((c.toNat : Int) - 48) := by simp [valI]
theorem valI_bd : ∀ (k : Nat) (l : List UInt8), l.length = k → l.all digC = true → 0 ≤ valI l ∧ valI l < 10 ^ k
  | 0, l, hl, _ => by
    cases l with
    | nil => simp [valI]
    | cons a l => simp at hl
  | k + 1, l, hl, ha => by
    have hne : l ≠ [] := by intro h; subst h; simp at hl
    have e := List.dropLast_concat_getLast hne
    have hd : l.dropLast.length = k := by simp [hl]
    rw [← e, List.all_append] at ha
    simp only [Bool.and_eq_true, List.all_cons, List.all_nil, Bool.and_true] at ha
    obtain ⟨h1, h2⟩ := ha
    have ih := valI_bd k _ hd h1
    simp only [digC, Bool.and_eq_true, decide_eq_true_eq] at h2
    rw [← e, valI_snoc]
    have : (10 : Int) ^ (k + 1) = 10 * 10 ^ k := by rw [Int.pow_succ]; omega
    omega
theorem valI_le {l : List UInt8} {m : Nat} (hl : l.length ≤ m) (ha : l.all digC = true) : 0 ≤ valI l ∧ valI l < ((10 ^ m : Nat) : Int) := by
  have h := valI_bd l.length l rfl ha
  have h2 : (10 : Nat) ^ l.length ≤ 10 ^ m := Nat.pow_le_pow_right (by decide) hl
  refine ⟨h.1, Int.lt_of_lt_of_le h.2 ?_⟩
  have h3 : (((10 : Nat) ^ l.length : Nat) : Int) = 10 ^ l.length := Int.natCast_pow _ _
  rw [← h3]
  exact Int.ofNat_le.2 h2
theorem valI_small {l : List UInt8} (hl : l.length ≤ 8) (ha : l.all digC = true) : 0 ≤ valI l ∧ valI l ≤ 99999999 := by
  have h := valI_le hl ha
  rw [show (10 : Nat) ^ 8 = 100000000 from by decide] at h
  omega
theorem countV_bd (l : List UInt8) : 0 ≤ countV l ∧ countV l ≤ 999999999 := by
  unfold countV
  split
  · rename_i h
    simp only [countOk, Bool.and_eq_true, decide_eq_true_eq] at h
    obtain ⟨⟨⟨-, hl⟩, -⟩, ha⟩ := h
    have h := valI_le hl ha
    rw [show (10 : Nat) ^ 9 = 1000000000 from by decide] at h
    omega
  · omega
theorem countE_bad {s : ByteArray} (h : countOk s.data.toList = false) : countE s = .returned (.tuple #[.int .i64 0, .bool false]) := by
  unfold countE countV; rw [h]; rfl
theorem countE_good {s : ByteArray} (h : countOk s.data.toList = true) : countE s = .returned (.tuple #[.int .i64 (valI s.data.toList), .bool true]) := by
  unfold countE countV; rw [h]; rfl
theorem list_one {s : ByteArray} (h : s.data.toList = [48]) : s = ⟨#[48]⟩ := by
  obtain ⟨⟨l⟩⟩ := s
  simp at h; subst h; rfl

set_option maxRecDepth 100000 in
set_option maxHeartbeats 2000000 in
theorem count_any (s : ByteArray) (w : World) : Calls Tryz.prog 217 #[.string s] w fun e w' => e = countE s ∧ Below w.heap.size w w' := by
  have hl : s.data.toList.length = s.size := by simp
  by_cases h0 : s.size = 0
  · have he : s = ByteArray.empty := by
      obtain ⟨⟨l⟩⟩ := s
      cases l with
      | nil => rfl
      | cons a l => simp [ByteArray.size] at h0
    subst he
    clear h0 hl
    have HE := Lib.hid (countE_bad (s := ByteArray.empty) rfl)
    go_enter Tryz.func217, Tryz.ntmps217
    go_wp2
    go_ret2
    exact ⟨HE.out.symm, Below.refl _ _⟩
  · have hp : 0 < s.size := by omega
    have hne := isEmpty_eq s hp
    have hd := Lib.hid (head_eq s hp)
    have hne2 : s.toList.isEmpty = false := by rw [ByteArray.toList_eq]; exact hne
    by_cases h1 : 9 < s.size
    · have HE := Lib.hid (countE_bad (s := s) (by unfold countOk; rw [decide_eq_false (show ¬ s.data.toList.length ≤ 9 by omega)]; simp))
      go_enter Tryz.func217, Tryz.ntmps217
      go_wp2
      go_ret2
      exact ⟨HE.out.symm, Below.refl _ _⟩
    · have h2 : s.size ≤ 9 := by omega
      clear h1
      have hzl : (s.data.toList = [48]) = (s.toList = [48]) := by rw [ByteArray.toList_eq]
      by_cases hz : s[0].toNat = 48
      · have hhd : s.data.toList.headD 0 = 48 := by rw [hd.out]; exact UInt8.toNat_inj.1 hz
        by_cases hone : s.data.toList = [48]
        · have heq : (s.toList == [48]) = true := by rw [ByteArray.toList_eq, hone]; rfl
          have Hzh : Hid (zeroHead s.data.toList = false) := by unfold Hid zeroHead; rw [decide_eq_false (show ¬ s.data.toList ≠ [48] from fun h => h hone)]; simp
          clear hzl hhd hone
          go_enter Tryz.func217, Tryz.ntmps217
          go_wp2
          go_loopw [4] (fun n w' => ∃ k : Nat, k ≤ s.size ∧ w' = w.iter s k ∧ n = .int .i64 (valI (s.data.toList.take k)) ∧ Hid ((s.data.toList.take k).all digC = true)) (fun _ w' => s.size - w'.iterPos w.heap.size)
          case atStart => exact ⟨0, Nat.zero_le _, rfl, rfl, rfl⟩
          case round =>
            obtain ⟨k, hk, rfl, rfl, H⟩ := hrel
            by_cases hlt : k < s.size
            · have hall := Lib.hid (take_all_succ s k hlt digC)
              have hbad := Lib.hid (all_false_of s k hlt digC)
              have hval : Hid (valI (s.data.toList.take (k + 1)) = 10 * valI (s.data.toList.take k) + ((s[k].toNat : Int) - 48)) := by
                unfold Hid; rw [List.take_succ_eq_append_getElem (by simpa using hlt), valI_snoc]; rfl
              have hsm := valI_small (l := s.data.toList.take k) (by simp; omega) H.out
              obtain ⟨v, hv⟩ : ∃ v, v = valI (s.data.toList.take k) := ⟨_, rfl⟩
              rw [← hv] at hval hsm ⊢
              clear hv
              by_cases ha : s[k].toNat < 128
              · have hnx : ∀ ty, (Instr.next (.pointer (some ⟨w.heap.size, 0, none⟩)) true ty).run Tryz.prog (w.iter s k) = _ := fun ty => run_next_ascii w s k ty hlt ha
                by_cases hdig : digC s[k] = true
                · have hd2 : 48 ≤ s[k].toNat ∧ s[k].toNat ≤ 57 := by simpa [digC] using hdig
                  have hdc : decide ((s[k].toNat : Int) < 48) = false := decide_eq_false (by omega)
                  have hdc2 : decide ((57 : Int) < (s[k].toNat : Int)) = false := decide_eq_false (by omega)
                  have Hdig := Lib.hid hdig
                  clear hdig
                  go_wp2
                  go_roundw
                  case rel => exact ⟨k + 1, by omega, rfl, by rw [hval.out], by show _ = true; rw [hall.out, H.out, Hdig.out]; rfl⟩
                  case measure => simp; omega
                · have hd2 : s[k].toNat < 48 ∨ 57 < s[k].toNat := by
                    simp only [digC, Bool.and_eq_true, decide_eq_true_eq] at hdig; omega
                  have HE := Lib.hid (countE_bad (s := s) (by unfold countOk; rw [hbad.out (by simpa using hdig)]; simp))
                  clear hdig
                  rcases hd2 with hd2 | hd2
                  · have hdc : decide ((s[k].toNat : Int) < 48) = true := decide_eq_true (by omega)
                    go_wp2
                    go_ret2
                    exact ⟨HE.out.symm, (Below.refl _ _).alloc (Nat.le_refl _) _⟩
                  · have hdc : decide ((s[k].toNat : Int) < 48) = false := decide_eq_false (by omega)
                    have hdc2 : decide ((57 : Int) < (s[k].toNat : Int)) = true := decide_eq_true (by omega)
                    go_wp2
                    go_ret2
                    exact ⟨HE.out.symm, (Below.refl _ _).alloc (Nat.le_refl _) _⟩
              · have hnx : ∀ ty, (Instr.next (.pointer (some ⟨w.heap.size, 0, none⟩)) true ty).run Tryz.prog (w.iter s k) = _ := fun ty => run_next_any w s k ty hlt
                have hhi := (decode_high s k hlt (by omega)).1
                obtain ⟨r, hr⟩ : ∃ r, r = (Utf8.decode s k).1 := ⟨_, rfl⟩
                have HE := Lib.hid (countE_bad (s := s) (by unfold countOk; rw [hbad.out (by simp [digC]; omega)]; simp))
                rw [← hr] at hhi hnx
                clear hr
                have hdc : decide ((r : Int) < 48) = false := decide_eq_false (by omega)
                have hdc2 : decide ((57 : Int) < (r : Int)) = true := decide_eq_true (by omega)
                go_wp2
                go_ret2
                exact ⟨HE.out.symm, (Below.refl _ _).alloc (Nat.le_refl _) _⟩
            · obtain rfl : k = s.size := by omega
              have hnx : ∀ ty, (Instr.next (.pointer (some ⟨w.heap.size, 0, none⟩)) true ty).run Tryz.prog (w.iter s s.size) = _ := fun ty => run_next_end w s s.size ty hlt
              have hta : s.data.toList.take s.size = s.data.toList := List.take_of_length_le (by omega)
              rw [hta] at H ⊢
              have HE := Lib.hid (countE_good (s := s) (by unfold countOk; rw [hne, H.out, Hzh.out, decide_eq_true (show s.data.toList.length ≤ 9 by omega)]; rfl))
              clear hta
              go_wp2
              go_ret2
              exact ⟨HE.out.symm, (Below.refl _ _).alloc (Nat.le_refl _) _⟩

        · have heq : (s.toList == [48]) = false := by rw [ByteArray.toList_eq]; simpa using hone
          have HE := Lib.hid (countE_bad (s := s) (by unfold countOk zeroHead; rw [decide_eq_true hhd, decide_eq_true hone]; simp))
          clear hzl hhd hone
          go_enter Tryz.func217, Tryz.ntmps217
          go_wp2
          go_ret2
          exact ⟨HE.out.symm, Below.refl _ _⟩
      · have Hzh : Hid (zeroHead s.data.toList = false) := by
          unfold Hid zeroHead
          rw [hd.out, decide_eq_false (show ¬ s[0] = 48 from fun h => hz (by rw [h]; rfl))]; rfl
        clear hzl
        go_enter Tryz.func217, Tryz.ntmps217
        go_wp2
        go_loopw [4] (fun n w' => ∃ k : Nat, k ≤ s.size ∧ w' = w.iter s k ∧ n = .int .i64 (valI (s.data.toList.take k)) ∧ Hid ((s.data.toList.take k).all digC = true)) (fun _ w' => s.size - w'.iterPos w.heap.size)
        case atStart => exact ⟨0, Nat.zero_le _, rfl, rfl, rfl⟩
        case round =>
          obtain ⟨k, hk, rfl, rfl, H⟩ := hrel
          by_cases hlt : k < s.size
          · have hall := Lib.hid (take_all_succ s k hlt digC)
            have hbad := Lib.hid (all_false_of s k hlt digC)
            have hval : Hid (valI (s.data.toList.take (k + 1)) = 10 * valI (s.data.toList.take k) + ((s[k].toNat : Int) - 48)) := by
              unfold Hid; rw [List.take_succ_eq_append_getElem (by simpa using hlt), valI_snoc]; rfl
            have hsm := valI_small (l := s.data.toList.take k) (by simp; omega) H.out
            obtain ⟨v, hv⟩ : ∃ v, v = valI (s.data.toList.take k) := ⟨_, rfl⟩
            rw [← hv] at hval hsm ⊢
            clear hv
            by_cases ha : s[k].toNat < 128
            · have hnx : ∀ ty, (Instr.next (.pointer (some ⟨w.heap.size, 0, none⟩)) true ty).run Tryz.prog (w.iter s k) = _ := fun ty => run_next_ascii w s k ty hlt ha
              by_cases hdig : digC s[k] = true
              · have hd2 : 48 ≤ s[k].toNat ∧ s[k].toNat ≤ 57 := by simpa [digC] using hdig
                have hdc : decide ((s[k].toNat : Int) < 48) = false := decide_eq_false (by omega)
                have hdc2 : decide ((57 : Int) < (s[k].toNat : Int)) = false := decide_eq_false (by omega)
                have Hdig := Lib.hid hdig
                clear hdig
                go_wp2
                go_roundw
                case rel => exact ⟨k + 1, by omega, rfl, by rw [hval.out], by show _ = true; rw [hall.out, H.out, Hdig.out]; rfl⟩
                case measure => simp; omega
              · have hd2 : s[k].toNat < 48 ∨ 57 < s[k].toNat := by
                  simp only [digC, Bool.and_eq_true, decide_eq_true_eq] at hdig; omega
                have HE := Lib.hid (countE_bad (s := s) (by unfold countOk; rw [hbad.out (by simpa using hdig)]; simp))
                clear hdig
                rcases hd2 with hd2 | hd2
                · have hdc : decide ((s[k].toNat : Int) < 48) = true := decide_eq_true (by omega)
                  go_wp2
                  go_ret2
                  exact ⟨HE.out.symm, (Below.refl _ _).alloc (Nat.le_refl _) _⟩
                · have hdc : decide ((s[k].toNat : Int) < 48) = false := decide_eq_false (by omega)
                  have hdc2 : decide ((57 : Int) < (s[k].toNat : Int)) = true := decide_eq_true (by omega)
                  go_wp2
                  go_ret2
                  exact ⟨HE.out.symm, (Below.refl _ _).alloc (Nat.le_refl _) _⟩
            · have hnx : ∀ ty, (Instr.next (.pointer (some ⟨w.heap.size, 0, none⟩)) true ty).run Tryz.prog (w.iter s k) = _ := fun ty => run_next_any w s k ty hlt
              have hhi := (decode_high s k hlt (by omega)).1
              obtain ⟨r, hr⟩ : ∃ r, r = (Utf8.decode s k).1 := ⟨_, rfl⟩
              have HE := Lib.hid (countE_bad (s := s) (by unfold countOk; rw [hbad.out (by simp [digC]; omega)]; simp))
              rw [← hr] at hhi hnx
              clear hr
              have hdc : decide ((r : Int) < 48) = false := decide_eq_false (by omega)
              have hdc2 : decide ((57 : Int) < (r : Int)) = true := decide_eq_true (by omega)
              go_wp2
              go_ret2
              exact ⟨HE.out.symm, (Below.refl _ _).alloc (Nat.le_refl _) _⟩
          · obtain rfl : k = s.size := by omega
            have hnx : ∀ ty, (Instr.next (.pointer (some ⟨w.heap.size, 0, none⟩)) true ty).run Tryz.prog (w.iter s s.size) = _ := fun ty => run_next_end w s s.size ty hlt
            have hta : s.data.toList.take s.size = s.data.toList := List.take_of_length_le (by omega)
            rw [hta] at H ⊢
            have HE := Lib.hid (countE_good (s := s) (by unfold countOk; rw [hne, H.out, Hzh.out, decide_eq_true (show s.data.toList.length ≤ 9 by omega)]; rfl))
            clear hta
            go_wp2
            go_ret2
            exact ⟨HE.out.symm, (Below.refl _ _).alloc (Nat.le_refl _) _⟩


/-- an integer of a word: a count, with or without a minus sign in front, but not -0 -/
def tailL (l : List UInt8) : List UInt8 := Lib.trimPrefix l [45]
def negL (l : List UInt8) : Bool := Lib.hasPrefix l [45]
def intV (l : List UInt8) : Int := bif negL l then -countV (tailL l) else countV (tailL l)
def intOk (l : List UInt8) : Bool := bif negL l then countOk (tailL l) && decide (0 < countV (tailL l)) else countOk (tailL l)
def intE (s : ByteArray) : Ending := .returned (.tuple #[.int .i64 (intV s.data.toList), .bool (intOk s.data.toList)])
theorem intV_bd (l : List UInt8) : -999999999 ≤ intV l ∧ intV l ≤ 999999999 := by
  have := countV_bd (tailL l)
  unfold intV
  cases negL l <;> simp <;> omega
set_option maxRecDepth 100000 in
set_option maxHeartbeats 1000000 in
theorem integer_any (s : ByteArray) (w : World) : Calls Tryz.prog 218 #[.string s] w fun e w' => e = intE s ∧ Below w.heap.size w w' := by
  have hb := countV_bd (tailL s.data.toList)
  have HC : Hid (∀ W, Calls Tryz.prog 217 #[.string ⟨(tailL s.data.toList).toArray⟩] W fun e w' => e = .returned (.tuple #[.int .i64 (countV (tailL s.data.toList)), .bool (countOk (tailL s.data.toList))]) ∧ Below W.heap.size W w') := fun W => by
    have := count_any ⟨(tailL s.data.toList).toArray⟩ W
    unfold countE at this; exact this
  have HP : Hid (∀ W, Calls Tryz.prog 229 #[.string s, .string ⟨#[45]⟩] W fun e w' => e = .returned (.tuple #[.string ⟨(tailL s.data.toList).toArray⟩, .bool (negL s.data.toList)]) ∧ w' = W) := fun W => Tryz.strings_CutPrefix s ⟨#[45]⟩ W
  have HV : Hid (intE s = .returned (.tuple #[.int .i64 (bif negL s.data.toList then -countV (tailL s.data.toList) else countV (tailL s.data.toList)), .bool (bif negL s.data.toList then countOk (tailL s.data.toList) && decide (0 < countV (tailL s.data.toList)) else countOk (tailL s.data.toList))])) := rfl
  obtain ⟨v, hv⟩ : ∃ v, v = countV (tailL s.data.toList) := ⟨_, rfl⟩
  obtain ⟨ok, hok⟩ : ∃ ok, ok = countOk (tailL s.data.toList) := ⟨_, rfl⟩
  obtain ⟨t, ht⟩ : ∃ t : ByteArray, t = ⟨(tailL s.data.toList).toArray⟩ := ⟨_, rfl⟩
  obtain ⟨ng, hng⟩ : ∃ ng, ng = negL s.data.toList := ⟨_, rfl⟩
  rw [← hv] at HV hb; rw [← hok, ← hng] at HV; rw [← hv, ← hok, ← ht] at HC; rw [← ht, ← hng] at HP
  clear hv hok ht hng
  have hw : IntKind.i64.wrap (-v) = -v := IntWalk.i64_in _ (by omega)
  cases ng
  · go_enter Tryz.func218, Tryz.ntmps218
    go_wp2_with fail
    refine (HP.out _).mono ?_
    rintro e w1 ⟨rfl, rfl⟩
    go_wp2_with fail
    refine (HC.out _).mono ?_
    rintro e w2 ⟨rfl, hb2⟩
    have Hb2 := Lib.hid hb2
    clear hb2
    go_wp2
    go_ret2
    exact ⟨HV.out.symm, Hb2.out⟩
  · cases ok
    · go_enter Tryz.func218, Tryz.ntmps218
      go_wp2_with fail
      refine (HP.out _).mono ?_
      rintro e w1 ⟨rfl, rfl⟩
      go_wp2_with fail
      refine (HC.out _).mono ?_
      rintro e w2 ⟨rfl, hb2⟩
      have Hb2 := Lib.hid hb2
      clear hb2
      go_wp2
      go_ret2
      exact ⟨HV.out.symm, Hb2.out⟩
    · go_enter Tryz.func218, Tryz.ntmps218
      go_wp2_with fail
      refine (HP.out _).mono ?_
      rintro e w1 ⟨rfl, rfl⟩
      go_wp2_with fail
      refine (HC.out _).mono ?_
      rintro e w2 ⟨rfl, hb2⟩
      have Hb2 := Lib.hid hb2
      clear hb2
      go_wp2
      go_ret2
      exact ⟨HV.out.symm, Hb2.out⟩
end Go.Proofs.YtjgofnbfpoephaaGreatDoor
