import Derived.Test.YtdglifjhkjdogaaGreatDoorZ8
import Derived.Test.YtdglifjhkjdogaaGreatDoorZ1
import Derived.Test.YtdglifjhkjdogaaGreatDoorZ5
import Derived.Test.YtdglifjhkjdogaaGreatDoorZ6
import Derived.Test.YtdglifjhkjdogaaGreatDoorZ7
import Derived.Test.YtdglifjhkjdogaaGreatDoorM30
/- The law of identifications: what its walk wants. -/
namespace Go.Proofs.YtdglifjhkjdogaaGreatDoor
set_option linter.all false
open Go.RowKit Go.Fl
set_option linter.unusedVariables false
set_option linter.unusedSimpArgs false

set_option maxRecDepth 100000 in
theorem recordKeys_ok (haw : AwakeOk) (s : ByteArray) (A : Option Addr) (c : Nat) (xs : List Nat) (d : Int) (w : World) (haW : Aw w) (hA : Rd w A (flts xs)) (hx : xs.length ≤ 9223372036854775807)
    (hlc : xs.length ≤ c) (hca : A = none → c = 0) :
    Calls Tryz.prog 4 #[.string s, .slice A xs.length c, .int .i64 d] w fun e w' => e = .returned (.bool true) ∧ Below w.heap.size w w' := by
  by_cases hl : 40 < s.size
  · exact keys_far1 haw s A c xs d w haW hA hx hl
  by_cases hsl : shortB xs.length = true ∨ xs.length = 400
  case neg =>
    have hs : shortB xs.length = false := by
      cases h : shortB xs.length
      · rfl
      · exact absurd (Or.inl h) hsl
    exact keys_far2 haw s A c xs d w haW hA hx hl hs (fun h => hsl (Or.inr h))
  have hl4 : xs.length ≤ 4097 := by
    rcases hsl with h | h
    · exact shortB_le h
    · omega
  have hF := fun (W : World) (h : Rd W A (flts xs)) => (floats_any A xs.length c xs W h rfl hca (by omega)).mono (R' := fun e w' => ∃ GA gc, e = .returned (.slice GA xs.length gc) ∧ Rd w' GA (flts xs) ∧ Below W.heap.size W w') fun e w' ⟨v, h1, h2, h3⟩ => by
    obtain ⟨B, d, rfl, hB⟩ := owned_slice h2
    exact ⟨B, d, h1, hB, h3⟩
  have hC1 := fun (W : World) => checkWordR_any s W
  have hC2 := fun (W : World) => (checkDot_any d W).mono (R' := fun e w' => e = .returned (.int .i64 (whenI (rangeB d 1 16) 3)) ∧ Below W.heap.size W w') fun e w' ⟨h1, h2⟩ => ⟨h1, h2 ▸ Below.refl _ _⟩
  have hC3 := fun (W : World) (h : Rd W A (flts xs)) => checkSamplesR_any A xs.length c xs W h rfl hlc hx
  obtain ⟨ks, ONE, hone, hks, hK, hRK, hNK, hsf⟩ : ∃ ks ONE, firstI [wordI s.data.toList, whenI (rangeB d 1 16) 3] = ONE ∧ ks.length ≤ 1000000 ∧
      (∀ W, Aw W → Calls Tryz.prog 17 #[.string s, .int .i64 d] W fun e w' => ∃ KA kc, e = .returned (.tuple #[.slice KA ks.length kc, .int .i64 ONE]) ∧ Rd w' KA (flts ks) ∧ Below W.heap.size W w') ∧
      (ONE = 0 → ∀ W, Calls Tryz.prog 21 #[.string s, .int .i64 d] W fun e w' => ∃ QA qc, e = .returned (.slice QA ks.length qc) ∧ Rd w' QA (flts ks) ∧ Below W.heap.size W w') ∧
      (ONE ≠ 0 → ks = []) ∧ sameF ks ks = true := by
    by_cases hE : kyE s d = 0
    · have hz := firstI_allz hE
      have h1 : wordI s.data.toList = 0 := hz _ (by simp)
      have h2 := range_in3 (hz (whenI (rangeB d 1 16) 3) (by simp))
      obtain ⟨q, rfl⟩ := Int.eq_ofNat_of_zero_le (show 0 ≤ d by omega)
      refine ⟨keyedL q s.data.toList, 0, hE, by have := keyedL_len q s.data.toList (by omega) h1; omega, ?_, ?_, fun h => absurd rfl h, sameF_self _ (keyedL_samp q _)⟩
      · intro W hW
        refine (keyed_ok s q W hW.tz (by omega) (by omega) h1).mono ?_
        rintro e w' ⟨v, rfl, ho, hb⟩
        obtain ⟨KA, kc, rfl, hr⟩ := owned_slice ho
        exact ⟨KA, kc, rfl, hr, hb⟩
      · intro _ W
        refine (keyedR_ok s q W (by omega) (by omega) h1).mono ?_
        rintro e w' ⟨v, rfl, ho, hb⟩
        obtain ⟨KA, kc, rfl, hr⟩ := owned_slice ho
        exact ⟨KA, kc, rfl, hr, hb⟩
    · refine ⟨[], kyE s d, rfl, by simp, ?_, fun h => absurd h hE, fun _ => rfl, rfl⟩
      intro W _
      refine (keyed_bad s d W hE).mono ?_
      rintro e w' ⟨rfl, hb⟩
      exact ⟨none, 0, rfl, rd_flts0 _ _, hb⟩
  obtain ⟨ws, TWO, HE, htwo, hws, hH, hRH, hNH⟩ : ∃ ws TWO HE, firstI [sampsI xs, whenI (rangeB d 1 16) 3] = TWO ∧ ws.length ≤ 1000000 ∧
      (∀ W GA gc, Aw W → Rd W GA (flts xs) → Calls Tryz.prog 18 #[.slice GA xs.length gc, .int .i64 d] W fun e w' => ∃ HA hc, e = .returned (.tuple #[.slice HA ws.length hc, .int .i64 HE]) ∧ Rd w' HA (strs ws) ∧ Below W.heap.size W w') ∧
      (TWO = 0 → ∀ W, Rd W A (flts xs) → Calls Tryz.prog 22 #[.slice A xs.length c, .int .i64 d] W fun e w' => ∃ QA qc, e = .returned (.tuple #[.slice QA ws.length qc, .int .i64 HE]) ∧ Rd w' QA (strs ws) ∧ Below W.heap.size W w') ∧
      (TWO ≠ 0 → ws = [] ∧ HE = TWO) := by
    by_cases hE : heE xs d = 0
    · have hz := firstI_allz hE
      have h1 : sampsI xs = 0 := hz _ (by simp)
      have h2 := range_in3 (hz (whenI (rangeB d 1 16) 3) (by simp))
      obtain ⟨h4, hv⟩ := samps_zero h1
      by_cases h64 : 64 < (heardL xs d).length
      · refine ⟨[], 0, 5, hE, by simp, ?_, ?_, fun h => absurd rfl h⟩
        · intro W GA gc hW g
          refine (heard_ok GA xs.length gc xs d W g rfl h4 h1 h2 hW.tz).mono ?_
          rintro e w' ⟨v, he, hb⟩
          rw [if_pos h64] at he
          exact ⟨none, 0, he, rd_strs0 _ _, hb⟩
        · intro _ W g
          refine (heardR_any A xs.length c xs d W g rfl h4 hv h2).mono ?_
          rintro e w' ⟨v, he, hb⟩
          rw [if_pos h64] at he
          exact ⟨none, 0, he, rd_strs0 _ _, hb⟩
      · refine ⟨heardL xs d, 0, 0, hE, by omega, ?_, ?_, fun h => absurd rfl h⟩
        · intro W GA gc hW g
          refine (heard_ok GA xs.length gc xs d W g rfl h4 h1 h2 hW.tz).mono ?_
          rintro e w' ⟨v, he, hb⟩
          rw [if_neg h64] at he
          obtain ⟨KA, kc, rfl, hr⟩ := owned_slice he.2
          exact ⟨KA, kc, he.1, hr, hb⟩
        · intro _ W g
          refine (heardR_any A xs.length c xs d W g rfl h4 hv h2).mono ?_
          rintro e w' ⟨v, he, hb⟩
          rw [if_neg h64] at he
          obtain ⟨KA, kc, rfl, hr⟩ := owned_slice he.2
          exact ⟨KA, kc, he.1, hr, hb⟩
    · refine ⟨[], heE xs d, heE xs d, rfl, by simp, ?_, fun h => absurd h hE, fun _ => ⟨rfl, rfl⟩⟩
      intro W GA gc _ g
      refine (heard_bad GA xs.length gc xs d W g rfl hE).mono ?_
      rintro e w' ⟨rfl, hb⟩
      exact ⟨none, 0, rfl, rd_strs0 _ _, hb⟩
  exact keys_walk haw s A c xs d w haW hA hx hl hsl ONE TWO HE _ _ _ ks ws hK hF hH hC1 hC2 hC3 hone htwo hRK hNK hRH hNH hsf hks hws
end Go.Proofs.YtdglifjhkjdogaaGreatDoor
