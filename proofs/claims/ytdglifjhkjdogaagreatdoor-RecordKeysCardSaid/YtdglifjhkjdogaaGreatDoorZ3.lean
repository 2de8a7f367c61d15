import Derived.Test.YtdglifjhkjdogaaGreatDoorZ2
import Derived.Test.YtdglifjhkjdogaaGreatDoorM25
/- Contracts: letter of the reference, and that it is the program's. -/
namespace Go.Proofs.YtdglifjhkjdogaaGreatDoor
set_option linter.all false
open Go.RowKit Go.Fl Go.Maps
set_option linter.unusedVariables false
set_option linter.unusedSimpArgs false

/-- the number of the letter of a code, if there is one among the first m letters -/
def letN (cs : List Bool) (n : Nat) : Nat → Nat
  | 0 => 63
  | f + 1 => if codeB n = cs then 65 + n else letN cs (n + 1) f
theorem Rd.boolK {w : World} {A : Option Addr} {l : List Bool} (h : Rd w A (bools l)) {k : Nat} (hk : k < l.length) : ∃ b off, A = some ⟨b, off, none⟩ ∧ w.cell? ⟨b, off + k, none⟩ = some (.bool l[k]) :=
  h k (.bool l[k]) (by simp [bools, List.getElem?_eq_getElem hk])
/-- whether two codes are the same in their first elements -/
def sameK (xs cs : List Bool) (i : Nat) : Bool := decide (xs.length = cs.length) && decide (xs.take i = cs.take i)
theorem sameK_step {xs cs : List Bool} {i : Nat} (hx : i < xs.length) (hc : i < cs.length) (h : sameK xs cs i = true) : sameK xs cs (i + 1) = (xs[i] == cs[i]) := by
  unfold sameK at h ⊢
  rw [Bool.and_eq_true, decide_eq_true_eq, decide_eq_true_eq] at h
  have e1 : xs.take (i + 1) = xs.take i ++ [xs[i]] := by rw [List.take_add_one, List.getElem?_eq_getElem hx]; rfl
  have e2 : cs.take (i + 1) = cs.take i ++ [cs[i]] := by rw [List.take_add_one, List.getElem?_eq_getElem hc]; rfl
  have e3 : (xs.take (i + 1) = cs.take (i + 1)) ↔ xs[i] = cs[i] := by
    rw [e1, e2, h.2]
    constructor
    · intro e; exact List.cons.inj (List.append_cancel_left e) |>.1
    · intro e; rw [e]
  rw [decide_eq_true h.1, Bool.true_and]
  by_cases hb : xs[i] = cs[i]
  · rw [decide_eq_true (e3.2 hb)]; exact (beq_iff_eq.2 hb).symm
  · rw [decide_eq_false (fun e => hb (e3.1 e))]; exact (beq_eq_false_iff_ne.2 hb).symm
theorem sameK_all {xs cs : List Bool} (h : sameK xs cs xs.length = true) : xs = cs := by
  unfold sameK at h
  rw [Bool.and_eq_true, decide_eq_true_eq, decide_eq_true_eq] at h
  have h1 := h.2
  rw [List.take_length, h.1, List.take_length] at h1
  exact h1
theorem sameK_not {xs cs : List Bool} {i : Nat} (h : sameK xs cs i = false) : xs ≠ cs := by
  intro e; subst e; simp [sameK] at h

set_option maxRecDepth 100000 in
set_option maxHeartbeats 1000000 in
theorem letterR_any (A : Option Addr) (c : Nat) (cs : List Bool) (w : World) (hA : Rd w A (bools cs)) (hm : cs.length ≤ 1000000) :
    Calls Tryz.prog 81 #[.slice A cs.length c] w fun e w' => e = .returned (.int .u8 (letN cs 0 26)) ∧ Below w.heap.size w w' := by
  have HA := Lib.hid hA
  clear hA
  go_enter Tryz.func81, Tryz.ntmps81
  go_wp2
  go_loopg [3] 26 (fun g i wr => ∃ n : Nat, n + g = 26 ∧ i = .int .i64 n ∧ Hid (letN cs n g = letN cs 0 26) ∧ Hid (Below w.heap.size w wr))
  case atStart => exact ⟨0, rfl, rfl, rfl, Below.refl _ _⟩
  case round =>
    obtain ⟨n, hn, rfl, H, HB⟩ := hrel
    by_cases hlt : n < 26
    · obtain ⟨f, rfl⟩ : ∃ f, gk = f + 1 := ⟨gk - 1, by omega⟩
      have H8 := Lib.hid (codeB_len n hlt)
      have hs : letN cs n (f + 1) = if codeB n = cs then 65 + n else letN cs (n + 1) f := rfl
      rw [H.out] at hs
      have Hs := Lib.hid hs
      clear hs
      obtain ⟨xs, hxs⟩ : ∃ xs, xs = codeB n := ⟨_, rfl⟩
      have HC : Hid (∀ W, Calls Tryz.prog 80 #[.int .i64 n] W fun e w' => ∃ X xc, e = .returned (.slice X xs.length xc) ∧ Rd w' X (bools xs) ∧ Below W.heap.size W w') := fun W => (codeR_any n hlt W).mono fun e w' ⟨v, h1, h2, h3⟩ => by
        rw [hxs]
        obtain ⟨X, xc, rfl, hX⟩ := owned_slice h2
        exact ⟨X, xc, h1, hX, h3⟩
      rw [← hxs] at H8 Hs
      clear hxs
      go_wp2_with (go_at_call 80; refine (HC.out _).mono ?_; rintro e w2 ⟨X, xc, rfl, hX, hb2⟩)
      have HX := Lib.hid hX
      have HB2 := Lib.hid (HB.out.trans (hb2.mono HB.out.size))
      have HA2 := Lib.hid (HA.out.below HB2.out)
      have hle : ((xs.length : Int) == (cs.length : Int)) = sameK xs cs 0 := by
        unfold sameK
        by_cases h : xs.length = cs.length
        · simp [h]
        · have h2 : ¬ (xs.length : Int) = cs.length := by omega
          simp [h, h2]
      rw [hle]
      clear hX hb2 HC
      go_loopg [6, 5] xs.length (fun g i sm wr => ∃ j : Nat, j + g = xs.length ∧ i = .int .i64 j ∧ sm = .bool (sameK xs cs j) ∧ ∃ q, wr = w2.drewN q)
      case atStart => exact ⟨0, by omega, rfl, rfl, 0, rfl⟩
      case round =>
        obtain ⟨j, hj, rfl, rfl, q, rfl⟩ := hrel
        cases hsm : sameK xs cs j
        · have hne := Lib.hid (sameK_not hsm)
          clear hsm
          by_cases hjl : j < xs.length
          · have d1 : decide (j < xs.length) = true := decide_eq_true hjl
            go_wp2
            go_roundg f
            case measure => omega
            case rel => exact ⟨n + 1, by omega, by go_num, by show _ = _; rw [Hs.out, if_neg hne.out], below_drewN HB2.out q⟩
          · have d1 : decide (j < xs.length) = false := decide_eq_false hjl
            go_wp2
            go_roundg f
            case measure => omega
            case rel => exact ⟨n + 1, by omega, by go_num, by show _ = _; rw [Hs.out, if_neg hne.out], below_drewN HB2.out q⟩
        · by_cases hjl : j < xs.length
          · have hlc : j < cs.length := by
              have h := hsm
              unfold sameK at h
              rw [Bool.and_eq_true, decide_eq_true_eq] at h
              omega
            obtain ⟨b1, o1, hX1, hc1⟩ := Rd.boolK HX.out hjl
            obtain ⟨b2, o2, hA1, hc2⟩ := Rd.boolK HA2.out hlc
            subst hX1; subst hA1
            have hst := Lib.hid (sameK_step hjl hlc hsm)
            obtain ⟨p1, hp1⟩ : ∃ p1, p1 = xs[j] := ⟨_, rfl⟩
            obtain ⟨p2, hp2⟩ : ∃ p2, p2 = cs[j] := ⟨_, rfl⟩
            rw [← hp1] at hc1 hst; rw [← hp2] at hc2 hst
            have d1 : decide (j < xs.length) = true := decide_eq_true hjl
            clear hp1 hp2 hsm
            go_wp2
            go_quiet (fail)
            go_wp2
            go_roundg (xs.length - (j + 1))
            case measure => omega
            case rel => exact ⟨j + 1, by omega, by go_num, by rw [hst.out], q + nq, rfl⟩
          · obtain rfl : j = xs.length := by omega
            have heq := Lib.hid (sameK_all hsm)
            have d1 : decide (xs.length < xs.length) = false := by simp
            have e1 : IntKind.u8.wrap (65 + (n : Int)) = 65 + (n : Int) := by unfold IntKind.wrap; simp [IntKind.signed, IntKind.bits]; omega
            clear hsm
            go_wp2
            go_ret
            exact ⟨ret_int (by rw [Hs.out, if_pos heq.out]; omega), below_drewN HB2.out q⟩
    · obtain rfl : gk = 0 := by omega
      obtain rfl : n = 26 := by omega
      go_wp2
      go_ret
      exact ⟨ret_int (by rw [← H.out]; rfl), HB.out⟩
end Go.Proofs.YtdglifjhkjdogaaGreatDoor
