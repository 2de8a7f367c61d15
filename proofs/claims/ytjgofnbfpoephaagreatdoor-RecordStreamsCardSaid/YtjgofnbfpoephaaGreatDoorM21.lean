/- Contracts: letters and words are keyed. -/
import Derived.Test.YtjgofnbfpoephaaGreatDoorM17
import Derived.Deep.LoopGhost
namespace Go.Proofs.YtjgofnbfpoephaaGreatDoor
set_option linter.all false
open Go.RowKit Go.Fl
set_option linter.unusedVariables false
set_option linter.unusedSimpArgs false

def pieceK (d i : Nat) (c : UInt8) : List Nat := (if i = 0 then [] else List.replicate d 0) ++ List.replicate (if c.toNat = 49 then 3 * d else d) one32
def letP (d : Nat) (l : List UInt8) : Nat → List Nat
  | 0 => []
  | p + 1 => letP d l p ++ pieceK d p (l.getD p 0)
def letS (d : Nat) (l : List UInt8) : List Nat := letP d l l.length
theorem pieceK_le (d i : Nat) (c : UInt8) : (pieceK d i c).length ≤ 4 * d := by
  unfold pieceK; split <;> split <;> simp <;> omega
theorem letP_le (d : Nat) (l : List UInt8) (p : Nat) : (letP d l p).length ≤ p * (4 * d) := by
  induction p with
  | zero => simp [letP]
  | succ p ih =>
    rw [letP, List.length_append, Nat.succ_mul]
    have := pieceK_le d p (l.getD p 0)
    omega

theorem Step.ne {w w1 : World} {v v1 : Value} (h : Step w w1 v v1) {k : Nat} (hv : v.ownBlock ≠ some k) (hk : k < w.heap.size) : v1.ownBlock ≠ some k := by
  rcases h.2 with h2 | ⟨m, hm, hle⟩
  · rw [h2]; exact hv
  · rw [hm]; intro hh; cases hh; omega

set_option maxRecDepth 100000 in
set_option maxHeartbeats 2000000 in
theorem letterKeyed_any (B : Nat) (v : Value) (xs : List Nat) (s : ByteArray) (d : Nat) (w : World) (hown : w.ownsRow B 37 1 v xs.length (flts xs)) (hB : B ≤ w.heap.size) (hd : d ≤ 16) (hs : s.size ≤ 100) (hx : xs.length ≤ 100000) (hasc : ∀ i (h : i < s.size), (s[i]'h).toNat < 128) :
    Calls Tryz.prog 136 #[v, .string s, .int .i64 d] w fun e w' => ∃ v', e = .returned v' ∧ w'.ownsRow B 37 1 v' (xs ++ letS d s.data.toList).length (flts (xs ++ letS d s.data.toList)) ∧ Step w w' v v' := by
  have Hown := Lib.hid hown
  have Hasc := Lib.hid hasc
  clear hown hasc
  go_enter Tryz.func136, Tryz.ntmps136
  go_wp2
  have S0 : Hid (v.ownBlock ≠ some w.heap.size) := fun h => by have := (Hown.out.lt _ h).2; omega
  go_loopg [0] s.size (fun g u wr => ∃ p : Nat, p ≤ s.size ∧ g = s.size - p ∧ Hid (wr.heap[w.heap.size]? = some (.stringIter s p)) ∧ Hid (wr.ownsRow B 37 1 u (xs ++ letP d s.data.toList p).length (flts (xs ++ letP d s.data.toList p))) ∧ Hid (Step w wr v u) ∧ Hid (u.ownBlock ≠ some w.heap.size))
  case atStart => exact ⟨0, Nat.zero_le _, rfl, World.iter_heap w s 0, by have h := Hown.out.alloc (.stringIter s 0); show World.ownsRow _ _ _ _ _ _ _; simpa [letP, World.iter] using h, (Step.refl w v).alloc _, S0⟩
  case round =>
    obtain ⟨p, hp, hg, Hit, Ho, Hst, Hne⟩ := hrel
    subst hg
    by_cases hlt : p < s.size
    · have hnx := fun ty => Lib.run_next_ascii_at (P := Tryz.prog) wr w.heap.size s p ty Hit.out hlt (Hasc.out p hlt)
      have Hit1 := Lib.hid (Lib.iterAt_heap wr w.heap.size s p (p + 1) Hit.out)
      have Ho1 := Lib.hid (owns_iter Ho.out Hne.out s (p + 1))
      have Hst1 := Lib.hid (Hst.out.iter (Nat.le_refl _) s (p + 1))
      have hsz1 : w.heap.size + 1 ≤ (wr.iterAt w.heap.size s (p + 1)).heap.size := (Array.getElem?_eq_some_iff.1 Hit1.out).1
      have Hsz1 := Lib.hid hsz1
      obtain ⟨W, hW⟩ : ∃ W, W = wr.iterAt w.heap.size s (p + 1) := ⟨_, rfl⟩
      rw [← hW] at hnx Hit1 Ho1 Hst1 Hsz1
      have hget : s.data.toList.getD p 0 = s[p] := by rw [List.getD_eq_getElem?_getD, List.getElem?_eq_getElem (by simpa using hlt)]; rfl
      have hstep : letP d s.data.toList (p + 1) = letP d s.data.toList p ++ pieceK d p s[p] := by rw [letP, hget]
      have Hstep := Lib.hid hstep
      have hle := letP_le d s.data.toList p
      have hlen : (xs ++ letP d s.data.toList p).length ≤ 200000 := by
        rw [List.length_append]
        have : p * (4 * d) ≤ 100 * 64 := Nat.mul_le_mul (by omega) (by omega)
        omega
      have Hlen := Lib.hid hlen
      obtain ⟨ys, hys⟩ : ∃ ys, ys = xs ++ letP d s.data.toList p := ⟨_, rfl⟩
      rw [← hys] at Ho1 Hlen
      have Hys := Lib.hid hys
      obtain ⟨r, hr⟩ : ∃ r, r = s[p].toNat := ⟨_, rfl⟩
      have hpk : pieceK d p s[p] = (if p = 0 then [] else List.replicate d 0) ++ List.replicate (if r = 49 then 3 * d else d) one32 := by unfold pieceK; rw [hr]
      rw [← hr] at hnx
      have Hpk := Lib.hid hpk
      have HB0 : Hid (B ≤ w.heap.size) := hB
      clear hsz1 hW hget hstep hle hlen hys hr hpk hB
      have hBW : B ≤ W.heap.size := by have := Hsz1.out; have := HB0.out; omega
      have HBW := Lib.hid hBW
      clear hBW
      have h3 : ((3 : Int) * (d : Int)).toNat = 3 * d := by omega
      have H3 := Lib.hid h3
      clear h3
      by_cases h49 : r = 49
      · have h49b : ((r : Int) == 49) = true := by simp; omega
        have H49 : Hid ((r = 49) = True) := by unfold Hid; simp [h49]
        clear h49
        by_cases hp0 : p = 0
        · have HP : Hid ((p = 0) = True) := by unfold Hid; simp [hp0]
          have hp0b : decide (0 < p) = false := by simp; omega
          clear hp0
          go_wp2_with fail
          refine (held_step B u0 ys one32 (3 * (d : Int)) _ Ho1.out HBW.out (by omega) (by have := Hlen.out; omega)).mono ?_
          rintro e w2 ⟨v2, rfl, ho2, hst2⟩
          simp only [H3.out] at ho2
          have Hit2 := Lib.hid (hst2.heap Hit1.out (Ne.symm Hne.out))
          have Hne2 := Lib.hid (hst2.ne Hne.out (by have := Hsz1.out; omega))
          have Hst2 := Lib.hid (Hst1.out.trans hst2)
          have Ho2 : Hid (w2.ownsRow B 37 1 v2 (xs ++ letP d s.data.toList (p + 1)).length (flts (xs ++ letP d s.data.toList (p + 1)))) := by
            have e : xs ++ letP d s.data.toList (p + 1) = ys ++ List.replicate (3 * d) one32 := by rw [Hstep.out, ← List.append_assoc, ← Hys.out, Hpk.out]; simp [HP.out, H49.out]
            unfold Hid; rw [e]; exact ho2
          clear ho2 hst2
          go_wp2
          go_roundg (s.size - (p + 1))
          case measure => omega
          case rel => exact ⟨p + 1, by omega, rfl, Hit2, Ho2, Hst2, Hne2⟩
        · have HP : Hid ((p = 0) = False) := by unfold Hid; simp [hp0]
          have hp0b : decide (0 < p) = true := by simp; omega
          clear hp0
          go_wp2_with fail
          refine (held_step B u0 ys 0 (d : Int) _ Ho1.out HBW.out (by omega) (by have := Hlen.out; omega)).mono ?_
          rintro e w2 ⟨v2, rfl, ho2, hst1⟩
          simp only [Int.toNat_natCast] at ho2
          have HO2 := Lib.hid ho2
          have HS1 := Lib.hid hst1
          have hB2 : B ≤ w2.heap.size := by have := HBW.out; have := hst1.1.size; omega
          have HB2 := Lib.hid hB2
          have hl2 : (ys ++ List.replicate d 0).length ≤ 1000000 := by rw [List.length_append, List.length_replicate]; have := Hlen.out; omega
          have Hl2 := Lib.hid hl2
          clear ho2 hst1 hB2 hl2
          go_wp2_with fail
          refine (held_step B v2 (ys ++ List.replicate d 0) one32 (3 * (d : Int)) _ HO2.out HB2.out (by omega) Hl2.out).mono ?_
          rintro e w3 ⟨v3, rfl, ho3, hst2⟩
          simp only [H3.out] at ho3
          have hst2 := HS1.out.trans hst2
          have Hit2 := Lib.hid (hst2.heap Hit1.out (Ne.symm Hne.out))
          have Hne2 := Lib.hid (hst2.ne Hne.out (by have := Hsz1.out; omega))
          have Hst2 := Lib.hid (Hst1.out.trans hst2)
          have Ho2 : Hid (w3.ownsRow B 37 1 v3 (xs ++ letP d s.data.toList (p + 1)).length (flts (xs ++ letP d s.data.toList (p + 1)))) := by
            have e : xs ++ letP d s.data.toList (p + 1) = ys ++ List.replicate d 0 ++ List.replicate (3 * d) one32 := by rw [Hstep.out, ← List.append_assoc, ← Hys.out, Hpk.out]; simp [HP.out, H49.out]
            unfold Hid; rw [e]; exact ho3
          clear ho3 hst2
          go_wp2
          go_roundg (s.size - (p + 1))
          case measure => omega
          case rel => exact ⟨p + 1, by omega, rfl, Hit2, Ho2, Hst2, Hne2⟩
      · have h49b : ((r : Int) == 49) = false := by simp; omega
        have H49 : Hid ((r = 49) = False) := by unfold Hid; simp [h49]
        clear h49
        by_cases hp0 : p = 0
        · have HP : Hid ((p = 0) = True) := by unfold Hid; simp [hp0]
          have hp0b : decide (0 < p) = false := by simp; omega
          clear hp0
          go_wp2_with fail
          refine (held_step B u0 ys one32 (d : Int) _ Ho1.out HBW.out (by omega) (by have := Hlen.out; omega)).mono ?_
          rintro e w2 ⟨v2, rfl, ho2, hst2⟩
          simp only [Int.toNat_natCast] at ho2
          have Hit2 := Lib.hid (hst2.heap Hit1.out (Ne.symm Hne.out))
          have Hne2 := Lib.hid (hst2.ne Hne.out (by have := Hsz1.out; omega))
          have Hst2 := Lib.hid (Hst1.out.trans hst2)
          have Ho2 : Hid (w2.ownsRow B 37 1 v2 (xs ++ letP d s.data.toList (p + 1)).length (flts (xs ++ letP d s.data.toList (p + 1)))) := by
            have e : xs ++ letP d s.data.toList (p + 1) = ys ++ List.replicate d one32 := by rw [Hstep.out, ← List.append_assoc, ← Hys.out, Hpk.out]; simp [HP.out, H49.out]
            unfold Hid; rw [e]; exact ho2
          clear ho2 hst2
          go_wp2
          go_roundg (s.size - (p + 1))
          case measure => omega
          case rel => exact ⟨p + 1, by omega, rfl, Hit2, Ho2, Hst2, Hne2⟩
        · have HP : Hid ((p = 0) = False) := by unfold Hid; simp [hp0]
          have hp0b : decide (0 < p) = true := by simp; omega
          clear hp0
          go_wp2_with fail
          refine (held_step B u0 ys 0 (d : Int) _ Ho1.out HBW.out (by omega) (by have := Hlen.out; omega)).mono ?_
          rintro e w2 ⟨v2, rfl, ho2, hst1⟩
          simp only [Int.toNat_natCast] at ho2
          have HO2 := Lib.hid ho2
          have HS1 := Lib.hid hst1
          have hB2 : B ≤ w2.heap.size := by have := HBW.out; have := hst1.1.size; omega
          have HB2 := Lib.hid hB2
          have hl2 : (ys ++ List.replicate d 0).length ≤ 1000000 := by rw [List.length_append, List.length_replicate]; have := Hlen.out; omega
          have Hl2 := Lib.hid hl2
          clear ho2 hst1 hB2 hl2
          go_wp2_with fail
          refine (held_step B v2 (ys ++ List.replicate d 0) one32 (d : Int) _ HO2.out HB2.out (by omega) Hl2.out).mono ?_
          rintro e w3 ⟨v3, rfl, ho3, hst2⟩
          simp only [Int.toNat_natCast] at ho3
          have hst2 := HS1.out.trans hst2
          have Hit2 := Lib.hid (hst2.heap Hit1.out (Ne.symm Hne.out))
          have Hne2 := Lib.hid (hst2.ne Hne.out (by have := Hsz1.out; omega))
          have Hst2 := Lib.hid (Hst1.out.trans hst2)
          have Ho2 : Hid (w3.ownsRow B 37 1 v3 (xs ++ letP d s.data.toList (p + 1)).length (flts (xs ++ letP d s.data.toList (p + 1)))) := by
            have e : xs ++ letP d s.data.toList (p + 1) = ys ++ List.replicate d 0 ++ List.replicate d one32 := by rw [Hstep.out, ← List.append_assoc, ← Hys.out, Hpk.out]; simp [HP.out, H49.out]
            unfold Hid; rw [e]; exact ho3
          clear ho3 hst2
          go_wp2
          go_roundg (s.size - (p + 1))
          case measure => omega
          case rel => exact ⟨p + 1, by omega, rfl, Hit2, Ho2, Hst2, Hne2⟩
    · have hnx := fun ty => Lib.run_next_end_at (P := Tryz.prog) wr w.heap.size s p ty Hit.out hlt
      obtain rfl : p = s.size := by omega
      have hl : s.data.toList.length = s.size := by simp
      have Hl := Lib.hid hl
      clear hl
      go_wp2
      go_ret
      exact ⟨_, rfl, by unfold letS; rw [Hl.out]; exact Ho.out, Hst.out⟩
end Go.Proofs.YtjgofnbfpoephaaGreatDoor
