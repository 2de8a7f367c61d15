import Derived.Test.YtdglifjhkjdogaaGreatDoorM25
import Derived.Test.YtdglifjhkjdogaaGreatDoorM11
/- Contracts: what is not keyed, and what is not heard. -/

namespace Go.Proofs.YtdglifjhkjdogaaGreatDoor
set_option linter.all false
open Go.RowKit Go.Fl
set_option linter.unusedVariables false
set_option linter.unusedSimpArgs false

def kyE (s : ByteArray) (d : Int) : Int := firstI [wordI s.data.toList, whenI (rangeB d 1 16) 3]
def heE (xs : List Nat) (d : Int) : Int := firstI [sampsI xs, whenI (rangeB d 1 16) 3]

set_option maxRecDepth 100000 in
set_option maxHeartbeats 1000000 in
theorem keyed_bad (s : ByteArray) (d : Int) (w : World) (hE : kyE s d ≠ 0) :
    Calls Tryz.prog 17 #[.string s, .int .i64 d] w fun e w' => e = .returned (.tuple #[.slice none 0 0, .int .i64 (kyE s d)]) ∧ Below w.heap.size w w' := by
  obtain ⟨z1, hz1⟩ : ∃ z1, z1 = wordI s.data.toList := ⟨_, rfl⟩
  obtain ⟨z2, hz2⟩ : ∃ z2, z2 = whenI (rangeB d 1 16) 3 := ⟨_, rfl⟩
  obtain ⟨EE, hEE⟩ : ∃ EE, EE = kyE s d := ⟨_, rfl⟩
  have HE0 : (EE != 0) = true := by rw [hEE]; simpa using hE
  have HEE : Hid (EE = firstI [z1, z2]) := by unfold Hid; rw [hEE, kyE, hz1, hz2]
  have HZ1 := Lib.hid hz1; have HZ2 := Lib.hid hz2
  rw [← hEE]
  clear hz1 hz2 hEE hE
  go_enter Tryz.func17, Tryz.ntmps17
  go_wp2_with (first
    | (go_at_call 69; refine (checkWord_any _ _).mono ?_; rintro e w1 ⟨rfl, hb1⟩; rw [← HZ1.out]; have HB1 := Lib.hid hb1; clear hb1)
    | (go_at_call 58; refine (between_any _ _ _ _).mono ?_; rintro e w3 ⟨rfl, rfl⟩; rw [← HZ2.out])
    | (go_at_call 56; refine (firstV_any _ _ _ [z1, z2] _ ?_ rfl (by simp)).mono ?_; exact Rd.new _ _ _ _ (by simp); rintro e w3 ⟨rfl, rfl⟩; rw [← HEE.out]))
  go_ret2
  exact ⟨rfl, HB1.out.alloc HB1.out.size _⟩

set_option maxRecDepth 100000 in
set_option maxHeartbeats 1000000 in
theorem heard_bad (A : Option Addr) (n c : Nat) (xs : List Nat) (d : Int) (w : World) (hA : Rd w A (flts xs)) (hn : n = xs.length) (hE : heE xs d ≠ 0) :
    Calls Tryz.prog 18 #[.slice A n c, .int .i64 d] w fun e w' => e = .returned (.tuple #[.slice none 0 0, .int .i64 (heE xs d)]) ∧ Below w.heap.size w w' := by
  subst hn
  have HC := Lib.hid (checkSamples_any A _ c xs w hA rfl)
  obtain ⟨z1, hz1⟩ : ∃ z1, z1 = sampsI xs := ⟨_, rfl⟩
  obtain ⟨z2, hz2⟩ : ∃ z2, z2 = whenI (rangeB d 1 16) 3 := ⟨_, rfl⟩
  obtain ⟨EE, hEE⟩ : ∃ EE, EE = heE xs d := ⟨_, rfl⟩
  have HE0 : (EE != 0) = true := by rw [hEE]; simpa using hE
  have HEE : Hid (EE = firstI [z1, z2]) := by unfold Hid; rw [hEE, heE, hz1, hz2]
  have HZ1 := Lib.hid hz1; have HZ2 := Lib.hid hz2
  rw [← hEE]
  clear hz1 hz2 hEE hE hA
  go_enter Tryz.func18, Tryz.ntmps18
  go_wp2_with (first
    | (go_at_call 57; refine HC.out.mono ?_; rintro e w1 ⟨rfl, hb1⟩; rw [← HZ1.out]; have HB1 := Lib.hid hb1; clear hb1)
    | (go_at_call 58; refine (between_any _ _ _ _).mono ?_; rintro e w3 ⟨rfl, rfl⟩; rw [← HZ2.out])
    | (go_at_call 56; refine (firstV_any _ _ _ [z1, z2] _ ?_ rfl (by simp)).mono ?_; exact Rd.new _ _ _ _ (by simp); rintro e w3 ⟨rfl, rfl⟩; rw [← HEE.out]))
  go_ret2
  exact ⟨rfl, HB1.out.alloc HB1.out.size _⟩

theorem samp_zero : sampI 0 = 0 := by decide +kernel
theorem samp_one : sampI one32 = 0 := by decide +kernel
theorem letP_mem (d : Nat) (l : List UInt8) (p : Nat) : ∀ x ∈ letP d l p, x = 0 ∨ x = one32 := by
  induction p with
  | zero => intro x hx; simp [letP] at hx
  | succ p ih =>
    intro x hx
    rw [letP] at hx
    unfold pieceK at hx
    rcases List.mem_append.1 hx with h | h
    · exact ih x h
    · rcases List.mem_append.1 h with h | h
      · split at h
        · simp at h
        · exact .inl (List.eq_of_mem_replicate h)
      · exact .inr (List.eq_of_mem_replicate h)
theorem keyP_mem (d : Nat) (l : List UInt8) (p : Nat) : ∀ x ∈ keyP d l p, x = 0 ∨ x = one32 := by
  induction p with
  | zero => intro x hx; simp [keyP] at hx
  | succ p ih =>
    intro x hx
    rw [keyP] at hx
    rcases List.mem_append.1 hx with h | h
    · exact ih x h
    · rcases List.mem_append.1 h with h | h
      · split at h
        · simp at h
        · exact .inl (List.eq_of_mem_replicate h)
      · exact letP_mem d _ _ x h
theorem keyedL_samp (d : Nat) (l : List UInt8) : ∀ x ∈ keyedL d l, sampI x = 0 := by
  intro x hx
  have h : x = 0 ∨ x = one32 := by
    unfold keyedL at hx
    rcases List.mem_append.1 hx with h | h
    · exact keyP_mem d l _ x h
    · exact .inl (List.eq_of_mem_replicate h)
  rcases h with rfl | rfl
  · exact samp_zero
  · exact samp_one
theorem keyedL_len (d : Nat) (l : List UInt8) (hd : d ≤ 16) (h : wordI l = 0) : (keyedL d l).length ≤ 100000 := by
  obtain ⟨_, h2, h3⟩ := caps_of h
  unfold keyedL
  rw [List.length_append, List.length_replicate]
  have h4 := keyP_le d l l.length (Nat.le_refl _) h3
  have h5 : l.length * (35 * d) ≤ 4 * (35 * 16) := Nat.mul_le_mul h2 (by omega)
  omega
end Go.Proofs.YtdglifjhkjdogaaGreatDoor
