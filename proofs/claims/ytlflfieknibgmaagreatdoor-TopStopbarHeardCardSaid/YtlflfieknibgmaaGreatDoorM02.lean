import Derived.Test.YtlflfieknibgmaaGreatDoorM01
import Derived.Deep.QuietTactic
import Derived.BigQuiet
namespace Go.Proofs.YtlflfieknibgmaaGreatDoor
set_option linter.all false
open Go.RowKit
def Rd (w : World) (A : Option Addr) (xs : List Value) : Prop := ∀ j v, xs[j]? = some v → ∃ b off, A = some ⟨b, off, none⟩ ∧ w.cell? ⟨b, off + j, none⟩ = some v
theorem Rd.at {w : World} {A : Option Addr} {xs : List Value} (h : Rd w A xs) {j : Nat} (hj : j < xs.length) : ∃ b off, A = some ⟨b, off, none⟩ ∧ w.cell? ⟨b, off + j, none⟩ = some xs[j] :=
  h j _ (List.getElem?_eq_getElem hj)
def ints (zs : List Int) : List Value := zs.map (.int .i64)
theorem Rd.int {w : World} {A : Option Addr} {zs : List Int} (h : Rd w A (ints zs)) {j : Nat} (hj : j < zs.length) : ∃ b off, A = some ⟨b, off, none⟩ ∧ w.cell? ⟨b, off + j, none⟩ = some (.int .i64 (zs[j])) := by
  obtain ⟨b, off, h1, h2⟩ := Rd.at h (j := j) (by simpa [ints] using hj)
  refine ⟨b, off, h1, ?_⟩
  rw [h2]; simp [ints]
def firstI : List Int → Int
  | [] => 0
  | z :: zs => if z = 0 then firstI zs else z
theorem firstI_drop {zs : List Int} {k : Nat} (hk : k < zs.length) : firstI (zs.drop k) = if zs[k] = 0 then firstI (zs.drop (k + 1)) else zs[k] := by
  rw [List.drop_eq_getElem_cons hk, firstI]
set_option maxHeartbeats 400000 in
theorem first_any (A : Option Addr) (n c : Nat) (zs : List Int) (w : World) (h : Rd w A (ints zs)) (hn : n = zs.length) (hm : zs.length ≤ 9223372036854775807) :
    Calls Tryz.prog 92 #[.slice A n c] w fun e w' => e = .returned (.int .i64 (firstI zs)) ∧ w = w' := by
  subst hn
  go_enter Tryz.func92, Tryz.ntmps92
  go_wp2
  go_loop [3] (fun i => ∃ k : Nat, k ≤ zs.length ∧ i = .int .i64 k ∧ Hid (firstI (zs.drop k) = firstI zs)) (fun i => zs.length - (intOf i).toNat)
  case atStart => exact ⟨0, Nat.zero_le _, rfl, rfl⟩
  case round =>
    obtain ⟨k, hk, rfl, H⟩ := hrel
    by_cases hlt : k < zs.length
    · obtain ⟨b, off, rfl, hc⟩ := Rd.int h hlt
      have hd := Lib.hid (firstI_drop hlt)
      by_cases hz : zs[k] = 0
      · rw [hz] at hc
        go_wp2
        go_round
        case rel => exact ⟨k + 1, by omega, by go_num, by show _ = _; rw [← H.out, hd.out, if_pos hz]⟩
        case measure => simp [intOf]; omega
      · have hz' : (zs[k] != 0) = true := by simpa using hz
        have Hz := Lib.hid hz; clear hz
        go_wp2
        go_ret
        exact ⟨ret_int (by rw [← H.out, hd.out, if_neg Hz.out]), rfl⟩
    · go_wp2
      go_ret
      exact ⟨ret_int (by rw [← H.out, List.drop_of_length_le (by omega)]; rfl), rfl⟩
end Go.Proofs.YtlflfieknibgmaaGreatDoor
