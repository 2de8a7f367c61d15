import Derived.Test.YtlflfieknibgmaaGreatDoorM08
import Derived.Maps.OwnSet
import Derived.Maps.StringElems
import Derived.StringKeys
import Derived.Lib.Hide
import Derived.Test.YtlflfieknibgmaaGreatDoorM24
namespace Go.Proofs.YtlflfieknibgmaaGreatDoor
set_option linter.all false
open Go.RowKit Go.Maps
def letQ (k : Nat) : ByteArray := ⟨#[UInt8.ofNat (65 + k)]⟩
def LD (k : Nat) : DataW Unit := (List.range k).foldl (fun D i => D.put (.string (codeS i).data.toList) (.lit (.string (letQ i).data.toList))) (.map [])
theorem LD_succ (k : Nat) : LD (k + 1) = (LD k).put (.string (codeS k).data.toList) (.lit (.string (letQ k).data.toList)) := by
  unfold LD; rw [List.range_succ, List.foldl_append]; rfl
theorem codeQ_size (k : Nat) (hk : k < 26) : (codeS k).size ≤ 5 := by
  rcases (show k = 0 ∨ k = 1 ∨ k = 2 ∨ k = 3 ∨ k = 4 ∨ k = 5 ∨ k = 6 ∨ k = 7 ∨ k = 8 ∨ k = 9 ∨ k = 10 ∨ k = 11 ∨ k = 12 ∨ k = 13 ∨ k = 14 ∨ k = 15 ∨ k = 16 ∨ k = 17 ∨ k = 18 ∨ k = 19 ∨ k = 20 ∨ k = 21 ∨ k = 22 ∨ k = 23 ∨ k = 24 ∨ k = 25 by omega) with rfl | rfl | rfl | rfl | rfl | rfl | rfl | rfl | rfl | rfl | rfl | rfl | rfl | rfl | rfl | rfl | rfl | rfl | rfl | rfl | rfl | rfl | rfl | rfl | rfl | rfl
  all_goals decide
theorem letQ_conv (k : Nat) (hk : k < 26) (w : World) : (convert 21 9 (.int .i32 (65 + (k : Int)))).run Tryz.prog w = .ok (.string (letQ k)) w := by
  rcases (show k = 0 ∨ k = 1 ∨ k = 2 ∨ k = 3 ∨ k = 4 ∨ k = 5 ∨ k = 6 ∨ k = 7 ∨ k = 8 ∨ k = 9 ∨ k = 10 ∨ k = 11 ∨ k = 12 ∨ k = 13 ∨ k = 14 ∨ k = 15 ∨ k = 16 ∨ k = 17 ∨ k = 18 ∨ k = 19 ∨ k = 20 ∨ k = 21 ∨ k = 22 ∨ k = 23 ∨ k = 24 ∨ k = 25 by omega) with rfl | rfl | rfl | rfl | rfl | rfl | rfl | rfl | rfl | rfl | rfl | rfl | rfl | rfl | rfl | rfl | rfl | rfl | rfl | rfl | rfl | rfl | rfl | rfl | rfl | rfl
  all_goals kernel_rfl
theorem strKey : Keyed Tryz.prog 9 := string_keyed Tryz.underlying9
theorem ownsMap_below {H : Type} {P : Program} {k : TypeId} {R : Value → Option (DataW H × List MemPlace)} {b n : Nat} {D : DataW H} {w w' : World} (h : w.ownsMap P k R b n D) (hb : Below w.heap.size w w') : w'.ownsMap P k R b n D := by
  have hlt := h.lt
  obtain ⟨es, clock, h1, F, hs, hD⟩ := h
  exact ⟨es, clock, (hb.block b hlt).trans h1, F, hs, hD⟩
set_option maxRecDepth 100000 in
set_option maxHeartbeats 1000000 in
theorem letters_any (w : World) (h : Tz w) : Calls Tryz.prog 54 #[] w fun e w' => ∃ b, e = .returned (.map (some b)) ∧ w'.ownsMap Tryz.prog 9 (plainElem Tryz.prog 9) b 26 (LD 26) ∧ w.heap.size ≤ b ∧ Below w.heap.size w w' := by
  have hmm := @run_makeMap Tryz.prog
  have HT := Lib.hid h
  clear h
  go_enter Tryz.func54, Tryz.ntmps54
  go_wp2
  go_loopw [4] (fun i wr => ∃ k : Nat, k ≤ 26 ∧ i = .int .i64 k ∧ Hid (wr.ownsMap Tryz.prog 9 (plainElem Tryz.prog 9) w.heap.size k (LD k)) ∧ Hid (Below w.heap.size w wr)) (fun i _ => 26 - (intOf i).toNat)
  case atStart => exact ⟨0, Nat.zero_le _, rfl, World.ownsMap_made w _ _ _, (Below.refl _ _).alloc (Nat.le_refl _) _⟩
  case round =>
    obtain ⟨k, hk, rfl, Ho, Hb⟩ := hrel
    by_cases hlt : k < 26
    · have hcv := letQ_conv k hlt
      have HC : Hid (∀ W, Below w.heap.size w W → Calls Tryz.prog 37 #[.int .i64 (k : Int)] W fun e w' => e = .returned (.string (codeS k)) ∧ Below W.heap.size W w') := fun W hW => code_any k hlt W (HT.out.old hW)
      have hkey := WideMaps.keyOf_string_mk (P := Tryz.prog) Tryz.underlying9 (s := codeS k) (by have := codeQ_size k hlt; unfold maxLen; omega)
      have hval := plainElem_string (H := Unit) (P := Tryz.prog) Tryz.underlying9 (s := letQ k) (by show 1 ≤ maxLen; unfold maxLen; decide)
      have Hkey := Lib.hid hkey; have Hval := Lib.hid hval
      have w1 : IntKind.i32.wrap (65 + (k : Int)) = 65 + (k : Int) := by unfold IntKind.wrap; simp [IntKind.signed, IntKind.bits]; omega
      clear hkey hval
      go_wp2_with (first
        | (go_at_call 37; refine (HC.out _ Hb.out).mono ?_; rintro e w2 ⟨rfl, hb2⟩; have Ho2 := Lib.hid (ownsMap_below Ho.out hb2); have Hb2 := Lib.hid (Hb.out.trans (hb2.mono Hb.out.size)); clear hb2)
        | (at_mapUpdate; refine wpList_mapUpdate_own _ rfl _ _ _ 133 rfl 9 9 strKey Tryz.underlying133 _ w.heap.size k _ rfl Ho2.out (by unfold maxLen; omega) _ _ _ rfl rfl Hkey.out _ [] Hval.out ?_; intro w3 hown3 hgrow3))
      exact ⟨⟨k + 1, by omega, by go_num, by rw [LD_succ]; exact hown3, Hb2.out.grown hgrow3 Hb2.out.size (fun j e => by cases e; exact Nat.le_refl _)⟩, by simp [intOf]; omega⟩
    · obtain rfl : k = 26 := by omega
      go_wp2
      go_ret
      exact ⟨_, rfl, Ho.out, Nat.le_refl _, Hb.out⟩
end Go.Proofs.YtlflfieknibgmaaGreatDoor
namespace Go.Proofs.YtlflfieknibgmaaGreatDoor
set_option linter.all false
open Go.RowKit Go.Fl

end Go.Proofs.YtlflfieknibgmaaGreatDoor
