import Derived.Test.YtjdniebjhilooaaGreatDoorM32
import Derived.Test.YtjdniebjhilooaaGreatDoorM38
namespace Go.Proofs.YtjdniebjhilooaaGreatDoor
set_option linter.all false
open Go.RowKit Go.Fl
set_option maxRecDepth 100000
theorem b_told (A B : Option Addr) (c d : Nat) (w : World) (hA : Rd w A (flts tapeX)) (hB : Rd w B (markC tapeM)) :
 Calls Tryz.prog 16 #[.agg #[.int .i64 100, .int .i64 10, .slice A 4 c, .slice B 2 d]] w fun e w' => ∃ A' c' B' d', e = .returned (.agg #[.int .i64 100, .int .i64 10, .slice A' 4 c', .slice B' 2 d']) ∧ Rd w' A' (flts tapeX) ∧ Rd w' B' (markC tapeM) ∧ Below w.heap.size w w' :=
 told_ok 100 10 A B c d tapeX tapeM w hA hB (by decide) (by decide) (by intro h; subst h; obtain ⟨b, o, h, _⟩ := hA 0 _ rfl; cases h)
theorem b_sameR (A B A' B' : Option Addr) (c d c' d' : Nat) (w : World) (hA : Rd w A (flts tapeX)) (hB : Rd w B (markC tapeM)) (hA' : Rd w A' (flts tapeX)) (hB' : Rd w B' (markC tapeM)) :
 Calls Tryz.prog 15 #[.agg #[.int .i64 100, .int .i64 10, .slice A 4 c, .slice B 2 d], .agg #[.int .i64 100, .int .i64 10, .slice A' 4 c', .slice B' 2 d']] w fun e w' => e = .returned (.bool true) ∧ Below w.heap.size w w' :=
 sameRecording_true 100 10 A B A' B' c d c' d' tapeX tapeX tapeM w hA hB hA' hB' (by decide) (by decide) (by kernel_rfl)
theorem b_conv (g c : Nat) (w : World) (hA : Rd w (some ⟨g, 0, none⟩) (byts packE)) : (convert 48 9 (.slice (some ⟨g, 0, none⟩) 10 c)).run Tryz.prog w = .ok (.string ⟨#[71, 76, 83, 49, 0, 2, 0, 255, 16, 248]⟩) w := by
 have h := run_convert_bytes_arg (P := Tryz.prog) w 48 5 Tryz.underlying48 Tryz.underlying5 g 0 10 c [71, 76, 83, 49, 0, 2, 0, 255, 16, 248] rfl (fun i hi => by
  obtain ⟨b', off', hb', h⟩ := hA.byteAt (j := i) (by simp only [packE, List.length_cons, List.length_nil]; omega)
  cases hb'
  rw [h]
  match i, hi with
  | 0, _ | 1, _ | 2, _ | 3, _ | 4, _ | 5, _ | 6, _ | 7, _ | 8, _ | 9, _ => rfl) 9 Tryz.underlying9
 rw [h]
 rfl
theorem b_slice (g c : Nat) (hc : 18 ≤ c) (w : World) : (Instr.slice 48 (.slice (some ⟨g, 0, none⟩) 18 c) none (some (.int .i64 10)) none).run Tryz.prog w = .ok (.slice (some ⟨g, 0, none⟩) 10 c) w :=
 slice_to (P := Tryz.prog) 48 (by kernel_rfl) 1 (fun _ => by kernel_rfl) (some ⟨g, 0, none⟩) 18 c (10 : Int) (by decide) (by omega) w
theorem b_name1 (w : World) : Calls Tryz.prog 44 #[.string ⟨#[97, 95, 49]⟩] w fun e w' => e = .returned (.bool true) ∧ w = w' :=
 (isName_any ⟨#[97, 95, 49]⟩ w).mono fun e w' ⟨h1, h2⟩ => ⟨by rw [h1, show nameL (⟨#[97, 95, 49]⟩ : ByteArray).data.toList = true from v_name1], h2⟩
theorem b_name2 (w : World) : Calls Tryz.prog 44 #[.string ⟨#[49, 97]⟩] w fun e w' => e = .returned (.bool false) ∧ w = w' :=
 (isName_any ⟨#[49, 97]⟩ w).mono fun e w' ⟨h1, h2⟩ => ⟨by rw [h1, show nameL (⟨#[49, 97]⟩ : ByteArray).data.toList = false from v_name2], h2⟩
theorem b_prS : printS.toList = [114, 101, 99, 111, 114, 100, 105, 110, 103, 32, 49, 48, 48, 32, 49, 48, 10, 109, 97, 114, 107, 32, 49, 32, 111, 117, 116, 101, 114, 10, 109, 97, 114, 107, 32, 51, 32, 105, 110, 110, 101, 114, 10, 115, 97, 109, 112, 108, 101, 32, 49, 54, 10, 115, 97, 109, 112, 108, 101, 32, 51, 50, 10, 115, 97, 109, 112, 108, 101, 32, 52, 56, 10, 115, 97, 109, 112, 108, 101, 32, 54, 52, 10] := by rw [ByteArray.toList_eq]; rfl
theorem b_print2 (g1 g2 : Nat) (w : World) (h : Aw w) (h1 : Row w g1 56 (flts tapeX)) (h2 : Row w g2 117 (markC tapeM)) : Calls Tryz.prog 9 #[.agg #[.int .i64 100, .int .i64 10, .slice (some ⟨g1, 0, none⟩) 4 4, .slice (some ⟨g2, 0, none⟩) 2 2]] w fun e w' => ∃ S, e = .returned (.tuple #[.string S, .int .i64 0]) ∧ Hid (S = printS) ∧ Below w.heap.size w w' :=
 (b_print g1 g2 w h h1 h2).mono fun e w' ⟨k1, k2⟩ => ⟨printS, k1, rfl, k2⟩
theorem b_parse2 (S : ByteArray) (hS : Hid (S = printS)) (w : World) (h : Aw w) : Calls Tryz.prog 11 #[.string S] w fun e w' => ∃ A c B d, e = .returned (.tuple #[.agg #[.int .i64 100, .int .i64 10, .slice A 4 c, .slice B 2 d], .int .i64 0, .int .i64 0]) ∧ Rd w' A (flts tapeX) ∧ Rd w' B (markC tapeM) ∧ Below w.heap.size w w' := by
 rw [hS.out]; exact b_parse w h
theorem prS_beq (S : ByteArray) (hS : Hid (S = printS)) : (S.toList == [114, 101, 99, 111, 114, 100, 105, 110, 103, 32, 49, 48, 48, 32, 49, 48, 10, 109, 97, 114, 107, 32, 49, 32, 111, 117, 116, 101, 114, 10, 109, 97, 114, 107, 32, 51, 32, 105, 110, 110, 101, 114, 10, 115, 97, 109, 112, 108, 101, 32, 49, 54, 10, 115, 97, 109, 112, 108, 101, 32, 51, 50, 10, 115, 97, 109, 112, 108, 101, 32, 52, 56, 10, 115, 97, 109, 112, 108, 101, 32, 54, 52, 10]) = true := by rw [hS.out, b_prS]; exact beq_self_eq_true _
theorem b_conv2 (g c : Nat) (w : World) (hA : Rd w (some ⟨g, 0, none⟩) (byts packE)) : ∃ S, (convert 48 9 (.slice (some ⟨g, 0, none⟩) 10 c)).run Tryz.prog w = .ok (.string S) w ∧ (S.toList == [71, 76, 83, 49, 0, 2, 0, 255, 16, 248]) = true :=
 ⟨_, b_conv g c w hA, by rw [ByteArray.toList_eq]; exact beq_self_eq_true _⟩
end Go.Proofs.YtjdniebjhilooaaGreatDoor
