/- What the document's examples come to: the specifications at fixed values. -/
import Derived.Test.YtjgofnbfpoephaaGreatDoorM37
import Derived.Test.YtjgofnbfpoephaaGreatDoorM31
import Derived.Test.YtjgofnbfpoephaaGreatDoorM18
import Derived.Test.YtjgofnbfpoephaaGreatDoorM23
import Derived.Test.YtjgofnbfpoephaaGreatDoorM27
import Derived.Test.YtjgofnbfpoephaaGreatDoorM24
import Derived.Test.YtjgofnbfpoephaaGreatDoorM15
import Derived.Test.YtjgofnbfpoephaaGreatDoorM20
import Derived.Test.YtjgofnbfpoephaaGreatDoorM13
import Derived.Test.YtjgofnbfpoephaaGreatDoorM26
import Derived.Test.YtjgofnbfpoephaaGreatDoorM28
import Derived.Test.YtjgofnbfpoephaaGreatDoorM25
namespace Go.Proofs.YtjgofnbfpoephaaGreatDoor
set_option linter.all false
open Go.RowKit Go.Fl
set_option linter.unusedVariables false
set_option maxRecDepth 100000

def k0 : List Int := [0, 0, 0, 0, 0, 0, 0, 0]
theorem v_draw : drawL 0 3 = [1, 0, 2] := by kernel_rfl
theorem v_seal : sealL k0 [5, 1] = [76, 230, 188, 206, 28, 166, 108, 110] := by kernel_rfl
def xF : List Nat := [1065353216, 3204448256, 0, 0, 0, 0, 0, 0]
theorem v_pk : pkI 3 258 2 xF = 0 := by kernel_rfl
theorem v_samp : ∀ x ∈ xF, sampI x = 0 := by
  intro x hx
  simp only [xF, List.mem_cons, List.not_mem_nil, or_false] at hx
  rcases hx with rfl | rfl | rfl | rfl | rfl | rfl | rfl | rfl <;> kernel_rfl
def encE : List Int := [201, 3, 1, 2, 2, 0, 16, 255, 248, 0, 0, 0, 0, 0, 0, 0, 0, 0, 0, 0, 0]
theorem v_enc : (encB k0 3 258 2 xF).take 10 = [201, 3, 1, 2, 2, 0, 16, 255, 248, 0] := by kernel_rfl
def encAll : List Int := [201, 3, 1, 2, 2, 0, 16, 255, 248, 0, 0, 0, 0, 0, 0, 0, 0, 0, 0, 0, 0, 133, 192, 51, 222, 129, 28, 111, 122]
theorem v_encAll : encB k0 3 258 2 xF = encAll := by kernel_rfl
def inB : List UInt8 := [1, 7, 201, 3, 1, 2, 2, 0, 16, 255, 248, 0, 0, 0, 0, 0, 0, 0, 0, 0, 0, 0, 0, 133, 192, 51, 222, 129, 28, 111, 122]
theorem v_recv : recvL k0 inB = ([[.int .i64 3, .int .i64 258, .int .i64 2, .float .f32 1065353216, .float .f32 3204448256, .float .f32 0, .float .f32 0, .float .f32 0, .float .f32 0, .float .f32 0, .float .f32 0]], [(0, 2)]) := by kernel_rfl
theorem v_asm : asmL 3 10 [(3, 1, 2, [1065353216, 1073741824, 0, 0, 0, 0, 0, 0])] = ([0, 0, 0, 0, 0, 0, 0, 0, 1065353216, 1073741824], [false, false, false, false, false, false, false, false, true, true]) := by kernel_rfl
theorem v_gap : gapsL [false, false, false, false, false, false, false, false, true, true] = [(0, 8)] := by kernel_rfl
theorem v_asmE : asmE [(3, 1, 2, [1065353216, 1073741824, 0, 0, 0, 0, 0, 0])] 3 10 = 0 := by kernel_rfl
theorem v_tape : recI 100 10 tapeX tapeM = 0 := by kernel_rfl
theorem v_cut13 : cutM 1 3 tapeM = [(0, ⟨#[111, 117, 116, 101, 114]⟩)] := by kernel_rfl
theorem v_cut02 : cutM 0 2 tapeM = [(1, ⟨#[111, 117, 116, 101, 114]⟩)] := by kernel_rfl
theorem v_cut24 : cutM 2 4 tapeM = [(1, ⟨#[105, 110, 110, 101, 114]⟩)] := by kernel_rfl
theorem v_al : alignL ([0, 0, 16, 0, 0].map fb |>.map unitI) ([0, 0, 0, 16, 0].map fb |>.map unitI) 2 3 = (0, 1, 1) := by kernel_rfl
theorem v_key1 : keyedL 2 [67] = [1065353216, 1065353216, 0, 0, 1065353216, 1065353216] ++ List.replicate 14 0 := by kernel_rfl
theorem v_key2 : keyedL 1 [65, 66] = [1065353216, 0, 0, 0, 1065353216, 1065353216, 1065353216] ++ List.replicate 7 0 := by kernel_rfl
theorem v_word1 : wordI [67] = 0 := by kernel_rfl
theorem v_word2 : wordI [65, 66] = 0 := by kernel_rfl
theorem v_heard : heardL [1065353216, 0, 1065353216, 1065353216, 1065353216, 0, 0, 0, 1065353216] 1 = [⟨#[68, 65]⟩] := by kernel_rfl
theorem v_heardS : sampsI [1065353216, 0, 1065353216, 1065353216, 1065353216, 0, 0, 0, 1065353216] = 0 := by kernel_rfl
def packE : List UInt8 := [71, 76, 83, 49, 0, 2, 0, 255, 16, 248, 148, 240, 32, 84, 60, 8, 104, 140]
theorem v_pack : packI [1065353216, 3204448256] = packE.map fun b => (b.toNat : Int) := by kernel_rfl
theorem v_unpE : unpE packE = 0 := by kernel_rfl
theorem v_unpN : unpN packE = 2 := by kernel_rfl
theorem v_upX : upX packE 2 = [1065353216, 3204448256] := by kernel_rfl
theorem v_packS : sampsI [1065353216, 3204448256] = 0 := by kernel_rfl
theorem v_name1 : nameL [97, 95, 49] = true := by kernel_rfl
theorem v_name2 : nameL [49, 97] = false := by kernel_rfl

def printT : List UInt8 := [114, 101, 99, 111, 114, 100, 105, 110, 103, 32, 49, 48, 48, 32, 49, 48, 10, 109, 97, 114, 107, 32, 49, 32, 111, 117, 116, 101, 114, 10, 109, 97, 114, 107, 32, 51, 32, 105, 110, 110, 101, 114, 10, 115, 97, 109, 112, 108, 101, 32, 49, 54, 10, 115, 97, 109, 112, 108, 101, 32, 51, 50, 10, 115, 97, 109, 112, 108, 101, 32, 52, 56, 10, 115, 97, 109, 112, 108, 101, 32, 54, 52, 10]
theorem dd1 {i : Nat} (h : i < 10) : Lib.itoa (i : Int) = [UInt8.ofNat (48 + i)] := by rw [Lib.itoa_nonneg, Lib.decDigits_one h]
theorem dd2 {i : Nat} (h1 : ¬ i < 10) (h2 : i < 100) : Lib.itoa (i : Int) = [UInt8.ofNat (48 + i / 10), UInt8.ofNat (48 + i % 10)] := by rw [Lib.itoa_nonneg, Lib.decDigits_two h1 h2]
theorem dd100 : Lib.itoa 100 = [49, 48, 48] := by
  show Lib.itoa ((100 : Nat) : Int) = _
  rw [Lib.itoa_nonneg, Lib.decDigits, dif_neg (by decide), Lib.decDigits_two (by decide) (by decide)]; rfl
theorem v_units : tapeX.map unitI = [16, 32, 48, 64] := by kernel_rfl
def printS : ByteArray := ⟨printT.toArray⟩
theorem v_size : printS.size ≤ 4096 := by decide
theorem v_go : linesGo 0 zeroS (linesL printS) = (6 + 1, true, (100, 10, tapeX, tapeM)) := by kernel_rfl
theorem v_small : ∀ l ∈ linesL printS, smallN (wordsL (textL l)) := by
  have h : (linesL printS).all (fun l => decide ((intV (headW (wordsL (textL l)).tail).data.toList).natAbs < 2 ^ 20)) = true := by kernel_rfl
  rw [List.all_eq_true] at h
  intro l hl
  have := h l hl
  unfold smallN
  exact of_decide_eq_true this
theorem ib2 {i : Nat} (h1 : ¬ i < 10) (h2 : i < 100) : itoaB (i : Int) = ⟨#[UInt8.ofNat (48 + i / 10), UInt8.ofNat (48 + i % 10)]⟩ := by unfold itoaB; rw [dd2 h1 h2]
theorem ib1 {i : Nat} (h1 : i < 10) : itoaB (i : Int) = ⟨#[UInt8.ofNat (48 + i)]⟩ := by unfold itoaB; rw [dd1 h1]
theorem ib100 : itoaB 100 = ⟨#[49, 48, 48]⟩ := by unfold itoaB; rw [dd100]
theorem p0 : numLineB wRec [100, 10] = ⟨#[114, 101, 99, 111, 114, 100, 105, 110, 103, 32, 49, 48, 48, 32, 49, 48, 10]⟩ := by
  unfold numLineB
  rw [List.map_cons, List.map_cons, List.map_nil, ib100, show itoaB 10 = ⟨#[49, 48]⟩ from ib2 (i := 10) (by decide) (by decide)]
  kernel_rfl
theorem p1 : markB (1, ⟨#[111, 117, 116, 101, 114]⟩) = ⟨#[109, 97, 114, 107, 32, 49, 32, 111, 117, 116, 101, 114, 10]⟩ := by
  unfold markB
  rw [show itoaB 1 = ⟨#[49]⟩ from ib1 (i := 1) (by decide)]
  kernel_rfl
theorem p2 : markB (3, ⟨#[105, 110, 110, 101, 114]⟩) = ⟨#[109, 97, 114, 107, 32, 51, 32, 105, 110, 110, 101, 114, 10]⟩ := by
  unfold markB
  rw [show itoaB 3 = ⟨#[51]⟩ from ib1 (i := 3) (by decide)]
  kernel_rfl
theorem p3 : sampB 1065353216 = ⟨#[115, 97, 109, 112, 108, 101, 32, 49, 54, 10]⟩ := by
  unfold sampB numLineB
  rw [show unitI 1065353216 = 16 by kernel_rfl, List.map_cons, List.map_nil, show itoaB 16 = ⟨#[49, 54]⟩ from ib2 (i := 16) (by decide) (by decide)]
  kernel_rfl
theorem p4 : sampB 1073741824 = ⟨#[115, 97, 109, 112, 108, 101, 32, 51, 50, 10]⟩ := by
  unfold sampB numLineB
  rw [show unitI 1073741824 = 32 by kernel_rfl, List.map_cons, List.map_nil, show itoaB 32 = ⟨#[51, 50]⟩ from ib2 (i := 32) (by decide) (by decide)]
  kernel_rfl
theorem p5 : sampB 1077936128 = ⟨#[115, 97, 109, 112, 108, 101, 32, 52, 56, 10]⟩ := by
  unfold sampB numLineB
  rw [show unitI 1077936128 = 48 by kernel_rfl, List.map_cons, List.map_nil, show itoaB 48 = ⟨#[52, 56]⟩ from ib2 (i := 48) (by decide) (by decide)]
  kernel_rfl
theorem p6 : sampB 1082130432 = ⟨#[115, 97, 109, 112, 108, 101, 32, 54, 52, 10]⟩ := by
  unfold sampB numLineB
  rw [show unitI 1082130432 = 64 by kernel_rfl, List.map_cons, List.map_nil, show itoaB 64 = ⟨#[54, 52]⟩ from ib2 (i := 64) (by decide) (by decide)]
  kernel_rfl
theorem v_print : printL 100 10 tapeX tapeM = printT := by
  unfold printL printLs tapeX tapeM
  simp only [List.map_cons, List.map_nil, p0, p1, p2, p3, p4, p5, p6]
  kernel_rfl
end Go.Proofs.YtjgofnbfpoephaaGreatDoor
