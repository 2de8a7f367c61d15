import Derived.Test.YtoclnlimnjnbkaaGreatDoorM22
import Derived.Test.YtoclnlimnjnbkaaGreatDoorM27
import Derived.Test.YtoclnlimnjnbkaaGreatDoorM28
import Derived.Test.YtoclnlimnjnbkaaGreatDoorM30
import Derived.Test.YtoclnlimnjnbkaaGreatDoorM25
import Derived.Test.YtoclnlimnjnbkaaGreatDoorM24
namespace Go.Proofs.YtoclnlimnjnbkaaGreatDoor
set_option linter.all false
open Go.RowKit Go.Fl
set_option maxRecDepth 100000
def k0 : List Int := [0, 0, 0, 0, 0, 0, 0, 0]
theorem v_draw : drawL 0 3 = [1, 0, 2] := by kernel_rfl
theorem v_seal : sealL k0 [5, 1] = [76, 230, 188, 206, 28, 166, 108, 110] := by kernel_rfl
def xF : List Nat := [1065353216, 3204448256, 0, 0, 0, 0, 0, 0]
theorem v_pk : pkI 3 258 2 xF = 0 := by kernel_rfl
theorem v_samp : ∀ x ∈ xF, sampI x = 0 := by
  intro x hx
  simp only [xF, List.mem_cons, List.not_mem_nil, or_false] at hx
  rcases hx with rfl | rfl | rfl | rfl | rfl | rfl | rfl | rfl <;> kernel_rfl
def encAll : List Int := [201, 3, 1, 2, 2, 0, 16, 255, 248, 0, 0, 0, 0, 0, 0, 0, 0, 0, 0, 0, 0, 133, 192, 51, 222, 129, 28, 111, 122]
theorem v_encAll : encB k0 3 258 2 xF = encAll := by kernel_rfl
def inB : List UInt8 := [1, 7, 201, 3, 1, 2, 2, 0, 16, 255, 248, 0, 0, 0, 0, 0, 0, 0, 0, 0, 0, 0, 0, 133, 192, 51, 222, 129, 28, 111, 122]
theorem v_recv : recvL k0 inB = ([[.int .i64 3, .int .i64 258, .int .i64 2, .float .f32 1065353216, .float .f32 3204448256, .float .f32 0, .float .f32 0, .float .f32 0, .float .f32 0, .float .f32 0, .float .f32 0]], [(0, 2)]) := by kernel_rfl
theorem v_asm : asmL 3 10 [(3, 1, 2, [1065353216, 1073741824, 0, 0, 0, 0, 0, 0])] = ([0, 0, 0, 0, 0, 0, 0, 0, 1065353216, 1073741824], [false, false, false, false, false, false, false, false, true, true]) := by kernel_rfl
theorem v_gap : gapsL [false, false, false, false, false, false, false, false, true, true] = [(0, 8)] := by kernel_rfl
theorem v_asmE : asmE [(3, 1, 2, [1065353216, 1073741824, 0, 0, 0, 0, 0, 0])] 3 10 = 0 := by kernel_rfl
theorem v_tape : recI 100 10 tapeX tapeM = 0 := by kernel_rfl
theorem v_al : alignL ([0, 0, 16, 0, 0].map fb |>.map unitI) ([0, 0, 0, 16, 0].map fb |>.map unitI) 2 3 = (0, 1, 1) := by kernel_rfl
theorem v_key1 : keyedL 2 [67] = [1065353216, 1065353216, 0, 0, 1065353216, 1065353216] ++ List.replicate 14 0 := by kernel_rfl
theorem v_key2 : keyedL 1 [65, 66] = [1065353216, 0, 0, 0, 1065353216, 1065353216, 1065353216] ++ List.replicate 7 0 := by kernel_rfl
theorem v_word1 : wordI [67] = 0 := by kernel_rfl
theorem v_word2 : wordI [65, 66] = 0 := by kernel_rfl
theorem v_heard : heardL [1065353216, 0, 1065353216, 1065353216, 1065353216, 0, 0, 0, 1065353216] 1 = [⟨#[68, 65]⟩] := by kernel_rfl
theorem v_heardS : sampsI [1065353216, 0, 1065353216, 1065353216, 1065353216, 0, 0, 0, 1065353216] = 0 := by kernel_rfl
def packE : List UInt8 := [71, 76, 83, 49, 0, 2, 0, 255, 16, 248, 148, 240, 32, 84, 60, 8, 104, 140]
theorem v_unpE : unpE packE = 0 := by kernel_rfl
theorem v_unpN : unpN packE = 2 := by kernel_rfl
theorem v_upX : upX packE 2 = [1065353216, 3204448256] := by kernel_rfl
theorem v_packS : sampsI [1065353216, 3204448256] = 0 := by kernel_rfl
theorem v_name1 : nameL [97, 95, 49] = true := by kernel_rfl
theorem v_name2 : nameL [49, 97] = false := by kernel_rfl
def printT : List UInt8 := [114, 101, 99, 111, 114, 100, 105, 110, 103, 32, 49, 48, 48, 32, 49, 48, 10, 109, 97, 114, 107, 32, 49, 32, 111, 117, 116, 101, 114, 10, 109, 97, 114, 107, 32, 51, 32, 105, 110, 110, 101, 114, 10, 115, 97, 109, 112, 108, 101, 32, 49, 54, 10, 115, 97, 109, 112, 108, 101, 32, 51, 50, 10, 115, 97, 109, 112, 108, 101, 32, 52, 56, 10, 115, 97, 109, 112, 108, 101, 32, 54, 52, 10]
theorem dd1 {i : Nat} (h : i < 10) : Lib.itoa (i : Int) = [UInt8.ofNat (48 + i)] := by rw [Lib.itoa_nonneg, Lib.decDigits_one h]
theorem dd2 {i : Nat} (h1 : ¬ i < 10) (h2 : i < 100) : Lib.itoa (i : Int) = [UInt8.ofNat (48 + i / 10), UInt8.ofNat (48 + i % 10)] := by rw [Lib.itoa_nonneg, Lib.decDigits_two h1 h2]
theorem dd100 : Lib.itoa 100 = [49, 48, 48] := by
  show Lib.itoa ((100 : Nat) : Int) = _
  rw [Lib.itoa_nonneg, Lib.decDigits, dif_neg (by decide), Lib.decDigits_two (by decide) (by decide)]; rfl
def printS : ByteArray := ⟨printT.toArray⟩
theorem v_size : printS.size ≤ 4096 := by decide
theorem v_go : linesGo 0 zeroS (linesL printS) = (6 + 1, true, (100, 10, tapeX, tapeM)) := by kernel_rfl
theorem v_small : ∀ l ∈ linesL printS, smallN (wordsL (textL l)) := by
  have h : (linesL printS).all (fun l => decide ((intV (headW (wordsL (textL l)).tail).data.toList).natAbs < 2 ^ 30)) = true := by kernel_rfl
  rw [List.all_eq_true] at h
  intro l hl
  have := h l hl
  unfold smallN
  exact of_decide_eq_true this
theorem ib2 {i : Nat} (h1 : ¬ i < 10) (h2 : i < 100) : itoaB (i : Int) = ⟨#[UInt8.ofNat (48 + i / 10), UInt8.ofNat (48 + i % 10)]⟩ := by unfold itoaB; rw [dd2 h1 h2]
theorem ib1 {i : Nat} (h1 : i < 10) : itoaB (i : Int) = ⟨#[UInt8.ofNat (48 + i)]⟩ := by unfold itoaB; rw [dd1 h1]
theorem ib100 : itoaB 100 = ⟨#[49, 48, 48]⟩ := by unfold itoaB; rw [dd100]
theorem p0 : numLineB wRec [100, 10] = ⟨#[114, 101, 99, 111, 114, 100, 105, 110, 103, 32, 49, 48, 48, 32, 49, 48, 10]⟩ := by
  unfold numLineB
  rw [List.map_cons, List.map_cons, List.map_nil, ib100, show itoaB 10 = ⟨#[49, 48]⟩ from ib2 (i := 10) (by decide) (by decide)]
  kernel_rfl
theorem p1 : markB (1, ⟨#[111, 117, 116, 101, 114]⟩) = ⟨#[109, 97, 114, 107, 32, 49, 32, 111, 117, 116, 101, 114, 10]⟩ := by
  unfold markB
  rw [show itoaB 1 = ⟨#[49]⟩ from ib1 (i := 1) (by decide)]
  kernel_rfl
theorem p2 : markB (3, ⟨#[105, 110, 110, 101, 114]⟩) = ⟨#[109, 97, 114, 107, 32, 51, 32, 105, 110, 110, 101, 114, 10]⟩ := by
  unfold markB
  rw [show itoaB 3 = ⟨#[51]⟩ from ib1 (i := 3) (by decide)]
  kernel_rfl
theorem p3 : sampB 1065353216 = ⟨#[115, 97, 109, 112, 108, 101, 32, 49, 54, 10]⟩ := by
  unfold sampB numLineB
  rw [show unitI 1065353216 = 16 by kernel_rfl, List.map_cons, List.map_nil, show itoaB 16 = ⟨#[49, 54]⟩ from ib2 (i := 16) (by decide) (by decide)]
  kernel_rfl
theorem p4 : sampB 1073741824 = ⟨#[115, 97, 109, 112, 108, 101, 32, 51, 50, 10]⟩ := by
  unfold sampB numLineB
  rw [show unitI 1073741824 = 32 by kernel_rfl, List.map_cons, List.map_nil, show itoaB 32 = ⟨#[51, 50]⟩ from ib2 (i := 32) (by decide) (by decide)]
  kernel_rfl
theorem p5 : sampB 1077936128 = ⟨#[115, 97, 109, 112, 108, 101, 32, 52, 56, 10]⟩ := by
  unfold sampB numLineB
  rw [show unitI 1077936128 = 48 by kernel_rfl, List.map_cons, List.map_nil, show itoaB 48 = ⟨#[52, 56]⟩ from ib2 (i := 48) (by decide) (by decide)]
  kernel_rfl
theorem p6 : sampB 1082130432 = ⟨#[115, 97, 109, 112, 108, 101, 32, 54, 52, 10]⟩ := by
  unfold sampB numLineB
  rw [show unitI 1082130432 = 64 by kernel_rfl, List.map_cons, List.map_nil, show itoaB 64 = ⟨#[54, 52]⟩ from ib2 (i := 64) (by decide) (by decide)]
  kernel_rfl
theorem v_print : printL 100 10 tapeX tapeM = printT := by
  unfold printL printLs tapeX tapeM
  simp only [List.map_cons, List.map_nil, p0, p1, p2, p3, p4, p5, p6]
  kernel_rfl
structure Aw (w : World) : Prop where
  it : It w
  mx : Mx w
  tz : Tz w
  pw : Pw w
theorem Aw.old {w w' : World} (h : Aw w) (hb : Below w.heap.size w w') : Aw w' := ⟨h.it.old hb, h.mx.old hb, h.tz.old hb, h.pw.old hb⟩
def x4 : List Int := [16, 32, 48, 64]
theorem x4_bd (j : Nat) : (x4.getD j 0).natAbs ≤ 16384 := by
  match j with
  | 0 | 1 | 2 | 3 => decide
  | j + 4 => simp [x4]
theorem x4_S : ∀ j (h : j < [1065353216, 1073741824, 1077936128, 1082130432].length), S [1065353216, 1073741824, 1077936128, 1082130432][j] (x4.getD j 0) := by
  intro j h
  match j, h with
  | 0, _ => exact V32_some (x := 1065353216) (V := 16 * (2 ^ 145 : Nat)) (by kernel_rfl)
  | 1, _ => exact V32_some (x := 1073741824) (V := 32 * (2 ^ 145 : Nat)) (by kernel_rfl)
  | 2, _ => exact V32_some (x := 1077936128) (V := 48 * (2 ^ 145 : Nat)) (by kernel_rfl)
  | 3, _ => exact V32_some (x := 1082130432) (V := 64 * (2 ^ 145 : Nat)) (by kernel_rfl)
theorem a1 (w : World) : Calls Tryz.prog 32 #[.int .i64 0, .int .i64 3] w fun e w' => ∃ g, e = .returned (.tuple #[.slice (some ⟨g, 0, none⟩) 3 3, .int .i64 0]) ∧ Row w' g 3 (ints [1, 0, 2]) ∧ Below w.heap.size w w' :=
  (draw_ok 0 3 w (by decide) (by decide)).mono fun e w' ⟨g, h1, h2, _, h3⟩ => ⟨g, h1, by rw [← v_draw]; exact h2, h3⟩
structure CxT (r0 i0 r1 i1 r2 i2 r3 i3 : Nat) : Prop where
  a0 : S r0 160
  b0 : S i0 0
  a1 : S r1 (-32)
  b1 : S i1 32
  a2 : S r2 (-32)
  b2 : S i2 0
  a3 : S r3 (-32)
  b3 : S i3 (-32)
theorem a2 (w : World) (h : Aw w) : Calls Tryz.prog 33 #[.agg #[.float .f32 1065353216, .float .f32 1073741824, .float .f32 1077936128, .float .f32 1082130432]] w fun e w' => ∃ r0 i0 r1 i1 r2 i2 r3 i3, e = .returned (.tuple #[.agg #[.complex .f32 r0 i0, .complex .f32 r1 i1, .complex .f32 r2 i2, .complex .f32 r3 i3], .int .i64 0]) ∧ CxT r0 i0 r1 i1 r2 i2 r3 i3 ∧ Below w.heap.size w w' :=
  (four_ok _ _ _ _ x4 w h.pw x4_bd x4_S (by kernel_rfl)).mono fun e w' ⟨ps, h1, ⟨hl, h2⟩, h3⟩ => by
    match ps, hl with
    | [(r0, i0), (r1, i1), (r2, i2), (r3, i3)], _ =>
      have t0 := h2 0 (by simp); have t1 := h2 1 (by simp); have t2 := h2 2 (by simp); have t3 := h2 3 (by simp)
      rw [show PaN x4 4 0 0 = (160, 0) by kernel_rfl] at t0
      rw [show PaN x4 4 0 1 = (-32, 32) by kernel_rfl] at t1
      rw [show PaN x4 4 0 2 = (-32, 0) by kernel_rfl] at t2
      rw [show PaN x4 4 0 3 = (-32, -32) by kernel_rfl] at t3
      exact ⟨r0, i0, r1, i1, r2, i2, r3, i3, h1, ⟨t0.1, t0.2, t1.1, t1.2, t2.1, t2.2, t3.1, t3.2⟩, h3⟩
structure FlT (y0 y1 y2 y3 : Nat) : Prop where
  a0 : S y0 16
  a1 : S y1 32
  a2 : S y2 48
  a3 : S y3 64
theorem a3 (r0 i0 r1 i1 r2 i2 r3 i3 : Nat) (w : World) (h : Aw w) (hc : CxT r0 i0 r1 i1 r2 i2 r3 i3) : Calls Tryz.prog 34 #[.agg #[.complex .f32 r0 i0, .complex .f32 r1 i1, .complex .f32 r2 i2, .complex .f32 r3 i3]] w fun e w' => ∃ y0 y1 y2 y3, e = .returned (.tuple #[.agg #[.float .f32 y0, .float .f32 y1, .float .f32 y2, .float .f32 y3], .int .i64 0]) ∧ FlT y0 y1 y2 y3 ∧ Below w.heap.size w w' :=
  (unfour_ok r0 i0 r1 i1 r2 i2 r3 i3 x4 w h.pw x4_bd (by
    intro j hj
    match j, hj with
    | 0, _ => rw [show fourP x4 0 4 = (160, 0) by kernel_rfl]; exact ⟨hc.a0, hc.b0⟩
    | 1, _ => rw [show fourP x4 1 4 = (-32, 32) by kernel_rfl]; exact ⟨hc.a1, hc.b1⟩
    | 2, _ => rw [show fourP x4 2 4 = (-32, 0) by kernel_rfl]; exact ⟨hc.a2, hc.b2⟩
    | 3, _ => rw [show fourP x4 3 4 = (-32, -32) by kernel_rfl]; exact ⟨hc.a3, hc.b3⟩)).mono fun e w' ⟨ys, h1, ⟨hl, h2⟩, h3⟩ => by
    match ys, hl with
    | [y0, y1, y2, y3], _ =>
      have t0 := h2 0 (by simp); have t1 := h2 1 (by simp); have t2 := h2 2 (by simp); have t3 := h2 3 (by simp)
      exact ⟨y0, y1, y2, y3, h1, ⟨t0, t1, t2, t3⟩, h3⟩
theorem k0_bytes : ∀ j (h : j < 8), isByte (([0, 0, 0, 0, 0, 0, 0, 0] : List Int)[j]) := by
  intro j h
  have : ∀ x ∈ ([0, 0, 0, 0, 0, 0, 0, 0] : List Int), isByte x := by simp [isByte]
  exact this _ (List.getElem_mem _)
theorem a4 (g : Nat) (w : World) (h : Row w g 5 [.int .u8 5, .int .u8 1]) : Calls Tryz.prog 24 #[.agg #[.int .u8 0, .int .u8 0, .int .u8 0, .int .u8 0, .int .u8 0, .int .u8 0, .int .u8 0, .int .u8 0], .slice (some ⟨g, 0, none⟩) 2 2] w fun e w' => e = .returned (.tuple #[.agg #[.int .u8 76, .int .u8 230, .int .u8 188, .int .u8 206, .int .u8 28, .int .u8 166, .int .u8 108, .int .u8 110], .int .i64 0]) ∧ Below w.heap.size w w' :=
  (seal_any 0 0 0 0 0 0 0 0 _ 2 2 [5, 1] w (Rd.row h) rfl (by decide) k0_bytes).mono fun e w' ⟨h1, h2⟩ => ⟨by rw [h1, show sealL [0, 0, 0, 0, 0, 0, 0, 0] [5, 1] = [76, 230, 188, 206, 28, 166, 108, 110] from v_seal]; rfl, h2⟩
theorem a5 (w : World) : Calls Tryz.prog 19 #[.agg #[.int .u8 0, .int .u8 0, .int .u8 0, .int .u8 0, .int .u8 0, .int .u8 0, .int .u8 0, .int .u8 0], .agg #[.int .i64 3, .int .i64 258, .int .i64 2, .float .f32 1065353216, .float .f32 3204448256, .float .f32 0, .float .f32 0, .float .f32 0, .float .f32 0, .float .f32 0, .float .f32 0]] w fun e w' => ∃ fs : List Value, e = .returned (.tuple #[.agg fs.toArray, .int .i64 0]) ∧ Hid (fs = u8s encAll) ∧ Below w.heap.size w w' :=
  (encode_ok 0 0 0 0 0 0 0 0 3 258 2 _ _ _ _ _ _ _ _ w v_pk v_samp (by decide) (by decide) (by decide) k0_bytes).mono fun e w' ⟨h1, h2⟩ => ⟨_, h1, by unfold Hid; rw [show encB [0, 0, 0, 0, 0, 0, 0, 0] 3 258 2 [1065353216, 3204448256, 0, 0, 0, 0, 0, 0] = encAll from v_encAll], h2⟩
theorem app_inB : ([.int .u8 1, .int .u8 7] : List Value) ++ u8s encAll = byts inB := by kernel_rfl
theorem one_slice {w : World} {B : Nat} {e : TypeId} {s n : Nat} {v : Value} {xs : List Value} (h : w.ownsRow B e s v n xs) (hn : 0 < n) : ∃ g c, v = .slice (some ⟨g, 0, none⟩) n c ∧ Rd w (some ⟨g, 0, none⟩) xs := by
  obtain ⟨g, c, rfl, -, -⟩ := ownsRow.addr h hn
  exact ⟨g, c, rfl, owned_rd h⟩
def pk1 : List Value := [.int .i64 3, .int .i64 258, .int .i64 2, .float .f32 1065353216, .float .f32 3204448256, .float .f32 0, .float .f32 0, .float .f32 0, .float .f32 0, .float .f32 0, .float .f32 0]
theorem a6 (A : Option Addr) (c : Nat) (w : World) (hA : Rd w A (byts inB)) (hc : 31 ≤ c) : Calls Tryz.prog 21 #[.agg #[.int .u8 0, .int .u8 0, .int .u8 0, .int .u8 0, .int .u8 0, .int .u8 0, .int .u8 0, .int .u8 0], .slice A 31 c] w fun e w' => ∃ g c1 g2 c2, e = .returned (.tuple #[.slice (some ⟨g, 0, none⟩) 1 c1, .slice (some ⟨g2, 0, none⟩) 1 c2, .int .i64 0]) ∧ Rd w' (some ⟨g, 0, none⟩) pk1 ∧ Rd w' (some ⟨g2, 0, none⟩) (spanC [(0, 2)]) ∧ Below w.heap.size w w' :=
  (received_ok 0 0 0 0 0 0 0 0 A 31 c inB w hA rfl hc (by decide) k0_bytes).mono fun e w' ⟨v, u, h1, h2, h3, h4⟩ => by
    rw [show recvL [0, 0, 0, 0, 0, 0, 0, 0] inB = ([pk1], [(0, 2)]) from v_recv] at h2 h3
    obtain ⟨g, c1, rfl, k1⟩ := one_slice h2 (by decide)
    obtain ⟨g2, c2, rfl, k2⟩ := one_slice h3 (by decide)
    exact ⟨g, c1, g2, c2, h1, k1, k2, h4⟩
def pk2 : PkT := (3, 1, 2, [1065353216, 1073741824, 0, 0, 0, 0, 0, 0])
theorem a7 (A : Option Addr) (c : Nat) (w : World) (hA : Rd w A (pkV pk2)) : Calls Tryz.prog 23 #[.slice A 1 c, .int .i64 3, .int .i64 10] w fun e w' => ∃ g g3 c3, e = .returned (.tuple #[.slice (some ⟨g, 0, none⟩) 10 10, .slice (some ⟨g3, 0, none⟩) 1 c3, .int .i64 0]) ∧ Rd w' (some ⟨g, 0, none⟩) (flts [0, 0, 0, 0, 0, 0, 0, 0, 1065353216, 1073741824]) ∧ Rd w' (some ⟨g3, 0, none⟩) (spanC [(0, 8)]) ∧ Below w.heap.size w w' :=
  (assembled_ok A 1 c [pk2] 3 10 w (by simpa [pksC] using hA) (by intro p hp; simp at hp; subst hp; rfl) rfl v_asmE).mono fun e w' ⟨gS, v, h1, h2, h3, _, h4⟩ => by
    have e1 : asmL 3 ((10 : Nat) : Int) [pk2] = _ := v_asm
    rw [e1] at h2 h3
    rw [show gapsL ([0, 0, 0, 0, 0, 0, 0, 0, 1065353216, 1073741824], [false, false, false, false, false, false, false, false, true, true]).2 = [(0, 8)] from v_gap] at h3
    obtain ⟨g3, c3, rfl, k3⟩ := one_slice h3 (by decide)
    exact ⟨gS, g3, c3, h1, Rd.row h2, k3, h4⟩
theorem S_same {x y : Nat} {n : Int} (h : S x n) (k : S y n) : (FloatKind.f32.format.order x y == some .eq) = true := by
  show (Ieee.single.order x y == some Ordering.eq) = true
  rw [order_eq_iff h k]; simp
theorem S_of {x : Nat} {n : Int} (h : V32 x = some (n * (2 ^ 145 : Nat))) : S x n := V32_some h
theorem c10 : S 1092616192 160 := S_of (by kernel_rfl)
theorem cm2 : S 3221225472 (-32) := S_of (by kernel_rfl)
theorem cp2 : S 1073741824 32 := S_of (by kernel_rfl)
theorem cp1 : S 1065353216 16 := S_of (by kernel_rfl)
theorem cp3 : S 1077936128 48 := S_of (by kernel_rfl)
theorem cp4 : S 1082130432 64 := S_of (by kernel_rfl)
theorem neqB {r0 i0 r1 i1 r2 i2 r3 i3 : Nat} (h : CxT r0 i0 r1 i1 r2 i2 r3 i3) (w : World) : (binOp .neq 96 (.agg #[.complex .f32 r0 i0, .complex .f32 r1 i1, .complex .f32 r2 i2, .complex .f32 r3 i3]) (.agg #[.complex .f32 1092616192 0, .complex .f32 3221225472 1073741824, .complex .f32 3221225472 0, .complex .f32 3221225472 3221225472])).run Tryz.prog w = .ok (.bool false) w := by
  have hall : all2 cEq (cxs [(r0, i0), (r1, i1), (r2, i2), (r3, i3)]) (cxs [(1092616192, 0), (3221225472, 1073741824), (3221225472, 0), (3221225472, 3221225472)]) = true := by
    refine all2_cEq _ _ rfl (fun j h1 h2 => ?_)
    match j, h1 with
    | 0, _ => exact ⟨160, 0, h.a0, c10, h.b0, S.zero⟩
    | 1, _ => exact ⟨-32, 32, h.a1, cm2, h.b1, cp2⟩
    | 2, _ => exact ⟨-32, 0, h.a2, cm2, h.b2, S.zero⟩
    | 3, _ => exact ⟨-32, -32, h.a3, cm2, h.b3, cm2⟩
  have := neqCx _ _ rfl rfl hall w
  simp only [cxs, List.map_cons, List.map_nil] at this
  exact this
theorem sameF4 {y0 y1 y2 y3 : Nat} (h : FlT y0 y1 y2 y3) : sameF [y0, y1, y2, y3] [1065353216, 1073741824, 1077936128, 1082130432] = true := by
  simp only [sameF, S_same h.a0 cp1, S_same h.a1 cp2, S_same h.a2 cp3, S_same h.a3 cp4, Bool.and_true]
theorem neqF4 {y0 y1 y2 y3 : Nat} (h : FlT y0 y1 y2 y3) (w : World) : (binOp .neq 99 (.agg #[.float .f32 y0, .float .f32 y1, .float .f32 y2, .float .f32 y3]) (.agg #[.float .f32 1065353216, .float .f32 1073741824, .float .f32 1077936128, .float .f32 1082130432])).run Tryz.prog w = .ok (.bool false) w := by
  have hE := eqFloats 9998 99 4 Tryz.underlying99 [y0, y1, y2, y3] [1065353216, 1073741824, 1077936128, 1082130432] rfl rfl w
  rw [sameF4 h] at hE
  simp only [flts, List.map_cons, List.map_nil] at hE
  have h2 : (Op.equal 99 (.agg #[.float .f32 y0, .float .f32 y1, .float .f32 y2, .float .f32 y3]) (.agg #[.float .f32 1065353216, .float .f32 1073741824, .float .f32 1077936128, .float .f32 1082130432])).run Tryz.prog w = .ok true w := hE
  simp only [binOp]
  simp [h2]
theorem below_dn (B : Nat) (w : World) (q : Nat) : Below B w (w.drewN q) := below_row (Below.refl B w) q
theorem s20 (A B : Option Addr) (c d : Nat) (xs : List Int) (w : World) (hA : Rd w A (ints xs)) (hB : Rd w B (ints xs)) (hm : xs.length ≤ 1000) :
    Calls Tryz.prog 35 #[.slice A xs.length c, .slice B xs.length d] w fun e w' => e = .returned (.bool true) ∧ Below w.heap.size w w' :=
  (sameInts_any A B _ _ c d xs xs w hA hB rfl rfl (by omega) (by omega)).mono fun e w' ⟨h1, q, h2⟩ => ⟨by rw [h1, decide_eq_true rfl], by rw [h2]; exact below_dn _ _ _⟩
theorem s42 (A B : Option Addr) (c d : Nat) (xs : List (Int × Int)) (w : World) (hA : Rd w A (spanC xs)) (hB : Rd w B (spanC xs)) (hm : xs.length ≤ 1000) (hs : sameSp xs xs = true) :
    Calls Tryz.prog 22 #[.slice A xs.length c, .slice B xs.length d] w fun e w' => e = .returned (.bool true) ∧ Below w.heap.size w w' :=
  (sameSpans_any A B _ _ c d xs xs w hA hB rfl rfl (by omega)).mono fun e w' ⟨h1, q, h2⟩ => ⟨by rw [h1, hs], by rw [h2]; exact below_dn _ _ _⟩
theorem s50 (A B : Option Addr) (n c d : Nat) (xs ys : List Nat) (w : World) (hA : Rd w A (flts xs)) (hB : Rd w B (flts ys)) (hn : n = xs.length) (hn2 : n = ys.length) (hm : xs.length ≤ 5000) (hs : sameF xs ys = true) :
    Calls Tryz.prog 29 #[.slice A n c, .slice B n d] w fun e w' => e = .returned (.bool true) ∧ Below w.heap.size w w' :=
  (sameSamples_any A B n n c d xs ys w hA hB hn hn2 (by omega)).mono fun e w' ⟨h1, q, h2⟩ => ⟨by rw [h1, hs], by rw [h2]; exact below_dn _ _ _⟩
theorem s72 (A B : Option Addr) (n c d : Nat) (xs : List ByteArray) (w : World) (hA : Rd w A (strs xs)) (hB : Rd w B (strs xs)) (hn : n = xs.length) (hm : xs.length ≤ 5000) (hs : sameW xs xs = true) :
    Calls Tryz.prog 28 #[.slice A n c, .slice B n d] w fun e w' => e = .returned (.bool true) ∧ Below w.heap.size w w' :=
  (sameWords_any A B n n c d xs xs w hA hB hn hn (by omega)).mono fun e w' ⟨h1, q, h2⟩ => ⟨by rw [h1, hs], by rw [h2]; exact below_dn _ _ _⟩
def iEq : Value → Value → Bool
  | .int .u8 a, .int .u8 b => a == b
  | _, _ => false
theorem all2_iEq : ∀ xs : List Int, all2 iEq (u8s xs) (u8s xs) = true
  | [] => rfl
  | x :: xs => by
    have := all2_iEq xs
    simp only [u8s, List.map_cons, all2, iEq] at this ⊢
    rw [this]; simp
theorem isAggU (w : World) : (isAgg 5).run Tryz.prog w = .ok false w := by kernel_rfl
theorem eqIntU (d : Nat) (a b : Int) (w : World) : (Op.equalIn (d + 1) 5 (.int .u8 a) (.int .u8 b)).run Tryz.prog w = .ok (a == b) w := by
  simp [Op.equalIn, run_underlying Tryz.underlying5]
theorem neqU8 (t : TypeId) (n : Nat) (hu : Tryz.prog.underlying t = some (.array n 5)) (xs : List Int) (hx : xs.length = n) (w : World) :
    (Op.equal t (.agg (u8s xs).toArray) (.agg (u8s xs).toArray)).run Tryz.prog w = .ok true w := by
  obtain ⟨i, hi, _⟩ := info_parts info5
  have := run_eqArray (P := Tryz.prog) w 9999 t 5 n i iEq (u8s xs) (u8s xs) hu hi (by kernel_rfl) (part_scalar w _ isAggU) ?_ (by simpa [u8s] using hx) (by simpa [u8s] using hx)
  · rw [all2_iEq] at this; exact this
  intro j hj
  have hj2 : j < xs.length := by simpa [u8s] using hj
  rw [show (u8s xs).getD j undef = .int .u8 xs[j] by simp [u8s, hj2], eqIntU]; rfl
theorem neqK (w : World) : (binOp .neq 46 (.agg #[.int .u8 76, .int .u8 230, .int .u8 188, .int .u8 206, .int .u8 28, .int .u8 166, .int .u8 108, .int .u8 110]) (.agg #[.int .u8 76, .int .u8 230, .int .u8 188, .int .u8 206, .int .u8 28, .int .u8 166, .int .u8 108, .int .u8 110])).run Tryz.prog w = .ok (.bool false) w := by
  have h2 := neqU8 46 8 (by kernel_rfl) [76, 230, 188, 206, 28, 166, 108, 110] rfl w
  simp only [u8s, List.map_cons, List.map_nil] at h2
  simp only [binOp]
  simp [h2]
theorem neqT (w : World) : (binOp .neq 103 (.agg #[.int .u8 201, .int .u8 3, .int .u8 1, .int .u8 2, .int .u8 2, .int .u8 0, .int .u8 16, .int .u8 255, .int .u8 248, .int .u8 0]) (.agg #[.int .u8 201, .int .u8 3, .int .u8 1, .int .u8 2, .int .u8 2, .int .u8 0, .int .u8 16, .int .u8 255, .int .u8 248, .int .u8 0])).run Tryz.prog w = .ok (.bool false) w := by
  have h2 := neqU8 103 10 (by kernel_rfl) [201, 3, 1, 2, 2, 0, 16, 255, 248, 0] rfl w
  simp only [u8s, List.map_cons, List.map_nil] at h2
  simp only [binOp]
  simp [h2]
theorem b_cut (g1 g2 f t : Nat) (tk : Int) (X : List Nat) (M : List (Int × ByteArray)) (w : World) (h1 : Row w g1 56 (flts tapeX)) (h2 : Row w g2 117 (markC tapeM)) (hft : f < t) (ht : t ≤ 4) (htk : tickI 100 10 f = tk) (htk2 : tk ≤ 100000000) (hX : (tapeX.drop f).take (t - f) = X) (hM : cutM f t tapeM = M) :
    Calls Tryz.prog 37 #[.agg #[.int .i64 100, .int .i64 10, .slice (some ⟨g1, 0, none⟩) 4 4, .slice (some ⟨g2, 0, none⟩) 2 2], .agg #[.int .i64 f, .int .i64 t]] w fun e w' => ∃ g c g', e = .returned (.tuple #[.agg #[.int .i64 tk, .int .i64 10, .slice (some ⟨g, 0, none⟩) (t - f) c, .slice (some ⟨g', 0, none⟩) M.length M.length], .int .i64 0]) ∧ Rd w' (some ⟨g, 0, none⟩) (flts X) ∧ Row w' g' 117 (markC M) ∧ Below w.heap.size w w' :=
  (cut_ok 100 10 _ _ 4 4 2 2 tapeX tapeM f t w (Rd.row h1) (Rd.row h2) rfl rfl (by decide) (by decide) (by decide) (by intro h; cases h) v_tape (by omega) (by simpa [tapeX] using ht) (by rw [htk]; exact htk2)).mono fun e w' ⟨v, g', k1, k2, k3, _, k4⟩ => by
    rw [hX] at k2; rw [hM] at k1 k3; rw [htk] at k1
    obtain ⟨g, c, rfl, k5⟩ := one_slice k2 (by omega)
    exact ⟨g, c, g', k1, k5, k3, k4⟩
theorem b_join (g1 g2 g3 g4 c1 c3 : Nat) (w : World) (h1 : Rd w (some ⟨g1, 0, none⟩) (flts [1065353216, 1073741824])) (h2 : Rd w (some ⟨g2, 0, none⟩) (markC [(1, ⟨#[111, 117, 116, 101, 114]⟩)])) (h3 : Rd w (some ⟨g3, 0, none⟩) (flts [1077936128, 1082130432])) (h4 : Rd w (some ⟨g4, 0, none⟩) (markC [(1, ⟨#[105, 110, 110, 101, 114]⟩)])) :
    Calls Tryz.prog 39 #[.agg #[.int .i64 100, .int .i64 10, .slice (some ⟨g1, 0, none⟩) 2 c1, .slice (some ⟨g2, 0, none⟩) 1 1], .agg #[.int .i64 120, .int .i64 10, .slice (some ⟨g3, 0, none⟩) 2 c3, .slice (some ⟨g4, 0, none⟩) 1 1]] w fun e w' => ∃ g g' c', e = .returned (.tuple #[.agg #[.int .i64 100, .int .i64 10, .slice (some ⟨g, 0, none⟩) 4 4, .slice (some ⟨g', 0, none⟩) 2 c'], .int .i64 0]) ∧ Rd w' (some ⟨g, 0, none⟩) (flts tapeX) ∧ Rd w' (some ⟨g', 0, none⟩) (markC tapeM) ∧ Below w.heap.size w w' :=
  (joined_ok 100 10 _ _ _ _ 2 c1 1 1 2 c3 1 1 [1065353216, 1073741824] [1077936128, 1082130432] [(1, ⟨#[111, 117, 116, 101, 114]⟩)] [(1, ⟨#[105, 110, 110, 101, 114]⟩)] 120 w h1 h2 h3 h4 rfl rfl rfl rfl (by kernel_rfl) (by kernel_rfl) (by kernel_rfl) (by decide) (by decide)).mono fun e w' ⟨g, v, k1, k2, k3, _, k4⟩ => by
    obtain ⟨g', c', rfl, k5⟩ := one_slice k3 (by decide)
    have e1 : [((1 : Int), (⟨#[111, 117, 116, 101, 114]⟩ : ByteArray))].map (shiftM 0) ++ [((1 : Int), (⟨#[105, 110, 110, 101, 114]⟩ : ByteArray))].map (shiftM ((2 : Nat) : Int)) = tapeM := by kernel_rfl
    have k6 : Rd w' (some ⟨g', 0, none⟩) (markC tapeM) := by rw [← e1]; exact k5
    exact ⟨g, g', c', k1, Rd.row k2, k6, k4⟩
theorem b_made (A : Option Addr) (c : Nat) (l : List Int) (w : World) (hA : Rd w A (ints l)) (h5 : l.length = 5) (hb : ∀ x ∈ l, x.natAbs < 2 ^ 20) : Calls Tryz.prog 41 #[.slice A 5 c] w fun e w' => ∃ g c', e = .returned (.slice (some ⟨g, 0, none⟩) 5 c') ∧ Rd w' (some ⟨g, 0, none⟩) (flts (l.map fb)) ∧ Below w.heap.size w w' :=
  (made_any A 5 c l w hA h5.symm (by omega) hb).mono fun e w' ⟨v, k1, k2, k3⟩ => by
    rw [h5] at k2
    obtain ⟨g, c', rfl, k4⟩ := one_slice k2 (by decide)
    exact ⟨g, c', k1, k4, k3⟩
theorem fb0 : fb 0 = 0 := by kernel_rfl
theorem fb16 : fb 16 = 1065353216 := by kernel_rfl
theorem b_al (A B : Option Addr) (c d : Nat) (w : World) (hA : Rd w A (flts ([0, 0, 16, 0, 0].map fb))) (hB : Rd w B (flts ([0, 0, 0, 16, 0].map fb))) : Calls Tryz.prog 40 #[.slice A 5 c, .slice B 5 d, .int .i64 2, .int .i64 3] w fun e w' => e = .returned (.tuple #[.int .i64 1, .agg #[.int .i64 0, .int .i64 1], .int .i64 0]) ∧ Below w.heap.size w w' :=
  (aligned_any A B c d _ _ 5 5 2 3 w hA hB rfl rfl (by decide) (by decide) (by kernel_rfl) (by kernel_rfl) (by
    intro x hx
    simp only [List.map_cons, List.map_nil, fb0, fb16, List.mem_cons, List.not_mem_nil, or_false] at hx
    rcases hx with rfl | rfl | rfl | rfl | rfl <;> kernel_rfl) (by
    intro x hx
    simp only [List.map_cons, List.map_nil, fb0, fb16, List.mem_cons, List.not_mem_nil, or_false] at hx
    rcases hx with rfl | rfl | rfl | rfl | rfl <;> kernel_rfl) (by decide) (by decide)).mono fun e w' ⟨k1, k2⟩ => ⟨by rw [k1, v_al]; rfl, k2⟩
theorem b_key (s : ByteArray) (d n : Nat) (X : List Nat) (w : World) (h : Aw w) (hd : 1 ≤ d) (hd2 : d ≤ 16) (hw : wordI s.data.toList = 0) (hX : keyedL d s.data.toList = X) (hn : X.length = n) (h0 : 0 < n) : Calls Tryz.prog 25 #[.string s, .int .i64 d] w fun e w' => ∃ g c, e = .returned (.tuple #[.slice (some ⟨g, 0, none⟩) n c, .int .i64 0]) ∧ Rd w' (some ⟨g, 0, none⟩) (flts X) ∧ Below w.heap.size w w' :=
  (keyed_ok s d w h.tz hd hd2 hw).mono fun e w' ⟨v, k1, k2, k3⟩ => by
    rw [hX, hn] at k2
    obtain ⟨g, c, rfl, k4⟩ := one_slice k2 h0
    exact ⟨g, c, k1, k4, k3⟩
def xH : List Nat := [1065353216, 0, 1065353216, 1065353216, 1065353216, 0, 0, 0, 1065353216]
theorem b_heard (A : Option Addr) (c : Nat) (w : World) (h : Aw w) (hA : Rd w A (flts xH)) : Calls Tryz.prog 26 #[.slice A 9 c, .int .i64 1] w fun e w' => ∃ g c', e = .returned (.tuple #[.slice (some ⟨g, 0, none⟩) 1 c', .int .i64 0]) ∧ Rd w' (some ⟨g, 0, none⟩) (strs [⟨#[68, 65]⟩]) ∧ Below w.heap.size w w' :=
  (heard_ok A 9 c xH 1 w hA rfl (by decide) v_heardS (by decide) h.tz).mono fun e w' hk => by
    rw [show heardL xH 1 = [⟨#[68, 65]⟩] from v_heard] at hk
    obtain ⟨v, hk, k3⟩ := hk
    rw [if_neg (by decide)] at hk
    obtain ⟨k1, k2⟩ := hk
    obtain ⟨g, c', rfl, k4⟩ := one_slice k2 (by decide)
    exact ⟨g, c', k1, k4, k3⟩
theorem packE_byts : u8s (packI [1065353216, 3204448256]) = byts packE := by kernel_rfl
theorem b_pack (A : Option Addr) (c : Nat) (w : World) (hA : Rd w A (flts [1065353216, 3204448256])) : Calls Tryz.prog 42 #[.slice A 2 c] w fun e w' => ∃ g c', e = .returned (.tuple #[.slice (some ⟨g, 0, none⟩) 18 c', .int .i64 0]) ∧ 18 ≤ c' ∧ Rd w' (some ⟨g, 0, none⟩) (byts packE) ∧ Below w.heap.size w w' :=
  (pack_ok A 2 c _ w hA rfl (by decide) (by
    intro x hx
    simp only [List.mem_cons, List.not_mem_nil, or_false] at hx
    rcases hx with rfl | rfl <;> kernel_rfl) v_packS).mono fun e w' ⟨v, k1, k2, k3⟩ => by
    rw [packE_byts, show (packI [1065353216, 3204448256]).length = 18 by kernel_rfl] at k2
    have hc := k2
    obtain ⟨g, c', rfl, k4⟩ := one_slice k2 (by decide)
    exact ⟨g, c', k1, ownsRow.cap hc, k4, k3⟩
theorem b_unpack (A : Option Addr) (c : Nat) (w : World) (hA : Rd w A (byts packE)) (hc : 18 ≤ c) : Calls Tryz.prog 43 #[.slice A 18 c] w fun e w' => ∃ g, e = .returned (.tuple #[.slice (some ⟨g, 0, none⟩) 2 2, .int .i64 0]) ∧ Rd w' (some ⟨g, 0, none⟩) (flts [1065353216, 3204448256]) ∧ Below w.heap.size w w' :=
  (unpack_any A 18 c packE w hA rfl hc (by decide)).mono fun e w' ⟨v, k1, k2, _, k3⟩ => by
    obtain ⟨g, rfl, k4, _⟩ := k2 v_unpE
    rw [v_unpN, v_upX] at k4
    rw [v_unpE, v_unpN] at k1
    exact ⟨g, k1, Rd.row k4, k3⟩
theorem b_print (g1 g2 : Nat) (w : World) (h : Aw w) (h1 : Row w g1 56 (flts tapeX)) (h2 : Row w g2 117 (markC tapeM)) : Calls Tryz.prog 9 #[.agg #[.int .i64 100, .int .i64 10, .slice (some ⟨g1, 0, none⟩) 4 4, .slice (some ⟨g2, 0, none⟩) 2 2]] w fun e w' => e = .returned (.tuple #[.string printS, .int .i64 0]) ∧ Below w.heap.size w w' :=
  (print_ok 100 10 _ _ 4 4 2 2 tapeX tapeM w h.it (Rd.row h1) (Rd.row h2) rfl rfl v_tape).mono fun e w' ⟨k1, k2⟩ => ⟨by rw [k1, v_print, printRes, if_pos (by decide)]; rfl, k2⟩
theorem b_parse (w : World) (h : Aw w) : Calls Tryz.prog 11 #[.string printS] w fun e w' => ∃ A c B d, e = .returned (.tuple #[.agg #[.int .i64 100, .int .i64 10, .slice A 4 c, .slice B 2 d], .int .i64 0, .int .i64 0]) ∧ Rd w' A (flts tapeX) ∧ Rd w' B (markC tapeM) ∧ Below w.heap.size w w' :=
  parse_ok printS w 100 10 tapeX tapeM 6 h.mx v_size v_small v_go v_tape
theorem fieldsM : ((Tryz.prog.fieldsOf 117).toList.map fun f => (f.name, f.type, f.offset)) = [("Index", 3, 0), ("Name", 9, 1)] := by kernel_rfl
theorem eqlMark (a c : Int) (b d : ByteArray) (w : World) : (binOp .eql 117 (.agg #[.int .i64 a, .string b]) (.agg #[.int .i64 c, .string d])).run Tryz.prog w = .ok (.bool (a == c && b.toList == d.toList)) w := by
  have i3 := Tryz.underlying3
  have i9 := Tryz.underlying9
  have e1 : ∀ (a : Int) (b : ByteArray), (part 3 #[.int .i64 a, .string b] 0).run Tryz.prog w = .ok (.int .i64 a) w := fun a b => part_int _ _ _ rfl w
  have e2 : ∀ (a : Int) (b : ByteArray), (part 9 #[.int .i64 a, .string b] 1).run Tryz.prog w = .ok (.string b) w := fun a b => by simp [part, run_underlying i9]
  have e4 := fun (a b : Int) => run_equalIn_int (P := Tryz.prog) w 9998 3 .i64 .i64 a b i3
  have e5 := fun (a b : ByteArray) => run_equalIn_string (P := Tryz.prog) w 9998 9 a b i9
  have n1 : ("Index" : String) ≠ "_" := by decide
  have n2 : ("Name" : String) ≠ "_" := by decide
  rw [run_eql_struct, run_eqStruct w 9999 _ _ _ _ (by kernel_rfl) (by kernel_rfl) fieldsM]
  simp only [eqTriples, if_pos n1, if_pos n2, Sem.run_bind, e1, e2, e4, e5, Result.andThen_ok, Sem.run_ite, Sem.run_pure]
  cases a == c <;> cases b.toList == d.toList <;> simp [e1, e2, e4, e5]
theorem fieldsR : ((Tryz.prog.fieldsOf 110).toList.map fun f => (f.name, f.type, f.offset)) = [("Num", 3, 0), ("Den", 3, 1)] := by kernel_rfl
theorem eqlRatio (a b c d : Int) (w : World) : (binOp .eql 110 (.agg #[.int .i64 a, .int .i64 b]) (.agg #[.int .i64 c, .int .i64 d])).run Tryz.prog w = .ok (.bool (a == c && b == d)) w := by
  have i3 := Tryz.underlying3
  have e1 : ∀ (a b : Int), (part 3 #[.int .i64 a, .int .i64 b] 0).run Tryz.prog w = .ok (.int .i64 a) w := fun a b => part_int _ _ _ rfl w
  have e2 : ∀ (a b : Int), (part 3 #[.int .i64 a, .int .i64 b] 1).run Tryz.prog w = .ok (.int .i64 b) w := fun a b => part_int _ _ _ rfl w
  have e4 := fun (a b : Int) => run_equalIn_int (P := Tryz.prog) w 9998 3 .i64 .i64 a b i3
  have n1 : ("Num" : String) ≠ "_" := by decide
  have n2 : ("Den" : String) ≠ "_" := by decide
  rw [run_eql_struct, run_eqStruct w 9999 _ _ _ _ (by kernel_rfl) (by kernel_rfl) fieldsR]
  simp only [eqTriples, if_pos n1, if_pos n2, Sem.run_bind, e1, e2, e4, Result.andThen_ok, Sem.run_ite, Sem.run_pure]
  cases a == c <;> cases b == d <;> simp [e1, e2, e4]
def AwakeOk : Prop := ∀ w, Aw w → Calls Tryz.prog 8 #[] w fun e w' => e = .returned (.bool true) ∧ Below w.heap.size w w'
def NumP (w : World) (a b : Int) (A B : Option Addr) (xs : List Int) (w' : World) : Prop :=
  Row w' (w.heap.size + 1) 110 [.int .i64 a, .int .i64 b] ∧ Rd w' A (ints xs) ∧ Rd w' B (ints xs) ∧ Aw w' ∧ Below w.heap.size w w'
theorem NumP.keep {w w0 w1 : World} {a b : Int} {A B : Option Addr} {xs : List Int} (h : NumP w a b A B xs w0) (hb : Below w0.heap.size w0 w1) : NumP w a b A B xs w1 :=
  ⟨h.1.old hb, h.2.1.below hb, h.2.2.1.below hb, h.2.2.2.1.old hb, h.2.2.2.2.trans (hb.mono h.2.2.2.2.size)⟩
def shortB (n : Nat) : Bool := decide (n ≤ 40) || decide (n = 4097)
theorem shortList_any (A : Option Addr) (n c : Nat) (w : World) (hn : n ≤ 9223372036854775807) :
    Calls Tryz.prog 31 #[.slice A n c] w fun e w' => e = .returned (.bool (shortB n)) ∧ Below w.heap.size w w' := by
  by_cases h1 : n ≤ 40
  · have HS : Hid (shortB n = true) := by unfold Hid shortB; rw [decide_eq_true h1]; rfl
    go_enter Tryz.func31, Tryz.ntmps31
    go_wp2
    all_goals go_ret
    all_goals exact ⟨by rw [HS.out]; rfl, Below.refl _ _⟩
  · by_cases h2 : n = 4097
    · have HS : Hid (shortB n = true) := by unfold Hid shortB; rw [decide_eq_true h2, Bool.or_true]
      subst h2
      go_enter Tryz.func31, Tryz.ntmps31
      go_wp2
      all_goals go_ret
      all_goals exact ⟨by rw [HS.out]; rfl, Below.refl _ _⟩
    · have HS : Hid (shortB n = false) := by unfold Hid shortB; rw [decide_eq_false h1, decide_eq_false h2]; rfl
      have h3 : decide ((n : Int) ≤ 40) = false := decide_eq_false (by omega)
      have h4 : ((n : Int) == 4097) = false := by rw [beq_eq_false_iff_ne]; omega
      go_enter Tryz.func31, Tryz.ntmps31
      go_wp2
      all_goals go_ret
      all_goals exact ⟨by rw [HS.out]; rfl, Below.refl _ _⟩
def namesB (ms : List (Int × ByteArray)) : Bool := ms.all fun m => decide (m.2.size ≤ 40)
def shortRB (n : Nat) (ms : List (Int × ByteArray)) : Bool := namesB ms && shortB n && (decide (ms.length ≤ 6) || decide (ms.length = 17))
set_option maxRecDepth 100000 in
set_option maxHeartbeats 1000000 in
theorem shortRecording_any (st sp : Int) (A B : Option Addr) (n c m d : Nat) (ms : List (Int × ByteArray)) (w : World) (hB : Rd w B (markC ms)) (hm : m = ms.length) (hx : n ≤ 9223372036854775807) (hmm : ms.length ≤ 9223372036854775807) :
    Calls Tryz.prog 7 #[.agg #[.int .i64 st, .int .i64 sp, .slice A n c, .slice B m d]] w fun e w' => e = .returned (.bool (shortRB n ms)) ∧ Below w.heap.size w w' := by
  subst hm
  have HB : Hid (∀ W, Below w.heap.size w W → Rd W B (markC ms)) := fun W h => hB.below h
  have R0 := Lib.hid (Row.new w 25 [.int .i64 st, .int .i64 sp, .slice A n c, .slice B ms.length d])
  have B0 : Hid (Below w.heap.size w (w.alloc (.cells #[.int .i64 st, .int .i64 sp, .slice A n c, .slice B ms.length d] 25))) := (Below.refl _ _).alloc (Nat.le_refl _) _
  have HSL := Lib.hid (fun W => shortList_any A n c W hx)
  obtain ⟨SB, hSB⟩ : ∃ SB, SB = shortB n := ⟨_, rfl⟩
  rw [← hSB] at HSL
  have HSR : Hid (shortRB n ms = (namesB ms && SB && (decide (ms.length ≤ 6) || decide (ms.length = 17)))) := by unfold Hid shortRB; rw [hSB]
  clear hB hSB
  go_enter Tryz.func7, Tryz.ntmps7
  go_wp2
  go_loopw [3] (fun i wr => ∃ k : Nat, k ≤ ms.length ∧ i = .int .i64 k ∧ Hid (namesB (ms.drop k) = namesB ms) ∧ Hid (Row wr w.heap.size 25 [.int .i64 st, .int .i64 sp, .slice A n c, .slice B ms.length d]) ∧ Hid (Below w.heap.size w wr)) (fun i _ => ms.length - (intOf i).toNat)
  case atStart => exact ⟨0, Nat.zero_le _, rfl, rfl, R0, B0⟩
  case round =>
    clear R0 B0
    obtain ⟨k, hk, rfl, HF, R3, HBW3⟩ := hrel
    have q0 := R3.out.cell 0; have q1 := R3.out.cell 1; have q2 := R3.out.cell 2; have q3 := R3.out.cell 3
    simp only [List.getElem?_cons_succ, List.getElem?_cons_zero] at q0 q1 q2 q3
    by_cases hlt : k < ms.length
    · obtain ⟨b, off, hAb, hc1, hc2⟩ := Rd.mark (HB.out _ HBW3.out) hlt
      subst hAb
      have hd : namesB (ms.drop k) = (decide (ms[k].2.size ≤ 40) && namesB (ms.drop (k + 1))) := by
        unfold namesB; rw [List.drop_eq_getElem_cons hlt, List.all_cons]
      rw [HF.out] at hd
      obtain ⟨nm, hnm⟩ : ∃ nm, nm = ms[k].2 := ⟨_, rfl⟩
      rw [← hnm] at hc2 hd
      have HD := Lib.hid hd
      clear hd hnm HF hc1
      by_cases h40 : nm.size ≤ 40
      · have g1 : decide ((40 : Int) < (nm.size : Int)) = false := decide_eq_false (by omega)
        have HF : Hid (namesB (ms.drop (k + 1)) = namesB ms) := by unfold Hid; rw [HD.out, decide_eq_true h40]; rfl
        clear HD h40
        go_wp2
        go_roundw
        case rel => exact ⟨k + 1, by omega, by go_num, HF, R3, HBW3⟩
        case measure => simp [intOf]; omega
      · have g1 : (40 : Int) < (nm.size : Int) := by omega
        have HF : Hid (shortRB n ms = false) := by unfold Hid; rw [HSR.out, HD.out, decide_eq_false h40]; rfl
        clear HD h40
        go_wp2
        go_ret
        exact ⟨ret_bool HF.out.symm, HBW3.out⟩
    · obtain rfl : k = ms.length := by omega
      have HN : Hid (namesB ms = true) := by unfold Hid; rw [← HF.out, List.drop_of_length_le (Nat.le_refl _)]; rfl
      have HSR2 : Hid (shortRB n ms = (SB && (decide (ms.length ≤ 6) || decide (ms.length = 17)))) := by unfold Hid; rw [HSR.out, HN.out]; rfl
      clear HSR HN HF
      cases SB
      · have HF : Hid (shortRB n ms = false) := HSR2.out
        clear HSR2
        go_wp2_with (go_at_call 31; refine (HSL.out _).mono ?_; rintro e w1 ⟨rfl, hb1⟩; have HB1 := Lib.hid (HBW3.out.trans (hb1.mono HBW3.out.size)); have R4 := Lib.hid (R3.out.old hb1); have p3 := R4.out.cell 3; simp only [List.getElem?_cons_succ, List.getElem?_cons_zero] at p3; clear hb1)
        go_ret
        exact ⟨ret_bool HF.out.symm, HB1.out⟩
      · by_cases h6 : ms.length ≤ 6
        · have HF : Hid (shortRB n ms = true) := by unfold Hid; rw [HSR2.out, decide_eq_true h6]; rfl
          have g1 : (ms.length : Int) ≤ 6 := by omega
          clear HSR2
          go_wp2_with (go_at_call 31; refine (HSL.out _).mono ?_; rintro e w1 ⟨rfl, hb1⟩; have HB1 := Lib.hid (HBW3.out.trans (hb1.mono HBW3.out.size)); have R4 := Lib.hid (R3.out.old hb1); have p3 := R4.out.cell 3; simp only [List.getElem?_cons_succ, List.getElem?_cons_zero] at p3; clear hb1)
          go_ret
          exact ⟨ret_bool HF.out.symm, HB1.out⟩
        · have g1 : decide ((ms.length : Int) ≤ 6) = false := decide_eq_false (by omega)
          obtain ⟨b17, hb17⟩ : ∃ b17, b17 = ((ms.length : Int) == 17) := ⟨_, rfl⟩
          have HF : Hid (shortRB n ms = b17) := by
            unfold Hid; rw [HSR2.out, decide_eq_false h6, hb17]
            by_cases h7 : ms.length = 17
            · rw [decide_eq_true h7, h7]; rfl
            · rw [decide_eq_false h7]; symm; simp only [Bool.false_or, Bool.and_false]; rw [beq_eq_false_iff_ne]; omega
          have g2 : ((ms.length : Int) == 17) = b17 := hb17.symm
          clear HSR2 h6 hb17
          go_wp2_with (go_at_call 31; refine (HSL.out _).mono ?_; rintro e w1 ⟨rfl, hb1⟩; have HB1 := Lib.hid (HBW3.out.trans (hb1.mono HBW3.out.size)); have R4 := Lib.hid (R3.out.old hb1); have p3 := R4.out.cell 3; simp only [List.getElem?_cons_succ, List.getElem?_cons_zero] at p3; clear hb1)
          go_ret
          exact ⟨ret_bool HF.out.symm, HB1.out⟩

theorem ex_row2 {P : Program} {o : Oper} {a : Act} {w : World} (ty : TypeId) (x : Operand) (ho : o.op = .load ty x) (g : Nat) (hx : a.eval x = .pointer (some ⟨g, 0, none⟩)) (t : TypeId) (cs : List Value) (d : TypeDesc)
    (hu : P.underlying ty = some d) (hd : (match d with | .struct _ | .array _ _ => true | _ => false) = true) (hi : (P.info? ty).map (·.size) = some cs.length) (hr : Row w g t cs) : (execOp a.eval o).run P w = .ok (.value (.agg cs.toArray)) w := by
  unfold execOp
  simp only [ho, hx, Instr.loadAt, Instr.sureAddr, Sem.run_bind, Sem.run_pure, Result.andThen_ok, run_loadVar_row w g t ty cs.toArray (0, 0) d hr hu hd (by simpa using hi)]
def RrS (w : World) (A B : Option Addr) (xs : List Nat) (ms : List (Int × ByteArray)) (L0 L1 : List Value) (W : World) : Prop := Row W w.heap.size 25 L0 ∧ Row W (w.heap.size + 1) 70 L1 ∧ Rd W A (flts xs) ∧ Rd W B (markC ms) ∧ Aw W ∧ Below w.heap.size w W
theorem RrS.keep {w W W' : World} {A B : Option Addr} {xs : List Nat} {ms : List (Int × ByteArray)} {L0 L1 : List Value} (h : RrS w A B xs ms L0 L1 W) (hb : Below W.heap.size W W') : RrS w A B xs ms L0 L1 W' :=
  ⟨h.1.old hb, h.2.1.old hb, h.2.2.1.below hb, h.2.2.2.1.below hb, h.2.2.2.2.1.old hb, h.2.2.2.2.2.trans (hb.mono h.2.2.2.2.2.size)⟩
theorem RrS.new {w : World} {A B : Option Addr} {xs : List Nat} {ms : List (Int × ByteArray)} {L0 L1 : List Value} (hA : Rd w A (flts xs)) (hB : Rd w B (markC ms)) (hW : Aw w) : RrS w A B xs ms L0 L1 ((w.alloc (.cells L0.toArray 25)).alloc (.cells L1.toArray 70)) := by
  have hb : Below w.heap.size w ((w.alloc (.cells L0.toArray 25)).alloc (.cells L1.toArray 70)) := ((Below.refl _ _).alloc (Nat.le_refl _) _).alloc (by simp) _
  have r1 := Row.new (w.alloc (.cells L0.toArray 25)) 70 L1
  rw [World.size_alloc] at r1
  exact ⟨(Row.new w 25 L0).alloc _, r1, hA.below hb, hB.below hb, hW.old hb, hb⟩
end Go.Proofs.YtoclnlimnjnbkaaGreatDoor
