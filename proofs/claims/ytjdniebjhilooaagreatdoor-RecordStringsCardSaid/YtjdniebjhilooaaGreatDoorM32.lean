import Derived.Test.YtjdniebjhilooaaGreatDoorM30
import Derived.Test.YtjdniebjhilooaaGreatDoorM31
import Derived.Test.YtjdniebjhilooaaGreatDoorM27
import Derived.Maps.OwnOps
import Derived.Maps.Views
import Derived.Test.YtjdniebjhilooaaGreatDoorM23
namespace Go.Proofs.YtjdniebjhilooaaGreatDoor
set_option linter.all false
open Go.RowKit Go.Fl
set_option maxRecDepth 100000
def k0 : List Int := [0, 0, 0, 0, 0, 0, 0, 0]
theorem v_draw : drawL 0 3 = [1, 0, 2] := by kernel_rfl
theorem v_seal : sealL k0 [5, 1] = [76, 230, 188, 206, 28, 166, 108, 110] := by kernel_rfl
def xF : List Nat := [1065353216, 3204448256, 0, 0, 0, 0, 0, 0]
theorem v_pk : pkI 3 258 2 xF = 0 := by kernel_rfl
theorem v_samp : ∀ x ∈ xF, sampI x = 0 := by
 intro x hx
 simp only [xF, List.mem_cons, List.not_mem_nil, or_false] at hx
 rcases hx with rfl | rfl | rfl | rfl | rfl | rfl | rfl | rfl <;> kernel_rfl
def encAll : List Int := [201, 3, 1, 2, 2, 0, 16, 255, 248, 0, 0, 0, 0, 0, 0, 0, 0, 0, 0, 0, 0, 133, 192, 51, 222, 129, 28, 111, 122]
theorem v_encAll : encB k0 3 258 2 xF = encAll := by kernel_rfl
def inB : List UInt8 := [1, 7, 201, 3, 1, 2, 2, 0, 16, 255, 248, 0, 0, 0, 0, 0, 0, 0, 0, 0, 0, 0, 0, 133, 192, 51, 222, 129, 28, 111, 122]
theorem v_recv : recvL k0 inB = ([[.int .i64 3, .int .i64 258, .int .i64 2, .float .f32 1065353216, .float .f32 3204448256, .float .f32 0, .float .f32 0, .float .f32 0, .float .f32 0, .float .f32 0, .float .f32 0]], [(0, 2)]) := by kernel_rfl
theorem v_asm : asmL 3 10 [(3, 1, 2, [1065353216, 1073741824, 0, 0, 0, 0, 0, 0])] = ([0, 0, 0, 0, 0, 0, 0, 0, 1065353216, 1073741824], [false, false, false, false, false, false, false, false, true, true]) := by kernel_rfl
theorem v_gap : gapsL [false, false, false, false, false, false, false, false, true, true] = [(0, 8)] := by kernel_rfl
theorem v_asmE : asmE [(3, 1, 2, [1065353216, 1073741824, 0, 0, 0, 0, 0, 0])] 3 10 = 0 := by kernel_rfl
theorem v_tape : recI 100 10 tapeX tapeM = 0 := by kernel_rfl
theorem v_al : alignL ([0, 0, 16, 0, 0].map fb |>.map unitI) ([0, 0, 0, 16, 0].map fb |>.map unitI) 2 3 = (0, 1, 1) := by kernel_rfl
theorem v_key1 : keyedL 2 [67] = [1065353216, 1065353216, 0, 0, 1065353216, 1065353216] ++ List.replicate 14 0 := by kernel_rfl
theorem v_key2 : keyedL 1 [65, 66] = [1065353216, 0, 0, 0, 1065353216, 1065353216, 1065353216] ++ List.replicate 7 0 := by kernel_rfl
theorem v_word1 : wordI [67] = 0 := by kernel_rfl
theorem v_word2 : wordI [65, 66] = 0 := by kernel_rfl
theorem v_heard : heardL [1065353216, 0, 1065353216, 1065353216, 1065353216, 0, 0, 0, 1065353216] 1 = [⟨#[68, 65]⟩] := by kernel_rfl
theorem v_heardS : sampsI [1065353216, 0, 1065353216, 1065353216, 1065353216, 0, 0, 0, 1065353216] = 0 := by kernel_rfl
def packE : List UInt8 := [71, 76, 83, 49, 0, 2, 0, 255, 16, 248, 148, 240, 32, 84, 60, 8, 104, 140]
theorem v_unpE : unpE packE = 0 := by kernel_rfl
theorem v_unpN : unpN packE = 2 := by kernel_rfl
theorem v_upX : upX packE 2 = [1065353216, 3204448256] := by kernel_rfl
theorem v_packS : sampsI [1065353216, 3204448256] = 0 := by kernel_rfl
theorem v_name1 : nameL [97, 95, 49] = true := by kernel_rfl
theorem v_name2 : nameL [49, 97] = false := by kernel_rfl
def printT : List UInt8 := [114, 101, 99, 111, 114, 100, 105, 110, 103, 32, 49, 48, 48, 32, 49, 48, 10, 109, 97, 114, 107, 32, 49, 32, 111, 117, 116, 101, 114, 10, 109, 97, 114, 107, 32, 51, 32, 105, 110, 110, 101, 114, 10, 115, 97, 109, 112, 108, 101, 32, 49, 54, 10, 115, 97, 109, 112, 108, 101, 32, 51, 50, 10, 115, 97, 109, 112, 108, 101, 32, 52, 56, 10, 115, 97, 109, 112, 108, 101, 32, 54, 52, 10]
theorem dd1 {i : Nat} (h : i < 10) : Lib.itoa (i : Int) = [UInt8.ofNat (48 + i)] := by rw [Lib.itoa_nonneg, Lib.decDigits_one h]
theorem dd2 {i : Nat} (h1 : ¬ i < 10) (h2 : i < 100) : Lib.itoa (i : Int) = [UInt8.ofNat (48 + i / 10), UInt8.ofNat (48 + i % 10)] := by rw [Lib.itoa_nonneg, Lib.decDigits_two h1 h2]
theorem dd100 : Lib.itoa 100 = [49, 48, 48] := by
 show Lib.itoa ((100 : Nat) : Int) = _
 rw [Lib.itoa_nonneg, Lib.decDigits, dif_neg (by decide), Lib.decDigits_two (by decide) (by decide)]; rfl
def printS : ByteArray := ⟨printT.toArray⟩
theorem v_size : printS.size ≤ 4096 := by decide
theorem v_go : linesGo 0 zeroS (linesL printS) = (6 + 1, true, (100, 10, tapeX, tapeM)) := by kernel_rfl
theorem v_small : ∀ l ∈ linesL printS, smallN (wordsL (textL l)) := by
 have h : (linesL printS).all (fun l => decide ((intV (headW (wordsL (textL l)).tail).data.toList).natAbs < 2 ^ 30)) = true := by kernel_rfl
 rw [List.all_eq_true] at h
 intro l hl
 have := h l hl
 unfold smallN
 exact of_decide_eq_true this
theorem ib2 {i : Nat} (h1 : ¬ i < 10) (h2 : i < 100) : itoaB (i : Int) = ⟨#[UInt8.ofNat (48 + i / 10), UInt8.ofNat (48 + i % 10)]⟩ := by unfold itoaB; rw [dd2 h1 h2]
theorem ib1 {i : Nat} (h1 : i < 10) : itoaB (i : Int) = ⟨#[UInt8.ofNat (48 + i)]⟩ := by unfold itoaB; rw [dd1 h1]
theorem ib100 : itoaB 100 = ⟨#[49, 48, 48]⟩ := by unfold itoaB; rw [dd100]
theorem p0 : numLineB wRec [100, 10] = ⟨#[114, 101, 99, 111, 114, 100, 105, 110, 103, 32, 49, 48, 48, 32, 49, 48, 10]⟩ := by
 unfold numLineB
 rw [List.map_cons, List.map_cons, List.map_nil, ib100, show itoaB 10 = ⟨#[49, 48]⟩ from ib2 (i := 10) (by decide) (by decide)]
 kernel_rfl
theorem p1 : markB (1, ⟨#[111, 117, 116, 101, 114]⟩) = ⟨#[109, 97, 114, 107, 32, 49, 32, 111, 117, 116, 101, 114, 10]⟩ := by
 unfold markB
 rw [show itoaB 1 = ⟨#[49]⟩ from ib1 (i := 1) (by decide)]
 kernel_rfl
theorem p2 : markB (3, ⟨#[105, 110, 110, 101, 114]⟩) = ⟨#[109, 97, 114, 107, 32, 51, 32, 105, 110, 110, 101, 114, 10]⟩ := by
 unfold markB
 rw [show itoaB 3 = ⟨#[51]⟩ from ib1 (i := 3) (by decide)]
 kernel_rfl
theorem p3 : sampB 1065353216 = ⟨#[115, 97, 109, 112, 108, 101, 32, 49, 54, 10]⟩ := by
 unfold sampB numLineB
 rw [show unitI 1065353216 = 16 by kernel_rfl, List.map_cons, List.map_nil, show itoaB 16 = ⟨#[49, 54]⟩ from ib2 (i := 16) (by decide) (by decide)]
 kernel_rfl
theorem p4 : sampB 1073741824 = ⟨#[115, 97, 109, 112, 108, 101, 32, 51, 50, 10]⟩ := by
 unfold sampB numLineB
 rw [show unitI 1073741824 = 32 by kernel_rfl, List.map_cons, List.map_nil, show itoaB 32 = ⟨#[51, 50]⟩ from ib2 (i := 32) (by decide) (by decide)]
 kernel_rfl
theorem p5 : sampB 1077936128 = ⟨#[115, 97, 109, 112, 108, 101, 32, 52, 56, 10]⟩ := by
 unfold sampB numLineB
 rw [show unitI 1077936128 = 48 by kernel_rfl, List.map_cons, List.map_nil, show itoaB 48 = ⟨#[52, 56]⟩ from ib2 (i := 48) (by decide) (by decide)]
 kernel_rfl
theorem p6 : sampB 1082130432 = ⟨#[115, 97, 109, 112, 108, 101, 32, 54, 52, 10]⟩ := by
 unfold sampB numLineB
 rw [show unitI 1082130432 = 64 by kernel_rfl, List.map_cons, List.map_nil, show itoaB 64 = ⟨#[54, 52]⟩ from ib2 (i := 64) (by decide) (by decide)]
 kernel_rfl
theorem v_print : printL 100 10 tapeX tapeM = printT := by
 unfold printL printLs tapeX tapeM
 simp only [List.map_cons, List.map_nil, p0, p1, p2, p3, p4, p5, p6]
 kernel_rfl
structure Aw (w : World) : Prop where
 it : It w
 mx : Mx w
 tz : Tz w
 pw : Pw w
theorem Aw.old {w w' : World} (h : Aw w) (hb : Below w.heap.size w w') : Aw w' := ⟨h.it.old hb, h.mx.old hb, h.tz.old hb, h.pw.old hb⟩
def x4 : List Int := [16, 32, 48, 64]
theorem x4_bd (j : Nat) : (x4.getD j 0).natAbs ≤ 16384 := by
 match j with
 | 0 | 1 | 2 | 3 => decide
 | j + 4 => simp [x4]
theorem x4_S : ∀ j (h : j < [1065353216, 1073741824, 1077936128, 1082130432].length), S [1065353216, 1073741824, 1077936128, 1082130432][j] (x4.getD j 0) := by
 intro j h
 match j, h with
 | 0, _ => exact V32_some (x := 1065353216) (V := 16 * (2 ^ 145 : Nat)) (by kernel_rfl)
 | 1, _ => exact V32_some (x := 1073741824) (V := 32 * (2 ^ 145 : Nat)) (by kernel_rfl)
 | 2, _ => exact V32_some (x := 1077936128) (V := 48 * (2 ^ 145 : Nat)) (by kernel_rfl)
 | 3, _ => exact V32_some (x := 1082130432) (V := 64 * (2 ^ 145 : Nat)) (by kernel_rfl)
theorem a1 (w : World) : Calls Tryz.prog 32 #[.int .i64 0, .int .i64 3] w fun e w' => ∃ g, e = .returned (.tuple #[.slice (some ⟨g, 0, none⟩) 3 3, .int .i64 0]) ∧ Row w' g 3 (ints [1, 0, 2]) ∧ Below w.heap.size w w' :=
 (draw_ok 0 3 w (by decide) (by decide)).mono fun e w' ⟨g, h1, h2, _, h3⟩ => ⟨g, h1, by rw [← v_draw]; exact h2, h3⟩
structure CxT (r0 i0 r1 i1 r2 i2 r3 i3 : Nat) : Prop where
 a0 : S r0 160
 b0 : S i0 0
 a1 : S r1 (-32)
 b1 : S i1 32
 a2 : S r2 (-32)
 b2 : S i2 0
 a3 : S r3 (-32)
 b3 : S i3 (-32)
theorem a2 (w : World) (h : Aw w) : Calls Tryz.prog 33 #[.agg #[.float .f32 1065353216, .float .f32 1073741824, .float .f32 1077936128, .float .f32 1082130432]] w fun e w' => ∃ r0 i0 r1 i1 r2 i2 r3 i3, e = .returned (.tuple #[.agg #[.complex .f32 r0 i0, .complex .f32 r1 i1, .complex .f32 r2 i2, .complex .f32 r3 i3], .int .i64 0]) ∧ CxT r0 i0 r1 i1 r2 i2 r3 i3 ∧ Below w.heap.size w w' :=
 (four_ok _ _ _ _ x4 w h.pw x4_bd x4_S (by kernel_rfl)).mono fun e w' ⟨ps, h1, ⟨hl, h2⟩, h3⟩ => by
   match ps, hl with
   | [(r0, i0), (r1, i1), (r2, i2), (r3, i3)], _ =>
     have t0 := h2 0 (by simp); have t1 := h2 1 (by simp); have t2 := h2 2 (by simp); have t3 := h2 3 (by simp)
     rw [show PaN x4 4 0 0 = (160, 0) by kernel_rfl] at t0
     rw [show PaN x4 4 0 1 = (-32, 32) by kernel_rfl] at t1
     rw [show PaN x4 4 0 2 = (-32, 0) by kernel_rfl] at t2
     rw [show PaN x4 4 0 3 = (-32, -32) by kernel_rfl] at t3
     exact ⟨r0, i0, r1, i1, r2, i2, r3, i3, h1, ⟨t0.1, t0.2, t1.1, t1.2, t2.1, t2.2, t3.1, t3.2⟩, h3⟩
structure FlT (y0 y1 y2 y3 : Nat) : Prop where
 a0 : S y0 16
 a1 : S y1 32
 a2 : S y2 48
 a3 : S y3 64
theorem a3 (r0 i0 r1 i1 r2 i2 r3 i3 : Nat) (w : World) (h : Aw w) (hc : CxT r0 i0 r1 i1 r2 i2 r3 i3) : Calls Tryz.prog 34 #[.agg #[.complex .f32 r0 i0, .complex .f32 r1 i1, .complex .f32 r2 i2, .complex .f32 r3 i3]] w fun e w' => ∃ y0 y1 y2 y3, e = .returned (.tuple #[.agg #[.float .f32 y0, .float .f32 y1, .float .f32 y2, .float .f32 y3], .int .i64 0]) ∧ FlT y0 y1 y2 y3 ∧ Below w.heap.size w w' :=
 (unfour_ok r0 i0 r1 i1 r2 i2 r3 i3 x4 w h.pw x4_bd (by
   intro j hj
   match j, hj with
   | 0, _ => rw [show fourP x4 0 4 = (160, 0) by kernel_rfl]; exact ⟨hc.a0, hc.b0⟩
   | 1, _ => rw [show fourP x4 1 4 = (-32, 32) by kernel_rfl]; exact ⟨hc.a1, hc.b1⟩
   | 2, _ => rw [show fourP x4 2 4 = (-32, 0) by kernel_rfl]; exact ⟨hc.a2, hc.b2⟩
   | 3, _ => rw [show fourP x4 3 4 = (-32, -32) by kernel_rfl]; exact ⟨hc.a3, hc.b3⟩)).mono fun e w' ⟨ys, h1, ⟨hl, h2⟩, h3⟩ => by
   match ys, hl with
   | [y0, y1, y2, y3], _ =>
     have t0 := h2 0 (by simp); have t1 := h2 1 (by simp); have t2 := h2 2 (by simp); have t3 := h2 3 (by simp)
     exact ⟨y0, y1, y2, y3, h1, ⟨t0, t1, t2, t3⟩, h3⟩
theorem k0_bytes : ∀ j (h : j < 8), isByte (([0, 0, 0, 0, 0, 0, 0, 0] : List Int)[j]) := by
 intro j h
 have : ∀ x ∈ ([0, 0, 0, 0, 0, 0, 0, 0] : List Int), isByte x := by simp [isByte]
 exact this _ (List.getElem_mem _)
theorem a4 (g : Nat) (w : World) (h : Row w g 5 [.int .u8 5, .int .u8 1]) : Calls Tryz.prog 24 #[.agg #[.int .u8 0, .int .u8 0, .int .u8 0, .int .u8 0, .int .u8 0, .int .u8 0, .int .u8 0, .int .u8 0], .slice (some ⟨g, 0, none⟩) 2 2] w fun e w' => e = .returned (.tuple #[.agg #[.int .u8 76, .int .u8 230, .int .u8 188, .int .u8 206, .int .u8 28, .int .u8 166, .int .u8 108, .int .u8 110], .int .i64 0]) ∧ Below w.heap.size w w' :=
 (seal_any 0 0 0 0 0 0 0 0 _ 2 2 [5, 1] w (Rd.row h) rfl (by decide) k0_bytes).mono fun e w' ⟨h1, h2⟩ => ⟨by rw [h1, show sealL [0, 0, 0, 0, 0, 0, 0, 0] [5, 1] = [76, 230, 188, 206, 28, 166, 108, 110] from v_seal]; rfl, h2⟩
theorem a5 (w : World) : Calls Tryz.prog 19 #[.agg #[.int .u8 0, .int .u8 0, .int .u8 0, .int .u8 0, .int .u8 0, .int .u8 0, .int .u8 0, .int .u8 0], .agg #[.int .i64 3, .int .i64 258, .int .i64 2, .float .f32 1065353216, .float .f32 3204448256, .float .f32 0, .float .f32 0, .float .f32 0, .float .f32 0, .float .f32 0, .float .f32 0]] w fun e w' => ∃ fs : List Value, e = .returned (.tuple #[.agg fs.toArray, .int .i64 0]) ∧ Hid (fs = u8s encAll) ∧ Below w.heap.size w w' :=
 (encode_ok 0 0 0 0 0 0 0 0 3 258 2 _ _ _ _ _ _ _ _ w v_pk v_samp (by decide) (by decide) (by decide) k0_bytes).mono fun e w' ⟨h1, h2⟩ => ⟨_, h1, by unfold Hid; rw [show encB [0, 0, 0, 0, 0, 0, 0, 0] 3 258 2 [1065353216, 3204448256, 0, 0, 0, 0, 0, 0] = encAll from v_encAll], h2⟩
theorem app_inB : ([.int .u8 1, .int .u8 7] : List Value) ++ u8s encAll = byts inB := by kernel_rfl
theorem one_slice {w : World} {B : Nat} {e : TypeId} {s n : Nat} {v : Value} {xs : List Value} (h : w.ownsRow B e s v n xs) (hn : 0 < n) : ∃ g c, v = .slice (some ⟨g, 0, none⟩) n c ∧ Rd w (some ⟨g, 0, none⟩) xs := by
 obtain ⟨g, c, rfl, -, -⟩ := ownsRow.addr h hn
 exact ⟨g, c, rfl, owned_rd h⟩
def pk1 : List Value := [.int .i64 3, .int .i64 258, .int .i64 2, .float .f32 1065353216, .float .f32 3204448256, .float .f32 0, .float .f32 0, .float .f32 0, .float .f32 0, .float .f32 0, .float .f32 0]
theorem a6 (A : Option Addr) (c : Nat) (w : World) (hA : Rd w A (byts inB)) (hc : 31 ≤ c) : Calls Tryz.prog 21 #[.agg #[.int .u8 0, .int .u8 0, .int .u8 0, .int .u8 0, .int .u8 0, .int .u8 0, .int .u8 0, .int .u8 0], .slice A 31 c] w fun e w' => ∃ g c1 g2 c2, e = .returned (.tuple #[.slice (some ⟨g, 0, none⟩) 1 c1, .slice (some ⟨g2, 0, none⟩) 1 c2, .int .i64 0]) ∧ Rd w' (some ⟨g, 0, none⟩) pk1 ∧ Rd w' (some ⟨g2, 0, none⟩) (spanC [(0, 2)]) ∧ Below w.heap.size w w' :=
 (received_ok 0 0 0 0 0 0 0 0 A 31 c inB w hA rfl hc (by decide) k0_bytes).mono fun e w' ⟨v, u, h1, h2, h3, h4⟩ => by
   rw [show recvL [0, 0, 0, 0, 0, 0, 0, 0] inB = ([pk1], [(0, 2)]) from v_recv] at h2 h3
   obtain ⟨g, c1, rfl, k1⟩ := one_slice h2 (by decide)
   obtain ⟨g2, c2, rfl, k2⟩ := one_slice h3 (by decide)
   exact ⟨g, c1, g2, c2, h1, k1, k2, h4⟩
def pk2 : PkT := (3, 1, 2, [1065353216, 1073741824, 0, 0, 0, 0, 0, 0])
theorem a7 (A : Option Addr) (c : Nat) (w : World) (hA : Rd w A (pkV pk2)) : Calls Tryz.prog 23 #[.slice A 1 c, .int .i64 3, .int .i64 10] w fun e w' => ∃ g g3 c3, e = .returned (.tuple #[.slice (some ⟨g, 0, none⟩) 10 10, .slice (some ⟨g3, 0, none⟩) 1 c3, .int .i64 0]) ∧ Rd w' (some ⟨g, 0, none⟩) (flts [0, 0, 0, 0, 0, 0, 0, 0, 1065353216, 1073741824]) ∧ Rd w' (some ⟨g3, 0, none⟩) (spanC [(0, 8)]) ∧ Below w.heap.size w w' :=
 (assembled_ok A 1 c [pk2] 3 10 w (by simpa [pksC] using hA) (by intro p hp; simp at hp; subst hp; rfl) rfl v_asmE).mono fun e w' ⟨gS, v, h1, h2, h3, _, h4⟩ => by
   have e1 : asmL 3 ((10 : Nat) : Int) [pk2] = _ := v_asm
   rw [e1] at h2 h3
   rw [show gapsL ([0, 0, 0, 0, 0, 0, 0, 0, 1065353216, 1073741824], [false, false, false, false, false, false, false, false, true, true]).2 = [(0, 8)] from v_gap] at h3
   obtain ⟨g3, c3, rfl, k3⟩ := one_slice h3 (by decide)
   exact ⟨gS, g3, c3, h1, Rd.row h2, k3, h4⟩
theorem S_same {x y : Nat} {n : Int} (h : S x n) (k : S y n) : (FloatKind.f32.format.order x y == some .eq) = true := by
 show (Ieee.single.order x y == some Ordering.eq) = true
 rw [order_eq_iff h k]; simp
theorem S_of {x : Nat} {n : Int} (h : V32 x = some (n * (2 ^ 145 : Nat))) : S x n := V32_some h
theorem c10 : S 1092616192 160 := S_of (by kernel_rfl)
theorem cm2 : S 3221225472 (-32) := S_of (by kernel_rfl)
theorem cp2 : S 1073741824 32 := S_of (by kernel_rfl)
theorem cp1 : S 1065353216 16 := S_of (by kernel_rfl)
theorem cp3 : S 1077936128 48 := S_of (by kernel_rfl)
theorem cp4 : S 1082130432 64 := S_of (by kernel_rfl)
theorem neqB {r0 i0 r1 i1 r2 i2 r3 i3 : Nat} (h : CxT r0 i0 r1 i1 r2 i2 r3 i3) (w : World) : (binOp .neq 96 (.agg #[.complex .f32 r0 i0, .complex .f32 r1 i1, .complex .f32 r2 i2, .complex .f32 r3 i3]) (.agg #[.complex .f32 1092616192 0, .complex .f32 3221225472 1073741824, .complex .f32 3221225472 0, .complex .f32 3221225472 3221225472])).run Tryz.prog w = .ok (.bool false) w := by
 have hall : all2 cEq (cxs [(r0, i0), (r1, i1), (r2, i2), (r3, i3)]) (cxs [(1092616192, 0), (3221225472, 1073741824), (3221225472, 0), (3221225472, 3221225472)]) = true := by
  refine all2_cEq _ _ rfl (fun j h1 h2 => ?_)
  match j, h1 with
  | 0, _ => exact ⟨160, 0, h.a0, c10, h.b0, S.zero⟩
  | 1, _ => exact ⟨-32, 32, h.a1, cm2, h.b1, cp2⟩
  | 2, _ => exact ⟨-32, 0, h.a2, cm2, h.b2, S.zero⟩
  | 3, _ => exact ⟨-32, -32, h.a3, cm2, h.b3, cm2⟩
 have := neqCx _ _ rfl rfl hall w
 simp only [cxs, List.map_cons, List.map_nil] at this
 exact this
theorem sameF4 {y0 y1 y2 y3 : Nat} (h : FlT y0 y1 y2 y3) : sameF [y0, y1, y2, y3] [1065353216, 1073741824, 1077936128, 1082130432] = true := by
 simp only [sameF, S_same h.a0 cp1, S_same h.a1 cp2, S_same h.a2 cp3, S_same h.a3 cp4, Bool.and_true]
theorem neqF4 {y0 y1 y2 y3 : Nat} (h : FlT y0 y1 y2 y3) (w : World) : (binOp .neq 99 (.agg #[.float .f32 y0, .float .f32 y1, .float .f32 y2, .float .f32 y3]) (.agg #[.float .f32 1065353216, .float .f32 1073741824, .float .f32 1077936128, .float .f32 1082130432])).run Tryz.prog w = .ok (.bool false) w := by
 have hE := eqFloats 9998 99 4 Tryz.underlying99 [y0, y1, y2, y3] [1065353216, 1073741824, 1077936128, 1082130432] rfl rfl w
 rw [sameF4 h] at hE
 simp only [flts, List.map_cons, List.map_nil] at hE
 have h2 : (Op.equal 99 (.agg #[.float .f32 y0, .float .f32 y1, .float .f32 y2, .float .f32 y3]) (.agg #[.float .f32 1065353216, .float .f32 1073741824, .float .f32 1077936128, .float .f32 1082130432])).run Tryz.prog w = .ok true w := hE
 simp only [binOp]
 simp [h2]
theorem below_dn (B : Nat) (w : World) (q : Nat) : Below B w (w.drewN q) := below_row (Below.refl B w) q
theorem s20 (A B : Option Addr) (c d : Nat) (xs : List Int) (w : World) (hA : Rd w A (ints xs)) (hB : Rd w B (ints xs)) (hm : xs.length ≤ 1000) :
 Calls Tryz.prog 35 #[.slice A xs.length c, .slice B xs.length d] w fun e w' => e = .returned (.bool true) ∧ Below w.heap.size w w' :=
 (sameInts_any A B _ _ c d xs xs w hA hB rfl rfl (by omega) (by omega)).mono fun e w' ⟨h1, q, h2⟩ => ⟨by rw [h1, decide_eq_true rfl], by rw [h2]; exact below_dn _ _ _⟩
theorem s42 (A B : Option Addr) (c d : Nat) (xs : List (Int × Int)) (w : World) (hA : Rd w A (spanC xs)) (hB : Rd w B (spanC xs)) (hm : xs.length ≤ 1000) (hs : sameSp xs xs = true) :
 Calls Tryz.prog 22 #[.slice A xs.length c, .slice B xs.length d] w fun e w' => e = .returned (.bool true) ∧ Below w.heap.size w w' :=
 (sameSpans_any A B _ _ c d xs xs w hA hB rfl rfl (by omega)).mono fun e w' ⟨h1, q, h2⟩ => ⟨by rw [h1, hs], by rw [h2]; exact below_dn _ _ _⟩
theorem s50 (A B : Option Addr) (n c d : Nat) (xs ys : List Nat) (w : World) (hA : Rd w A (flts xs)) (hB : Rd w B (flts ys)) (hn : n = xs.length) (hn2 : n = ys.length) (hm : xs.length ≤ 5000) (hs : sameF xs ys = true) :
 Calls Tryz.prog 29 #[.slice A n c, .slice B n d] w fun e w' => e = .returned (.bool true) ∧ Below w.heap.size w w' :=
 (sameSamples_any A B n n c d xs ys w hA hB hn hn2 (by omega)).mono fun e w' ⟨h1, q, h2⟩ => ⟨by rw [h1, hs], by rw [h2]; exact below_dn _ _ _⟩
theorem s72 (A B : Option Addr) (n c d : Nat) (xs : List ByteArray) (w : World) (hA : Rd w A (strs xs)) (hB : Rd w B (strs xs)) (hn : n = xs.length) (hm : xs.length ≤ 5000) (hs : sameW xs xs = true) :
 Calls Tryz.prog 28 #[.slice A n c, .slice B n d] w fun e w' => e = .returned (.bool true) ∧ Below w.heap.size w w' :=
 (sameWords_any A B n n c d xs xs w hA hB hn hn (by omega)).mono fun e w' ⟨h1, q, h2⟩ => ⟨by rw [h1, hs], by rw [h2]; exact below_dn _ _ _⟩
def iEq : Value → Value → Bool
 | .int .u8 a, .int .u8 b => a == b
 | _, _ => false
theorem all2_iEq : ∀ xs : List Int, all2 iEq (u8s xs) (u8s xs) = true
 | [] => rfl
 | x :: xs => by
   have := all2_iEq xs
   simp only [u8s, List.map_cons, all2, iEq] at this ⊢
   rw [this]; simp
theorem isAggU (w : World) : (isAgg 5).run Tryz.prog w = .ok false w := by kernel_rfl
theorem eqIntU (d : Nat) (a b : Int) (w : World) : (Op.equalIn (d + 1) 5 (.int .u8 a) (.int .u8 b)).run Tryz.prog w = .ok (a == b) w := by
 simp [Op.equalIn, run_underlying Tryz.underlying5]
theorem neqU8 (t : TypeId) (n : Nat) (hu : Tryz.prog.underlying t = some (.array n 5)) (xs : List Int) (hx : xs.length = n) (w : World) :
 (Op.equal t (.agg (u8s xs).toArray) (.agg (u8s xs).toArray)).run Tryz.prog w = .ok true w := by
 obtain ⟨i, hi, _⟩ := info_parts info5
 have := run_eqArray (P := Tryz.prog) w 9999 t 5 n i iEq (u8s xs) (u8s xs) hu hi (by kernel_rfl) (part_scalar w _ isAggU) ?_ (by simpa [u8s] using hx) (by simpa [u8s] using hx)
 · rw [all2_iEq] at this; exact this
 intro j hj
 have hj2 : j < xs.length := by simpa [u8s] using hj
 rw [show (u8s xs).getD j undef = .int .u8 xs[j] by simp [u8s, hj2], eqIntU]; rfl
theorem neqK (w : World) : (binOp .neq 46 (.agg #[.int .u8 76, .int .u8 230, .int .u8 188, .int .u8 206, .int .u8 28, .int .u8 166, .int .u8 108, .int .u8 110]) (.agg #[.int .u8 76, .int .u8 230, .int .u8 188, .int .u8 206, .int .u8 28, .int .u8 166, .int .u8 108, .int .u8 110])).run Tryz.prog w = .ok (.bool false) w := by
 have h2 := neqU8 46 8 (by kernel_rfl) [76, 230, 188, 206, 28, 166, 108, 110] rfl w
 simp only [u8s, List.map_cons, List.map_nil] at h2
 simp only [binOp]
 simp [h2]
theorem neqT (w : World) : (binOp .neq 103 (.agg #[.int .u8 201, .int .u8 3, .int .u8 1, .int .u8 2, .int .u8 2, .int .u8 0, .int .u8 16, .int .u8 255, .int .u8 248, .int .u8 0]) (.agg #[.int .u8 201, .int .u8 3, .int .u8 1, .int .u8 2, .int .u8 2, .int .u8 0, .int .u8 16, .int .u8 255, .int .u8 248, .int .u8 0])).run Tryz.prog w = .ok (.bool false) w := by
 have h2 := neqU8 103 10 (by kernel_rfl) [201, 3, 1, 2, 2, 0, 16, 255, 248, 0] rfl w
 simp only [u8s, List.map_cons, List.map_nil] at h2
 simp only [binOp]
 simp [h2]
theorem b_cut (g1 g2 f t : Nat) (tk : Int) (X : List Nat) (M : List (Int × ByteArray)) (w : World) (h1 : Row w g1 56 (flts tapeX)) (h2 : Row w g2 117 (markC tapeM)) (hft : f < t) (ht : t ≤ 4) (htk : tickI 100 10 f = tk) (htk2 : tk ≤ 100000000) (hX : (tapeX.drop f).take (t - f) = X) (hM : cutM f t tapeM = M) :
 Calls Tryz.prog 37 #[.agg #[.int .i64 100, .int .i64 10, .slice (some ⟨g1, 0, none⟩) 4 4, .slice (some ⟨g2, 0, none⟩) 2 2], .agg #[.int .i64 f, .int .i64 t]] w fun e w' => ∃ g c g', e = .returned (.tuple #[.agg #[.int .i64 tk, .int .i64 10, .slice (some ⟨g, 0, none⟩) (t - f) c, .slice (some ⟨g', 0, none⟩) M.length M.length], .int .i64 0]) ∧ Rd w' (some ⟨g, 0, none⟩) (flts X) ∧ Row w' g' 117 (markC M) ∧ Below w.heap.size w w' :=
 (cut_ok 100 10 _ _ 4 4 2 2 tapeX tapeM f t w (Rd.row h1) (Rd.row h2) rfl rfl (by decide) (by decide) (by decide) (by intro h; cases h) v_tape (by omega) (by simpa [tapeX] using ht) (by rw [htk]; exact htk2)).mono fun e w' ⟨v, g', k1, k2, k3, _, k4⟩ => by
   rw [hX] at k2; rw [hM] at k1 k3; rw [htk] at k1
   obtain ⟨g, c, rfl, k5⟩ := one_slice k2 (by omega)
   exact ⟨g, c, g', k1, k5, k3, k4⟩
theorem b_join (g1 g2 g3 g4 c1 c3 : Nat) (w : World) (h1 : Rd w (some ⟨g1, 0, none⟩) (flts [1065353216, 1073741824])) (h2 : Rd w (some ⟨g2, 0, none⟩) (markC [(1, ⟨#[111, 117, 116, 101, 114]⟩)])) (h3 : Rd w (some ⟨g3, 0, none⟩) (flts [1077936128, 1082130432])) (h4 : Rd w (some ⟨g4, 0, none⟩) (markC [(1, ⟨#[105, 110, 110, 101, 114]⟩)])) :
 Calls Tryz.prog 39 #[.agg #[.int .i64 100, .int .i64 10, .slice (some ⟨g1, 0, none⟩) 2 c1, .slice (some ⟨g2, 0, none⟩) 1 1], .agg #[.int .i64 120, .int .i64 10, .slice (some ⟨g3, 0, none⟩) 2 c3, .slice (some ⟨g4, 0, none⟩) 1 1]] w fun e w' => ∃ g g' c', e = .returned (.tuple #[.agg #[.int .i64 100, .int .i64 10, .slice (some ⟨g, 0, none⟩) 4 4, .slice (some ⟨g', 0, none⟩) 2 c'], .int .i64 0]) ∧ Rd w' (some ⟨g, 0, none⟩) (flts tapeX) ∧ Rd w' (some ⟨g', 0, none⟩) (markC tapeM) ∧ Below w.heap.size w w' :=
 (joined_ok 100 10 _ _ _ _ 2 c1 1 1 2 c3 1 1 [1065353216, 1073741824] [1077936128, 1082130432] [(1, ⟨#[111, 117, 116, 101, 114]⟩)] [(1, ⟨#[105, 110, 110, 101, 114]⟩)] 120 w h1 h2 h3 h4 rfl rfl rfl rfl (by kernel_rfl) (by kernel_rfl) (by kernel_rfl) (by decide) (by decide)).mono fun e w' ⟨g, v, k1, k2, k3, _, k4⟩ => by
   obtain ⟨g', c', rfl, k5⟩ := one_slice k3 (by decide)
   have e1 : [((1 : Int), (⟨#[111, 117, 116, 101, 114]⟩ : ByteArray))].map (shiftM 0) ++ [((1 : Int), (⟨#[105, 110, 110, 101, 114]⟩ : ByteArray))].map (shiftM ((2 : Nat) : Int)) = tapeM := by kernel_rfl
   have k6 : Rd w' (some ⟨g', 0, none⟩) (markC tapeM) := by rw [← e1]; exact k5
   exact ⟨g, g', c', k1, Rd.row k2, k6, k4⟩
theorem b_made (A : Option Addr) (c : Nat) (l : List Int) (w : World) (hA : Rd w A (ints l)) (h5 : l.length = 5) (hb : ∀ x ∈ l, x.natAbs < 2 ^ 20) : Calls Tryz.prog 41 #[.slice A 5 c] w fun e w' => ∃ g c', e = .returned (.slice (some ⟨g, 0, none⟩) 5 c') ∧ Rd w' (some ⟨g, 0, none⟩) (flts (l.map fb)) ∧ Below w.heap.size w w' :=
 (made_any A 5 c l w hA h5.symm (by omega) hb).mono fun e w' ⟨v, k1, k2, k3⟩ => by
   rw [h5] at k2
   obtain ⟨g, c', rfl, k4⟩ := one_slice k2 (by decide)
   exact ⟨g, c', k1, k4, k3⟩
theorem fb0 : fb 0 = 0 := by kernel_rfl
theorem fb16 : fb 16 = 1065353216 := by kernel_rfl
theorem b_al (A B : Option Addr) (c d : Nat) (w : World) (hA : Rd w A (flts ([0, 0, 16, 0, 0].map fb))) (hB : Rd w B (flts ([0, 0, 0, 16, 0].map fb))) : Calls Tryz.prog 40 #[.slice A 5 c, .slice B 5 d, .int .i64 2, .int .i64 3] w fun e w' => e = .returned (.tuple #[.int .i64 1, .agg #[.int .i64 0, .int .i64 1], .int .i64 0]) ∧ Below w.heap.size w w' :=
 (aligned_any A B c d _ _ 5 5 2 3 w hA hB rfl rfl (by decide) (by decide) (by kernel_rfl) (by kernel_rfl) (by
   intro x hx
   simp only [List.map_cons, List.map_nil, fb0, fb16, List.mem_cons, List.not_mem_nil, or_false] at hx
   rcases hx with rfl | rfl | rfl | rfl | rfl <;> kernel_rfl) (by
   intro x hx
   simp only [List.map_cons, List.map_nil, fb0, fb16, List.mem_cons, List.not_mem_nil, or_false] at hx
   rcases hx with rfl | rfl | rfl | rfl | rfl <;> kernel_rfl) (by decide) (by decide)).mono fun e w' ⟨k1, k2⟩ => ⟨by rw [k1, v_al]; rfl, k2⟩
theorem b_key (s : ByteArray) (d n : Nat) (X : List Nat) (w : World) (h : Aw w) (hd : 1 ≤ d) (hd2 : d ≤ 16) (hw : wordI s.data.toList = 0) (hX : keyedL d s.data.toList = X) (hn : X.length = n) (h0 : 0 < n) : Calls Tryz.prog 25 #[.string s, .int .i64 d] w fun e w' => ∃ g c, e = .returned (.tuple #[.slice (some ⟨g, 0, none⟩) n c, .int .i64 0]) ∧ Rd w' (some ⟨g, 0, none⟩) (flts X) ∧ Below w.heap.size w w' :=
 (keyed_ok s d w h.tz hd hd2 hw).mono fun e w' ⟨v, k1, k2, k3⟩ => by
   rw [hX, hn] at k2
   obtain ⟨g, c, rfl, k4⟩ := one_slice k2 h0
   exact ⟨g, c, k1, k4, k3⟩
def xH : List Nat := [1065353216, 0, 1065353216, 1065353216, 1065353216, 0, 0, 0, 1065353216]
theorem b_heard (A : Option Addr) (c : Nat) (w : World) (h : Aw w) (hA : Rd w A (flts xH)) : Calls Tryz.prog 26 #[.slice A 9 c, .int .i64 1] w fun e w' => ∃ g c', e = .returned (.tuple #[.slice (some ⟨g, 0, none⟩) 1 c', .int .i64 0]) ∧ Rd w' (some ⟨g, 0, none⟩) (strs [⟨#[68, 65]⟩]) ∧ Below w.heap.size w w' :=
 (heard_ok A 9 c xH 1 w hA rfl (by decide) v_heardS (by decide) h.tz).mono fun e w' hk => by
   rw [show heardL xH 1 = [⟨#[68, 65]⟩] from v_heard] at hk
   obtain ⟨v, hk, k3⟩ := hk
   rw [if_neg (by decide)] at hk
   obtain ⟨k1, k2⟩ := hk
   obtain ⟨g, c', rfl, k4⟩ := one_slice k2 (by decide)
   exact ⟨g, c', k1, k4, k3⟩
theorem packE_byts : u8s (packI [1065353216, 3204448256]) = byts packE := by kernel_rfl
theorem b_pack (A : Option Addr) (c : Nat) (w : World) (hA : Rd w A (flts [1065353216, 3204448256])) : Calls Tryz.prog 42 #[.slice A 2 c] w fun e w' => ∃ g c', e = .returned (.tuple #[.slice (some ⟨g, 0, none⟩) 18 c', .int .i64 0]) ∧ 18 ≤ c' ∧ Rd w' (some ⟨g, 0, none⟩) (byts packE) ∧ Below w.heap.size w w' :=
 (pack_ok A 2 c _ w hA rfl (by decide) (by
   intro x hx
   simp only [List.mem_cons, List.not_mem_nil, or_false] at hx
   rcases hx with rfl | rfl <;> kernel_rfl) v_packS).mono fun e w' ⟨v, k1, k2, k3⟩ => by
   rw [packE_byts, show (packI [1065353216, 3204448256]).length = 18 by kernel_rfl] at k2
   have hc := k2
   obtain ⟨g, c', rfl, k4⟩ := one_slice k2 (by decide)
   exact ⟨g, c', k1, ownsRow.cap hc, k4, k3⟩
theorem b_unpack (A : Option Addr) (c : Nat) (w : World) (hA : Rd w A (byts packE)) (hc : 18 ≤ c) : Calls Tryz.prog 43 #[.slice A 18 c] w fun e w' => ∃ g, e = .returned (.tuple #[.slice (some ⟨g, 0, none⟩) 2 2, .int .i64 0]) ∧ Rd w' (some ⟨g, 0, none⟩) (flts [1065353216, 3204448256]) ∧ Below w.heap.size w w' :=
 (unpack_any A 18 c packE w hA rfl hc (by decide)).mono fun e w' ⟨v, k1, k2, _, k3⟩ => by
   obtain ⟨g, rfl, k4, _⟩ := k2 v_unpE
   rw [v_unpN, v_upX] at k4
   rw [v_unpE, v_unpN] at k1
   exact ⟨g, k1, Rd.row k4, k3⟩
theorem b_print (g1 g2 : Nat) (w : World) (h : Aw w) (h1 : Row w g1 56 (flts tapeX)) (h2 : Row w g2 117 (markC tapeM)) : Calls Tryz.prog 9 #[.agg #[.int .i64 100, .int .i64 10, .slice (some ⟨g1, 0, none⟩) 4 4, .slice (some ⟨g2, 0, none⟩) 2 2]] w fun e w' => e = .returned (.tuple #[.string printS, .int .i64 0]) ∧ Below w.heap.size w w' :=
 (print_ok 100 10 _ _ 4 4 2 2 tapeX tapeM w h.it (Rd.row h1) (Rd.row h2) rfl rfl v_tape).mono fun e w' ⟨k1, k2⟩ => ⟨by rw [k1, v_print, printRes, if_pos (by decide)]; rfl, k2⟩
theorem b_parse (w : World) (h : Aw w) : Calls Tryz.prog 11 #[.string printS] w fun e w' => ∃ A c B d, e = .returned (.tuple #[.agg #[.int .i64 100, .int .i64 10, .slice A 4 c, .slice B 2 d], .int .i64 0, .int .i64 0]) ∧ Rd w' A (flts tapeX) ∧ Rd w' B (markC tapeM) ∧ Below w.heap.size w w' :=
 parse_ok printS w 100 10 tapeX tapeM 6 h.mx v_size v_small v_go v_tape
theorem fieldsM : ((Tryz.prog.fieldsOf 117).toList.map fun f => (f.name, f.type, f.offset)) = [("Index", 3, 0), ("Name", 9, 1)] := by kernel_rfl
theorem eqlMark (a c : Int) (b d : ByteArray) (w : World) : (binOp .eql 117 (.agg #[.int .i64 a, .string b]) (.agg #[.int .i64 c, .string d])).run Tryz.prog w = .ok (.bool (a == c && b.toList == d.toList)) w := by
 have i3 := Tryz.underlying3
 have i9 := Tryz.underlying9
 have e1 : ∀ (a : Int) (b : ByteArray), (part 3 #[.int .i64 a, .string b] 0).run Tryz.prog w = .ok (.int .i64 a) w := fun a b => part_int _ _ _ rfl w
 have e2 : ∀ (a : Int) (b : ByteArray), (part 9 #[.int .i64 a, .string b] 1).run Tryz.prog w = .ok (.string b) w := fun a b => by simp [part, run_underlying i9]
 have e4 := fun (a b : Int) => run_equalIn_int (P := Tryz.prog) w 9998 3 .i64 .i64 a b i3
 have e5 := fun (a b : ByteArray) => run_equalIn_string (P := Tryz.prog) w 9998 9 a b i9
 have n1 : ("Index" : String) ≠ "_" := by decide
 have n2 : ("Name" : String) ≠ "_" := by decide
 rw [run_eql_struct, run_eqStruct w 9999 _ _ _ _ (by kernel_rfl) (by kernel_rfl) fieldsM]
 simp only [eqTriples, if_pos n1, if_pos n2, Sem.run_bind, e1, e2, e4, e5, Result.andThen_ok, Sem.run_ite, Sem.run_pure]
 cases a == c <;> cases b.toList == d.toList <;> simp [e1, e2, e4, e5]
theorem fieldsR : ((Tryz.prog.fieldsOf 110).toList.map fun f => (f.name, f.type, f.offset)) = [("Num", 3, 0), ("Den", 3, 1)] := by kernel_rfl
theorem eqlRatio (a b c d : Int) (w : World) : (binOp .eql 110 (.agg #[.int .i64 a, .int .i64 b]) (.agg #[.int .i64 c, .int .i64 d])).run Tryz.prog w = .ok (.bool (a == c && b == d)) w := by
 have i3 := Tryz.underlying3
 have e1 : ∀ (a b : Int), (part 3 #[.int .i64 a, .int .i64 b] 0).run Tryz.prog w = .ok (.int .i64 a) w := fun a b => part_int _ _ _ rfl w
 have e2 : ∀ (a b : Int), (part 3 #[.int .i64 a, .int .i64 b] 1).run Tryz.prog w = .ok (.int .i64 b) w := fun a b => part_int _ _ _ rfl w
 have e4 := fun (a b : Int) => run_equalIn_int (P := Tryz.prog) w 9998 3 .i64 .i64 a b i3
 have n1 : ("Num" : String) ≠ "_" := by decide
 have n2 : ("Den" : String) ≠ "_" := by decide
 rw [run_eql_struct, run_eqStruct w 9999 _ _ _ _ (by kernel_rfl) (by kernel_rfl) fieldsR]
 simp only [eqTriples, if_pos n1, if_pos n2, Sem.run_bind, e1, e2, e4, Result.andThen_ok, Sem.run_ite, Sem.run_pure]
 cases a == c <;> cases b == d <;> simp [e1, e2, e4]
def AwakeOk : Prop := ∀ w, Aw w → Calls Tryz.prog 8 #[] w fun e w' => e = .returned (.bool true) ∧ Below w.heap.size w w'
def NumP (w : World) (a b : Int) (A B : Option Addr) (xs : List Int) (w' : World) : Prop :=
 Row w' (w.heap.size + 1) 110 [.int .i64 a, .int .i64 b] ∧ Rd w' A (ints xs) ∧ Rd w' B (ints xs) ∧ Aw w' ∧ Below w.heap.size w w'
theorem NumP.keep {w w0 w1 : World} {a b : Int} {A B : Option Addr} {xs : List Int} (h : NumP w a b A B xs w0) (hb : Below w0.heap.size w0 w1) : NumP w a b A B xs w1 :=
 ⟨h.1.old hb, h.2.1.below hb, h.2.2.1.below hb, h.2.2.2.1.old hb, h.2.2.2.2.trans (hb.mono h.2.2.2.2.size)⟩
def shortB (n : Nat) : Bool := decide (n ≤ 40) || decide (n = 4097)
theorem shortList_any (A : Option Addr) (n c : Nat) (w : World) (hn : n ≤ 9223372036854775807) :
 Calls Tryz.prog 31 #[.slice A n c] w fun e w' => e = .returned (.bool (shortB n)) ∧ Below w.heap.size w w' := by
 by_cases h1 : n ≤ 40
 · have HS : Hid (shortB n = true) := by unfold Hid shortB; rw [decide_eq_true h1]; rfl
   go_enter Tryz.func31, Tryz.ntmps31
   go_wp2
   all_goals go_ret
   all_goals exact ⟨by rw [HS.out]; rfl, Below.refl _ _⟩
 · by_cases h2 : n = 4097
   · have HS : Hid (shortB n = true) := by unfold Hid shortB; rw [decide_eq_true h2, Bool.or_true]
     subst h2
     go_enter Tryz.func31, Tryz.ntmps31
     go_wp2
     all_goals go_ret
     all_goals exact ⟨by rw [HS.out]; rfl, Below.refl _ _⟩
   · have HS : Hid (shortB n = false) := by unfold Hid shortB; rw [decide_eq_false h1, decide_eq_false h2]; rfl
     have h3 : decide ((n : Int) ≤ 40) = false := decide_eq_false (by omega)
     have h4 : ((n : Int) == 4097) = false := by rw [beq_eq_false_iff_ne]; omega
     go_enter Tryz.func31, Tryz.ntmps31
     go_wp2
     all_goals go_ret
     all_goals exact ⟨by rw [HS.out]; rfl, Below.refl _ _⟩




theorem dec_step {u k : Nat} {t : List UInt8} (hk : k ≠ 0) (h : Lib.decDigits u = Lib.decDigits k ++ t) : (k / 10 ≠ 0 → Lib.decDigits u = Lib.decDigits (k / 10) ++ (UInt8.ofNat (48 + k % 10) :: t)) ∧ (k / 10 = 0 → Lib.decDigits u = UInt8.ofNat (48 + k % 10) :: t) := by
 refine ⟨fun h2 => ?_, fun h2 => ?_⟩
 · rw [h, dec_big (by omega), List.append_assoc]; rfl
 · have h3 : k < 10 := by omega
   rw [h, dec_small h3, show k % 10 = k by omega]; rfl
theorem lb_cons (c : UInt8) (t : List UInt8) : (⟨#[c]⟩ : ByteArray) ++ lb t = lb (c :: t) := by
 apply ByteArray.ext
 rw [ByteArray.data_append]
 simp [lb]
set_option maxRecDepth 100000 in
set_option maxHeartbeats 4000000 in
theorem textR_any (n : Int) (w : World) (hn : n.natAbs ≤ 1000000000000) :
 Calls Tryz.prog 62 #[.int .i64 n] w fun e w' => e = .returned (.string (itoaB n)) ∧ Below w.heap.size w w' := by
 by_cases h0 : n = 0
 · subst h0
   go_enter Tryz.func62, Tryz.ntmps62
   go_wp2
   go_ret
   exact ⟨by kernel_rfl, Below.refl _ _⟩
 obtain ⟨u, hu⟩ : ∃ u, u = n.natAbs := ⟨_, rfl⟩
 obtain ⟨sg, hsg⟩ : ∃ sg : Int, sg = if n < 0 then -1 else 1 := ⟨_, rfl⟩
 have hs : sg = 1 ∨ sg = -1 := by rw [hsg]; split <;> simp
 have hnu : n = sg * (u : Int) := by rw [hsg]; split <;> omega
 have hu1 : u ≤ 1000000000000 := by omega
 have b0 : (n == 0) = false := by rw [beq_eq_false_iff_ne]; exact h0
 have HE : Hid (itoaB n = if n < 0 then lb (45 :: Lib.decDigits u) else lb (Lib.decDigits u)) := by
  unfold Hid itoaB Lib.itoa
  by_cases h : n < 0
  · rw [if_pos h, if_pos h, hu]; rfl
  · rw [if_neg h, if_neg h, show n.toNat = u by omega]; rfl
 have hu0 : u ≠ 0 := by omega
 have HS := Lib.hid hs; have HNU := Lib.hid hnu; have HSG := Lib.hid hsg; have HU0 := Lib.hid hu0
 clear hu hsg hs h0 hn hu0
 go_enter Tryz.func62, Tryz.ntmps62
 go_wp2_with fail
 clear b0 hnu
 go_loopg [3, 4] u (fun g s3 s4 wr => ∃ (k : Nat) (t : List UInt8), k ≤ g ∧ k ≤ u ∧ s4 = .int .i64 (sg * (k : Int)) ∧ s3 = .string (lb t) ∧ Hid ((k ≠ 0 → Lib.decDigits u = Lib.decDigits k ++ t) ∧ (k = 0 → Lib.decDigits u = t)) ∧ Hid (Below w.heap.size w wr))
 case atStart => exact ⟨u, [], Nat.le_refl _, Nat.le_refl _, by rw [HNU.out], rfl, ⟨fun _ => (List.append_nil _).symm, fun h => absurd h HU0.out⟩, Below.refl _ _⟩
 case round =>
  obtain ⟨k, t, hkg, hku, rfl, rfl, hd, hb⟩ := hrel
  have hdl := dec_len 12 u (by omega)
  have ht : t.length ≤ 13 := by
   by_cases hk : k = 0
   · have h1 := hd.out.2 hk
     rw [h1] at hdl; omega
   · have h1 := congrArg List.length (hd.out.1 hk)
     rw [List.length_append] at h1; omega
  obtain ⟨K, hK⟩ : ∃ K : Int, K = sg * (k : Int) := ⟨_, rfl⟩
  rw [← hK]
  have hsz : (lb t).size = t.length := List.size_toArray
  by_cases hk : k = 0
  · have a1 : (K != 0) = false := by
     rw [bne_eq_false_iff_eq, hK, hk]; simp
    have HD := Lib.hid (hd.out.2 hk)
    have HB := Lib.hid hb.out
    clear hd hb hK hdl hkg hku
    by_cases hn : n < 0
    · have a2 : decide (n < 0) = true := decide_eq_true hn
      have e1 : itoaB n = (⟨#[45]⟩ : ByteArray) ++ lb t := by rw [HE.out, if_pos hn, HD.out, lb_cons]
      have HE1 := Lib.hid e1
      have hz2 : (1 : Nat) + (lb t).size ≤ 9223372036854775807 := by omega
      clear e1
      go_wp2_with fail
      go_ret
      exact ⟨by rw [HE1.out]; rfl, HB.out⟩
    · have a2 : decide (n < 0) = false := decide_eq_false hn
      have e1 : itoaB n = lb t := by rw [HE.out, if_neg hn, HD.out]
      have HE1 := Lib.hid e1
      clear e1
      go_wp2_with fail
      go_ret
      exact ⟨by rw [HE1.out]; rfl, HB.out⟩
  · obtain ⟨m, hm⟩ : ∃ m, m = k % 10 := ⟨_, rfl⟩
    obtain ⟨q, hq⟩ : ∃ q, q = k / 10 := ⟨_, rfl⟩
    obtain ⟨R, hR⟩ : ∃ R : Int, K.tmod 10 = R := ⟨_, rfl⟩
    obtain ⟨R2, hR2⟩ : ∃ R2 : Int, 0 - R = R2 := ⟨_, rfl⟩
    obtain ⟨K2, hK2⟩ : ∃ K2 : Int, K.tdiv 10 = K2 := ⟨_, rfl⟩
    have hRm : R = sg * (m : Int) := by
     rw [← hR, hK]
     rcases HS.out with h | h
     · rw [h, Int.one_mul, Int.one_mul, hm, Int.tmod_eq_emod_of_nonneg (by omega)]; omega
     · rw [h, Int.neg_one_mul, Int.neg_one_mul, Int.neg_tmod, hm, Int.tmod_eq_emod_of_nonneg (by omega)]; omega
    have hKq : K2 = sg * (q : Int) := by
     rw [← hK2, hK]
     rcases HS.out with h | h
     · rw [h, Int.one_mul, Int.one_mul, hq, Int.tdiv_eq_ediv_of_nonneg (by omega)]; omega
     · rw [h, Int.neg_one_mul, Int.neg_one_mul, Int.neg_tdiv, hq, Int.tdiv_eq_ediv_of_nonneg (by omega)]; omega
    have hm10 : m < 10 := by omega
    have hRb : -10 < R ∧ R < 10 ∧ max R R2 = (m : Int) := by
     rcases HS.out with h | h
     · rw [h, Int.one_mul] at hRm; omega
     · rw [h, Int.neg_one_mul] at hRm; omega
    have hKb : -2000000000000 < K ∧ K < 2000000000000 ∧ -2000000000000 < K2 ∧ K2 < 2000000000000 ∧ K ≠ 0 := by
     rcases HS.out with h | h
     · rw [h, Int.one_mul] at hK hKq; omega
     · rw [h, Int.neg_one_mul] at hK hKq; omega
    have a1 : (K != 0) = true := by rw [bne_iff_ne]; exact hKb.2.2.2.2
    have a3 : IntKind.i64.wrap R = R := IntWalk.i64_in _ (by omega)
    have a5 : IntKind.i64.wrap R2 = R2 := IntWalk.i64_in _ (by omega)
    have a6 : max R R2 = (m : Int) := hRb.2.2
    have a7 : IntKind.u8.wrap (48 + (m : Int)) = 48 + (m : Int) := IntWalk.u8_in _ (by omega)
    have a8 : IntKind.i64.wrap K2 = K2 := IntWalk.i64_in _ (by omega)
    have a9 : IntKind.i64.wrap (48 + (m : Int)) = 48 + (m : Int) := IntWalk.i64_in _ (by omega)
    have a10 : (if R < R2 then R2 else R) = (m : Int) := by rw [← a6]; split <;> omega
    have a11 : (if R2 < R then R else R2) = (m : Int) := by rw [← a6]; split <;> omega
    have hdg : (UInt8.ofNat (48 + m)).toNat = 48 + m := dig_nat hm10
    have kc : (convert 48 9 (.slice (some ⟨wr.heap.size, 0, none⟩) 1 1)).run Tryz.prog (wr.alloc (.cells #[.int .u8 (48 + (m : Int))] 5)) = .ok (.string (lb [UInt8.ofNat (48 + m)])) (wr.alloc (.cells #[.int .u8 (48 + (m : Int))] 5)) :=
     back wr #[.int .u8 (48 + (m : Int))] 5 0 1 [UInt8.ofNat (48 + m)] rfl (fun j b hj => by
      cases j with
      | zero =>
        simp only [List.getElem?_cons_zero, Option.some.injEq] at hj
        subst hj
        rw [hdg]; rfl
      | succ j => simp at hj)
    obtain ⟨sc, hsc⟩ : ∃ sc, sc = lb [UInt8.ofNat (48 + m)] := ⟨_, rfl⟩
    rw [← hsc] at kc
    obtain ⟨st, hst⟩ : ∃ st, st = lb t := ⟨_, rfl⟩
    rw [← hst] at hsz
    rw [← hst]
    have HST := Lib.hid hst; have HSC := Lib.hid hsc
    have hz1 : sc.size = 1 := by rw [hsc]; rfl
    have hz3 : sc.size + st.size ≤ 9223372036854775807 := by omega
    have HDS := Lib.hid (dec_step hk (hd.out.1 hk)); have HM := Lib.hid hm; have HQ := Lib.hid hq; have HKQ := Lib.hid hKq; have HB := Lib.hid hb.out
    have hqk : q < k := by omega
    clear hK hRm hKq hRb hKb hdg hst hsc hd hb hdl hm hq hk
    go_wp2_with fail
    go_roundg q
    case measure => omega
    case rel =>
     refine ⟨q, UInt8.ofNat (48 + m) :: t, Nat.le_refl _, by omega, by rw [HKQ.out], ?_, ?_, HB.out.alloc HB.out.size _⟩
     · rw [HSC.out, HST.out]
       exact congrArg Value.string (lb_cons _ _)
     · unfold Hid
       have h := HDS.out
       rw [← HM.out, ← HQ.out] at h
       exact h
theorem bl_len (s : ByteArray) : (bl s).length = s.size := Array.length_toList
theorem take_one {s : ByteArray} {k : Nat} (h : k < s.size) : (bl s).take (k + 1) = (bl s).take k ++ [s[k]] := by
 rw [List.take_add_one, get_bl h]; rfl
theorem head_bl {s : ByteArray} (h : 0 < s.size) : (bl s).headD 0 = s[0] := head_eq s h
theorem countOk_long {s : ByteArray} (h : 9 < s.size) : countOk (bl s) = false := by
 unfold countOk
 rw [decide_eq_false (show ¬ (bl s).length ≤ 9 by rw [bl_len]; omega)]; simp
theorem countOk_zero {s : ByteArray} (h1 : 1 < s.size) (h0 : s[0] = 48) : countOk (bl s) = false := by
 have hz : zeroHead (bl s) = true := by
  unfold zeroHead
  rw [head_bl (by omega), h0, decide_eq_true rfl, Bool.true_and, decide_eq_true_eq]
  intro e
  have := congrArg List.length e
  rw [bl_len] at this
  simp at this; omega
 unfold countOk
 rw [hz]; simp
theorem countOk_bad {s : ByteArray} {k : Nat} (h : k < s.size) (hd : digC s[k] = false) : countOk (bl s) = false := by
 have ha : (bl s).all digC = false := by
  rw [List.all_eq_false]
  exact ⟨s[k], List.mem_of_getElem? (get_bl h), by rw [hd]; simp⟩
 unfold countOk
 rw [ha]; simp
theorem countOk_good {s : ByteArray} (h0 : 0 < s.size) (h9 : s.size ≤ 9) (hz : ¬ (1 < s.size ∧ s[0] = 48)) (ha : (bl s).all digC = true) : countOk (bl s) = true := by
 have hz2 : zeroHead (bl s) = false := by
  unfold zeroHead
  rw [head_bl h0]
  by_cases h48 : s[0] = 48
  · have h1 : s.size = 1 := by
     by_cases h : 1 < s.size
     · exact absurd ⟨h, h48⟩ hz
     · omega
    have e : bl s = [48] := by
     have e1 := take_one h0
     rw [List.take_of_length_le (by rw [bl_len]; omega), h48] at e1
     exact e1
    rw [e]; simp
  · rw [decide_eq_false h48]; rfl
 have he : (bl s).isEmpty = false := by
  cases hb : bl s with
  | nil => have := bl_len s; rw [hb] at this; simp at this; omega
  | cons a l => rfl
 unfold countOk
 rw [he, hz2, ha, decide_eq_true (show (bl s).length ≤ 9 by rw [bl_len]; omega)]; rfl
def cntE (s : ByteArray) : Ending := .returned (.tuple #[.int .i64 (countV (bl s)), .bool (countOk (bl s))])
theorem cntE_bad {s : ByteArray} (h : countOk (bl s) = false) : cntE s = .returned (.tuple #[.int .i64 0, .bool false]) := by
 unfold cntE countV; rw [h]; rfl
theorem cntE_good {s : ByteArray} (h : countOk (bl s) = true) : cntE s = .returned (.tuple #[.int .i64 (valI (bl s)), .bool true]) := by
 unfold cntE countV; rw [h]; rfl
set_option maxRecDepth 100000 in
set_option maxHeartbeats 4000000 in
theorem digitsR_any (s : ByteArray) (w : World) : Calls Tryz.prog 64 #[.string s] w fun e w' => e = cntE s ∧ Below w.heap.size w w' := by
 by_cases h0 : s.size = 0
 · have he : s = ByteArray.empty := by
    obtain ⟨⟨l⟩⟩ := s
    cases l with
    | nil => rfl
    | cons a l => simp [ByteArray.size] at h0
   subst he
   clear h0
   go_enter Tryz.func64, Tryz.ntmps64
   go_wp2
   go_ret2
   exact ⟨rfl, Below.refl _ _⟩
 have hp : 0 < s.size := by omega
 have hne : (s.toList == []) = false := by
  rw [ByteArray.toList_eq, beq_eq_false_iff_ne]
  intro e
  have := bl_len s
  rw [show bl s = [] from e] at this
  simp at this; omega
 by_cases h9 : 9 < s.size
 · have HB := Lib.hid (cntE_bad (countOk_long h9))
   have g1 : decide ((9 : Int) < (s.size : Int)) = true := decide_eq_true (by omega)
   clear h9 h0
   go_enter Tryz.func64, Tryz.ntmps64
   go_wp2
   go_ret2
   exact ⟨HB.out.symm, Below.refl _ _⟩
 have g1 : decide ((9 : Int) < (s.size : Int)) = false := decide_eq_false (by omega)
 have i0 : (0 : Int) < (s.size : Int) := by omega
 by_cases hz : 1 < s.size ∧ s[0] = 48
 · have HB := Lib.hid (cntE_bad (countOk_zero hz.1 hz.2))
   have g2 : decide ((1 : Int) < (s.size : Int)) = true := decide_eq_true (by omega)
   have g3 : ((s[0].toNat : Int) == 48) = true := by rw [hz.2]; rfl
   clear h9 h0 hz
   go_enter Tryz.func64, Tryz.ntmps64
   go_wp2
   go_ret2
   exact ⟨HB.out.symm, Below.refl _ _⟩
 have HG := Lib.hid (countOk_good hp (by omega) hz)
 have h9' : s.size ≤ 9 := by omega
 obtain ⟨bz, hbz⟩ : ∃ bz : Bool, bz = (decide ((1 : Int) < (s.size : Int)) && ((s[0].toNat : Int) == 48)) := ⟨_, rfl⟩
 have hbz2 : bz = false := by
  rw [hbz]
  by_cases h1 : 1 < s.size
  · have h48 : s[0] ≠ 48 := fun e => hz ⟨h1, e⟩
    have : ((s[0].toNat : Int) == 48) = false := by
     rw [beq_eq_false_iff_ne]
     intro e
     exact h48 (UInt8.toNat_inj.1 (by show s[0].toNat = 48; omega))
    rw [this, Bool.and_false]
  · rw [decide_eq_false (by omega), Bool.false_and]
 rw [hbz] at hbz2
 have HZ := Lib.hid hbz2
 clear hbz hbz2 hz h0 h9
 go_enter Tryz.func64, Tryz.ntmps64
 go_upto_region 1 with fail
 go_cut [22] from 6 to 23 (fun s22 wx => s22 = .bool false ∧ Below w.heap.size w wx)
 case first =>
  have hz := HZ.out
  cases c1 : decide ((1 : Int) < (s.size : Int)) with
  | false =>
    go_wp2_with fail
    go_meet
    exact ⟨rfl, Below.refl _ _⟩
  | true =>
    rw [c1, Bool.true_and] at hz
    go_wp2_with fail
    go_meet
    exact ⟨rfl, Below.refl _ _⟩
 case rest =>
 obtain ⟨rfl, hb0⟩ := hcut
 have HB0 := Lib.hid hb0
 clear hb0 HZ
 go_wp2_with fail
 go_loopg [4, 5] s.size (fun g s4 s5 wr => ∃ i : Nat, i + g = s.size ∧ s5 = .int .i64 i ∧ s4 = .int .i64 (valI ((bl s).take i)) ∧ Hid (((bl s).take i).all digC = true) ∧ Hid (Below w.heap.size w wr))
 case atStart => exact ⟨0, by omega, rfl, rfl, rfl, HB0.out⟩
 case round =>
  clear HB0
  obtain ⟨i, hi, rfl, rfl, ha, hb⟩ := hrel
  by_cases hlt : i < s.size
  · have i1 : (i : Int) < (s.size : Int) := by omega
    have hbad := Lib.hid (fun h => cntE_bad (countOk_bad hlt h))
    have ht := take_one hlt
    obtain ⟨v, hv⟩ : ∃ v, v = valI ((bl s).take i) := ⟨_, rfl⟩
    have hvb := valI_small (l := (bl s).take i) (by rw [List.length_take, bl_len]; omega) ha.out
    have hv2 : valI ((bl s).take (i + 1)) = 10 * v + ((s[i].toNat : Int) - 48) := by rw [ht, valI_snoc, hv]
    have ha2 : digC s[i] = true → ((bl s).take (i + 1)).all digC = true := fun h => by rw [ht, List.all_append, ha.out]; simp [h]
    rw [← hv] at hvb
    rw [← hv]
    have HV2 := Lib.hid hv2; have HA2 := Lib.hid ha2; have HB := Lib.hid hb.out
    have hx256 : s[i].toNat < 256 := UInt8.toNat_lt _
    clear ht hv hv2 ha2 ha hb
    by_cases hlo : s[i].toNat < 48
    · have d1 : decide ((s[i].toNat : Int) < 48) = true := decide_eq_true (by omega)
      have HD : Hid (cntE s = .returned (.tuple #[.int .i64 0, .bool false])) := hbad.out (by
       cases hd : digC s[i] with
       | false => rfl
       | true => rw [digC_iff] at hd; omega)
      clear hbad hlo
      go_wp2_with fail
      go_ret2
      exact ⟨HD.out.symm, HB.out⟩
    by_cases hhi : 57 < s[i].toNat
    · have d1 : decide ((s[i].toNat : Int) < 48) = false := decide_eq_false (by omega)
      have d2 : decide ((57 : Int) < (s[i].toNat : Int)) = true := decide_eq_true (by omega)
      have HD : Hid (cntE s = .returned (.tuple #[.int .i64 0, .bool false])) := hbad.out (by
       cases hd : digC s[i] with
       | false => rfl
       | true => rw [digC_iff] at hd; omega)
      clear hbad hlo hhi
      go_wp2_with fail
      go_ret2
      exact ⟨HD.out.symm, HB.out⟩
    have d1 : decide ((s[i].toNat : Int) < 48) = false := decide_eq_false (by omega)
    have d2 : decide ((57 : Int) < (s[i].toNat : Int)) = false := decide_eq_false (by omega)
    have w1 : IntKind.i64.wrap (10 * v) = 10 * v := IntWalk.i64_in _ (by omega)
    have w2 : IntKind.u8.wrap ((s[i].toNat : Int) - 48) = (s[i].toNat : Int) - 48 := IntWalk.u8_in _ (by omega)
    have w3 : IntKind.i64.wrap ((s[i].toNat : Int) - 48) = (s[i].toNat : Int) - 48 := IntWalk.i64_in _ (by omega)
    have w4 : IntKind.i64.wrap (10 * v + ((s[i].toNat : Int) - 48)) = 10 * v + ((s[i].toNat : Int) - 48) := IntWalk.i64_in _ (by omega)
    have HDG : Hid (digC s[i] = true) := digC_iff.2 (by omega)
    clear hbad hlo hhi
    go_wp2_with fail
    go_roundg (s.size - (i + 1))
    case measure => omega
    case rel => exact ⟨i + 1, by omega, by go_num, by rw [HV2.out], HA2.out HDG.out, HB.out⟩
  · obtain rfl : i = s.size := by omega
    have ht : (bl s).take s.size = bl s := List.take_of_length_le (by rw [bl_len]; exact Nat.le_refl _)
    rw [ht] at ha
    rw [ht]
    have HD := Lib.hid (cntE_good (HG.out ha.out)); have HB := Lib.hid hb.out
    clear ha hb ht
    go_wp2_with fail
    go_ret2
    exact ⟨HD.out.symm, HB.out⟩
theorem bl_cons {s : ByteArray} (h : 0 < s.size) : bl s = s[0] :: bl (s.extract 1 s.size) := by
 have h1 : bl (s.extract 1 s.size) = (bl s).drop 1 := Lib.extract_to_end s 1
 rw [h1]
 have h2 := get_bl h
 cases hb : bl s with
 | nil => rw [hb] at h2; simp at h2
 | cons a l =>
   rw [hb] at h2
   simp only [List.getElem?_cons_zero, Option.some.injEq] at h2
   rw [h2]; rfl
theorem neg_head {s : ByteArray} (h : 0 < s.size) (h45 : s[0] = 45) : negL (bl s) = true ∧ tailL (bl s) = bl (s.extract 1 s.size) := by
 have e := bl_cons h
 rw [h45] at e
 rw [e]
 exact ⟨neg_cons _, tail_neg _⟩
theorem not_head {s : ByteArray} (h : 0 < s.size) (h45 : s[0] ≠ 45) : negL (bl s) = false ∧ tailL (bl s) = bl s := by
 have e := bl_cons h
 have hn : negL (bl s) = false := by
  rw [e]
  unfold negL Lib.hasPrefix
  simp [List.isPrefixOf, Ne.symm h45]
 exact ⟨hn, tail_not hn⟩
def sgnE (s : ByteArray) : Ending := .returned (.tuple #[.int .i64 (intV (bl s)), .bool (intOk (bl s))])
set_option maxRecDepth 100000 in
set_option maxHeartbeats 2000000 in
theorem signedR_all (s : ByteArray) (w : World) : Calls Tryz.prog 65 #[.string s] w fun e w' => e = sgnE s ∧ Below w.heap.size w w' := by
 have HDG : Hid (∀ (x : ByteArray) W, Calls Tryz.prog 64 #[.string x] W fun e w' => e = .returned (.tuple #[.int .i64 (countV (bl x)), .bool (countOk (bl x))]) ∧ Below W.heap.size W w') := fun x W => digitsR_any x W
 by_cases h0 : s.size = 0
 · have he : s = ByteArray.empty := by
    obtain ⟨⟨l⟩⟩ := s
    cases l with
    | nil => rfl
    | cons a l => simp [ByteArray.size] at h0
   subst he
   clear h0
   go_enter Tryz.func65, Tryz.ntmps65
   go_wp2_with (go_at_call 64; refine (HDG.out _ _).mono ?_; rintro e w1 ⟨rfl, hb1⟩; have HB1 := Lib.hid hb1; clear hb1)
   go_ret2
   exact ⟨rfl, HB1.out⟩
 have hp : 0 < s.size := by omega
 have hne : (s.toList == []) = false := by
  rw [ByteArray.toList_eq, beq_eq_false_iff_ne]
  intro e
  have := bl_len s
  rw [show bl s = [] from e] at this
  simp at this; omega
 have hne2 : (s.toList != []) = true := by rw [bne, hne]; rfl
 have i0 : (0 : Int) < (s.size : Int) := by omega
 have i1 : (1 : Int) ≤ (s.size : Int) := by omega
 by_cases h45 : s[0] = 45
 · obtain ⟨n1, n2⟩ := neg_head hp h45
   have g3 : ((s[0].toNat : Int) == 45) = true := by rw [h45]; rfl
   obtain ⟨x, hx⟩ : ∃ x, x = s.extract 1 s.size := ⟨_, rfl⟩
   rw [← hx] at n2
   obtain ⟨v, hv⟩ : ∃ v, v = countV (bl x) := ⟨_, rfl⟩
   obtain ⟨ok, hok⟩ : ∃ ok, ok = countOk (bl x) := ⟨_, rfl⟩
   have hvb := countV_bd (bl x)
   have HDX : Hid (∀ W, Calls Tryz.prog 64 #[.string (s.extract 1 s.size)] W fun e w' => e = .returned (.tuple #[.int .i64 v, .bool ok]) ∧ Below W.heap.size W w') := fun W => by
    rw [hv, hok, hx]; exact HDG.out _ W
   rw [← hv] at hvb
   have a1 : IntKind.i64.wrap (0 - v) = 0 - v := IntWalk.i64_in _ (by omega)
   have HE : Hid (sgnE s = .returned (.tuple #[.int .i64 (0 - v), .bool (ok && decide (0 < v))])) := by
    unfold Hid sgnE intV intOk
    rw [n1, n2, cond_true, cond_true, ← hv, ← hok, show -v = 0 - v by omega]
   clear h0 h45 n1 n2 hx hv hok HDG
   cases ok with
   | true =>
     go_enter Tryz.func65, Tryz.ntmps65
     go_wp2_with (go_at_call 64; refine (HDX.out _).mono ?_; rintro e w1 ⟨rfl, hb1⟩; have HB1 := Lib.hid hb1; clear hb1)
     go_ret2
     exact ⟨by rw [HE.out]; simp, HB1.out⟩
   | false =>
     go_enter Tryz.func65, Tryz.ntmps65
     go_wp2_with (go_at_call 64; refine (HDX.out _).mono ?_; rintro e w1 ⟨rfl, hb1⟩; have HB1 := Lib.hid hb1; clear hb1)
     go_ret2
     exact ⟨by rw [HE.out]; simp, HB1.out⟩
 · obtain ⟨n1, n2⟩ := not_head hp h45
   have g3 : ((s[0].toNat : Int) == 45) = false := by
    rw [beq_eq_false_iff_ne]
    intro e
    exact h45 (UInt8.toNat_inj.1 (by show s[0].toNat = 45; omega))
   have HE : Hid (sgnE s = .returned (.tuple #[.int .i64 (countV (bl s)), .bool (countOk (bl s))])) := by
    unfold Hid sgnE intV intOk
    rw [n1, n2, cond_false, cond_false]
   clear h0 h45 n1 n2
   go_enter Tryz.func65, Tryz.ntmps65
   go_wp2_with (go_at_call 64; refine (HDG.out _ _).mono ?_; rintro e w1 ⟨rfl, hb1⟩; have HB1 := Lib.hid hb1; clear hb1)
   go_ret2
   exact ⟨HE.out.symm, HB1.out⟩
theorem cutG_snoc_eq (c : UInt8) : ∀ l : List UInt8, cutG c 0 (l ++ [c]) = cutG c 0 l ++ [[]]
 | [] => by
   show (if c = c then _ else _) = _
   rw [if_pos rfl]; rfl
 | y :: l => by
   have ih := cutG_snoc_eq c l
   show (if y = c then _ else consH y (cutG c 0 (l ++ [c]))) = (if y = c then _ else consH y (cutG c 0 l)) ++ [[]]
   by_cases h : y = c
   · rw [if_pos h, if_pos h]
     show [c].take 0 :: cutG c 0 (l ++ [c]) = _
     rw [ih]; rfl
   · rw [if_neg h, if_neg h, ih]
     cases hc : cutG c 0 l with
     | nil => exact absurd hc (cutG_ne c 0 l)
     | cons w ws => rfl
theorem cutG_snoc_ne {c x : UInt8} (hx : x ≠ c) : ∀ {l : List UInt8} {ls : List (List UInt8)} {a : List UInt8}, cutG c 0 l = ls ++ [a] → cutG c 0 (l ++ [x]) = ls ++ [a ++ [x]]
 | [], ls, a, h => by
   have h1 : [[]] = ls ++ [a] := h
   have h2 : ls = [] ∧ a = [] := by
    cases ls with
    | nil => simp at h1; exact ⟨rfl, h1⟩
    | cons b bs => simp at h1
   rw [h2.1, h2.2]
   show (if x = c then _ else _) = _
   rw [if_neg hx]; rfl
 | y :: l, ls, a, h => by
   have h0 : (if y = c then [c].take 0 :: cutG c 0 l else consH y (cutG c 0 l)) = ls ++ [a] := h
   show (if y = c then [c].take 0 :: cutG c 0 (l ++ [x]) else consH y (cutG c 0 (l ++ [x]))) = _
   by_cases hy : y = c
   · rw [if_pos hy] at h0
     rw [if_pos hy]
     cases ls with
     | nil =>
       exfalso
       have h1 := congrArg List.length h0
       simp at h1
       exact cutG_ne c 0 l h1
     | cons b bs =>
       rw [List.cons_append] at h0
       injection h0 with h1 h2
       rw [cutG_snoc_ne hx h2, h1]; rfl
   · rw [if_neg hy] at h0
     rw [if_neg hy]
     cases hc : cutG c 0 l with
     | nil => exact absurd hc (cutG_ne c 0 l)
     | cons w ws =>
       rw [hc] at h0
       have h1 : (y :: w) :: ws = ls ++ [a] := h0
       cases ls with
       | nil =>
         have h2 : (y :: w) = a ∧ ws = [] := by simpa using h1
         have h3 := cutG_snoc_ne (ls := []) (a := w) hx (by rw [hc, h2.2]; rfl)
         rw [h3, ← h2.1]; rfl
       | cons b bs =>
         rw [List.cons_append] at h1
         injection h1 with h2 h3
         have h4 := cutG_snoc_ne (ls := w :: bs) (a := a) hx (by rw [hc, h3]; rfl)
         rw [h4, ← h2]; rfl
theorem ext_lb (s : ByteArray) (f i : Nat) : s.extract f i = lb (((bl s).take i).drop f) := by
 have h : bl (s.extract f i) = ((bl s).take i).drop f := by
  show (s.extract f i).data.toList = _
  rw [Lib.extract_data, List.drop_take]; rfl
 rw [← h, lb_bl]
set_option maxRecDepth 100000 in
set_option maxHeartbeats 2000000 in
theorem splitR_full (s : ByteArray) (c : UInt8) (w : World) (hs : s.size ≤ 100000) :
 Calls Tryz.prog 30 #[.string s, .int .u8 (c.toNat : Int)] w fun e w' => ∃ A k, e = .returned (.slice A (cutG c 0 (bl s)).length k) ∧ Rd w' A (strs ((cutG c 0 (bl s)).map lb)) ∧ Below w.heap.size w w' := by
 obtain ⟨M, hM⟩ : ∃ M, M = w.heap.size := ⟨_, rfl⟩
 have HM := Lib.hid hM
 have hst0 : w.ownsRow M 9 1 (.slice none 0 0) 0 (strs []) := ⟨by simp [strs], .inl ⟨rfl, rfl⟩⟩
 have HST0 := Lib.hid hst0
 obtain ⟨iS, hiS, hiS0, hiS1, hiS2⟩ := info_parts info9
 obtain ⟨cv, hcv⟩ : ∃ cv : Nat, cv = c.toNat := ⟨_, rfl⟩
 have HCV := Lib.hid hcv
 rw [← hcv]
 clear hM hst0 hcv
 go_enter Tryz.func30, Tryz.ntmps30
 go_wp2_with fail
 go_loopg [5, 6, 7] s.size (fun g s5 s6 s7 wr => ∃ (i f : Nat) (ls : List ByteArray), i + g = s.size ∧ s7 = .int .i64 i ∧ s6 = .int .i64 f ∧ f ≤ i ∧ Hid (∃ bs, ls = bs.map lb ∧ cutG c 0 ((bl s).take i) = bs ++ [((bl s).take i).drop f]) ∧ Hid (wr.ownsRow M 9 1 s5 ls.length (strs ls)) ∧ Hid (Below M w wr))
 case atStart => exact ⟨0, 0, [], by omega, rfl, rfl, Nat.le_refl _, ⟨[], rfl, rfl⟩, HST0.out, Below.refl _ _⟩
 case round =>
  clear HST0
  obtain ⟨i, f, ls, hi, rfl, rfl, hf, hl, hown, hb⟩ := hrel
  have hmz : M ≤ wr.heap.size := by have h1 := hb.out.size; have h2 := HM.out; omega
  obtain ⟨nl, hnl⟩ : ∃ nl, nl = ls.length := ⟨_, rfl⟩
  have hln : nl ≤ 100000 := by
   obtain ⟨bs, h1, h4⟩ := hl.out
   have h5 := cut_count c ((bl s).take i)
   rw [h4, List.length_append, List.length_singleton] at h5
   have h2 : ((bl s).take i).count c ≤ ((bl s).take i).length := List.count_le_length
   have h3 : (bl s).length = s.size := by show s.data.toList.length = _; simp
   rw [List.length_take, h3] at h2
   rw [hnl, h1, List.length_map]
   omega
  have HNL := Lib.hid hnl
  by_cases hlt : i < s.size
  · have hs3 := Lib.hid (take_one hlt)
    have i1 : (i : Int) < (s.size : Int) := by omega
    have i2 : (f : Int) ≤ (i : Int) := by omega
    by_cases hc : s[i] = c
    · have e1 : ((s[i].toNat : Int) == (cv : Int)) = true := by rw [hc, HCV.out]; simp
      have HC := Lib.hid hc
      have HO := Lib.hid hown.out
      have ho2 := hown.out
      rw [← hnl] at ho2
      have HO2 := Lib.hid ho2
      clear hc hown ho2 hnl
      go_wp2_with (at_builtin; refine wpList_append_own_at _ rfl _ _ 78 rfl M 9 iS (.string ⟨#[]⟩) 1 16 Tryz.underlying78 hiS hiS0 hiS1 hiS2 rfl (by decide) _ nl (strs ls) rfl (HO2.out.alloc _) ⟨wr.heap.size, 0, none⟩ 1 1 [.string (s.extract f i)] rfl rfl (news1 _ _ _ _ rfl) (by simp [Value.oneCell']) (by unfold maxLen; omega) (by omega) (by simp; omega) ?_; intro v' w1 hown' hgrow _ hat2)
      go_roundg (s.size - (i + 1))
      case measure => omega
      case rel =>
       refine ⟨i + 1, i + 1, ls ++ [s.extract f i], by omega, by go_num, by go_num, Nat.le_refl _, ?_, ?_, Below.app hb.out hmz HO2.out hgrow⟩
       · obtain ⟨bs, k1, k2⟩ := hl.out
         refine ⟨bs ++ [((bl s).take i).drop f], ?_, ?_⟩
         · rw [List.map_append, ← k1, List.map_cons, List.map_nil, ext_lb]
         · have h3 : ((bl s).take (i + 1)).length ≤ i + 1 := List.length_take_le _ _
           rw [List.drop_of_length_le h3, hs3.out, HC.out, cutG_snoc_eq, k2]
       · have h := hown'
         unfold Hid
         rw [List.length_append, List.length_singleton, ← HNL.out]
         unfold strs at h ⊢
         rw [List.map_append]
         exact h
    · have e1 : ((s[i].toNat : Int) == (cv : Int)) = false := by
       rw [beq_eq_false_iff_ne, HCV.out]
       intro e
       exact hc (UInt8.toNat_inj.1 (by omega))
      have HC := Lib.hid hc
      clear hc hnl
      go_wp2_with fail
      go_roundg (s.size - (i + 1))
      case measure => omega
      case rel =>
       refine ⟨i + 1, f, ls, by omega, by go_num, rfl, by omega, ?_, hown, hb⟩
       obtain ⟨bs, k1, k2⟩ := hl.out
       refine ⟨bs, k1, ?_⟩
       have h3 : f ≤ ((bl s).take i).length := by rw [List.length_take, bl_len]; omega
       rw [hs3.out, cutG_snoc_ne HC.out k2, List.drop_append_of_le_length h3]
  · obtain rfl : i = s.size := by omega
    have i2 : (f : Int) ≤ (s.size : Int) := by omega
    have ho2 := hown.out
    rw [← hnl] at ho2
    have HO2 := Lib.hid ho2
    clear hown ho2 hnl
    go_wp2_with (at_builtin; refine wpList_append_own_at _ rfl _ _ 78 rfl M 9 iS (.string ⟨#[]⟩) 1 16 Tryz.underlying78 hiS hiS0 hiS1 hiS2 rfl (by decide) _ nl (strs ls) rfl (HO2.out.alloc _) ⟨wr.heap.size, 0, none⟩ 1 1 [.string (s.extract f s.size)] rfl rfl (news1 _ _ _ _ rfl) (by simp [Value.oneCell']) (by unfold maxLen; omega) (by omega) (by simp; omega) ?_; intro v' w1 hown' hgrow _ hat2)
    obtain ⟨A', k', rfl, hrA⟩ := owned_slice hown'
    have HL := Lib.hid (Below.app hb.out hmz HO2.out hgrow)
    obtain ⟨bs, k1, k2⟩ := hl.out
    rw [List.take_of_length_le (by rw [bl_len]; exact Nat.le_refl _)] at k2
    have hall : strs ls ++ [Value.string (s.extract f s.size)] = strs ((cutG c 0 (bl s)).map lb) := by
     rw [k2, List.map_append, ← k1, List.map_cons, List.map_nil]
     have e : lb ((bl s).drop f) = s.extract f s.size := by
      have h1 := ext_lb s f s.size
      rw [List.take_of_length_le (by rw [bl_len]; exact Nat.le_refl _)] at h1
      exact h1.symm
     rw [e]
     unfold strs
     rw [List.map_append]; rfl
    have hlen : nl + 1 = (cutG c 0 (bl s)).length := by
     rw [k2, List.length_append, List.length_singleton, HNL.out, k1, List.length_map]
    rw [hall] at hrA
    have HRA := Lib.hid hrA; have HLE := Lib.hid hlen
    clear hown' hgrow hat2 hall hrA hlen k1 k2
    go_wp2_with fail
    go_ret
    exact ⟨A', k', by rw [← HLE.out]; rfl, HRA.out, HM.out ▸ HL.out⟩
end Go.Proofs.YtjdniebjhilooaaGreatDoor
