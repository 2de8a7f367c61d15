/- Contracts at the values of the document's examples. -/
import Derived.Test.YtjgofnbfpoephaaGreatDoorM38
import Derived.Test.YtjgofnbfpoephaaGreatDoorM05
import Derived.Test.YtjgofnbfpoephaaGreatDoorM09
namespace Go.Proofs.YtjgofnbfpoephaaGreatDoor
set_option linter.all false
open Go.RowKit Go.Fl
set_option linter.unusedVariables false
set_option linter.unusedSimpArgs false

/-- all tables that the examples read -/
structure Aw (w : World) : Prop where
  it : It w
  mx : Mx w
  tz : Tz w
  pw : Pw w
theorem Aw.old {w w' : World} (h : Aw w) (hb : Below w.heap.size w w') : Aw w' := ⟨h.it.old hb, h.mx.old hb, h.tz.old hb, h.pw.old hb⟩

def x4 : List Int := [16, 32, 48, 64]
theorem x4_bd (j : Nat) : (x4.getD j 0).natAbs ≤ 16384 := by
  match j with
  | 0 | 1 | 2 | 3 => decide
  | j + 4 => simp [x4]
theorem x4_S : ∀ j (h : j < [1065353216, 1073741824, 1077936128, 1082130432].length), S [1065353216, 1073741824, 1077936128, 1082130432][j] (x4.getD j 0) := by
  intro j h
  match j, h with
  | 0, _ => exact V32_some (x := 1065353216) (V := 16 * (2 ^ 145 : Nat)) (by kernel_rfl)
  | 1, _ => exact V32_some (x := 1073741824) (V := 32 * (2 ^ 145 : Nat)) (by kernel_rfl)
  | 2, _ => exact V32_some (x := 1077936128) (V := 48 * (2 ^ 145 : Nat)) (by kernel_rfl)
  | 3, _ => exact V32_some (x := 1082130432) (V := 64 * (2 ^ 145 : Nat)) (by kernel_rfl)
theorem a1 (w : World) : Calls Tryz.prog 15 #[.int .i64 0, .int .i64 3] w fun e w' => ∃ g, e = .returned (.tuple #[.slice (some ⟨g, 0, none⟩) 3 3, .int .i64 0]) ∧ Row w' g 3 (ints [1, 0, 2]) ∧ Below w.heap.size w w' :=
  (draw_ok 0 3 w (by decide) (by decide)).mono fun e w' ⟨g, h1, h2, _, h3⟩ => ⟨g, h1, by rw [← v_draw]; exact h2, h3⟩
/-- the transform of 1, 2, 3, 4 -/
structure CxT (r0 i0 r1 i1 r2 i2 r3 i3 : Nat) : Prop where
  a0 : S r0 160
  b0 : S i0 0
  a1 : S r1 (-32)
  b1 : S i1 32
  a2 : S r2 (-32)
  b2 : S i2 0
  a3 : S r3 (-32)
  b3 : S i3 (-32)
theorem a2 (w : World) (h : Aw w) : Calls Tryz.prog 82 #[.agg #[.float .f32 1065353216, .float .f32 1073741824, .float .f32 1077936128, .float .f32 1082130432]] w fun e w' => ∃ r0 i0 r1 i1 r2 i2 r3 i3, e = .returned (.tuple #[.agg #[.complex .f32 r0 i0, .complex .f32 r1 i1, .complex .f32 r2 i2, .complex .f32 r3 i3], .int .i64 0]) ∧ CxT r0 i0 r1 i1 r2 i2 r3 i3 ∧ Below w.heap.size w w' :=
  (four_ok _ _ _ _ x4 w h.pw x4_bd x4_S (by kernel_rfl)).mono fun e w' ⟨ps, h1, ⟨hl, h2⟩, h3⟩ => by
    match ps, hl with
    | [(r0, i0), (r1, i1), (r2, i2), (r3, i3)], _ =>
      have t0 := h2 0 (by simp); have t1 := h2 1 (by simp); have t2 := h2 2 (by simp); have t3 := h2 3 (by simp)
      rw [show PaN x4 4 0 0 = (160, 0) by kernel_rfl] at t0
      rw [show PaN x4 4 0 1 = (-32, 32) by kernel_rfl] at t1
      rw [show PaN x4 4 0 2 = (-32, 0) by kernel_rfl] at t2
      rw [show PaN x4 4 0 3 = (-32, -32) by kernel_rfl] at t3
      exact ⟨r0, i0, r1, i1, r2, i2, r3, i3, h1, ⟨t0.1, t0.2, t1.1, t1.2, t2.1, t2.2, t3.1, t3.2⟩, h3⟩
structure FlT (y0 y1 y2 y3 : Nat) : Prop where
  a0 : S y0 16
  a1 : S y1 32
  a2 : S y2 48
  a3 : S y3 64
theorem a3 (r0 i0 r1 i1 r2 i2 r3 i3 : Nat) (w : World) (h : Aw w) (hc : CxT r0 i0 r1 i1 r2 i2 r3 i3) : Calls Tryz.prog 83 #[.agg #[.complex .f32 r0 i0, .complex .f32 r1 i1, .complex .f32 r2 i2, .complex .f32 r3 i3]] w fun e w' => ∃ y0 y1 y2 y3, e = .returned (.tuple #[.agg #[.float .f32 y0, .float .f32 y1, .float .f32 y2, .float .f32 y3], .int .i64 0]) ∧ FlT y0 y1 y2 y3 ∧ Below w.heap.size w w' :=
  (unfour_ok r0 i0 r1 i1 r2 i2 r3 i3 x4 w h.pw x4_bd (by
    intro j hj
    match j, hj with
    | 0, _ => rw [show fourP x4 0 4 = (160, 0) by kernel_rfl]; exact ⟨hc.a0, hc.b0⟩
    | 1, _ => rw [show fourP x4 1 4 = (-32, 32) by kernel_rfl]; exact ⟨hc.a1, hc.b1⟩
    | 2, _ => rw [show fourP x4 2 4 = (-32, 0) by kernel_rfl]; exact ⟨hc.a2, hc.b2⟩
    | 3, _ => rw [show fourP x4 3 4 = (-32, -32) by kernel_rfl]; exact ⟨hc.a3, hc.b3⟩)).mono fun e w' ⟨ys, h1, ⟨hl, h2⟩, h3⟩ => by
    match ys, hl with
    | [y0, y1, y2, y3], _ =>
      have t0 := h2 0 (by simp); have t1 := h2 1 (by simp); have t2 := h2 2 (by simp); have t3 := h2 3 (by simp)
      exact ⟨y0, y1, y2, y3, h1, ⟨t0, t1, t2, t3⟩, h3⟩
theorem k0_bytes : ∀ j (h : j < 8), isByte (([0, 0, 0, 0, 0, 0, 0, 0] : List Int)[j]) := by
  intro j h
  have : ∀ x ∈ ([0, 0, 0, 0, 0, 0, 0, 0] : List Int), isByte x := by simp [isByte]
  exact this _ (List.getElem_mem _)
def K8 : Array Value := #[.int .u8 0, .int .u8 0, .int .u8 0, .int .u8 0, .int .u8 0, .int .u8 0, .int .u8 0, .int .u8 0]
theorem a4 (g : Nat) (w : World) (h : Row w g 5 [.int .u8 5, .int .u8 1]) : Calls Tryz.prog 31 #[.agg #[.int .u8 0, .int .u8 0, .int .u8 0, .int .u8 0, .int .u8 0, .int .u8 0, .int .u8 0, .int .u8 0], .slice (some ⟨g, 0, none⟩) 2 2] w fun e w' => e = .returned (.tuple #[.agg #[.int .u8 76, .int .u8 230, .int .u8 188, .int .u8 206, .int .u8 28, .int .u8 166, .int .u8 108, .int .u8 110], .int .i64 0]) ∧ Below w.heap.size w w' :=
  (seal_any 0 0 0 0 0 0 0 0 _ 2 2 [5, 1] w (Rd.row h) rfl (by decide) k0_bytes).mono fun e w' ⟨h1, h2⟩ => ⟨by rw [h1, show sealL [0, 0, 0, 0, 0, 0, 0, 0] [5, 1] = [76, 230, 188, 206, 28, 166, 108, 110] from v_seal]; rfl, h2⟩
def encA : Array Value := (u8s encAll).toArray
theorem a5 (w : World) : Calls Tryz.prog 29 #[.agg #[.int .u8 0, .int .u8 0, .int .u8 0, .int .u8 0, .int .u8 0, .int .u8 0, .int .u8 0, .int .u8 0], .agg #[.int .i64 3, .int .i64 258, .int .i64 2, .float .f32 1065353216, .float .f32 3204448256, .float .f32 0, .float .f32 0, .float .f32 0, .float .f32 0, .float .f32 0, .float .f32 0]] w fun e w' => ∃ fs : List Value, e = .returned (.tuple #[.agg fs.toArray, .int .i64 0]) ∧ Hid (fs = u8s encAll) ∧ Below w.heap.size w w' :=
  (encode_ok 0 0 0 0 0 0 0 0 3 258 2 _ _ _ _ _ _ _ _ w v_pk v_samp (by decide) (by decide) (by decide) k0_bytes).mono fun e w' ⟨h1, h2⟩ => ⟨_, h1, by unfold Hid; rw [show encB [0, 0, 0, 0, 0, 0, 0, 0] 3 258 2 [1065353216, 3204448256, 0, 0, 0, 0, 0, 0] = encAll from v_encAll], h2⟩
theorem app_inB : ([.int .u8 1, .int .u8 7] : List Value) ++ u8s encAll = byts inB := by kernel_rfl
theorem one_slice {w : World} {B : Nat} {e : TypeId} {s n : Nat} {v : Value} {xs : List Value} (h : w.ownsRow B e s v n xs) (hn : 0 < n) : ∃ g c, v = .slice (some ⟨g, 0, none⟩) n c ∧ Rd w (some ⟨g, 0, none⟩) xs := by
  obtain ⟨g, c, rfl, -, -⟩ := ownsRow.addr h hn
  exact ⟨g, c, rfl, owned_rd h⟩
def pk1 : List Value := [.int .i64 3, .int .i64 258, .int .i64 2, .float .f32 1065353216, .float .f32 3204448256, .float .f32 0, .float .f32 0, .float .f32 0, .float .f32 0, .float .f32 0, .float .f32 0]
theorem a6 (A : Option Addr) (c : Nat) (w : World) (hA : Rd w A (byts inB)) (hc : 31 ≤ c) : Calls Tryz.prog 37 #[.agg #[.int .u8 0, .int .u8 0, .int .u8 0, .int .u8 0, .int .u8 0, .int .u8 0, .int .u8 0, .int .u8 0], .slice A 31 c] w fun e w' => ∃ g c1 g2 c2, e = .returned (.tuple #[.slice (some ⟨g, 0, none⟩) 1 c1, .slice (some ⟨g2, 0, none⟩) 1 c2, .int .i64 0]) ∧ Rd w' (some ⟨g, 0, none⟩) pk1 ∧ Rd w' (some ⟨g2, 0, none⟩) (spanC [(0, 2)]) ∧ Below w.heap.size w w' :=
  (received_ok 0 0 0 0 0 0 0 0 A 31 c inB w hA rfl hc (by decide) k0_bytes).mono fun e w' ⟨v, u, h1, h2, h3, h4⟩ => by
    rw [show recvL [0, 0, 0, 0, 0, 0, 0, 0] inB = ([pk1], [(0, 2)]) from v_recv] at h2 h3
    obtain ⟨g, c1, rfl, k1⟩ := one_slice h2 (by decide)
    obtain ⟨g2, c2, rfl, k2⟩ := one_slice h3 (by decide)
    exact ⟨g, c1, g2, c2, h1, k1, k2, h4⟩
def pk2 : PkT := (3, 1, 2, [1065353216, 1073741824, 0, 0, 0, 0, 0, 0])
theorem a7 (A : Option Addr) (c : Nat) (w : World) (hA : Rd w A (pkV pk2)) : Calls Tryz.prog 44 #[.slice A 1 c, .int .i64 3, .int .i64 10] w fun e w' => ∃ g g3 c3, e = .returned (.tuple #[.slice (some ⟨g, 0, none⟩) 10 10, .slice (some ⟨g3, 0, none⟩) 1 c3, .int .i64 0]) ∧ Rd w' (some ⟨g, 0, none⟩) (flts [0, 0, 0, 0, 0, 0, 0, 0, 1065353216, 1073741824]) ∧ Rd w' (some ⟨g3, 0, none⟩) (spanC [(0, 8)]) ∧ Below w.heap.size w w' :=
  (assembled_ok A 1 c [pk2] 3 10 w (by simpa [pksC] using hA) (by intro p hp; simp at hp; subst hp; rfl) rfl v_asmE).mono fun e w' ⟨gS, v, h1, h2, h3, _, h4⟩ => by
    have e1 : asmL 3 ((10 : Nat) : Int) [pk2] = _ := v_asm
    rw [e1] at h2 h3
    rw [show gapsL ([0, 0, 0, 0, 0, 0, 0, 0, 1065353216, 1073741824], [false, false, false, false, false, false, false, false, true, true]).2 = [(0, 8)] from v_gap] at h3
    obtain ⟨g3, c3, rfl, k3⟩ := one_slice h3 (by decide)
    exact ⟨gS, g3, c3, h1, Rd.row h2, k3, h4⟩
/-- equal numbers are equal floats -/
theorem S_same {x y : Nat} {n : Int} (h : S x n) (k : S y n) : (FloatKind.f32.format.order x y == some .eq) = true := by
  show (Ieee.single.order x y == some Ordering.eq) = true
  rw [order_eq_iff h k]; simp
theorem S_of {x : Nat} {n : Int} (h : V32 x = some (n * (2 ^ 145 : Nat))) : S x n := V32_some h
theorem c10 : S 1092616192 160 := S_of (by kernel_rfl)
theorem cm2 : S 3221225472 (-32) := S_of (by kernel_rfl)
theorem cp2 : S 1073741824 32 := S_of (by kernel_rfl)
theorem cp1 : S 1065353216 16 := S_of (by kernel_rfl)
theorem cp3 : S 1077936128 48 := S_of (by kernel_rfl)
theorem cp4 : S 1082130432 64 := S_of (by kernel_rfl)
theorem neqB {r0 i0 r1 i1 r2 i2 r3 i3 : Nat} (h : CxT r0 i0 r1 i1 r2 i2 r3 i3) (w : World) : (binOp .neq 147 (.agg #[.complex .f32 r0 i0, .complex .f32 r1 i1, .complex .f32 r2 i2, .complex .f32 r3 i3]) (.agg #[.complex .f32 1092616192 0, .complex .f32 3221225472 1073741824, .complex .f32 3221225472 0, .complex .f32 3221225472 3221225472])).run Tryz.prog w = .ok (.bool false) w := by
  have hall : all2 cEq (cxs [(r0, i0), (r1, i1), (r2, i2), (r3, i3)]) (cxs [(1092616192, 0), (3221225472, 1073741824), (3221225472, 0), (3221225472, 3221225472)]) = true := by
    refine all2_cEq _ _ rfl (fun j h1 h2 => ?_)
    match j, h1 with
    | 0, _ => exact ⟨160, 0, h.a0, c10, h.b0, S.zero⟩
    | 1, _ => exact ⟨-32, 32, h.a1, cm2, h.b1, cp2⟩
    | 2, _ => exact ⟨-32, 0, h.a2, cm2, h.b2, S.zero⟩
    | 3, _ => exact ⟨-32, -32, h.a3, cm2, h.b3, cm2⟩
  have := neqCx _ _ rfl rfl hall w
  simp only [cxs, List.map_cons, List.map_nil] at this
  exact this
theorem sameF4 {y0 y1 y2 y3 : Nat} (h : FlT y0 y1 y2 y3) : sameF [y0, y1, y2, y3] [1065353216, 1073741824, 1077936128, 1082130432] = true := by
  simp only [sameF, S_same h.a0 cp1, S_same h.a1 cp2, S_same h.a2 cp3, S_same h.a3 cp4, Bool.and_true]
theorem neqF4 {y0 y1 y2 y3 : Nat} (h : FlT y0 y1 y2 y3) (w : World) : (binOp .neq 150 (.agg #[.float .f32 y0, .float .f32 y1, .float .f32 y2, .float .f32 y3]) (.agg #[.float .f32 1065353216, .float .f32 1073741824, .float .f32 1077936128, .float .f32 1082130432])).run Tryz.prog w = .ok (.bool false) w := by
  have hE := eqFloats 9998 150 4 Tryz.underlying150 [y0, y1, y2, y3] [1065353216, 1073741824, 1077936128, 1082130432] rfl rfl w
  rw [sameF4 h] at hE
  simp only [flts, List.map_cons, List.map_nil] at hE
  have h2 : (Op.equal 150 (.agg #[.float .f32 y0, .float .f32 y1, .float .f32 y2, .float .f32 y3]) (.agg #[.float .f32 1065353216, .float .f32 1073741824, .float .f32 1077936128, .float .f32 1082130432])).run Tryz.prog w = .ok true w := hE
  simp only [binOp]
  simp [h2]
theorem below_dn (B : Nat) (w : World) (q : Nat) : Below B w (w.drewN q) := below_row (Below.refl B w) q
theorem s20 (A B : Option Addr) (c d : Nat) (xs : List Int) (w : World) (hA : Rd w A (ints xs)) (hB : Rd w B (ints xs)) (hm : xs.length ≤ 1000) :
    Calls Tryz.prog 20 #[.slice A xs.length c, .slice B xs.length d] w fun e w' => e = .returned (.bool true) ∧ Below w.heap.size w w' :=
  (sameInts_any A B _ _ c d xs xs w hA hB rfl rfl (by omega) (by omega)).mono fun e w' ⟨h1, q, h2⟩ => ⟨by rw [h1, decide_eq_true rfl], by rw [h2]; exact below_dn _ _ _⟩
theorem s42 (A B : Option Addr) (c d : Nat) (xs : List (Int × Int)) (w : World) (hA : Rd w A (spanC xs)) (hB : Rd w B (spanC xs)) (hm : xs.length ≤ 1000) (hs : sameSp xs xs = true) :
    Calls Tryz.prog 42 #[.slice A xs.length c, .slice B xs.length d] w fun e w' => e = .returned (.bool true) ∧ Below w.heap.size w w' :=
  (sameSpans_any A B _ _ c d xs xs w hA hB rfl rfl (by omega)).mono fun e w' ⟨h1, q, h2⟩ => ⟨by rw [h1, hs], by rw [h2]; exact below_dn _ _ _⟩
theorem s50 (A B : Option Addr) (n c d : Nat) (xs ys : List Nat) (w : World) (hA : Rd w A (flts xs)) (hB : Rd w B (flts ys)) (hn : n = xs.length) (hn2 : n = ys.length) (hm : xs.length ≤ 5000) (hs : sameF xs ys = true) :
    Calls Tryz.prog 50 #[.slice A n c, .slice B n d] w fun e w' => e = .returned (.bool true) ∧ Below w.heap.size w w' :=
  (sameSamples_any A B n n c d xs ys w hA hB hn hn2 (by omega)).mono fun e w' ⟨h1, q, h2⟩ => ⟨by rw [h1, hs], by rw [h2]; exact below_dn _ _ _⟩
theorem s72 (A B : Option Addr) (n c d : Nat) (xs : List ByteArray) (w : World) (hA : Rd w A (strs xs)) (hB : Rd w B (strs xs)) (hn : n = xs.length) (hm : xs.length ≤ 5000) (hs : sameW xs xs = true) :
    Calls Tryz.prog 72 #[.slice A n c, .slice B n d] w fun e w' => e = .returned (.bool true) ∧ Below w.heap.size w w' :=
  (sameWords_any A B n n c d xs xs w hA hB hn hn (by omega)).mono fun e w' ⟨h1, q, h2⟩ => ⟨by rw [h1, hs], by rw [h2]; exact below_dn _ _ _⟩
def iEq : Value → Value → Bool
  | .int .u8 a, .int .u8 b => a == b
  | _, _ => false
theorem all2_iEq : ∀ xs : List Int, all2 iEq (u8s xs) (u8s xs) = true
  | [] => rfl
  | x :: xs => by
    have := all2_iEq xs
    simp only [u8s, List.map_cons, all2, iEq] at this ⊢
    rw [this]; simp
theorem isAggU (w : World) : (isAgg 5).run Tryz.prog w = .ok false w := by kernel_rfl
theorem eqIntU (d : Nat) (a b : Int) (w : World) : (Op.equalIn (d + 1) 5 (.int .u8 a) (.int .u8 b)).run Tryz.prog w = .ok (a == b) w := by
  simp [Op.equalIn, run_underlying Tryz.underlying5]
theorem neqU8 (t : TypeId) (n : Nat) (hu : Tryz.prog.underlying t = some (.array n 5)) (xs : List Int) (hx : xs.length = n) (w : World) :
    (Op.equal t (.agg (u8s xs).toArray) (.agg (u8s xs).toArray)).run Tryz.prog w = .ok true w := by
  obtain ⟨i, hi, _⟩ := info_parts info5
  have := run_eqArray (P := Tryz.prog) w 9999 t 5 n i iEq (u8s xs) (u8s xs) hu hi (by kernel_rfl) (part_scalar w _ isAggU) ?_ (by simpa [u8s] using hx) (by simpa [u8s] using hx)
  · rw [all2_iEq] at this; exact this
  intro j hj
  have hj2 : j < xs.length := by simpa [u8s] using hj
  rw [show (u8s xs).getD j undef = .int .u8 xs[j] by simp [u8s, hj2], eqIntU]; rfl
theorem neqK (w : World) : (binOp .neq 47 (.agg #[.int .u8 76, .int .u8 230, .int .u8 188, .int .u8 206, .int .u8 28, .int .u8 166, .int .u8 108, .int .u8 110]) (.agg #[.int .u8 76, .int .u8 230, .int .u8 188, .int .u8 206, .int .u8 28, .int .u8 166, .int .u8 108, .int .u8 110])).run Tryz.prog w = .ok (.bool false) w := by
  have h2 := neqU8 47 8 (by kernel_rfl) [76, 230, 188, 206, 28, 166, 108, 110] rfl w
  simp only [u8s, List.map_cons, List.map_nil] at h2
  simp only [binOp]
  simp [h2]
theorem neqT (w : World) : (binOp .neq 153 (.agg #[.int .u8 201, .int .u8 3, .int .u8 1, .int .u8 2, .int .u8 2, .int .u8 0, .int .u8 16, .int .u8 255, .int .u8 248, .int .u8 0]) (.agg #[.int .u8 201, .int .u8 3, .int .u8 1, .int .u8 2, .int .u8 2, .int .u8 0, .int .u8 16, .int .u8 255, .int .u8 248, .int .u8 0])).run Tryz.prog w = .ok (.bool false) w := by
  have h2 := neqU8 153 10 (by kernel_rfl) [201, 3, 1, 2, 2, 0, 16, 255, 248, 0] rfl w
  simp only [u8s, List.map_cons, List.map_nil] at h2
  simp only [binOp]
  simp [h2]
end Go.Proofs.YtjgofnbfpoephaaGreatDoor
