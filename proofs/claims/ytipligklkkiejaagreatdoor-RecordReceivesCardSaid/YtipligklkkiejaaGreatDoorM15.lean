import Derived.Test.YtipligklkkiejaaGreatDoorM14
import Derived.Test.YtipligklkkiejaaGreatDoorM12
import Derived.Laws.CopyOwn
/- Contracts: a packet is encoded by the reference. -/
namespace Go.Proofs.YtipligklkkiejaaGreatDoor
set_option linter.all false
open Go.RowKit Go.Fl
set_option linter.unusedVariables false
set_option linter.unusedSimpArgs false

/-- the bytes of the first k samples -/
def bodyK (st ct ln : Int) (xs : List Nat) (k : Nat) : List Int := headB st ct ln ++ tailB (xs.take k)
theorem tailB_len (xs : List Nat) : (tailB xs).length = 2 * xs.length := by
  induction xs with
  | nil => rfl
  | cons x xs ih =>
    have h : tailB (x :: xs) = [hiI x, loI x] ++ tailB xs := rfl
    rw [h, List.length_append, ih, List.length_cons]
    simp; omega
theorem bodyK_len (st ct ln : Int) (xs : List Nat) (k : Nat) (hk : k ≤ xs.length) : (bodyK st ct ln xs k).length = 5 + 2 * k := by
  unfold bodyK
  rw [List.length_append, tailB_len, List.length_take, Nat.min_eq_left hk]; rfl
theorem bodyK_succ (st ct ln : Int) (xs : List Nat) (k : Nat) (hk : k < xs.length) : bodyK st ct ln xs (k + 1) = bodyK st ct ln xs k ++ [hiI xs[k], loI xs[k]] := by
  unfold bodyK tailB
  rw [List.take_add_one, List.getElem?_eq_getElem hk, Option.toList_some, List.flatMap_append, List.append_assoc]; rfl
theorem bodyK_all (st ct ln : Int) (xs : List Nat) (k : Nat) (hk : k = xs.length) : bodyK st ct ln xs k = bodyB st ct ln xs := by
  subst hk; unfold bodyK bodyB; rw [List.take_length]
theorem row_ownsE {w : World} {g : Nat} {e : TypeId} {vs : List Value} (h : Row w g e vs) (size n B : Nat) (hl : vs.length = n * size) (hn : n ≤ maxLen) (hB : B ≤ g) : w.ownsRow B e size (.slice (some ⟨g, 0, none⟩) n n) n vs :=
  ⟨hl, .inr ⟨g, n, vs.toArray, rfl, hB, h, Nat.le_refl _, hn, by simpa using hl, by rw [← hl]; simp⟩⟩
theorem gen3o {p : World → Prop} {w0 w : World} {B : Nat} {e : TypeId} {s n : Nat} {v : Value} {xs : List Value} (g0 g1 g2 : Nat) (t0 t1 t2 : TypeId) (v0 v1 v2 : List Value) (ho : w.ownsRow B e s v n xs) (h0 : Row w g0 t0 v0) (h1 : Row w g1 t1 v1) (h2 : Row w g2 t2 v2) (hb : Below w0.heap.size w0 w) (hz : B ≤ w.heap.size)
    (h : ∀ W, W.ownsRow B e s v n xs → Row W g0 t0 v0 → Row W g1 t1 v1 → Row W g2 t2 v2 → Below w0.heap.size w0 W → B ≤ W.heap.size → p W) : p w := h w ho h0 h1 h2 hb hz
theorem gen3r {p : World → Prop} {w0 w : World} (g0 g1 g2 : Nat) (t0 t1 t2 : TypeId) (v0 v1 v2 : List Value) (A : Option Addr) (xs : List Value) (h0 : Row w g0 t0 v0) (h1 : Row w g1 t1 v1) (h2 : Row w g2 t2 v2) (hr : Rd w A xs) (hb : Below w0.heap.size w0 w)
    (h : ∀ W, Row W g0 t0 v0 → Row W g1 t1 v1 → Row W g2 t2 v2 → Rd W A xs → Below w0.heap.size w0 W → p W) : p w := h w h0 h1 h2 hr hb
theorem gen2r {p : World → Prop} {w0 w : World} (g0 g1 : Nat) (t0 t1 : TypeId) (v0 v1 : List Value) (A : Option Addr) (xs : List Value) (h0 : Row w g0 t0 v0) (h1 : Row w g1 t1 v1) (hr : Rd w A xs) (hb : Below w0.heap.size w0 w)
    (h : ∀ W, Row W g0 t0 v0 → Row W g1 t1 v1 → Rd W A xs → Below w0.heap.size w0 W → p W) : p w := h w h0 h1 hr hb
theorem splice_fill {BB : List Int} (h : BB.length = 21) : splice (u8s z29) 0 (u8s BB) = u8s (fillB BB) := by
  unfold splice fillB
  rw [List.take_zero, List.nil_append, Nat.zero_add, u8s_length, h, u8s_app]; rfl
theorem splice_seal {BB sl : List Int} (h : BB.length = 21) (hs : sl.length = 8) : u8s (BB ++ sl) = splice (u8s (fillB BB)) 21 (u8s sl) := by
  unfold splice fillB
  rw [u8s_app, u8s_app, List.take_append_of_le_length (by rw [u8s_length, h]; exact Nat.le_refl _), List.take_of_length_le (by rw [u8s_length, h]; exact Nat.le_refl _), List.drop_of_length_le (by simp [u8s, h, hs]), List.append_nil]
theorem Row.under {B g : Nat} {w w' : World} {t : TypeId} {vs : List Value} (h : Row w g t vs) (hb : Below B w w') (hg : g < B) : Row w' g t vs :=
  (hb.block g hg).trans h

set_option maxRecDepth 100000 in
set_option maxHeartbeats 3000000 in
theorem encodeR_ok (k0 k1 k2 k3 k4 k5 k6 k7 : Int) (st ct ln : Int) (x0 x1 x2 x3 x4 x5 x6 x7 : Nat) (w : World) (hxs : ∀ x ∈ [x0, x1, x2, x3, x4, x5, x6, x7], sampI x = 0) (hst : 0 ≤ st ∧ st ≤ 255) (hct : 0 ≤ ct ∧ ct ≤ 65535) (hln : 0 ≤ ln ∧ ln ≤ 8) (hkeys : ∀ j (h : j < 8), isByte ([k0, k1, k2, k3, k4, k5, k6, k7][j])) :
    Calls Tryz.prog 11 #[.agg #[.int .u8 k0, .int .u8 k1, .int .u8 k2, .int .u8 k3, .int .u8 k4, .int .u8 k5, .int .u8 k6, .int .u8 k7], .agg #[.int .i64 st, .int .i64 ct, .int .i64 ln, .float .f32 x0, .float .f32 x1, .float .f32 x2, .float .f32 x3, .float .f32 x4, .float .f32 x5, .float .f32 x6, .float .f32 x7]] w
      fun e w' => e = .returned (.agg (u8s (encB [k0, k1, k2, k3, k4, k5, k6, k7] st ct ln [x0, x1, x2, x3, x4, x5, x6, x7])).toArray) ∧ Below w.heap.size w w' := by
  have HX := Lib.hid hxs; have HST := Lib.hid hst; have HCT := Lib.hid hct; have HLN := Lib.hid hln; have HKY := Lib.hid hkeys
  have u1 : IntKind.u8.wrap st = st := IntWalk.u8_in _ hst
  have u2 : IntKind.u8.wrap ln = ln := IntWalk.u8_in _ (by omega)
  clear hxs hst hct hln hkeys
  have R0 := Row.new w 23 (u8s [k0, k1, k2, k3, k4, k5, k6, k7])
  have R1 := Row.new (w.alloc (.cells (u8s [k0, k1, k2, k3, k4, k5, k6, k7]).toArray 23)) 27 (pkC st ct ln [x0, x1, x2, x3, x4, x5, x6, x7])
  have R2 := Row.new ((w.alloc (.cells (u8s [k0, k1, k2, k3, k4, k5, k6, k7]).toArray 23)).alloc (.cells (pkC st ct ln [x0, x1, x2, x3, x4, x5, x6, x7]).toArray 27)) 28 (u8s z29)
  rw [World.size_alloc] at R1
  rw [World.size_alloc, World.size_alloc] at R2
  have R0' := (R0.alloc (.cells (pkC st ct ln [x0, x1, x2, x3, x4, x5, x6, x7]).toArray 27)).alloc (.cells (u8s z29).toArray 28)
  have R1' := R1.alloc (.cells (u8s z29).toArray 28)
  have RB := (((Below.refl w.heap.size w).alloc (Nat.le_refl _) (.cells (u8s [k0, k1, k2, k3, k4, k5, k6, k7]).toArray 23)).alloc (by simp) (.cells (pkC st ct ln [x0, x1, x2, x3, x4, x5, x6, x7]).toArray 27)).alloc (by simp; omega) (.cells (u8s z29).toArray 28)
  have HR0 := Lib.hid R0'; have HR1 := Lib.hid R1'; have HR2 := Lib.hid R2; have HRB := Lib.hid RB
  clear R0 R1 R2 R0' R1' RB
  go_enter Tryz.func11, Tryz.ntmps11
  go_upto_region 1 with fail
  refine genD (w0 := w) w.heap.size (w.heap.size + 1) (w.heap.size + 1 + 1) _ _ _ _ _ _ HR0.out HR1.out HR2.out HRB.out ?_
  clear HR0 HR1 HR2 HRB
  intro W R0 R1 R2 RB
  have RK := Lib.hid R0; have RP := Lib.hid R1; have RR := Lib.hid R2; have RBw := Lib.hid RB
  have hzW : w.heap.size + 1 + 1 < W.heap.size := R2.lt
  have p0 := R1.cell 0
  have p1 := R1.cell 1
  have p2 := R1.cell 2
  simp only [pkC, List.cons_append, List.nil_append, List.getElem?_cons_succ, List.getElem?_cons_zero] at p0 p1 p2
  clear R0 R1 R2 RB
  go_upto_region 2 with fail
  have O0 := row_ownsE (Row.new W 5 (u8s [201, st])) 1 2 W.heap.size rfl (by unfold maxLen; decide) (Nat.le_refl _)
  refine gen3o (w0 := w) w.heap.size (w.heap.size + 1) (w.heap.size + 1 + 1) _ _ _ _ _ _ O0 (RK.out.alloc _) (RP.out.alloc _) (RR.out.alloc _) (RBw.out.alloc RBw.out.size _) (by simp) ?_
  clear O0 p0 p1 p2
  intro W1 O1 K1 P1 R1 B1 Z1
  have HO1 := Lib.hid O1; have HK1 := Lib.hid K1; have HP1 := Lib.hid P1; have HR1 := Lib.hid R1; have HB1 := Lib.hid B1; have HZ1 := Lib.hid Z1
  have p1 := P1.cell 1
  have p2 := P1.cell 2
  simp only [pkC, List.cons_append, List.nil_append, List.getElem?_cons_succ, List.getElem?_cons_zero] at p1 p2
  clear O1 K1 P1 R1 B1 Z1 RK RP RR
  go_wp2_with fail
  refine (pairR_any _ _ (by have := HCT.out; omega)).mono ?_
  rintro e w' ⟨rfl, rfl⟩
  go_wp2_with (at_builtin; refine wpList_app rfl _ _ 37 rfl W.heap.size 5 (.int .u8 0) 1 1 Tryz.underlying37 info5 rfl (by decide) _ 2 (u8s [201, st]) rfl (HO1.out.alloc _) (some ⟨W1.heap.size, 0, none⟩) 2 2 (u8s [ct % 65536 / 256, ct % 256]) rfl (fun h => by cases h) (Rd.row (Row.new W1 5 _)) rfl (u8s_one _) ?d2 ?d3 ?d4 ?_)
  case d2 => unfold maxLen; decide
  case d3 => decide
  case d4 => have := HZ1.out; simp; omega
  intro v2 w2 ho2 hg2
  have hb2 : Below W.heap.size W1 w2 := Below.app (Below.refl _ _) HZ1.out HO1.out hg2
  refine gen3o (w0 := w) w.heap.size (w.heap.size + 1) (w.heap.size + 1 + 1) _ _ _ _ _ _ ho2 (HK1.out.under hb2 (by omega)) (HP1.out.under hb2 (by omega)) (HR1.out.under hb2 (by omega)) (HB1.out.trans (hb2.mono RBw.out.size)) (Nat.le_trans HZ1.out hb2.size) ?_
  clear ho2 hg2 hb2 HO1 HK1 HP1 HR1 HB1 HZ1 p1 p2
  intro W2 O1 K1 P1 R1 B1 Z1
  have HO2 := Lib.hid O1; have HK2 := Lib.hid K1; have HP2 := Lib.hid P1; have HR2 := Lib.hid R1; have HB2 := Lib.hid B1; have HZ2 := Lib.hid Z1
  have p2 := P1.cell 2
  simp only [pkC, List.cons_append, List.nil_append, List.getElem?_cons_succ, List.getElem?_cons_zero] at p2
  clear O1 K1 P1 R1 B1 Z1
  go_wp2_with (at_builtin; refine wpList_app rfl _ _ 37 rfl W.heap.size 5 (.int .u8 0) 1 1 Tryz.underlying37 info5 rfl (by decide) _ 4 (u8s [201, st] ++ u8s [ct % 65536 / 256, ct % 256]) rfl (HO2.out.alloc _) (some ⟨W2.heap.size, 0, none⟩) 1 1 (u8s [ln]) rfl (fun h => by cases h) (Rd.row (Row.new W2 5 _)) rfl (u8s_one _) ?d2 ?d3 ?d4 ?_)
  case d2 => unfold maxLen; decide
  case d3 => decide
  case d4 => have := HZ2.out; simp; omega
  intro v2 w2 ho2 hg2
  have hb2 : Below W.heap.size W2 w2 := Below.app (Below.refl _ _) HZ2.out HO2.out hg2
  refine gen3o (w0 := w) w.heap.size (w.heap.size + 1) (w.heap.size + 1 + 1) _ _ _ _ _ _ ho2 (HK2.out.under hb2 (by omega)) (HP2.out.under hb2 (by omega)) (HR2.out.under hb2 (by omega)) (HB2.out.trans (hb2.mono RBw.out.size)) (Nat.le_trans HZ2.out hb2.size) ?_
  clear ho2 hg2 hb2 HO2 HK2 HP2 HR2 HB2 HZ2 p2 u1 u2
  intro V O1 K1 P1 R1 B1 Z1
  have hx : ∀ k (h : k < 8), ([.int .i64 st, .int .i64 ct, .int .i64 ln, .float .f32 x0, .float .f32 x1, .float .f32 x2, .float .f32 x3, .float .f32 x4, .float .f32 x5, .float .f32 x6, .float .f32 x7] : List Value)[3 + k]? = some (.float .f32 (([x0, x1, x2, x3, x4, x5, x6, x7] : List Nat)[k])) := by
    intro k h
    match k, h with
    | 0, _ | 1, _ | 2, _ | 3, _ | 4, _ | 5, _ | 6, _ | 7, _ => rfl
  have HXC : Hid (∀ k (h : k < 8), V.cell? ⟨w.heap.size + 1, 3 + k, none⟩ = some (.float .f32 (([x0, x1, x2, x3, x4, x5, x6, x7] : List Nat)[k]))) := fun k h => (P1.cell (3 + k)).trans (hx k h)
  have O2 : V.ownsRow W.heap.size 5 1 v2 (5 + 2 * 0) (u8s (bodyK st ct ln [x0, x1, x2, x3, x4, x5, x6, x7] 0)) := O1
  have HO := Lib.hid O2; have HK := Lib.hid K1; have HR := Lib.hid R1; have HB := Lib.hid B1; have HZ := Lib.hid Z1
  clear O1 K1 P1 R1 B1 Z1 hx O2
  have HEB : Hid (encB [k0, k1, k2, k3, k4, k5, k6, k7] st ct ln [x0, x1, x2, x3, x4, x5, x6, x7] = bodyK st ct ln [x0, x1, x2, x3, x4, x5, x6, x7] 8 ++ sealL [k0, k1, k2, k3, k4, k5, k6, k7] (toB (bodyK st ct ln [x0, x1, x2, x3, x4, x5, x6, x7] 8))) := by
    unfold Hid encB; rw [bodyK_all _ _ _ _ 8 rfl]
  have HBBy : Hid (∀ x ∈ bodyK st ct ln [x0, x1, x2, x3, x4, x5, x6, x7] 8, isByte x) := by
    rw [bodyK_all _ _ _ _ 8 rfl]
    intro x hx
    simp only [bodyB, headB, tailB, List.flatMap_cons, List.flatMap_nil, List.mem_append, List.mem_cons, List.not_mem_nil, or_false, List.append_nil] at hx
    have h1 := HST.out; have h2 := HCT.out; have h3 := HLN.out
    rcases hx with (rfl | rfl | rfl | rfl | rfl) | (rfl | rfl) | (rfl | rfl) | (rfl | rfl) | (rfl | rfl) | (rfl | rfl) | (rfl | rfl) | (rfl | rfl) | (rfl | rfl)
    all_goals first | exact hiI_byte _ | exact loI_byte _ | (unfold isByte; omega)
  obtain ⟨xs, hxe⟩ : ∃ xs, xs = [x0, x1, x2, x3, x4, x5, x6, x7] := ⟨_, rfl⟩
  have hl8 : xs.length = 8 := by rw [hxe]; rfl
  have HXC2 : Hid (∀ k (h : k < xs.length), V.cell? ⟨w.heap.size + 1, 3 + k, none⟩ = some (.float .f32 xs[k])) := by subst hxe; exact HXC.out
  have HL8 := Lib.hid hl8
  have HXE := Lib.hid hxe
  rw [← hxe] at HX HO HEB HBBy
  clear HXC hxe hl8 HST HCT HLN
  go_upto_region 5 with fail
  go_loopg [5, 6] 8 (fun g u i wr => ∃ k : Nat, k ≤ 8 ∧ i = .int .i64 k ∧ g = 8 - k ∧ Hid (wr.ownsRow W.heap.size 5 1 u (5 + 2 * k) (u8s (bodyK st ct ln xs k))) ∧ Hid (Below W.heap.size V wr))
  case atStart => exact ⟨0, by omega, rfl, rfl, HO, Below.refl _ _⟩
  case round =>
    clear HO
    obtain ⟨k, hk, rfl, hgk, HOk, HBk⟩ := hrel
    by_cases hlt : k < 8
    · have hkl : k < xs.length := by rw [HL8.out]; exact hlt
      have hc : wr.cell? ⟨w.heap.size + 1, 3 + k, none⟩ = some (.float .f32 xs[k]) := (HBk.out.cell (by simp; omega)).trans (HXC2.out k hkl)
      have hsx : sampI xs[k] = 0 := HX.out _ (List.getElem_mem _)
      have hsn := Lib.hid (bodyK_succ st ct ln xs k hkl)
      obtain ⟨x, hx⟩ : ∃ x, xs[k] = x := ⟨_, rfl⟩
      rw [hx] at hc hsx hsn
      have hbd : -65536 ≤ unitI x ∧ unitI x ≤ 65535 := by have := unitI_bd2 hsx; omega
      have HZr : Hid (W.heap.size ≤ wr.heap.size) := Nat.le_trans HZ.out HBk.out.size
      clear hx
      go_wp2_with fail
      refine (sixteenths_ok x _ hsx).mono ?_
      rintro e w' ⟨rfl, rfl⟩
      go_wp2_with fail
      refine (pairR_any _ _ hbd).mono ?_
      rintro e w' ⟨rfl, rfl⟩
      go_wp2_with (at_builtin; refine wpList_app rfl _ _ 37 rfl W.heap.size 5 (.int .u8 0) 1 1 Tryz.underlying37 info5 rfl (by decide) _ (5 + 2 * k) (u8s (bodyK st ct ln xs k)) rfl (HOk.out.alloc _) (some ⟨wr.heap.size, 0, none⟩) 2 2 (u8s [hiI x, loI x]) rfl (fun h => by cases h) (Rd.row (Row.new wr 5 _)) rfl (u8s_one _) ?d2 ?d3 ?d4 ?_)
      case d2 => unfold maxLen; omega
      case d3 => omega
      case d4 => have := HZr.out; simp; omega
      intro v1 w1 hown1 hg1
      have HB1 : Hid (Below W.heap.size V w1) := Below.app HBk.out HZr.out HOk.out hg1
      have HO1 : Hid (w1.ownsRow W.heap.size 5 1 v1 (5 + 2 * (k + 1)) (u8s (bodyK st ct ln xs (k + 1)))) := by
        unfold Hid
        rw [hsn.out, u8s_app, show 5 + 2 * (k + 1) = 5 + 2 * k + 2 by omega]
        exact hown1
      clear hown1 hg1 HOk HBk
      go_wp2
      go_roundg (8 - (k + 1))
      case measure => omega
      case rel => exact ⟨k + 1, by omega, by go_num, rfl, HO1, HB1⟩
    · obtain rfl : k = 8 := by omega
      have HO6 : Hid (wr.ownsRow W.heap.size 5 1 u5 21 (u8s (bodyK st ct ln xs 8))) := HOk.out
      clear HOk
      obtain ⟨g6, c6, hv6, hg6, hl6⟩ := ownsRow.addr HO6.out (by omega)
      subst hv6
      have rd6 : Rd wr (some ⟨g6, 0, none⟩) (u8s (bodyK st ct ln xs 8)) := Rd.owned HO6.out rfl
      have b21 : (bodyK st ct ln xs 8).length = 21 := by rw [bodyK_len _ _ _ _ _ (by rw [HL8.out]; exact Nat.le_refl _)]
      obtain ⟨BB, hBB⟩ : ∃ BB, BB = bodyK st ct ln xs 8 := ⟨_, rfl⟩
      rw [← hBB] at rd6 b21 HEB HBBy
      obtain ⟨sl, hsl⟩ : ∃ sl, sl = sealL [k0, k1, k2, k3, k4, k5, k6, k7] (toB BB) := ⟨_, rfl⟩
      have hsl8 : sl.length = 8 := by rw [hsl, seal8]; rfl
      obtain ⟨s0, s1, s2, s3, s4, s5, s6, s7, hs8⟩ : ∃ s0 s1 s2 s3 s4 s5 s6 s7, sl = [s0, s1, s2, s3, s4, s5, s6, s7] := by
        match sl, hsl8 with
        | [a, b, c, d, e, f, g, h], _ => exact ⟨a, b, c, d, e, f, g, h, rfl⟩
      have HEB2 : Hid (encB [k0, k1, k2, k3, k4, k5, k6, k7] st ct ln xs = BB ++ [s0, s1, s2, s3, s4, s5, s6, s7]) := by unfold Hid; rw [HEB.out, ← hsl, hs8]
      have HSC : Hid (Calls Tryz.prog 13 #[.agg #[.int .u8 k0, .int .u8 k1, .int .u8 k2, .int .u8 k3, .int .u8 k4, .int .u8 k5, .int .u8 k6, .int .u8 k7], .slice (some ⟨g6, 0, none⟩) 21 c6] wr fun e w' => e = .returned (.agg #[.int .u8 s0, .int .u8 s1, .int .u8 s2, .int .u8 s3, .int .u8 s4, .int .u8 s5, .int .u8 s6, .int .u8 s7]) ∧ Below wr.heap.size wr w') :=
        (sealR_any k0 k1 k2 k3 k4 k5 k6 k7 (some ⟨g6, 0, none⟩) 21 c6 (toB BB) wr (by rw [byts_toB HBBy.out]; exact rd6) (by rw [toB_length, b21]) (by rw [toB_length, b21]; decide) HKY.out).mono fun e w' h => ⟨by rw [h.1, ← hsl, hs8]; rfl, h.2⟩
      have hk : Row wr w.heap.size 23 (u8s [k0, k1, k2, k3, k4, k5, k6, k7]) := HK.out.under HBk.out (by omega)
      have HRr := Lib.hid (HR.out.under HBk.out (by omega))
      have HBr : Hid (Below w.heap.size w wr) := HB.out.trans (HBk.out.mono RBw.out.size)
      have q0 := hk.cellAt (j := 0) (by simp [u8s]); have q1 := hk.cellAt (j := 1) (by simp [u8s]); have q2 := hk.cellAt (j := 2) (by simp [u8s]); have q3 := hk.cellAt (j := 3) (by simp [u8s]); have q4 := hk.cellAt (j := 4) (by simp [u8s]); have q5 := hk.cellAt (j := 5) (by simp [u8s]); have q6 := hk.cellAt (j := 6) (by simp [u8s]); have q7 := hk.cellAt (j := 7) (by simp [u8s])
      simp only [u8s, List.map_cons, List.getElem_cons_zero, List.getElem_cons_succ] at q0 q1 q2 q3 q4 q5 q6 q7
      have HRD := Lib.hid rd6; have H21 := Lib.hid b21
      have HZ6 : Hid (w.heap.size + 1 + 1 < wr.heap.size) := by unfold Hid; have := HRr.out.lt; omega
      clear hBB hsl hsl8 hs8 hk rd6 b21 HEB HBBy HX HL8 HXC2 HK HR HB HZ HKY HO6 HBk RBw
      go_upto_region 9 with (go_at_call 13; refine HSC.out.mono ?_; rintro e w3 ⟨rfl, hb3⟩)
      have rs := Row.new w3 23 (u8s [s0, s1, s2, s3, s4, s5, s6, s7])
      have hz3 : wr.heap.size ≤ w3.heap.size := hb3.size
      refine gen2r (w0 := w) w3.heap.size (w.heap.size + 1 + 1) _ _ _ _ _ _ rs ((HRr.out.old hb3).alloc _) ((HRD.out.below hb3).alloc _) ((HBr.out.trans (hb3.mono HBr.out.size)).alloc (Nat.le_trans HBr.out.size hz3) _) ?_
      clear rs hb3 HRr HRD HBr q0 q1 q2 q3 q4 q5 q6 q7 HSC
      intro V2 r0 r1 r2 r3
      have HS2 := Lib.hid r0; have HR2 := Lib.hid r1; have HRD2 := Lib.hid r2; have HB2 := Lib.hid r3
      have z2 : w3.heap.size < V2.heap.size := r0.lt
      clear r0 r1 r2 r3
      go_upto_region 10 with (refine wpList_store_row rfl 28 _ _ rfl V2.heap.size (u8s z29).toArray rfl rfl 28 _ (Row.new V2 28 (u8s z29)) ?_ ?_ ?_ ?_; (rw [info51]; rfl); (rfl); (simp [u8s, z29, Value.oneCell']))
      have o1 : Below V2.heap.size V2 ((V2.alloc (.cells (u8s z29).toArray 28)).setRow V2.heap.size (u8s z29).toArray) := Below.setRow ((Below.refl _ _).alloc (Nat.le_refl _) _) (Nat.le_refl _) _
      have o2 : Row ((V2.alloc (.cells (u8s z29).toArray 28)).setRow V2.heap.size (u8s z29).toArray) V2.heap.size 28 (u8s z29) := (Row.new V2 28 (u8s z29)).setRow _
      refine gen3r (w0 := w) V2.heap.size w3.heap.size (w.heap.size + 1 + 1) _ _ _ _ _ _ _ _ o2 (HS2.out.old o1) (HR2.out.old o1) (HRD2.out.below o1) (HB2.out.trans (o1.mono HB2.out.size)) ?_
      clear o1 o2 HS2 HR2 HRD2
      intro V3 r0 r1 r2 r3 r4
      have HF3 := Lib.hid r0; have HS3 := Lib.hid r1; have HR3 := Lib.hid r2; have HRD3 := Lib.hid r3; have HB3 := Lib.hid r4
      have z3 : V2.heap.size < V3.heap.size := r0.lt
      have hb2s : w.heap.size ≤ V2.heap.size := HB2.out.size
      have HSRC : Hid (∀ j v, (u8s BB)[j]? = some v → V3.cell? ((⟨g6, 0, none⟩ : Addr).add j) = some v) := fun j v h => by
        obtain ⟨b, off, hh, hcell⟩ := r3 j v h
        cases hh
        rw [add0]; simpa using hcell
      have HC1 : Hid ((u8s BB).length = Nat.min 21 29) := by unfold Hid; rw [u8s_length, H21.out]; rfl
      have HC2 : Hid (0 + (u8s BB).length ≤ (u8s z29).length) := by unfold Hid; rw [u8s_length, u8s_length, H21.out]; decide
      clear r0 r1 r2 r3 r4
      go_upto_region 11 with (refine wpList_copy_splice rfl (.tmp 40) (.tmp 41) 37 37 rfl 5 Tryz.underlying37 (by kernel_rfl) (some ⟨V2.heap.size, 0, none⟩) (some ⟨g6, 0, none⟩) 29 29 21 c6 rfl rfl V2.heap.size 0 (u8s z29) 28 HF3.out (u8s BB) HC1.out (fun _ => ⟨rfl, _, rfl, HSRC.out⟩) HC2.out (u8s_one _) V2.heap.size V3 (Below.refl _ _) (Nat.le_refl _) ?_; intro U2 g2 b2)
      have o0 : Row U2 V2.heap.size 28 (u8s (fillB BB)) := by rw [← splice_fill H21.out]; exact g2.out
      have zr : w.heap.size + 1 + 1 < V2.heap.size := by have := HZ6.out; omega
      refine genD (w0 := w) V2.heap.size w3.heap.size (w.heap.size + 1 + 1) _ _ _ _ _ _ o0 (HS3.out.under b2 z2) (HR3.out.under b2 zr) (HB3.out.trans (b2.mono HB2.out.size)) ?_
      clear o0 g2 b2 HF3 HS3 HR3 HRD3 HB3 HB2 HSRC z3 hz3
      intro wc r0 r1 r2 r3
      have H7c := Lib.hid r0; have HRc := Lib.hid r2; have HBc := Lib.hid r3
      have HFB : Hid ((u8s (fillB BB)).length = 29) := by unfold Hid; rw [u8s_length, fillB_length (by rw [H21.out]; decide)]
      obtain ⟨EE, hEE⟩ : ∃ EE, EE = BB ++ [s0, s1, s2, s3, s4, s5, s6, s7] := ⟨_, rfl⟩
      have HEE : Hid (u8s EE = splice (u8s (fillB BB)) 21 (u8s [s0, s1, s2, s3, s4, s5, s6, s7])) := by unfold Hid; rw [hEE, splice_seal H21.out rfl]
      have HE2 : Hid (encB [k0, k1, k2, k3, k4, k5, k6, k7] st ct ln xs = EE ∧ EE.length = 29) := by refine ⟨by rw [HEB2.out, hEE], by rw [hEE]; simp [H21.out]⟩
      have HSRC : Hid (∀ j v, (u8s [s0, s1, s2, s3, s4, s5, s6, s7])[j]? = some v → wc.drew.cell? ((⟨w3.heap.size, 0, none⟩ : Addr).add j) = some v) := fun j v hv => by
        rw [add0]; exact (r1.cell j).trans hv
      clear hEE r0 r1 r2 r3 HEB2 H21
      refine wp_region_held_drew (S := fun _ => True) (by kernel_rfl) ?_ (fun hHeld => ?_)
      · trivial
      refine wpAnyH_take (i := 0) (oi := ⟨some 43, _, _, _, _, _⟩) (v := ?_) rfl (by kernel_rfl) (by kernel_rfl) (by kernel_rfl) (fun _ _ _ h => h) (Or.inl ⟨by kernel_rfl, ?_⟩) hHeld ?_
      rotate_left
      · intro w1 hSw; (try dsimp only at hSw); go_simp <;> with_reducible rfl
      try simp only [Act.put, List.setIfInBounds_toArray, List.set_cons_zero, List.set_cons_succ]
      refine wpAnyH_take (i := 1) (oi := ⟨some 44, _, _, _, _, _⟩) (v := ?_) rfl (by kernel_rfl) (by kernel_rfl) (by kernel_rfl) (fun _ _ _ h => h) (Or.inl ⟨by kernel_rfl, ?_⟩) hHeld ?_
      rotate_left
      · intro w1 hSw; (try dsimp only at hSw); go_simp <;> with_reducible rfl
      try simp only [Act.put, List.setIfInBounds_toArray, List.set_cons_zero, List.set_cons_succ]
      refine wpAnyH_ready (rs := [2]) (by kernel_rfl) (by simp) ?_
      refine AllReadyH.cons (o := ⟨some 45, _, _, _, _, _⟩) rfl (fun K hK => ?_) AllReadyH.nil
      refine step_copy_row rfl (.tmp 43) (.tmp 44) 37 37 rfl 5 Tryz.underlying37 (by kernel_rfl) V2.heap.size 21 8 8 ⟨w3.heap.size, 0, none⟩ 8 8 (by simp [Act.eval, Act.put]) (by simp [Act.eval, Act.put]) (u8s (fillB BB)) 28 H7c.out (u8s [s0, s1, s2, s3, s4, s5, s6, s7]) rfl HSRC.out (by rw [HFB.out]; exact Nat.le_refl 29) (u8s_one _) (u8s EE) HEE.out ?_
      refine hK.out _ _ ?_ (fun hHeld => ?_)
      · trivial
      clear hK K
      try simp only [Act.put, List.setIfInBounds_toArray, List.set_cons_zero, List.set_cons_succ]
      refine wpAnyH_done (by kernel_rfl) ?_ _
      have r7 : Row (wc.drew.setRow V2.heap.size (u8s EE).toArray) V2.heap.size 28 (u8s EE) := Row.setRow (w := wc.drew) H7c.out _
      have rR : Row (wc.drew.setRow V2.heap.size (u8s EE).toArray) (w.heap.size + 1 + 1) 28 (u8s z29) := Row.farRow (w := wc.drew) HRc.out (by omega) _
      have rB : Below w.heap.size w (wc.drew.setRow V2.heap.size (u8s EE).toArray) := Below.setRow HBc.out.drew hb2s _
      have R7 := Lib.hid r7; have RR := Lib.hid rR; have RB := Lib.hid rB
      clear r7 rR rB H7c HRc HBc HSRC HEE HFB
      have hie : (u8s EE).toArray.size = 29 := by simp [u8s, HE2.out.2]
      have Hie := Lib.hid hie
      clear hie
      go_wp2_with (first | (refine wpList_load_row rfl 28 _ rfl V2.heap.size rfl 28 (u8s EE).toArray (0, 0) _ R7.out Tryz.underlying28 rfl ?_ ?_; (rw [info51, Hie.out])) | (refine wpList_store_row rfl 28 _ _ rfl (w.heap.size + 1 + 1) (u8s EE).toArray rfl rfl 28 _ RR.out ?_ ?_ ?_ ?_; (rw [info51, Hie.out]); (simp [u8s, z29, HE2.out.2]); (simp [u8s, Value.oneCell'])))
      have hrow : Row ((wc.drew.setRow V2.heap.size (u8s EE).toArray).setRow (w.heap.size + 1 + 1) (u8s EE).toArray) (w.heap.size + 1 + 1) 28 (u8s EE) := RR.out.setRow _
      refine bodyPost_ret (results_cell_row rfl _ _ (w.heap.size + 1 + 1) 28 (u8s EE).toArray (0, 0) _ rfl hrow Tryz.underlying28 rfl (by rw [info51, Hie.out])) rfl ?_
      rw [← HXE.out, HE2.out.1]
      exact ⟨rfl, Below.setRow RB.out (by omega) _⟩
end Go.Proofs.YtipligklkkiejaaGreatDoor

/- A packet's error: both sides' are the same. -/
namespace Go.Proofs.YtipligklkkiejaaGreatDoor
set_option linter.all false
open Go.RowKit Go.Fl
set_option linter.unusedVariables false
set_option linter.unusedSimpArgs false

theorem order_good {x : Nat} (h : sampI x = 0) : (FloatKind.f32.format.order x x == some .eq) = true := by
  have := sameF_refl [x] (fun y hy => by rw [List.mem_singleton.1 hy]; exact h)
  simpa [sameF] using this
theorem sameF_trim (ln N : Nat) : ∀ (xs : List Nat) (s : Nat), (∀ x ∈ xs, sampI x = 0) → s + xs.length ≤ N →
    sameF xs ((xs.zipIdx s).map fun p => if p.2 < N ∧ (ln : Int) ≤ (p.2 : Int) then 0 else p.1) = (xs.drop (ln - s)).all isZ
  | [], s, _, _ => by simp [sameF]
  | x :: xs, s, h, hs => by
    have ih := sameF_trim ln N xs (s + 1) (fun y hy => h y (by simp [hy])) (by simp at hs; omega)
    have hx := order_good (h x (by simp))
    rw [List.zipIdx_cons, List.map_cons, sameF, ih]
    simp only [List.length_cons] at hs
    by_cases hl : ln ≤ s
    · rw [if_pos ⟨by omega, by omega⟩, show ln - s = 0 by omega, show ln - (s + 1) = 0 by omega, List.drop_zero, List.drop_zero, List.all_cons]
      rfl
    · rw [if_neg (fun hh => hl (by omega)), hx, show ln - s = (ln - (s + 1)) + 1 by omega, List.drop_succ_cons, Bool.true_and]
theorem pk_same (st ct ln : Int) (xs : List Nat) (h8 : xs.length = 8) : pkR st ct ln xs = pkI st ct ln xs := by
  have hsm : sampsI xs = firstI (xs.map sampI) := by unfold sampsI; rw [if_neg (by omega)]
  unfold pkR pkI
  rw [hsm]
  by_cases ha : whenI (rangeB st 0 255) 3 = 0
  · by_cases hb : whenI (rangeB ct 0 65535) 3 = 0
    · by_cases hc : whenI (rangeB ln 0 8) 3 = 0
      · by_cases hd : firstI (xs.map sampI) = 0
        · have hln : 0 ≤ ln := by
            cases hq : rangeB ln 0 8 with
            | true => rw [hq] at hc; simp [whenI] at hc
            | false => simp [rangeB] at hq; omega
          have hg : ∀ x ∈ xs, sampI x = 0 := fun x hx => firstI_allz hd _ (List.mem_map_of_mem hx)
          obtain ⟨l, rfl⟩ := Int.eq_ofNat_of_zero_le hln
          have ht := sameF_trim l xs.length xs 0 hg (by omega)
          have hsp : samePk st ct l xs st ct l (trimL l xs) = (xs.drop l).all isZ := by
            unfold samePk trimL trimTo
            rw [ht]; simp
          rw [hsp]
          simp only [firstI, ha, hb, hc, hd, if_true, ne_eq, not_true_eq_false, if_false, Int.toNat_natCast]
          unfold tailI
          cases (xs.drop l).all isZ <;> simp [whenI]
        · simp [firstI, ha, hb, hc, hd]
      · simp [firstI, ha, hb, hc]
    · simp [firstI, ha, hb]
  · simp [firstI, ha]
end Go.Proofs.YtipligklkkiejaaGreatDoor

/- Contracts: a packet out of its bytes, by the reference. -/
namespace Go.Proofs.YtipligklkkiejaaGreatDoor
set_option linter.all false
open Go.RowKit Go.Fl
set_option linter.unusedVariables false
set_option linter.unusedSimpArgs false

theorem infoRP : (Tryz.prog.info? 27).map (·.size) = some 11 := by kernel_rfl
theorem xsOf_len (bs : List UInt8) (i : Nat) : (xsOf bs i).length = i := by simp [xsOf]
theorem xsOf_at (bs : List UInt8) (k : Nat) (hk : k < 8) : (xsOf bs 8)[k]'(by rw [xsOf_len]; exact hk) = fb (signI (byteAt bs (5 + 2 * k)) (byteAt bs (6 + 2 * k))) := by
  simp [xsOf]
theorem stct_bd (bs : List UInt8) : (0 ≤ stOf bs ∧ stOf bs ≤ 255) ∧ (0 ≤ ctOf bs ∧ ctOf bs ≤ 65535) ∧ 0 ≤ lnOf bs := by
  have h1 := byteAt_bd bs 1; have h2 := byteAt_bd bs 2; have h3 := byteAt_bd bs 3; have h4 := byteAt_bd bs 4
  unfold stOf ctOf lnOf wholeI; omega
theorem when_in {n a b : Int} (h : a ≤ n ∧ n ≤ b) : whenI (rangeB n a b) 3 = 0 := by
  have : rangeB n a b = false := by simp [rangeB]; omega
  rw [this]; rfl
theorem when_out {n a b : Int} (h : n < a ∨ b < n) : whenI (rangeB n a b) 3 = 3 := by
  have : rangeB n a b = true := by simp [rangeB]; omega
  rw [this]; rfl
theorem dec_long {bs : List UInt8} (h : 8 < lnOf bs) : pkI (stOf bs) (ctOf bs) (lnOf bs) (xsOf bs 8) = 3 := by
  obtain ⟨h1, h2, h3⟩ := stct_bd bs
  rw [← pk_same _ _ _ _ (xsOf_len bs 8)]
  unfold pkR
  rw [when_in h1, when_in h2, when_out (by omega)]
  simp [firstI]
theorem dec_far {bs : List UInt8} (h : lnOf bs ≤ 8) (k : Nat) (hk : k < 8) (h0 : ∀ i, i < k → sampI (fb (signI (byteAt bs (5 + 2 * i)) (byteAt bs (6 + 2 * i)))) = 0) (h3 : sampI (fb (signI (byteAt bs (5 + 2 * k)) (byteAt bs (6 + 2 * k)))) = 3) : pkI (stOf bs) (ctOf bs) (lnOf bs) (xsOf bs 8) = 3 := by
  obtain ⟨h1, h2, h4⟩ := stct_bd bs
  have hs : firstI ((xsOf bs 8).map sampI) = 3 := by
    have := firstI_at ((xsOf bs 8).map sampI) k (by rw [List.length_map, xsOf_len]; exact hk) ?_ ?_
    · rw [this, List.getElem_map, xsOf_at bs k hk, h3]
    · intro z hz
      obtain ⟨i, hi, rfl⟩ := List.mem_take_iff_getElem.1 hz
      rw [List.length_map, xsOf_len] at hi
      rw [List.getElem_map, xsOf_at bs i (by omega)]
      exact h0 i (by omega)
    · rw [List.getElem_map, xsOf_at bs k hk, h3]; decide
  rw [← pk_same _ _ _ _ (xsOf_len bs 8)]
  unfold pkR
  rw [when_in h1, when_in h2, when_in ⟨h4, h⟩, hs]
  simp [firstI]
theorem dec_near {bs : List UInt8} (h : lnOf bs ≤ 8) (h0 : ∀ i, i < 8 → sampI (fb (signI (byteAt bs (5 + 2 * i)) (byteAt bs (6 + 2 * i)))) = 0) : pkI (stOf bs) (ctOf bs) (lnOf bs) (xsOf bs 8) = tailI (lnOf bs).toNat (xsOf bs 8) := by
  obtain ⟨h1, h2, h4⟩ := stct_bd bs
  have hs : firstI ((xsOf bs 8).map sampI) = 0 := by
    refine firstI_zeros fun z hz => ?_
    obtain ⟨i, hi, rfl⟩ := List.mem_iff_getElem.1 hz
    rw [List.length_map, xsOf_len] at hi
    rw [List.getElem_map, xsOf_at bs i hi]
    exact h0 i hi
  rw [← pk_same _ _ _ _ (xsOf_len bs 8)]
  unfold pkR
  rw [when_in h1, when_in h2, when_in ⟨h4, h⟩, hs]
  simp [firstI]
theorem samp_unit {a b : Int} (ha : 0 ≤ a ∧ a ≤ 255) (hb : 0 ≤ b ∧ b ≤ 255) : sampI (fb (signI a b)) = whenI (rangeB (signI a b) (-16384) 16384) 3 := sampI_fb (signI_bd ha hb)

/-- what the reference's Decode ends with -/
def DecP (key : List Int) (bs : List UInt8) (w : World) (e : Ending) (w' : World) : Prop :=
  e = .returned (.tuple #[.agg (decC key bs).toArray, .int .i64 (decE key bs)]) ∧ Below w.heap.size w w'

set_option maxRecDepth 100000 in
set_option maxHeartbeats 2000000 in
theorem decodeR_mark (k0 k1 k2 k3 k4 k5 k6 k7 : Int) (bs : List UInt8) (w : World) (hl : bs.length = 29) (hm : (byteAt bs 0 != 201) = true) :
    Calls Tryz.prog 12 #[.agg #[.int .u8 k0, .int .u8 k1, .int .u8 k2, .int .u8 k3, .int .u8 k4, .int .u8 k5, .int .u8 k6, .int .u8 k7], .agg (byts bs).toArray] w (DecP [k0, k1, k2, k3, k4, k5, k6, k7] bs w) := by
  have R1 := Row.new (w.alloc (.cells (u8s [k0, k1, k2, k3, k4, k5, k6, k7]).toArray 23)) 28 (byts bs)
  have R2 := Row.new ((w.alloc (.cells (u8s [k0, k1, k2, k3, k4, k5, k6, k7]).toArray 23)).alloc (.cells (byts bs).toArray 28)) 27 zero11
  rw [World.size_alloc] at R1
  rw [World.size_alloc, World.size_alloc] at R2
  have R1' := R1.alloc (.cells zero11.toArray 27)
  have RB := (((Below.refl w.heap.size w).alloc (Nat.le_refl _) (.cells (u8s [k0, k1, k2, k3, k4, k5, k6, k7]).toArray 23)).alloc (by simp) (.cells (byts bs).toArray 28)).alloc (by simp; omega) (.cells zero11.toArray 27)
  have HR1 := Lib.hid R1'; have HR2 := Lib.hid R2; have HRB := Lib.hid RB
  have Hl := Lib.hid hl
  have hE : decE [k0, k1, k2, k3, k4, k5, k6, k7] bs = 1 := by unfold decE; rw [if_pos hm]
  have hC : decC [k0, k1, k2, k3, k4, k5, k6, k7] bs = zero11 := by unfold decC; rw [hE]; rfl
  have HE := Lib.hid hE; have HC := Lib.hid hC
  clear R1 R2 R1' RB hl hE hC
  go_enter Tryz.func12, Tryz.ntmps12
  go_upto_region 1 with fail
  refine genD (w0 := w) (w.heap.size + 1) (w.heap.size + 1) (w.heap.size + 1 + 1) _ _ _ _ _ _ HR1.out HR1.out HR2.out HRB.out ?_
  clear HR1 HR2 HRB
  intro W R0 R1 R2 RB
  have hc0 := R1.bytes (i := 0) (by rw [Hl.out]; decide)
  have H2 := Lib.hid R2; have HB := Lib.hid RB
  clear R0 R1 R2 RB
  go_wp2_with (refine wpList_store_row rfl 27 _ _ rfl (w.heap.size + 1 + 1) zero11.toArray rfl rfl 27 _ H2.out ?_ ?_ ?_ ?_; (rw [infoRP]; rfl); (rfl); (simp [zero11, pkC, flts, Value.oneCell']))
  refine bodyPost_ret (results_row_tmp rfl _ _ (w.heap.size + 1 + 1) 27 zero11.toArray (0, 0) _ rfl (H2.out.setRow zero11) Tryz.underlying27 rfl ?_) rfl ?_
  · rw [infoRP]; rfl
  · exact ⟨by rw [HE.out, HC.out]; rfl, Below.setRow HB.out (by omega) _⟩

set_option maxRecDepth 100000 in
set_option maxHeartbeats 3000000 in
theorem decodeR_mid (k0 k1 k2 k3 k4 k5 k6 k7 : Int) (bs : List UInt8) (w : World) (hl : bs.length = 29) (hm : (byteAt bs 0 != 201) = false) (hkeys : ∀ j (h : j < 8), isByte ([k0, k1, k2, k3, k4, k5, k6, k7][j])) :
    Calls Tryz.prog 12 #[.agg #[.int .u8 k0, .int .u8 k1, .int .u8 k2, .int .u8 k3, .int .u8 k4, .int .u8 k5, .int .u8 k6, .int .u8 k7], .agg (byts bs).toArray] w (DecP [k0, k1, k2, k3, k4, k5, k6, k7] bs w) := by
  have HKY := Lib.hid hkeys; have Hm := Lib.hid hm
  have R0 := Row.new w 23 (u8s [k0, k1, k2, k3, k4, k5, k6, k7])
  have R1 := Row.new (w.alloc (.cells (u8s [k0, k1, k2, k3, k4, k5, k6, k7]).toArray 23)) 28 (byts bs)
  have R2 := Row.new ((w.alloc (.cells (u8s [k0, k1, k2, k3, k4, k5, k6, k7]).toArray 23)).alloc (.cells (byts bs).toArray 28)) 27 zero11
  rw [World.size_alloc] at R1
  rw [World.size_alloc, World.size_alloc] at R2
  have R0' := (R0.alloc (.cells (byts bs).toArray 28)).alloc (.cells zero11.toArray 27)
  have R1' := R1.alloc (.cells zero11.toArray 27)
  have RB := (((Below.refl w.heap.size w).alloc (Nat.le_refl _) (.cells (u8s [k0, k1, k2, k3, k4, k5, k6, k7]).toArray 23)).alloc (by simp) (.cells (byts bs).toArray 28)).alloc (by simp; omega) (.cells zero11.toArray 27)
  have HR0 := Lib.hid R0'; have HR1 := Lib.hid R1'; have HR2 := Lib.hid R2; have HRB := Lib.hid RB
  have Hl := Lib.hid hl
  have HE : Hid (decE [k0, k1, k2, k3, k4, k5, k6, k7] bs = if !sealedB [k0, k1, k2, k3, k4, k5, k6, k7] bs then 27 else pkI (stOf bs) (ctOf bs) (lnOf bs) (xsOf bs 8)) := by
    unfold Hid decE; rw [if_neg (by rw [hm]; decide)]
  clear R0 R1 R2 R0' R1' RB hl hkeys hm
  go_enter Tryz.func12, Tryz.ntmps12
  go_upto_region 1 with fail
  refine genD (w0 := w) w.heap.size (w.heap.size + 1) (w.heap.size + 1 + 1) _ _ _ _ _ _ HR0.out HR1.out HR2.out HRB.out ?_
  clear HR0 HR1 HR2 HRB
  intro W R0 R1 R2 RB
  have hc0 := R1.bytes (i := 0) (by rw [Hl.out]; decide)
  have hm2 := Hm.out
  have H0 := Lib.hid R0; have H1 := Lib.hid R1; have H2 := Lib.hid R2; have HB := Lib.hid RB
  have hzW : w.heap.size + 1 + 1 < W.heap.size := R2.lt
  clear R0 R1 R2 RB
  obtain ⟨sl, hsl⟩ : ∃ sl, sl = sealL [k0, k1, k2, k3, k4, k5, k6, k7] (bs.take 21) := ⟨_, rfl⟩
  have hsl8 : sl.length = 8 := by rw [hsl, seal8]; rfl
  have hslb : ∀ z ∈ sl, isByte z := by
    rw [hsl]
    refine sealL_byte _ _ (fun z hz => ?_)
    obtain ⟨j, hj, rfl⟩ := List.mem_iff_getElem.1 hz
    exact HKY.out j hj
  obtain ⟨s0, s1, s2, s3, s4, s5, s6, s7, hsl9⟩ : ∃ s0 s1 s2 s3 s4 s5 s6 s7, sl = [s0, s1, s2, s3, s4, s5, s6, s7] := by
    match sl, hsl8 with
    | [a, b, c, d, e, f, g, h], _ => exact ⟨a, b, c, d, e, f, g, h, rfl⟩
  have HSB : Hid (sealedB [k0, k1, k2, k3, k4, k5, k6, k7] bs = (natsI (bs.drop 21) == [s0, s1, s2, s3, s4, s5, s6, s7])) := by
    unfold Hid sealedB; rw [Hl.out, ← hsl9, hsl]
  have HSLB : Hid (∀ z ∈ [s0, s1, s2, s3, s4, s5, s6, s7], isByte z) := by unfold Hid; rw [← hsl9]; exact hslb
  have HRD : Hid (∀ V, Below W.heap.size W V → Calls Tryz.prog 13 #[.agg #[.int .u8 k0, .int .u8 k1, .int .u8 k2, .int .u8 k3, .int .u8 k4, .int .u8 k5, .int .u8 k6, .int .u8 k7], .slice (some ⟨w.heap.size + 1, 0, none⟩) 21 29] V fun e w' => e = .returned (.agg #[.int .u8 s0, .int .u8 s1, .int .u8 s2, .int .u8 s3, .int .u8 s4, .int .u8 s5, .int .u8 s6, .int .u8 s7]) ∧ Below V.heap.size V w') := fun V hV => by
    have hrd : Rd V (some ⟨w.heap.size + 1, 0, none⟩) (byts (bs.take 21)) := by
      have h := (Rd.row (H1.out.old hV)).take 21
      simpa [byts] using h
    exact (sealR_any k0 k1 k2 k3 k4 k5 k6 k7 (some ⟨w.heap.size + 1, 0, none⟩) 21 29 (bs.take 21) V hrd (by simp [Hl.out]) (by simp [Hl.out]) HKY.out).mono fun e w' h => ⟨by rw [h.1, ← hsl, hsl9]; rfl, h.2⟩
  have hK := H0.out
  have S0 : Hid (W.cell? ⟨w.heap.size, 0, none⟩ = some (.int .u8 k0) ∧ W.cell? ⟨w.heap.size, 1, none⟩ = some (.int .u8 k1) ∧ W.cell? ⟨w.heap.size, 2, none⟩ = some (.int .u8 k2) ∧ W.cell? ⟨w.heap.size, 3, none⟩ = some (.int .u8 k3) ∧ W.cell? ⟨w.heap.size, 4, none⟩ = some (.int .u8 k4) ∧ W.cell? ⟨w.heap.size, 5, none⟩ = some (.int .u8 k5) ∧ W.cell? ⟨w.heap.size, 6, none⟩ = some (.int .u8 k6) ∧ W.cell? ⟨w.heap.size, 7, none⟩ = some (.int .u8 k7) ∧ Below W.heap.size W W) :=
    ⟨by rw [hK.cell]; rfl, by rw [hK.cell]; rfl, by rw [hK.cell]; rfl, by rw [hK.cell]; rfl, by rw [hK.cell]; rfl, by rw [hK.cell]; rfl, by rw [hK.cell]; rfl, by rw [hK.cell]; rfl, Below.refl _ _⟩
  clear hsl hsl8 hslb hsl9 hK H0 HKY
  go_upto_region 3 with fail
  go_cut [6] from 15 (fun s6' wx => ∃ g : Nat, s6' = .pointer (some ⟨g, 0, none⟩) ∧ Row wx g 23 (u8s [s0, s1, s2, s3, s4, s5, s6, s7]) ∧ W.heap.size ≤ g ∧ Below W.heap.size W wx)
  case first =>
    clear hm2 hc0
    refine wp_region_held_drew (S := fun w' => w'.cell? ⟨w.heap.size, 0, none⟩ = some (.int .u8 k0) ∧ w'.cell? ⟨w.heap.size, 1, none⟩ = some (.int .u8 k1) ∧ w'.cell? ⟨w.heap.size, 2, none⟩ = some (.int .u8 k2) ∧ w'.cell? ⟨w.heap.size, 3, none⟩ = some (.int .u8 k3) ∧ w'.cell? ⟨w.heap.size, 4, none⟩ = some (.int .u8 k4) ∧ w'.cell? ⟨w.heap.size, 5, none⟩ = some (.int .u8 k5) ∧ w'.cell? ⟨w.heap.size, 6, none⟩ = some (.int .u8 k6) ∧ w'.cell? ⟨w.heap.size, 7, none⟩ = some (.int .u8 k7) ∧ Below W.heap.size W w') (by kernel_rfl) ?_ (fun hHeld => ?_)
    · exact keepRe S0.out (Below.refl _ _).drew
    refine wpAnyH_take (i := 0) (oi := ⟨some 15, _, _, _, _, _⟩) (v := ?_) rfl (by kernel_rfl) (by kernel_rfl) (by kernel_rfl) (fun _ _ _ h => h) (Or.inl ⟨by kernel_rfl, ?_⟩) hHeld ?_
    rotate_left
    · intro w1 hSw; (try dsimp only at hSw); go_simp <;> with_reducible rfl
    try simp only [Act.put, List.setIfInBounds_toArray, List.set_cons_zero, List.set_cons_succ]
    refine wpAnyH_take (i := 1) (oi := ⟨some 16, _, _, _, _, _⟩) (v := ?_) rfl (by kernel_rfl) (by kernel_rfl) (by kernel_rfl) (fun _ _ _ h => h) (Or.inl ⟨by kernel_rfl, ?_⟩) hHeld ?_
    rotate_left
    · intro w1 hSw; (try dsimp only at hSw); go_simp <;> with_reducible rfl
    try simp only [Act.put, List.setIfInBounds_toArray, List.set_cons_zero, List.set_cons_succ]
    refine wpAnyH_ready (rs := [2, 3]) (by kernel_rfl) (by simp) ?_
    refine AllReadyH.cons rfl (fun K hK => ?_) (AllReadyH.cons rfl (fun K hK => ?_) (AllReadyH.nil))
    ·
      go_simp
      go_at_call 13
      refine (HRD.out _ (lastRe hHeld)).mono ?_
      rintro e w2 ⟨rfl, hb2⟩
      have zb := (lastRe hHeld).trans (hb2.mono (lastRe hHeld).size)
      try go_simp
      refine hK.out _ _ ?_ (fun hHeld => ?_)
      · exact keepRe S0.out zb
      clear hK K
      try simp only [Act.put, List.setIfInBounds_toArray, List.set_cons_zero, List.set_cons_succ]
      refine wpAnyH_ready (rs := [3]) (by kernel_rfl) (by simp) ?_
      refine AllReadyH.cons rfl (fun K hK => ?_) (AllReadyH.nil)
      go_simp
      refine hK.out _ _ ?_ (fun hHeld => ?_)
      · exact keepRe S0.out ((lastRe hHeld).alloc (lastRe hHeld).size _)
      clear hK K
      try simp only [Act.put, List.setIfInBounds_toArray, List.set_cons_zero, List.set_cons_succ]
      refine wpAnyH_ready (rs := [4]) (by kernel_rfl) (by simp) ?_
      refine AllReadyH.cons rfl (fun K hK => ?_) (AllReadyH.nil)
      have hz := Row.new w2 23 (u8s [0, 0, 0, 0, 0, 0, 0, 0])
      have zg := zb.size
      refine step_store_row rfl 23 _ _ rfl w2.heap.size [.int .u8 s0, .int .u8 s1, .int .u8 s2, .int .u8 s3, .int .u8 s4, .int .u8 s5, .int .u8 s6, .int .u8 s7] rfl rfl 23 (u8s [0, 0, 0, 0, 0, 0, 0, 0]) hz (by kernel_rfl) rfl (by simp [Value.oneCell']) ?_
      refine hK.out _ _ ?_ (fun hHeld => ?_)
      · exact keepRe S0.out (Below.setRow (lastRe hHeld) zg _)
      clear hK K
      try simp only [Act.put, List.setIfInBounds_toArray, List.set_cons_zero, List.set_cons_succ]
      refine wpAnyH_done (by kernel_rfl) ?_ _
      go_wp2_with fail
      go_meet
      exact ⟨w2.heap.size, rfl, hz.setRow _, zg, Below.setRow (zb.alloc zg _) zg _⟩
    ·
      go_simp
      refine hK.out _ _ ?_ (fun hHeld => ?_)
      · exact keepRe S0.out ((lastRe hHeld).alloc (lastRe hHeld).size _)
      clear hK K
      try simp only [Act.put, List.setIfInBounds_toArray, List.set_cons_zero, List.set_cons_succ]
      refine wpAnyH_ready (rs := [2]) (by kernel_rfl) (by simp) ?_
      refine AllReadyH.cons rfl (fun K hK => ?_) (AllReadyH.nil)
      go_simp
      go_at_call 13
      refine (HRD.out _ (lastRe hHeld)).mono ?_
      rintro e w2 ⟨rfl, hb2⟩
      have zb := (lastRe hHeld).trans (hb2.mono (lastRe hHeld).size)
      try go_simp
      refine hK.out _ _ ?_ (fun hHeld => ?_)
      · exact keepRe S0.out zb
      clear hK K
      try simp only [Act.put, List.setIfInBounds_toArray, List.set_cons_zero, List.set_cons_succ]
      refine wpAnyH_ready (rs := [4]) (by kernel_rfl) (by simp) ?_
      refine AllReadyH.cons rfl (fun K hK => ?_) (AllReadyH.nil)
      have hz : Row w2 W.heap.size 23 (u8s [0, 0, 0, 0, 0, 0, 0, 0]) := Row.old (w := (W.drew.alloc (.cells (u8s [0, 0, 0, 0, 0, 0, 0, 0]).toArray 23))) (Row.new W.drew 23 (u8s [0, 0, 0, 0, 0, 0, 0, 0])) hb2
      refine step_store_row rfl 23 _ _ rfl W.heap.size [.int .u8 s0, .int .u8 s1, .int .u8 s2, .int .u8 s3, .int .u8 s4, .int .u8 s5, .int .u8 s6, .int .u8 s7] rfl rfl 23 (u8s [0, 0, 0, 0, 0, 0, 0, 0]) hz (by kernel_rfl) rfl (by simp [Value.oneCell']) ?_
      refine hK.out _ _ ?_ (fun hHeld => ?_)
      · exact keepRe S0.out (Below.setRow (lastRe hHeld) (Nat.le_refl _) _)
      clear hK K
      try simp only [Act.put, List.setIfInBounds_toArray, List.set_cons_zero, List.set_cons_succ]
      refine wpAnyH_done (by kernel_rfl) ?_ _
      go_wp2_with fail
      go_meet
      exact ⟨W.heap.size, rfl, hz.setRow _, Nat.le_refl _, Below.setRow zb (Nat.le_refl _) _⟩
  case rest =>
    clear hm2 hc0
    obtain ⟨g, rfl, hrow, hg, hbw⟩ := hcut
    have HG := Lib.hid hrow
    have H1c := Lib.hid (H1.out.old hbw)
    have H2c := Lib.hid (H2.out.old hbw)
    have HBc := Lib.hid (HB.out.trans (hbw.mono HB.out.size))
    have hgz : g < wc.heap.size := hrow.lt
    have hrD : Rd wc (some ⟨w.heap.size + 1, 21, none⟩) (byts (bs.drop 21)) := by
      have h := (Rd.row H1c.out).drop 21
      simpa [byts] using h
    have hcK : ∀ k, (convert 37 9 (.slice (some ⟨g, 0, none⟩) 8 8)).run Tryz.prog (wc.drewN k) = .ok (.string (strOfNums [s0, s1, s2, s3, s4, s5, s6, s7])) (wc.drewN k) := fun k =>
      conv_nums _ 0 8 8 [s0, s1, s2, s3, s4, s5, s6, s7] _ ((Rd.row hrow).drewN k) rfl
    have hcD : ∀ k, (convert 37 9 (.slice (some ⟨w.heap.size + 1, 21, none⟩) 8 8)).run Tryz.prog (wc.drewN k) = .ok (.string (strOfNums (natsI (bs.drop 21)))) (wc.drewN k) := fun k =>
      conv_nums _ 21 8 8 (natsI (bs.drop 21)) _ (by rw [← byts_nats]; exact hrD.drewN k) (by simp [natsI, Hl.out])
    have hcmp : ((strOfNums [s0, s1, s2, s3, s4, s5, s6, s7]).toList == (strOfNums (natsI (bs.drop 21))).toList) = sealedB [k0, k1, k2, k3, k4, k5, k6, k7] bs := by
      rw [HSB.out]
      refine Bool.not_inj ?_
      exact seal_cmp _ HSLB.out (bs.drop 21) _ _ (strOfNums_data _) (by rw [strOfNums_data]; simp only [natsI, List.map_map]; rw [List.map_congr_left (g := id) (fun b _ => by simp), List.map_id])
    obtain ⟨T, hT⟩ : ∃ T, T = strOfNums [s0, s1, s2, s3, s4, s5, s6, s7] := ⟨_, rfl⟩
    obtain ⟨U, hU⟩ : ∃ U, U = strOfNums (natsI (bs.drop 21)) := ⟨_, rfl⟩
    rw [← hT] at hcK hcmp; rw [← hU] at hcD hcmp
    clear hT hU HSB HSLB HRD hrD hrow hg hbw H1 H2 HB
    cases hsb : sealedB [k0, k1, k2, k3, k4, k5, k6, k7] bs with
    | false =>
      rw [hsb] at hcmp
      have hE : decE [k0, k1, k2, k3, k4, k5, k6, k7] bs = 27 := by rw [HE.out, hsb]; rfl
      have hC : decC [k0, k1, k2, k3, k4, k5, k6, k7] bs = zero11 := by unfold decC; rw [hE]; rfl
      have HE2 := Lib.hid hE; have HC2 := Lib.hid hC
      clear hsb HE hE hC
      go_upto_region 4 with fail
      go_quiet (fail)
      have H2d := Lib.hid (H2c.out.old (below_drewN (Below.refl _ _) nq))
      go_wp2_with (refine wpList_store_row rfl 27 _ _ rfl (w.heap.size + 1 + 1) zero11.toArray rfl rfl 27 _ H2d.out ?_ ?_ ?_ ?_; (rw [infoRP]; rfl); (rfl); (simp [zero11, pkC, flts, Value.oneCell']))
      refine bodyPost_ret (results_row_tmp rfl _ _ (w.heap.size + 1 + 1) 27 zero11.toArray (0, 0) _ rfl (H2d.out.setRow zero11) Tryz.underlying27 rfl ?_) rfl ?_
      · rw [infoRP]; rfl
      · exact ⟨by rw [HE2.out, HC2.out]; rfl, Below.setRow (below_drewN HBc.out _) (by omega) _⟩
    | true =>
      rw [hsb] at hcmp
      have HE2 : Hid (decE [k0, k1, k2, k3, k4, k5, k6, k7] bs = pkI (stOf bs) (ctOf bs) (lnOf bs) (xsOf bs 8)) := by unfold Hid; rw [HE.out, hsb]; rfl
      clear hsb HE
      go_upto_region 4 with fail
      go_quiet (fail)
      clear hcK hcD hcmp
      go_upto_region 6 with fail
      refine genD (w0 := w) (w.heap.size + 1) (w.heap.size + 1) (w.heap.size + 1 + 1) _ _ _ _ _ _ (H1c.out.old (below_drewN (Below.refl _ _) nq)) (H1c.out.old (below_drewN (Below.refl _ _) nq)) (H2c.out.old (below_drewN (Below.refl _ _) nq)) (below_drewN HBc.out nq) ?_
      clear H1c H2c HBc HG S0
      intro w1 R0 R1 R2 RB
      have H1' := Lib.hid R1; have H2' := Lib.hid R2; have HB' := Lib.hid RB
      clear R0 R1 R2 RB
      have hlt2 : w.heap.size + 1 + 1 < w1.heap.size := H2'.out.lt
      have c1 := H1'.out.bytes (i := 1) (by rw [Hl.out]; decide)
      have c2 := H1'.out.bytes (i := 2) (by rw [Hl.out]; decide)
      have c3 := H1'.out.bytes (i := 3) (by rw [Hl.out]; decide)
      have c4 := H1'.out.bytes (i := 4) (by rw [Hl.out]; decide)
      have d1 := byteAt_bd bs 1
      have d2 := byteAt_bd bs 2
      have d3 := byteAt_bd bs 3
      have d4 := byteAt_bd bs 4
      obtain ⟨b1, e1⟩ : ∃ b1, b1 = byteAt bs 1 := ⟨_, rfl⟩
      obtain ⟨b2, e2⟩ : ∃ b2, b2 = byteAt bs 2 := ⟨_, rfl⟩
      obtain ⟨b3, e3⟩ : ∃ b3, b3 = byteAt bs 3 := ⟨_, rfl⟩
      obtain ⟨b4, e4⟩ : ∃ b4, b4 = byteAt bs 4 := ⟨_, rfl⟩
      rw [← e1] at c1 d1; rw [← e2] at c2 d2; rw [← e3] at c3 d3; rw [← e4] at c4 d4
      have E1 := Lib.hid e1; have E2 := Lib.hid e2; have E3 := Lib.hid e3; have E4 := Lib.hid e4
      have D2 := Lib.hid d2; have D3 := Lib.hid d3; have D4 := Lib.hid d4
      have v1 : IntKind.i64.wrap b1 = b1 := IntWalk.i64_in _ (by omega)
      have v4 : IntKind.i64.wrap b4 = b4 := IntWalk.i64_in _ (by omega)
      have S0 : Hid (w1.cell? ⟨w.heap.size + 1, 1, none⟩ = some (.int .u8 b1) ∧ w1.cell? ⟨w.heap.size + 1, 2, none⟩ = some (.int .u8 b2) ∧ w1.cell? ⟨w.heap.size + 1, 3, none⟩ = some (.int .u8 b3) ∧ w1.cell? ⟨w.heap.size + 1, 4, none⟩ = some (.int .u8 b4) ∧ Below w1.heap.size w1 w1) := ⟨c1, c2, c3, c4, Below.refl _ _⟩
      clear e1 e2 e3 e4 d1 d2 d3 d4
      go_cut [7] from 24 (fun s7' wx => ∃ p : Nat, s7' = .pointer (some ⟨p, 0, none⟩) ∧ Row wx p 27 (pkC b1 (wholeI b2 b3) b4 (xsFill bs 0)) ∧ w1.heap.size ≤ p ∧ Below w1.heap.size w1 wx)
      case first =>
        go_region_held3 (fun w' => w'.cell? ⟨w.heap.size + 1, 1, none⟩ = some (.int .u8 b1) ∧ w'.cell? ⟨w.heap.size + 1, 2, none⟩ = some (.int .u8 b2) ∧ w'.cell? ⟨w.heap.size + 1, 3, none⟩ = some (.int .u8 b3) ∧ w'.cell? ⟨w.heap.size + 1, 4, none⟩ = some (.int .u8 b4) ∧ Below w1.heap.size w1 w') (first | assumption | exact keepDe S0.out (Below.drew (Below.refl _ _)) | exact keepDe (by assumption) (Below.drew (Below.refl _ _)) | exact keepDe (by assumption) ((Below.refl _ _).alloc (Nat.le_refl _) _) | exact keepDe S0.out ((Below.refl _ _).alloc (Nat.le_refl _) _).drew | exact keepDe S0.out ((Below.refl _ _).drew.alloc (Nat.le_refl _) _))
          (first | (go_at_call 40; refine (word_any b2 b3 _ D2.out D3.out).mono ?_; rintro e w' ⟨rfl, rfl⟩))
        all_goals go_wp2_with fail
        all_goals go_meet
        all_goals exact ⟨w1.heap.size, rfl, Row.new w1 27 (pkC b1 (wholeI b2 b3) b4 (xsFill bs 0)), Nat.le_refl _, ((Below.refl _ _).alloc (Nat.le_refl _) _).drew⟩
      case rest =>
        obtain ⟨p, rfl, hrow, hp, hbw⟩ := hcut
        have G0 := Lib.hid hrow; have G1 := Lib.hid (H1'.out.old hbw); have G2 := Lib.hid (H2'.out.old hbw); have GB := Lib.hid (HB'.out.trans (hbw.mono HB'.out.size))
        have q2 : wc.cell? ⟨p, 2, none⟩ = some (.int .i64 b4) := hrow.cell 2
        have hlt3 : Hid (w.heap.size + 1 + 1 < p) := Nat.lt_of_lt_of_le hlt2 hp
        clear hrow hbw H1' H2' HB' c1 c2 c3 c4 v1 v4 S0 hlt2
        by_cases h8 : 8 < b4
        · have hE : decE [k0, k1, k2, k3, k4, k5, k6, k7] bs = 3 := by rw [HE2.out]; exact dec_long (by unfold lnOf; rw [← E4.out]; exact h8)
          have hC : decC [k0, k1, k2, k3, k4, k5, k6, k7] bs = zero11 := by unfold decC; rw [hE]; rfl
          have HE3 := Lib.hid hE; have HC3 := Lib.hid hC
          clear hE hC HE2
          go_wp2_with (refine wpList_store_row rfl 27 _ _ rfl (w.heap.size + 1 + 1) zero11.toArray rfl rfl 27 _ G2.out ?_ ?_ ?_ ?_; (rw [infoRP]; rfl); (rfl); (simp [zero11, pkC, flts, Value.oneCell']))
          refine bodyPost_ret (results_row_tmp rfl _ _ (w.heap.size + 1 + 1) 27 zero11.toArray (0, 0) _ rfl (G2.out.setRow zero11) Tryz.underlying27 rfl ?_) rfl ?_
          · rw [infoRP]; rfl
          · exact ⟨by rw [HE3.out, HC3.out]; rfl, Below.setRow GB.out (by omega) _⟩
        · have h8' : ¬ (8 < b4) := h8
          go_upto_region 10 with fail
          go_loopw [8] (fun i wr => ∃ k : Nat, k ≤ 8 ∧ i = .int .i64 k ∧ Hid (Row wr p 27 (pkC b1 (wholeI b2 b3) b4 (xsFill bs k))) ∧ Hid (Row wr (w.heap.size + 1) 28 (byts bs)) ∧ Hid (Row wr (w.heap.size + 1 + 1) 27 zero11) ∧ Hid (Below w.heap.size w wr) ∧ Hid (∀ i, i < k → sampI (fb (signI (byteAt bs (5 + 2 * i)) (byteAt bs (6 + 2 * i)))) = 0)) (fun i _ => 8 - (intOf i).toNat)
          case atStart => exact ⟨0, Nat.zero_le _, rfl, G0, G1, G2, GB, fun i hi => absurd hi (by omega)⟩
          case round =>
            clear G0 G1 G2 GB q2
            obtain ⟨k, hk, rfl, g0, g1, g2, gb, gS⟩ := hrel
            by_cases hlt : k < 8
            · obtain ⟨x, ex⟩ : ∃ x, x = byteAt bs (5 + 2 * k) := ⟨_, rfl⟩
              obtain ⟨y, ey⟩ : ∃ y, y = byteAt bs (6 + 2 * k) := ⟨_, rfl⟩
              have cx := g1.out.bytes (i := 5 + 2 * k) (by rw [Hl.out]; omega)
              have cy := g1.out.bytes (i := 6 + 2 * k) (by rw [Hl.out]; omega)
              have dx := byteAt_bd bs (5 + 2 * k)
              have dy := byteAt_bd bs (6 + 2 * k)
              have hset := Lib.hid (xsFill_set bs k hlt)
              have hsu := samp_unit dx dy
              rw [← ex] at cx dx hset hsu; rw [← ey] at cy dy hset hsu
              have Hc1 : Hid (∀ W, Calls Tryz.prog 41 #[.int .u8 x, .int .u8 y] W fun e w' => e = .returned (.int .i64 (signI x y)) ∧ W = w') := fun W => signedR_any x y W dx dy
              have hsb := signI_bd dx dy
              have Hc2 : Hid (∀ W, Calls Tryz.prog 43 #[.int .i64 (signI x y)] W fun e w' => e = .returned (.float .f32 (fb (signI x y))) ∧ W = w') := fun W => sample_any _ W hsb
              have HEX : Hid (x = byteAt bs (5 + 2 * k) ∧ y = byteAt bs (6 + 2 * k)) := ⟨ex, ey⟩
              clear dx dy hsb ex ey
              obtain ⟨sg, hsg⟩ : ∃ sg, sg = signI x y := ⟨_, rfl⟩
              rw [← hsg] at Hc1 Hc2 hset hsu
              have Hsg := Lib.hid hsg
              clear hsg
              obtain ⟨at5, h5⟩ : ∃ at5, at5 = 5 + 2 * k := ⟨_, rfl⟩
              have h6 : 6 + 2 * k = at5 + 1 := by omega
              rw [← h5] at cx; rw [h6] at cy
              have h7 : (5 : Int) + 2 * (k : Int) = (at5 : Int) := by omega
              have h7' : (6 : Int) + 2 * (k : Int) = (at5 : Int) + 1 := by omega
              have h8 : at5 < 28 := by omega
              have h9 : IntKind.i64.wrap ((at5 : Int) + 1) = (at5 : Int) + 1 := IntWalk.i64_in _ (by omega)
              have h10 : ((at5 : Int) + 1).toNat = at5 + 1 := by omega
              have h11 : 0 ≤ (at5 : Int) + 1 := by omega
              have h12 : (at5 : Int) + 1 < 29 := by omega
              have h13 : (at5 : Int) < 29 := by omega
              have h14 : (0 : Int) ≤ (at5 : Int) := by omega
              have h15 : (k : Int) < 8 := by omega
              have h16 : (0 : Int) ≤ (k : Int) := by omega
              clear h5 h6
              go_upto_region 12 with fail
              go_quiet ((go_at_call 41; (first | exact quiet_same (Hc1.out _) | exact quiet_same2 (Hc1.out _))))
              clear cx cy h7 h7' h9 h10 h11 h12 h13 h14 Hc1
              refine genD (w0 := w) p (w.heap.size + 1) (w.heap.size + 1 + 1) _ _ _ _ _ _ (g0.out.old (below_drewN (Below.refl _ _) nq)) (g1.out.old (below_drewN (Below.refl _ _) nq)) (g2.out.old (below_drewN (Below.refl _ _) nq)) (below_drewN gb.out nq) ?_
              clear g0 g1 g2 gb
              intro W3 r0 r1 r2 rb
              obtain ⟨v0, hc0⟩ : ∃ v0, W3.cell? ⟨p, 3 + k, none⟩ = some v0 := ⟨_, r0.cellAt (by rw [pkC_length, xsFill_length _ _ hk]; omega)⟩
              have hf0 := r0.free (3 + k)
              have g0 := Lib.hid r0; have g1 := Lib.hid r1; have g2 := Lib.hid r2; have gb := Lib.hid rb
              clear r0 r1 r2 rb
              cases hu : rangeB sg (-16384) 16384 with
              | true =>
                have HCU : Hid (∀ W, Calls Tryz.prog 42 #[.int .i64 sg] W fun e w' => e = .returned (.int .i64 3) ∧ W = w') := fun W => by have h := checkUnit_any sg W; rw [hu] at h; exact h
                have hE : decE [k0, k1, k2, k3, k4, k5, k6, k7] bs = 3 := by
                  rw [HE2.out]
                  refine dec_far (by unfold lnOf; rw [← E4.out]; omega) k hlt gS.out ?_
                  rw [← HEX.out.1, ← HEX.out.2, ← Hsg.out, hsu, hu]; rfl
                have hC : decC [k0, k1, k2, k3, k4, k5, k6, k7] bs = zero11 := by unfold decC; rw [hE]; rfl
                have HE3 := Lib.hid hE; have HC3 := Lib.hid hC
                clear hE hC HE2 hu hsu
                go_wp2_with (first | (go_at_call 42; refine (HCU.out _).mono ?_; rintro e w' ⟨rfl, rfl⟩) | (refine wpList_store_row rfl 27 _ _ rfl (w.heap.size + 1 + 1) zero11.toArray rfl rfl 27 _ g2.out ?_ ?_ ?_ ?_; (rw [infoRP]; rfl); (rfl); (simp [zero11, pkC, flts, Value.oneCell'])))
                refine bodyPost_ret (results_row_tmp rfl _ _ (w.heap.size + 1 + 1) 27 zero11.toArray (0, 0) _ rfl (g2.out.setRow zero11) Tryz.underlying27 rfl ?_) rfl ?_
                · rw [infoRP]; rfl
                · exact ⟨by rw [HE3.out, HC3.out]; rfl, Below.setRow gb.out (by omega) _⟩
              | false =>
                have HCU : Hid (∀ W, Calls Tryz.prog 42 #[.int .i64 sg] W fun e w' => e = .returned (.int .i64 0) ∧ W = w') := fun W => by have h := checkUnit_any sg W; rw [hu] at h; exact h
                have HS0 : Hid (∀ i, i < k + 1 → sampI (fb (signI (byteAt bs (5 + 2 * i)) (byteAt bs (6 + 2 * i)))) = 0) := fun i hi => by
                  by_cases hik : i < k
                  · exact gS.out i hik
                  · obtain rfl : i = k := by omega
                    rw [← HEX.out.1, ← HEX.out.2, ← Hsg.out, hsu, hu]; rfl
                clear hu hsu HEX Hsg gS
                go_wp2_with (first | (go_at_call 42; refine (HCU.out _).mono ?_; rintro e w' ⟨rfl, rfl⟩) | (go_at_call 43; refine (Hc2.out _).mono ?_; rintro e w' ⟨rfl, rfl⟩))
                have hne : p ≠ w.heap.size + 1 := by have := hlt3.out; omega
                go_roundw
                case rel => exact ⟨k + 1, by omega, by go_num, by rw [← hset.out, ← pkC_set]; exact g0.out.set (3 + k) _, g1.out.far (Ne.symm hne) _, g2.out.far (by have := hlt3.out; simp; omega) _, gb.out.setCell (by have := hlt3.out; simp; omega) _, HS0⟩
                case measure => simp [intOf]; omega
            · obtain rfl : k = 8 := by omega
              obtain ⟨x0, x1, x2, x3, x4, x5, x6, x7, hx8⟩ : ∃ x0 x1 x2 x3 x4 x5 x6 x7, xsOf bs 8 = [x0, x1, x2, x3, x4, x5, x6, x7] := ⟨_, _, _, _, _, _, _, _, rfl⟩
              have hfill : xsFill bs 8 = [x0, x1, x2, x3, x4, x5, x6, x7] := by rw [← hx8]; simp [xsFill]
              rw [hfill] at g0
              obtain ⟨l, hl4⟩ : ∃ l : Nat, b4 = (l : Int) := Int.eq_ofNat_of_zero_le D4.out.1
              subst hl4
              have hln : lnOf bs = (l : Int) := E4.out.symm
              have HEt : Hid (decE [k0, k1, k2, k3, k4, k5, k6, k7] bs = tailI l [x0, x1, x2, x3, x4, x5, x6, x7]) := by
                unfold Hid; rw [HE2.out, dec_near (by rw [hln]; omega) gS.out, hln, hx8, Int.toNat_natCast]
              have HCt : Hid (decE [k0, k1, k2, k3, k4, k5, k6, k7] bs = 0 → decC [k0, k1, k2, k3, k4, k5, k6, k7] bs = pkC b1 (wholeI b2 b3) (l : Int) [x0, x1, x2, x3, x4, x5, x6, x7]) := by
                intro h; unfold decC; rw [if_pos h, hx8, E1.out, E2.out, E3.out, E4.out]; rfl
              have HCf : Hid (decE [k0, k1, k2, k3, k4, k5, k6, k7] bs ≠ 0 → decC [k0, k1, k2, k3, k4, k5, k6, k7] bs = zero11) := by
                intro h; unfold decC; rw [if_neg h]
              have hl8 : l ≤ 8 := by omega
              have HTL : Hid (∀ W, Calls Tryz.prog 37 #[.agg #[.int .i64 b1, .int .i64 (wholeI b2 b3), .int .i64 (l : Int), .float .f32 x0, .float .f32 x1, .float .f32 x2, .float .f32 x3, .float .f32 x4, .float .f32 x5, .float .f32 x6, .float .f32 x7]] W fun e w' => e = .returned (.int .i64 (tailI l [x0, x1, x2, x3, x4, x5, x6, x7])) ∧ Below W.heap.size W w') := fun W => tailR_any b1 (wholeI b2 b3) l x0 x1 x2 x3 x4 x5 x6 x7 W hl8
              have hlit : Hid (wr.heap[p]? = some (.cells #[.int .i64 b1, .int .i64 (wholeI b2 b3), .int .i64 (l : Int), .float .f32 x0, .float .f32 x1, .float .f32 x2, .float .f32 x3, .float .f32 x4, .float .f32 x5, .float .f32 x6, .float .f32 x7] 27 (0, 0))) := g0.out
              clear hx8 hfill hln HE2 gS g0 E1 E2 E3 E4 D2 D3 D4
              obtain ⟨er, her⟩ : ∃ er, er = tailI l [x0, x1, x2, x3, x4, x5, x6, x7] := ⟨_, rfl⟩
              rw [← her] at HEt HTL
              clear her
              by_cases h0 : er = 0
              · subst h0
                go_wp2_with (refine wpList_load_row rfl 27 _ rfl p rfl 27 #[.int .i64 b1, .int .i64 (wholeI b2 b3), .int .i64 (l : Int), .float .f32 x0, .float .f32 x1, .float .f32 x2, .float .f32 x3, .float .f32 x4, .float .f32 x5, .float .f32 x6, .float .f32 x7] (0, 0) _ hlit.out Tryz.underlying27 rfl ?_ ?_; (rw [infoRP]; rfl))
                refine (HTL.out _).mono ?_
                rintro e w3 ⟨rfl, hb3⟩
                have hlit3 : Hid (w3.heap[p]? = some (.cells #[.int .i64 b1, .int .i64 (wholeI b2 b3), .int .i64 (l : Int), .float .f32 x0, .float .f32 x1, .float .f32 x2, .float .f32 x3, .float .f32 x4, .float .f32 x5, .float .f32 x6, .float .f32 x7] 27 (0, 0))) := Row.old hlit.out hb3
                have K2 := Lib.hid (g2.out.old hb3)
                have Kb := Lib.hid (gb.out.trans (hb3.mono gb.out.size))
                clear hb3
                go_wp2_with (first | (refine wpList_load_row rfl 27 _ rfl p rfl 27 #[.int .i64 b1, .int .i64 (wholeI b2 b3), .int .i64 (l : Int), .float .f32 x0, .float .f32 x1, .float .f32 x2, .float .f32 x3, .float .f32 x4, .float .f32 x5, .float .f32 x6, .float .f32 x7] (0, 0) _ hlit3.out Tryz.underlying27 rfl ?_ ?_; (rw [infoRP]; rfl)) | (refine wpList_store_row rfl 27 _ _ rfl (w.heap.size + 1 + 1) #[.int .i64 b1, .int .i64 (wholeI b2 b3), .int .i64 (l : Int), .float .f32 x0, .float .f32 x1, .float .f32 x2, .float .f32 x3, .float .f32 x4, .float .f32 x5, .float .f32 x6, .float .f32 x7] rfl rfl 27 _ K2.out ?_ ?_ ?_ ?_; (rw [infoRP]; rfl); (rfl); (simp [Value.oneCell'])))
                refine bodyPost_ret (results_row_tmp rfl _ _ (w.heap.size + 1 + 1) 27 #[.int .i64 b1, .int .i64 (wholeI b2 b3), .int .i64 (l : Int), .float .f32 x0, .float .f32 x1, .float .f32 x2, .float .f32 x3, .float .f32 x4, .float .f32 x5, .float .f32 x6, .float .f32 x7] (0, 0) _ rfl (K2.out.setRow (pkC b1 (wholeI b2 b3) (l : Int) [x0, x1, x2, x3, x4, x5, x6, x7])) Tryz.underlying27 rfl ?_) rfl ?_
                · rw [infoRP]; rfl
                · exact ⟨by rw [HCt.out HEt.out, HEt.out]; rfl, Below.setRow Kb.out (by omega) _⟩
              · have hz : (er != 0) = true := by simpa using h0
                go_wp2_with (refine wpList_load_row rfl 27 _ rfl p rfl 27 #[.int .i64 b1, .int .i64 (wholeI b2 b3), .int .i64 (l : Int), .float .f32 x0, .float .f32 x1, .float .f32 x2, .float .f32 x3, .float .f32 x4, .float .f32 x5, .float .f32 x6, .float .f32 x7] (0, 0) _ hlit.out Tryz.underlying27 rfl ?_ ?_; (rw [infoRP]; rfl))
                refine (HTL.out _).mono ?_
                rintro e w3 ⟨rfl, hb3⟩
                have K2 := Lib.hid (g2.out.old hb3)
                have Kb := Lib.hid (gb.out.trans (hb3.mono gb.out.size))
                clear hb3
                go_wp2_with (refine wpList_store_row rfl 27 _ _ rfl (w.heap.size + 1 + 1) zero11.toArray rfl rfl 27 _ K2.out ?_ ?_ ?_ ?_; (rw [infoRP]; rfl); (rfl); (simp [zero11, pkC, flts, Value.oneCell']))
                refine bodyPost_ret (results_row_tmp rfl _ _ (w.heap.size + 1 + 1) 27 zero11.toArray (0, 0) _ rfl (K2.out.setRow zero11) Tryz.underlying27 rfl ?_) rfl ?_
                · rw [infoRP]; rfl
                · exact ⟨by rw [HCf.out (by rw [HEt.out]; exact h0), HEt.out]; rfl, Below.setRow Kb.out (by omega) _⟩

theorem decodeR_any (k0 k1 k2 k3 k4 k5 k6 k7 : Int) (bs : List UInt8) (w : World) (hl : bs.length = 29) (hkeys : ∀ j (h : j < 8), isByte ([k0, k1, k2, k3, k4, k5, k6, k7][j])) :
    Calls Tryz.prog 12 #[.agg #[.int .u8 k0, .int .u8 k1, .int .u8 k2, .int .u8 k3, .int .u8 k4, .int .u8 k5, .int .u8 k6, .int .u8 k7], .agg (byts bs).toArray] w
      fun e w' => e = .returned (.tuple #[.agg (decC [k0, k1, k2, k3, k4, k5, k6, k7] bs).toArray, .int .i64 (decE [k0, k1, k2, k3, k4, k5, k6, k7] bs)]) ∧ Below w.heap.size w w' := by
  cases hm : byteAt bs 0 != 201 with
  | true => exact decodeR_mark k0 k1 k2 k3 k4 k5 k6 k7 bs w hl hm
  | false => exact decodeR_mid k0 k1 k2 k3 k4 k5 k6 k7 bs w hl hm hkeys
end Go.Proofs.YtipligklkkiejaaGreatDoor
