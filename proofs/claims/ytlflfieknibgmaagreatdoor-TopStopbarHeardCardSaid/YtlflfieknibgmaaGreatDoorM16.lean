import Derived.Test.YtlflfieknibgmaaGreatDoorM15
import Derived.IntWalk
import Derived.Deep.DeepCutAuto
import Derived.Test.YtlflfieknibgmaaGreatDoorM08
import Derived.Test.YtlflfieknibgmaaGreatDoorM11
import Derived.Deep.LoopGhost
import Derived.Outline
import Derived.Lib.OthersKept
namespace Go.Proofs.YtlflfieknibgmaaGreatDoor
set_option linter.all false
open Go.RowKit Go.Fl
def byteAt (bs : List UInt8) (i : Nat) : Int := ((bs.getD i 0).toNat : Int)
theorem byteAt_bd (bs : List UInt8) (i : Nat) : 0 ≤ byteAt bs i ∧ byteAt bs i ≤ 255 := by
  unfold byteAt
  have := (bs.getD i 0).toNat_lt
  omega
def xsOf (bs : List UInt8) (i : Nat) : List Nat := (List.range i).map fun k => fb (signI (byteAt bs (5 + 2 * k)) (byteAt bs (6 + 2 * k)))
def xsFill (bs : List UInt8) (i : Nat) : List Nat := xsOf bs i ++ List.replicate (8 - i) 0
theorem xsFill_length (bs : List UInt8) (i : Nat) (hi : i ≤ 8) : (xsFill bs i).length = 8 := by simp [xsFill, xsOf]; omega
theorem xsFill_set (bs : List UInt8) (i : Nat) (hi : i < 8) : (xsFill bs i).set i (fb (signI (byteAt bs (5 + 2 * i)) (byteAt bs (6 + 2 * i)))) = xsFill bs (i + 1) := by
  have hl : (xsOf bs i).length = i := by simp [xsOf]
  have he : 8 - i = (8 - (i + 1)) + 1 := by omega
  rw [xsFill, he, List.replicate_succ, List.set_append_right _ _ (by omega), hl, Nat.sub_self]
  simp [xsFill, xsOf, List.range_succ]
def stOf (bs : List UInt8) : Int := byteAt bs 1
def ctOf (bs : List UInt8) : Int := wholeI (byteAt bs 2) (byteAt bs 3)
def lnOf (bs : List UInt8) : Int := byteAt bs 4
def decE (key : List Int) (bs : List UInt8) : Int := if byteAt bs 0 != 201 then 1 else if !sealedB key bs then 27 else pkI (stOf bs) (ctOf bs) (lnOf bs) (xsOf bs 8)
def decC (key : List Int) (bs : List UInt8) : List Value := if decE key bs = 0 then pkC (stOf bs) (ctOf bs) (lnOf bs) (xsOf bs 8) else zero11
theorem signI_bd {a b : Int} (ha : 0 ≤ a ∧ a ≤ 255) (hb : 0 ≤ b ∧ b ≤ 255) : (signI a b).natAbs < 2 ^ 20 := by
  unfold signI wholeI; split <;> omega
theorem info51 : (Tryz.prog.info? 68).map (·.size) = some 29 := by kernel_rfl
theorem Row.bytes {w : World} {g : Nat} {t : TypeId} {bs : List UInt8} (h : Row w g t (byts bs)) {i : Nat} (hi : i < bs.length) : w.cell? ⟨g, i, none⟩ = some (.int .u8 (byteAt bs i)) := by
  rw [h.cell]; simp [byts, byteAt, hi]
theorem keepDe {w1 W W' : World} {g : Nat} {b1 b2 b3 b4 : Int} (h : W.cell? ⟨g, 1, none⟩ = some (.int .u8 b1) ∧ W.cell? ⟨g, 2, none⟩ = some (.int .u8 b2) ∧ W.cell? ⟨g, 3, none⟩ = some (.int .u8 b3) ∧ W.cell? ⟨g, 4, none⟩ = some (.int .u8 b4) ∧ Below w1.heap.size w1 W) (hb : Below W.heap.size W W') :
    W'.cell? ⟨g, 1, none⟩ = some (.int .u8 b1) ∧ W'.cell? ⟨g, 2, none⟩ = some (.int .u8 b2) ∧ W'.cell? ⟨g, 3, none⟩ = some (.int .u8 b3) ∧ W'.cell? ⟨g, 4, none⟩ = some (.int .u8 b4) ∧ Below w1.heap.size w1 W' :=
  ⟨keepC h.1 hb, keepC h.2.1 hb, keepC h.2.2.1 hb, keepC h.2.2.2.1 hb, h.2.2.2.2.trans (hb.mono h.2.2.2.2.size)⟩
theorem genD {p : World → Prop} {w0 w : World} (g0 g1 g2 : Nat) (t0 t1 t2 : TypeId) (v0 v1 v2 : List Value) (h0 : Row w g0 t0 v0) (h1 : Row w g1 t1 v1) (h2 : Row w g2 t2 v2) (hb : Below w0.heap.size w0 w)
    (h : ∀ w3, Row w3 g0 t0 v0 → Row w3 g1 t1 v1 → Row w3 g2 t2 v2 → Below w0.heap.size w0 w3 → p w3) : p w := h w h0 h1 h2 hb
set_option maxRecDepth 100000 in
set_option maxHeartbeats 600000 in
theorem decode_any (k0 k1 k2 k3 k4 k5 k6 k7 : Int) (bs : List UInt8) (w : World) (hl : bs.length = 29) (hkeys : ∀ j (h : j < 8), isByte ([k0, k1, k2, k3, k4, k5, k6, k7][j])) :
    Calls Tryz.prog 31 #[.agg #[.int .u8 k0, .int .u8 k1, .int .u8 k2, .int .u8 k3, .int .u8 k4, .int .u8 k5, .int .u8 k6, .int .u8 k7], .agg (byts bs).toArray] w
      fun e w' => e = .returned (.tuple #[.agg (decC [k0, k1, k2, k3, k4, k5, k6, k7] bs).toArray, .int .i64 (decE [k0, k1, k2, k3, k4, k5, k6, k7] bs)]) ∧ Below w.heap.size w w' := by
  have Hk := Lib.hid hkeys
  have Hl := Lib.hid hl
  clear hkeys hl
  have R0 := Row.new w 57 (u8s [k0, k1, k2, k3, k4, k5, k6, k7])
  have R1 := Row.new (w.alloc (.cells (u8s [k0, k1, k2, k3, k4, k5, k6, k7]).toArray 57)) 68 (byts bs)
  have R2 := Row.new ((w.alloc (.cells (u8s [k0, k1, k2, k3, k4, k5, k6, k7]).toArray 57)).alloc (.cells (byts bs).toArray 68)) 72 zero11
  rw [World.size_alloc] at R1
  rw [World.size_alloc, World.size_alloc] at R2
  have R0' := (R0.alloc (.cells (byts bs).toArray 68)).alloc (.cells zero11.toArray 72)
  have R1' := R1.alloc (.cells zero11.toArray 72)
  have RB := (((Below.refl w.heap.size w).alloc (Nat.le_refl _) (.cells (u8s [k0, k1, k2, k3, k4, k5, k6, k7]).toArray 57)).alloc (by simp) (.cells (byts bs).toArray 68)).alloc (by simp; omega) (.cells zero11.toArray 72)
  have HR0 := Lib.hid R0'; have HR1 := Lib.hid R1'; have HR2 := Lib.hid R2; have HRB := Lib.hid RB
  clear R0 R1 R2 R0' R1' RB
  go_enter Tryz.func31, Tryz.ntmps31
  go_upto_region 1 with fail
  refine genD (w0 := w) w.heap.size (w.heap.size + 1) (w.heap.size + 1 + 1) _ _ _ _ _ _ HR0.out HR1.out HR2.out HRB.out ?_
  clear HR0 HR1 HR2 HRB
  intro W R0 R1 R2 RB
  have hc0 := R1.bytes (i := 0) (by rw [Hl.out]; decide)
  have H0 := Lib.hid R0; have H1 := Lib.hid R1; have H2 := Lib.hid R2; have HB := Lib.hid RB
  clear R0 R1 R2 RB
  by_cases hm : (byteAt bs 0 != 201) = true
  · have hE : decE [k0, k1, k2, k3, k4, k5, k6, k7] bs = 1 := by unfold decE; rw [if_pos hm]
    have hC : decC [k0, k1, k2, k3, k4, k5, k6, k7] bs = zero11 := by unfold decC; rw [hE]; rfl
    have HE := Lib.hid hE; have HC := Lib.hid hC
    clear hE hC
    go_wp2_with (refine wpList_store_row rfl 72 _ _ rfl (w.heap.size + 1 + 1) zero11.toArray rfl rfl 72 _ H2.out ?_ ?_ ?_ ?_; (rw [info54]; rfl); (rfl); (simp [zero11, pkC, flts, Value.oneCell']))
    refine bodyPost_ret (results_row_tmp rfl _ _ (w.heap.size + 1 + 1) 72 zero11.toArray (0, 0) _ rfl (H2.out.setRow zero11) Tryz.underlying72 rfl ?_) rfl ?_
    · rw [info54]; rfl
    · exact ⟨by rw [HE.out, HC.out]; rfl, Below.setRow HB.out (by omega) _⟩
  · have hm2 : (byteAt bs 0 != 201) = false := by simpa using hm
    have Hm := Lib.hid hm2
    have q0 := H0.out.cellAt (j := 0) (by simp [u8s]); have q1 := H0.out.cellAt (j := 1) (by simp [u8s]); have q2 := H0.out.cellAt (j := 2) (by simp [u8s]); have q3 := H0.out.cellAt (j := 3) (by simp [u8s]); have q4 := H0.out.cellAt (j := 4) (by simp [u8s]); have q5 := H0.out.cellAt (j := 5) (by simp [u8s]); have q6 := H0.out.cellAt (j := 6) (by simp [u8s]); have q7 := H0.out.cellAt (j := 7) (by simp [u8s])
    simp only [u8s, List.map_cons, List.getElem_cons_zero, List.getElem_cons_succ] at q0 q1 q2 q3 q4 q5 q6 q7
    have hR := Lib.hid (Rd.row H1.out)
    clear hm
    cases hsb : sealedB [k0, k1, k2, k3, k4, k5, k6, k7] bs
    · have hE : decE [k0, k1, k2, k3, k4, k5, k6, k7] bs = 27 := by unfold decE; rw [if_neg (by rw [hm2]; decide), if_pos (by rw [hsb]; rfl)]
      have hC : decC [k0, k1, k2, k3, k4, k5, k6, k7] bs = zero11 := by unfold decC; rw [hE]; rfl
      have HE := Lib.hid hE; have HC := Lib.hid hC
      have Hcall : Hid (Calls Tryz.prog 96 #[.agg #[.int .u8 k0, .int .u8 k1, .int .u8 k2, .int .u8 k3, .int .u8 k4, .int .u8 k5, .int .u8 k6, .int .u8 k7], .slice (some ⟨w.heap.size + 1, 0, none⟩) 29 29] W.drew fun e w' => e = .returned (.bool false) ∧ Below W.heap.size W w') :=
        (isSealed_any k0 k1 k2 k3 k4 k5 k6 k7 (some ⟨w.heap.size + 1, 0, none⟩) 29 29 bs W.drew hR.out Hl.out.symm (by decide) (by rw [Hl.out]; decide) (by rw [Hl.out]; decide) Hk.out).mono fun e w' h => ⟨by rw [← hsb]; exact h.1, (Below.refl _ W).drew.trans h.2⟩
      clear hE hC hsb
      go_wp2
      go_region_with ((go_at_call 96; refine Hcall.out.mono ?_; rintro e w1 ⟨rfl, hb1⟩))
      all_goals
        have H2' := Lib.hid (H2.out.old hb1)
        have HB' := Lib.hid (HB.out.trans (hb1.mono HB.out.size))
        go_wp2_with (refine wpList_store_row rfl 72 _ _ rfl (w.heap.size + 1 + 1) zero11.toArray rfl rfl 72 _ H2'.out ?_ ?_ ?_ ?_; (rw [info54]; rfl); (rfl); (simp [zero11, pkC, flts, Value.oneCell']))
        refine bodyPost_ret (results_row_tmp rfl _ _ (w.heap.size + 1 + 1) 72 zero11.toArray (0, 0) _ rfl (H2'.out.setRow zero11) Tryz.underlying72 rfl ?_) rfl ?_
        · rw [info54]; rfl
        · exact ⟨by rw [HE.out, HC.out]; rfl, Below.setRow HB'.out (by omega) _⟩
    · have hE : decE [k0, k1, k2, k3, k4, k5, k6, k7] bs = pkI (stOf bs) (ctOf bs) (lnOf bs) (xsOf bs 8) := by unfold decE; rw [if_neg (by rw [hm2]; decide), if_neg (by rw [hsb]; decide)]
      have HE := Lib.hid hE
      have Hcall : Hid (Calls Tryz.prog 96 #[.agg #[.int .u8 k0, .int .u8 k1, .int .u8 k2, .int .u8 k3, .int .u8 k4, .int .u8 k5, .int .u8 k6, .int .u8 k7], .slice (some ⟨w.heap.size + 1, 0, none⟩) 29 29] W.drew fun e w' => e = .returned (.bool true) ∧ Below W.heap.size W w') :=
        (isSealed_any k0 k1 k2 k3 k4 k5 k6 k7 (some ⟨w.heap.size + 1, 0, none⟩) 29 29 bs W.drew hR.out Hl.out.symm (by decide) (by rw [Hl.out]; decide) (by rw [Hl.out]; decide) Hk.out).mono fun e w' h => ⟨by rw [← hsb]; exact h.1, (Below.refl _ W).drew.trans h.2⟩
      clear hE hsb
      go_wp2
      go_region_with ((go_at_call 96; refine Hcall.out.mono ?_; rintro e w1 ⟨rfl, hb1⟩))
      have H1' := Lib.hid (H1.out.old hb1)
      have H2' := Lib.hid (H2.out.old hb1)
      have HB' := Lib.hid (HB.out.trans (hb1.mono HB.out.size))
      have c1 := H1'.out.bytes (i := 1) (by rw [Hl.out]; decide)
      have c2 := H1'.out.bytes (i := 2) (by rw [Hl.out]; decide)
      have c3 := H1'.out.bytes (i := 3) (by rw [Hl.out]; decide)
      have c4 := H1'.out.bytes (i := 4) (by rw [Hl.out]; decide)
      have d1 := byteAt_bd bs 1
      have d2 := byteAt_bd bs 2
      have d3 := byteAt_bd bs 3
      have d4 := byteAt_bd bs 4
      obtain ⟨b1, e1⟩ : ∃ b1, b1 = byteAt bs 1 := ⟨_, rfl⟩
      obtain ⟨b2, e2⟩ : ∃ b2, b2 = byteAt bs 2 := ⟨_, rfl⟩
      obtain ⟨b3, e3⟩ : ∃ b3, b3 = byteAt bs 3 := ⟨_, rfl⟩
      obtain ⟨b4, e4⟩ : ∃ b4, b4 = byteAt bs 4 := ⟨_, rfl⟩
      rw [← e1] at c1 d1; rw [← e2] at c2 d2; rw [← e3] at c3 d3; rw [← e4] at c4 d4
      have E1 := Lib.hid e1; have E2 := Lib.hid e2; have E3 := Lib.hid e3; have E4 := Lib.hid e4
      have D2 := Lib.hid d2; have D3 := Lib.hid d3
      have v1 : IntKind.i64.wrap b1 = b1 := IntWalk.i64_in _ (by omega)
      have v4 : IntKind.i64.wrap b4 = b4 := IntWalk.i64_in _ (by omega)
      clear e1 e2 e3 e4 hb1 d1 d2 d3 d4 q0 q1 q2 q3 q4 q5 q6 q7 hc0
      go_wp2
      have S0 : Hid (w1.cell? ⟨w.heap.size + 1, 1, none⟩ = some (.int .u8 b1) ∧ w1.cell? ⟨w.heap.size + 1, 2, none⟩ = some (.int .u8 b2) ∧ w1.cell? ⟨w.heap.size + 1, 3, none⟩ = some (.int .u8 b3) ∧ w1.cell? ⟨w.heap.size + 1, 4, none⟩ = some (.int .u8 b4) ∧ Below w1.heap.size w1 w1) := ⟨c1, c2, c3, c4, Below.refl _ _⟩
      have F0 : Hid (Row ((w1.alloc (.cells #[.int .i64 b1, .int .i64 (wholeI b2 b3), .int .i64 b4, .float .f32 0, .float .f32 0, .float .f32 0, .float .f32 0, .float .f32 0, .float .f32 0, .float .f32 0, .float .f32 0] 72)).drew) w1.heap.size 72 (pkC b1 (wholeI b2 b3) b4 (xsFill bs 0))) := Row.new w1 72 (pkC b1 (wholeI b2 b3) b4 (xsFill bs 0))
      have F1 : Hid (Row ((w1.alloc (.cells #[.int .i64 b1, .int .i64 (wholeI b2 b3), .int .i64 b4, .float .f32 0, .float .f32 0, .float .f32 0, .float .f32 0, .float .f32 0, .float .f32 0, .float .f32 0, .float .f32 0] 72)).drew) (w.heap.size + 1) 68 (byts bs)) := H1'.out.alloc _
      have F2 : Hid (Row ((w1.alloc (.cells #[.int .i64 b1, .int .i64 (wholeI b2 b3), .int .i64 b4, .float .f32 0, .float .f32 0, .float .f32 0, .float .f32 0, .float .f32 0, .float .f32 0, .float .f32 0, .float .f32 0] 72)).drew) (w.heap.size + 1 + 1) 72 zero11) := H2'.out.alloc _
      have FB : Hid (Below w.heap.size w ((w1.alloc (.cells #[.int .i64 b1, .int .i64 (wholeI b2 b3), .int .i64 b4, .float .f32 0, .float .f32 0, .float .f32 0, .float .f32 0, .float .f32 0, .float .f32 0, .float .f32 0, .float .f32 0] 72)).drew)) := (HB'.out.alloc (HB'.out.size) _).drew
      have hlt2 : Hid (w.heap.size + 1 + 1 < w1.heap.size) := H2'.out.lt
      go_region_held3 (fun w' => w'.cell? ⟨w.heap.size + 1, 1, none⟩ = some (.int .u8 b1) ∧ w'.cell? ⟨w.heap.size + 1, 2, none⟩ = some (.int .u8 b2) ∧ w'.cell? ⟨w.heap.size + 1, 3, none⟩ = some (.int .u8 b3) ∧ w'.cell? ⟨w.heap.size + 1, 4, none⟩ = some (.int .u8 b4) ∧ Below w1.heap.size w1 w') (first | assumption | exact keepDe S0.out (Below.drew (Below.refl _ _)) | exact keepDe (by assumption) (Below.drew (Below.refl _ _)) | exact keepDe (by assumption) ((Below.refl _ _).alloc (Nat.le_refl _) _) | exact keepDe S0.out ((Below.refl _ _).alloc (Nat.le_refl _) _).drew | exact keepDe S0.out ((Below.refl _ _).drew.alloc (Nat.le_refl _) _))
        (first | (go_at_call 97; refine (whole_any b2 b3 _ D2.out D3.out).mono ?_; rintro e w' ⟨rfl, rfl⟩))
      all_goals clear c1 c2 c3 c4 S0 v1 v4 hR Hcall
      all_goals
        try clear hHeld
        refine genD (w0 := w) w1.heap.size (w.heap.size + 1) (w.heap.size + 1 + 1) _ _ _ _ _ _ F0.out F1.out F2.out FB.out ?_
        clear F0 F1 F2 FB
        intro W2 R0 R1 R2 RB
        have G0 := Lib.hid R0; have G1 := Lib.hid R1; have G2 := Lib.hid R2; have GB := Lib.hid RB
        clear R0 R1 R2 RB
        go_wp2
        go_loopw [31] (fun i wr => ∃ k : Nat, k ≤ 8 ∧ i = .int .i64 k ∧ Hid (Row wr w1.heap.size 72 (pkC b1 (wholeI b2 b3) b4 (xsFill bs k))) ∧ Hid (Row wr (w.heap.size + 1) 68 (byts bs)) ∧ Hid (Row wr (w.heap.size + 1 + 1) 72 zero11) ∧ Hid (Below w.heap.size w wr)) (fun i _ => 8 - (intOf i).toNat)
        case atStart => exact ⟨0, Nat.zero_le _, rfl, G0, G1, G2, GB⟩
        case round =>
          obtain ⟨k, hk, rfl, g0, g1, g2, gb⟩ := hrel
          by_cases hlt : k < 8
          · obtain ⟨x, ex⟩ : ∃ x, x = byteAt bs (5 + 2 * k) := ⟨_, rfl⟩
            obtain ⟨y, ey⟩ : ∃ y, y = byteAt bs (6 + 2 * k) := ⟨_, rfl⟩
            have cx := g1.out.bytes (i := 5 + 2 * k) (by rw [Hl.out]; omega)
            have cy := g1.out.bytes (i := 6 + 2 * k) (by rw [Hl.out]; omega)
            have dx := byteAt_bd bs (5 + 2 * k)
            have dy := byteAt_bd bs (6 + 2 * k)
            have hset := Lib.hid (xsFill_set bs k hlt)
            rw [← ex] at cx dx hset; rw [← ey] at cy dy hset
            have Hc1 : Hid (Calls Tryz.prog 89 #[.int .u8 x, .int .u8 y] wr.drew fun e w' => e = .returned (.int .i64 (signI x y)) ∧ wr.drew = w') := signed_any x y wr.drew dx dy
            have hsb := signI_bd dx dy
            have Hc2 : Hid (Calls Tryz.prog 88 #[.int .i64 (signI x y)] wr.drew fun e w' => e = .returned (.float .f32 (fb (signI x y))) ∧ wr.drew = w') := sampleOf_any _ _ hsb
            obtain ⟨v0, hc0⟩ : ∃ v0, wr.cell? ⟨w1.heap.size, 3 + k, none⟩ = some v0 := ⟨_, g0.out.cellAt (by rw [pkC_length, xsFill_length _ _ hk]; omega)⟩
            have hf0 := g0.out.free (3 + k)
            clear dx dy hsb ex ey
            obtain ⟨sg, hsg⟩ : ∃ sg, sg = signI x y := ⟨_, rfl⟩
            rw [← hsg] at Hc1 Hc2 hset
            clear hsg
            obtain ⟨at5, h5⟩ : ∃ at5, at5 = 5 + 2 * k := ⟨_, rfl⟩
            have h6 : 6 + 2 * k = at5 + 1 := by omega
            rw [← h5] at cx; rw [h6] at cy
            have h7 : (5 : Int) + 2 * (k : Int) = (at5 : Int) := by omega
            have h8 : at5 < 28 := by omega
            have h9 : IntKind.i64.wrap ((at5 : Int) + 1) = (at5 : Int) + 1 := IntWalk.i64_in _ (by omega)
            have h10 : ((at5 : Int) + 1).toNat = at5 + 1 := by omega
            have h11 : 0 ≤ (at5 : Int) + 1 := by omega
            have h12 : (at5 : Int) + 1 < 29 := by omega
            have h13 : (at5 : Int) < 29 := by omega
            have h14 : (0 : Int) ≤ (at5 : Int) := by omega
            have h15 : (k : Int) < 8 := by omega
            have h16 : (0 : Int) ≤ (k : Int) := by omega
            clear h5 h6
            go_wp2
            have hne : w1.heap.size ≠ w.heap.size + 1 := by have := hlt2.out; omega
            have S1 : Hid (wr.cell? ⟨w.heap.size + 1, at5, none⟩ = some (.int .u8 x) ∧ wr.cell? ⟨w.heap.size + 1, at5 + 1, none⟩ = some (.int .u8 y)) := ⟨cx, cy⟩
            have hStore : ∀ v, Hid ((wr.drew.setCell ⟨w1.heap.size, 3 + k, none⟩ v).cell? ⟨w.heap.size + 1, at5, none⟩ = some (.int .u8 x) ∧ (wr.drew.setCell ⟨w1.heap.size, 3 + k, none⟩ v).cell? ⟨w.heap.size + 1, at5 + 1, none⟩ = some (.int .u8 y)) := fun v => ⟨(World.cell?_setCell_far wr.drew _ _ v hne).trans cx, (World.cell?_setCell_far wr.drew _ _ v hne).trans cy⟩
            have HStore := Lib.hid hStore
            clear hStore
            go_region_held3 (fun w' => w'.cell? ⟨w.heap.size + 1, at5, none⟩ = some (.int .u8 x) ∧ w'.cell? ⟨w.heap.size + 1, at5 + 1, none⟩ = some (.int .u8 y)) (first | assumption | exact S1.out | exact (HStore.out _).out)
              (first | (go_at_call 89; refine Hc1.out.mono ?_; rintro e w' ⟨rfl, rfl⟩) | (go_at_call 88; refine Hc2.out.mono ?_; rintro e w' ⟨rfl, rfl⟩))
            all_goals go_wp2
            all_goals go_roundw
            all_goals first | (exact ⟨k + 1, by omega, by go_num, by rw [← hset.out, ← pkC_set]; exact g0.out.set (3 + k) _, g1.out.far (Ne.symm hne) _, g2.out.far (by have := hlt2.out; simp; omega) _, (gb.out.setCell (by have := hlt2.out; simp; omega) _).drew⟩) | (simp [intOf]; omega)
          · obtain rfl : k = 8 := by omega
            obtain ⟨x0, x1, x2, x3, x4, x5, x6, x7, hx8⟩ : ∃ x0 x1 x2 x3 x4 x5 x6 x7, xsOf bs 8 = [x0, x1, x2, x3, x4, x5, x6, x7] := ⟨_, _, _, _, _, _, _, _, rfl⟩
            have hfill : xsFill bs 8 = [x0, x1, x2, x3, x4, x5, x6, x7] := by rw [← hx8]; simp [xsFill]
            rw [hfill] at g0
            have hlit : Hid (wr.heap[w1.heap.size]? = some (.cells #[.int .i64 b1, .int .i64 (wholeI b2 b3), .int .i64 b4, .float .f32 x0, .float .f32 x1, .float .f32 x2, .float .f32 x3, .float .f32 x4, .float .f32 x5, .float .f32 x6, .float .f32 x7] 72 (0, 0))) := g0.out
            have HE2 : Hid (decE [k0, k1, k2, k3, k4, k5, k6, k7] bs = pkI b1 (wholeI b2 b3) b4 [x0, x1, x2, x3, x4, x5, x6, x7]) := by
              unfold Hid; rw [HE.out, hx8, E1.out, E2.out, E3.out, E4.out]; rfl
            have HC2 : Hid (decE [k0, k1, k2, k3, k4, k5, k6, k7] bs = 0 → decC [k0, k1, k2, k3, k4, k5, k6, k7] bs = pkC b1 (wholeI b2 b3) b4 [x0, x1, x2, x3, x4, x5, x6, x7]) := by
              intro h; unfold decC; rw [if_pos h, hx8, E1.out, E2.out, E3.out, E4.out]; rfl
            have HC3 : Hid (decE [k0, k1, k2, k3, k4, k5, k6, k7] bs ≠ 0 → decC [k0, k1, k2, k3, k4, k5, k6, k7] bs = zero11) := by
              intro h; unfold decC; rw [if_neg h]
            clear hx8 hfill
            obtain ⟨er, her⟩ : ∃ er, er = pkI b1 (wholeI b2 b3) b4 [x0, x1, x2, x3, x4, x5, x6, x7] := ⟨_, rfl⟩
            rw [← her] at HE2
            have Her := Lib.hid her
            clear her
            by_cases h0 : er = 0
            · subst h0
              go_wp2_with (refine wpList_load_row rfl 72 _ rfl w1.heap.size rfl 72 #[.int .i64 b1, .int .i64 (wholeI b2 b3), .int .i64 b4, .float .f32 x0, .float .f32 x1, .float .f32 x2, .float .f32 x3, .float .f32 x4, .float .f32 x5, .float .f32 x6, .float .f32 x7] (0, 0) _ hlit.out Tryz.underlying72 rfl ?_ ?_; (rw [info54]; rfl))
              refine (checkPacket_any _ _ _ _ _ _ _ _ _ _ _ _).mono ?_
              rintro e w3 ⟨rfl, hb3⟩
              rw [← Her.out]
              have hlit3 : Hid (w3.heap[w1.heap.size]? = some (.cells #[.int .i64 b1, .int .i64 (wholeI b2 b3), .int .i64 b4, .float .f32 x0, .float .f32 x1, .float .f32 x2, .float .f32 x3, .float .f32 x4, .float .f32 x5, .float .f32 x6, .float .f32 x7] 72 (0, 0))) := Row.old hlit.out hb3
              have K2 := Lib.hid (g2.out.old hb3)
              have Kb := Lib.hid (gb.out.trans (hb3.mono gb.out.size))
              clear hb3
              go_wp2_with (first | (refine wpList_load_row rfl 72 _ rfl w1.heap.size rfl 72 #[.int .i64 b1, .int .i64 (wholeI b2 b3), .int .i64 b4, .float .f32 x0, .float .f32 x1, .float .f32 x2, .float .f32 x3, .float .f32 x4, .float .f32 x5, .float .f32 x6, .float .f32 x7] (0, 0) _ hlit3.out Tryz.underlying72 rfl ?_ ?_; (rw [info54]; rfl)) | (refine wpList_store_row rfl 72 _ _ rfl (w.heap.size + 1 + 1) #[.int .i64 b1, .int .i64 (wholeI b2 b3), .int .i64 b4, .float .f32 x0, .float .f32 x1, .float .f32 x2, .float .f32 x3, .float .f32 x4, .float .f32 x5, .float .f32 x6, .float .f32 x7] rfl rfl 72 _ K2.out ?_ ?_ ?_ ?_; (rw [info54]; rfl); (rfl); (simp [Value.oneCell'])))
              refine bodyPost_ret (results_row_tmp rfl _ _ (w.heap.size + 1 + 1) 72 #[.int .i64 b1, .int .i64 (wholeI b2 b3), .int .i64 b4, .float .f32 x0, .float .f32 x1, .float .f32 x2, .float .f32 x3, .float .f32 x4, .float .f32 x5, .float .f32 x6, .float .f32 x7] (0, 0) _ rfl (K2.out.setRow (pkC b1 (wholeI b2 b3) b4 [x0, x1, x2, x3, x4, x5, x6, x7])) Tryz.underlying72 rfl ?_) rfl ?_
              · rw [info54]; rfl
              · exact ⟨by rw [HC2.out HE2.out, HE2.out]; rfl, Below.setRow Kb.out (by omega) _⟩
            · have hz : (er != 0) = true := by simpa using h0
              go_wp2_with (refine wpList_load_row rfl 72 _ rfl w1.heap.size rfl 72 #[.int .i64 b1, .int .i64 (wholeI b2 b3), .int .i64 b4, .float .f32 x0, .float .f32 x1, .float .f32 x2, .float .f32 x3, .float .f32 x4, .float .f32 x5, .float .f32 x6, .float .f32 x7] (0, 0) _ hlit.out Tryz.underlying72 rfl ?_ ?_; (rw [info54]; rfl))
              refine (checkPacket_any _ _ _ _ _ _ _ _ _ _ _ _).mono ?_
              rintro e w3 ⟨rfl, hb3⟩
              rw [← Her.out]
              have K2 := Lib.hid (g2.out.old hb3)
              have Kb := Lib.hid (gb.out.trans (hb3.mono gb.out.size))
              have H0 := Lib.hid h0
              clear hb3 h0
              go_wp2_with (refine wpList_store_row rfl 72 _ _ rfl (w.heap.size + 1 + 1) zero11.toArray rfl rfl 72 _ K2.out ?_ ?_ ?_ ?_; (rw [info54]; rfl); (rfl); (simp [zero11, pkC, flts, Value.oneCell']))
              refine bodyPost_ret (results_row_tmp rfl _ _ (w.heap.size + 1 + 1) 72 zero11.toArray (0, 0) _ rfl (K2.out.setRow zero11) Tryz.underlying72 rfl ?_) rfl ?_
              · rw [info54]; rfl
              · exact ⟨by rw [HC3.out (by rw [HE2.out]; exact H0.out), HE2.out]; rfl, Below.setRow Kb.out (by omega) _⟩

theorem Rd.drop {w : World} {b off : Nat} {xs : List Value} (h : Rd w (some ⟨b, off, none⟩) xs) (k : Nat) : Rd w (some ⟨b, off + k, none⟩) (xs.drop k) := by
  intro j v hv
  rw [List.getElem?_drop] at hv
  obtain ⟨b', off', h1, h2⟩ := h (k + j) v hv
  cases h1
  exact ⟨b, off + k, rfl, by rw [Nat.add_assoc]; exact h2⟩
theorem keepRe {w1 W W' : World} {kb : Nat} {k0 k1 k2 k3 k4 k5 k6 k7 : Int} (h : W.cell? ⟨kb, 0, none⟩ = some (.int .u8 k0) ∧ W.cell? ⟨kb, 1, none⟩ = some (.int .u8 k1) ∧ W.cell? ⟨kb, 2, none⟩ = some (.int .u8 k2) ∧ W.cell? ⟨kb, 3, none⟩ = some (.int .u8 k3) ∧ W.cell? ⟨kb, 4, none⟩ = some (.int .u8 k4) ∧ W.cell? ⟨kb, 5, none⟩ = some (.int .u8 k5) ∧ W.cell? ⟨kb, 6, none⟩ = some (.int .u8 k6) ∧ W.cell? ⟨kb, 7, none⟩ = some (.int .u8 k7) ∧ Below w1.heap.size w1 W) (hb : Below W.heap.size W W') : W'.cell? ⟨kb, 0, none⟩ = some (.int .u8 k0) ∧ W'.cell? ⟨kb, 1, none⟩ = some (.int .u8 k1) ∧ W'.cell? ⟨kb, 2, none⟩ = some (.int .u8 k2) ∧ W'.cell? ⟨kb, 3, none⟩ = some (.int .u8 k3) ∧ W'.cell? ⟨kb, 4, none⟩ = some (.int .u8 k4) ∧ W'.cell? ⟨kb, 5, none⟩ = some (.int .u8 k5) ∧ W'.cell? ⟨kb, 6, none⟩ = some (.int .u8 k6) ∧ W'.cell? ⟨kb, 7, none⟩ = some (.int .u8 k7) ∧ Below w1.heap.size w1 W' :=
  ⟨keepC (h.1) hb, keepC (h.2.1) hb, keepC (h.2.2.1) hb, keepC (h.2.2.2.1) hb, keepC (h.2.2.2.2.1) hb, keepC (h.2.2.2.2.2.1) hb, keepC (h.2.2.2.2.2.2.1) hb, keepC (h.2.2.2.2.2.2.2.1) hb, (h.2.2.2.2.2.2.2.2).trans (hb.mono (h.2.2.2.2.2.2.2.2).size)⟩
theorem lastRe {w1 W : World} {kb : Nat} {k0 k1 k2 k3 k4 k5 k6 k7 : Int} (h : W.cell? ⟨kb, 0, none⟩ = some (.int .u8 k0) ∧ W.cell? ⟨kb, 1, none⟩ = some (.int .u8 k1) ∧ W.cell? ⟨kb, 2, none⟩ = some (.int .u8 k2) ∧ W.cell? ⟨kb, 3, none⟩ = some (.int .u8 k3) ∧ W.cell? ⟨kb, 4, none⟩ = some (.int .u8 k4) ∧ W.cell? ⟨kb, 5, none⟩ = some (.int .u8 k5) ∧ W.cell? ⟨kb, 6, none⟩ = some (.int .u8 k6) ∧ W.cell? ⟨kb, 7, none⟩ = some (.int .u8 k7) ∧ Below w1.heap.size w1 W) : Below w1.heap.size w1 W := h.2.2.2.2.2.2.2.2
theorem owns_below {w w' : World} {B : Nat} {e : TypeId} {s n : Nat} {v : Value} {xs : List Value} (h : w.ownsRow B e s v n xs) (hb : Below w.heap.size w w') : w'.ownsRow B e s v n xs := by
  refine ⟨h.1, ?_⟩
  rcases h.2 with h2 | ⟨g, cap, cur, h1, h2, h3, h4⟩
  · exact .inl h2
  · exact .inr ⟨g, cap, cur, h1, h2, (hb.block g (Array.getElem?_eq_some_iff.1 h3).1).trans h3, h4⟩
def markC (l : List (Int × ByteArray)) : List Value := l.flatMap fun p => [.int .i64 p.1, .string p.2]
theorem markC_get (l : List (Int × ByteArray)) (k : Nat) (hk : k < l.length) : (markC l)[k * 2]? = some (.int .i64 l[k].1) ∧ (markC l)[k * 2 + 1]? = some (.string l[k].2) := by
  induction l generalizing k with
  | nil => simp at hk
  | cons p l ih =>
    match k, hk with
    | 0, _ => exact ⟨rfl, rfl⟩
    | k + 1, hk =>
      have h := ih k (by simpa using hk)
      have e1 : (k + 1) * 2 = k * 2 + 2 := by omega
      rw [e1, show k * 2 + 2 + 1 = k * 2 + 1 + 2 by omega]
      exact ⟨by simpa [markC] using h.1, by simpa [markC] using h.2⟩
theorem Rd.mark {w : World} {A : Option Addr} {l : List (Int × ByteArray)} (h : Rd w A (markC l)) {k : Nat} (hk : k < l.length) : ∃ b off, A = some ⟨b, off, none⟩ ∧ w.cell? ⟨b, off + k * 2, none⟩ = some (.int .i64 l[k].1) ∧ w.cell? ⟨b, off + k * 2 + 1, none⟩ = some (.string l[k].2) := by
  obtain ⟨h1, h2⟩ := markC_get l k hk
  obtain ⟨b, off, hA, hc1⟩ := h _ _ h1
  obtain ⟨b', off', hA', hc2⟩ := h _ _ h2
  rw [hA] at hA'
  cases hA'
  exact ⟨b, off, hA, hc1, by rw [Nat.add_assoc]; exact hc2⟩


def wordI (l : List UInt8) : Int := if firstI [whenI l.isEmpty 12, whenI (decide (4 < l.length)) 26] ≠ 0 then firstI [whenI l.isEmpty 12, whenI (decide (4 < l.length)) 26] else if l.all (fun c => capB (u8I c)) then 0 else 1
theorem wordI_empty : wordI [] = 12 := by decide
theorem wordI_long {l : List UInt8} (h : 4 < l.length) : wordI l = 26 := by
  have he : l.isEmpty = false := by cases l with | nil => simp at h | cons a l => rfl
  unfold wordI; rw [he]; simp [h, firstI, whenI]
theorem wordI_short {l : List UInt8} (h0 : l.isEmpty = false) (h : l.length ≤ 4) : wordI l = if l.all (fun c => capB (u8I c)) then 0 else 1 := by
  have h4 : decide (4 < l.length) = false := by simp; omega
  unfold wordI; rw [h0, h4]; rfl
set_option maxRecDepth 100000 in
set_option maxHeartbeats 1000000 in
theorem checkWord_any (s : ByteArray) (w : World) : Calls Tryz.prog 33 #[.string s] w fun e w' => e = .returned (.int .i64 (wordI s.data.toList)) ∧ Below w.heap.size w w' := by
  have hl : s.data.toList.length = s.size := by simp
  by_cases h0 : s.size = 0
  · have he : s = ByteArray.empty := by
      obtain ⟨⟨l⟩⟩ := s
      cases l with
      | nil => rfl
      | cons a l => simp [ByteArray.size] at h0
    subst he
    clear h0 hl
    go_enter Tryz.func33, Tryz.ntmps33
    go_wp2_with (first | (go_at_call 45; refine (failed_any _ _ _).mono ?_; rintro e w1 ⟨rfl, rfl⟩) | (go_at_call 32; refine (firstV_any _ _ _ [whenI true 12, whenI false 26] _ ?_ rfl (by simp)).mono ?_; (exact Rd.new _ _ _ _ (by simp)); rintro e w1 ⟨rfl, rfl⟩) | (go_at_call 98; refine (isCapital_any _ _).mono ?_; rintro e w1 ⟨rfl, rfl⟩))
    go_ret
    exact ⟨rfl, (Below.refl _ _).alloc (Nat.le_refl _) _⟩
  · have hp : 0 < s.size := by omega
    have hne := isEmpty_eq s hp
    have hne2 : s.toList.isEmpty = false := by rw [ByteArray.toList_eq]; exact hne
    by_cases h1 : 4 < s.size
    · have HW := Lib.hid (wordI_long (l := s.data.toList) (by rw [hl]; exact h1))
      have h1b : decide ((4 : Int) < (s.size : Int)) = true := by simp; omega
      clear hl hne h0 hp
      go_enter Tryz.func33, Tryz.ntmps33
      go_wp2_with (first | (go_at_call 45; refine (failed_any _ _ _).mono ?_; rintro e w1 ⟨rfl, rfl⟩) | (go_at_call 32; refine (firstV_any _ _ _ [whenI false 12, whenI true 26] _ ?_ rfl (by simp)).mono ?_; (exact Rd.new _ _ _ _ (by simp)); rintro e w1 ⟨rfl, rfl⟩) | (go_at_call 98; refine (isCapital_any _ _).mono ?_; rintro e w1 ⟨rfl, rfl⟩))
      go_ret
      exact ⟨ret_int (by rw [HW.out]; rfl), (Below.refl _ _).alloc (Nat.le_refl _) _⟩
    · have h2 : s.size ≤ 4 := by omega
      have HW := Lib.hid (wordI_short hne (by rw [hl]; exact h2))
      have h1b : decide ((4 : Int) < (s.size : Int)) = false := by simp; omega
      clear h1 hne hl
      go_enter Tryz.func33, Tryz.ntmps33
      go_wp2_with (first | (go_at_call 45; refine (failed_any _ _ _).mono ?_; rintro e w1 ⟨rfl, rfl⟩) | (go_at_call 32; refine (firstV_any _ _ _ [whenI false 12, whenI false 26] _ ?_ rfl (by simp)).mono ?_; (exact Rd.new _ _ _ _ (by simp)); rintro e w1 ⟨rfl, rfl⟩) | (go_at_call 98; refine (isCapital_any _ _).mono ?_; rintro e w1 ⟨rfl, rfl⟩))
      go_loopg [19] s.size (fun g i wr => ∃ k : Nat, k ≤ s.size ∧ i = .int .i64 k ∧ g = s.size - k ∧ Hid ((s.data.toList.take k).all (fun c => capB (u8I c)) = true) ∧ Hid (Below w.heap.size w wr))
      case atStart => exact ⟨0, Nat.zero_le _, rfl, rfl, rfl, (Below.refl _ _).alloc (Nat.le_refl _) _⟩
      case round =>
        obtain ⟨k, hk, rfl, hg, H, HB⟩ := hrel
        subst hg
        by_cases hlt : k < s.size
        · have hall := Lib.hid (take_all_succ s k hlt (fun c => capB (u8I c)))
          have hbad := Lib.hid (all_false_of s k hlt (fun c => capB (u8I c)))
          cases hcap : capB (s[k].toNat : Int)
          · have Hc := Lib.hid hcap; clear hcap
            go_wp2_with (go_at_call 98; refine (isCapital_any _ _).mono ?_; rintro e w1 ⟨rfl, rfl⟩; rw [Hc.out])
            go_ret
            exact ⟨ret_int (by rw [HW.out, hbad.out (by unfold u8I; exact Hc.out)]; rfl), HB.out⟩
          · have Hc := Lib.hid hcap; clear hcap
            go_wp2_with (go_at_call 98; refine (isCapital_any _ _).mono ?_; rintro e w1 ⟨rfl, rfl⟩; rw [Hc.out])
            go_roundg (s.size - (k + 1))
            case measure => omega
            case rel => exact ⟨k + 1, by omega, by go_num, rfl, by show _ = true; rw [hall.out, H.out]; unfold u8I; rw [Hc.out]; rfl, HB⟩
        · go_wp2
          go_ret
          exact ⟨ret_int (by have := H.out; rw [List.take_of_length_le (by simp; omega)] at this; rw [HW.out, this]; rfl), HB.out⟩
def one32 : Nat := 1065353216
theorem Step.refl (w : World) (v : Value) : Step w w v v := ⟨World.grownBy.refl w _, .inl rfl⟩
theorem Step.trans {w w1 w2 : World} {v v1 v2 : Value} (h : Step w w1 v v1) (k : Step w1 w2 v1 v2) : Step w w2 v v2 := by
  have hs := h.1.size
  refine ⟨⟨k.1.os.trans h.1.os, k.1.tape.trans h.1.tape, k.1.output.trans h.1.output, Nat.le_trans hs k.1.size, fun j hj hne => ?_⟩, ?_⟩
  · have e1 := h.1.block j hj hne
    refine (k.1.block j (Nat.lt_of_lt_of_le hj hs) ?_).trans e1
    rcases h.2 with h2 | ⟨m, hm, hle⟩
    · rw [h2]; exact hne
    · rw [hm]; intro hh; cases hh; omega
  · rcases k.2 with k2 | ⟨m, hm, hle⟩
    · rcases h.2 with h2 | ⟨m', hm', hle'⟩
      · exact .inl (k2.trans h2)
      · exact .inr ⟨m', k2.trans hm', hle'⟩
    · exact .inr ⟨m, hm, by omega⟩
theorem Step.iter {w w1 : World} {v v1 : Value} (h : Step w w1 v v1) {k : Nat} (hk : w.heap.size ≤ k) (s : ByteArray) (pos : Nat) : Step w (w1.iterAt k s pos) v v1 :=
  ⟨⟨h.1.os, h.1.tape, h.1.output, by rw [Lib.iterAt_size]; exact h.1.size, fun j hj hne => (Lib.iterAt_other w1 k j s pos (by omega)).trans (h.1.block j hj hne)⟩, h.2⟩
theorem Step.alloc {w w1 : World} {v v1 : Value} (h : Step w w1 v v1) (o : Obj) : Step w (w1.alloc o) v v1 :=
  ⟨⟨h.1.os, h.1.tape, h.1.output, by rw [World.size_alloc]; have := h.1.size; omega, fun j hj hne => ((Below.heap_alloc w1 o j (by have := h.1.size; omega))).trans (h.1.block j hj hne)⟩, h.2⟩
theorem Step.heap {w w1 : World} {v v1 : Value} (h : Step w w1 v v1) {j : Nat} {o : Obj} (ho : w.heap[j]? = some o) (hj : some j ≠ v.ownBlock) : w1.heap[j]? = some o :=
  (h.1.block j (Array.getElem?_eq_some_iff.1 ho).1 hj).trans ho
theorem owns_iter {w : World} {B : Nat} {e : TypeId} {s n : Nat} {v : Value} {xs : List Value} (h : w.ownsRow B e s v n xs) {k : Nat} (hk : v.ownBlock ≠ some k) (t : ByteArray) (pos : Nat) : (w.iterAt k t pos).ownsRow B e s v n xs := by
  refine ⟨h.1, ?_⟩
  rcases h.2 with h2 | ⟨g, cap, cur, h1, h2, h3, h4⟩
  · exact .inl h2
  · refine .inr ⟨g, cap, cur, h1, h2, ?_, h4⟩
    rw [Lib.iterAt_other _ _ _ _ _ (fun hh => hk (by rw [h1, hh]; rfl))]; exact h3
set_option maxRecDepth 100000 in
set_option maxHeartbeats 1000000 in
theorem held_step (B : Nat) (v : Value) (xs : List Nat) (b : Nat) (m : Int) (w : World) (hown : w.ownsRow B 43 1 v xs.length (flts xs)) (hB : B ≤ w.heap.size) (hm : m ≤ 1000000) (hx : xs.length ≤ 1000000) :
    Calls Tryz.prog 35 #[v, .float .f32 b, .int .i64 m] w fun e w' => ∃ v', e = .returned v' ∧ w'.ownsRow B 43 1 v' (xs ++ List.replicate m.toNat b).length (flts (xs ++ List.replicate m.toNat b)) ∧ Step w w' v v' := by
  by_cases hneg : m ≤ 0
  · have h0 : m.toNat = 0 := by omega
    have H0 := Lib.hid h0; clear h0
    go_enter Tryz.func35, Tryz.ntmps35
    go_wp2
    refine wp_loop_rounds 1 ?_
    rw [rounds_succ]
    go_wp2
    go_ret
    exact ⟨_, rfl, by rw [H0.out]; simpa using hown, Step.refl _ _⟩
  · obtain ⟨q, rfl⟩ := Int.eq_ofNat_of_zero_le (show 0 ≤ m by omega)
    obtain ⟨i0, hi, hz0, hz1, hz2⟩ := info_parts info37
    go_enter Tryz.func35, Tryz.ntmps35
    go_wp2
    go_loopw [0, 8] (fun u i wr => ∃ k : Nat, k ≤ q ∧ i = .int .i64 k ∧ wr.ownsRow B 43 1 u (xs.length + k) (flts (xs ++ List.replicate k b)) ∧ Step w wr v u) (fun _ i _ => q - (intOf i).toNat)
    case atStart => exact ⟨0, Nat.zero_le _, rfl, by simpa using hown, Step.refl _ _⟩
    case round =>
      clear hown
      obtain ⟨k, hk, rfl, hown, hb⟩ := hrel
      have hsz := hb.1.size
      have Hb := Lib.hid hb
      clear hb
      by_cases hlt : k < q
      · go_wp2_with (at_builtin; refine wpList_append_own_at _ rfl _ _ 30 rfl B 43 i0 (.float .f32 0) 1 4 Tryz.underlying30 hi hz0 hz1 hz2 rfl (by decide) _ _ _ rfl (hown.alloc _) ⟨wr.heap.size, 0, none⟩ 1 1 [.float .f32 b] rfl rfl (news1 _ _ _ _ rfl) ?c2 ?c3 ?c4 ?c5 ?_)
        case c2 => simp [Value.oneCell']
        case c3 => unfold maxLen; omega
        case c4 => omega
        case c5 => simp; omega
        intro v' w1 hown' hgrow _ hat
        have hu := Lib.hid (flts_snoc xs b k)
        have hb1 := Lib.hid (Hb.out.trans (Step.of_alloc hgrow (by rw [World.size_alloc]; exact hat)))
        have ho1 := Lib.hid hown'
        clear hown' hgrow hown hat
        go_wp2
        go_roundw
        case rel => exact ⟨k + 1, by omega, by go_num, by rw [hu.out]; exact ho1.out, hb1.out⟩
        case measure => simp [intOf]; omega
      · obtain rfl : k = q := by omega
        go_wp2
        go_ret
        exact ⟨_, rfl, by simpa using hown, Hb.out⟩
end Go.Proofs.YtlflfieknibgmaaGreatDoor
