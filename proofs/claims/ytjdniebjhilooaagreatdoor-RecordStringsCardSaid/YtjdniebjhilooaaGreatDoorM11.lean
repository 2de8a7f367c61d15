import Derived.Test.YtjdniebjhilooaaGreatDoorM09
import Derived.IntWalk
import Derived.Deep.DeepCutAuto
import Derived.Test.YtjdniebjhilooaaGreatDoorM12
import Derived.Deep.LoopGhost
import Derived.Outline
namespace Go.Proofs.YtjdniebjhilooaaGreatDoor
set_option linter.all false
open Go.RowKit Go.Fl
def byteAt (bs : List UInt8) (i : Nat) : Int := ((bs.getD i 0).toNat : Int)
theorem byteAt_bd (bs : List UInt8) (i : Nat) : 0 ≤ byteAt bs i ∧ byteAt bs i ≤ 255 := by
 unfold byteAt
 have := (bs.getD i 0).toNat_lt
 omega
def xsOf (bs : List UInt8) (i : Nat) : List Nat := (List.range i).map fun k => fb (signI (byteAt bs (5 + 2 * k)) (byteAt bs (6 + 2 * k)))
def xsFill (bs : List UInt8) (i : Nat) : List Nat := xsOf bs i ++ List.replicate (8 - i) 0
theorem xsFill_length (bs : List UInt8) (i : Nat) (hi : i ≤ 8) : (xsFill bs i).length = 8 := by simp [xsFill, xsOf]; omega
theorem xsFill_set (bs : List UInt8) (i : Nat) (hi : i < 8) : (xsFill bs i).set i (fb (signI (byteAt bs (5 + 2 * i)) (byteAt bs (6 + 2 * i)))) = xsFill bs (i + 1) := by
 have hl : (xsOf bs i).length = i := by simp [xsOf]
 have he : 8 - i = (8 - (i + 1)) + 1 := by omega
 rw [xsFill, he, List.replicate_succ, List.set_append_right _ _ (by omega), hl, Nat.sub_self]
 simp [xsFill, xsOf, List.range_succ]
def stOf (bs : List UInt8) : Int := byteAt bs 1
def ctOf (bs : List UInt8) : Int := wholeI (byteAt bs 2) (byteAt bs 3)
def lnOf (bs : List UInt8) : Int := byteAt bs 4
def decE (key : List Int) (bs : List UInt8) : Int := if byteAt bs 0 != 201 then 1 else if !sealedB key bs then 27 else pkI (stOf bs) (ctOf bs) (lnOf bs) (xsOf bs 8)
def decC (key : List Int) (bs : List UInt8) : List Value := if decE key bs = 0 then pkC (stOf bs) (ctOf bs) (lnOf bs) (xsOf bs 8) else zero11
theorem signI_bd {a b : Int} (ha : 0 ≤ a ∧ a ≤ 255) (hb : 0 ≤ b ∧ b ≤ 255) : (signI a b).natAbs < 2 ^ 20 := by
 unfold signI wholeI; split <;> omega
theorem info51 : (Tryz.prog.info? 53).map (·.size) = some 29 := by kernel_rfl
theorem Row.bytes {w : World} {g : Nat} {t : TypeId} {bs : List UInt8} (h : Row w g t (byts bs)) {i : Nat} (hi : i < bs.length) : w.cell? ⟨g, i, none⟩ = some (.int .u8 (byteAt bs i)) := by
 rw [h.cell]; simp [byts, byteAt, hi]
theorem keepDe {w1 W W' : World} {g : Nat} {b1 b2 b3 b4 : Int} (h : W.cell? ⟨g, 1, none⟩ = some (.int .u8 b1) ∧ W.cell? ⟨g, 2, none⟩ = some (.int .u8 b2) ∧ W.cell? ⟨g, 3, none⟩ = some (.int .u8 b3) ∧ W.cell? ⟨g, 4, none⟩ = some (.int .u8 b4) ∧ Below w1.heap.size w1 W) (hb : Below W.heap.size W W') :
 W'.cell? ⟨g, 1, none⟩ = some (.int .u8 b1) ∧ W'.cell? ⟨g, 2, none⟩ = some (.int .u8 b2) ∧ W'.cell? ⟨g, 3, none⟩ = some (.int .u8 b3) ∧ W'.cell? ⟨g, 4, none⟩ = some (.int .u8 b4) ∧ Below w1.heap.size w1 W' :=
 ⟨keepC h.1 hb, keepC h.2.1 hb, keepC h.2.2.1 hb, keepC h.2.2.2.1 hb, h.2.2.2.2.trans (hb.mono h.2.2.2.2.size)⟩
theorem genD {p : World → Prop} {w0 w : World} (g0 g1 g2 : Nat) (t0 t1 t2 : TypeId) (v0 v1 v2 : List Value) (h0 : Row w g0 t0 v0) (h1 : Row w g1 t1 v1) (h2 : Row w g2 t2 v2) (hb : Below w0.heap.size w0 w)
 (h : ∀ w3, Row w3 g0 t0 v0 → Row w3 g1 t1 v1 → Row w3 g2 t2 v2 → Below w0.heap.size w0 w3 → p w3) : p w := h w h0 h1 h2 hb
set_option maxRecDepth 100000 in
set_option maxHeartbeats 600000 in
theorem decode_any (k0 k1 k2 k3 k4 k5 k6 k7 : Int) (bs : List UInt8) (w : World) (hl : bs.length = 29) (hkeys : ∀ j (h : j < 8), isByte ([k0, k1, k2, k3, k4, k5, k6, k7][j])) :
 Calls Tryz.prog 20 #[.agg #[.int .u8 k0, .int .u8 k1, .int .u8 k2, .int .u8 k3, .int .u8 k4, .int .u8 k5, .int .u8 k6, .int .u8 k7], .agg (byts bs).toArray] w
  fun e w' => e = .returned (.tuple #[.agg (decC [k0, k1, k2, k3, k4, k5, k6, k7] bs).toArray, .int .i64 (decE [k0, k1, k2, k3, k4, k5, k6, k7] bs)]) ∧ Below w.heap.size w w' := by
 have Hk := Lib.hid hkeys
 have Hl := Lib.hid hl
 clear hkeys hl
 have R0 := Row.new w 46 (u8s [k0, k1, k2, k3, k4, k5, k6, k7])
 have R1 := Row.new (w.alloc (.cells (u8s [k0, k1, k2, k3, k4, k5, k6, k7]).toArray 46)) 53 (byts bs)
 have R2 := Row.new ((w.alloc (.cells (u8s [k0, k1, k2, k3, k4, k5, k6, k7]).toArray 46)).alloc (.cells (byts bs).toArray 53)) 59 zero11
 rw [World.size_alloc] at R1
 rw [World.size_alloc, World.size_alloc] at R2
 have R0' := (R0.alloc (.cells (byts bs).toArray 53)).alloc (.cells zero11.toArray 59)
 have R1' := R1.alloc (.cells zero11.toArray 59)
 have RB := (((Below.refl w.heap.size w).alloc (Nat.le_refl _) (.cells (u8s [k0, k1, k2, k3, k4, k5, k6, k7]).toArray 46)).alloc (by simp) (.cells (byts bs).toArray 53)).alloc (by simp; omega) (.cells zero11.toArray 59)
 have HR0 := Lib.hid R0'; have HR1 := Lib.hid R1'; have HR2 := Lib.hid R2; have HRB := Lib.hid RB
 clear R0 R1 R2 R0' R1' RB
 go_enter Tryz.func20, Tryz.ntmps20
 go_upto_region 1 with fail
 refine genD (w0 := w) w.heap.size (w.heap.size + 1) (w.heap.size + 1 + 1) _ _ _ _ _ _ HR0.out HR1.out HR2.out HRB.out ?_
 clear HR0 HR1 HR2 HRB
 intro W R0 R1 R2 RB
 have hc0 := R1.bytes (i := 0) (by rw [Hl.out]; decide)
 have H0 := Lib.hid R0; have H1 := Lib.hid R1; have H2 := Lib.hid R2; have HB := Lib.hid RB
 clear R0 R1 R2 RB
 by_cases hm : (byteAt bs 0 != 201) = true
 · have hE : decE [k0, k1, k2, k3, k4, k5, k6, k7] bs = 1 := by unfold decE; rw [if_pos hm]
   have hC : decC [k0, k1, k2, k3, k4, k5, k6, k7] bs = zero11 := by unfold decC; rw [hE]; rfl
   have HE := Lib.hid hE; have HC := Lib.hid hC
   clear hE hC
   go_wp2_with (refine wpList_store_row rfl 59 _ _ rfl (w.heap.size + 1 + 1) zero11.toArray rfl rfl 59 _ H2.out ?_ ?_ ?_ ?_; (rw [info54]; rfl); (rfl); (simp [zero11, pkC, flts, Value.oneCell']))
   refine bodyPost_ret (results_row_tmp rfl _ _ (w.heap.size + 1 + 1) 59 zero11.toArray (0, 0) _ rfl (H2.out.setRow zero11) Tryz.underlying59 rfl ?_) rfl ?_
   · rw [info54]; rfl
   · exact ⟨by rw [HE.out, HC.out]; rfl, Below.setRow HB.out (by omega) _⟩
 · have hm2 : (byteAt bs 0 != 201) = false := by simpa using hm
   have Hm := Lib.hid hm2
   have q0 := H0.out.cellAt (j := 0) (by simp [u8s]); have q1 := H0.out.cellAt (j := 1) (by simp [u8s]); have q2 := H0.out.cellAt (j := 2) (by simp [u8s]); have q3 := H0.out.cellAt (j := 3) (by simp [u8s]); have q4 := H0.out.cellAt (j := 4) (by simp [u8s]); have q5 := H0.out.cellAt (j := 5) (by simp [u8s]); have q6 := H0.out.cellAt (j := 6) (by simp [u8s]); have q7 := H0.out.cellAt (j := 7) (by simp [u8s])
   simp only [u8s, List.map_cons, List.getElem_cons_zero, List.getElem_cons_succ] at q0 q1 q2 q3 q4 q5 q6 q7
   have hR := Lib.hid (Rd.row H1.out)
   clear hm
   cases hsb : sealedB [k0, k1, k2, k3, k4, k5, k6, k7] bs
   · have hE : decE [k0, k1, k2, k3, k4, k5, k6, k7] bs = 27 := by unfold decE; rw [if_neg (by rw [hm2]; decide), if_pos (by rw [hsb]; rfl)]
     have hC : decC [k0, k1, k2, k3, k4, k5, k6, k7] bs = zero11 := by unfold decC; rw [hE]; rfl
     have HE := Lib.hid hE; have HC := Lib.hid hC
     have Hcall : Hid (Calls Tryz.prog 70 #[.agg #[.int .u8 k0, .int .u8 k1, .int .u8 k2, .int .u8 k3, .int .u8 k4, .int .u8 k5, .int .u8 k6, .int .u8 k7], .slice (some ⟨w.heap.size + 1, 0, none⟩) 29 29] W.drew fun e w' => e = .returned (.bool false) ∧ Below W.heap.size W w') :=
      (isSealed_any k0 k1 k2 k3 k4 k5 k6 k7 (some ⟨w.heap.size + 1, 0, none⟩) 29 29 bs W.drew hR.out Hl.out.symm (by decide) (by rw [Hl.out]; decide) (by rw [Hl.out]; decide) Hk.out).mono fun e w' h => ⟨by rw [← hsb]; exact h.1, (Below.refl _ W).drew.trans h.2⟩
     clear hE hC hsb
     go_wp2
     go_region_with ((go_at_call 70; refine Hcall.out.mono ?_; rintro e w1 ⟨rfl, hb1⟩))
     all_goals
      have H2' := Lib.hid (H2.out.old hb1)
      have HB' := Lib.hid (HB.out.trans (hb1.mono HB.out.size))
      go_wp2_with (refine wpList_store_row rfl 59 _ _ rfl (w.heap.size + 1 + 1) zero11.toArray rfl rfl 59 _ H2'.out ?_ ?_ ?_ ?_; (rw [info54]; rfl); (rfl); (simp [zero11, pkC, flts, Value.oneCell']))
      refine bodyPost_ret (results_row_tmp rfl _ _ (w.heap.size + 1 + 1) 59 zero11.toArray (0, 0) _ rfl (H2'.out.setRow zero11) Tryz.underlying59 rfl ?_) rfl ?_
      · rw [info54]; rfl
      · exact ⟨by rw [HE.out, HC.out]; rfl, Below.setRow HB'.out (by omega) _⟩
   · have hE : decE [k0, k1, k2, k3, k4, k5, k6, k7] bs = pkI (stOf bs) (ctOf bs) (lnOf bs) (xsOf bs 8) := by unfold decE; rw [if_neg (by rw [hm2]; decide), if_neg (by rw [hsb]; decide)]
     have HE := Lib.hid hE
     have Hcall : Hid (Calls Tryz.prog 70 #[.agg #[.int .u8 k0, .int .u8 k1, .int .u8 k2, .int .u8 k3, .int .u8 k4, .int .u8 k5, .int .u8 k6, .int .u8 k7], .slice (some ⟨w.heap.size + 1, 0, none⟩) 29 29] W.drew fun e w' => e = .returned (.bool true) ∧ Below W.heap.size W w') :=
      (isSealed_any k0 k1 k2 k3 k4 k5 k6 k7 (some ⟨w.heap.size + 1, 0, none⟩) 29 29 bs W.drew hR.out Hl.out.symm (by decide) (by rw [Hl.out]; decide) (by rw [Hl.out]; decide) Hk.out).mono fun e w' h => ⟨by rw [← hsb]; exact h.1, (Below.refl _ W).drew.trans h.2⟩
     clear hE hsb
     go_wp2
     go_region_with ((go_at_call 70; refine Hcall.out.mono ?_; rintro e w1 ⟨rfl, hb1⟩))
     have H1' := Lib.hid (H1.out.old hb1)
     have H2' := Lib.hid (H2.out.old hb1)
     have HB' := Lib.hid (HB.out.trans (hb1.mono HB.out.size))
     have c1 := H1'.out.bytes (i := 1) (by rw [Hl.out]; decide)
     have c2 := H1'.out.bytes (i := 2) (by rw [Hl.out]; decide)
     have c3 := H1'.out.bytes (i := 3) (by rw [Hl.out]; decide)
     have c4 := H1'.out.bytes (i := 4) (by rw [Hl.out]; decide)
     have d1 := byteAt_bd bs 1
     have d2 := byteAt_bd bs 2
     have d3 := byteAt_bd bs 3
     have d4 := byteAt_bd bs 4
     obtain ⟨b1, e1⟩ : ∃ b1, b1 = byteAt bs 1 := ⟨_, rfl⟩
     obtain ⟨b2, e2⟩ : ∃ b2, b2 = byteAt bs 2 := ⟨_, rfl⟩
     obtain ⟨b3, e3⟩ : ∃ b3, b3 = byteAt bs 3 := ⟨_, rfl⟩
     obtain ⟨b4, e4⟩ : ∃ b4, b4 = byteAt bs 4 := ⟨_, rfl⟩
     rw [← e1] at c1 d1; rw [← e2] at c2 d2; rw [← e3] at c3 d3; rw [← e4] at c4 d4
     have E1 := Lib.hid e1; have E2 := Lib.hid e2; have E3 := Lib.hid e3; have E4 := Lib.hid e4
     have D2 := Lib.hid d2; have D3 := Lib.hid d3
     have v1 : IntKind.i64.wrap b1 = b1 := IntWalk.i64_in _ (by omega)
     have v4 : IntKind.i64.wrap b4 = b4 := IntWalk.i64_in _ (by omega)
     clear e1 e2 e3 e4 hb1 d1 d2 d3 d4 q0 q1 q2 q3 q4 q5 q6 q7 hc0
     go_wp2
     have S0 : Hid (w1.cell? ⟨w.heap.size + 1, 1, none⟩ = some (.int .u8 b1) ∧ w1.cell? ⟨w.heap.size + 1, 2, none⟩ = some (.int .u8 b2) ∧ w1.cell? ⟨w.heap.size + 1, 3, none⟩ = some (.int .u8 b3) ∧ w1.cell? ⟨w.heap.size + 1, 4, none⟩ = some (.int .u8 b4) ∧ Below w1.heap.size w1 w1) := ⟨c1, c2, c3, c4, Below.refl _ _⟩
     have F0 : Hid (Row ((w1.alloc (.cells #[.int .i64 b1, .int .i64 (wholeI b2 b3), .int .i64 b4, .float .f32 0, .float .f32 0, .float .f32 0, .float .f32 0, .float .f32 0, .float .f32 0, .float .f32 0, .float .f32 0] 59)).drew) w1.heap.size 59 (pkC b1 (wholeI b2 b3) b4 (xsFill bs 0))) := Row.new w1 59 (pkC b1 (wholeI b2 b3) b4 (xsFill bs 0))
     have F1 : Hid (Row ((w1.alloc (.cells #[.int .i64 b1, .int .i64 (wholeI b2 b3), .int .i64 b4, .float .f32 0, .float .f32 0, .float .f32 0, .float .f32 0, .float .f32 0, .float .f32 0, .float .f32 0, .float .f32 0] 59)).drew) (w.heap.size + 1) 53 (byts bs)) := H1'.out.alloc _
     have F2 : Hid (Row ((w1.alloc (.cells #[.int .i64 b1, .int .i64 (wholeI b2 b3), .int .i64 b4, .float .f32 0, .float .f32 0, .float .f32 0, .float .f32 0, .float .f32 0, .float .f32 0, .float .f32 0, .float .f32 0] 59)).drew) (w.heap.size + 1 + 1) 59 zero11) := H2'.out.alloc _
     have FB : Hid (Below w.heap.size w ((w1.alloc (.cells #[.int .i64 b1, .int .i64 (wholeI b2 b3), .int .i64 b4, .float .f32 0, .float .f32 0, .float .f32 0, .float .f32 0, .float .f32 0, .float .f32 0, .float .f32 0, .float .f32 0] 59)).drew)) := (HB'.out.alloc (HB'.out.size) _).drew
     have hlt2 : Hid (w.heap.size + 1 + 1 < w1.heap.size) := H2'.out.lt
     go_region_held3 (fun w' => w'.cell? ⟨w.heap.size + 1, 1, none⟩ = some (.int .u8 b1) ∧ w'.cell? ⟨w.heap.size + 1, 2, none⟩ = some (.int .u8 b2) ∧ w'.cell? ⟨w.heap.size + 1, 3, none⟩ = some (.int .u8 b3) ∧ w'.cell? ⟨w.heap.size + 1, 4, none⟩ = some (.int .u8 b4) ∧ Below w1.heap.size w1 w') (first | assumption | exact keepDe S0.out (Below.drew (Below.refl _ _)) | exact keepDe (by assumption) (Below.drew (Below.refl _ _)) | exact keepDe (by assumption) ((Below.refl _ _).alloc (Nat.le_refl _) _) | exact keepDe S0.out ((Below.refl _ _).alloc (Nat.le_refl _) _).drew | exact keepDe S0.out ((Below.refl _ _).drew.alloc (Nat.le_refl _) _))
      (first | (go_at_call 71; refine (whole_any b2 b3 _ D2.out D3.out).mono ?_; rintro e w' ⟨rfl, rfl⟩))
     all_goals clear c1 c2 c3 c4 S0 v1 v4 hR Hcall
     all_goals
      try clear hHeld
      refine genD (w0 := w) w1.heap.size (w.heap.size + 1) (w.heap.size + 1 + 1) _ _ _ _ _ _ F0.out F1.out F2.out FB.out ?_
      clear F0 F1 F2 FB
      intro W2 R0 R1 R2 RB
      have G0 := Lib.hid R0; have G1 := Lib.hid R1; have G2 := Lib.hid R2; have GB := Lib.hid RB
      clear R0 R1 R2 RB
      go_wp2
      go_loopw [31] (fun i wr => ∃ k : Nat, k ≤ 8 ∧ i = .int .i64 k ∧ Hid (Row wr w1.heap.size 59 (pkC b1 (wholeI b2 b3) b4 (xsFill bs k))) ∧ Hid (Row wr (w.heap.size + 1) 53 (byts bs)) ∧ Hid (Row wr (w.heap.size + 1 + 1) 59 zero11) ∧ Hid (Below w.heap.size w wr)) (fun i _ => 8 - (intOf i).toNat)
      case atStart => exact ⟨0, Nat.zero_le _, rfl, G0, G1, G2, GB⟩
      case round =>
       obtain ⟨k, hk, rfl, g0, g1, g2, gb⟩ := hrel
       by_cases hlt : k < 8
       · obtain ⟨x, ex⟩ : ∃ x, x = byteAt bs (5 + 2 * k) := ⟨_, rfl⟩
         obtain ⟨y, ey⟩ : ∃ y, y = byteAt bs (6 + 2 * k) := ⟨_, rfl⟩
         have cx := g1.out.bytes (i := 5 + 2 * k) (by rw [Hl.out]; omega)
         have cy := g1.out.bytes (i := 6 + 2 * k) (by rw [Hl.out]; omega)
         have dx := byteAt_bd bs (5 + 2 * k)
         have dy := byteAt_bd bs (6 + 2 * k)
         have hset := Lib.hid (xsFill_set bs k hlt)
         rw [← ex] at cx dx hset; rw [← ey] at cy dy hset
         have Hc1 : Hid (Calls Tryz.prog 73 #[.int .u8 x, .int .u8 y] wr.drew fun e w' => e = .returned (.int .i64 (signI x y)) ∧ wr.drew = w') := signed_any x y wr.drew dx dy
         have hsb := signI_bd dx dy
         have Hc2 : Hid (Calls Tryz.prog 72 #[.int .i64 (signI x y)] wr.drew fun e w' => e = .returned (.float .f32 (fb (signI x y))) ∧ wr.drew = w') := sampleOf_any _ _ hsb
         obtain ⟨v0, hc0⟩ : ∃ v0, wr.cell? ⟨w1.heap.size, 3 + k, none⟩ = some v0 := ⟨_, g0.out.cellAt (by rw [pkC_length, xsFill_length _ _ hk]; omega)⟩
         have hf0 := g0.out.free (3 + k)
         clear dx dy hsb ex ey
         obtain ⟨sg, hsg⟩ : ∃ sg, sg = signI x y := ⟨_, rfl⟩
         rw [← hsg] at Hc1 Hc2 hset
         clear hsg
         obtain ⟨at5, h5⟩ : ∃ at5, at5 = 5 + 2 * k := ⟨_, rfl⟩
         have h6 : 6 + 2 * k = at5 + 1 := by omega
         rw [← h5] at cx; rw [h6] at cy
         have h7 : (5 : Int) + 2 * (k : Int) = (at5 : Int) := by omega
         have h8 : at5 < 28 := by omega
         have h9 : IntKind.i64.wrap ((at5 : Int) + 1) = (at5 : Int) + 1 := IntWalk.i64_in _ (by omega)
         have h10 : ((at5 : Int) + 1).toNat = at5 + 1 := by omega
         have h11 : 0 ≤ (at5 : Int) + 1 := by omega
         have h12 : (at5 : Int) + 1 < 29 := by omega
         have h13 : (at5 : Int) < 29 := by omega
         have h14 : (0 : Int) ≤ (at5 : Int) := by omega
         have h15 : (k : Int) < 8 := by omega
         have h16 : (0 : Int) ≤ (k : Int) := by omega
         clear h5 h6
         go_wp2
         have hne : w1.heap.size ≠ w.heap.size + 1 := by have := hlt2.out; omega
         have S1 : Hid (wr.cell? ⟨w.heap.size + 1, at5, none⟩ = some (.int .u8 x) ∧ wr.cell? ⟨w.heap.size + 1, at5 + 1, none⟩ = some (.int .u8 y)) := ⟨cx, cy⟩
         have hStore : ∀ v, Hid ((wr.drew.setCell ⟨w1.heap.size, 3 + k, none⟩ v).cell? ⟨w.heap.size + 1, at5, none⟩ = some (.int .u8 x) ∧ (wr.drew.setCell ⟨w1.heap.size, 3 + k, none⟩ v).cell? ⟨w.heap.size + 1, at5 + 1, none⟩ = some (.int .u8 y)) := fun v => ⟨(World.cell?_setCell_far wr.drew _ _ v hne).trans cx, (World.cell?_setCell_far wr.drew _ _ v hne).trans cy⟩
         have HStore := Lib.hid hStore
         clear hStore
         go_region_held3 (fun w' => w'.cell? ⟨w.heap.size + 1, at5, none⟩ = some (.int .u8 x) ∧ w'.cell? ⟨w.heap.size + 1, at5 + 1, none⟩ = some (.int .u8 y)) (first | assumption | exact S1.out | exact (HStore.out _).out)
          (first | (go_at_call 73; refine Hc1.out.mono ?_; rintro e w' ⟨rfl, rfl⟩) | (go_at_call 72; refine Hc2.out.mono ?_; rintro e w' ⟨rfl, rfl⟩))
         all_goals go_wp2
         all_goals go_roundw
         all_goals first | (exact ⟨k + 1, by omega, by go_num, by rw [← hset.out, ← pkC_set]; exact g0.out.set (3 + k) _, g1.out.far (Ne.symm hne) _, g2.out.far (by have := hlt2.out; simp; omega) _, (gb.out.setCell (by have := hlt2.out; simp; omega) _).drew⟩) | (simp [intOf]; omega)
       · obtain rfl : k = 8 := by omega
         obtain ⟨x0, x1, x2, x3, x4, x5, x6, x7, hx8⟩ : ∃ x0 x1 x2 x3 x4 x5 x6 x7, xsOf bs 8 = [x0, x1, x2, x3, x4, x5, x6, x7] := ⟨_, _, _, _, _, _, _, _, rfl⟩
         have hfill : xsFill bs 8 = [x0, x1, x2, x3, x4, x5, x6, x7] := by rw [← hx8]; simp [xsFill]
         rw [hfill] at g0
         have hlit : Hid (wr.heap[w1.heap.size]? = some (.cells #[.int .i64 b1, .int .i64 (wholeI b2 b3), .int .i64 b4, .float .f32 x0, .float .f32 x1, .float .f32 x2, .float .f32 x3, .float .f32 x4, .float .f32 x5, .float .f32 x6, .float .f32 x7] 59 (0, 0))) := g0.out
         have HE2 : Hid (decE [k0, k1, k2, k3, k4, k5, k6, k7] bs = pkI b1 (wholeI b2 b3) b4 [x0, x1, x2, x3, x4, x5, x6, x7]) := by
          unfold Hid; rw [HE.out, hx8, E1.out, E2.out, E3.out, E4.out]; rfl
         have HC2 : Hid (decE [k0, k1, k2, k3, k4, k5, k6, k7] bs = 0 → decC [k0, k1, k2, k3, k4, k5, k6, k7] bs = pkC b1 (wholeI b2 b3) b4 [x0, x1, x2, x3, x4, x5, x6, x7]) := by
          intro h; unfold decC; rw [if_pos h, hx8, E1.out, E2.out, E3.out, E4.out]; rfl
         have HC3 : Hid (decE [k0, k1, k2, k3, k4, k5, k6, k7] bs ≠ 0 → decC [k0, k1, k2, k3, k4, k5, k6, k7] bs = zero11) := by
          intro h; unfold decC; rw [if_neg h]
         clear hx8 hfill
         obtain ⟨er, her⟩ : ∃ er, er = pkI b1 (wholeI b2 b3) b4 [x0, x1, x2, x3, x4, x5, x6, x7] := ⟨_, rfl⟩
         rw [← her] at HE2
         have Her := Lib.hid her
         clear her
         by_cases h0 : er = 0
         · subst h0
           go_wp2_with (refine wpList_load_row rfl 59 _ rfl w1.heap.size rfl 59 #[.int .i64 b1, .int .i64 (wholeI b2 b3), .int .i64 b4, .float .f32 x0, .float .f32 x1, .float .f32 x2, .float .f32 x3, .float .f32 x4, .float .f32 x5, .float .f32 x6, .float .f32 x7] (0, 0) _ hlit.out Tryz.underlying59 rfl ?_ ?_; (rw [info54]; rfl))
           refine (checkPacket_any _ _ _ _ _ _ _ _ _ _ _ _).mono ?_
           rintro e w3 ⟨rfl, hb3⟩
           rw [← Her.out]
           have hlit3 : Hid (w3.heap[w1.heap.size]? = some (.cells #[.int .i64 b1, .int .i64 (wholeI b2 b3), .int .i64 b4, .float .f32 x0, .float .f32 x1, .float .f32 x2, .float .f32 x3, .float .f32 x4, .float .f32 x5, .float .f32 x6, .float .f32 x7] 59 (0, 0))) := Row.old hlit.out hb3
           have K2 := Lib.hid (g2.out.old hb3)
           have Kb := Lib.hid (gb.out.trans (hb3.mono gb.out.size))
           clear hb3
           go_wp2_with (first | (refine wpList_load_row rfl 59 _ rfl w1.heap.size rfl 59 #[.int .i64 b1, .int .i64 (wholeI b2 b3), .int .i64 b4, .float .f32 x0, .float .f32 x1, .float .f32 x2, .float .f32 x3, .float .f32 x4, .float .f32 x5, .float .f32 x6, .float .f32 x7] (0, 0) _ hlit3.out Tryz.underlying59 rfl ?_ ?_; (rw [info54]; rfl)) | (refine wpList_store_row rfl 59 _ _ rfl (w.heap.size + 1 + 1) #[.int .i64 b1, .int .i64 (wholeI b2 b3), .int .i64 b4, .float .f32 x0, .float .f32 x1, .float .f32 x2, .float .f32 x3, .float .f32 x4, .float .f32 x5, .float .f32 x6, .float .f32 x7] rfl rfl 59 _ K2.out ?_ ?_ ?_ ?_; (rw [info54]; rfl); (rfl); (simp [Value.oneCell'])))
           refine bodyPost_ret (results_row_tmp rfl _ _ (w.heap.size + 1 + 1) 59 #[.int .i64 b1, .int .i64 (wholeI b2 b3), .int .i64 b4, .float .f32 x0, .float .f32 x1, .float .f32 x2, .float .f32 x3, .float .f32 x4, .float .f32 x5, .float .f32 x6, .float .f32 x7] (0, 0) _ rfl (K2.out.setRow (pkC b1 (wholeI b2 b3) b4 [x0, x1, x2, x3, x4, x5, x6, x7])) Tryz.underlying59 rfl ?_) rfl ?_
           · rw [info54]; rfl
           · exact ⟨by rw [HC2.out HE2.out, HE2.out]; rfl, Below.setRow Kb.out (by omega) _⟩
         · have hz : (er != 0) = true := by simpa using h0
           go_wp2_with (refine wpList_load_row rfl 59 _ rfl w1.heap.size rfl 59 #[.int .i64 b1, .int .i64 (wholeI b2 b3), .int .i64 b4, .float .f32 x0, .float .f32 x1, .float .f32 x2, .float .f32 x3, .float .f32 x4, .float .f32 x5, .float .f32 x6, .float .f32 x7] (0, 0) _ hlit.out Tryz.underlying59 rfl ?_ ?_; (rw [info54]; rfl))
           refine (checkPacket_any _ _ _ _ _ _ _ _ _ _ _ _).mono ?_
           rintro e w3 ⟨rfl, hb3⟩
           rw [← Her.out]
           have K2 := Lib.hid (g2.out.old hb3)
           have Kb := Lib.hid (gb.out.trans (hb3.mono gb.out.size))
           have H0 := Lib.hid h0
           clear hb3 h0
           go_wp2_with (refine wpList_store_row rfl 59 _ _ rfl (w.heap.size + 1 + 1) zero11.toArray rfl rfl 59 _ K2.out ?_ ?_ ?_ ?_; (rw [info54]; rfl); (rfl); (simp [zero11, pkC, flts, Value.oneCell']))
           refine bodyPost_ret (results_row_tmp rfl _ _ (w.heap.size + 1 + 1) 59 zero11.toArray (0, 0) _ rfl (K2.out.setRow zero11) Tryz.underlying59 rfl ?_) rfl ?_
           · rw [info54]; rfl
           · exact ⟨by rw [HC3.out (by rw [HE2.out]; exact H0.out), HE2.out]; rfl, Below.setRow Kb.out (by omega) _⟩
def zeros29 : List UInt8 := List.replicate 29 0
def begE (key : List Int) (bs : List UInt8) : Bool := if bs.length < 29 then false else decE key (bs.take 29) == 0
def begC (key : List Int) (bs : List UInt8) : List Value := if bs.length < 29 then zero11 else decC key (bs.take 29)
theorem Rd.src {w : World} {A : Option Addr} {xs : List Value} (h : Rd w A xs) (hx : 0 < xs.length) : ∃ ad, A = some ad ∧ ∀ j v, xs[j]? = some v → w.cell? (ad.add j) = some v := by
 obtain ⟨b, off, rfl, _⟩ := Rd.at h hx
 refine ⟨_, rfl, fun j v hv => ?_⟩
 obtain ⟨b', off', hh, hc⟩ := h j v hv
 cases hh
 by_cases hj : j = 0
 · subst hj; simpa [Addr.add] using hc
 · simpa [Addr.add, hj] using hc
theorem decC_length (key : List Int) (bs : List UInt8) : (decC key bs).length = 11 := by
 unfold decC; split
 · rw [pkC_length]; simp [xsOf]
 · rfl
theorem decC_one (key : List Int) (bs : List UInt8) : ∀ v ∈ decC key bs, v.oneCell' = true := by
 unfold decC; split
 · exact pkC_one _ _ _ _
 · exact pkC_one _ _ _ _
set_option maxRecDepth 100000 in
set_option maxHeartbeats 600000 in
theorem beginning_any (k0 k1 k2 k3 k4 k5 k6 k7 : Int) (A : Option Addr) (n c : Nat) (bs : List UInt8) (w : World) (hA : Rd w A (byts bs)) (hn : n = bs.length) (hm : bs.length ≤ 9223372036854775807) (hkeys : ∀ j (h : j < 8), isByte ([k0, k1, k2, k3, k4, k5, k6, k7][j])) :
 Calls Tryz.prog 74 #[.agg #[.int .u8 k0, .int .u8 k1, .int .u8 k2, .int .u8 k3, .int .u8 k4, .int .u8 k5, .int .u8 k6, .int .u8 k7], .slice A n c] w
  fun e w' => e = .returned (.tuple #[.agg (begC [k0, k1, k2, k3, k4, k5, k6, k7] bs).toArray, .bool (begE [k0, k1, k2, k3, k4, k5, k6, k7] bs)]) ∧ Below w.heap.size w w' := by
 subst hn
 have Hk := Lib.hid hkeys
 clear hkeys
 have R0 := Row.new w 46 (u8s [k0, k1, k2, k3, k4, k5, k6, k7])
 have R1 := Row.new (w.alloc (.cells (u8s [k0, k1, k2, k3, k4, k5, k6, k7]).toArray 46)) 59 zero11
 have R2 := Row.new ((w.alloc (.cells (u8s [k0, k1, k2, k3, k4, k5, k6, k7]).toArray 46)).alloc (.cells zero11.toArray 59)) 53 (byts zeros29)
 rw [World.size_alloc] at R1
 rw [World.size_alloc, World.size_alloc] at R2
 have R0' := (R0.alloc (.cells zero11.toArray 59)).alloc (.cells (byts zeros29).toArray 53)
 have R1' := R1.alloc (.cells (byts zeros29).toArray 53)
 have RB := (((Below.refl w.heap.size w).alloc (Nat.le_refl _) (.cells (u8s [k0, k1, k2, k3, k4, k5, k6, k7]).toArray 46)).alloc (by simp) (.cells zero11.toArray 59)).alloc (by simp; omega) (.cells (byts zeros29).toArray 53)
 have HR0 := Lib.hid R0'; have HR1 := Lib.hid R1'; have HR2 := Lib.hid R2; have HRB := Lib.hid RB
 clear R0 R1 R2 R0' R1' RB
 go_enter Tryz.func74, Tryz.ntmps74
 go_upto_region 2 with fail
 refine genD (w0 := w) w.heap.size (w.heap.size + 1) (w.heap.size + 1 + 1) _ _ _ _ _ _ HR0.out HR1.out HR2.out HRB.out ?_
 clear HR0 HR1 HR2 HRB
 intro W R0 R1 R2 RB
 have H0 := Lib.hid R0; have H1 := Lib.hid R1; have H2 := Lib.hid R2; have HB := Lib.hid RB
 have HA := Lib.hid (hA.below RB)
 clear R0 R1 R2 RB hA
 by_cases hl : bs.length < 29
 · have hE : begE [k0, k1, k2, k3, k4, k5, k6, k7] bs = false := by unfold begE; rw [if_pos hl]
   have hC : begC [k0, k1, k2, k3, k4, k5, k6, k7] bs = zero11 := by unfold begC; rw [if_pos hl]
   have HE := Lib.hid hE; have HC := Lib.hid hC; have HL := Lib.hid hl
   clear hE hC
   have G1 : Hid ((byts bs).length = Nat.min bs.length 29) := by unfold Hid; have := HL.out; simp [byts, Nat.min_def]; omega
   have G3 : Hid (0 + (byts bs).length ≤ (byts zeros29).length) := by unfold Hid; have := HL.out; simp [byts, zeros29]; omega
   have G4 : Hid (∀ v ∈ byts bs, v.oneCell' = true) := by unfold Hid; simp [byts, Value.oneCell']
   have e1 : (byts bs).length = bs.length := by simp [byts]
   have e2 : (bs.length : Int) < 29 := by omega
   have HBW : Hid (Below (w.heap.size + 1 + 1) W W) := Below.refl _ _
   go_upto_region 3 with (refine wpList_copy_splice (o := ⟨some 11, _, _, _, _, _⟩) rfl (.tmp 9) (.tmp 10) 48 48 rfl 5 Tryz.underlying48 (by kernel_rfl) (some ⟨w.heap.size + 1 + 1, 0, none⟩) A 29 29 bs.length c (by simp [Act.eval, Act.put]) (by simp [Act.eval, Act.put]) (w.heap.size + 1 + 1) 0 (byts zeros29) 53 H2.out (byts bs) G1.out (fun h => ⟨rfl, HA.out.src h⟩) G3.out G4.out (w.heap.size + 1 + 1) W HBW.out (Nat.le_refl _) ?_; intro W2 g2 b2)
   have H1' := Lib.hid (H1.out.below b2 (by omega))
   have HB' := Lib.hid (HB.out.trans (b2.mono (by omega)))
   clear g2 b2
   go_wp2_with (refine wpList_store_row rfl 59 _ _ rfl (w.heap.size + 1) zero11.toArray rfl rfl 59 _ H1'.out ?_ ?_ ?_ ?_; (rw [info54]; rfl); (rfl); (simp [zero11, pkC, flts, Value.oneCell']))
   refine bodyPost_ret (results_row_tmp rfl _ _ (w.heap.size + 1) 59 zero11.toArray (0, 0) _ rfl (H1'.out.setRow zero11) Tryz.underlying59 rfl ?_) rfl ?_
   · rw [info54]; rfl
   · exact ⟨by rw [HE.out, HC.out]; rfl, Below.setRow HB'.out (by omega) _⟩
 · have hE : begE [k0, k1, k2, k3, k4, k5, k6, k7] bs = (decE [k0, k1, k2, k3, k4, k5, k6, k7] (bs.take 29) == 0) := by unfold begE; rw [if_neg hl]
   have hC : begC [k0, k1, k2, k3, k4, k5, k6, k7] bs = decC [k0, k1, k2, k3, k4, k5, k6, k7] (bs.take 29) := by unfold begC; rw [if_neg hl]
   have HE := Lib.hid hE; have HC := Lib.hid hC; have HL := Lib.hid hl
   clear hE hC
   obtain ⟨fs, hfs⟩ : ∃ fs, fs = bs.take 29 := ⟨_, rfl⟩
   have hf29 : fs.length = 29 := by rw [hfs]; simp; omega
   have hAf : Hid (Rd W A (byts fs)) := by have := HA.out.take 29; rw [hfs]; simpa [byts, Hid] using this
   rw [← hfs] at HE HC
   have HF := Lib.hid hf29
   clear hfs hf29
   have G1 : Hid ((byts fs).length = Nat.min bs.length 29) := by unfold Hid; have := HL.out; have := HF.out; show _ = min bs.length 29; simp [byts]; omega
   have G3 : Hid (0 + (byts fs).length ≤ (byts zeros29).length) := by unfold Hid; have := HF.out; simp [byts, zeros29]; omega
   have G4 : Hid (∀ v ∈ byts fs, v.oneCell' = true) := by unfold Hid; simp [byts, Value.oneCell']
   have e1 : (byts fs).length = 29 := by rw [← HF.out]; simp [byts]
   have HBW : Hid (Below (w.heap.size + 1 + 1) W W) := Below.refl _ _
   go_upto_region 4 with (refine wpList_copy_splice (o := ⟨some 11, _, _, _, _, _⟩) rfl (.tmp 9) (.tmp 10) 48 48 rfl 5 Tryz.underlying48 (by kernel_rfl) (some ⟨w.heap.size + 1 + 1, 0, none⟩) A 29 29 bs.length c (by simp [Act.eval, Act.put]) (by simp [Act.eval, Act.put]) (w.heap.size + 1 + 1) 0 (byts zeros29) 53 H2.out (byts fs) G1.out (fun h => ⟨rfl, hAf.out.src h⟩) G3.out G4.out (w.heap.size + 1 + 1) W HBW.out (Nat.le_refl _) ?_; intro W2 g2 b2)
   have H0' := Lib.hid (H0.out.below b2 (by omega))
   have H1' := Lib.hid (H1.out.below b2 (by omega))
   have H2' : Hid (Row W2 (w.heap.size + 1 + 1) 53 (byts fs)) := by
    have h := g2.out
    have e : splice (byts zeros29) 0 (byts fs) = byts fs := by
     have hz : (byts zeros29).drop (byts fs).length = [] := by
      apply List.drop_eq_nil_of_le
      have := HF.out
      simp [byts, zeros29]; omega
     unfold splice
     rw [Nat.zero_add, hz]; simp
    rw [e] at h
    exact h
   have HB' := Lib.hid (HB.out.trans (b2.mono (by omega)))
   clear g2 b2
   have q0 := H0'.out.cellAt (j := 0) (by simp [u8s]); have q1 := H0'.out.cellAt (j := 1) (by simp [u8s]); have q2 := H0'.out.cellAt (j := 2) (by simp [u8s]); have q3 := H0'.out.cellAt (j := 3) (by simp [u8s]); have q4 := H0'.out.cellAt (j := 4) (by simp [u8s]); have q5 := H0'.out.cellAt (j := 5) (by simp [u8s]); have q6 := H0'.out.cellAt (j := 6) (by simp [u8s]); have q7 := H0'.out.cellAt (j := 7) (by simp [u8s])
   simp only [u8s, List.map_cons, List.getElem_cons_zero, List.getElem_cons_succ] at q0 q1 q2 q3 q4 q5 q6 q7
   go_wp2_with (refine wpList_load_row rfl 53 _ rfl (w.heap.size + 1 + 1) rfl 53 (byts fs).toArray (0, 0) _ H2'.out Tryz.underlying53 rfl ?_ ?_; (rw [info51]; have := HF.out; simp [byts, this]))
   refine (decode_any k0 k1 k2 k3 k4 k5 k6 k7 fs _ HF.out Hk.out).mono ?_
   rintro e W3 ⟨rfl, hb3⟩
   obtain ⟨dc, hdc⟩ : ∃ dc, dc = decC [k0, k1, k2, k3, k4, k5, k6, k7] fs := ⟨_, rfl⟩
   obtain ⟨de, hde⟩ : ∃ de, de = decE [k0, k1, k2, k3, k4, k5, k6, k7] fs := ⟨_, rfl⟩
   have D11 : Hid (dc.length = 11) := by unfold Hid; rw [hdc]; exact decC_length _ _
   have D1 : Hid (∀ v ∈ dc, v.oneCell' = true) := by unfold Hid; rw [hdc]; exact decC_one _ _
   rw [← hdc, ← hde]
   rw [← hdc] at HC; rw [← hde] at HE
   have s1 := H2'.out.lt
   have s2 := hb3.size
   have N0 : Hid (Row (W3.alloc (.cells zero11.toArray 59)) W3.heap.size 59 zero11) := Row.new _ _ _
   have N1 : Hid (Row ((W3.alloc (.cells zero11.toArray 59)).setRow W3.heap.size dc.toArray) W3.heap.size 59 dc) := N0.out.setRow dc
   have N2 : Hid (Row ((W3.alloc (.cells zero11.toArray 59)).setRow W3.heap.size dc.toArray) (w.heap.size + 1) 59 zero11) := ((H1'.out.old hb3).alloc _).farRow (by omega) _
   have NB : Hid (Below w.heap.size w ((W3.alloc (.cells zero11.toArray 59)).setRow W3.heap.size dc.toArray)) := Below.setRow ((HB'.out.trans (hb3.mono HB'.out.size)).alloc (by omega) _) (by omega) _
   clear hdc hde hb3 q0 q1 q2 q3 q4 q5 q6 q7 s1 s2
   go_wp2_with (first
    | (refine wpList_store_row rfl 59 _ _ rfl W3.heap.size dc.toArray rfl rfl 59 _ N0.out ?_ ?_ ?_ ?_; (rw [info54]; simp [D11.out]); (simp [D11.out, zero11, pkC, flts]); (simpa using D1.out))
    | (refine wpList_load_row rfl 59 _ rfl W3.heap.size rfl 59 dc.toArray (0, 0) _ N1.out Tryz.underlying59 rfl ?_ ?_; (rw [info54]; simp [D11.out]))
    | (refine wpList_store_row rfl 59 _ _ rfl (w.heap.size + 1) dc.toArray rfl rfl 59 _ N2.out ?_ ?_ ?_ ?_; (rw [info54]; simp [D11.out]); (simp [D11.out, zero11, pkC, flts]); (simpa using D1.out)))
   refine bodyPost_ret (results_row_tmp rfl _ _ (w.heap.size + 1) 59 dc.toArray (0, 0) _ rfl (N2.out.setRow dc) Tryz.underlying59 rfl ?_) rfl ?_
   · rw [info54]; simp [D11.out]
   · exact ⟨by rw [HE.out, HC.out]; rfl, Below.setRow NB.out (by omega) _⟩
def recvGo (key : List Int) (bs : List UInt8) : Nat → Nat → List (List Value) → List (Int × Int) → List (List Value) × List (Int × Int)
 | 0, _, ps, sp => (ps, sp)
 | f + 1, i, ps, sp => if i < bs.length then (if begE key (bs.drop i) then recvGo key bs f (i + 29) (ps ++ [begC key (bs.drop i)]) sp else recvGo key bs f (i + 1) ps (widL sp i)) else (ps, sp)
def recvL (key : List Int) (bs : List UInt8) : List (List Value) × List (Int × Int) := recvGo key bs bs.length 0 [] []
theorem begC_form (key : List Int) (bs : List UInt8) : ∃ (st ct ln : Int) (x0 x1 x2 x3 x4 x5 x6 x7 : Nat), begC key bs = pkC st ct ln [x0, x1, x2, x3, x4, x5, x6, x7] := by
 unfold begC
 split
 · exact ⟨0, 0, 0, 0, 0, 0, 0, 0, 0, 0, 0, rfl⟩
 · unfold decC
   split
   · obtain ⟨x0, x1, x2, x3, x4, x5, x6, x7, hx8⟩ : ∃ x0 x1 x2 x3 x4 x5 x6 x7, xsOf (bs.take 29) 8 = [x0, x1, x2, x3, x4, x5, x6, x7] := ⟨_, _, _, _, _, _, _, _, rfl⟩
     exact ⟨_, _, _, x0, x1, x2, x3, x4, x5, x6, x7, by rw [hx8]⟩
   · exact ⟨0, 0, 0, 0, 0, 0, 0, 0, 0, 0, 0, rfl⟩
theorem begE_len {key : List Int} {bs : List UInt8} (h : begE key bs = true) : 29 ≤ bs.length := by
 unfold begE at h
 split at h
 · cases h
 · omega
theorem info54w : (Tryz.prog.info? 59).map (fun i => (i.zero, i.size, i.bytes)) = some (some (.agg #[.int .i64 0, .int .i64 0, .int .i64 0, .float .f32 0, .float .f32 0, .float .f32 0, .float .f32 0, .float .f32 0, .float .f32 0, .float .f32 0, .float .f32 0]), 11, 56) := by kernel_rfl
theorem Rd.drop {w : World} {b off : Nat} {xs : List Value} (h : Rd w (some ⟨b, off, none⟩) xs) (k : Nat) : Rd w (some ⟨b, off + k, none⟩) (xs.drop k) := by
 intro j v hv
 rw [List.getElem?_drop] at hv
 obtain ⟨b', off', h1, h2⟩ := h (k + j) v hv
 cases h1
 exact ⟨b, off + k, rfl, by rw [Nat.add_assoc]; exact h2⟩
theorem news11 (w : World) (vs : List Value) (t : TypeId) (a : Addr) (ha : a = ⟨w.heap.size, 0, none⟩) : ∀ j x, vs[j]? = some x → (w.alloc (.cells vs.toArray t)).cell? (a.add j) = some x := by
 subst ha
 intro j x hx
 have h := (Row.new w t vs).cell j
 rw [hx] at h
 by_cases hj : j = 0
 · subst hj; simpa [Addr.add] using h
 · simpa [Addr.add, hj] using h
theorem keepRe {w1 W W' : World} {kb : Nat} {k0 k1 k2 k3 k4 k5 k6 k7 : Int} (h : W.cell? ⟨kb, 0, none⟩ = some (.int .u8 k0) ∧ W.cell? ⟨kb, 1, none⟩ = some (.int .u8 k1) ∧ W.cell? ⟨kb, 2, none⟩ = some (.int .u8 k2) ∧ W.cell? ⟨kb, 3, none⟩ = some (.int .u8 k3) ∧ W.cell? ⟨kb, 4, none⟩ = some (.int .u8 k4) ∧ W.cell? ⟨kb, 5, none⟩ = some (.int .u8 k5) ∧ W.cell? ⟨kb, 6, none⟩ = some (.int .u8 k6) ∧ W.cell? ⟨kb, 7, none⟩ = some (.int .u8 k7) ∧ Below w1.heap.size w1 W) (hb : Below W.heap.size W W') : W'.cell? ⟨kb, 0, none⟩ = some (.int .u8 k0) ∧ W'.cell? ⟨kb, 1, none⟩ = some (.int .u8 k1) ∧ W'.cell? ⟨kb, 2, none⟩ = some (.int .u8 k2) ∧ W'.cell? ⟨kb, 3, none⟩ = some (.int .u8 k3) ∧ W'.cell? ⟨kb, 4, none⟩ = some (.int .u8 k4) ∧ W'.cell? ⟨kb, 5, none⟩ = some (.int .u8 k5) ∧ W'.cell? ⟨kb, 6, none⟩ = some (.int .u8 k6) ∧ W'.cell? ⟨kb, 7, none⟩ = some (.int .u8 k7) ∧ Below w1.heap.size w1 W' :=
 ⟨keepC (h.1) hb, keepC (h.2.1) hb, keepC (h.2.2.1) hb, keepC (h.2.2.2.1) hb, keepC (h.2.2.2.2.1) hb, keepC (h.2.2.2.2.2.1) hb, keepC (h.2.2.2.2.2.2.1) hb, keepC (h.2.2.2.2.2.2.2.1) hb, (h.2.2.2.2.2.2.2.2).trans (hb.mono (h.2.2.2.2.2.2.2.2).size)⟩
theorem lastRe {w1 W : World} {kb : Nat} {k0 k1 k2 k3 k4 k5 k6 k7 : Int} (h : W.cell? ⟨kb, 0, none⟩ = some (.int .u8 k0) ∧ W.cell? ⟨kb, 1, none⟩ = some (.int .u8 k1) ∧ W.cell? ⟨kb, 2, none⟩ = some (.int .u8 k2) ∧ W.cell? ⟨kb, 3, none⟩ = some (.int .u8 k3) ∧ W.cell? ⟨kb, 4, none⟩ = some (.int .u8 k4) ∧ W.cell? ⟨kb, 5, none⟩ = some (.int .u8 k5) ∧ W.cell? ⟨kb, 6, none⟩ = some (.int .u8 k6) ∧ W.cell? ⟨kb, 7, none⟩ = some (.int .u8 k7) ∧ Below w1.heap.size w1 W) : Below w1.heap.size w1 W := h.2.2.2.2.2.2.2.2
theorem owns_below {w w' : World} {B : Nat} {e : TypeId} {s n : Nat} {v : Value} {xs : List Value} (h : w.ownsRow B e s v n xs) (hb : Below w.heap.size w w') : w'.ownsRow B e s v n xs := by
 refine ⟨h.1, ?_⟩
 rcases h.2 with h2 | ⟨g, cap, cur, h1, h2, h3, h4⟩
 · exact .inl h2
 · exact .inr ⟨g, cap, cur, h1, h2, (hb.block g (Array.getElem?_eq_some_iff.1 h3).1).trans h3, h4⟩
theorem dis_symm {a b : Option Nat} (h : a = none ∨ a ≠ b) : b = none ∨ b ≠ a := by
 cases b with
 | none => exact .inl rfl
 | some j =>
   refine .inr ?_
   rcases h with h | h
   · rw [h]; exact fun h => by cases h
   · exact fun h2 => h h2.symm
theorem widL_le (l : List (Int × Int)) (i : Int) : (widL l i).length ≤ l.length + 1 := by
 unfold widL
 split
 · split <;> simp <;> omega
 · simp
def RecvI (w : World) (key : List Int) (bs : List UInt8) (fuel : Nat) (v u : Value) (i : Nat) (wr : World) : Prop :=
 ∃ ps sp, ps.length ≤ i ∧ sp.length ≤ i ∧ bs.length ≤ i + fuel ∧ recvGo key bs fuel i ps sp = recvL key bs ∧
   wr.ownsRow (w.heap.size + 1) 59 11 v ps.length ps.flatten ∧ wr.ownsRow (w.heap.size + 1) 70 2 u sp.length (spanC sp) ∧
   (v.ownBlock = none ∨ v.ownBlock ≠ u.ownBlock) ∧ Row wr w.heap.size 46 (u8s key) ∧ Below w.heap.size w wr
set_option maxRecDepth 100000 in
set_option maxHeartbeats 2000000 in
theorem received_ok (k0 k1 k2 k3 k4 k5 k6 k7 : Int) (A : Option Addr) (n c : Nat) (bs : List UInt8) (w : World) (hA : Rd w A (byts bs)) (hn : n = bs.length) (hc : n ≤ c) (hm : bs.length ≤ 29696) (hkeys : ∀ j (h : j < 8), isByte ([k0, k1, k2, k3, k4, k5, k6, k7][j])) :
 Calls Tryz.prog 21 #[.agg #[.int .u8 k0, .int .u8 k1, .int .u8 k2, .int .u8 k3, .int .u8 k4, .int .u8 k5, .int .u8 k6, .int .u8 k7], .slice A n c] w
  fun e w' => ∃ v u, e = .returned (.tuple #[v, u, .int .i64 0]) ∧ w'.ownsRow (w.heap.size + 1) 59 11 v (recvL [k0, k1, k2, k3, k4, k5, k6, k7] bs).1.length (recvL [k0, k1, k2, k3, k4, k5, k6, k7] bs).1.flatten ∧ w'.ownsRow (w.heap.size + 1) 70 2 u (recvL [k0, k1, k2, k3, k4, k5, k6, k7] bs).2.length (spanC (recvL [k0, k1, k2, k3, k4, k5, k6, k7] bs).2) ∧ Below w.heap.size w w' := by
 subst hn
 have Hk := Lib.hid hkeys
 have HA := Lib.hid hA
 clear hkeys hA
 have R0 := Lib.hid (Row.new w 46 (u8s [k0, k1, k2, k3, k4, k5, k6, k7]))
 obtain ⟨ip, hip0, hip1, hip2, hip3⟩ := info_parts info54w
 go_enter Tryz.func21, Tryz.ntmps21
 go_wp2
 go_loopg [7, 8, 9] bs.length (fun g v u i wr => ∃ k : Nat, k ≤ bs.length ∧ i = .int .i64 k ∧ RecvI w [k0, k1, k2, k3, k4, k5, k6, k7] bs g v u k wr)
 case atStart =>
  refine ⟨0, Nat.zero_le _, rfl, [], [], Nat.le_refl _, Nat.le_refl _, by omega, rfl, World.ownsRow_nil _ _ _ _, World.ownsRow_nil _ _ _ _, .inl rfl, R0.out, (Below.refl _ _).alloc (Nat.le_refl _) _⟩
 case round =>
  obtain ⟨k, hk, rfl, HI⟩ := hrel
  have HI := Lib.hid HI
  by_cases hlt : k < bs.length
  · obtain ⟨b, off, hAb, _⟩ := Rd.byte HA.out hlt
    subst hAb
    obtain ⟨ps, sp, hps, hsp, hfu, hgo, hv, hu, hd, hkey, hB⟩ := HI.out
    have hsz := hkey.lt
    have hRd : Hid (∀ W, Below wr.heap.size wr W → Rd W (some ⟨b, off + k, none⟩) (byts (bs.drop k))) := fun W hW => by
     have := ((HA.out.below (hB.trans (hW.mono hB.size))).drop k); simpa [byts] using this
    obtain ⟨st, ct, ln, x0, x1, x2, x3, x4, x5, x6, x7, hform⟩ := begC_form [k0, k1, k2, k3, k4, k5, k6, k7] (bs.drop k)
    obtain ⟨bg, hbg⟩ : ∃ bg, bg = begE [k0, k1, k2, k3, k4, k5, k6, k7] (bs.drop k) := ⟨_, rfl⟩
    have Hcall : Hid (∀ W, Below wr.heap.size wr W → Calls Tryz.prog 74 #[.agg #[.int .u8 k0, .int .u8 k1, .int .u8 k2, .int .u8 k3, .int .u8 k4, .int .u8 k5, .int .u8 k6, .int .u8 k7], .slice (some ⟨b, off + k, none⟩) (bs.length - k) (c - k)] W
     fun e w' => e = .returned (.tuple #[.agg #[.int .i64 st, .int .i64 ct, .int .i64 ln, .float .f32 x0, .float .f32 x1, .float .f32 x2, .float .f32 x3, .float .f32 x4, .float .f32 x5, .float .f32 x6, .float .f32 x7], .bool bg]) ∧ Below W.heap.size W w') := fun W hW =>
     (beginning_any k0 k1 k2 k3 k4 k5 k6 k7 (some ⟨b, off + k, none⟩) (bs.length - k) (c - k) (bs.drop k) W (hRd.out W hW) (by simp) (by simp; omega) Hk.out).mono fun e w' h => ⟨by rw [h.1, hform, hbg]; rfl, h.2⟩
    have hsl := fun W => slice_from (P := Tryz.prog) 48 (by kernel_rfl) (fun _ => by kernel_rfl) b off bs.length c (k : Int) (by omega) (by omega) hc W
    simp only [Int.toNat_natCast] at hsl
    have S0 : Hid (wr.cell? ⟨w.heap.size, 0, none⟩ = some (.int .u8 k0) ∧ wr.cell? ⟨w.heap.size, 1, none⟩ = some (.int .u8 k1) ∧ wr.cell? ⟨w.heap.size, 2, none⟩ = some (.int .u8 k2) ∧ wr.cell? ⟨w.heap.size, 3, none⟩ = some (.int .u8 k3) ∧ wr.cell? ⟨w.heap.size, 4, none⟩ = some (.int .u8 k4) ∧ wr.cell? ⟨w.heap.size, 5, none⟩ = some (.int .u8 k5) ∧ wr.cell? ⟨w.heap.size, 6, none⟩ = some (.int .u8 k6) ∧ wr.cell? ⟨w.heap.size, 7, none⟩ = some (.int .u8 k7) ∧ Below wr.heap.size wr wr) :=
     ⟨by rw [hkey.cell]; rfl, by rw [hkey.cell]; rfl, by rw [hkey.cell]; rfl, by rw [hkey.cell]; rfl, by rw [hkey.cell]; rfl, by rw [hkey.cell]; rfl, by rw [hkey.cell]; rfl, by rw [hkey.cell]; rfl, Below.refl _ _⟩
    have Hps := Lib.hid hps; have Hsp := Lib.hid hsp; have Hfu := Lib.hid hfu; have Hgo := Lib.hid hgo; have Hv := Lib.hid hv; have Hu := Lib.hid hu; have Hd := Lib.hid hd; have Hkey := Lib.hid hkey; have HB := Lib.hid hB; have Hform := Lib.hid hform; have Hbg := Lib.hid hbg; have Hsz := Lib.hid hsz
    clear hps hsp hfu hgo hv hu hd hkey hB hform hbg hsz HI
    go_upto_region 7 with fail
    go_cut [10, 11] (fun s10 s11 wx => ∃ g : Nat, s10 = .pointer (some ⟨g, 0, none⟩) ∧ s11 = .bool bg ∧ Row wx g 59 (pkC st ct ln [x0, x1, x2, x3, x4, x5, x6, x7]) ∧ wr.heap.size ≤ g ∧ Below wr.heap.size wr wx)
    case first =>
     have q0 := S0.out.1
     have q1 := S0.out.2.1
     have q2 := S0.out.2.2.1
     have q3 := S0.out.2.2.2.1
     have q4 := S0.out.2.2.2.2.1
     have q5 := S0.out.2.2.2.2.2.1
     have q6 := S0.out.2.2.2.2.2.2.1
     have q7 := S0.out.2.2.2.2.2.2.2.1
     have hszq := Hsz.out
     go_region_law (first | (go_simp; go_at_call 74; refine (Hcall.out _ ?_).mono ?_; (first | exact Below.drew (Below.refl _ _) | exact (Below.drew (Below.refl _ _)).alloc (Nat.le_refl _) _ | exact ((Below.refl _ _).alloc (Nat.le_refl _) _).drew); rintro e w2 ⟨rfl, hb2⟩; try (have hz : Row w2 wr.heap.size 59 zero11 := Row.old (w := (wr.alloc (.cells zero11.toArray 59)).drew) (Row.new wr 59 zero11) hb2; have z0 : w2.cell? ⟨wr.heap.size, 0, none⟩ = some (.int .i64 0) := (hz.cell 0); have z1 : w2.cell? ⟨wr.heap.size, 1, none⟩ = some (.int .i64 0) := (hz.cell 1); have z2 : w2.cell? ⟨wr.heap.size, 2, none⟩ = some (.int .i64 0) := (hz.cell 2); have z3 : w2.cell? ⟨wr.heap.size, 3, none⟩ = some (.float .f32 0) := (hz.cell 3); have z4 : w2.cell? ⟨wr.heap.size, 4, none⟩ = some (.float .f32 0) := (hz.cell 4); have z5 : w2.cell? ⟨wr.heap.size, 5, none⟩ = some (.float .f32 0) := (hz.cell 5); have z6 : w2.cell? ⟨wr.heap.size, 6, none⟩ = some (.float .f32 0) := (hz.cell 6); have z7 : w2.cell? ⟨wr.heap.size, 7, none⟩ = some (.float .f32 0) := (hz.cell 7); have z8 : w2.cell? ⟨wr.heap.size, 8, none⟩ = some (.float .f32 0) := (hz.cell 8); have z9 : w2.cell? ⟨wr.heap.size, 9, none⟩ = some (.float .f32 0) := (hz.cell 9); have z10 : w2.cell? ⟨wr.heap.size, 10, none⟩ = some (.float .f32 0) := (hz.cell 10); have hyf : ∀ j, w2.frozen? ⟨wr.heap.size, j, none⟩ = false := fun j => hz.free j; have hz := Lib.hid hz)))
     all_goals go_wp2_with fail
     all_goals go_meet
     all_goals first
      | (have hz0 := hz.out; have hbB : Below wr.heap.size wr w2 := (((Below.refl wr.heap.size wr).alloc (Nat.le_refl _) (.cells zero11.toArray 59)).drew).trans (hb2.mono (by simp))
         refine ⟨_, rfl, rfl, (((((((((((hz0.set 0 _).set 1 _).set 2 _).set 3 _).set 4 _).set 5 _).set 6 _).set 7 _).set 8 _).set 9 _).set 10 _), Nat.le_refl _, ?_⟩
         exact (((((((((((hbB.setCell (p := ⟨wr.heap.size, 0, none⟩) (Nat.le_refl _) _).setCell (p := ⟨wr.heap.size, 1, none⟩) (Nat.le_refl _) _).setCell (p := ⟨wr.heap.size, 2, none⟩) (Nat.le_refl _) _).setCell (p := ⟨wr.heap.size, 3, none⟩) (Nat.le_refl _) _).setCell (p := ⟨wr.heap.size, 4, none⟩) (Nat.le_refl _) _).setCell (p := ⟨wr.heap.size, 5, none⟩) (Nat.le_refl _) _).setCell (p := ⟨wr.heap.size, 6, none⟩) (Nat.le_refl _) _).setCell (p := ⟨wr.heap.size, 7, none⟩) (Nat.le_refl _) _).setCell (p := ⟨wr.heap.size, 8, none⟩) (Nat.le_refl _) _).setCell (p := ⟨wr.heap.size, 9, none⟩) (Nat.le_refl _) _).setCell (p := ⟨wr.heap.size, 10, none⟩) (Nat.le_refl _) _))
      | exact ⟨_, rfl, rfl, Row.new w2 _ _, hb2.size, ((Below.drew (Below.refl _ _)).trans hb2).alloc hb2.size _⟩
    case rest =>
     obtain ⟨g, rfl, rfl, hrow, hg, hbw⟩ := hcut
     obtain ⟨f, rfl⟩ : ∃ f, gk = f + 1 := ⟨gk - 1, by have := Hfu.out; omega⟩
     have HRow := Lib.hid hrow
     have HBw := Lib.hid (HB.out.trans (hbw.mono HB.out.size))
     have Hv' := Lib.hid (owns_below Hv.out hbw)
     have Hu' := Lib.hid (owns_below Hu.out hbw)
     have Hkey' := Lib.hid (Hkey.out.old hbw)
     have hszc : w.heap.size + 1 ≤ wc.heap.size := Hkey'.out.lt
     have Hszc := Lib.hid hszc
     clear hrow hbw hszc Hcall hRd hg
     cases bg
     · have Hgo2 : Hid (recvGo [k0, k1, k2, k3, k4, k5, k6, k7] bs f (k + 1) ps (widL sp k) = recvL [k0, k1, k2, k3, k4, k5, k6, k7] bs) := by
        unfold Hid; rw [← Hgo.out, recvGo, if_pos hlt, ← Hbg.out]; rfl
       have hl6 : sp.length ≤ 1000000 := by have := Hsp.out; omega
       have hi9 : (0 : Int) ≤ (k : Int) ∧ (k : Int) ≤ 1000000000 := by omega
       have Hl6 := Lib.hid hl6; have Hi9 := Lib.hid hi9
       clear hl6 hi9
       go_wp2_with fail
       refine (widened_any (w.heap.size + 1) u8 sp (k : Int) _ Hu'.out Hszc.out Hl6.out Hi9.out).mono ?_
       rintro e w3 ⟨u', rfl, ho, hst⟩
       have Hk1 := Lib.hid (hst.keep Hv'.out Hd.out)
       have Hb1 := Lib.hid (hst.below Hu'.out Hszc.out)
       have Ho := Lib.hid ho
       have hwl := widL_le sp k
       have Hwl := Lib.hid hwl
       clear ho hst hwl
       go_wp2
       go_roundg f
       case measure => omega
       case rel =>
        exact ⟨k + 1, by omega, by go_num, ps, widL sp k, by have := Hps.out; omega, by have := Hwl.out; have := Hsp.out; omega, by have := Hfu.out; omega, Hgo2.out, Hk1.out.1, Ho.out, Hk1.out.2, Hkey'.out.below Hb1.out (by omega), HBw.out.trans (Hb1.out.mono (by omega))⟩
     · have h29 : k + 29 ≤ bs.length := by have := begE_len Hbg.out.symm; simp at this; omega
       have Hgo2 : Hid (recvGo [k0, k1, k2, k3, k4, k5, k6, k7] bs f (k + 29) (ps ++ [pkC st ct ln [x0, x1, x2, x3, x4, x5, x6, x7]]) sp = recvL [k0, k1, k2, k3, k4, k5, k6, k7] bs) := by
        unfold Hid; rw [← Hgo.out, recvGo, if_pos hlt, ← Hbg.out, Hform.out]; rfl
       have hd2 : u8.ownBlock = none ∨ u8.ownBlock ≠ u7.ownBlock := dis_symm Hd.out
       have Hd2 := Lib.hid hd2
       have hpl : ps.length ≤ 29696 := by have := Hps.out; omega
       have Hpl := Lib.hid hpl
       clear hd2 hpl
       go_wp2_with (first
        | (refine wpList_load_row rfl 59 _ rfl g rfl 59 #[.int .i64 st, .int .i64 ct, .int .i64 ln, .float .f32 x0, .float .f32 x1, .float .f32 x2, .float .f32 x3, .float .f32 x4, .float .f32 x5, .float .f32 x6, .float .f32 x7] (0, 0) _ HRow.out Tryz.underlying59 rfl ?_ ?_; (rw [info54]; rfl))
        | (at_builtin; refine wpList_append_own_at _ rfl _ _ 52 rfl (w.heap.size + 1) 59 ip (.agg #[.int .i64 0, .int .i64 0, .int .i64 0, .float .f32 0, .float .f32 0, .float .f32 0, .float .f32 0, .float .f32 0, .float .f32 0, .float .f32 0, .float .f32 0]) 11 56 Tryz.underlying52 hip0 hip1 hip2 hip3 rfl (by decide) _ ps.length ps.flatten rfl (Hv'.out.alloc _) ⟨wc.heap.size, 0, none⟩ 1 1 [.int .i64 st, .int .i64 ct, .int .i64 ln, .float .f32 x0, .float .f32 x1, .float .f32 x2, .float .f32 x3, .float .f32 x4, .float .f32 x5, .float .f32 x6, .float .f32 x7] rfl rfl (news11 _ _ _ _ rfl) ?c2 ?c3 ?c4 ?c5 ?_))
       case c2 => simp [Value.oneCell']
       case c3 => have := Hpl.out; unfold maxLen; omega
       case c4 => have := Hpl.out; omega
       case c5 => have := Hszc.out; simp; omega
       intro v' w3 ho hg3 _ hat
       have hst : Step wc w3 u7 v' := Step.of_alloc hg3 (by rw [World.size_alloc]; exact hat)
       have Hk1 := Lib.hid (hst.keep Hu'.out Hd2.out)
       have Hb1 := Lib.hid (hst.below Hv'.out Hszc.out)
       have Ho : Hid (w3.ownsRow (w.heap.size + 1) 59 11 v' (ps ++ [pkC st ct ln [x0, x1, x2, x3, x4, x5, x6, x7]]).length (ps ++ [pkC st ct ln [x0, x1, x2, x3, x4, x5, x6, x7]]).flatten) := by
        unfold Hid; simpa [pkC, flts] using ho
       clear ho hst hat hg3
       go_wp2
       go_roundg f
       case measure => omega
       case rel =>
        exact ⟨k + 29, by omega, by go_num, ps ++ [pkC st ct ln [x0, x1, x2, x3, x4, x5, x6, x7]], sp, by have := Hps.out; simp; omega, by have := Hsp.out; omega, by have := Hfu.out; omega, Hgo2.out, Ho.out, Hk1.out.1, dis_symm Hk1.out.2, Hkey'.out.below Hb1.out (by omega), HBw.out.trans (Hb1.out.mono (by omega))⟩
  · obtain ⟨ps, sp, hps, hsp, hfu, hgo, hv, hu, hd, hkey, hB⟩ := HI.out
    have hend : recvGo [k0, k1, k2, k3, k4, k5, k6, k7] bs gk k ps sp = (ps, sp) := by
     cases gk with
     | zero => rfl
     | succ f => rw [recvGo, if_neg hlt]
    have Hend : Hid (recvL [k0, k1, k2, k3, k4, k5, k6, k7] bs = (ps, sp)) := by unfold Hid; rw [← hgo, hend]
    have Hv := Lib.hid hv; have Hu := Lib.hid hu; have HB := Lib.hid hB
    clear hps hsp hfu hgo hv hu hd hkey hB hend
    go_wp2
    go_ret3
    exact ⟨_, _, rfl, by rw [Hend.out]; exact Hv.out, by rw [Hend.out]; exact Hu.out, HB.out⟩
end Go.Proofs.YtjdniebjhilooaaGreatDoor
