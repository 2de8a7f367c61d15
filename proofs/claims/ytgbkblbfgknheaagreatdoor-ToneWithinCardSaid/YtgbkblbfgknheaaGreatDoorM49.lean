import Derived.Test.YtgbkblbfgknheaaGreatDoorM48
namespace Go.Proofs.YtgbkblbfgknheaaGreatDoor
set_option linter.all false
open Go.RowKit Go.Fl
theorem nb_t {b : Bool} (h : (!b) = false) : b = true := by cases b <;> simp_all
theorem nb_f {b : Bool} (h : (!b) = true) : b = false := by cases b <;> simp_all
theorem tmod_nn {n m : Int} (h : 0 ≤ n) (hm : 0 < m) : 0 ≤ n.tmod m ∧ n.tmod m < m := by
 rw [Int.tmod_eq_emod_of_nonneg h]
 exact ⟨Int.emod_nonneg _ (by omega), Int.emod_lt_of_pos _ hm⟩
theorem w64 {n : Int} (h : -1000000000 ≤ n ∧ n ≤ 1000000000) : wrap64 n = n := by unfold wrap64; omega
theorem wI {n : Int} (h : -1000000000 ≤ n ∧ n ≤ 1000000000) : IntKind.i64.wrap n = n := IntWalk.i64_in _ (by omega)
set_option maxHeartbeats 1000000 in
theorem off0_any {g8 y16 z16 l0 l1 l2 nz o0 o1 o2 o3 : Int} {p r : Int} (g gn : Nat) (W : World) (hx : Row W g 69 [.int .u8 g8, .int .u16 y16, .int .u16 z16, .int .u16 l0, .int .u16 l1, .int .u16 l2, .int .u8 nz, .int .i8 o0, .int .i8 o1, .int .i8 o2, .int .i8 o3]) (hn : Row W gn 3 [.int .i64 nz]) (ho : -128 ≤ o0 ∧ o0 ≤ 127) (ht : 0 ≤ nz ∧ nz ≤ 255) (hp : o0 * nz = p) (hr : p.tdiv 128 = r) :
 Calls Tryz.prog 32 #[.int .i64 0, .pointer (some ⟨g, 0, none⟩), .pointer (some ⟨gn, 0, none⟩)] W fun e w' => e = .returned (.int .i64 r) ∧ Below W.heap.size W w' := by
 obtain ⟨b1, b2, b3, b4⟩ := off_bd ho ht hp hr
 have c0 := hx.cell 7; have c1 := hn.cell 0
 simp only [List.getElem?_cons_succ, List.getElem?_cons_zero] at c0 c1
 have HE : Hid (wrap64 ((wrap64 (o0 * nz)).tdiv 128) = r) := by
  have e1 : wrap64 p = p := w64 (by omega)
  have e2 : wrap64 r = r := w64 (by omega)
  unfold Hid
  rw [hp, e1, hr, e2]
 have a1 : IntKind.i64.wrap o0 = o0 := IntWalk.i64_in _ (by omega)
 clear hx hn ho ht hp hr b1 b2 b3 b4
 go_enter Tryz.func32, Tryz.ntmps32
 go_wp2_with fail
 go_quiet (fail)
 go_wp2_with fail
 go_ret
 exact ⟨ret_int HE.out, by first | exact Below.refl _ _ | exact below_drewN (Below.refl _ _) _ | exact (Below.refl _ _).drew⟩
set_option maxHeartbeats 1000000 in
theorem off1_any {g8 y16 z16 l0 l1 l2 nz o0 o1 o2 o3 : Int} {p r : Int} (g gn : Nat) (W : World) (hx : Row W g 69 [.int .u8 g8, .int .u16 y16, .int .u16 z16, .int .u16 l0, .int .u16 l1, .int .u16 l2, .int .u8 nz, .int .i8 o0, .int .i8 o1, .int .i8 o2, .int .i8 o3]) (hn : Row W gn 3 [.int .i64 nz]) (ho : -128 ≤ o1 ∧ o1 ≤ 127) (ht : 0 ≤ nz ∧ nz ≤ 255) (hp : o1 * nz = p) (hr : p.tdiv 128 = r) :
 Calls Tryz.prog 32 #[.int .i64 1, .pointer (some ⟨g, 0, none⟩), .pointer (some ⟨gn, 0, none⟩)] W fun e w' => e = .returned (.int .i64 r) ∧ Below W.heap.size W w' := by
 obtain ⟨b1, b2, b3, b4⟩ := off_bd ho ht hp hr
 have c0 := hx.cell 8; have c1 := hn.cell 0
 simp only [List.getElem?_cons_succ, List.getElem?_cons_zero] at c0 c1
 have HE : Hid (wrap64 ((wrap64 (o1 * nz)).tdiv 128) = r) := by
  have e1 : wrap64 p = p := w64 (by omega)
  have e2 : wrap64 r = r := w64 (by omega)
  unfold Hid
  rw [hp, e1, hr, e2]
 have a1 : IntKind.i64.wrap o1 = o1 := IntWalk.i64_in _ (by omega)
 clear hx hn ho ht hp hr b1 b2 b3 b4
 go_enter Tryz.func32, Tryz.ntmps32
 go_wp2_with fail
 go_quiet (fail)
 go_wp2_with fail
 go_ret
 exact ⟨ret_int HE.out, by first | exact Below.refl _ _ | exact below_drewN (Below.refl _ _) _ | exact (Below.refl _ _).drew⟩
set_option maxHeartbeats 1000000 in
theorem off2_any {g8 y16 z16 l0 l1 l2 nz o0 o1 o2 o3 : Int} {p r : Int} (g gn : Nat) (W : World) (hx : Row W g 69 [.int .u8 g8, .int .u16 y16, .int .u16 z16, .int .u16 l0, .int .u16 l1, .int .u16 l2, .int .u8 nz, .int .i8 o0, .int .i8 o1, .int .i8 o2, .int .i8 o3]) (hn : Row W gn 3 [.int .i64 nz]) (ho : -128 ≤ o2 ∧ o2 ≤ 127) (ht : 0 ≤ nz ∧ nz ≤ 255) (hp : o2 * nz = p) (hr : p.tdiv 128 = r) :
 Calls Tryz.prog 32 #[.int .i64 2, .pointer (some ⟨g, 0, none⟩), .pointer (some ⟨gn, 0, none⟩)] W fun e w' => e = .returned (.int .i64 r) ∧ Below W.heap.size W w' := by
 obtain ⟨b1, b2, b3, b4⟩ := off_bd ho ht hp hr
 have c0 := hx.cell 9; have c1 := hn.cell 0
 simp only [List.getElem?_cons_succ, List.getElem?_cons_zero] at c0 c1
 have HE : Hid (wrap64 ((wrap64 (o2 * nz)).tdiv 128) = r) := by
  have e1 : wrap64 p = p := w64 (by omega)
  have e2 : wrap64 r = r := w64 (by omega)
  unfold Hid
  rw [hp, e1, hr, e2]
 have a1 : IntKind.i64.wrap o2 = o2 := IntWalk.i64_in _ (by omega)
 clear hx hn ho ht hp hr b1 b2 b3 b4
 go_enter Tryz.func32, Tryz.ntmps32
 go_wp2_with fail
 go_quiet (fail)
 go_wp2_with fail
 go_ret
 exact ⟨ret_int HE.out, by first | exact Below.refl _ _ | exact below_drewN (Below.refl _ _) _ | exact (Below.refl _ _).drew⟩
set_option maxHeartbeats 1000000 in
theorem off3_any {g8 y16 z16 l0 l1 l2 nz o0 o1 o2 o3 : Int} {p r : Int} (g gn : Nat) (W : World) (hx : Row W g 69 [.int .u8 g8, .int .u16 y16, .int .u16 z16, .int .u16 l0, .int .u16 l1, .int .u16 l2, .int .u8 nz, .int .i8 o0, .int .i8 o1, .int .i8 o2, .int .i8 o3]) (hn : Row W gn 3 [.int .i64 nz]) (ho : -128 ≤ o3 ∧ o3 ≤ 127) (ht : 0 ≤ nz ∧ nz ≤ 255) (hp : o3 * nz = p) (hr : p.tdiv 128 = r) :
 Calls Tryz.prog 32 #[.int .i64 3, .pointer (some ⟨g, 0, none⟩), .pointer (some ⟨gn, 0, none⟩)] W fun e w' => e = .returned (.int .i64 r) ∧ Below W.heap.size W w' := by
 obtain ⟨b1, b2, b3, b4⟩ := off_bd ho ht hp hr
 have c0 := hx.cell 10; have c1 := hn.cell 0
 simp only [List.getElem?_cons_succ, List.getElem?_cons_zero] at c0 c1
 have HE : Hid (wrap64 ((wrap64 (o3 * nz)).tdiv 128) = r) := by
  have e1 : wrap64 p = p := w64 (by omega)
  have e2 : wrap64 r = r := w64 (by omega)
  unfold Hid
  rw [hp, e1, hr, e2]
 have a1 : IntKind.i64.wrap o3 = o3 := IntWalk.i64_in _ (by omega)
 clear hx hn ho ht hp hr b1 b2 b3 b4
 go_enter Tryz.func32, Tryz.ntmps32
 go_wp2_with fail
 go_quiet (fail)
 go_wp2_with fail
 go_ret
 exact ⟨ret_int HE.out, by first | exact Below.refl _ _ | exact below_drewN (Below.refl _ _) _ | exact (Below.refl _ _).drew⟩
set_option maxRecDepth 100000 in
set_option maxHeartbeats 1000000 in
theorem lost_one (rs rf rl ra rb a b c d x y lo hi : Int) (h1 : recE rs rf rl ra rb = 0) (h2 : sigE a b c d x y = 0) (hl : 0 ≤ lo ∧ lo ≤ hi ∧ hi ≤ 1000) (W : World) : Calls Tryz.prog 29 #[.agg #[.int .i64 rs, .int .i64 rf, .int .i64 rl, .int .i64 ra, .int .i64 rb], .agg #[.int .i64 a, .int .i64 b, .int .i64 c, .int .i64 d, .int .i64 x, .int .i64 y], .agg #[.int .i64 lo, .int .i64 hi]] W fun e w' => e = .returned (.tuple #[.agg #[.int .i64 (min (shownI rs rf (nS ⟨a, b, c, d, x, y⟩ * (1000 - lo)) (qS ⟨a, b, c, d, x, y⟩ * 1000)) (shownI rs rf (nS ⟨a, b, c, d, x, y⟩ * (1000 - hi)) (qS ⟨a, b, c, d, x, y⟩ * 1000))), .int .i64 (max (shownI rs rf (nS ⟨a, b, c, d, x, y⟩ * (1000 - lo)) (qS ⟨a, b, c, d, x, y⟩ * 1000)) (shownI rs rf (nS ⟨a, b, c, d, x, y⟩ * (1000 - hi)) (qS ⟨a, b, c, d, x, y⟩ * 1000)))], .int .i64 0]) ∧ Below W.heap.size W w' := by
 have hR := rec_good h1; have hg := sig_good h2
 have h3 : ivE lo hi 0 1000 = 0 := by
  unfold ivE whenI rangeB
  simp only [firstI]
  have q1 : (decide (lo < 0) || decide (1000 < lo)) = false := by simp; omega
  have q2 : (decide (hi < 0) || decide (1000 < hi)) = false := by simp; omega
  have q3 : decide (hi < lo) = false := by simp; omega
  simp [q1, q2, q3]
 have bd := sg_bd (s := ⟨a, b, c, d, x, y⟩) hg
 have bn := bd.1; have bq := bd.2.2
 obtain ⟨p, hp⟩ : ∃ p, p = (shownI rs rf (nS ⟨a, b, c, d, x, y⟩ * (1000 - lo)) (qS ⟨a, b, c, d, x, y⟩ * 1000)) := ⟨_, rfl⟩
 obtain ⟨q, hq⟩ : ∃ q, q = (shownI rs rf (nS ⟨a, b, c, d, x, y⟩ * (1000 - hi)) (qS ⟨a, b, c, d, x, y⟩ * 1000)) := ⟨_, rfl⟩
 rw [← hp, ← hq]
 have HP : ∀ W, Calls Tryz.prog 80 #[.agg #[.int .i64 rs, .int .i64 rf, .int .i64 rl, .int .i64 ra, .int .i64 rb], .agg #[.int .i64 a, .int .i64 b, .int .i64 c, .int .i64 d, .int .i64 x, .int .i64 y], .int .i64 lo] W fun e w' => e = .returned (.int .i64 p) ∧ Below W.heap.size W w' := fun W => by rw [hp]; exact lost_any rs rf rl ra rb a b c d x y _ _ lo W hg.g1 hg.g2 hg.g3 hR.s hR.f rfl rfl (by omega) (by omega) (by omega)
 have HQ : ∀ W, Calls Tryz.prog 80 #[.agg #[.int .i64 rs, .int .i64 rf, .int .i64 rl, .int .i64 ra, .int .i64 rb], .agg #[.int .i64 a, .int .i64 b, .int .i64 c, .int .i64 d, .int .i64 x, .int .i64 y], .int .i64 hi] W fun e w' => e = .returned (.int .i64 q) ∧ Below W.heap.size W w' := fun W => by rw [hq]; exact lost_any rs rf rl ra rb a b c d x y _ _ hi W hg.g1 hg.g2 hg.g3 hR.s hR.f rfl rfl (by omega) (by omega) (by omega)
 have e0 : (0 : Int) = firstI [recE rs rf rl ra rb, sigE a b c d x y, ivE lo hi 0 1000] := by rw [h1, h2, h3]; rfl
 have HL := lostT_ok rs rf rl ra rb a b c d x y lo hi 0 W e0 rfl p q HP HQ
 have k1 : minL [p, q] = min p q := by show mnI p q = min p q; unfold mnI; omega
 have k2 : maxL [p, q] = max p q := by show mxI p q = max p q; unfold mxI; omega
 rw [k1, k2] at HL
 exact HL
set_option maxRecDepth 100000 in
set_option maxHeartbeats 1000000 in
theorem noisy_one (rs rf rl ra rb a b c d x y t : Int) (h1 : recE rs rf rl ra rb = 0) (h2 : sigE a b c d x y = 0) (ht : 0 ≤ t ∧ t ≤ 1000) (W : World) : Calls Tryz.prog 31 #[.agg #[.int .i64 rs, .int .i64 rf, .int .i64 rl, .int .i64 ra, .int .i64 rb], .agg #[.int .i64 a, .int .i64 b, .int .i64 c, .int .i64 d, .int .i64 x, .int .i64 y], .int .i64 t] W fun e w' => e = .returned (.tuple #[.agg #[.int .i64 (shownI rs rf (nS ⟨a, b, c, d, x, y⟩ - 2 * t * (max a (-a) + max b (-b))) (qS ⟨a, b, c, d, x, y⟩)), .int .i64 (shownI rs rf (nS ⟨a, b, c, d, x, y⟩ + 2 * t * (max a (-a) + max b (-b))) (qS ⟨a, b, c, d, x, y⟩))], .int .i64 0]) ∧ Below W.heap.size W w' := by
 have hR := rec_good h1; have hg := sig_good h2
 have h3 : whenI (rangeB t 0 1000) 3 = 0 := by
  have q1 : (decide (t < 0) || decide (1000 < t)) = false := by simp; omega
  unfold whenI rangeB
  rw [q1]; rfl
 have bd := sg_bd (s := ⟨a, b, c, d, x, y⟩) hg
 have bn := bd.1; have bq := bd.2.2; have pa := hg.pa; have pb := hg.pb
 obtain ⟨A, hA⟩ : ∃ A, A = max a (-a) + max b (-b) := ⟨_, rfl⟩
 have bA : 0 ≤ A ∧ A ≤ 20000 := by omega
 obtain ⟨by0, hby⟩ : ∃ by0, by0 = 2 * t * A := ⟨_, rfl⟩
 have bb : 0 ≤ by0 ∧ by0 ≤ 40000000 := by
  rw [hby]
  have k1 : 0 ≤ 2 * t * A := Int.mul_nonneg (by omega) bA.1
  have k2 : 2 * t * A ≤ 2000 * 20000 := Int.mul_le_mul (by omega) bA.2 bA.1 (by decide)
  omega
 have hby2 : by0 = 2 * t * (max a (-a) + max b (-b)) := by rw [← hA]; exact hby
 rw [← hA, ← hby]
 have HN := fun W => needle_any a b c d x y W hg.g1 hg.g2 hg.g3
 have HP := fun W => shown_any rs rf rl ra rb (nS ⟨a, b, c, d, x, y⟩ - by0) (qS ⟨a, b, c, d, x, y⟩) W hR.s hR.f (by omega) (by omega)
 have HQ := fun W => shown_any rs rf rl ra rb (nS ⟨a, b, c, d, x, y⟩ + by0) (qS ⟨a, b, c, d, x, y⟩) W hR.s hR.f (by omega) (by omega)
 have e0 : (0 : Int) = firstI [recE rs rf rl ra rb, sigE a b c d x y, whenI (rangeB t 0 1000) 3] := by rw [h1, h2, h3]; rfl
 exact noisyT_ok rs rf rl ra rb a b c d x y t 0 W e0 rfl (nS ⟨a, b, c, d, x, y⟩) (qS ⟨a, b, c, d, x, y⟩) by0 _ _ (by omega) (by omega) hby2 ht (by omega) (by omega) HN HP HQ
theorem fl_emp (rl ra rb : Int) (s : Sg) : (flS rl ra rb s).toList.isEmpty = !(flB rl s || flD ra rb s) := by
 unfold flS
 cases flB rl s <;> cases flD ra rb s <;> first | rfl | kernel_rfl | decide | (simp [flagS]; done)
theorem tv_off {rs rf rl ra rb : Int} {s : Sg} (h : (flB rl s || flD ra rb s) = true) : tvS rs rf rl ra rb s = 0 := by unfold tvS toldI; rw [h]; rfl
theorem tv_on {rs rf rl ra rb : Int} {s : Sg} (h : (flB rl s || flD ra rb s) = false) : tvS rs rf rl ra rb s = shownI rs rf (nS s) (qS s) := by unfold tvS toldI; rw [h]; rfl
theorem told_one (rs rf rl ra rb a b c d x y : Int) (h1 : recE rs rf rl ra rb = 0) (h2 : sigE a b c d x y = 0) (W : World) : Calls Tryz.prog 27 #[.agg #[.int .i64 rs, .int .i64 rf, .int .i64 rl, .int .i64 ra, .int .i64 rb], .agg #[.int .i64 a, .int .i64 b, .int .i64 c, .int .i64 d, .int .i64 x, .int .i64 y]] W fun e w' => e = .returned (.tuple #[.int .i64 (tvS rs rf rl ra rb ⟨a, b, c, d, x, y⟩), .string (flS rl ra rb ⟨a, b, c, d, x, y⟩), .int .i64 0]) ∧ Below W.heap.size W w' :=
 toldT_ok rs rf rl ra rb a b c d x y 0 W (by rw [h1, h2]; rfl) rfl _ _ (fun W => told_sg rs rf rl ra rb ⟨a, b, c, d, x, y⟩ W (rec_good h1) (sig_good h2))
theorem sig_make {a b c d x y : Int} (h : SigG a b c d x y) : sigE a b c d x y = 0 := by
 have := h.pa; have := h.pb; have := h.pc; have := h.pd; have := h.px; have := h.py; have := h.pn
 have q : ∀ p : Int, -10000 ≤ p ∧ p ≤ 10000 → rangeB p (-10000) 10000 = false := fun p hp => by unfold rangeB; simp; omega
 have e : (a == 0 && b == 0) = false := by
  cases h1 : (a == 0) <;> cases h2 : (b == 0) <;> first | rfl | (exfalso; simp at h1 h2; exact h.pn ⟨h1, h2⟩)
 unfold sigE partE
 simp only [List.map_cons, List.map_nil, q a h.pa, q b h.pb, q c h.pc, q d h.pd, q x h.px, q y h.py, e]
 rfl
set_option maxRecDepth 100000 in
set_option maxHeartbeats 8000000 in
theorem toneWithin_any (rs rf rl ra rb a b c d x y g8 y16 z16 l0 l1 l2 nz o0 o1 o2 o3 : Int) (hg8 : 0 ≤ g8 ∧ g8 ≤ 255) (hy : 0 ≤ y16 ∧ y16 ≤ 65535) (hl0 : 0 ≤ l0 ∧ l0 ≤ 65535) (hl1 : 0 ≤ l1 ∧ l1 ≤ 65535) (hl2 : 0 ≤ l2 ∧ l2 ≤ 65535) (hnz : 0 ≤ nz ∧ nz ≤ 255) (ho0 : -128 ≤ o0 ∧ o0 ≤ 127) (ho1 : -128 ≤ o1 ∧ o1 ≤ 127) (ho2 : -128 ≤ o2 ∧ o2 ≤ 127) (ho3 : -128 ≤ o3 ∧ o3 ≤ 127) (w : World) (hA : AwT w) : Calls Tryz.prog 5 #[.agg #[.int .i64 rs, .int .i64 rf, .int .i64 rl, .int .i64 ra, .int .i64 rb], .agg #[.int .i64 a, .int .i64 b, .int .i64 c, .int .i64 d, .int .i64 x, .int .i64 y], .agg #[.int .u8 g8, .int .u16 y16, .int .u16 z16, .int .u16 l0, .int .u16 l1, .int .u16 l2, .int .u8 nz, .int .i8 o0, .int .i8 o1, .int .i8 o2, .int .i8 o3]] w fun e w' => e = .returned (.bool true) ∧ Below w.heap.size w w' := by
 have HR := fun W => checkReceiverR_any rs rf rl ra rb W
 have HN := fun W => near_any 1 0 c d x y 8000 W (by decide)
 have HC := fun W => checkSignalR_any a b c d x y W
 by_cases h1 : recE rs rf rl ra rb = 0
 case neg => exact within_out1 rs rf rl ra rb a b c d x y g8 y16 z16 l0 l1 l2 nz o0 o1 o2 o3 _ _ _ w hA HR HN HC h1
 rw [h1] at HR
 cases hn : nearB 8000 1 0 c d x y
 · rw [hn] at HN
   exact within_out2 rs rf rl ra rb a b c d x y g8 y16 z16 l0 l1 l2 nz o0 o1 o2 o3 _ w hA HR HN HC
 rw [hn] at HN
 by_cases h2 : sigE a b c d x y = 0
 case neg => exact within_out3 rs rf rl ra rb a b c d x y g8 y16 z16 l0 l1 l2 nz o0 o1 o2 o3 _ w hA HR HN HC h2
 rw [h2] at HC
 have hR := rec_good h1; have hg := sig_good h2
 obtain ⟨nc, nd, nx, ny⟩ := near_bd hn
 have hs := hR.s; have hf := hR.f
 obtain ⟨n, hnE⟩ : ∃ n, n = tvS rs rf rl ra rb ⟨a, b, c, d, x, y⟩ := ⟨_, rfl⟩
 obtain ⟨FL, hFL⟩ : ∃ FL, FL = flS rl ra rb ⟨a, b, c, d, x, y⟩ := ⟨_, rfl⟩
 obtain ⟨zF, hzF⟩ : ∃ zF, zF = !(flB rl ⟨a, b, c, d, x, y⟩ || flD ra rb ⟨a, b, c, d, x, y⟩) := ⟨_, rfl⟩
 have hq : FL.toList.isEmpty = zF := by rw [hFL, hzF]; exact fl_emp _ _ _ _
 have hb := tv_bd hR ⟨a, b, c, d, x, y⟩
 rw [← hnE] at hb
 have HT := fun W => told_one rs rf rl ra rb a b c d x y h1 h2 W
 rw [← hnE, ← hFL] at HT
 -- numbers
 obtain ⟨k1, hk1⟩ : ∃ k, g8.tmod 16 = k := ⟨_, rfl⟩
 have b1 := tmod_nn (m := 16) hg8.1 (by decide); rw [hk1] at b1
 obtain ⟨k4, hk4⟩ : ∃ k, y16.tmod (2 * rf + 1) = k := ⟨_, rfl⟩
 have b4 := tmod_nn (m := 2 * rf + 1) hy.1 (by omega); rw [hk4] at b4
 obtain ⟨low, hlow⟩ : ∃ k, l0.tmod 1001 = k := ⟨_, rfl⟩
 have b5 := tmod_nn (m := 1001) hl0.1 (by decide); rw [hlow] at b5
 obtain ⟨k6, hk6⟩ : ∃ k, l1.tmod (1001 - low) = k := ⟨_, rfl⟩
 have b6 := tmod_nn (m := 1001 - low) hl1.1 (by omega); rw [hk6] at b6
 obtain ⟨k9, hk9⟩ : ∃ k, l2.tmod (low + k6 - low + 1) = k := ⟨_, rfl⟩
 have b9 := tmod_nn (m := low + k6 - low + 1) hl2.1 (by omega); rw [hk9] at b9
 have hlag : 1 ≤ 1 + k1 ∧ 1 + k1 ≤ 16 := by omega
 have hst : -rf ≤ k4 - rf ∧ k4 - rf ≤ rf := by omega
 have bd := sg_bd (s := ⟨a, b, c, d, x, y⟩) hg
 have bq := bd.2.2
 -- what follows
 have HF : ∀ As cs W, Rd W As [.int .i64 a, .int .i64 b, .int .i64 c, .int .i64 d, .int .i64 x, .int .i64 y, .int .i64 a, .int .i64 b, .int .i64 c, .int .i64 d, .int .i64 x, .int .i64 y, .int .i64 a, .int .i64 b, .int .i64 c, .int .i64 d, .int .i64 x, .int .i64 y] → Calls Tryz.prog 28 #[.agg #[.int .i64 rs, .int .i64 rf, .int .i64 rl, .int .i64 ra, .int .i64 rb], .int .i64 (1 + k1), .int .i64 (k4 - rf), .slice As 3 cs] W fun e w' => ∃ Af cf, e = .returned (.tuple #[.slice Af 3 cf, .int .i64 0]) ∧ Rd w' Af (ints (foL rs rf rl ra rb (1 + k1) (k4 - rf) [⟨a, b, c, d, x, y⟩, ⟨a, b, c, d, x, y⟩, ⟨a, b, c, d, x, y⟩])) ∧ Below W.heap.size W w' := fun As cs W hW => by
  have hsg : sgsE [⟨a, b, c, d, x, y⟩, ⟨a, b, c, d, x, y⟩, ⟨a, b, c, d, x, y⟩] = 0 := by
   have q : sgE ⟨a, b, c, d, x, y⟩ = 0 := h2
   unfold sgsE
   simp only [List.map_cons, List.map_nil, q]
   rfl
  have q1 : whenI (rangeB (1 + k1) 1 16) 3 = 0 := by
   have q : (decide (1 + k1 < 1) || decide (16 < 1 + k1)) = false := by simp; omega
   unfold whenI rangeB; rw [q]; rfl
  have q2 : whenI (rangeB (k4 - rf) (-rf) rf) 3 = 0 := by
   have q : (decide (k4 - rf < -rf) || decide (rf < k4 - rf)) = false := by simp; omega
   unfold whenI rangeB; rw [q]; rfl
  have h := followed_ok rs rf rl ra rb (1 + k1) (k4 - rf) 0 As cs [⟨a, b, c, d, x, y⟩, ⟨a, b, c, d, x, y⟩, ⟨a, b, c, d, x, y⟩] W hW (by simp) (by omega) (by rw [h1, q1, q2, hsg]; rfl) rfl hR hlag hst (fun s hs => by simp at hs; subst hs; exact hg) (by simp)
  exact h.mono fun e w' ⟨g, e1, e2, _, e3⟩ => ⟨_, _, e1, Rd.row e2, e3⟩
 have hfm : ∀ v ∈ foL rs rf rl ra rb (1 + k1) (k4 - rf) [⟨a, b, c, d, x, y⟩, ⟨a, b, c, d, x, y⟩, ⟨a, b, c, d, x, y⟩], ((flB rl ⟨a, b, c, d, x, y⟩ || flD ra rb ⟨a, b, c, d, x, y⟩) = true → v = k4 - rf) ∧ ((flB rl ⟨a, b, c, d, x, y⟩ || flD ra rb ⟨a, b, c, d, x, y⟩) = false → min (k4 - rf) n ≤ v ∧ v ≤ max (k4 - rf) n) := fun v hv => by
  unfold foL at hv
  obtain ⟨j, hj, rfl⟩ := List.mem_map.1 hv
  rw [hnE]
  exact fold_mid hlag.1 ⟨a, b, c, d, x, y⟩ _ (fun u hu => by
   have := List.mem_of_mem_take hu
   simpa using this)
 -- losses
 have L1 := fun W => lost_one rs rf rl ra rb a b c d x y low (low + k6) h1 h2 (by omega) W
 have L2 := fun W => lost_one rs rf rl ra rb a b c d x y (low + k9) (low + k9) h1 h2 (by omega) W
 have L3 := fun W => lost_one rs rf rl ra rb a b c d x y 0 0 h1 h2 (by omega) W
 have e3 : shownI rs rf (nS ⟨a, b, c, d, x, y⟩ * (1000 - 0)) (qS ⟨a, b, c, d, x, y⟩ * 1000) = shownI rs rf (nS ⟨a, b, c, d, x, y⟩) (qS ⟨a, b, c, d, x, y⟩) := shown_scale rs rf _ _
 rw [e3] at L3
 have LM := lost_mid (rs := rs) (rf := rf) (n := nS ⟨a, b, c, d, x, y⟩) (d := qS ⟨a, b, c, d, x, y⟩ * 1000) (l := low) (m := low + k9) (h := low + k6) hs.1 (by omega) (by omega) (by omega)
 obtain ⟨P, hP⟩ : ∃ P, P = shownI rs rf (nS ⟨a, b, c, d, x, y⟩ * (1000 - low)) (qS ⟨a, b, c, d, x, y⟩ * 1000) := ⟨_, rfl⟩
 obtain ⟨Q, hQ⟩ : ∃ Q, Q = shownI rs rf (nS ⟨a, b, c, d, x, y⟩ * (1000 - (low + k6))) (qS ⟨a, b, c, d, x, y⟩ * 1000) := ⟨_, rfl⟩
 obtain ⟨bV, hbV⟩ : ∃ V, V = shownI rs rf (nS ⟨a, b, c, d, x, y⟩ * (1000 - (low + k9))) (qS ⟨a, b, c, d, x, y⟩ * 1000) := ⟨_, rfl⟩
 obtain ⟨cV, hcV⟩ : ∃ V, V = shownI rs rf (nS ⟨a, b, c, d, x, y⟩) (qS ⟨a, b, c, d, x, y⟩) := ⟨_, rfl⟩
 rw [← hP, ← hQ] at L1
 rw [← hbV] at L2
 rw [← hP, ← hQ, ← hbV] at LM
 rw [← hcV] at L3
 have eb : min bV bV = bV ∧ max bV bV = bV := by omega
 have ec : min cV cV = cV ∧ max cV cV = cV := by omega
 rw [eb.1, eb.2] at L2
 rw [ec.1, ec.2] at L3
 -- noise
 have N1 := fun W => noisy_one rs rf rl ra rb a b c d x y nz h1 h2 (by omega) W
 have N2 := fun W => noisy_one rs rf rl ra rb a b c d x y (wrap64 (2 * nz)) h1 h2 (by rw [w64 (by omega)]; omega) W
 obtain ⟨Bn, hBn⟩ : ∃ B, B = 2 * nz * (max a (-a) + max b (-b)) := ⟨_, rfl⟩
 have hBn0 : 0 ≤ Bn := by rw [hBn]; exact Int.mul_nonneg (by omega) (by omega)
 have hB2 : 2 * wrap64 (2 * nz) * (max a (-a) + max b (-b)) = 2 * Bn := by rw [w64 (by omega), hBn]; grind
 rw [← hBn] at N1
 rw [hB2] at N2
 have M := fun (u v : Int) (h : u ≤ v) => shown_mono (rf := rf) hs.1 bq.1 h
 have m1 := M (nS ⟨a, b, c, d, x, y⟩ - 2 * Bn) (nS ⟨a, b, c, d, x, y⟩ - Bn) (by omega)
 have m2 := M (nS ⟨a, b, c, d, x, y⟩ - Bn) (nS ⟨a, b, c, d, x, y⟩) (by omega)
 have m3 := M (nS ⟨a, b, c, d, x, y⟩) (nS ⟨a, b, c, d, x, y⟩ + Bn) (by omega)
 have m4 := M (nS ⟨a, b, c, d, x, y⟩ + Bn) (nS ⟨a, b, c, d, x, y⟩ + 2 * Bn) (by omega)
 -- the signal with errors
 obtain ⟨p0, hp0⟩ : ∃ p, o0 * nz = p := ⟨_, rfl⟩
 obtain ⟨r0, hr0⟩ : ∃ r, p0.tdiv 128 = r := ⟨_, rfl⟩
 have c0 := off_bd ho0 hnz hp0 hr0
 obtain ⟨p1, hp1⟩ : ∃ p, o1 * nz = p := ⟨_, rfl⟩
 obtain ⟨r1, hr1⟩ : ∃ r, p1.tdiv 128 = r := ⟨_, rfl⟩
 have c1 := off_bd ho1 hnz hp1 hr1
 obtain ⟨p2, hp2⟩ : ∃ p, o2 * nz = p := ⟨_, rfl⟩
 obtain ⟨r2, hr2⟩ : ∃ r, p2.tdiv 128 = r := ⟨_, rfl⟩
 have c2 := off_bd ho2 hnz hp2 hr2
 obtain ⟨p3, hp3⟩ : ∃ p, o3 * nz = p := ⟨_, rfl⟩
 obtain ⟨r3, hr3⟩ : ∃ r, p3.tdiv 128 = r := ⟨_, rfl⟩
 have c3 := off_bd ho3 hnz hp3 hr3
 have hgt : SigG a b (c + r0) (d + r1) (x + r2) (y + r3) := ⟨hg.pa, hg.pb, by omega, by omega, by omega, by omega, hg.pn⟩
 have h2t := sig_make hgt
 have HT2 := fun W => told_one rs rf rl ra rb a b (c + r0) (d + r1) (x + r2) (y + r3) h1 h2t W
 have NI := noise_in (a := a) (b := b) (c := c) (d := d) (x := x) (y := y) (o0 := r0) (o1 := r1) (o2 := r2) (o3 := r3) (t := nz) ⟨c0.1, c0.2.1⟩ ⟨c1.1, c1.2.1⟩ ⟨c2.1, c2.2.1⟩ ⟨c3.1, c3.2.1⟩
 rw [← hBn] at NI
 have m5 := M _ _ NI.1
 have m6 := M _ _ NI.2
 have P1 := fun W => plusR_any c d r0 r1 W hg.g2 ⟨by omega, by omega⟩
 have P2 := fun W => plusR_any x y r2 r3 W hg.g3 ⟨by omega, by omega⟩
 refine within_law rs rf rl ra rb a b c d x y g8 y16 z16 l0 l1 l2 nz o0 o1 o2 o3 n (-rf) k1 (1 + k1) (2 * rf) (2 * rf + 1) k4 (k4 - rf) low (1001 - low) k6 (low + k6) (low + k6 - low) (low + k6 - low + 1) k9 (low + k9)
  (min P Q) (max P Q) bV cV (shownI rs rf (nS ⟨a, b, c, d, x, y⟩ - Bn) (qS ⟨a, b, c, d, x, y⟩)) (shownI rs rf (nS ⟨a, b, c, d, x, y⟩ + Bn) (qS ⟨a, b, c, d, x, y⟩)) (shownI rs rf (nS ⟨a, b, c, d, x, y⟩ - 2 * Bn) (qS ⟨a, b, c, d, x, y⟩)) (shownI rs rf (nS ⟨a, b, c, d, x, y⟩ + 2 * Bn) (qS ⟨a, b, c, d, x, y⟩)) r0 r1 r2 r3 (c + r0) (d + r1) (x + r2) (y + r3) (tvS rs rf rl ra rb ⟨a, b, c + r0, d + r1, x + r2, y + r3⟩) FL (flS rl ra rb ⟨a, b, c + r0, d + r1, x + r2, y + r3⟩) (foL rs rf rl ra rb (1 + k1) (k4 - rf) [⟨a, b, c, d, x, y⟩, ⟨a, b, c, d, x, y⟩, ⟨a, b, c, d, x, y⟩]) zF (!(flB rl ⟨a, b, c + r0, d + r1, x + r2, y + r3⟩ || flD ra rb ⟨a, b, c + r0, d + r1, x + r2, y + r3⟩)) w hA
  HR HN HC HT hq hb.1 hb.2 ?n0 (wI (by omega)) (wI (by omega)) hk1 (w64 (by omega)) (wI (by omega)) (wI (by omega)) (wI (by omega)) (by omega) hk4 (wI (by omega)) (wI (by omega)) hlow (wI (by omega)) (w64 (by omega)) (by omega) hk6 (w64 (by omega)) (wI (by omega)) (w64 (by omega)) (w64 (by omega)) (by omega) hk9 (w64 (by omega)) (wI (by omega))
  HF (foL_len _ _ _ _ _ _ _ _) ?fs ?ft L1 L2 L3 N1 N2 (by omega) LM.1 LM.2 m1 (Int.le_trans m2 m3) m4 ?c7
  (fun g gn W hx hn => off0_any g gn W hx hn ho0 hnz hp0 hr0) (fun g gn W hx hn => off1_any g gn W hx hn ho1 hnz hp1 hr1) (fun g gn W hx hn => off2_any g gn W hx hn ho2 hnz hp2 hr2) (fun g gn W hx hn => off3_any g gn W hx hn ho3 hnz hp3 hr3)
  P1 P2 HT2 (fl_emp _ _ _ _) ?m
 case n0 =>
  intro h
  rw [hnE]
  exact tv_off (nb_t (by rw [← hzF]; exact h))
 case fs => exact fun h v hv => (hfm v hv).1 (nb_t (by rw [← hzF]; exact h))
 case ft => exact fun h v hv => (hfm v hv).2 (nb_f (by rw [← hzF]; exact h))
 case c7 =>
  intro h
  have hb0 : (flB rl ⟨a, b, c, d, x, y⟩ || flD ra rb ⟨a, b, c, d, x, y⟩) = false := nb_f (by rw [← hzF]; exact h)
  have e := tv_on (rs := rs) (rf := rf) hb0
  rw [← hnE] at e
  rw [hcV, e]
  exact ⟨rfl, m2, m3⟩
 case m =>
  intro h
  have hb0 : (flB rl ⟨a, b, c + r0, d + r1, x + r2, y + r3⟩ || flD ra rb ⟨a, b, c + r0, d + r1, x + r2, y + r3⟩) = false := nb_f h
  rw [tv_on (rs := rs) (rf := rf) hb0]
  exact ⟨m5, m6⟩
end Go.Proofs.YtgbkblbfgknheaaGreatDoor
