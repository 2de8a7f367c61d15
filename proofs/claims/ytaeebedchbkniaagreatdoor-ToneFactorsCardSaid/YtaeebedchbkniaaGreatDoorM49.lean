import Derived.Test.YtaeebedchbkniaaGreatDoorM48
namespace Go.Proofs.YtaeebedchbkniaaGreatDoor
set_option linter.all false
open Go.RowKit Go.Fl
set_option maxRecDepth 100000 in
set_option maxHeartbeats 4000000 in
theorem toneFactors_any (a b c d x y p q r u n0 n1 n2 : Int) (w : World) (hA : AwT w) (hb : (-128 ≤ n0 ∧ n0 ≤ 127) ∧ (-128 ≤ n1 ∧ n1 ≤ 127) ∧ (-128 ≤ n2 ∧ n2 ≤ 127)) : Calls Tryz.prog 6 #[.agg #[.int .i64 a, .int .i64 b, .int .i64 c, .int .i64 d, .int .i64 x, .int .i64 y], .agg #[.int .i64 p, .int .i64 q, .int .i64 r, .int .i64 u], .agg #[.int .i8 n0, .int .i8 n1, .int .i8 n2]] w fun e w' => e = .returned (.bool true) ∧ Below w.heap.size w w' := by
 have near1 := fun W => near_any a b c d x y 300 W (by decide)
 have near2 := fun W => near_any a b p q r u 300 W (by decide)
 cases hz : (nearB 300 a b c d x y && nearB 300 a b p q r u)
 · exact factors_out a b c d x y p q r u n0 n1 n2 _ _ w hA near1 near2 hz
 · rw [Bool.and_eq_true] at hz
   rw [hz.1] at near1
   rw [hz.2] at near2
   have g := near_good hz.1; have o := near_good hz.2
   have i0 : n0.natAbs ≤ 1000000000000 := by omega
   have i1 : n1.natAbs ≤ 1000000000000 := by omega
   have i2 : n2.natAbs ≤ 1000000000000 := by omega
   obtain ⟨fr, hfr⟩ : ∃ z, n0.tmod 16 = z := ⟨_, rfl⟩
   obtain ⟨fi, hfi⟩ : ∃ z, n1.tmod 16 = z := ⟨_, rfl⟩
   obtain ⟨by0, hby⟩ : ∃ z, n2.tmod 21 = z := ⟨_, rfl⟩
   have bfr : fr.natAbs ≤ 15 := by rw [← hfr]; have := tmod_lt (a := n0) (b := 16) (by decide); omega
   have bfi : fi.natAbs ≤ 15 := by rw [← hfi]; have := tmod_lt (a := n1) (b := 16) (by decide); omega
   have bby : by0.natAbs ≤ 20 := by rw [← hby]; have := tmod_lt (a := n2) (b := 21) (by decide); omega
   clear hb
   have ge := g.e; have oe := o.e
   have hEB := g.eb bby; have hEX := g.ex; have hEU := g.eu o; have hET := g.et
   have hQQ := g.q; have hL := g.l; have hH := g.h; have hLO := o.l; have hHO := o.h
   have hEF := fun hf => g.ef bfr bfi hf
   clear hz
   obtain ⟨Q, hQ⟩ : ∃ z, a * a + b * b = z := ⟨_, rfl⟩
   obtain ⟨L, hL_⟩ : ∃ z, c * a + d * b = z := ⟨_, rfl⟩
   obtain ⟨H, hH_⟩ : ∃ z, x * a + y * b = z := ⟨_, rfl⟩
   obtain ⟨O, hO_⟩ : ∃ z, p * a + q * b - (r * a + u * b) = z := ⟨_, rfl⟩
   obtain ⟨N, hN_⟩ : ∃ z, L - H = z := ⟨_, rfl⟩
   obtain ⟨S, hS_⟩ : ∃ z, L + H = z := ⟨_, rfl⟩
   have hNn : N.natAbs ≤ 360000 := by rw [← hN_, ← hL_, ← hH_]; exact sub_abs hL hH
   have hSs : S.natAbs ≤ 360000 := by rw [← hS_, ← hL_, ← hH_]; exact add_abs hL hH
   have hOo : O.natAbs ≤ 360000 := by rw [← hO_]; exact sub_abs hLO hHO
   rw [hQ] at hQQ
   rw [hL_] at hL
   rw [hH_] at hH
   clear hLO hHO g o
   have hSN : S + N = 2 * L := by omega
   have hXX : H - L = -N := by omega
   have Q0 := hQQ.1; have Q1 := hQQ.2
   have Q9 : Q ≤ 999999999 := Int.le_trans Q1 (by decide)
   have Q4 : 0 < 4 * Q := by omega
   clear hQQ
   obtain ⟨nN, qnN⟩ : ∃ z, lowN N Q = z := ⟨_, rfl⟩
   obtain ⟨nD, qnD⟩ : ∃ z, lowD N Q = z := ⟨_, rfl⟩
   obtain ⟨bnN, bnD, pnD⟩ := low_bnds Q0 Q1 hNn qnN qnD
   obtain ⟨lN, qlN⟩ : ∃ z, lowN L Q = z := ⟨_, rfl⟩
   obtain ⟨lD, qlD⟩ : ∃ z, lowD L Q = z := ⟨_, rfl⟩
   obtain ⟨blN, blD, plD⟩ := low_bnds Q0 Q1 (abs_le hL (by decide)) qlN qlD
   obtain ⟨gN, qgN⟩ : ∃ z, lowN H Q = z := ⟨_, rfl⟩
   obtain ⟨gD, qgD⟩ : ∃ z, lowD H Q = z := ⟨_, rfl⟩
   obtain ⟨bgN, bgD, pgD⟩ := low_bnds Q0 Q1 (abs_le hH (by decide)) qgN qgD
   obtain ⟨sN, qsN⟩ : ∃ z, lowN S Q = z := ⟨_, rfl⟩
   obtain ⟨sD, qsD⟩ : ∃ z, lowD S Q = z := ⟨_, rfl⟩
   obtain ⟨bsN, bsD, psD⟩ := low_bnds Q0 Q1 hSs qsN qsD
   obtain ⟨cN, qcN⟩ : ∃ z, lowN O Q = z := ⟨_, rfl⟩
   obtain ⟨cD, qcD⟩ : ∃ z, lowD O Q = z := ⟨_, rfl⟩
   obtain ⟨bcN, bcD, pcD⟩ := low_bnds Q0 Q1 hOo qcN qcD
   obtain ⟨mN, qmN⟩ : ∃ z, lowN (by0 * N) Q = z := ⟨_, rfl⟩
   obtain ⟨mD, qmD⟩ : ∃ z, lowD (by0 * N) Q = z := ⟨_, rfl⟩
   obtain ⟨vN, qvN⟩ : ∃ z, lowN (2 * L) Q = z := ⟨_, rfl⟩
   obtain ⟨vD, qvD⟩ : ∃ z, lowD (2 * L) Q = z := ⟨_, rfl⟩
   obtain ⟨zN, qzN⟩ : ∃ z, lowN (2 * (N + O)) (4 * Q) = z := ⟨_, rfl⟩
   obtain ⟨zD, qzD⟩ : ∃ z, lowD (2 * (N + O)) (4 * Q) = z := ⟨_, rfl⟩
   have p5 : 0 < sD * nD := Int.mul_pos psD pnD
   have p6 : 0 < 2 * nD * cD := Int.mul_pos (Int.mul_pos (by decide) pnD) pcD
   have t1 := same_times Q0 qnN qnD qmN qmD
   have t2 := same_times Q0 qlN qlD qvN qvD
   have t4 := same_sum Q0 hSN qsN qsD qnN qnD qvN qvD p5
   have t6 := same_mean Q0 qnN qnD qcN qcD qzN qzD p6
   have t7 := low_neg N Q
   rw [qnN, qnD] at t7
   have k1 := abs_le (mulB bby bnN) (show _ ≤ 1000000000000 by decide)
   have kx : (0 - nN).natAbs ≤ 1000000000000 := abs_le (sub_abs (show (0 : Int).natAbs ≤ 0 by decide) bnN) (by decide)
   have k2 := abs_le (mulB bsN bnD) (show _ ≤ 1000000000000 by decide)
   have k3 := abs_le (mulB bnN bsD) (show _ ≤ 1000000000000 by decide)
   have k4 := abs_le (add_abs (mulB bsN bnD) (mulB bnN bsD)) (show _ ≤ 1000000000000 by decide)
   have k5 := abs_le (mulB bsD bnD) (show _ ≤ 1000000000000 by decide)
   have k6 := abs_le (mulB (show (2 : Int).natAbs ≤ 2 by decide) blN) (show _ ≤ 1000000000000 by decide)
   have j1 := abs_le (mulB bnN bcD) (show _ ≤ 1000000000000 by decide)
   have j2 := abs_le (mulB bcN bnD) (show _ ≤ 1000000000000 by decide)
   have j3 := abs_le (add_abs (mulB bnN bcD) (mulB bcN bnD)) (show _ ≤ 1000000000000 by decide)
   have j4 := abs_le (mulB (show (2 : Int).natAbs ≤ 2 by decide) bnD) (show _ ≤ 1000000000000 by decide)
   have j5 := abs_le (mulB (mulB (show (2 : Int).natAbs ≤ 2 by decide) bnD) bcD) (show _ ≤ 1000000000000 by decide)
   have big : ∀ z : Int, 0 < z → z.natAbs ≤ 1000000000000 → 0 < z ∧ z ≤ 9223372036854775807 := fun z h1 h2 => by omega
   have hFz : ∀ zf, (!(fr == 0 && fi == 0)) = zf → zf = true → ¬ (fr = 0 ∧ fi = 0) := fun zf h1 h2 ⟨h3, h4⟩ => by
    subst h3 h4 h1
    exact absurd h2 (by decide)
   have hFd : ∀ zf, (!(fr == 0 && fi == 0)) = zf → zf = true → 0 < fr * fr + fi * fi := fun zf h1 h2 => sq_pos (hFz zf h1 h2)
   have fq : (a * fr - b * fi) * (a * fr - b * fi) + (a * fi + b * fr) * (a * fi + b * fr) = Q * (fr * fr + fi * fi) := by
    rw [← hQ]; exact f_sq a b fr fi
   have fl : (c * fr - d * fi) * (a * fr - b * fi) + (c * fi + d * fr) * (a * fi + b * fr) = L * (fr * fr + fi * fi) := by
    rw [← hL_]; exact f_dot a b c d fr fi
   have fh : (x * fr - y * fi) * (a * fr - b * fi) + (x * fi + y * fr) * (a * fi + b * fr) = H * (fr * fr + fi * fi) := by
    rw [← hH_]; exact f_dot a b x y fr fi
   obtain ⟨zf, hzf⟩ : ∃ zf, (!(fr == 0 && fi == 0)) = zf := ⟨_, rfl⟩
   exact factors_law a b c d x y p q r u n0 n1 n2 fr fi by0 nN nD lN lD gN gD sN sD mN mD vN vD cN cD zN zD (-nN) (a * fr - b * fi) (a * fi + b * fr) (c * fr - d * fi) (c * fi + d * fr) (x * fr - y * fi) (x * fi + y * fr) a b (c * by0) (d * by0) (x * by0) (y * by0) (a + a) (b + b) (c + p) (d + q) (x + r) (y + u) (by0 * nN) (sN * nD) (nN * sD) (sN * nD + nN * sD) (sD * nD) (2 * lN) (nN * cD) (cN * nD) (nN * cD + cN * nD) (2 * nD) (2 * nD * cD) (rotR a b) (rotI a b) (rotR c d) (rotI c d) (rotR x y) (rotI x y) zf w hA near1 near2
    (wr_abs i0) (wr_abs i1) (wr_abs i2) hfr hfi hby
    (needleE ge (by rw [hL_, hH_]; exact hN_) hQ qnN qnD) (depthsE ge hL_ hH_ hQ qlN qlD qgN qgD) (sumE ge (by rw [hL_, hH_]; exact hS_) hQ qsN qsD)
    (rightE Q0 (abs_le hNn (by decide)) Q9 qnN qnD) (rightE Q0 (abs_le hL (by decide)) Q9 qlN qlD) (rightE Q0 (abs_le hH (by decide)) Q9 qgN qgD) (rightE Q0 (abs_le hSs (by decide)) Q9 qsN qsD) (rightE Q0 (abs_le hOo (by decide)) Q9 qcN qcD) hzf
    (fun hz => scaledE ge (abs_le bfr (by decide)) (abs_le bfi (by decide)) (hFz zf hzf hz) (abs_le bfr (by decide)) (abs_le bfi (by decide)) rfl rfl rfl rfl rfl rfl (hEF (hFz zf hzf hz)))
    (fun hz => needleE (hEF (hFz zf hzf hz)) (by rw [fl, fh, ← hN_, Int.sub_mul]) fq ((lowN_scale _ _ _ (hFd zf hzf hz)).trans qnN) ((lowD_scale _ _ _ (hFd zf hzf hz)).trans qnD))
    (fun hz => depthsE (hEF (hFz zf hzf hz)) fl fh fq ((lowN_scale _ _ _ (hFd zf hzf hz)).trans qlN) ((lowD_scale _ _ _ (hFd zf hzf hz)).trans qlD) ((lowN_scale _ _ _ (hFd zf hzf hz)).trans qgN) ((lowD_scale _ _ _ (hFd zf hzf hz)).trans qgD))
    (fun hz => sumE (hEF (hFz zf hzf hz)) (by rw [fl, fh, ← hS_, Int.add_mul]) fq ((lowN_scale _ _ _ (hFd zf hzf hz)).trans qsN) ((lowD_scale _ _ _ (hFd zf hzf hz)).trans qsD))
    ⟨rfl, rfl, rfl, rfl, rfl, rfl⟩ ⟨rfl, rfl, rfl, rfl, rfl, rfl⟩
    (fun k hk W hW => turnedE (hET k) (rot_next a b k hk).1 (rot_next a b k hk).2 (rot_next c d k hk).1 (rot_next c d k hk).2 (rot_next x y k hk).1 (rot_next x y k hk).2 W hW)
    (fun k hk => needleE (hET (k + 1)) (by rw [rot_dot, rot_dot, hL_, hH_]; exact hN_) (by rw [rot_dot]; exact hQ) qnN qnD)
    (scaledE ge (by decide) (by decide) (by decide) (abs_le bby (by decide)) (by decide) (one_re a b) (one_im a b) (t_re c d by0) (t_im c d by0) (t_re x y by0) (t_im x y by0) hEB)
    (needleE hEB (by rw [← hN_, ← hL_, ← hH_]; exact t_dot a b c d x y by0) hQ qmN qmD)
    (needleE hEX (by rw [hL_, hH_]; exact hXX) hQ t7.1 t7.2)
    (wr_abs k1) (by rw [show -nN = 0 - nN from (Int.zero_sub nN).symm]; exact wr_abs kx) (wr_abs k2) (wr_abs k3) (wr_abs k4) (wr_abs k5) (wr_abs k6)
    (lowestE (bd_abs k1) (big _ pnD (abs_le bnD (by decide))) t1.1 t1.2) (lowestE (bd_abs k4) (big _ p5 k5) t4.1 t4.2) (lowestE (bd_abs k6) (big _ plD (abs_le blD (by decide))) t2.1 t2.2)
    (needleE oe hO_ hQ qcN qcD) (addedE ge oe rfl rfl rfl rfl rfl rfl hEU)
    (needleE hEU (by rw [← hN_, ← hL_, ← hH_, ← hO_]; exact two_dot a b c d x y p q r u) (by rw [← hQ]; exact two_sq a b) qzN qzD)
    (wr_abs j1) (wr_abs j2) (wr_abs j3) (wr_abs j4) (wr_abs j5)
    (lowestE (bd_abs j3) (big _ p6 j5) t6.1 t6.2)
end Go.Proofs.YtaeebedchbkniaaGreatDoor
