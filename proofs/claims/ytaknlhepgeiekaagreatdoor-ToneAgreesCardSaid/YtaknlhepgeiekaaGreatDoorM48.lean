import Derived.Test.YtaknlhepgeiekaaGreatDoorM46
namespace Go.Proofs.YtaknlhepgeiekaaGreatDoor
set_option linter.all false
open Go.RowKit Go.Fl
def yNf (LA : List Sg) (k : Nat) : Int := if h : k < LA.length then lowN (nS LA[k]) (qS LA[k]) else 0
def yDf (LA : List Sg) (k : Nat) : Int := if h : k < LA.length then lowD (nS LA[k]) (qS LA[k]) else 0
theorem yNf_at {LA : List Sg} {k : Nat} (h : k < LA.length) : yNf LA k = lowN (nS LA[k]) (qS LA[k]) := dif_pos h
theorem yDf_at {LA : List Sg} {k : Nat} (h : k < LA.length) : yDf LA k = lowD (nS LA[k]) (qS LA[k]) := dif_pos h
theorem zs_at {LA : List Sg} {k : Nat} (h : k < LA.length) : (LA.map sgn).getD k 1 = sgn LA[k] := by simp [h]
theorem zs_three (LA : List Sg) (k : Nat) : (LA.map sgn).getD k 1 = -1 ∨ (LA.map sgn).getD k 1 = 0 ∨ (LA.map sgn).getD k 1 = 1 := by
 by_cases h : k < LA.length
 · rw [zs_at h]; exact sgn_cases _
 · right; right; simp [h]
theorem low_sgn {n q p r : Int} (hq : 0 < q) (hp : lowN n q = p) : (if p * 1 < 0 * r then (-1 : Int) else if p * 1 > 0 * r then 1 else 0) = cmpI n 0 := by
 have m := lowN_mul (n := n) hq; have g := gcdI_pos (n := n) hq
 rw [hp] at m
 rw [Int.mul_one, Int.zero_mul]
 unfold cmpI
 by_cases h1 : p < 0
 · have : n < 0 := by rw [← m]; exact Int.mul_neg_of_neg_of_pos h1 g
   rw [if_pos h1, if_pos this]
 · by_cases h2 : 0 < p
   · have : 0 < n := by rw [← m]; exact Int.mul_pos h2 g
     rw [if_neg h1, if_pos h2, if_neg (by omega), if_pos this]
   · have h3 : p = 0 := by omega
     have : n = 0 := by rw [← m, h3, Int.zero_mul]
     rw [if_neg h1, if_neg h2, if_neg (by omega), if_neg (by omega)]
theorem sgC_one (L : List Sg) : ∀ u ∈ sgC L, u.oneCell' = true := by
 intro u hu
 unfold sgC at hu
 obtain ⟨s, _, hs⟩ := List.mem_flatMap.1 hu
 unfold Sg.L at hs
 simp only [List.mem_cons, List.not_mem_nil, or_false] at hs
 rcases hs with rfl | rfl | rfl | rfl | rfl | rfl <;> rfl
theorem sgC_lenA : ∀ L : List Sg, (sgC L).length = L.length * 6
 | [] => rfl
 | s :: L => by
   have h := sgC_lenA L
   unfold sgC at h ⊢
   rw [List.flatMap_cons, List.length_append, h, List.length_cons]
   show 6 + L.length * 6 = _
   omega
set_option maxRecDepth 100000 in
set_option maxHeartbeats 4000000 in
theorem toneAgrees_any (a b c d x y k l m n u v bd : Int) (M : Option Addr) (cM : Nat) (L : List Sg) (w : World) (hA : AwT w) (hb : 0 ≤ bd ∧ bd ≤ 65535) (hcM : M = none → cM = 0) (hL : Rd w M (sgC L)) : Calls Tryz.prog 4 #[.agg #[.int .i64 a, .int .i64 b, .int .i64 c, .int .i64 d, .int .i64 x, .int .i64 y], .agg #[.int .i64 k, .int .i64 l, .int .i64 m, .int .i64 n, .int .i64 u, .int .i64 v], .agg #[.int .u16 bd, .slice M L.length cM]] w fun e w' => e = .returned (.bool true) ∧ Below w.heap.size w w' := by
 have near1 := fun W => near_any a b c d x y 1000 W (by decide)
 have near2 := fun W => near_any k l m n u v 1000 W (by decide)
 cases h1 : nearB 1000 a b c d x y
 · rw [h1] at near1
   exact agrees_out1 a b c d x y k l m n u v bd M L.length cM (sgC L) _ w hA hL near1 near2
 rw [h1] at near1
 cases h2 : nearB 1000 k l m n u v
 · rw [h2] at near2
   exact agrees_out2 a b c d x y k l m n u v bd M L.length cM (sgC L) w hA hL near1 near2
 rw [h2] at near2
 by_cases h8 : 8 < L.length
 · exact agrees_out3 a b c d x y k l m n u v bd M L.length cM (sgC L) w hA hL near1 near2 h8
 have g := nk_good h1; have o := nk_good h2
 clear h1 h2
 obtain ⟨b1, hb1⟩ : ∃ b1, bd.tmod 9001 = b1 := ⟨_, rfl⟩
 have bb : 0 ≤ b1 ∧ b1 ≤ 9000 := by
  rw [Int.tmod_eq_emod_of_nonneg hb.1] at hb1
  omega
 obtain ⟨t, ht_⟩ : ∃ t, 1000 + b1 = t := ⟨_, rfl⟩
 have ht : 1000 ≤ t ∧ t ≤ 10000 := by omega
 have hw1 : IntKind.i64.wrap bd = bd := IntWalk.i64_in _ (by omega)
 have hw3 : wrap64 (1000 + b1) = t := by rw [ht_]; unfold wrap64; omega
 clear hb bb ht_
 have ge := g.e; have oe := o.e; have hEt := g.et; have hEs := g.es
 have Q0 := g.q; have P0 := o.q; have bN := g.n; have bM := o.n
 obtain ⟨Q, hQ⟩ : ∃ z, a * a + b * b = z := ⟨_, rfl⟩
 obtain ⟨N, hN⟩ : ∃ z, c * a + d * b - (x * a + y * b) = z := ⟨_, rfl⟩
 obtain ⟨P, hP⟩ : ∃ z, k * k + l * l = z := ⟨_, rfl⟩
 obtain ⟨O, hO⟩ : ∃ z, m * k + n * l - (u * k + v * l) = z := ⟨_, rfl⟩
 rw [hQ] at Q0
 rw [hN] at bN
 rw [hP] at P0
 rw [hO] at bM
 clear g o
 have tQ : -b * -b + a * a = Q := by rw [← hQ]; grind
 have tN : -d * -b + c * a - (-y * -b + x * a) = N := by rw [← hN]; grind
 have sQ : a * 2 * (a * 2) + b * 2 * (b * 2) = 4 * Q := by rw [← hQ]; grind
 have sN : c * 2 * (a * 2) + d * 2 * (b * 2) - (x * 2 * (a * 2) + y * 2 * (b * 2)) = 4 * N := by rw [← hN]; grind
 have q0 := Q0.1; have p0 := P0.1
 have mp := mix_pos (n := N) (m := O) (t := t) q0 p0
 have mb := mix_bnd (n := N) (m := O) (t := t) (Q := Q) (P := P) (by omega) (by omega) (by omega) (by omega)
 obtain ⟨uN, quN⟩ : ∃ z, lowN N Q = z := ⟨_, rfl⟩
 obtain ⟨uD, quD⟩ : ∃ z, lowD N Q = z := ⟨_, rfl⟩
 obtain ⟨vN, qvN⟩ : ∃ z, lowN O P = z := ⟨_, rfl⟩
 obtain ⟨vD, qvD⟩ : ∃ z, lowD O P = z := ⟨_, rfl⟩
 obtain ⟨nN, qnN⟩ : ∃ z, lowN (mixA N Q O P t).1 (mixA N Q O P t).2 = z := ⟨_, rfl⟩
 obtain ⟨nD, qnD⟩ : ∃ z, lowD (mixA N Q O P t).1 (mixA N Q O P t).2 = z := ⟨_, rfl⟩
 obtain ⟨bu1, bu2, pu⟩ := low_bndM q0 (by omega) (by omega) quN quD
 obtain ⟨bv1, bv2, pv⟩ := low_bndM p0 (by omega) (by omega) qvN qvD
 obtain ⟨bn1, bn2, pn⟩ := low_bndM mp (Int.le_trans mb.1 (by decide)) (abs_le mb.2 (by decide)) qnN qnD
 obtain ⟨K, hK⟩ : ∃ K, capI Q P t = K := ⟨_, rfl⟩
 obtain ⟨KW, hKW⟩ : ∃ K, capI Q P 10000 = K := ⟨_, rfl⟩
 have hKK := mix_K hK qnN qnD quN quD qvN qvD
 have hKW2 : KW = 2 ∨ KW = K := by rw [← hK, ← hKW]; exact cap_wide q0 p0 ht
 have same1 := mix_same (n := N) (m := N) (t := t) q0 q0 rfl
 have same2 := mix_same (n := 4 * N) (m := N) (t := t) (Q := 4 * Q) (P := Q) (by omega) q0 (by rw [Int.mul_assoc, Int.mul_left_comm])
 have f4 : lowN (4 * N) (4 * Q) = uN ∧ lowD (4 * N) (4 * Q) = uD := by
  rw [Int.mul_comm 4 N, Int.mul_comm 4 Q, lowN_scale _ _ _ (by decide), lowD_scale _ _ _ (by decide)]
  exact ⟨quN, quD⟩
 -- the signals with those beside them
 obtain ⟨LA, hLA⟩ : ∃ LA : List Sg, LA = ⟨a, b, c, d, x, y⟩ :: ⟨k, l, m, n, u, v⟩ :: L := ⟨_, rfl⟩
 have hLen : LA.length = 2 + L.length := by rw [hLA, List.length_cons, List.length_cons]; omega
 have hm2 : LA.length ≤ 1000000 := by omega
 have hSA : ([.int .i64 a, .int .i64 b, .int .i64 c, .int .i64 d, .int .i64 x, .int .i64 y, .int .i64 k, .int .i64 l, .int .i64 m, .int .i64 n, .int .i64 u, .int .i64 v] : List Value) ++ sgC L = sgC LA := by rw [hLA]; rfl
 clear hLA
 have hzl : (LA.map sgn).length = 2 + L.length := by rw [List.length_map]; exact hLen
 have hCA : ∀ As cs W, Rd W As (sgC LA) → Calls Tryz.prog 26 #[.slice As (2 + L.length) cs] W fun e w' => e = .returned (.int .i64 (sgsE LA)) ∧ Below W.heap.size W w' := fun As cs W hW => by
  have h := checkSignalsR_any As cs LA W hW hm2
  rw [hLen] at h
  exact h
 have hSg : ∀ As cs W, Rd W As (sgC LA) → Calls Tryz.prog 14 #[.slice As (2 + L.length) cs] W fun e w' => ∃ At ct, e = .returned (.slice At (2 + L.length) ct) ∧ Rd w' At (sgC LA) ∧ Below W.heap.size W w' := fun As cs W hW => by
  have h := signals_any As cs LA W hW hm2
  rw [hLen] at h
  exact h.mono fun e w' ⟨z, h1, h2, h3⟩ => by
   obtain ⟨At, ct, rfl, hr⟩ := owned_sliceT h2
   exact ⟨At, ct, h1, hr, h3⟩
 have hCr : sgsE LA = 0 → ∀ As cs W, Rd W As (sgC LA) → Calls Tryz.prog 27 #[.slice As (2 + L.length) cs] W fun e w' => ∃ Ax cx, e = .returned (.tuple #[.slice Ax (crS (LA.map sgn) (LA.map sgn).length).length cx, .int .i64 0]) ∧ Rd w' Ax (spanC (crS (LA.map sgn) (LA.map sgn).length)) ∧ Below W.heap.size W w' := fun h0 As cs W hW => by
  obtain ⟨g1, g2, g3⟩ := sgs_good h0
  have h := crossings_ok (sgsE LA) As cs LA W hW hm2 rfl h0 g3 ⟨g1, g2⟩
  rw [hLen] at h
  exact h.mono fun e w' ⟨A2, c2, S, h1, h2, h3, h4, h5⟩ => by
   have e1 : S = crS (LA.map sgn) (LA.map sgn).length := crossings_same (LA.map sgn) S (by rw [List.length_map, hLen]; exact h2) h3
   rw [e1] at h1 h4
   exact ⟨A2, c2, h1, h4, h5⟩
 have hNd : sgsE LA = 0 → ∀ (j : Nat) (h : j < LA.length) W, Calls Tryz.prog 21 #[.agg #[.int .i64 LA[j].a, .int .i64 LA[j].b, .int .i64 LA[j].c, .int .i64 LA[j].d, .int .i64 LA[j].x, .int .i64 LA[j].y]] W fun e w' => e = .returned (.tuple #[.agg #[.int .i64 (yNf LA j), .int .i64 (yDf LA j)], .int .i64 0]) ∧ Below W.heap.size W w' := fun h0 j h W =>
  needleE (sgs_each h0 _ (List.getElem_mem h)) rfl rfl (yNf_at h).symm (yDf_at h).symm W
 have hCz : sgsE LA = 0 → ∀ (j : Nat) (h : j < LA.length) W, Calls Tryz.prog 23 #[.agg #[.int .i64 (yNf LA j), .int .i64 (yDf LA j)], .agg #[.int .i64 0, .int .i64 1]] W fun e w' => e = .returned (.int .i64 ((LA.map sgn).getD j 1)) ∧ Below W.heap.size W w' := fun h0 j h W => by
  have hg := (sgs_good h0).2.2 _ (List.getElem_mem h)
  have hbd := sg_bd hg
  have hq : 0 < qS LA[j] := hbd.2.2.1
  obtain ⟨i1, i2, i3⟩ := low_bndM hq (by have := hbd.2.2.2; omega) (by have := hbd.1; omega) (yNf_at h).symm (yDf_at h).symm
  exact compareE i1 i2 (by decide) (by decide) ((low_sgn hq (yNf_at h).symm).trans (zs_at h).symm) W
 have law := fun (pN pD qN qD cuv : Int) (zS : Bool) hC1 hzS hS1 hS2 hC2 hc2 hC3 hc3 => agrees_law a b c d x y k l m n u v bd b1 t K KW nN nD uN uD vN vD pN pD qN qD cuv (if nN * pD < pN * nD then -1 else if nN * pD > pN * nD then 1 else 0) (if nN * qD < qN * nD then -1 else if nN * qD > qN * nD then 1 else 0) (-b) a (-d) c (-y) x (a * 2) (b * 2) (c * 2) (d * 2) (x * 2) (y * 2) (sgsE LA) M L.length cM (sgC L) LA (crS (LA.map sgn) (LA.map sgn).length) (LA.map sgn) (yNf LA) (yDf LA) zS w hA hL near1 near2 (by omega) hw1 hb1 hw3
  (capE ge oe ht hQ hP hK) (mixE ge oe ht hN hQ hO hP qnN qnD) (needleE ge hN hQ quN quD) (needleE oe hO hP qvN qvD) (capE ge oe ⟨by decide, by decide⟩ hQ hP hKW)
  (rightE mp (by have := mb.2; omega) (by have := mb.1; omega) qnN qnD) (rightE q0 (by omega) (by omega) quN quD) (rightE p0 (by omega) (by omega) qvN qvD)
  hKK hKW2 hC1 hzS hS1 hS2 hC2 hc2 hC3 hc3
  (fun W hW => turnedE ge rfl rfl rfl rfl rfl rfl W hW) (mixE ge hEt ht hN hQ tN tQ (same1.1.trans quN) (same1.2.trans quD))
  (scaledE ge (by decide) (by decide) (by decide) (by decide) (by decide) (t_re a b 2) (t_im a b 2) (t_re c d 2) (t_im c d 2) (t_re x y 2) (t_im x y 2) hEs) (mixE hEs ge ht sN sQ hN hQ (same2.1.trans f4.1) (same2.2.trans f4.2))
  hcM (sgC_lenA L) (sgC_one L) hSA hLen hCA hSg hCr (by have := crS_le (LA.map sgn); omega) rfl hzl (zs_three LA) hNd hCz
 have lu := low_lt (a := O) (b := P) (c := N) (d := Q) p0 q0
 have lv := low_lt (a := N) (b := Q) (c := O) (d := P) q0 p0
 rw [quN, quD, qvN, qvD] at lu lv
 have l1 := low_lt (a := (mixA N Q O P t).1) (c := N) (d := Q) mp q0
 have l2 := low_lt (c := (mixA N Q O P t).1) (a := N) (b := Q) q0 mp
 have l3 := low_lt (a := (mixA N Q O P t).1) (c := O) (d := P) mp p0
 have l4 := low_lt (c := (mixA N Q O P t).1) (a := O) (b := P) p0 mp
 rw [qnN, qnD, quN, quD] at l1 l2
 rw [qnN, qnD, qvN, qvD] at l3 l4
 by_cases hc : vN * uD < uN * vD
 · have md := mix_down (n := N) (Q := Q) (m := O) (P := P) (t := t) (fun h => by have := lv.2 h; omega)
   exact law vN vD uN uD 1 true (compareE bu1 bu2 bv1 bv2 (by rw [if_neg (by omega), if_pos hc])) rfl (fun h => absurd h (by decide)) (fun _ => ⟨rfl, rfl, rfl, rfl⟩)
    (compareE bn1 bn2 bv1 bv2 rfl) (cmp_ge (fun h => md.1 (l3.1 h))) (compareE bn1 bn2 bu1 bu2 rfl) (cmp_le (fun h => md.2 (l2.1 h)))
 · have mu := mix_up (n := N) (Q := Q) (m := O) (P := P) (t := t) (fun h => hc (lu.2 h))
   exact law uN uD vN vD (if uN * vD < vN * uD then -1 else if uN * vD > vN * uD then 1 else 0) false (compareE bu1 bu2 bv1 bv2 rfl) (decide_eq_false (cmp_le hc)) (fun _ => ⟨rfl, rfl, rfl, rfl⟩) (fun h => absurd h (by decide))
    (compareE bn1 bn2 bu1 bu2 rfl) (cmp_ge (fun h => mu.1 (l1.1 h))) (compareE bn1 bn2 bv1 bv2 rfl) (cmp_le (fun h => mu.2 (l4.1 h)))
end Go.Proofs.YtaknlhepgeiekaaGreatDoor
