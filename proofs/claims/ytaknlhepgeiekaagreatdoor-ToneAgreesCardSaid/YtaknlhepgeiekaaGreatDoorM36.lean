import Derived.Shelf.SlSortCmp.WholeK
import Derived.Shelf.SlSortCmp.NoneTotal
import Derived.Test.YtaknlhepgeiekaaGreatDoorM20
import Derived.Test.YtaknlhepgeiekaaGreatDoorM35
import Derived.Test.YtaknlhepgeiekaaGreatDoorM47
namespace Go.Proofs.YtaknlhepgeiekaaGreatDoor
set_option linter.all false
open Go.RowKit Go.Fl
set_option maxRecDepth 100000
set_option maxHeartbeats 1000000
def encS (p : Int × Int) : List Value := [.int .i64 p.1, .int .i64 p.2]
def cfS (p q : Int × Int) : Int := cmpI p.1 q.1
theorem ltS (x y : Int × Int) : ltOf cfS x y = decide (x.1 < y.1) := by
 unfold ltOf cfS cmpI
 by_cases h1 : x.1 < y.1
 · simp [h1]
 · by_cases h2 : y.1 < x.1 <;> simp [h1, h2]
theorem swoS : Go.Sort.SWO (ltOf cfS) where
 irrefl x := by rw [ltS]; simp
 trans x y z h1 h2 := by rw [ltS] at *; simp at *; omega
 ntrans x y z h1 h2 := by rw [ltS] at *; simp at *; omega
theorem isNaNI_any (a : Int) (w : World) : Calls Tryz.prog 130 #[.int .i64 a] w fun e w' => e = .returned (.bool false) ∧ w = w' := by
 go_enter Tryz.func130, Tryz.ntmps130
 go_wp2
 go_ret
 exact ⟨by simp, rfl⟩
theorem cmpInt_any (a b : Int) (w : World) : Calls Tryz.prog 81 #[.int .i64 a, .int .i64 b] w fun e w' => e = .returned (.int .i64 (cmpI a b)) ∧ w = w' := by
 rcases Int.lt_trichotomy a b with h | h | h
 · have HR : Hid (cmpI a b = -1) := by unfold Hid cmpI; rw [if_pos h]
   go_enter Tryz.func81, Tryz.ntmps81
   go_wp2_with (go_at_call 130; refine (isNaNI_any _ _).mono ?_; rintro e w2 ⟨rfl, rfl⟩)
   go_ret
   exact ⟨by rw [HR.out]; rfl, rfl⟩
 · have HR : Hid (cmpI a b = 0) := by unfold Hid cmpI; rw [if_neg (by omega), if_neg (by omega)]
   have h1 : ¬ a < b := by omega
   have h2 : ¬ b < a := by omega
   clear h
   go_enter Tryz.func81, Tryz.ntmps81
   go_wp2_with (go_at_call 130; refine (isNaNI_any _ _).mono ?_; rintro e w2 ⟨rfl, rfl⟩)
   go_ret
   exact ⟨by rw [HR.out]; rfl, rfl⟩
 · have HR : Hid (cmpI a b = 1) := by unfold Hid cmpI; rw [if_neg (by omega), if_pos h]
   have h1 : ¬ a < b := by omega
   go_enter Tryz.func81, Tryz.ntmps81
   go_wp2_with (go_at_call 130; refine (isNaNI_any _ _).mono ?_; rintro e w2 ⟨rfl, rfl⟩)
   go_ret
   exact ⟨by rw [HR.out]; rfl, rfl⟩
theorem crossings3_any (p q : Int × Int) (W : World) : Calls Tryz.prog 80 #[.agg #[.int .i64 p.1, .int .i64 p.2], .agg #[.int .i64 q.1, .int .i64 q.2]] W fun e w' => e = .returned (.int .i64 (cfS p q)) ∧ ∃ m os', w' = Go.Sort.grow (W.drewN m) os' := by
 have HC := Lib.hid (fun V => cmpInt_any p.1 q.1 V)
 unfold cfS
 obtain ⟨r, hr⟩ : ∃ r, r = cmpI p.1 q.1 := ⟨_, rfl⟩
 rw [← hr] at HC ⊢
 clear hr
 go_enter Tryz.func80, Tryz.ntmps80
 go_wp2_with (go_at_call 81; refine (HC.out _).mono ?_; rintro e w' ⟨rfl, rfl⟩)
 go_ret
 exact ⟨rfl, 0, _, by rw [Go.Sort.alloc_eq_grow, Go.Sort.alloc_eq_grow, Go.Sort.grow_grow]; rfl⟩
theorem grownBy_sortT {w : World} {g n : Nat} {os : Array Obj} (d : Array (Int × Int)) : w.grownBy (sortWorldK encS 2 w g 0 n d os) (some g) := by
 unfold sortWorldK
 refine ⟨rfl, rfl, rfl, by simp [Go.Sort.putRowK, Go.Sort.grow], fun k hk hne => ?_⟩
 rw [Go.Sort.heap_grow_old _ _ (by simpa [Go.Sort.putRowK] using hk)]
 have : g ≠ k := fun e => hne (by rw [e])
 simp [Go.Sort.putRowK, Go.Sort.putRow, Go.Sort.mapBlock, Go.Sort.ahead, Array.getElem?_modify, this]
theorem spanC_flat (l : List (Int × Int)) : spanC l = l.flatMap encS := rfl
theorem isAggS (w : World) : (isAgg 77).run Tryz.prog w = .ok true w := by kernel_rfl
theorem sizeOfS (w : World) : (sizeOf 77).run Tryz.prog w = .ok 2 w := by kernel_rfl
theorem sortS_any (B : Nat) (A : Option Addr) (c : Nat) (l : List (Int × Int)) (W : World) (hown : W.ownsRow B 77 2 (.slice A l.length c) l.length (spanC l)) (hm : l.length ≤ 1000) : Calls Tryz.prog 79 #[.slice A l.length c, .func (.func 80) #[] #[]] W fun e w' => e = .returned (.tuple #[]) ∧ ∃ S : List (Int × Int), S.Perm l ∧ S.Pairwise (fun a b => a.1 ≤ b.1) ∧ Rd w' A (spanC S) ∧ Below B W w' := by
 rcases Nat.eq_zero_or_pos l.length with h0 | h0
 · obtain rfl : l = [] := List.eq_nil_of_length_eq_zero h0
   refine (AnyF.slices_SortFunc_none Tryz.sortSp A c (.func (.func 80) #[] #[]) W).mono ?_
   rintro e w' ⟨rfl, rfl⟩
   exact ⟨rfl, [], List.Perm.nil, List.Pairwise.nil, fun j v hv => (by cases hv), Below.refl _ _⟩
 obtain ⟨g, cap, e, hBg, hg⟩ := ownsRow.addr hown h0
 cases e
 have hH : Go.Sort.HoldsK encS 2 W g 0 l.toArray := by
  intro j hj
  rw [Go.Sort.size_flatK] at hj
  have hj2 : j < l.length * 2 := by simpa using hj
  refine ⟨?_, hown.frozenAt _⟩
  rw [hown.cellAt _ (by omega), Nat.zero_add, spanC_flat]
  have h2 := flat_getS encS 2 (fun _ => rfl) l (j / 2) (by omega) (j % 2) (Nat.mod_lt _ (by decide))
  rw [show j / 2 * 2 + j % 2 = j by omega] at h2
  rw [h2, Go.Sort.get_flatK _ _ _ _ hj]
  have e1 : l.toArray[j / 2]! = l[j / 2]'(by omega) := by simp [getElem!_pos, show j / 2 < l.length by omega]
  rw [e1]
  rcases Nat.mod_two_eq_zero_or_one j with h | h <;> rw [h] <;> rfl
 have hcon := AnyQ.slices_SortFunc Tryz.sortSp 2 isAggS sizeOfS encS (fun _ => rfl) (fun x v hv => by simp [encS] at hv; rcases hv with rfl | rfl <;> rfl) cfS swoS 80 #[] g 0 c l.toArray W (enters_of Tryz.func80 (by kernel_rfl) rfl) (fun _ _ _ _ x y => crossings3_any x y _) hH hg (by simp; omega)
 refine hcon.mono ?_
 rintro e w' ⟨rfl, d', n, os, hp, hs, rfl⟩
 have hsz : d'.size = l.length := by have := hp.1; simpa using this
 have hH2 := holdsK_sortWorldK_c encS 2 W g 0 l.toArray d' n os hH hg (by simpa using hsz)
 refine ⟨rfl, d'.toList, ?_, ?_, ?_, (Below.refl B W).grown (grownBy_sortT d') (by omega) (fun k e => by cases e; exact hBg)⟩
 · have h := hp.2.2
   have e1 : (d'.extract 0 l.toArray.size).toList = d'.toList := by simp [← hsz]
   have e2 : (l.toArray.extract 0 l.toArray.size).toList = l := by simp
   rw [e1, e2] at h; exact h
 · rw [List.pairwise_iff_getElem]
   intro i j hi hj hij
   have h := hs i j (Nat.zero_le _) hij (by simp at hj ⊢; omega)
   rw [ltS] at h
   simp only [decide_eq_false_iff_not, Array.length_toList] at h hi hj
   have e1 : d'[i]! = d'[i] := by simp [getElem!_pos, hi]
   have e2 : d'[j]! = d'[j] := by simp [getElem!_pos, hj]
   rw [e1, e2] at h
   simp only [Array.getElem_toList]
   omega
 · intro j v hv
   refine ⟨g, 0, rfl, ?_⟩
   have hj : j < d'.size * 2 := by have := (List.getElem?_eq_some_iff.1 hv).1; rw [spanC_length] at this; simpa using this
   have h := hH2.cell (i := j / 2) (c := j % 2) (by omega) (Nat.mod_lt _ (by decide))
   have e3 : 0 + j / 2 * 2 + j % 2 = 0 + j := by omega
   rw [e3] at h
   rw [h.1]
   rw [spanC_flat] at hv
   have h2 := flat_getS encS 2 (fun _ => rfl) d'.toList (j / 2) (by simp; omega) (j % 2) (Nat.mod_lt _ (by decide))
   rw [show j / 2 * 2 + j % 2 = j by omega, hv] at h2
   have e1 : d'[j / 2]! = d'[j / 2]'(by omega) := by simp [getElem!_pos, show j / 2 < d'.size by omega]
   rw [h2, e1]
   simp only [Array.getElem_toList]
   rcases Nat.mod_two_eq_zero_or_one j with h | h <;> rw [h] <;> rfl
theorem crossings_ok (E : Int) (A : Option Addr) (c : Nat) (L : List Sg) (w : World) (hA : Rd w A (sgC L)) (hL : L.length ≤ 1000000) (hE : E = sgsE L) (h0 : E = 0) (hg : ∀ s ∈ L, SigG s.a s.b s.c s.d s.x s.y) (hn : 0 < L.length ∧ L.length ≤ 256) : Calls Tryz.prog 27 #[.slice A L.length c] w fun e w' => ∃ A2 c2 S, e = .returned (.tuple #[.slice A2 S.length c2, .int .i64 0]) ∧ S.Perm (spL (fun k => (L.map sgn).getD k 1 == 0) L.length ++ crL (L.map sgn) L.length) ∧ S.Pairwise (fun a b : Int × Int => a.1 ≤ b.1) ∧ Rd w' A2 (spanC S) ∧ Below w.heap.size w w' :=
 crossings_of E A c L w hA hL hE h0 hg hn sortS_any
structure Nk (a b c d x y : Int) : Prop where
 e : sigE a b c d x y = 0
 a : a.natAbs ≤ 1000
 b : b.natAbs ≤ 1000
 c : c.natAbs ≤ 1000
 d : d.natAbs ≤ 1000
 x : x.natAbs ≤ 1000
 y : y.natAbs ≤ 1000
theorem nk_good {a b c d x y : Int} (h : nearB 1000 a b c d x y = true) : Nk a b c d x y := by
 unfold nearB at h
 simp only [Bool.and_eq_true, decide_eq_true_eq] at h
 obtain ⟨⟨⟨h1, h2, h3⟩, h4, h5⟩, h6, h7⟩ := h
 exact ⟨h1, inB_abs (by decide) h2, inB_abs (by decide) h3, inB_abs (by decide) h4, inB_abs (by decide) h5, inB_abs (by decide) h6, inB_abs (by decide) h7⟩
theorem Nk.nz {a b c d x y : Int} (g : Nk a b c d x y) : ¬ (a = 0 ∧ b = 0) := (sig_good g.e).pn
theorem Nk.q {a b c d x y : Int} (g : Nk a b c d x y) : 0 < a * a + b * b ∧ a * a + b * b ≤ 2000000 := by
 have h := sq_pos g.nz; have h1 := mulB g.a g.a; have h2 := mulB g.b g.b
 omega
theorem Nk.n {a b c d x y : Int} (g : Nk a b c d x y) : (c * a + d * b - (x * a + y * b)).natAbs ≤ 4000000 := by
 have h1 := mulB g.c g.a; have h2 := mulB g.d g.b; have h3 := mulB g.x g.a; have h4 := mulB g.y g.b
 omega
theorem Nk.et {a b c d x y : Int} (g : Nk a b c d x y) : sigE (-b) a (-d) c (-y) x = 0 := by
 have hn := g.nz
 obtain ⟨-, ha, hb, hc, hd, hx, hy⟩ := id g
 exact sig_of (by omega) (by omega) (by omega) (by omega) (by omega) (by omega) (by omega)
theorem Nk.es {a b c d x y : Int} (g : Nk a b c d x y) : sigE (a * 2) (b * 2) (c * 2) (d * 2) (x * 2) (y * 2) = 0 := by
 have hn := g.nz
 obtain ⟨-, ha, hb, hc, hd, hx, hy⟩ := id g
 exact sig_of (by omega) (by omega) (by omega) (by omega) (by omega) (by omega) (by omega)
theorem low_bndM {n q p r : Int} (Q0 : 0 < q) (hq : q ≤ 1000000000) (hn : n.natAbs ≤ 1000000000) (hp : lowN n q = p) (hr : lowD n q = r) : p.natAbs ≤ 1000000000 ∧ r.natAbs ≤ 1000000000 ∧ 0 < r := by
 subst hp hr
 have h1 := lowN_abs n q Q0; have h2 := lowD_le n q Q0; have h3 := lowD_pos (n := n) Q0
 omega
theorem low_lt {a b c d : Int} (hb : 0 < b) (hd : 0 < d) : lowN a b * lowD c d < lowN c d * lowD a b ↔ a * d < c * b := by
 have g1 := gcdI_pos (n := a) hb; have g2 := gcdI_pos (n := c) hd
 have m1 := lowN_mul (n := a) hb; have m2 := lowD_mul (n := a) hb; have m3 := lowN_mul (n := c) hd; have m4 := lowD_mul (n := c) hd
 obtain ⟨A, hA⟩ : ∃ A, A = lowN a b := ⟨_, rfl⟩
 obtain ⟨B, hB⟩ : ∃ B, B = lowD a b := ⟨_, rfl⟩
 obtain ⟨C, hC⟩ : ∃ C, C = lowN c d := ⟨_, rfl⟩
 obtain ⟨D, hD⟩ : ∃ D, D = lowD c d := ⟨_, rfl⟩
 obtain ⟨G, hG⟩ : ∃ G, G = gcdI a b := ⟨_, rfl⟩
 obtain ⟨H, hH⟩ : ∃ H, H = gcdI c d := ⟨_, rfl⟩
 rw [← hA, ← hG] at m1
 rw [← hB, ← hG] at m2
 rw [← hC, ← hH] at m3
 rw [← hD, ← hH] at m4
 rw [← hG] at g1
 rw [← hH] at g2
 rw [← hA, ← hB, ← hC, ← hD]
 clear hA hB hC hD hG hH
 have e1 : a * d = A * D * (G * H) := by rw [← m1, ← m4]; ac_rfl
 have e2 : c * b = C * B * (G * H) := by rw [← m3, ← m2]; ac_rfl
 have p := Int.mul_pos g1 g2
 rw [e1, e2]
 exact ⟨fun h => Int.mul_lt_mul_of_pos_right h p, fun h => Int.lt_of_mul_lt_mul_right h (Int.le_of_lt p)⟩
def mixA (n Q m P t : Int) : Int × Int := if capI Q P t = 0 then (n, Q) else if capI Q P t = 1 then (m, P) else (n + m, Q + P)
theorem cap_cases (Q P t : Int) : capI Q P t = 0 ∨ capI Q P t = 1 ∨ capI Q P t = 2 := by unfold capI; split; exact .inl rfl; split; exact .inr (.inl rfl); exact .inr (.inr rfl)
theorem cap_wide {Q P t : Int} (Q0 : 0 < Q) (P0 : 0 < P) (ht : 1000 ≤ t ∧ t ≤ 10000) : capI Q P 10000 = 2 ∨ capI Q P 10000 = capI Q P t := by
 have a1 := Int.mul_le_mul_of_nonneg_left ht.1 (Int.le_of_lt Q0); have a2 := Int.mul_le_mul_of_nonneg_left ht.2 (Int.le_of_lt Q0)
 have b1 := Int.mul_le_mul_of_nonneg_left ht.1 (Int.le_of_lt P0); have b2 := Int.mul_le_mul_of_nonneg_left ht.2 (Int.le_of_lt P0)
 unfold capI
 obtain ⟨X, hX⟩ : ∃ X, X = Q * t := ⟨_, rfl⟩
 obtain ⟨Y, hY⟩ : ∃ Y, Y = P * t := ⟨_, rfl⟩
 rw [← hX] at a1 a2 ⊢
 rw [← hY] at b1 b2 ⊢
 by_cases c1 : P * 10000 ≤ Q * 1000
 · rw [if_pos c1, if_pos (show Y ≤ Q * 1000 by omega)]; exact .inr rfl
 · rw [if_neg c1]
   by_cases c2 : Q * 10000 ≤ P * 1000
   · rw [if_pos c2, if_neg (show ¬ Y ≤ Q * 1000 by omega), if_pos (show X ≤ P * 1000 by omega)]; exact .inr rfl
   · rw [if_neg c2]; exact .inl rfl
theorem mix_pos {n Q m P t : Int} (Q0 : 0 < Q) (P0 : 0 < P) : 0 < (mixA n Q m P t).2 := by
 unfold mixA; split
 · exact Q0
 · split
   · exact P0
   · exact Int.add_pos Q0 P0
theorem mix_bnd {n Q m P t : Int} (Q0 : 0 < Q ∧ Q ≤ 10000000) (P0 : 0 < P ∧ P ≤ 10000000) (hn : n.natAbs ≤ 20000000) (hm : m.natAbs ≤ 20000000) : (mixA n Q m P t).2 ≤ 100000000 ∧ (mixA n Q m P t).1.natAbs ≤ 100000000 := by
 unfold mixA; split
 · dsimp only; omega
 · split
   · dsimp only; omega
   · dsimp only; omega
theorem mix_K {n Q m P t K pN pD uN uD vN vD : Int} (hK : capI Q P t = K) (h1 : lowN (mixA n Q m P t).1 (mixA n Q m P t).2 = pN) (h2 : lowD (mixA n Q m P t).1 (mixA n Q m P t).2 = pD) (u1 : lowN n Q = uN) (u2 : lowD n Q = uD) (v1 : lowN m P = vN) (v2 : lowD m P = vD) :
 (K = 0 ∧ pN = uN ∧ pD = uD) ∨ (K = 1 ∧ pN = vN ∧ pD = vD) ∨ K = 2 := by
 unfold mixA at h1 h2
 rcases cap_cases Q P t with h | h | h
 · rw [if_pos h] at h1 h2
   exact .inl ⟨hK.symm.trans h, h1.symm.trans u1, h2.symm.trans u2⟩
 · rw [h, if_neg (by decide), if_pos rfl] at h1 h2
   exact .inr (.inl ⟨hK.symm.trans h, h1.symm.trans v1, h2.symm.trans v2⟩)
 · exact .inr (.inr (hK.symm.trans h))
theorem mix_up {n Q m P t : Int} (h : ¬ m * Q < n * P) : ¬ (mixA n Q m P t).1 * Q < n * (mixA n Q m P t).2 ∧ ¬ m * (mixA n Q m P t).2 < (mixA n Q m P t).1 * P := by
 unfold mixA; split
 · exact ⟨Int.lt_irrefl _, h⟩
 · split
   · exact ⟨h, Int.lt_irrefl _⟩
   · dsimp only
     rw [Int.add_mul, Int.mul_add, Int.mul_add, Int.add_mul]
     omega
theorem mix_down {n Q m P t : Int} (h : ¬ n * P < m * Q) : ¬ (mixA n Q m P t).1 * P < m * (mixA n Q m P t).2 ∧ ¬ n * (mixA n Q m P t).2 < (mixA n Q m P t).1 * Q := by
 unfold mixA; split
 · exact ⟨h, Int.lt_irrefl _⟩
 · split
   · exact ⟨Int.lt_irrefl _, h⟩
   · dsimp only
     rw [Int.add_mul, Int.mul_add, Int.mul_add, Int.add_mul]
     omega
theorem mix_same {n Q m P t : Int} (Q0 : 0 < Q) (P0 : 0 < P) (h : m * Q = n * P) : lowN (mixA n Q m P t).1 (mixA n Q m P t).2 = lowN n Q ∧ lowD (mixA n Q m P t).1 (mixA n Q m P t).2 = lowD n Q := by
 refine low_same (mix_pos Q0 P0) Q0 ?_
 unfold mixA; split
 · rfl
 · split
   · exact h
   · dsimp only
     rw [Int.add_mul, Int.mul_add, h]
theorem cmp_ge {x y : Int} (h : ¬ x < y) : ¬ (if x < y then (-1 : Int) else if x > y then 1 else 0) < 0 := by
 rw [if_neg h]; split <;> decide
theorem cmp_le {x y : Int} (h : ¬ y < x) : ¬ 0 < (if x < y then (-1 : Int) else if x > y then 1 else 0) := by
 by_cases h1 : x < y
 · rw [if_pos h1]; decide
 · rw [if_neg h1, if_neg h]; decide
theorem SigG.ndA {a b c d x y : Int} (h : SigG a b c d x y) : (c * a + d * b - (x * a + y * b)).natAbs ≤ 400000000 := by
 have b1 : (c * a).natAbs ≤ 100000000 := by rw [Int.natAbs_mul]; exact Nat.mul_le_mul (n₂ := 10000) (m₂ := 10000) (by have := h.pc; omega) (by have := h.pa; omega)
 have b2 : (d * b).natAbs ≤ 100000000 := by rw [Int.natAbs_mul]; exact Nat.mul_le_mul (n₂ := 10000) (m₂ := 10000) (by have := h.pd; omega) (by have := h.pb; omega)
 have b3 : (x * a).natAbs ≤ 100000000 := by rw [Int.natAbs_mul]; exact Nat.mul_le_mul (n₂ := 10000) (m₂ := 10000) (by have := h.px; omega) (by have := h.pa; omega)
 have b4 : (y * b).natAbs ≤ 100000000 := by rw [Int.natAbs_mul]; exact Nat.mul_le_mul (n₂ := 10000) (m₂ := 10000) (by have := h.py; omega) (by have := h.pb; omega)
 omega
theorem mixE {a b c d x y k l m n u v t N Q M P pN pD : Int} (E1 : sigE a b c d x y = 0) (E2 : sigE k l m n u v = 0) (ht : 1000 ≤ t ∧ t ≤ 10000) (hn : c * a + d * b - (x * a + y * b) = N) (hQ : a * a + b * b = Q) (hm : m * k + n * l - (u * k + v * l) = M) (hP : k * k + l * l = P) (h1 : lowN (mixA N Q M P t).1 (mixA N Q M P t).2 = pN) (h2 : lowD (mixA N Q M P t).1 (mixA N Q M P t).2 = pD) (W : World) :
 Calls Tryz.prog 20 #[.agg #[.int .i64 a, .int .i64 b, .int .i64 c, .int .i64 d, .int .i64 x, .int .i64 y, .int .i64 k, .int .i64 l, .int .i64 m, .int .i64 n, .int .i64 u, .int .i64 v], .int .i64 t] W fun e w' => e = .returned (.tuple #[.agg #[.int .i64 pN, .int .i64 pD], .int .i64 0]) ∧ Below W.heap.size W w' := by
 have hr : rangeB t 1000 10000 = false := by unfold rangeB; simp only [Bool.or_eq_false_iff, decide_eq_false_iff_not]; omega
 have h0 : firstI [sigE a b c d x y, sigE k l m n u v, whenI (rangeB t 1000 10000) 3] = 0 := by rw [E1, E2, hr]; rfl
 have g1 := sig_good E1; have g2 := sig_good E2
 have s1 := g1.sq; have s2 := g2.sq; have p1 := g1.pos; have p2 := g2.pos; have n1 := g1.ndA; have n2 := g2.ndA
 subst hn hQ hm hP h1 h2
 have hC := fun W => captured_any a b c d x y k l m n u v t (a * a + b * b) (k * k + l * l) W g1.g1 g2.g1 rfl rfl (by omega) (by omega) (by omega)
 unfold mixA
 rcases cap_cases (a * a + b * b) (k * k + l * l) t with h | h | h
 · rw [if_pos h]
   exact mixedT_k0 a b c d x y k l m n u v t W h0 _ _ (fun W => by have h2 := hC W; rw [h] at h2; exact h2) _ _ (fun W => needle_any a b c d x y W g1.g1 g1.g2 g1.g3) (fun W => ratioQ_any (c * a + d * b - (x * a + y * b)) (a * a + b * b) W (by unfold Bd; omega) (by omega))
 · rw [if_neg (by rw [h]; decide), if_pos h]
   exact mixedT_k1 a b c d x y k l m n u v t W h0 _ _ (fun W => by have h2 := hC W; rw [h] at h2; exact h2) _ _ (fun W => needle_any k l m n u v W g2.g1 g2.g2 g2.g3) (fun W => ratioQ_any (m * k + n * l - (u * k + v * l)) (k * k + l * l) W (by unfold Bd; omega) (by omega))
 · rw [if_neg (by rw [h]; decide), if_neg (by rw [h]; decide)]
   exact mixedT_k2 a b c d x y k l m n u v t W h0 _ _ (fun W => by have h2 := hC W; rw [h] at h2; exact h2) _ _ _ _ (by omega) (by omega) (by omega) (by omega) (fun W => needle_any a b c d x y W g1.g1 g1.g2 g1.g3) (fun W => needle_any k l m n u v W g2.g1 g2.g2 g2.g3) (fun W => ratioQ_any _ _ W (by unfold Bd; omega) (by omega))
theorem capE {a b c d x y k l m n u v t Q P K : Int} (E1 : sigE a b c d x y = 0) (E2 : sigE k l m n u v = 0) (ht : 1000 ≤ t ∧ t ≤ 10000) (hQ : a * a + b * b = Q) (hP : k * k + l * l = P) (hK : capI Q P t = K) (W : World) :
 Calls Tryz.prog 19 #[.agg #[.int .i64 a, .int .i64 b, .int .i64 c, .int .i64 d, .int .i64 x, .int .i64 y, .int .i64 k, .int .i64 l, .int .i64 m, .int .i64 n, .int .i64 u, .int .i64 v], .int .i64 t] W fun e w' => e = .returned (.tuple #[.int .i64 K, .int .i64 0]) ∧ Below W.heap.size W w' := by
 have hr : rangeB t 1000 10000 = false := by unfold rangeB; simp only [Bool.or_eq_false_iff, decide_eq_false_iff_not]; omega
 subst hQ hP hK
 exact capturedT_ok a b c d x y k l m n u v t W (by rw [E1, E2, hr]; rfl)
theorem compareE {p q r s z : Int} (h1 : p.natAbs ≤ 1000000000) (h2 : q.natAbs ≤ 1000000000) (h3 : r.natAbs ≤ 1000000000) (h4 : s.natAbs ≤ 1000000000) (hz : (if p * s < r * q then -1 else if p * s > r * q then 1 else 0) = z) (W : World) :
 Calls Tryz.prog 23 #[.agg #[.int .i64 p, .int .i64 q], .agg #[.int .i64 r, .int .i64 s]] W fun e w' => e = .returned (.int .i64 z) ∧ Below W.heap.size W w' := by
 subst hz
 exact compare_any p q r s W (abs_le (mulB h1 h4) (by decide)) (abs_le (mulB h3 h2) (by decide))
theorem asc_len : ∀ (l : List (Int × Int)) (m k : Int), l.Pairwise (fun a b : Int × Int => a.1 < b.1) → (∀ x ∈ l, m ≤ x.1 ∧ x.1 < k) → m ≤ k → (l.length : Int) ≤ k - m
 | [], m, k, _, _, h => by simp; omega
 | x :: l, m, k, hp, hx, h => by
   rw [List.pairwise_cons] at hp
   have h1 := hx x (List.mem_cons_self ..)
   have ih := asc_len l (x.1 + 1) k hp.2 (fun y hy => ⟨by have := hp.1 y hy; omega, (hx y (List.mem_cons_of_mem _ hy)).2⟩) (by omega)
   rw [List.length_cons]
   omega
theorem crS_le (z : List Int) : (crS z z.length).length ≤ z.length := by
 have h := crP_all z z.length (Nat.le_refl _)
 have := asc_len (crS z z.length) 0 z.length (h.pw.imp (fun h => h.1)) (fun x hx => ⟨(h.ok x hx).1, (h.ok x hx).2.1⟩) (by omega)
 omega
theorem sg_of_all : ∀ {L : List Sg}, firstI (L.map sgE) = 0 → ∀ s ∈ L, sgE s = 0
 | [], _, s, hs => absurd hs List.not_mem_nil
 | t :: L, h, s, hs => by
   rw [List.map_cons] at h
   have h2 : sgE t = 0 ∧ firstI (L.map sgE) = 0 := by
    by_cases h0 : sgE t = 0
    · rw [firstI, if_pos h0] at h; exact ⟨h0, h⟩
    · rw [firstI, if_neg h0] at h; exact absurd h h0
   rcases List.mem_cons.1 hs with rfl | hs
   · exact h2.1
   · exact sg_of_all h2.2 s hs
theorem sgs_each {L : List Sg} (h : sgsE L = 0) : ∀ s ∈ L, sgE s = 0 := by
 obtain ⟨h1, h2⟩ := fI2 h
 by_cases h3 : 256 < L.length
 · rw [if_pos h3] at h2; exact absurd h2 (by decide)
 · rw [if_neg h3] at h2
   exact sg_of_all h2
end Go.Proofs.YtaknlhepgeiekaaGreatDoor
