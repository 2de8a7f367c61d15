import Derived.Test.YtaknlhepgeiekaaGreatDoorM45
namespace Go.Proofs.YtaknlhepgeiekaaGreatDoor
set_option linter.all false
open Go.RowKit Go.Fl
theorem use_row {P : Program} {md : Region.Mode} {ops : Array Oper} {Q : Exit → Act → World → Prop} {S : World → Prop} {fuel : Nat} {listed : Array Bool} {a : Act} {W : World} {g : Nat} {t : TypeId} {vs : List Value} (h : Row W g t vs) (k : Row W g t vs → wpAnyH P md ops Q S fuel listed a W) : wpAnyH P md ops Q S fuel listed a W := k h
theorem keepR {W0 V V2 : World} {g19 g20 : Nat} {t : TypeId} {c19 c20 : List Value} (h : Below W0.heap.size W0 V ∧ W0.heap.size ≤ g19 ∧ W0.heap.size ≤ g20 ∧ g19 ≠ g20 ∧ Row V g19 t c19 ∧ Row V g20 t c20) (hb : Below V.heap.size V V2) : Below W0.heap.size W0 V2 ∧ W0.heap.size ≤ g19 ∧ W0.heap.size ≤ g20 ∧ g19 ≠ g20 ∧ Row V2 g19 t c19 ∧ Row V2 g20 t c20 :=
 ⟨h.1.trans (hb.mono h.1.size), h.2.1, h.2.2.1, h.2.2.2.1, h.2.2.2.2.1.old hb, h.2.2.2.2.2.old hb⟩
theorem made12 (w : World) (e : TypeId) (xs : List Value) (h : xs.length = 12) : (w.alloc (.cells xs.toArray e)).ownsRow w.heap.size e 6 (.slice (some ⟨w.heap.size, 0, none⟩) 2 2) 2 xs :=
 ⟨by rw [h], .inr ⟨w.heap.size, 2, xs.toArray, rfl, Nat.le_refl _, heap_alloc_new w _, Nat.le_refl _, by unfold maxLen; decide, by simp [h], by simp only [List.toList_toArray]; exact List.take_of_length_le (by rw [h]; decide)⟩⟩
theorem below_grown {wc w1 : World} {o : Obj} (h : (wc.alloc o).grownBy w1 (some wc.heap.size)) : Below wc.heap.size wc w1 :=
 { os := h.os, tape := h.tape, output := h.output, size := Nat.le_trans (by simp) h.size, block := fun k hk => (h.block k (by simp; omega) (by simp; omega)).trans (by first | exact heap_alloc_old wc o hk | exact heap_alloc_old wc o k hk) }
theorem setNth {α : Type} (l : List α) (k : Nat) (h : k < l.length) (z : α) (n : Nat) (hn : n = l.length) : (l.take k ++ List.replicate (n - k) z).set k l[k] = l.take (k + 1) ++ List.replicate (n - (k + 1)) z := by
 have e : n - k = (n - (k + 1)) + 1 := by omega
 rw [e, List.replicate_succ, List.set_append_right _ _ (by rw [List.length_take]; omega), List.length_take, Nat.min_eq_left (by omega), Nat.sub_self, List.set_cons_zero, List.take_succ_eq_append_getElem h, List.append_assoc]
 rfl
theorem setInts (zs : List Int) (q : Nat) (h : q < zs.length) (z : Int) (hz : z = zs.getD q 1) (n : Nat) (hn : n = zs.length) : (ints (zs.take q) ++ List.replicate (n - q) (Value.int .i64 0)).set q (.int .i64 z) = ints (zs.take (q + 1)) ++ List.replicate (n - (q + 1)) (.int .i64 0) := by
 have e : z = zs[q] := by rw [hz]; simp [h]
 have h1 := setNth (ints zs) q (by simpa [ints] using h) (Value.int .i64 0) n (by simpa [ints] using hn)
 rw [e]
 simpa [ints, List.map_take] using h1
theorem use_old {P : Program} {md : Region.Mode} {ops : Array Oper} {Q : Exit → Act → World → Prop} {S : World → Prop} {fuel : Nat} {listed : Array Bool} {a : Act} {W w : World} {B : Nat} (h : Below B w W) (k : Below B w W → wpAnyH P md ops Q S fuel listed a W) : wpAnyH P md ops Q S fuel listed a W := k h
theorem row_ne_ty {W : World} {g h : Nat} {t u : TypeId} {xs ys : List Value} (a : Row W g t xs) (b : Row W h u ys) (hn : t ≠ u) : g ≠ h := by
 intro e; subst e
 have c := a.symm.trans b
 simp at c
 exact hn c.2
theorem KpT.sub {w0 V : World} {rows rows' : List (Nat × TypeId × List Value)} {rds : List (Option Addr × List Value)} (h : KpT w0 rows rds V) (hs : ∀ r ∈ rows', r ∈ rows) : KpT w0 rows' rds V := ⟨h.1, fun r hr => h.2.1 r (hs r hr), h.2.2.1, h.2.2.2⟩
theorem KpT.put {w0 V : World} {g : Nat} {t : TypeId} {cs : List Value} {rds : List (Option Addr × List Value)} (h0 : KpT w0 [] rds w0) (h : KpT w0 [(g, t, cs)] rds V) (hg : w0.heap.size ≤ g) (k : Nat) (u : Value) : KpT w0 [(g, t, cs.set k u)] rds (V.setCell ⟨g, k, none⟩ u) := by
 have hb : Below w0.heap.size w0 (V.setCell ⟨g, k, none⟩ u) := h.2.2.2.setCell hg _
 have h1 := h0.old hb
 exact ⟨h1.1, fun r hr => by rw [List.mem_singleton.1 hr]; exact (h.row g t cs (.head _)).set k u, h1.2.2.1, hb⟩
set_option maxRecDepth 100000 in
set_option maxHeartbeats 16000000 in
theorem agrees_law (a b c d x y k l m n u v bd b1 band K KW nN nD uN uD vN vD pN pD qN qD cuv c2 c3 t1 t2 t3 t4 t5 t6 d1 d2 d3 d4 d5 d6 EA : Int) (M : Option Addr) (N cM : Nat) (SC : List Value) (LA : List Sg) (S : List (Int × Int)) (zs : List Int) (yN yD : Nat → Int) (zS : Bool) (w : World) (hA : AwT w) (hSC : Rd w M SC) (hn1 : ∀ W, Calls Tryz.prog 6 #[.agg #[.int .i64 a, .int .i64 b, .int .i64 c, .int .i64 d, .int .i64 x, .int .i64 y], .int .i64 1000] W fun e w' => e = .returned (.bool true) ∧ Below W.heap.size W w') (hn2 : ∀ W, Calls Tryz.prog 6 #[.agg #[.int .i64 k, .int .i64 l, .int .i64 m, .int .i64 n, .int .i64 u, .int .i64 v], .int .i64 1000] W fun e w' => e = .returned (.bool true) ∧ Below W.heap.size W w') (h8 : ¬ (8 : Int) < (N : Int)) (e1 : IntKind.i64.wrap bd = bd) (e2 : bd.tmod 9001 = b1) (e3 : wrap64 (1000 + b1) = band) (hCp : ∀ W, Calls Tryz.prog 19 #[.agg #[.int .i64 a, .int .i64 b, .int .i64 c, .int .i64 d, .int .i64 x, .int .i64 y, .int .i64 k, .int .i64 l, .int .i64 m, .int .i64 n, .int .i64 u, .int .i64 v], .int .i64 band] W fun e w' => e = .returned (.tuple #[.int .i64 K, .int .i64 0]) ∧ Below W.heap.size W w') (hMx : ∀ W, Calls Tryz.prog 20 #[.agg #[.int .i64 a, .int .i64 b, .int .i64 c, .int .i64 d, .int .i64 x, .int .i64 y, .int .i64 k, .int .i64 l, .int .i64 m, .int .i64 n, .int .i64 u, .int .i64 v], .int .i64 band] W fun e w' => e = .returned (.tuple #[.agg #[.int .i64 nN, .int .i64 nD], .int .i64 0]) ∧ Below W.heap.size W w') (hU : ∀ W, Calls Tryz.prog 21 #[.agg #[.int .i64 a, .int .i64 b, .int .i64 c, .int .i64 d, .int .i64 x, .int .i64 y]] W fun e w' => e = .returned (.tuple #[.agg #[.int .i64 uN, .int .i64 uD], .int .i64 0]) ∧ Below W.heap.size W w') (hVv : ∀ W, Calls Tryz.prog 21 #[.agg #[.int .i64 k, .int .i64 l, .int .i64 m, .int .i64 n, .int .i64 u, .int .i64 v]] W fun e w' => e = .returned (.tuple #[.agg #[.int .i64 vN, .int .i64 vD], .int .i64 0]) ∧ Below W.heap.size W w') (hCw : ∀ W, Calls Tryz.prog 19 #[.agg #[.int .i64 a, .int .i64 b, .int .i64 c, .int .i64 d, .int .i64 x, .int .i64 y, .int .i64 k, .int .i64 l, .int .i64 m, .int .i64 n, .int .i64 u, .int .i64 v], .int .i64 10000] W fun e w' => e = .returned (.tuple #[.int .i64 KW, .int .i64 0]) ∧ Below W.heap.size W w') (hR1 : ∀ W, Calls Tryz.prog 22 #[.agg #[.int .i64 nN, .int .i64 nD]] W fun e w' => e = .returned (.bool true) ∧ Below W.heap.size W w') (hR2 : ∀ W, Calls Tryz.prog 22 #[.agg #[.int .i64 uN, .int .i64 uD]] W fun e w' => e = .returned (.bool true) ∧ Below W.heap.size W w') (hR3 : ∀ W, Calls Tryz.prog 22 #[.agg #[.int .i64 vN, .int .i64 vD]] W fun e w' => e = .returned (.bool true) ∧ Below W.heap.size W w') (hK : (K = 0 ∧ nN = uN ∧ nD = uD) ∨ (K = 1 ∧ nN = vN ∧ nD = vD) ∨ K = 2) (hKW : KW = 2 ∨ KW = K) (hC1 : ∀ W, Calls Tryz.prog 23 #[.agg #[.int .i64 uN, .int .i64 uD], .agg #[.int .i64 vN, .int .i64 vD]] W fun e w' => e = .returned (.int .i64 cuv) ∧ Below W.heap.size W w') (hzS : decide (0 < cuv) = zS) (hS1 : zS = false → pN = uN ∧ pD = uD ∧ qN = vN ∧ qD = vD) (hS2 : zS = true → pN = vN ∧ pD = vD ∧ qN = uN ∧ qD = uD) (hC2 : ∀ W, Calls Tryz.prog 23 #[.agg #[.int .i64 nN, .int .i64 nD], .agg #[.int .i64 pN, .int .i64 pD]] W fun e w' => e = .returned (.int .i64 c2) ∧ Below W.heap.size W w') (hc2 : ¬ c2 < 0) (hC3 : ∀ W, Calls Tryz.prog 23 #[.agg #[.int .i64 nN, .int .i64 nD], .agg #[.int .i64 qN, .int .i64 qD]] W fun e w' => e = .returned (.int .i64 c3) ∧ Below W.heap.size W w') (hc3 : ¬ 0 < c3) (hTu : ∀ W, Tn W → Calls Tryz.prog 24 #[.agg #[.int .i64 a, .int .i64 b, .int .i64 c, .int .i64 d, .int .i64 x, .int .i64 y], .int .i64 1] W fun e w' => e = .returned (.tuple #[.agg #[.int .i64 t1, .int .i64 t2, .int .i64 t3, .int .i64 t4, .int .i64 t5, .int .i64 t6], .int .i64 0]) ∧ Below W.heap.size W w') (hM2 : ∀ W, Calls Tryz.prog 20 #[.agg #[.int .i64 a, .int .i64 b, .int .i64 c, .int .i64 d, .int .i64 x, .int .i64 y, .int .i64 t1, .int .i64 t2, .int .i64 t3, .int .i64 t4, .int .i64 t5, .int .i64 t6], .int .i64 band] W fun e w' => e = .returned (.tuple #[.agg #[.int .i64 uN, .int .i64 uD], .int .i64 0]) ∧ Below W.heap.size W w') (hSc : ∀ W, Calls Tryz.prog 25 #[.agg #[.int .i64 a, .int .i64 b, .int .i64 c, .int .i64 d, .int .i64 x, .int .i64 y], .agg #[.int .i64 2, .int .i64 0], .agg #[.int .i64 2, .int .i64 0]] W fun e w' => e = .returned (.tuple #[.agg #[.int .i64 d1, .int .i64 d2, .int .i64 d3, .int .i64 d4, .int .i64 d5, .int .i64 d6], .int .i64 0]) ∧ Below W.heap.size W w') (hM3 : ∀ W, Calls Tryz.prog 20 #[.agg #[.int .i64 d1, .int .i64 d2, .int .i64 d3, .int .i64 d4, .int .i64 d5, .int .i64 d6, .int .i64 a, .int .i64 b, .int .i64 c, .int .i64 d, .int .i64 x, .int .i64 y], .int .i64 band] W fun e w' => e = .returned (.tuple #[.agg #[.int .i64 uN, .int .i64 uD], .int .i64 0]) ∧ Below W.heap.size W w') (hcM : M = none → cM = 0) (hSCl : SC.length = N * 6) (hSC1 : ∀ u ∈ SC, u.oneCell' = true) (hSA : [.int .i64 a, .int .i64 b, .int .i64 c, .int .i64 d, .int .i64 x, .int .i64 y, .int .i64 k, .int .i64 l, .int .i64 m, .int .i64 n, .int .i64 u, .int .i64 v] ++ SC = sgC LA) (hLA : LA.length = 2 + N) (hCA : ∀ As cs W, Rd W As (sgC LA) → Calls Tryz.prog 26 #[.slice As (2 + N) cs] W fun e w' => e = .returned (.int .i64 EA) ∧ Below W.heap.size W w') (hSg : ∀ As cs W, Rd W As (sgC LA) → Calls Tryz.prog 14 #[.slice As (2 + N) cs] W fun e w' => ∃ At ct, e = .returned (.slice At (2 + N) ct) ∧ Rd w' At (sgC LA) ∧ Below W.heap.size W w') (hCr : EA = 0 → ∀ As cs W, Rd W As (sgC LA) → Calls Tryz.prog 27 #[.slice As (2 + N) cs] W fun e w' => ∃ Ax cx, e = .returned (.tuple #[.slice Ax S.length cx, .int .i64 0]) ∧ Rd w' Ax (spanC S) ∧ Below W.heap.size W w') (hSl : S.length ≤ 2 + N) (hS : S = crS zs zs.length) (hzl : zs.length = 2 + N) (hz3 : ∀ k, zs.getD k 1 = -1 ∨ zs.getD k 1 = 0 ∨ zs.getD k 1 = 1) (hNd : EA = 0 → ∀ (k : Nat) (h : k < LA.length) W, Calls Tryz.prog 21 #[.agg #[.int .i64 LA[k].a, .int .i64 LA[k].b, .int .i64 LA[k].c, .int .i64 LA[k].d, .int .i64 LA[k].x, .int .i64 LA[k].y]] W fun e w' => e = .returned (.tuple #[.agg #[.int .i64 (yN k), .int .i64 (yD k)], .int .i64 0]) ∧ Below W.heap.size W w') (hCz : EA = 0 → ∀ (k : Nat) (h : k < LA.length) W, Calls Tryz.prog 23 #[.agg #[.int .i64 (yN k), .int .i64 (yD k)], .agg #[.int .i64 0, .int .i64 1]] W fun e w' => e = .returned (.int .i64 (zs.getD k 1)) ∧ Below W.heap.size W w') : Calls Tryz.prog 4 #[.agg #[.int .i64 a, .int .i64 b, .int .i64 c, .int .i64 d, .int .i64 x, .int .i64 y], .agg #[.int .i64 k, .int .i64 l, .int .i64 m, .int .i64 n, .int .i64 u, .int .i64 v], .agg #[.int .u16 bd, .slice M N cM]] w fun e w' => e = .returned (.bool true) ∧ Below w.heap.size w w' := by
 have HK : Hid (KpT w [((w.heap.size + 1 + 1), 56, [.int .u16 bd, .slice M N cM]), ((w.heap.size + 1), 25, [.int .i64 k, .int .i64 l, .int .i64 m, .int .i64 n, .int .i64 u, .int .i64 v]), (w.heap.size, 25, [.int .i64 a, .int .i64 b, .int .i64 c, .int .i64 d, .int .i64 x, .int .i64 y])] [(M, SC)] (((w.alloc (.cells #[.int .i64 a, .int .i64 b, .int .i64 c, .int .i64 d, .int .i64 x, .int .i64 y] 25)).alloc (.cells #[.int .i64 k, .int .i64 l, .int .i64 m, .int .i64 n, .int .i64 u, .int .i64 v] 25)).alloc (.cells #[.int .u16 bd, .slice M N cM] 56))) := Lib.hid (KpT.cons (KpT.cons (KpT.cons (KpT.old (V := w) ⟨hA, fun r h => (List.not_mem_nil h).elim, fun r h => by rw [List.mem_singleton.1 h]; exact hSC, Below.refl _ _⟩ ((((Below.refl _ _).alloc (Nat.le_refl _) _).alloc (by simp) _).alloc (by simp only [World.size_alloc]; omega) _)) (((Row.new w 25 [.int .i64 a, .int .i64 b, .int .i64 c, .int .i64 d, .int .i64 x, .int .i64 y]).alloc _).alloc _)) (row2.alloc _)) row3)
 replace hn1 := Lib.hid hn1
 replace hn2 := Lib.hid hn2
 replace h8 := Lib.hid h8
 replace e1 := Lib.hid e1
 replace e2 := Lib.hid e2
 replace e3 := Lib.hid e3
 replace hCp := Lib.hid hCp
 replace hMx := Lib.hid hMx
 replace hU := Lib.hid hU
 replace hVv := Lib.hid hVv
 replace hCw := Lib.hid hCw
 replace hR1 := Lib.hid hR1
 replace hR2 := Lib.hid hR2
 replace hR3 := Lib.hid hR3
 replace hK := Lib.hid hK
 replace hKW := Lib.hid hKW
 replace hC1 := Lib.hid hC1
 replace hzS := Lib.hid hzS
 replace hS1 := Lib.hid hS1
 replace hS2 := Lib.hid hS2
 replace hC2 := Lib.hid hC2
 replace hc2 := Lib.hid hc2
 replace hC3 := Lib.hid hC3
 replace hc3 := Lib.hid hc3
 replace hTu := Lib.hid hTu
 replace hM2 := Lib.hid hM2
 replace hSc := Lib.hid hSc
 replace hM3 := Lib.hid hM3
 replace hcM := Lib.hid hcM
 replace hSCl := Lib.hid hSCl
 replace hSC1 := Lib.hid hSC1
 replace hSA := Lib.hid hSA
 replace hLA := Lib.hid hLA
 replace hCA := Lib.hid hCA
 replace hSg := Lib.hid hSg
 replace hCr := Lib.hid hCr
 replace hSl := Lib.hid hSl
 replace hS := Lib.hid hS
 replace hzl := Lib.hid hzl
 replace hz3 := Lib.hid hz3
 replace hNd := Lib.hid hNd
 replace hCz := Lib.hid hCz
 clear hA
 go_enter Tryz.func4, Tryz.ntmps4
 go_upto_region 1 with fail
 refine genT (fun V => KpT w [((w.heap.size + 1 + 1), 56, [.int .u16 bd, .slice M N cM]), ((w.heap.size + 1), 25, [.int .i64 k, .int .i64 l, .int .i64 m, .int .i64 n, .int .i64 u, .int .i64 v]), (w.heap.size, 25, [.int .i64 a, .int .i64 b, .int .i64 c, .int .i64 d, .int .i64 x, .int .i64 y])] [(M, SC)] V) HK.out ?_
 clear HK
 intro wc s0
 have HK := Lib.hid s0
 clear s0
 go_cut [60] from 43 to 59 (fun s60 wx => s60 = .bool false ∧ Hid (KpT w [((w.heap.size + 1 + 1), 56, [.int .u16 bd, .slice M N cM]), ((w.heap.size + 1), 25, [.int .i64 k, .int .i64 l, .int .i64 m, .int .i64 n, .int .i64 u, .int .i64 v]), (w.heap.size, 25, [.int .i64 a, .int .i64 b, .int .i64 c, .int .i64 d, .int .i64 x, .int .i64 y])] [(M, SC)] wx))
 case first =>
  have HV := HK
  have i8 : decide ((8 : Int) < (N : Int)) = false := decide_eq_false h8.out
  go_wp2_with (first | (go_at_call 5; refine (awake_ok _ HV.out.1).mono ?_; rintro e w2 ⟨rfl, hb⟩; replace HV := Lib.hid (HV.out.old hb); clear hb; have ca0 := (((HV.out.row _ _ _ (.tail _ (.tail _ (.head _))))).cell 0); have ca1 := (((HV.out.row _ _ _ (.tail _ (.tail _ (.head _))))).cell 1); have ca2 := (((HV.out.row _ _ _ (.tail _ (.tail _ (.head _))))).cell 2); have ca3 := (((HV.out.row _ _ _ (.tail _ (.tail _ (.head _))))).cell 3); have ca4 := (((HV.out.row _ _ _ (.tail _ (.tail _ (.head _))))).cell 4); have ca5 := (((HV.out.row _ _ _ (.tail _ (.tail _ (.head _))))).cell 5); simp only [List.getElem?_cons_succ, List.getElem?_cons_zero] at ca0 ca1 ca2 ca3 ca4 ca5) | (have _ := mk1; go_at_call 6; refine (hn2.out _).mono ?_; rintro e w2 ⟨rfl, hb⟩; replace HV := Lib.hid (HV.out.old hb); clear hb; have cc0 := (((HV.out.row _ _ _ (.head _))).cell 0); have cc1 := (((HV.out.row _ _ _ (.head _))).cell 1); simp only [List.getElem?_cons_succ, List.getElem?_cons_zero] at cc0 cc1) | (go_at_call 6; refine (hn1.out _).mono ?_; rintro e w2 ⟨rfl, hb⟩; replace HV := Lib.hid (HV.out.old hb); clear hb; have mk1 : True := trivial; have cb0 := (((HV.out.row _ _ _ (.tail _ (.head _)))).cell 0); have cb1 := (((HV.out.row _ _ _ (.tail _ (.head _)))).cell 1); have cb2 := (((HV.out.row _ _ _ (.tail _ (.head _)))).cell 2); have cb3 := (((HV.out.row _ _ _ (.tail _ (.head _)))).cell 3); have cb4 := (((HV.out.row _ _ _ (.tail _ (.head _)))).cell 4); have cb5 := (((HV.out.row _ _ _ (.tail _ (.head _)))).cell 5); simp only [List.getElem?_cons_succ, List.getElem?_cons_zero] at cb0 cb1 cb2 cb3 cb4 cb5))
  all_goals (go_meet; exact ⟨rfl, HV⟩)
 case rest =>
 clear HK
 obtain ⟨rfl, HK⟩ := hcut
 go_upto_region 3 with fail
 go_cut [7] from 62 to 66 (fun s7 wx => s7 = .int .i64 band ∧ Hid (KpT w [((w.heap.size + 1 + 1), 56, [.int .u16 bd, .slice M N cM]), ((w.heap.size + 1), 25, [.int .i64 k, .int .i64 l, .int .i64 m, .int .i64 n, .int .i64 u, .int .i64 v]), (w.heap.size, 25, [.int .i64 a, .int .i64 b, .int .i64 c, .int .i64 d, .int .i64 x, .int .i64 y])] [(M, SC)] wx))
 case first =>
  have HV := HK
  have c0 := (((HK.out.row _ _ _ (.head _))).cell 0)
  simp only [List.getElem?_cons_succ, List.getElem?_cons_zero] at c0
  have z1 := e1.out
  go_wp2_with fail
  go_meet
  exact ⟨congrArg (Value.int .i64) (show wrap64 (1000 + bd.tmod 9001) = band by rw [e2.out, e3.out]), HV⟩
 case rest =>
 clear HK
 obtain ⟨rfl, HK⟩ := hcut
 go_upto_region 4 with fail
 go_cut [8] from 67 to 69 (fun s8 wx => ∃ g8, s8 = .pointer (some ⟨g8, 0, none⟩) ∧ Hid (KpT w [(g8, 57, [.int .i64 a, .int .i64 b, .int .i64 c, .int .i64 d, .int .i64 x, .int .i64 y, .int .i64 k, .int .i64 l, .int .i64 m, .int .i64 n, .int .i64 u, .int .i64 v]), ((w.heap.size + 1 + 1), 56, [.int .u16 bd, .slice M N cM]), ((w.heap.size + 1), 25, [.int .i64 k, .int .i64 l, .int .i64 m, .int .i64 n, .int .i64 u, .int .i64 v]), (w.heap.size, 25, [.int .i64 a, .int .i64 b, .int .i64 c, .int .i64 d, .int .i64 x, .int .i64 y])] [(M, SC)] wx))
 case first =>
  have HV := HK
  go_wp2_with (first
   | (refine wpList_load_row rfl 25 _ rfl w.heap.size rfl 25 #[.int .i64 a, .int .i64 b, .int .i64 c, .int .i64 d, .int .i64 x, .int .i64 y] (0, 0) _ (HV.out.row _ _ _ (.tail _ (.tail _ (.head _)))) Tryz.underlying25 rfl ?_ ?_; (kernel_rfl))
   | (refine wpList_load_row rfl 25 _ rfl (w.heap.size + 1) rfl 25 #[.int .i64 k, .int .i64 l, .int .i64 m, .int .i64 n, .int .i64 u, .int .i64 v] (0, 0) _ (HV.out.row _ _ _ (.tail _ (.head _))) Tryz.underlying25 rfl ?_ ?_; (kernel_rfl))
   | (refine wpList_store_row rfl 57 _ _ rfl (wc.heap.size) #[.int .i64 a, .int .i64 b, .int .i64 c, .int .i64 d, .int .i64 x, .int .i64 y, .int .i64 k, .int .i64 l, .int .i64 m, .int .i64 n, .int .i64 u, .int .i64 v] rfl rfl 57 _ (Row.new wc 57 [.int .i64 0, .int .i64 0, .int .i64 0, .int .i64 0, .int .i64 0, .int .i64 0, .int .i64 0, .int .i64 0, .int .i64 0, .int .i64 0, .int .i64 0, .int .i64 0]) ?_ ?_ ?_ ?_; (kernel_rfl); (rfl); (simp [Value.oneCell'])))
  go_meet
  exact ⟨_, rfl, Lib.hid (KpT.cons (HV.out.old (Below.setRow ((Below.refl _ _).alloc (Nat.le_refl _) _) (Nat.le_refl _) _)) ((Row.new wc 57 [.int .i64 0, .int .i64 0, .int .i64 0, .int .i64 0, .int .i64 0, .int .i64 0, .int .i64 0, .int .i64 0, .int .i64 0, .int .i64 0, .int .i64 0, .int .i64 0]).setRow [.int .i64 a, .int .i64 b, .int .i64 c, .int .i64 d, .int .i64 x, .int .i64 y, .int .i64 k, .int .i64 l, .int .i64 m, .int .i64 n, .int .i64 u, .int .i64 v]))⟩
 case rest =>
 clear HK
 obtain ⟨g8, rfl, HK⟩ := hcut
 go_upto_region 5 with fail
 go_cut [9, 10] from 70 to 75 (fun s9 s10 wx => s9 = .int .i64 K ∧ s10 = .int .i64 0 ∧ Hid (KpT w [(g8, 57, [.int .i64 a, .int .i64 b, .int .i64 c, .int .i64 d, .int .i64 x, .int .i64 y, .int .i64 k, .int .i64 l, .int .i64 m, .int .i64 n, .int .i64 u, .int .i64 v]), ((w.heap.size + 1 + 1), 56, [.int .u16 bd, .slice M N cM]), ((w.heap.size + 1), 25, [.int .i64 k, .int .i64 l, .int .i64 m, .int .i64 n, .int .i64 u, .int .i64 v]), (w.heap.size, 25, [.int .i64 a, .int .i64 b, .int .i64 c, .int .i64 d, .int .i64 x, .int .i64 y])] [(M, SC)] wx))
 case first =>
  have HV := HK
  go_wp2_with (first
   | (refine wpList_load_row rfl 57 _ rfl g8 rfl 57 #[.int .i64 a, .int .i64 b, .int .i64 c, .int .i64 d, .int .i64 x, .int .i64 y, .int .i64 k, .int .i64 l, .int .i64 m, .int .i64 n, .int .i64 u, .int .i64 v] (0, 0) _ (HV.out.row _ _ _ (.head _)) Tryz.underlying57 rfl ?_ ?_; (kernel_rfl))
   | (go_at_call 19; refine (hCp.out _).mono ?_; rintro e w2 ⟨rfl, hb⟩; replace HV := Lib.hid (HV.out.old hb); clear hb))
  go_meet
  exact ⟨rfl, rfl, HV⟩
 case rest =>
 clear HK
 obtain ⟨rfl, rfl, HK⟩ := hcut
 go_upto_region 6 with fail
 go_cut [11, 12] from 76 to 81 (fun s11 s12 wx => ∃ g11, s11 = .pointer (some ⟨g11, 0, none⟩) ∧ s12 = .int .i64 0 ∧ Hid (KpT w [(g11, 61, [.int .i64 nN, .int .i64 nD]), (g8, 57, [.int .i64 a, .int .i64 b, .int .i64 c, .int .i64 d, .int .i64 x, .int .i64 y, .int .i64 k, .int .i64 l, .int .i64 m, .int .i64 n, .int .i64 u, .int .i64 v]), ((w.heap.size + 1 + 1), 56, [.int .u16 bd, .slice M N cM]), ((w.heap.size + 1), 25, [.int .i64 k, .int .i64 l, .int .i64 m, .int .i64 n, .int .i64 u, .int .i64 v]), (w.heap.size, 25, [.int .i64 a, .int .i64 b, .int .i64 c, .int .i64 d, .int .i64 x, .int .i64 y])] [(M, SC)] wx))
 case first =>
  have HV := HK
  go_wp2_with (first
   | (refine wpList_load_row rfl 57 _ rfl g8 rfl 57 #[.int .i64 a, .int .i64 b, .int .i64 c, .int .i64 d, .int .i64 x, .int .i64 y, .int .i64 k, .int .i64 l, .int .i64 m, .int .i64 n, .int .i64 u, .int .i64 v] (0, 0) _ (HV.out.row _ _ _ (.head _)) Tryz.underlying57 rfl ?_ ?_; (kernel_rfl))
   | (go_at_call 20; refine (hMx.out _).mono ?_; rintro e w2 ⟨rfl, hb⟩; replace HV := Lib.hid (HV.out.old hb); clear hb)
   | (refine wpList_store_row rfl 61 _ _ rfl (w2.heap.size) #[.int .i64 nN, .int .i64 nD] rfl rfl 61 _ (Row.new w2 61 [.int .i64 0, .int .i64 0]) ?_ ?_ ?_ ?_; (kernel_rfl); (rfl); (simp [Value.oneCell'])))
  go_meet
  exact ⟨_, rfl, rfl, Lib.hid (KpT.cons (HV.out.old (Below.setRow ((Below.refl _ _).alloc (Nat.le_refl _) _) (Nat.le_refl _) _)) ((Row.new w2 61 [.int .i64 0, .int .i64 0]).setRow [.int .i64 nN, .int .i64 nD]))⟩
 case rest =>
 clear HK
 obtain ⟨g11, rfl, rfl, HK⟩ := hcut
 go_upto_region 7 with fail
 go_cut [13, 14] from 82 to 87 (fun s13 s14 wx => ∃ g13, s13 = .pointer (some ⟨g13, 0, none⟩) ∧ s14 = .int .i64 0 ∧ Hid (KpT w [(g13, 61, [.int .i64 uN, .int .i64 uD]), (g11, 61, [.int .i64 nN, .int .i64 nD]), (g8, 57, [.int .i64 a, .int .i64 b, .int .i64 c, .int .i64 d, .int .i64 x, .int .i64 y, .int .i64 k, .int .i64 l, .int .i64 m, .int .i64 n, .int .i64 u, .int .i64 v]), ((w.heap.size + 1 + 1), 56, [.int .u16 bd, .slice M N cM]), ((w.heap.size + 1), 25, [.int .i64 k, .int .i64 l, .int .i64 m, .int .i64 n, .int .i64 u, .int .i64 v]), (w.heap.size, 25, [.int .i64 a, .int .i64 b, .int .i64 c, .int .i64 d, .int .i64 x, .int .i64 y])] [(M, SC)] wx))
 case first =>
  have HV := HK
  have c0 := (((HK.out.row _ _ _ (.tail _ (.head _)))).cell 0)
  have c1 := (((HK.out.row _ _ _ (.tail _ (.head _)))).cell 1)
  have c2 := (((HK.out.row _ _ _ (.tail _ (.head _)))).cell 2)
  have c3 := (((HK.out.row _ _ _ (.tail _ (.head _)))).cell 3)
  have c4 := (((HK.out.row _ _ _ (.tail _ (.head _)))).cell 4)
  have c5 := (((HK.out.row _ _ _ (.tail _ (.head _)))).cell 5)
  simp only [List.getElem?_cons_succ, List.getElem?_cons_zero] at c0 c1 c2 c3 c4 c5
  go_wp2_with (first
   | (go_at_call 21; refine (hU.out _).mono ?_; rintro e w2 ⟨rfl, hb⟩; replace HV := Lib.hid (HV.out.old hb); clear hb)
   | (refine wpList_store_row rfl 61 _ _ rfl (w2.heap.size) #[.int .i64 uN, .int .i64 uD] rfl rfl 61 _ (Row.new w2 61 [.int .i64 0, .int .i64 0]) ?_ ?_ ?_ ?_; (kernel_rfl); (rfl); (simp [Value.oneCell'])))
  go_meet
  exact ⟨_, rfl, rfl, Lib.hid (KpT.cons (HV.out.old (Below.setRow ((Below.refl _ _).alloc (Nat.le_refl _) _) (Nat.le_refl _) _)) ((Row.new w2 61 [.int .i64 0, .int .i64 0]).setRow [.int .i64 uN, .int .i64 uD]))⟩
 case rest =>
 clear HK
 obtain ⟨g13, rfl, rfl, HK⟩ := hcut
 go_upto_region 8 with fail
 go_cut [15, 16] from 88 to 93 (fun s15 s16 wx => ∃ g15, s15 = .pointer (some ⟨g15, 0, none⟩) ∧ s16 = .int .i64 0 ∧ Hid (KpT w [(g15, 61, [.int .i64 vN, .int .i64 vD]), (g13, 61, [.int .i64 uN, .int .i64 uD]), (g11, 61, [.int .i64 nN, .int .i64 nD]), (g8, 57, [.int .i64 a, .int .i64 b, .int .i64 c, .int .i64 d, .int .i64 x, .int .i64 y, .int .i64 k, .int .i64 l, .int .i64 m, .int .i64 n, .int .i64 u, .int .i64 v]), ((w.heap.size + 1 + 1), 56, [.int .u16 bd, .slice M N cM]), ((w.heap.size + 1), 25, [.int .i64 k, .int .i64 l, .int .i64 m, .int .i64 n, .int .i64 u, .int .i64 v]), (w.heap.size, 25, [.int .i64 a, .int .i64 b, .int .i64 c, .int .i64 d, .int .i64 x, .int .i64 y])] [(M, SC)] wx))
 case first =>
  have HV := HK
  have c6 := (((HK.out.row _ _ _ (.tail _ (.tail _ (.head _))))).cell 6)
  have c7 := (((HK.out.row _ _ _ (.tail _ (.tail _ (.head _))))).cell 7)
  have c8 := (((HK.out.row _ _ _ (.tail _ (.tail _ (.head _))))).cell 8)
  have c9 := (((HK.out.row _ _ _ (.tail _ (.tail _ (.head _))))).cell 9)
  have c10 := (((HK.out.row _ _ _ (.tail _ (.tail _ (.head _))))).cell 10)
  have c11 := (((HK.out.row _ _ _ (.tail _ (.tail _ (.head _))))).cell 11)
  simp only [List.getElem?_cons_succ, List.getElem?_cons_zero] at c6 c7 c8 c9 c10 c11
  go_wp2_with (first
   | (go_at_call 21; refine (hVv.out _).mono ?_; rintro e w2 ⟨rfl, hb⟩; replace HV := Lib.hid (HV.out.old hb); clear hb)
   | (refine wpList_store_row rfl 61 _ _ rfl (w2.heap.size) #[.int .i64 vN, .int .i64 vD] rfl rfl 61 _ (Row.new w2 61 [.int .i64 0, .int .i64 0]) ?_ ?_ ?_ ?_; (kernel_rfl); (rfl); (simp [Value.oneCell'])))
  go_meet
  exact ⟨_, rfl, rfl, Lib.hid (KpT.cons (HV.out.old (Below.setRow ((Below.refl _ _).alloc (Nat.le_refl _) _) (Nat.le_refl _) _)) ((Row.new w2 61 [.int .i64 0, .int .i64 0]).setRow [.int .i64 vN, .int .i64 vD]))⟩
 case rest =>
 clear HK
 obtain ⟨g15, rfl, rfl, HK⟩ := hcut
 go_upto_region 9 with fail
 go_cut [17, 18] from 94 to 98 (fun s17 s18 wx => s17 = .int .i64 KW ∧ s18 = .int .i64 0 ∧ Hid (KpT w [(g15, 61, [.int .i64 vN, .int .i64 vD]), (g13, 61, [.int .i64 uN, .int .i64 uD]), (g11, 61, [.int .i64 nN, .int .i64 nD]), (g8, 57, [.int .i64 a, .int .i64 b, .int .i64 c, .int .i64 d, .int .i64 x, .int .i64 y, .int .i64 k, .int .i64 l, .int .i64 m, .int .i64 n, .int .i64 u, .int .i64 v]), ((w.heap.size + 1 + 1), 56, [.int .u16 bd, .slice M N cM]), ((w.heap.size + 1), 25, [.int .i64 k, .int .i64 l, .int .i64 m, .int .i64 n, .int .i64 u, .int .i64 v]), (w.heap.size, 25, [.int .i64 a, .int .i64 b, .int .i64 c, .int .i64 d, .int .i64 x, .int .i64 y])] [(M, SC)] wx))
 case first =>
  have HV := HK
  go_wp2_with (first
   | (refine wpList_load_row rfl 57 _ rfl g8 rfl 57 #[.int .i64 a, .int .i64 b, .int .i64 c, .int .i64 d, .int .i64 x, .int .i64 y, .int .i64 k, .int .i64 l, .int .i64 m, .int .i64 n, .int .i64 u, .int .i64 v] (0, 0) _ (HV.out.row _ _ _ (.tail _ (.tail _ (.tail _ (.head _))))) Tryz.underlying57 rfl ?_ ?_; (kernel_rfl))
   | (go_at_call 19; refine (hCw.out _).mono ?_; rintro e w2 ⟨rfl, hb⟩; replace HV := Lib.hid (HV.out.old hb); clear hb))
  go_meet
  exact ⟨rfl, rfl, HV⟩
 case rest =>
 clear HK
 obtain ⟨rfl, rfl, HK⟩ := hcut
 go_upto_region 10 with fail
 go_cut [170] from 99 to 169 (fun s170 wx => s170 = .bool false ∧ Hid (KpT w [(g15, 61, [.int .i64 vN, .int .i64 vD]), (g13, 61, [.int .i64 uN, .int .i64 uD]), (g11, 61, [.int .i64 nN, .int .i64 nD]), (g8, 57, [.int .i64 a, .int .i64 b, .int .i64 c, .int .i64 d, .int .i64 x, .int .i64 y, .int .i64 k, .int .i64 l, .int .i64 m, .int .i64 n, .int .i64 u, .int .i64 v]), ((w.heap.size + 1 + 1), 56, [.int .u16 bd, .slice M N cM]), ((w.heap.size + 1), 25, [.int .i64 k, .int .i64 l, .int .i64 m, .int .i64 n, .int .i64 u, .int .i64 v]), (w.heap.size, 25, [.int .i64 a, .int .i64 b, .int .i64 c, .int .i64 d, .int .i64 x, .int .i64 y])] [(M, SC)] wx))
 case first =>
  refine agr10 _ (by kernel_rfl) (Lib.hid ⟨⟨(HK.out.row _ _ _ (.tail _ (.tail _ (.head _)))), (HK.out.row _ _ _ (.tail _ (.head _))), (HK.out.row _ _ _ (.head _))⟩, Below.refl _ _⟩) hR1 hR2 hR3 hK hKW ?_
  intros
  rename_i W5 HB5
  go_wp2_with fail
  go_meet
  exact ⟨rfl, Lib.hid (HK.out.old HB5.out)⟩
 case rest =>
 clear HK
 obtain ⟨rfl, HK⟩ := hcut
 go_upto_region 12 with fail
 obtain ⟨W0, hW0⟩ : ∃ W : World, W = wc := ⟨_, rfl⟩
 have HK0 : Hid (KpT w [(g15, 61, [.int .i64 vN, .int .i64 vD]), (g13, 61, [.int .i64 uN, .int .i64 uD]), (g11, 61, [.int .i64 nN, .int .i64 nD]), (g8, 57, [.int .i64 a, .int .i64 b, .int .i64 c, .int .i64 d, .int .i64 x, .int .i64 y, .int .i64 k, .int .i64 l, .int .i64 m, .int .i64 n, .int .i64 u, .int .i64 v]), ((w.heap.size + 1 + 1), 56, [.int .u16 bd, .slice M N cM]), ((w.heap.size + 1), 25, [.int .i64 k, .int .i64 l, .int .i64 m, .int .i64 n, .int .i64 u, .int .i64 v]), (w.heap.size, 25, [.int .i64 a, .int .i64 b, .int .i64 c, .int .i64 d, .int .i64 x, .int .i64 y])] [(M, SC)] W0) := by rw [hW0]; exact HK
 go_cut [19, 20] from 171 to 172 (fun s19 s20 wx => ∃ g19 g20, s19 = .pointer (some ⟨g19, 0, none⟩) ∧ s20 = .pointer (some ⟨g20, 0, none⟩) ∧ Hid (Below W0.heap.size W0 wx ∧ W0.heap.size ≤ g19 ∧ W0.heap.size ≤ g20 ∧ g19 ≠ g20 ∧ Row wx g19 61 [.int .i64 uN, .int .i64 uD] ∧ Row wx g20 61 [.int .i64 vN, .int .i64 vD]))
 case first =>
  subst hW0
  refine wp_region_held_drew (S := fun V => Below W0.heap.size W0 V) (by kernel_rfl) ?_ (fun hHeld => ?_)
  · exact (Below.refl _ _).drew
  refine tk 0 171 (.agg #[.int .i64 uN, .int .i64 uD]) rfl (by kernel_rfl) (fun _ _ _ h => h) (by kernel_rfl) (fun V hV => ex_rowT 61 _ rfl (g13) rfl 61 [.int .i64 uN, .int .i64 uD] _ Tryz.underlying61 rfl (by kernel_rfl) ((HK.out.old hV).row _ _ _ (.tail _ (.head _)))) hHeld ?_
  try simp only [zz]
  refine tk 1 172 (.agg #[.int .i64 vN, .int .i64 vD]) rfl (by kernel_rfl) (fun _ _ _ h => h) (by kernel_rfl) (fun V hV => ex_rowT 61 _ rfl (g15) rfl 61 [.int .i64 vN, .int .i64 vD] _ Tryz.underlying61 rfl (by kernel_rfl) ((HK.out.old hV).row _ _ _ (.head _))) hHeld ?_
  try simp only [zz]
  refine st3 2 3 (fun K hK => ?_) (fun K hK => ?_)
  ·
   go_simp
   refine hK.out _ _ ?_ (fun hHeld => ?_)
   · exact hHeld.alloc hHeld.size _
   clear hK K
   try simp only [zz]
   refine st2 3 (fun K hK => ?_)
   go_simp
   refine hK.out _ _ ?_ (fun hHeld => ?_)
   · exact hHeld.alloc hHeld.size _
   clear hK K
   try simp only [zz]
   refine st2 4 (fun K hK => ?_)
   refine step_store_row rfl 61 _ _ rfl _ [.int .i64 uN, .int .i64 uD] rfl rfl 61 [.int .i64 0, .int .i64 0] ?_ (by kernel_rfl) rfl (by simp [Value.oneCell']) ?_
   · exact (((Row.new W0 61 [.int .i64 0, .int .i64 0]).alloc _).drew)
   refine hK.out _ _ ?_ (fun hHeld => ?_)
   · exact Below.setRow hHeld (by first | exact Nat.le_refl _ | exact Nat.le_succ _) _
   clear hK K
   try simp only [zz]
   refine st2 5 (fun K hK => ?_)
   refine step_store_row rfl 61 _ _ rfl _ [.int .i64 vN, .int .i64 vD] rfl rfl 61 [.int .i64 0, .int .i64 0] ?_ (by kernel_rfl) rfl (by simp [Value.oneCell']) ?_
   · exact (Row.farRow ((row2 (w := W0) (t1 := 61) (t2 := 61) (L1 := [.int .i64 0, .int .i64 0]) (L2 := [.int .i64 0, .int .i64 0])).drew) (show (W0.heap.size + 1) ≠ W0.heap.size by omega) #[.int .i64 uN, .int .i64 uD])
   refine hK.out _ _ ?_ (fun hHeld => ?_)
   · exact Below.setRow hHeld (by first | exact Nat.le_refl _ | exact Nat.le_succ _) _
   clear hK K
   try simp only [zz]
   refine wpAnyH_done (by kernel_rfl) ?_ _
   go_wp2_with fail
   go_meet
   exact ⟨_, _, rfl, rfl, Lib.hid ⟨hHeld, show W0.heap.size ≤ W0.heap.size by omega, show W0.heap.size ≤ (W0.heap.size + 1) by omega, show W0.heap.size ≠ (W0.heap.size + 1) by omega, (Row.farRow (Row.setRow (((Row.new W0 61 [.int .i64 0, .int .i64 0]).alloc _).drew) [.int .i64 uN, .int .i64 uD]) (show W0.heap.size ≠ (W0.heap.size + 1) by omega) #[.int .i64 vN, .int .i64 vD]), (Row.setRow (Row.farRow ((row2 (w := W0) (t1 := 61) (t2 := 61) (L1 := [.int .i64 0, .int .i64 0]) (L2 := [.int .i64 0, .int .i64 0])).drew) (show (W0.heap.size + 1) ≠ W0.heap.size by omega) #[.int .i64 uN, .int .i64 uD]) [.int .i64 vN, .int .i64 vD])⟩⟩
  ·
   go_simp
   refine hK.out _ _ ?_ (fun hHeld => ?_)
   · exact hHeld.alloc hHeld.size _
   clear hK K
   try simp only [zz]
   refine st2 2 (fun K hK => ?_)
   go_simp
   refine hK.out _ _ ?_ (fun hHeld => ?_)
   · exact hHeld.alloc hHeld.size _
   clear hK K
   try simp only [zz]
   refine st2 4 (fun K hK => ?_)
   refine step_store_row rfl 61 _ _ rfl _ [.int .i64 uN, .int .i64 uD] rfl rfl 61 [.int .i64 0, .int .i64 0] ?_ (by kernel_rfl) rfl (by simp [Value.oneCell']) ?_
   · exact ((row2 (w := W0) (t1 := 61) (t2 := 61) (L1 := [.int .i64 0, .int .i64 0]) (L2 := [.int .i64 0, .int .i64 0])).drew)
   refine hK.out _ _ ?_ (fun hHeld => ?_)
   · exact Below.setRow hHeld (by first | exact Nat.le_refl _ | exact Nat.le_succ _) _
   clear hK K
   try simp only [zz]
   refine st2 5 (fun K hK => ?_)
   refine step_store_row rfl 61 _ _ rfl _ [.int .i64 vN, .int .i64 vD] rfl rfl 61 [.int .i64 0, .int .i64 0] ?_ (by kernel_rfl) rfl (by simp [Value.oneCell']) ?_
   · exact (Row.farRow (((Row.new W0 61 [.int .i64 0, .int .i64 0]).alloc _).drew) (show W0.heap.size ≠ (W0.heap.size + 1) by omega) #[.int .i64 uN, .int .i64 uD])
   refine hK.out _ _ ?_ (fun hHeld => ?_)
   · exact Below.setRow hHeld (by first | exact Nat.le_refl _ | exact Nat.le_succ _) _
   clear hK K
   try simp only [zz]
   refine wpAnyH_done (by kernel_rfl) ?_ _
   go_wp2_with fail
   go_meet
   exact ⟨_, _, rfl, rfl, Lib.hid ⟨hHeld, show W0.heap.size ≤ (W0.heap.size + 1) by omega, show W0.heap.size ≤ W0.heap.size by omega, show (W0.heap.size + 1) ≠ W0.heap.size by omega, (Row.farRow (Row.setRow ((row2 (w := W0) (t1 := 61) (t2 := 61) (L1 := [.int .i64 0, .int .i64 0]) (L2 := [.int .i64 0, .int .i64 0])).drew) [.int .i64 uN, .int .i64 uD]) (show (W0.heap.size + 1) ≠ W0.heap.size by omega) #[.int .i64 vN, .int .i64 vD]), (Row.setRow (Row.farRow (((Row.new W0 61 [.int .i64 0, .int .i64 0]).alloc _).drew) (show W0.heap.size ≠ (W0.heap.size + 1) by omega) #[.int .i64 uN, .int .i64 uD]) [.int .i64 vN, .int .i64 vD])⟩⟩
 case rest =>
 clear HK hW0
 obtain ⟨g19, g20, rfl, rfl, HR⟩ := hcut
 go_upto_region 13 with fail
 go_cut [176] from 173 to 175 (fun s176 wx => s176 = .bool zS ∧ Hid (Below W0.heap.size W0 wx ∧ W0.heap.size ≤ g19 ∧ W0.heap.size ≤ g20 ∧ g19 ≠ g20 ∧ Row wx g19 61 [.int .i64 uN, .int .i64 uD] ∧ Row wx g20 61 [.int .i64 vN, .int .i64 vD]))
 case first =>
  have hz0 := hzS.out
  go_wp2_with (first | (refine wpList_load_row rfl 61 _ rfl (g13) rfl 61 #[.int .i64 uN, .int .i64 uD] (0, 0) _ ((HK0.out.old HR.out.1).row _ _ _ (.tail _ (.head _))) Tryz.underlying61 rfl ?_ ?_; (kernel_rfl)) | (refine wpList_load_row rfl 61 _ rfl (g15) rfl 61 #[.int .i64 vN, .int .i64 vD] (0, 0) _ ((HK0.out.old HR.out.1).row _ _ _ (.head _)) Tryz.underlying61 rfl ?_ ?_; (kernel_rfl)) | (go_at_call 23; refine (hC1.out _).mono ?_; rintro e w2 ⟨rfl, hb⟩; replace HR := Lib.hid (keepR HR.out hb); clear hb))
  go_meet
  exact ⟨rfl, HR⟩
 case rest =>
 clear HR
 obtain ⟨rfl, HR⟩ := hcut
 go_upto_if 176 with fail
 go_cut [] from 177 to 178 (fun wx => Hid (Below W0.heap.size W0 wx ∧ W0.heap.size ≤ g19 ∧ W0.heap.size ≤ g20 ∧ g19 ≠ g20 ∧ Row wx g19 61 [.int .i64 pN, .int .i64 pD] ∧ Row wx g20 61 [.int .i64 qN, .int .i64 qD]))
 case first =>
  cases zS
  case false =>
   obtain ⟨k1, k2, k3, k4⟩ := hS1.out rfl
   go_wp2_with fail
   go_meet
   rw [k1, k2, k3, k4]
   exact HR
  case true =>
   go_upto_region 14 with fail
   refine wp_region_held_drew (S := fun V => Below W0.heap.size W0 V ∧ RowN V g19 61 2 ∧ RowN V g20 61 2) (by kernel_rfl) ?_ (fun hHeld => ?_)
   · exact ⟨HR.out.1.drew, ⟨_, rfl, HR.out.2.2.2.2.1.drew⟩, ⟨_, rfl, HR.out.2.2.2.2.2.drew⟩⟩
   refine tk 0 177 (.agg #[.int .i64 vN, .int .i64 vD]) rfl (by kernel_rfl) (fun _ _ _ h => h) (by kernel_rfl) (fun V hV => ex_rowT 61 _ rfl (g15) rfl 61 [.int .i64 vN, .int .i64 vD] _ Tryz.underlying61 rfl (by kernel_rfl) ((HK0.out.old hV.1).row _ _ _ (.head _))) hHeld ?_
   try simp only [zz]
   refine tk 1 178 (.agg #[.int .i64 uN, .int .i64 uD]) rfl (by kernel_rfl) (fun _ _ _ h => h) (by kernel_rfl) (fun V hV => ex_rowT 61 _ rfl (g13) rfl 61 [.int .i64 uN, .int .i64 uD] _ Tryz.underlying61 rfl (by kernel_rfl) ((HK0.out.old hV.1).row _ _ _ (.tail _ (.head _)))) hHeld ?_
   try simp only [zz]
   refine st2 2 (fun K hK => ?_)
   obtain ⟨vs1, hv1, hr1⟩ := hHeld.2.1
   refine step_store_row rfl 61 _ _ rfl (g19) [.int .i64 vN, .int .i64 vD] rfl rfl 61 vs1 hr1 (by kernel_rfl) hv1 (by simp [Value.oneCell']) ?_
   refine hK.out _ _ ?_ (fun hHeld => ?_)
   · exact ⟨Below.setRow hHeld.1 HR.out.2.1 _, ⟨_, rfl, hr1.setRow _⟩, hHeld.2.2.farN (Ne.symm HR.out.2.2.2.1) _⟩
   clear hK K
   try simp only [zz]
   refine st2 3 (fun K hK => ?_)
   obtain ⟨vs2, hv2, hr2⟩ := hHeld.2.2
   have hL := hHeld
   refine step_store_row rfl 61 _ _ rfl (g20) [.int .i64 uN, .int .i64 uD] rfl rfl 61 vs2 hr2 (by kernel_rfl) hv2 (by simp [Value.oneCell']) ?_
   refine hK.out _ _ ?_ (fun hHeld => ?_)
   · exact ⟨Below.setRow hHeld.1 HR.out.2.2.1 _, hHeld.2.1.farN HR.out.2.2.2.1 _, ⟨_, rfl, hr2.setRow _⟩⟩
   clear hK K
   try simp only [zz]
   refine wpAnyH_done (by kernel_rfl) ?_ _
   go_wp2_with fail
   go_meet
   obtain ⟨k1, k2, k3, k4⟩ := hS2.out (by trivial)
   rw [k1, k2, k3, k4]
   exact Lib.hid ⟨hHeld.1, HR.out.2.1, HR.out.2.2.1, HR.out.2.2.2.1, (hr1.setRow _).farRow HR.out.2.2.2.1 _, hr2.setRow _⟩
 case rest =>
 clear HR hS1 hS2 hzS
 have HR := hcut
 clear hcut
 go_upto_region 15 with fail
 go_cut [188] from 179 to 187 (fun s188 wx => s188 = .bool false ∧ Hid (KpT w [(g15, 61, [.int .i64 vN, .int .i64 vD]), (g13, 61, [.int .i64 uN, .int .i64 uD]), (g11, 61, [.int .i64 nN, .int .i64 nD]), (g8, 57, [.int .i64 a, .int .i64 b, .int .i64 c, .int .i64 d, .int .i64 x, .int .i64 y, .int .i64 k, .int .i64 l, .int .i64 m, .int .i64 n, .int .i64 u, .int .i64 v]), ((w.heap.size + 1 + 1), 56, [.int .u16 bd, .slice M N cM]), ((w.heap.size + 1), 25, [.int .i64 k, .int .i64 l, .int .i64 m, .int .i64 n, .int .i64 u, .int .i64 v]), (w.heap.size, 25, [.int .i64 a, .int .i64 b, .int .i64 c, .int .i64 d, .int .i64 x, .int .i64 y])] [(M, SC)] wx))
 case first =>
  have z2 : decide (c2 < 0) = false := decide_eq_false hc2.out; have z3 : decide (0 < c3) = false := decide_eq_false hc3.out
  have q11 := ((HK0.out.old HR.out.1).row _ _ _ (.tail _ (.tail _ (.head _)))); have e0 := q11.cell 0; have e1' := q11.cell 1; have f0 := HR.out.2.2.2.2.1.cell 0; have f1 := HR.out.2.2.2.2.1.cell 1; have g0 := HR.out.2.2.2.2.2.cell 0; have g1 := HR.out.2.2.2.2.2.cell 1; simp only [List.getElem?_cons_succ, List.getElem?_cons_zero] at e0 e1' f0 f1 g0 g1
  go_wp2_with fail
  refine (hC2.out _).mono ?_
  rintro e w2 ⟨rfl, hb⟩
  replace HR := Lib.hid (keepR HR.out hb)
  clear hb q11 e0 e1' f0 f1 g0 g1
  have q11 := ((HK0.out.old HR.out.1).row _ _ _ (.tail _ (.tail _ (.head _)))); have e0 := q11.cell 0; have e1' := q11.cell 1; have f0 := HR.out.2.2.2.2.1.cell 0; have f1 := HR.out.2.2.2.2.1.cell 1; have g0 := HR.out.2.2.2.2.2.cell 0; have g1 := HR.out.2.2.2.2.2.cell 1; simp only [List.getElem?_cons_succ, List.getElem?_cons_zero] at e0 e1' f0 f1 g0 g1
  go_wp2_with fail
  refine (hC3.out _).mono ?_
  rintro e w3 ⟨rfl, hb⟩
  replace HR := Lib.hid (keepR HR.out hb)
  clear hb q11 e0 e1' f0 f1 g0 g1
  go_wp2_with fail
  go_meet
  exact ⟨rfl, Lib.hid (HK0.out.old HR.out.1)⟩
 case rest =>
 clear HR HK0
 obtain ⟨rfl, HK⟩ := hcut
 go_upto_region 17 with fail
 go_cut [21, 22] from 189 to 194 (fun s21 s22 wx => ∃ g21, s21 = .pointer (some ⟨g21, 0, none⟩) ∧ s22 = .int .i64 0 ∧ Hid (KpT w [(g21, 35, [.int .i64 t1, .int .i64 t2, .int .i64 t3, .int .i64 t4, .int .i64 t5, .int .i64 t6]), (g15, 61, [.int .i64 vN, .int .i64 vD]), (g13, 61, [.int .i64 uN, .int .i64 uD]), (g11, 61, [.int .i64 nN, .int .i64 nD]), (g8, 57, [.int .i64 a, .int .i64 b, .int .i64 c, .int .i64 d, .int .i64 x, .int .i64 y, .int .i64 k, .int .i64 l, .int .i64 m, .int .i64 n, .int .i64 u, .int .i64 v]), ((w.heap.size + 1 + 1), 56, [.int .u16 bd, .slice M N cM]), ((w.heap.size + 1), 25, [.int .i64 k, .int .i64 l, .int .i64 m, .int .i64 n, .int .i64 u, .int .i64 v]), (w.heap.size, 25, [.int .i64 a, .int .i64 b, .int .i64 c, .int .i64 d, .int .i64 x, .int .i64 y])] [(M, SC)] wx))
 case first =>
  have HV := HK
  have c0 := (((HK.out.row _ _ _ (.tail _ (.tail _ (.tail _ (.head _)))))).cell 0)
  have c1 := (((HK.out.row _ _ _ (.tail _ (.tail _ (.tail _ (.head _)))))).cell 1)
  have c2 := (((HK.out.row _ _ _ (.tail _ (.tail _ (.tail _ (.head _)))))).cell 2)
  have c3 := (((HK.out.row _ _ _ (.tail _ (.tail _ (.tail _ (.head _)))))).cell 3)
  have c4 := (((HK.out.row _ _ _ (.tail _ (.tail _ (.tail _ (.head _)))))).cell 4)
  have c5 := (((HK.out.row _ _ _ (.tail _ (.tail _ (.tail _ (.head _)))))).cell 5)
  simp only [List.getElem?_cons_succ, List.getElem?_cons_zero] at c0 c1 c2 c3 c4 c5
  go_wp2_with (first
   | (go_at_call 24; refine (hTu.out _ HV.out.1.1).mono ?_; rintro e w2 ⟨rfl, hb⟩; replace HV := Lib.hid (HV.out.old hb); clear hb)
   | (refine wpList_store_row rfl 35 _ _ rfl (w2.heap.size) #[.int .i64 t1, .int .i64 t2, .int .i64 t3, .int .i64 t4, .int .i64 t5, .int .i64 t6] rfl rfl 35 _ (Row.new w2 35 [.int .i64 0, .int .i64 0, .int .i64 0, .int .i64 0, .int .i64 0, .int .i64 0]) ?_ ?_ ?_ ?_; (kernel_rfl); (rfl); (simp [Value.oneCell'])))
  go_meet
  exact ⟨_, rfl, rfl, Lib.hid (KpT.cons (HV.out.old (Below.setRow ((Below.refl _ _).alloc (Nat.le_refl _) _) (Nat.le_refl _) _)) ((Row.new w2 35 [.int .i64 0, .int .i64 0, .int .i64 0, .int .i64 0, .int .i64 0, .int .i64 0]).setRow [.int .i64 t1, .int .i64 t2, .int .i64 t3, .int .i64 t4, .int .i64 t5, .int .i64 t6]))⟩
 case rest =>
 clear HK
 obtain ⟨g21, rfl, rfl, HK⟩ := hcut
 go_upto_region 18 with fail
 go_cut [23, 24] from 195 to 203 (fun s23 s24 wx => ∃ g23, s23 = .pointer (some ⟨g23, 0, none⟩) ∧ s24 = .int .i64 0 ∧ Hid (KpT w [(g23, 61, [.int .i64 uN, .int .i64 uD]), (g21, 35, [.int .i64 t1, .int .i64 t2, .int .i64 t3, .int .i64 t4, .int .i64 t5, .int .i64 t6]), (g15, 61, [.int .i64 vN, .int .i64 vD]), (g13, 61, [.int .i64 uN, .int .i64 uD]), (g11, 61, [.int .i64 nN, .int .i64 nD]), (g8, 57, [.int .i64 a, .int .i64 b, .int .i64 c, .int .i64 d, .int .i64 x, .int .i64 y, .int .i64 k, .int .i64 l, .int .i64 m, .int .i64 n, .int .i64 u, .int .i64 v]), ((w.heap.size + 1 + 1), 56, [.int .u16 bd, .slice M N cM]), ((w.heap.size + 1), 25, [.int .i64 k, .int .i64 l, .int .i64 m, .int .i64 n, .int .i64 u, .int .i64 v]), (w.heap.size, 25, [.int .i64 a, .int .i64 b, .int .i64 c, .int .i64 d, .int .i64 x, .int .i64 y])] [(M, SC)] wx))
 case first =>
  have HV := HK
  have c0 := (((HK.out.row _ _ _ (.tail _ (.tail _ (.tail _ (.tail _ (.head _))))))).cell 0)
  have c1 := (((HK.out.row _ _ _ (.tail _ (.tail _ (.tail _ (.tail _ (.head _))))))).cell 1)
  have c2 := (((HK.out.row _ _ _ (.tail _ (.tail _ (.tail _ (.tail _ (.head _))))))).cell 2)
  have c3 := (((HK.out.row _ _ _ (.tail _ (.tail _ (.tail _ (.tail _ (.head _))))))).cell 3)
  have c4 := (((HK.out.row _ _ _ (.tail _ (.tail _ (.tail _ (.tail _ (.head _))))))).cell 4)
  have c5 := (((HK.out.row _ _ _ (.tail _ (.tail _ (.tail _ (.tail _ (.head _))))))).cell 5)
  simp only [List.getElem?_cons_succ, List.getElem?_cons_zero] at c0 c1 c2 c3 c4 c5
  go_wp2_with (first
   | (refine wpList_load_row rfl 35 _ rfl g21 rfl 35 #[.int .i64 t1, .int .i64 t2, .int .i64 t3, .int .i64 t4, .int .i64 t5, .int .i64 t6] (0, 0) _ (HV.out.row _ _ _ (.head _)) Tryz.underlying35 rfl ?_ ?_; (kernel_rfl))
   | (go_at_call 20; refine (hM2.out _).mono ?_; rintro e w2 ⟨rfl, hb⟩; replace HV := Lib.hid (HV.out.old hb); clear hb)
   | (refine wpList_store_row rfl 61 _ _ rfl (w2.heap.size) #[.int .i64 uN, .int .i64 uD] rfl rfl 61 _ (Row.new w2 61 [.int .i64 0, .int .i64 0]) ?_ ?_ ?_ ?_; (kernel_rfl); (rfl); (simp [Value.oneCell'])))
  go_meet
  exact ⟨_, rfl, rfl, Lib.hid (KpT.cons (HV.out.old (Below.setRow ((Below.refl _ _).alloc (Nat.le_refl _) _) (Nat.le_refl _) _)) ((Row.new w2 61 [.int .i64 0, .int .i64 0]).setRow [.int .i64 uN, .int .i64 uD]))⟩
 case rest =>
 clear HK
 obtain ⟨g23, rfl, rfl, HK⟩ := hcut
 go_upto_region 19 with fail
 go_cut [25, 26] from 204 to 211 (fun s25 s26 wx => ∃ g25, s25 = .pointer (some ⟨g25, 0, none⟩) ∧ s26 = .int .i64 0 ∧ Hid (KpT w [(g25, 35, [.int .i64 d1, .int .i64 d2, .int .i64 d3, .int .i64 d4, .int .i64 d5, .int .i64 d6]), (g23, 61, [.int .i64 uN, .int .i64 uD]), (g21, 35, [.int .i64 t1, .int .i64 t2, .int .i64 t3, .int .i64 t4, .int .i64 t5, .int .i64 t6]), (g15, 61, [.int .i64 vN, .int .i64 vD]), (g13, 61, [.int .i64 uN, .int .i64 uD]), (g11, 61, [.int .i64 nN, .int .i64 nD]), (g8, 57, [.int .i64 a, .int .i64 b, .int .i64 c, .int .i64 d, .int .i64 x, .int .i64 y, .int .i64 k, .int .i64 l, .int .i64 m, .int .i64 n, .int .i64 u, .int .i64 v]), ((w.heap.size + 1 + 1), 56, [.int .u16 bd, .slice M N cM]), ((w.heap.size + 1), 25, [.int .i64 k, .int .i64 l, .int .i64 m, .int .i64 n, .int .i64 u, .int .i64 v]), (w.heap.size, 25, [.int .i64 a, .int .i64 b, .int .i64 c, .int .i64 d, .int .i64 x, .int .i64 y])] [(M, SC)] wx))
 case first =>
  refine wp_region_held_drew (S := fun V => Below wc.heap.size wc V) (by kernel_rfl) ?_ (fun hHeld => ?_)
  · exact (Below.refl _ _).drew
  refine ta 0 205 hHeld ?_
  try simp only [zz]
  refine tk 1 206 (.agg #[.int .i64 a, .int .i64 b, .int .i64 c, .int .i64 d, .int .i64 x, .int .i64 y]) rfl (by kernel_rfl) (fun _ _ _ h => h) (by kernel_rfl) (fun V hV => ex_Signal _ rfl (g8) 0 rfl ((((HK.out.old hV).row _ _ _ (.tail _ (.tail _ (.tail _ (.tail _ (.tail _ (.head _)))))))).cell 0) ((((HK.out.old hV).row _ _ _ (.tail _ (.tail _ (.tail _ (.tail _ (.tail _ (.head _)))))))).cell 1) ((((HK.out.old hV).row _ _ _ (.tail _ (.tail _ (.tail _ (.tail _ (.tail _ (.head _)))))))).cell 2) ((((HK.out.old hV).row _ _ _ (.tail _ (.tail _ (.tail _ (.tail _ (.tail _ (.head _)))))))).cell 3) ((((HK.out.old hV).row _ _ _ (.tail _ (.tail _ (.tail _ (.tail _ (.tail _ (.head _)))))))).cell 4) ((((HK.out.old hV).row _ _ _ (.tail _ (.tail _ (.tail _ (.tail _ (.tail _ (.head _)))))))).cell 5)) hHeld ?_
  try simp only [zz]
  refine st3 2 8 (fun K hK => ?_) (fun K hK => ?_)
  rotate_left
  have hge := hHeld.size
  go_simp
  refine hK.out _ _ ?_ (fun hHeld => ?_)
  · exact hHeld.alloc hHeld.size _
  clear hK K
  try simp only [zz]
  first | refine use_row (Row.new _ 35 [.int .i64 0, .int .i64 0, .int .i64 0, .int .i64 0, .int .i64 0, .int .i64 0]) (fun hr => ?_) | refine use_row (Row.new _ 35 [.int .i64 0, .int .i64 0, .int .i64 0, .int .i64 0, .int .i64 0, .int .i64 0]).drew (fun hr => ?_)
  all_goals (try (refine wpAnyH_ready (rs := [2]) (by kernel_rfl) (by simp) ?_; refine AllReadyH.cons rfl (fun K hK => ?_) AllReadyH.nil))
  all_goals
   go_simp
   go_at_call 7
   refine (at2_any _ _ _).mono ?_
   rintro e v1 ⟨rfl, hb⟩
   try replace hr := hr.old hb
   have hz := hb.size
   try simp only [World.size_alloc, size_drewT] at hz
   try go_simp
   refine hK.out _ _ ?_ (fun hHeld => ?_)
   · exact hHeld.trans (hb.mono hHeld.size)
   clear hK K
   try simp only [zz]
  rotate_right
  refine st3 3 8 (fun K hK => ?_) (fun K hK => ?_)
  rotate_left
  have hge := hHeld.size
  go_simp
  refine hK.out _ _ ?_ (fun hHeld => ?_)
  · exact hHeld.alloc hHeld.size _
  clear hK K
  try simp only [zz]
  first | refine use_row (Row.new _ 35 [.int .i64 0, .int .i64 0, .int .i64 0, .int .i64 0, .int .i64 0, .int .i64 0]) (fun hr => ?_) | refine use_row (Row.new _ 35 [.int .i64 0, .int .i64 0, .int .i64 0, .int .i64 0, .int .i64 0, .int .i64 0]).drew (fun hr => ?_)
  all_goals (try (refine wpAnyH_ready (rs := [3]) (by kernel_rfl) (by simp) ?_; refine AllReadyH.cons rfl (fun K hK => ?_) AllReadyH.nil))
  all_goals
   go_simp
   go_at_call 7
   refine (at2_any _ _ _).mono ?_
   rintro e v1 ⟨rfl, hb⟩
   try replace hr := hr.old hb
   have hz := hb.size
   try simp only [World.size_alloc, size_drewT] at hz
   try go_simp
   refine hK.out _ _ ?_ (fun hHeld => ?_)
   · exact hHeld.trans (hb.mono hHeld.size)
   clear hK K
   try simp only [zz]
  rotate_right
  refine st3 4 8 (fun K hK => ?_) (fun K hK => ?_)
  rotate_left
  have hge := hHeld.size
  go_simp
  refine hK.out _ _ ?_ (fun hHeld => ?_)
  · exact hHeld.alloc hHeld.size _
  clear hK K
  try simp only [zz]
  first | refine use_row (Row.new _ 35 [.int .i64 0, .int .i64 0, .int .i64 0, .int .i64 0, .int .i64 0, .int .i64 0]) (fun hr => ?_) | refine use_row (Row.new _ 35 [.int .i64 0, .int .i64 0, .int .i64 0, .int .i64 0, .int .i64 0, .int .i64 0]).drew (fun hr => ?_)
  all_goals (try (refine wpAnyH_ready (rs := [4]) (by kernel_rfl) (by simp) ?_; refine AllReadyH.cons rfl (fun K hK => ?_) AllReadyH.nil))
  all_goals
   go_simp
   go_at_call 25
   refine (hSc.out _).mono ?_
   rintro e v1 ⟨rfl, hb⟩
   try replace hr := hr.old hb
   have hz := hb.size
   try simp only [World.size_alloc, size_drewT] at hz
   try go_simp
   refine hK.out _ _ ?_ (fun hHeld => ?_)
   · exact hHeld.trans (hb.mono hHeld.size)
   clear hK K
   try simp only [zz]
   refine ta 5 204 hHeld ?_
   try simp only [zz]
   refine ta 6 210 hHeld ?_
   try simp only [zz]
   refine ta 7 211 hHeld ?_
   try simp only [zz]
  rotate_right
  refine st2 8 (fun K hK => ?_)
  have hge := hHeld.size
  go_simp
  refine hK.out _ _ ?_ (fun hHeld => ?_)
  · exact hHeld.alloc hHeld.size _
  clear hK K
  try simp only [zz]
  first | refine use_row (Row.new _ 35 [.int .i64 0, .int .i64 0, .int .i64 0, .int .i64 0, .int .i64 0, .int .i64 0]) (fun hr => ?_) | refine use_row (Row.new _ 35 [.int .i64 0, .int .i64 0, .int .i64 0, .int .i64 0, .int .i64 0, .int .i64 0]).drew (fun hr => ?_)
  all_goals
   refine st2 9 (fun K hK => ?_)
   refine step_store_row rfl 35 _ _ rfl _ [.int .i64 d1, .int .i64 d2, .int .i64 d3, .int .i64 d4, .int .i64 d5, .int .i64 d6] rfl rfl 35 [.int .i64 0, .int .i64 0, .int .i64 0, .int .i64 0, .int .i64 0, .int .i64 0] hr (by kernel_rfl) rfl (by simp [Value.oneCell']) ?_
   refine hK.out _ _ ?_ (fun hHeld => ?_)
   · exact Below.setRow hHeld hge _
   clear hK K
   try simp only [zz]
   refine ta 10 26 hHeld ?_
   try simp only [zz]
   refine wpAnyH_done (by kernel_rfl) ?_ _
   go_wp2_with fail
   go_meet
   exact ⟨_, rfl, rfl, Lib.hid (KpT.cons (HK.out.old hHeld) (hr.setRow _))⟩
 case rest =>
 clear HK
 obtain ⟨g25, rfl, rfl, HK⟩ := hcut
 go_upto_region 20 with fail
 go_cut [27, 28] from 212 to 220 (fun s27 s28 wx => ∃ g27, s27 = .pointer (some ⟨g27, 0, none⟩) ∧ s28 = .int .i64 0 ∧ Hid (KpT w [(g27, 61, [.int .i64 uN, .int .i64 uD]), (g25, 35, [.int .i64 d1, .int .i64 d2, .int .i64 d3, .int .i64 d4, .int .i64 d5, .int .i64 d6]), (g23, 61, [.int .i64 uN, .int .i64 uD]), (g21, 35, [.int .i64 t1, .int .i64 t2, .int .i64 t3, .int .i64 t4, .int .i64 t5, .int .i64 t6]), (g15, 61, [.int .i64 vN, .int .i64 vD]), (g13, 61, [.int .i64 uN, .int .i64 uD]), (g11, 61, [.int .i64 nN, .int .i64 nD]), (g8, 57, [.int .i64 a, .int .i64 b, .int .i64 c, .int .i64 d, .int .i64 x, .int .i64 y, .int .i64 k, .int .i64 l, .int .i64 m, .int .i64 n, .int .i64 u, .int .i64 v]), ((w.heap.size + 1 + 1), 56, [.int .u16 bd, .slice M N cM]), ((w.heap.size + 1), 25, [.int .i64 k, .int .i64 l, .int .i64 m, .int .i64 n, .int .i64 u, .int .i64 v]), (w.heap.size, 25, [.int .i64 a, .int .i64 b, .int .i64 c, .int .i64 d, .int .i64 x, .int .i64 y])] [(M, SC)] wx))
 case first =>
  have HV := HK
  have c0 := (((HK.out.row _ _ _ (.tail _ (.tail _ (.tail _ (.tail _ (.tail _ (.tail _ (.head _))))))))).cell 0)
  have c1 := (((HK.out.row _ _ _ (.tail _ (.tail _ (.tail _ (.tail _ (.tail _ (.tail _ (.head _))))))))).cell 1)
  have c2 := (((HK.out.row _ _ _ (.tail _ (.tail _ (.tail _ (.tail _ (.tail _ (.tail _ (.head _))))))))).cell 2)
  have c3 := (((HK.out.row _ _ _ (.tail _ (.tail _ (.tail _ (.tail _ (.tail _ (.tail _ (.head _))))))))).cell 3)
  have c4 := (((HK.out.row _ _ _ (.tail _ (.tail _ (.tail _ (.tail _ (.tail _ (.tail _ (.head _))))))))).cell 4)
  have c5 := (((HK.out.row _ _ _ (.tail _ (.tail _ (.tail _ (.tail _ (.tail _ (.tail _ (.head _))))))))).cell 5)
  simp only [List.getElem?_cons_succ, List.getElem?_cons_zero] at c0 c1 c2 c3 c4 c5
  go_wp2_with (first
   | (refine wpList_load_row rfl 35 _ rfl g25 rfl 35 #[.int .i64 d1, .int .i64 d2, .int .i64 d3, .int .i64 d4, .int .i64 d5, .int .i64 d6] (0, 0) _ (HV.out.row _ _ _ (.head _)) Tryz.underlying35 rfl ?_ ?_; (kernel_rfl))
   | (go_at_call 20; refine (hM3.out _).mono ?_; rintro e w2 ⟨rfl, hb⟩; replace HV := Lib.hid (HV.out.old hb); clear hb)
   | (refine wpList_store_row rfl 61 _ _ rfl (w2.heap.size) #[.int .i64 uN, .int .i64 uD] rfl rfl 61 _ (Row.new w2 61 [.int .i64 0, .int .i64 0]) ?_ ?_ ?_ ?_; (kernel_rfl); (rfl); (simp [Value.oneCell'])))
  go_meet
  exact ⟨_, rfl, rfl, Lib.hid (KpT.cons (HV.out.old (Below.setRow ((Below.refl _ _).alloc (Nat.le_refl _) _) (Nat.le_refl _) _)) ((Row.new w2 61 [.int .i64 0, .int .i64 0]).setRow [.int .i64 uN, .int .i64 uD]))⟩
 case rest =>
 clear HK
 obtain ⟨g27, rfl, rfl, HK⟩ := hcut
 go_upto_region 21 with fail
 go_cut [244] from 221 to 243 (fun s244 wx => s244 = .bool false ∧ Hid (KpT w [(g27, 61, [.int .i64 uN, .int .i64 uD]), (g25, 35, [.int .i64 d1, .int .i64 d2, .int .i64 d3, .int .i64 d4, .int .i64 d5, .int .i64 d6]), (g23, 61, [.int .i64 uN, .int .i64 uD]), (g21, 35, [.int .i64 t1, .int .i64 t2, .int .i64 t3, .int .i64 t4, .int .i64 t5, .int .i64 t6]), (g15, 61, [.int .i64 vN, .int .i64 vD]), (g13, 61, [.int .i64 uN, .int .i64 uD]), (g11, 61, [.int .i64 nN, .int .i64 nD]), (g8, 57, [.int .i64 a, .int .i64 b, .int .i64 c, .int .i64 d, .int .i64 x, .int .i64 y, .int .i64 k, .int .i64 l, .int .i64 m, .int .i64 n, .int .i64 u, .int .i64 v]), ((w.heap.size + 1 + 1), 56, [.int .u16 bd, .slice M N cM]), ((w.heap.size + 1), 25, [.int .i64 k, .int .i64 l, .int .i64 m, .int .i64 n, .int .i64 u, .int .i64 v]), (w.heap.size, 25, [.int .i64 a, .int .i64 b, .int .i64 c, .int .i64 d, .int .i64 x, .int .i64 y])] [(M, SC)] wx))
 case first =>
  have c130 := (((HK.out.row _ _ _ (.tail _ (.tail _ (.tail _ (.tail _ (.tail _ (.head _)))))))).cell 0)
  have c131 := (((HK.out.row _ _ _ (.tail _ (.tail _ (.tail _ (.tail _ (.tail _ (.head _)))))))).cell 1)
  have c230 := (((HK.out.row _ _ _ (.tail _ (.tail _ (.head _))))).cell 0)
  have c231 := (((HK.out.row _ _ _ (.tail _ (.tail _ (.head _))))).cell 1)
  have c270 := (((HK.out.row _ _ _ (.head _))).cell 0)
  have c271 := (((HK.out.row _ _ _ (.head _))).cell 1)
  simp only [List.getElem?_cons_succ, List.getElem?_cons_zero] at c130 c131 c230 c231 c270 c271
  have q1 := neqR_self uN uD
  go_wp2_with fail
  all_goals (go_meet; exact ⟨rfl, HK⟩)
 case rest =>
 clear HK
 obtain ⟨rfl, HK⟩ := hcut
 go_upto_region 23 with fail
 go_cut [29] from 245 to 250 (fun s29 wx => ∃ Aa ca, s29 = .slice Aa (2 + N) ca ∧ Hid (KpT w [(g27, 61, [.int .i64 uN, .int .i64 uD]), (g25, 35, [.int .i64 d1, .int .i64 d2, .int .i64 d3, .int .i64 d4, .int .i64 d5, .int .i64 d6]), (g23, 61, [.int .i64 uN, .int .i64 uD]), (g21, 35, [.int .i64 t1, .int .i64 t2, .int .i64 t3, .int .i64 t4, .int .i64 t5, .int .i64 t6]), (g15, 61, [.int .i64 vN, .int .i64 vD]), (g13, 61, [.int .i64 uN, .int .i64 uD]), (g11, 61, [.int .i64 nN, .int .i64 nD]), (g8, 57, [.int .i64 a, .int .i64 b, .int .i64 c, .int .i64 d, .int .i64 x, .int .i64 y, .int .i64 k, .int .i64 l, .int .i64 m, .int .i64 n, .int .i64 u, .int .i64 v]), ((w.heap.size + 1 + 1), 56, [.int .u16 bd, .slice M N cM]), ((w.heap.size + 1), 25, [.int .i64 k, .int .i64 l, .int .i64 m, .int .i64 n, .int .i64 u, .int .i64 v]), (w.heap.size, 25, [.int .i64 a, .int .i64 b, .int .i64 c, .int .i64 d, .int .i64 x, .int .i64 y])] [(Aa, (sgC LA)), (M, SC)] wx))
 case first =>
  have HV := HK
  have c1 := ((((HV.out.old ((Below.refl _ _).alloc (Nat.le_refl _) (.cells #[.int .i64 a, .int .i64 b, .int .i64 c, .int .i64 d, .int .i64 x, .int .i64 y, .int .i64 k, .int .i64 l, .int .i64 m, .int .i64 n, .int .i64 u, .int .i64 v] 25))).row _ _ _ (.tail _ (.tail _ (.tail _ (.tail _ (.tail _ (.tail _ (.tail _ (.tail _ (.head _))))))))))).cell 1)
  simp only [List.getElem?_cons_succ, List.getElem?_cons_zero] at c1
  have HO : Hid ((wc.alloc (.cells #[.int .i64 a, .int .i64 b, .int .i64 c, .int .i64 d, .int .i64 x, .int .i64 y, .int .i64 k, .int .i64 l, .int .i64 m, .int .i64 n, .int .i64 u, .int .i64 v] 25)).ownsRow wc.heap.size 25 6 (.slice (some ⟨wc.heap.size, 0, none⟩) 2 2) 2 [.int .i64 a, .int .i64 b, .int .i64 c, .int .i64 d, .int .i64 x, .int .i64 y, .int .i64 k, .int .i64 l, .int .i64 m, .int .i64 n, .int .i64 u, .int .i64 v]) := made12 wc 25 _ rfl
  have HRM : Hid (Rd (wc.alloc (.cells #[.int .i64 a, .int .i64 b, .int .i64 c, .int .i64 d, .int .i64 x, .int .i64 y, .int .i64 k, .int .i64 l, .int .i64 m, .int .i64 n, .int .i64 u, .int .i64 v] 25)) M SC) := (HV.out.old ((Below.refl _ _).alloc (Nat.le_refl _) _)).rd M SC (.head _)
  go_wp2_with (first | (refine wpList_load_row rfl 25 _ rfl w.heap.size rfl 25 #[.int .i64 a, .int .i64 b, .int .i64 c, .int .i64 d, .int .i64 x, .int .i64 y] (0, 0) _ (HV.out.row _ _ _ (.tail _ (.tail _ (.tail _ (.tail _ (.tail _ (.tail _ (.tail _ (.tail _ (.tail _ (.tail _ (.head _)))))))))))) Tryz.underlying25 rfl ?_ ?_; (kernel_rfl)) | (refine wpList_load_row rfl 25 _ rfl (w.heap.size + 1) rfl 25 #[.int .i64 k, .int .i64 l, .int .i64 m, .int .i64 n, .int .i64 u, .int .i64 v] (0, 0) _ (HV.out.row _ _ _ (.tail _ (.tail _ (.tail _ (.tail _ (.tail _ (.tail _ (.tail _ (.tail _ (.tail _ (.head _))))))))))) Tryz.underlying25 rfl ?_ ?_; (kernel_rfl)) | (at_builtin; refine wpList_app rfl _ _ 42 rfl wc.heap.size 25 (.agg #[.int .i64 0, .int .i64 0, .int .i64 0, .int .i64 0, .int .i64 0, .int .i64 0]) 6 48 Tryz.underlying42 infoSgR2 rfl (by decide) _ 2 [.int .i64 a, .int .i64 b, .int .i64 c, .int .i64 d, .int .i64 x, .int .i64 y, .int .i64 k, .int .i64 l, .int .i64 m, .int .i64 n, .int .i64 u, .int .i64 v] rfl HO.out M N cM SC rfl hcM.out HRM.out hSCl.out hSC1.out ?c3 ?c4 ?c5 ?_))
  · have := h8.out; unfold maxLen; omega
  · have := h8.out; omega
  intro v' w1 hown' hgrow
  obtain ⟨Aa, ca, rfl, hrd⟩ := owned_slice hown'
  replace hrd : Rd w1 Aa (sgC LA) := by rw [← hSA.out]; exact hrd
  have HV2 := Lib.hid (KpT.rcons (HV.out.old (below_grown hgrow)) hrd)
  clear hown' hgrow hrd
  go_wp2_with fail
  go_meet
  exact ⟨_, _, rfl, HV2⟩
 case rest =>
 clear HK hcM hSCl hSC1 hSA
 obtain ⟨Aa, ca, rfl, HK⟩ := hcut
 by_cases hEA : EA = 0
 case neg =>
  have hzA : (EA != 0) = true := by simpa using hEA
  clear hEA
  have HV := HK
  go_upto_region 24 with fail
  go_wp2_with (go_at_call 26; refine (hCA.out _ _ _ (HV.out.rd Aa (sgC LA) (.head _))).mono ?_; rintro e w2 ⟨rfl, hb⟩; replace HV := Lib.hid (HV.out.old hb); clear hb)
  go_ret
  exact ⟨rfl, HV.out.2.2.2⟩
 have hzA : (EA != 0) = false := by simpa using hEA
 replace hCr := Lib.hid (hCr.out hEA); replace hNd := Lib.hid (hNd.out hEA); replace hCz := Lib.hid (hCz.out hEA)
 clear hEA
 go_upto_region 24 with fail
 go_cut [253] from 251 to 252 (fun s253 wx => s253 = .bool false ∧ Hid (KpT w [(g27, 61, [.int .i64 uN, .int .i64 uD]), (g25, 35, [.int .i64 d1, .int .i64 d2, .int .i64 d3, .int .i64 d4, .int .i64 d5, .int .i64 d6]), (g23, 61, [.int .i64 uN, .int .i64 uD]), (g21, 35, [.int .i64 t1, .int .i64 t2, .int .i64 t3, .int .i64 t4, .int .i64 t5, .int .i64 t6]), (g15, 61, [.int .i64 vN, .int .i64 vD]), (g13, 61, [.int .i64 uN, .int .i64 uD]), (g11, 61, [.int .i64 nN, .int .i64 nD]), (g8, 57, [.int .i64 a, .int .i64 b, .int .i64 c, .int .i64 d, .int .i64 x, .int .i64 y, .int .i64 k, .int .i64 l, .int .i64 m, .int .i64 n, .int .i64 u, .int .i64 v]), ((w.heap.size + 1 + 1), 56, [.int .u16 bd, .slice M N cM]), ((w.heap.size + 1), 25, [.int .i64 k, .int .i64 l, .int .i64 m, .int .i64 n, .int .i64 u, .int .i64 v]), (w.heap.size, 25, [.int .i64 a, .int .i64 b, .int .i64 c, .int .i64 d, .int .i64 x, .int .i64 y])] [(Aa, (sgC LA)), (M, SC)] wx))
 case first =>
  have HV := HK
  go_wp2_with (go_at_call 26; refine (hCA.out _ _ _ (HV.out.rd Aa (sgC LA) (.head _))).mono ?_; rintro e w2 ⟨rfl, hb⟩; replace HV := Lib.hid (HV.out.old hb); clear hb)
  go_meet
  exact ⟨rfl, HV⟩
 case rest =>
 clear HK hCA hzA
 obtain ⟨rfl, HK⟩ := hcut
 go_upto_region 26 with fail
 go_cut [30, 31] from 254 to 259 (fun s30 s31 wx => ∃ Ax cx, s30 = .slice Ax S.length cx ∧ s31 = .int .i64 0 ∧ Hid (KpT w [(g27, 61, [.int .i64 uN, .int .i64 uD]), (g25, 35, [.int .i64 d1, .int .i64 d2, .int .i64 d3, .int .i64 d4, .int .i64 d5, .int .i64 d6]), (g23, 61, [.int .i64 uN, .int .i64 uD]), (g21, 35, [.int .i64 t1, .int .i64 t2, .int .i64 t3, .int .i64 t4, .int .i64 t5, .int .i64 t6]), (g15, 61, [.int .i64 vN, .int .i64 vD]), (g13, 61, [.int .i64 uN, .int .i64 uD]), (g11, 61, [.int .i64 nN, .int .i64 nD]), (g8, 57, [.int .i64 a, .int .i64 b, .int .i64 c, .int .i64 d, .int .i64 x, .int .i64 y, .int .i64 k, .int .i64 l, .int .i64 m, .int .i64 n, .int .i64 u, .int .i64 v]), ((w.heap.size + 1 + 1), 56, [.int .u16 bd, .slice M N cM]), ((w.heap.size + 1), 25, [.int .i64 k, .int .i64 l, .int .i64 m, .int .i64 n, .int .i64 u, .int .i64 v]), (w.heap.size, 25, [.int .i64 a, .int .i64 b, .int .i64 c, .int .i64 d, .int .i64 x, .int .i64 y])] [(Ax, (spanC S)), (Aa, (sgC LA)), (M, SC)] wx))
 case first =>
  have HV := HK
  go_wp2_with (first
   | (go_at_call 14; refine (hSg.out _ _ _ (HV.out.rd Aa (sgC LA) (.head _))).mono ?_; rintro e w2 ⟨At, ct, rfl, hFs, hb⟩; replace HV := Lib.hid (HV.out.old hb); clear hb)
   | (go_at_call 27; refine (hCr.out _ _ _ hFs).mono ?_; rintro e w3 ⟨Ax, cx, rfl, hF, hb⟩; replace HV := Lib.hid (HV.out.old hb); clear hb))
  go_meet
  exact ⟨_, _, rfl, rfl, Lib.hid (KpT.rcons HV.out hF)⟩
 case rest =>
 clear HK
 obtain ⟨Ax, cx, rfl, rfl, HK⟩ := hcut
 go_upto_region 27 with fail
 go_cut [268] from 260 to 267 (fun s268 wx => s268 = .bool false ∧ Hid (KpT w [(g27, 61, [.int .i64 uN, .int .i64 uD]), (g25, 35, [.int .i64 d1, .int .i64 d2, .int .i64 d3, .int .i64 d4, .int .i64 d5, .int .i64 d6]), (g23, 61, [.int .i64 uN, .int .i64 uD]), (g21, 35, [.int .i64 t1, .int .i64 t2, .int .i64 t3, .int .i64 t4, .int .i64 t5, .int .i64 t6]), (g15, 61, [.int .i64 vN, .int .i64 vD]), (g13, 61, [.int .i64 uN, .int .i64 uD]), (g11, 61, [.int .i64 nN, .int .i64 nD]), (g8, 57, [.int .i64 a, .int .i64 b, .int .i64 c, .int .i64 d, .int .i64 x, .int .i64 y, .int .i64 k, .int .i64 l, .int .i64 m, .int .i64 n, .int .i64 u, .int .i64 v]), ((w.heap.size + 1 + 1), 56, [.int .u16 bd, .slice M N cM]), ((w.heap.size + 1), 25, [.int .i64 k, .int .i64 l, .int .i64 m, .int .i64 n, .int .i64 u, .int .i64 v]), (w.heap.size, 25, [.int .i64 a, .int .i64 b, .int .i64 c, .int .i64 d, .int .i64 x, .int .i64 y])] [(Ax, (spanC S)), (Aa, (sgC LA)), (M, SC)] wx))
 case first =>
  have i9 : ¬ ((2 + N : Nat) : Int) < (S.length : Int) := by have := hSl.out; omega
  have i9' : decide ((2 : Int) + (N : Int) < (S.length : Int)) = false := decide_eq_false (by omega)
  go_wp2_with fail
  all_goals (go_meet; exact ⟨rfl, HK⟩)
 case rest =>
 clear HK
 obtain ⟨rfl, HK⟩ := hcut
 obtain ⟨W1, hW1⟩ : ∃ W1 : World, W1 = wc := ⟨_, rfl⟩
 subst hW1
 have HB0 : Hid (Below w.heap.size w W1) := HK.out.2.2.2
 have HR : Hid (KpT W1 [] [(Ax, (spanC S)), (Aa, (sgC LA))] W1) := Lib.hid (KpT.rcons (KpT.rcons ⟨HK.out.1, fun r h => (List.not_mem_nil h).elim, fun r h => (List.not_mem_nil h).elim, Below.refl _ _⟩ (HK.out.rd Aa (sgC LA) (.tail _ (.head _)))) (HK.out.rd Ax (spanC S) (.head _)))
 clear HK
 go_upto_region 29 with fail
 go_cut [32] from 269 to 271 (fun s32 wx => ∃ g32, s32 = .slice (some ⟨g32, 0, none⟩) (2 + N) (2 + N) ∧ W1.heap.size ≤ g32 ∧ Hid (KpT W1 [(g32, 3, (ints (zs.take (0)) ++ List.replicate (2 + N - (0)) (.int .i64 0)))] [(Ax, (spanC S)), (Aa, (sgC LA))] wx))
 case first =>
  have hmk0 := fun W : World => make1 (P := Tryz.prog) 74 3 (.int .i64 0) 8 Tryz.underlying74 (by kernel_rfl) rfl (2 + N) (by have := h8.out; omega) (by have := h8.out; omega) W
  have hmk : ∀ W : World, (Instr.makeSlice 74 (.int .i64 ((2 : Int) + (N : Int))) (.int .i64 ((2 : Int) + (N : Int)))).run Tryz.prog W = .ok (.slice (some ⟨W.heap.size, 0, none⟩) (2 + N) (2 + N)) (W.alloc (.cells (List.replicate (2 + N) (.int .i64 0)).toArray 3)) := hmk0
  clear hmk0
  go_wp2_with fail
  go_meet
  exact ⟨_, rfl, Nat.le_refl _, Lib.hid (KpT.cons (HR.out.old ((Below.refl _ _).alloc (Nat.le_refl _) _)) (Row.new _ _ _))⟩
 case rest =>
 obtain ⟨g32, rfl, hg32, HK⟩ := hcut
 go_upto_region 30 with fail
 go_wp2_with fail
 go_loopg [274] (2 + N) (fun gg s274 wr => ∃ q : Nat, q + gg = 2 + N ∧ s274 = .int .i64 q ∧ Hid (KpT W1 [(g32, 3, (ints (zs.take (q)) ++ List.replicate (2 + N - (q)) (.int .i64 0)))] [(Ax, (spanC S)), (Aa, (sgC LA))] wr))
 case atStart => exact ⟨0, by omega, rfl, HK⟩
 case round =>
  clear HK
  obtain ⟨q, hq, rfl, HK⟩ := hrel
  by_cases hlt : q < 2 + N
  · have hl2 : q < LA.length := by rw [hLA.out]; exact hlt
    have HNk := Lib.hid (hNd.out q hl2); have HZk := Lib.hid (hCz.out q hl2)
    obtain ⟨b0, off, hAa, c0, c1, c2, c3, c4, c5⟩ := Rd.sg (HK.out.rd Aa (sgC LA) (.tail _ (.head _))) hl2
    subst hAa
    obtain ⟨⟨v0, v1, v2, v3, v4, v5⟩, hs⟩ : ∃ s, s = LA[q] := ⟨_, rfl⟩
    rw [← hs] at c0 c1 c2 c3 c4 c5 HNk
    dsimp only at c0 c1 c2 c3 c4 c5 HNk
    obtain ⟨zq, hzq⟩ : ∃ zq, zq = zs.getD q 1 := ⟨_, rfl⟩
    rw [← hzq] at HZk
    have hset := Lib.hid (setInts zs q (by rw [hzl.out]; exact hlt) zq hzq (2 + N) hzl.out.symm)
    clear hs hzq
    have dl : decide ((q : Int) < (2 : Int) + (N : Int)) = true := decide_eq_true (by omega)
    go_upto_region 32 with fail
    go_cut [33, 34] from 276 to 278 (fun s33 s34 wx => ∃ g34, s33 = .int .i64 q ∧ s34 = .pointer (some ⟨g34, 0, none⟩) ∧ Hid (KpT W1 [(g34, 25, [.int .i64 v0, .int .i64 v1, .int .i64 v2, .int .i64 v3, .int .i64 v4, .int .i64 v5]), (g32, 3, (ints (zs.take (q)) ++ List.replicate (2 + N - (q)) (.int .i64 0)))] [(Ax, (spanC S)), ((some ⟨b0, off, none⟩), (sgC LA))] wx))
    case first =>
     go_wp2_with (first | (refine wpList_store_row rfl 25 _ _ rfl (wr.heap.size) #[.int .i64 v0, .int .i64 v1, .int .i64 v2, .int .i64 v3, .int .i64 v4, .int .i64 v5] rfl rfl 25 _ (Row.new wr 25 [.int .i64 0, .int .i64 0, .int .i64 0, .int .i64 0, .int .i64 0, .int .i64 0]) ?_ ?_ ?_ ?_; (kernel_rfl); (rfl); (simp [Value.oneCell'])))
     go_meet
     exact ⟨_, rfl, rfl, Lib.hid (KpT.cons (HK.out.old (Below.setRow ((Below.refl _ _).alloc (Nat.le_refl _) _) (Nat.le_refl _) _)) ((Row.new wr 25 [.int .i64 0, .int .i64 0, .int .i64 0, .int .i64 0, .int .i64 0, .int .i64 0]).setRow [.int .i64 v0, .int .i64 v1, .int .i64 v2, .int .i64 v3, .int .i64 v4, .int .i64 v5]))⟩
    case rest =>
    clear HK c0 c1 c2 c3 c4 c5
    obtain ⟨g34, rfl, rfl, HK⟩ := hcut
    go_upto_region 33 with fail
    go_cut [35, 36] from 279 to 283 (fun s35 s36 wx => ∃ g35, s35 = .pointer (some ⟨g35, 0, none⟩) ∧ s36 = .int .i64 0 ∧ Hid (KpT W1 [(g35, 61, [.int .i64 (yN q), .int .i64 (yD q)]), (g34, 25, [.int .i64 v0, .int .i64 v1, .int .i64 v2, .int .i64 v3, .int .i64 v4, .int .i64 v5]), (g32, 3, (ints (zs.take (q)) ++ List.replicate (2 + N - (q)) (.int .i64 0)))] [(Ax, (spanC S)), ((some ⟨b0, off, none⟩), (sgC LA))] wx))
    case first =>
     have HV := HK
     go_wp2_with (first
      | (refine wpList_load_row rfl 25 _ rfl g34 rfl 25 #[.int .i64 v0, .int .i64 v1, .int .i64 v2, .int .i64 v3, .int .i64 v4, .int .i64 v5] (0, 0) _ (HV.out.row _ _ _ (.head _)) Tryz.underlying25 rfl ?_ ?_; (kernel_rfl))
      | (go_at_call 21; refine (HNk.out _).mono ?_; rintro e w2 ⟨rfl, hb⟩; replace HV := Lib.hid (HV.out.old hb); clear hb)
      | (refine wpList_store_row rfl 61 _ _ rfl (w2.heap.size) #[.int .i64 (yN q), .int .i64 (yD q)] rfl rfl 61 _ (Row.new w2 61 [.int .i64 0, .int .i64 0]) ?_ ?_ ?_ ?_; (kernel_rfl); (rfl); (simp [Value.oneCell'])))
     go_meet
     exact ⟨_, rfl, rfl, Lib.hid (KpT.cons (HV.out.old (Below.setRow ((Below.refl _ _).alloc (Nat.le_refl _) _) (Nat.le_refl _) _)) ((Row.new w2 61 [.int .i64 0, .int .i64 0]).setRow [.int .i64 (yN q), .int .i64 (yD q)]))⟩
    case rest =>
    clear HK
    obtain ⟨g35, rfl, rfl, HK⟩ := hcut
    clear HNk
    have hne : g35 ≠ g32 := row_ne_ty (HK.out.row _ _ _ (.head _)) (HK.out.row _ _ _ (.tail _ (.tail _ (.head _)))) (by decide)
    go_upto_region 36 with fail
    refine wp_region_held_drew (S := fun V => Row V g35 61 [.int .i64 (yN q), .int .i64 (yD q)] ∧ Below W1.heap.size W1 V) (by kernel_rfl) ?_ (fun hHeld => ?_)
    · exact ⟨((HK.out.row _ _ _ (.head _))).drew, (HK.out.2.2.2).drew⟩
    refine use_old (B := wc.heap.size) (w := wc) ((Below.refl _ _).drew) (fun hq => ?_)
    refine ta 0 286 hHeld ?_
    try simp only [zz]
    refine ta 1 287 hHeld ?_
    try simp only [zz]
    refine tk 2 288 (.agg #[.int .i64 (yN q), .int .i64 (yD q)]) rfl (by kernel_rfl) (fun _ _ _ h => h) (by kernel_rfl) (fun V hV => ex_rowT 61 _ rfl g35 rfl 61 [.int .i64 (yN q), .int .i64 (yD q)] _ Tryz.underlying61 rfl (by kernel_rfl) hV.1) hHeld ?_
    try simp only [zz]
    refine st2 3 (fun K hK => ?_)
    go_simp
    go_at_call 28
    refine (ratio2_any _ _ _).mono ?_
    rintro e v3 ⟨rfl, hb3⟩
    replace hq := hq.trans (hb3.mono hq.size)
    have hz3 := hb3.size
    try simp only [World.size_alloc, size_drewT] at hz3
    try go_simp
    refine hK.out _ _ ?_ (fun hHeld => ?_)
    · exact ⟨hHeld.1.old hb3, hHeld.2.trans (hb3.mono hHeld.2.size)⟩
    clear hK K
    try simp only [zz]
    refine st2 4 (fun K hK => ?_)
    go_simp
    go_at_call 23
    refine (HZk.out _).mono ?_
    rintro e v4 ⟨rfl, hb4⟩
    replace hq := hq.trans (hb4.mono hq.size)
    have hz4 := hb4.size
    try simp only [World.size_alloc, size_drewT] at hz4
    try go_simp
    refine hK.out _ _ ?_ (fun hHeld => ?_)
    · exact ⟨hHeld.1.old hb4, hHeld.2.trans (hb4.mono hHeld.2.size)⟩
    clear hK K
    try simp only [zz]
    refine tk 5 291 ?_ rfl (by kernel_rfl) (fun _ _ _ h => h) (by kernel_rfl) ?_ hHeld ?_
    rotate_left
    · intro w1 hSw; have dq : (q : Int) < (2 : Int) + (N : Int) := (by omega); go_simp <;> with_reducible rfl
    try simp only [zz]
    refine st2 6 (fun K hK => ?_)
    have HQ := ((HK.out.old hq).row _ _ _ (.tail _ (.tail _ (.head _))))
    have hcq := (HQ.cell q).trans (mid_get _ _ _ _ (by simp [ints, hzl.out]; omega) hlt)
    have hfq := HQ.free q
    go_simp
    refine hK.out _ _ ?_ (fun hHeld => ?_)
    · exact ⟨hHeld.1.far (by dsimp only; exact hne) _, hHeld.2.setCell (by dsimp only; exact hg32) _⟩
    clear hK K
    try simp only [zz]
    refine wpAnyH_done (by kernel_rfl) ?_ _
    have HN : Hid (KpT W1 [(g32, 3, (ints (zs.take (q + 1)) ++ List.replicate (2 + N - (q + 1)) (.int .i64 0)))] [(Ax, (spanC S)), ((some ⟨b0, off, none⟩), (sgC LA))] (v4.setCell ⟨g32, q, none⟩ (.int .i64 zq))) := by have h := KpT.put HR.out ((HK.out.old hq).sub (rows' := [(g32, 3, (ints (zs.take (q)) ++ List.replicate (2 + N - (q)) (.int .i64 0)))]) (by simp)) hg32 q (.int .i64 zq); rw [hset.out] at h; exact h
    clear hHeld HK
    go_wp2_with fail
    go_roundg (2 + N - (q + 1))
    case measure => omega
    case rel => exact ⟨q + 1, by omega, congrArg (Value.int .i64) (show wrap64 ((q : Int) + 1) = ((q + 1 : Nat) : Int) by have := h8.out; unfold wrap64; omega), HN⟩
  · have hqe : q = 2 + N := by omega
    subst hqe
    have HK2 : Hid (KpT W1 [(g32, 3, (ints zs))] [(Ax, (spanC S)), (Aa, (sgC LA))] wr) := by have h := HK; rw [Nat.sub_self, List.replicate_zero, List.append_nil, List.take_of_length_le (by rw [hzl.out]; exact Nat.le_refl _)] at h; exact h
    clear HK
    have HK := HK2
    clear HK2
    go_wp2_with fail
    refine agrees2 _ (by kernel_rfl) (Lib.hid (HK.out.row _ _ _ (.head _))) hzl (by have := h8.out; unfold Hid; omega) hz3 hS hSl (Lib.hid (HK.out.rd Ax (spanC S) (.head _))) ?_
    intros
    rename_i i2 W2 HC HB2
    have HK2 := Lib.hid (HK.out.old HB2.out)
    clear HK HB2
    have HNX : Hid (∀ p : Nat, i2 ≤ p → p < 2 + N → zs.getD p 1 ≠ 0 ∧ ¬ (p + 1 < zs.length ∧ zs.getD p 1 * zs.getD (p + 1) 1 < 0)) := fun p a b => chI_end HC.out a (by rw [hzl.out]; exact b)
    have HIN : Hid (i2 ≤ 2 + N) := by have h := HC.out.le; rw [hzl.out] at h; exact h
    clear HC
    go_wp2_with fail
    refine agrees8 (L := 2 + N) _ (by kernel_rfl) (show 2 + N = 2 + N from rfl) (Lib.hid (HK2.out.row _ _ _ (.head _))) hzl (by have := h8.out; unfold Hid; omega) hz3 HNX HIN ?_
    intros
    rename_i W3 HB3
    have HZ := Lib.hid (HB0.out.trans ((HK2.out.2.2.2.trans (HB3.out.mono HK2.out.2.2.2.size)).mono HB0.out.size))
    clear HK2 HNX HIN HB3
    go_wp2_with fail
    go_ret
    exact ⟨rfl, HZ.out⟩
end Go.Proofs.YtaknlhepgeiekaaGreatDoor
