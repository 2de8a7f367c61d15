import Derived.Test.YtkfkmnfejeocpaaGreatDoorM18
import Derived.Test.YtkfkmnfejeocpaaGreatDoorM30
import Derived.Maps.OwnOps
import Derived.Maps.Views
/- The law of turns, walked. -/
namespace Go.Proofs.YtkfkmnfejeocpaaGreatDoor
set_option linter.all false
open Go.RowKit Go.Fl
set_option linter.unusedVariables false
set_option linter.unusedSimpArgs false

def TuS (w : World) (Ls Ns va vb : List Value) (W : World) : Prop := Row W w.heap.size 23 Ls ∧ Row W (w.heap.size + 1) 26 Ns ∧ Row W (w.heap.size + 1 + 1) 28 va ∧ Row W (w.heap.size + 1 + 1 + 1) 28 vb ∧ Aw W ∧ Below w.heap.size w W
theorem TuS.keep {w W W' : World} {Ls Ns va vb : List Value} (h : TuS w Ls Ns va vb W) (hb : Below W.heap.size W W') : TuS w Ls Ns va vb W' :=
  ⟨h.1.old hb, h.2.1.old hb, h.2.2.1.old hb, h.2.2.2.1.old hb, h.2.2.2.2.1.old hb, h.2.2.2.2.2.trans (hb.mono h.2.2.2.2.2.size)⟩
theorem TuS.set {w W : World} {Ls Ns va vb : List Value} (h : TuS w Ls Ns va vb W) (i j : Nat) (u v : Value) (hA : Aw ((W.setCell ⟨w.heap.size + 1 + 1, i, none⟩ u).setCell ⟨w.heap.size + 1 + 1 + 1, j, none⟩ v)) : TuS w Ls Ns (va.set i u) (vb.set j v) ((W.setCell ⟨w.heap.size + 1 + 1, i, none⟩ u).setCell ⟨w.heap.size + 1 + 1 + 1, j, none⟩ v) :=
  ⟨(h.1.far (by simp <;> omega) u).far (by simp <;> omega) v, (h.2.1.far (by simp <;> omega) u).far (by simp <;> omega) v, (h.2.2.1.set i u).far (by simp <;> omega) v, (h.2.2.2.1.far (by simp <;> omega) u).set j v, hA, (h.2.2.2.2.2.setCell (by simp <;> omega) u).setCell (by simp <;> omega) v⟩
def zf4 : List Value := [.float .f32 0, .float .f32 0, .float .f32 0, .float .f32 0]
theorem TuS.new {w : World} {Ls Ns : List Value} (hW : Aw w) : TuS w Ls Ns zf4 zf4 ((((w.alloc (.cells Ls.toArray 23)).alloc (.cells Ns.toArray 26)).alloc (.cells zf4.toArray 28)).alloc (.cells zf4.toArray 28)) := by
  have hb : Below w.heap.size w ((((w.alloc (.cells Ls.toArray 23)).alloc (.cells Ns.toArray 26)).alloc (.cells zf4.toArray 28)).alloc (.cells zf4.toArray 28)) :=
    ((((Below.refl _ _).alloc (Nat.le_refl _) _).alloc (by simp) _).alloc (by simp; omega) _).alloc (by simp; omega) _
  have r1 := Row.new (w.alloc (.cells Ls.toArray 23)) 26 Ns
  have r2 := Row.new ((w.alloc (.cells Ls.toArray 23)).alloc (.cells Ns.toArray 26)) 28 zf4
  have r3 := Row.new (((w.alloc (.cells Ls.toArray 23)).alloc (.cells Ns.toArray 26)).alloc (.cells zf4.toArray 28)) 28 zf4
  simp only [World.size_alloc] at r1 r2 r3
  exact ⟨(((Row.new w 23 Ls).alloc _).alloc _).alloc _, (r1.alloc _).alloc _, r2.alloc _, r3, hW.old hb, hb⟩

theorem eqF4x {y0 y1 y2 y3 z0 z1 z2 z3 : Nat} (h : sameF [y0, y1, y2, y3] [z0, z1, z2, z3] = true) (w : World) : (Op.equalIn 10000 28 (.agg #[.float .f32 y0, .float .f32 y1, .float .f32 y2, .float .f32 y3]) (.agg #[.float .f32 z0, .float .f32 z1, .float .f32 z2, .float .f32 z3])).run Tryz.prog w = .ok true w := by
  have hE := eqFloats 9998 28 4 Tryz.underlying28 [y0, y1, y2, y3] [z0, z1, z2, z3] rfl rfl w
  rw [h] at hE
  simp only [flts, List.map_cons, List.map_nil] at hE
  exact hE
theorem same_S4 {y0 y1 y2 y3 a b c d : Nat} {X : List Int} (h : ∀ j (h : j < [y0, y1, y2, y3].length), S [y0, y1, y2, y3][j] (X.getD j 0)) (k : ∀ j (h : j < [a, b, c, d].length), S [a, b, c, d][j] (X.getD j 0)) : sameF [y0, y1, y2, y3] [a, b, c, d] = true := by
  have e : ∀ {x y : Nat} {n : Int}, S x n → S y n → (FloatKind.f32.format.order x y == some .eq) = true := fun hx hy => by rw [S_eq hx hy]; simp
  have e0 : (FloatKind.f32.format.order y0 a == some .eq) = true := e (h 0 (by simp)) (k 0 (by simp))
  have e1 : (FloatKind.f32.format.order y1 b == some .eq) = true := e (h 1 (by simp)) (k 1 (by simp))
  have e2 : (FloatKind.f32.format.order y2 c == some .eq) = true := e (h 2 (by simp)) (k 2 (by simp))
  have e3 : (FloatKind.f32.format.order y3 d == some .eq) = true := e (h 3 (by simp)) (k 3 (by simp))
  simp only [sameF, e0, e1, e2, e3, Bool.and_true]
theorem neqC1 {t j r i : Nat} {f g : Int} (h1 : S t f) (h2 : S j g) (h3 : S r f) (h4 : S i g) (w : World) : (binOp .neq 30 (.complex .f32 t j) (.complex .f32 r i)).run Tryz.prog w = .ok (.bool false) w := by
  have e1 : (FloatKind.f32.format.order t r == some .eq) = true := by rw [S_eq h1 h3]; simp
  have e2 : (FloatKind.f32.format.order j i == some .eq) = true := by rw [S_eq h2 h4]; simp
  simp [binOp, Op.equal, Op.equalIn, Op.complexOp, Op.Complex.cmp, Op.floatCmp, asBool, e1, e2]
theorem bneT {x y : Nat} {n : Int} (hx : S x n) (hy : S y n) : (FloatKind.f32.format.order x y != some .eq) = false := by rw [bne, S_eq hx hy]; simp
set_option maxRecDepth 100000 in
set_option maxHeartbeats 16000000 in
theorem turns_walk (haw : AwakeOk) (l0 l1 l2 l3 mo : Int) (n0 n1 n2 n3 : Nat) (w : World) (haW : Aw w)
    (hl0 : -32768 ≤ l0 ∧ l0 ≤ 32767) (hl1 : -32768 ≤ l1 ∧ l1 ≤ 32767) (hl2 : -32768 ≤ l2 ∧ l2 ≤ 32767) (hl3 : -32768 ≤ l3 ∧ l3 ≤ 32767) (hmo : -128 ≤ mo ∧ mo ≤ 127)
    (hn0 : n0 < 65536) (hn1 : n1 < 65536) (hn2 : n2 < 65536) (hn3 : n3 < 65536)
    (x0 x1 x2 x3 by' : Int) (hx0 : l0.tmod 2001 = x0) (hx1 : l1.tmod 2001 = x1) (hx2 : l2.tmod 2001 = x2) (hx3 : l3.tmod 2001 = x3) (hby : mo.tmod 101 = by') :
    Calls Tryz.prog 3 #[.agg #[.int .i16 l0, .int .i16 l1, .int .i16 l2, .int .i16 l3], .int .i8 mo, .agg #[.int .u16 (n0 : Int), .int .u16 (n1 : Int), .int .u16 (n2 : Int), .int .u16 (n3 : Int)]] w fun e w' => e = .returned (.bool true) ∧ Below w.heap.size w w' := by
  have HS0 := Lib.hid (TuS.new (Ls := [.int .i16 l0, .int .i16 l1, .int .i16 l2, .int .i16 l3]) (Ns := [.int .u16 (n0 : Int), .int .u16 (n1 : Int), .int .u16 (n2 : Int), .int .u16 (n3 : Int)]) haW)
  have HX0 := Lib.hid hx0; have HX1 := Lib.hid hx1; have HX2 := Lib.hid hx2; have HX3 := Lib.hid hx3; have HBY := Lib.hid hby
  have hbd : ∀ l : Int, (l.tmod 2001).natAbs ≤ 2000 := xT_bd
  have bx0 := hbd l0; have bx1 := hbd l1; have bx2 := hbd l2; have bx3 := hbd l3; have bby := byT_bd mo
  rw [hx0] at bx0; rw [hx1] at bx1; rw [hx2] at bx2; rw [hx3] at bx3; rw [hby] at bby
  have HAW := Lib.hid haW
  clear haW hbd hx0 hx1 hx2 hx3
  go_enter Tryz.func3, Tryz.ntmps3
  go_upto_region 2 with fail
  refine genR (TuS w [.int .i16 l0, .int .i16 l1, .int .i16 l2, .int .i16 l3] [.int .u16 (n0 : Int), .int .u16 (n1 : Int), .int .u16 (n2 : Int), .int .u16 (n3 : Int)] zf4 zf4) HS0.out ?_
  clear HS0
  intro W1 s1
  have HS1 := Lib.hid s1
  clear s1
  go_wp2_with fail
  clear hby
  obtain ⟨X, hX⟩ : ∃ X, X = [x0, x1, x2, x3] := ⟨_, rfl⟩
  obtain ⟨Y, hY⟩ : ∃ Y, Y = [x0 + by', x1 + by', x2 + by', x3 + by'] := ⟨_, rfl⟩
  have HXX := Lib.hid hX; have HYY := Lib.hid hY
  have hXb : ∀ k, (X.getD k 0).natAbs ≤ 2000 := by
    intro k
    rw [hX]
    match k with
    | 0 => exact bx0
    | 1 => exact bx1
    | 2 => exact bx2
    | 3 => exact bx3
    | n + 4 => simp
  have HXB := Lib.hid hXb
  have hst : TuS w [.int .i16 l0, .int .i16 l1, .int .i16 l2, .int .i16 l3] [.int .u16 (n0 : Int), .int .u16 (n1 : Int), .int .u16 (n2 : Int), .int .u16 (n3 : Int)] (fA X 0) (fA Y 0) W1 := by
    have e : ∀ Z : List Int, fA Z 0 = zf4 := fun _ => rfl
    rw [e, e]; exact HS1.out
  have HST := Lib.hid hst
  clear hX hY hXb hst HS1
  go_loopg [9, 10, 39] 4 (fun g s9 s10 s39 wr => ∃ k : Nat, k + g = 4 ∧ s39 = .int .i64 k ∧ s9 = .int .i64 (sK X k) ∧ s10 = .int .i64 (qK X k) ∧ Hid (TuS w [.int .i16 l0, .int .i16 l1, .int .i16 l2, .int .i16 l3] [.int .u16 (n0 : Int), .int .u16 (n1 : Int), .int .u16 (n2 : Int), .int .u16 (n3 : Int)] (fA X k) (fA Y k) wr))
  case atStart => exact ⟨0, rfl, rfl, rfl, rfl, HST.out⟩
  case round =>
    obtain ⟨k, hk, rfl, rfl, rfl, hr⟩ := hrel
    clear HST
    by_cases hlt : k < 4
    · 
      obtain ⟨lk, xk, hc, hlb, hm, hxk, hyk⟩ : ∃ lk xk, ([.int .i16 l0, .int .i16 l1, .int .i16 l2, .int .i16 l3] : List Value)[k]? = some (Value.int .i16 lk) ∧ (-32768 ≤ lk ∧ lk ≤ 32767) ∧ lk.tmod 2001 = xk ∧ X.getD k 0 = xk ∧ Y.getD k 0 = xk + by' := by
        rw [HXX.out, HYY.out]
        match k, hlt with
        | 0, _ => exact ⟨l0, x0, rfl, hl0, HX0.out, rfl, rfl⟩
        | 1, _ => exact ⟨l1, x1, rfl, hl1, HX1.out, rfl, rfl⟩
        | 2, _ => exact ⟨l2, x2, rfl, hl2, HX2.out, rfl, rfl⟩
        | 3, _ => exact ⟨l3, x3, rfl, hl3, HX3.out, rfl, rfl⟩
      have hxb : xk.natAbs ≤ 2000 := by rw [← hxk]; exact HXB.out k
      have hsb := sK_bd HXB.out k
      have hqb := qK_bd HXB.out k
      obtain ⟨sk, hsk⟩ : ∃ sk, sK X k = sk := ⟨_, rfl⟩
      obtain ⟨qk, hqk⟩ : ∃ qk, qK X k = qk := ⟨_, rfl⟩
      have hs1 : sK X (k + 1) = sk + xk := by rw [sK, hxk, hsk]
      have hq1 : qK X (k + 1) = qk + xk * xk := by rw [qK, hxk, hqk]
      have hsq := sq_bd (x := xk) (m := 2000) (by omega)
      obtain ⟨p, hp⟩ : ∃ p, xk * xk = p := ⟨_, rfl⟩
      rw [hsk] at hsb ⊢; rw [hqk] at hqb ⊢; rw [hp] at hsq hq1
      have HS1 := Lib.hid hs1; have HQ1 := Lib.hid hq1; have HM := Lib.hid hm; have HXK := Lib.hid hxk; have HYK := Lib.hid hyk
      have i1 : IntKind.i64.wrap (xk * xk) = p := by rw [hp]; exact IntWalk.i64_in _ (by omega)
      have hcell : wr.cell? ⟨w.heap.size, k, none⟩ = some (.int .i16 lk) := by rw [hr.out.1.cell]; exact hc
      have hf1 := hr.out.2.2.1.free k
      have hf2 := hr.out.2.2.2.1.free k
      have hk4 : (k : Int) < 4 := by omega
      have c1 := hr.out.2.2.1.cellAt (j := k) (by rw [fA_len]; exact hlt)
      have c2 := hr.out.2.2.2.1.cellAt (j := k) (by rw [fA_len]; exact hlt)
      have HSA : Hid (∀ W, Calls Tryz.prog 8 #[.int .i64 xk] W fun e w' => e = .returned (.float .f32 (fb xk)) ∧ W = w') := fun W => sample_any xk W (by omega)
      have HSB : Hid (∀ W, Calls Tryz.prog 8 #[.int .i64 (xk + by')] W fun e w' => e = .returned (.float .f32 (fb (xk + by'))) ∧ W = w') := fun W => sample_any (xk + by') W (by omega)
      clear hsk hqk hs1 hq1 hp hxk hyk hc
      obtain ⟨o1, ho1⟩ : ∃ o1, o1 = (fA X k)[k]'(by rw [fA_len]; exact hlt) := ⟨_, rfl⟩
      obtain ⟨o2, ho2⟩ : ∃ o2, o2 = (fA Y k)[k]'(by rw [fA_len]; exact hlt) := ⟨_, rfl⟩
      rw [← ho1] at c1; rw [← ho2] at c2
      clear ho1 ho2
      go_wp2_with (first
        | (have hz := HM.out; clear hz; go_at_call 8; refine (HSA.out _).mono ?_; rintro e w' ⟨rfl, rfl⟩; clear HM)
        | (go_at_call 8; refine (HSB.out _).mono ?_; rintro e w' ⟨rfl, rfl⟩))
      go_roundg (3 - k)
      case measure => omega
      case rel =>
        refine ⟨k + 1, by omega, rfl, by rw [HS1.out], by rw [HQ1.out], ?_⟩
        have h := hr.out.set k k (.float .f32 (fb xk)) (.float .f32 (fb (xk + by'))) (HAW.out.old ((hr.out.2.2.2.2.2.setCell (by simp; omega) _).setCell (by simp; omega) _))
        have e1 := fA_set X k hlt
        have e2 := fA_set Y k hlt
        rw [HXK.out] at e1
        rw [HYK.out] at e2
        rw [e1, e2] at h
        exact h
    · obtain rfl : k = 4 := by omega
      have hs4 : sK X 4 = x0 + x1 + x2 + x3 := by rw [HXX.out]; simp [sK]
      have hq4 : qK X 4 = x0 * x0 + x1 * x1 + x2 * x2 + x3 * x3 := by rw [HXX.out]; simp [qK]
      have hst : TuS w [.int .i16 l0, .int .i16 l1, .int .i16 l2, .int .i16 l3] [.int .u16 (n0 : Int), .int .u16 (n1 : Int), .int .u16 (n2 : Int), .int .u16 (n3 : Int)] (flts (fbs [x0, x1, x2, x3])) (flts (fbs [x0 + by', x1 + by', x2 + by', x3 + by'])) wr := by
        have h := hr.out
        rw [HXX.out, HYY.out, fA_all, fA_all] at h
        exact h
      have hq4b := qK_bd HXB.out 4
      obtain ⟨q4, hq4'⟩ : ∃ q4, qK X 4 = q4 := ⟨_, rfl⟩
      rw [hs4, hq4']
      rw [hq4'] at hq4b
      have HQ4 := Lib.hid (hq4'.symm.trans hq4)
      have HS := Lib.hid hst
      clear hs4 hq4' hq4 hst hr HX0 HX1 HX2 HX3 HXX HYY HXB HBY
      go_upto_region 10 with fail
      have HFA : Hid (Calls Tryz.prog 9 #[.agg #[.float .f32 (fb x0), .float .f32 (fb x1), .float .f32 (fb x2), .float .f32 (fb x3)]] wr fun e w' => ∃ r0 i0 r1 i1 r2 i2 r3 i3, e = .returned (.tuple #[.agg #[.complex .f32 r0 i0, .complex .f32 r1 i1, .complex .f32 r2 i2, .complex .f32 r3 i3], .int .i64 0]) ∧ CxP [x0, x1, x2, x3] r0 i0 r1 i1 r2 i2 r3 i3 ∧ Below wr.heap.size wr w') := four_law x0 x1 x2 x3 wr HS.out.2.2.2.2.1.pw (by omega) (by omega) (by omega) (by omega)
      have HFB : Hid (∀ W, Aw W → Calls Tryz.prog 9 #[.agg #[.float .f32 (fb (x0 + by')), .float .f32 (fb (x1 + by')), .float .f32 (fb (x2 + by')), .float .f32 (fb (x3 + by'))]] W fun e w' => ∃ r0 i0 r1 i1 r2 i2 r3 i3, e = .returned (.tuple #[.agg #[.complex .f32 r0 i0, .complex .f32 r1 i1, .complex .f32 r2 i2, .complex .f32 r3 i3], .int .i64 0]) ∧ CxP [x0 + by', x1 + by', x2 + by', x3 + by'] r0 i0 r1 i1 r2 i2 r3 i3 ∧ Below W.heap.size W w') := fun W h => four_law (x0 + by') (x1 + by') (x2 + by') (x3 + by') W h.pw (by omega) (by omega) (by omega) (by omega)
      go_cut [14, 15] from 66 to 71 (fun s14 s15 wx => ∃ (gp r0 i0 r1 i1 r2 i2 r3 i3 : Nat), s14 = .pointer (some ⟨gp, 0, none⟩) ∧ s15 = .int .i64 0 ∧ Row wx gp 31 (cxs [(r0, i0), (r1, i1), (r2, i2), (r3, i3)]) ∧ CxP [x0, x1, x2, x3] r0 i0 r1 i1 r2 i2 r3 i3 ∧ Below wr.heap.size wr wx)
      case first => as_aux_lemma =>
        go_wp2_with (first
          | (refine wpList_load_row rfl 28 _ rfl (w.heap.size + 1 + 1) rfl 28 #[.float .f32 (fb x0), .float .f32 (fb x1), .float .f32 (fb x2), .float .f32 (fb x3)] (0, 0) _ HS.out.2.2.1 Tryz.underlying28 rfl ?_ ?_; (kernel_rfl))
          | (go_at_call 9; refine HFA.out.mono ?_; rintro e w1 ⟨r0, i0, r1, i1, r2, i2, r3, i3, rfl, hcx, hb1⟩; have HCX := Lib.hid hcx; have HB1 := Lib.hid hb1; clear hcx hb1)
          | (refine wpList_store_row rfl 31 _ _ rfl w1.heap.size #[.complex .f32 r0 i0, .complex .f32 r1 i1, .complex .f32 r2 i2, .complex .f32 r3 i3] rfl rfl 31 _ (Row.new w1 31 (cxs [(0, 0), (0, 0), (0, 0), (0, 0)])) ?_ ?_ ?_ ?_; (kernel_rfl); rfl; (simp [Value.oneCell'])))
        go_meet
        exact ⟨_, r0, i0, r1, i1, r2, i2, r3, i3, rfl, rfl, (Row.new w1 31 (cxs [(0, 0), (0, 0), (0, 0), (0, 0)])).setRow (cxs [(r0, i0), (r1, i1), (r2, i2), (r3, i3)]), HCX.out, Below.setRow (HB1.out.alloc HB1.out.size _) HB1.out.size _⟩
      case rest =>
      obtain ⟨gp, r0, i0, r1, i1, r2, i2, r3, i3, rfl, rfl, hrp, hcx, hb⟩ := hcut
      have HS' := Lib.hid (HS.out.keep hb); have HRP := Lib.hid hrp; have HCX := Lib.hid hcx
      have HQB := Lib.hid hq4b
      clear HS hrp hcx hb HFA hq4b
      have HS := HS'
      clear HS'
      obtain ⟨W2, hW⟩ : ∃ W2 : World, W2 = wc := ⟨_, rfl⟩
      subst hW
      go_upto_region 11 with fail
      go_cut [16, 17] from 71 to 76 (fun s16 s17 wx => ∃ (gq t0 j0 t1 j1 t2 j2 t3 j3 : Nat), s16 = .pointer (some ⟨gq, 0, none⟩) ∧ s17 = .int .i64 0 ∧ Row wx gq 31 (cxs [(t0, j0), (t1, j1), (t2, j2), (t3, j3)]) ∧ CxP [x0 + by', x1 + by', x2 + by', x3 + by'] t0 j0 t1 j1 t2 j2 t3 j3 ∧ Below W2.heap.size W2 wx)
      case first => as_aux_lemma =>
        go_wp2_with (first
          | (refine wpList_load_row rfl 28 _ rfl (w.heap.size + 1 + 1 + 1) rfl 28 #[.float .f32 (fb (x0 + by')), .float .f32 (fb (x1 + by')), .float .f32 (fb (x2 + by')), .float .f32 (fb (x3 + by'))] (0, 0) _ HS.out.2.2.2.1 Tryz.underlying28 rfl ?_ ?_; (kernel_rfl))
          | (go_at_call 9; refine (HFB.out _ HS.out.2.2.2.2.1).mono ?_; rintro e w1 ⟨t0, j0, t1, j1, t2, j2, t3, j3, rfl, hcy, hb1⟩; have HCY := Lib.hid hcy; have HB1 := Lib.hid hb1; clear hcy hb1)
          | (refine wpList_store_row rfl 31 _ _ rfl w1.heap.size #[.complex .f32 t0 j0, .complex .f32 t1 j1, .complex .f32 t2 j2, .complex .f32 t3 j3] rfl rfl 31 _ (Row.new w1 31 (cxs [(0, 0), (0, 0), (0, 0), (0, 0)])) ?_ ?_ ?_ ?_; (kernel_rfl); rfl; (simp [Value.oneCell'])))
        go_meet
        exact ⟨_, t0, j0, t1, j1, t2, j2, t3, j3, rfl, rfl, (Row.new w1 31 (cxs [(0, 0), (0, 0), (0, 0), (0, 0)])).setRow (cxs [(t0, j0), (t1, j1), (t2, j2), (t3, j3)]), HCY.out, Below.setRow (HB1.out.alloc HB1.out.size _) HB1.out.size _⟩
      case rest =>
      obtain ⟨gq, t0, j0, t1, j1, t2, j2, t3, j3, rfl, rfl, hrq, hcy, hb⟩ := hcut
      have HS' := Lib.hid (HS.out.keep hb); have HRP' := Lib.hid (HRP.out.old hb); have HRQ := Lib.hid hrq; have HCY := Lib.hid hcy
      clear HS HRP hrq hcy hb HFB
      have HS := HS'; have HRP := HRP'
      clear HS' HRP'
      obtain ⟨W3, hW⟩ : ∃ W3 : World, W3 = wc := ⟨_, rfl⟩
      subst hW
      go_upto_region 12 with fail
      go_cut [91] from 76 to 92 (fun s91 wx => s91 = .bool false ∧ Below W3.heap.size W3 wx)
      case first => as_aux_lemma =>
        have p0 := HRP.out.cell 0; have p1 := HRP.out.cell 1; have p2 := HRP.out.cell 2; have p3 := HRP.out.cell 3; simp only [cxs, List.map_cons, List.map_nil, List.getElem?_cons_succ, List.getElem?_cons_zero] at p0 p1 p2 p3
        go_wp2_with (first
          | (have hz := HB2.out; clear hz; go_at_call 10; refine (checkPanel_law (four_bd (M := 16384) (by omega) (by omega) (by omega) (by omega)) HCY.out _).mono ?_; rintro e w5 ⟨rfl, hb5⟩; have HB5 := Lib.hid (HB2.out.trans (hb5.mono HB2.out.size)); clear hb5)
          | (go_at_call 10; refine (checkPanel_law (four_bd (M := 16384) (by omega) (by omega) (by omega) (by omega)) HCX.out _).mono ?_; rintro e w4 ⟨rfl, hb4⟩; have HB2 := Lib.hid hb4; clear hb4; have HRQ2 := Lib.hid (HRQ.out.old HB2.out); have q0 := HRQ2.out.cell 0; have q1 := HRQ2.out.cell 1; have q2 := HRQ2.out.cell 2; have q3 := HRQ2.out.cell 3; simp only [cxs, List.map_cons, List.map_nil, List.getElem?_cons_succ, List.getElem?_cons_zero] at q0 q1 q2 q3))
        go_meet
        exact ⟨rfl, HB5.out⟩
      case rest =>
      obtain ⟨rfl, hb⟩ := hcut
      have HS' := Lib.hid (HS.out.keep hb); have HRP' := Lib.hid (HRP.out.old hb); have HRQ' := Lib.hid (HRQ.out.old hb)
      clear HS HRP HRQ hb
      have HS := HS'; have HRP := HRP'; have HRQ := HRQ'
      clear HS' HRP' HRQ'
      obtain ⟨W4, hW⟩ : ∃ W4 : World, W4 = wc := ⟨_, rfl⟩
      subst hW
      go_upto_region 14 with fail
      go_cut [18, 19] from 92 to 97 (fun s18 s19 wx => ∃ (gs y0 y1 y2 y3 : Nat), s18 = .pointer (some ⟨gs, 0, none⟩) ∧ s19 = .int .i64 0 ∧ Row wx gs 28 (flts [y0, y1, y2, y3]) ∧ (∀ j (h : j < [y0, y1, y2, y3].length), S [y0, y1, y2, y3][j] ([x0, x1, x2, x3].getD j 0)) ∧ Below W4.heap.size W4 wx)
      case first => as_aux_lemma =>
        have HUN : Hid (∀ W, Aw W → Calls Tryz.prog 11 #[.agg #[.complex .f32 r0 i0, .complex .f32 r1 i1, .complex .f32 r2 i2, .complex .f32 r3 i3]] W fun e w' => ∃ y0 y1 y2 y3, e = .returned (.tuple #[.agg #[.float .f32 y0, .float .f32 y1, .float .f32 y2, .float .f32 y3], .int .i64 0]) ∧ (∀ j (h : j < [y0, y1, y2, y3].length), S [y0, y1, y2, y3][j] ([x0, x1, x2, x3].getD j 0)) ∧ Below W.heap.size W w') := fun W h => unfour_law (four_bd (M := 16384) (by omega) (by omega) (by omega) (by omega)) HCX.out W h.pw
        go_wp2_with (first
          | (refine wpList_load_row rfl 31 _ rfl gp rfl 31 #[.complex .f32 r0 i0, .complex .f32 r1 i1, .complex .f32 r2 i2, .complex .f32 r3 i3] (0, 0) _ HRP.out Tryz.underlying31 rfl ?_ ?_; (kernel_rfl))
          | (go_at_call 11; refine (HUN.out _ HS.out.2.2.2.2.1).mono ?_; rintro e w1 ⟨y0, y1, y2, y3, rfl, hy, hb1⟩; have HY := Lib.hid hy; have HB1 := Lib.hid hb1; clear hy hb1)
          | (refine wpList_store_row rfl 28 _ _ rfl w1.heap.size #[.float .f32 y0, .float .f32 y1, .float .f32 y2, .float .f32 y3] rfl rfl 28 _ (Row.new w1 28 zf4) ?_ ?_ ?_ ?_; (kernel_rfl); rfl; (simp [Value.oneCell'])))
        go_meet
        exact ⟨_, y0, y1, y2, y3, rfl, rfl, (Row.new w1 28 zf4).setRow (flts [y0, y1, y2, y3]), HY.out, Below.setRow (HB1.out.alloc HB1.out.size _) HB1.out.size _⟩
      case rest =>
      obtain ⟨gs, y0, y1, y2, y3, rfl, rfl, hrs, hys, hb⟩ := hcut
      have HS' := Lib.hid (HS.out.keep hb); have HRP' := Lib.hid (HRP.out.old hb); have HRQ' := Lib.hid (HRQ.out.old hb); have HRS := Lib.hid hrs; have HYS := Lib.hid hys
      clear HS HRP HRQ hb hrs hys
      have HS := HS'; have HRP := HRP'; have HRQ := HRQ'
      clear HS' HRP' HRQ'
      obtain ⟨W5, hW⟩ : ∃ W5 : World, W5 = wc := ⟨_, rfl⟩
      subst hW
      go_upto_region 15 with fail
      go_cut [128] from 97 to 129 (fun s128 wx => s128 = .bool false ∧ Below W5.heap.size W5 wx)
      case first => as_aux_lemma =>
        have HNQ : Hid (∀ w1 : World, (Op.equalIn 10000 28 (.agg #[.float .f32 y0, .float .f32 y1, .float .f32 y2, .float .f32 y3]) (.agg #[.float .f32 (fb x0), .float .f32 (fb x1), .float .f32 (fb x2), .float .f32 (fb x3)])).run Tryz.prog w1 = .ok true w1) := eqF4x (same_S4 HYS.out (four_S (by omega) (by omega) (by omega) (by omega)))
        have HSM : Hid (∀ W, Calls Tryz.prog 8 #[.int .i64 (x0 + x1 + x2 + x3)] W fun e w' => e = .returned (.float .f32 (fb (x0 + x1 + x2 + x3))) ∧ W = w') := fun W => sample_any (x0 + x1 + x2 + x3) W (by omega)
        have HSN : Hid (∀ W, Calls Tryz.prog 8 #[.int .i64 (x0 + x1 + x2 + x3 + 4 * by')] W fun e w' => e = .returned (.float .f32 (fb (x0 + x1 + x2 + x3 + 4 * by'))) ∧ W = w') := fun W => sample_any (x0 + x1 + x2 + x3 + 4 * by') W (by omega)
        have hr0 : S r0 (x0 + x1 + x2 + x3) := by have h := (HCX.out 0 (by simp)).1; rw [four0] at h; exact h
        have hi0 : S i0 0 := by have h := (HCX.out 0 (by simp)).2; rw [four0] at h; exact h
        have ht0 : S t0 (x0 + x1 + x2 + x3 + 4 * by') := by
          have h := (HCY.out 0 (by simp)).1; rw [four0] at h
          rw [show x0 + x1 + x2 + x3 + 4 * by' = x0 + by' + (x1 + by') + (x2 + by') + (x3 + by') by omega]; exact h
        have m1 := bneT hr0 (S_fb (n := x0 + x1 + x2 + x3) (by omega))
        have m2 := bneT hi0 S.zero
        have m3 := bneT ht0 (S_fb (n := x0 + x1 + x2 + x3 + 4 * by') (by omega))
        have wq1 : IntKind.i64.wrap (4 * by') = 4 * by' := IntWalk.i64_in _ (by omega)
        have wq2 : IntKind.i64.wrap (x0 + x1 + x2 + x3 + 4 * by') = x0 + x1 + x2 + x3 + 4 * by' := IntWalk.i64_in _ (by omega)
        clear hr0 hi0 ht0
        refine wp_region_held_drew (S := fun V => Below W5.heap.size W5 V) (by kernel_rfl) ?_ (fun hHeld => ?_)
        · exact (Below.refl _ _).drew
        refine wpAnyH_take (i := 0) (oi := ⟨some 97, _, _, _, _, _⟩) (v := ?_) rfl (by kernel_rfl) (by kernel_rfl) (by kernel_rfl) (fun _ _ _ h => h) (Or.inl ⟨by kernel_rfl, ?_⟩) hHeld ?_
        rotate_left
        · intro w1 hSw; (try dsimp only at hSw); go_simp <;> with_reducible rfl
        try simp only [Act.put, List.setIfInBounds_toArray, List.set_cons_zero, List.set_cons_succ]
        refine wpAnyH_take (i := 1) (oi := ⟨some 98, _, _, _, _, _⟩) (v := ?_) rfl (by kernel_rfl) (by kernel_rfl) (by kernel_rfl) (fun _ _ _ h => h) (Or.inl ⟨by kernel_rfl, ?_⟩) hHeld ?_
        rotate_left
        · intro w1 hSw; (try dsimp only at hSw); go_simp <;> with_reducible rfl
        try simp only [Act.put, List.setIfInBounds_toArray, List.set_cons_zero, List.set_cons_succ]
        refine wpAnyH_take (i := 2) (oi := ⟨some 99, _, _, _, _, _⟩) (v := ?_) rfl (by kernel_rfl) (by kernel_rfl) (by kernel_rfl) (fun _ _ _ h => h) (Or.inl ⟨by kernel_rfl, ?_⟩) hHeld ?_
        rotate_left
        · intro w1 hSw; (try dsimp only at hSw); go_simp <;> with_reducible rfl
        try simp only [Act.put, List.setIfInBounds_toArray, List.set_cons_zero, List.set_cons_succ]
        refine wpAnyH_take (i := 3) (oi := ⟨some 100, _, _, _, _, _⟩) (v := .agg #[.float .f32 y0, .float .f32 y1, .float .f32 y2, .float .f32 y3]) rfl (by kernel_rfl) (by kernel_rfl) (by kernel_rfl) (fun _ _ _ h => h) (Or.inl ⟨by kernel_rfl, fun V hV => ex_row2 28 _ rfl gs rfl 28 [.float .f32 y0, .float .f32 y1, .float .f32 y2, .float .f32 y3] _ Tryz.underlying28 rfl (by kernel_rfl) (HRS.out.old hV)⟩) hHeld ?_
        try simp only [Act.put, List.setIfInBounds_toArray, List.set_cons_zero, List.set_cons_succ]
        refine wpAnyH_take (i := 4) (oi := ⟨some 101, _, _, _, _, _⟩) (v := .agg #[.float .f32 (fb x0), .float .f32 (fb x1), .float .f32 (fb x2), .float .f32 (fb x3)]) rfl (by kernel_rfl) (by kernel_rfl) (by kernel_rfl) (fun _ _ _ h => h) (Or.inl ⟨by kernel_rfl, fun V hV => ex_row2 28 _ rfl (w.heap.size + 1 + 1) rfl 28 [.float .f32 (fb x0), .float .f32 (fb x1), .float .f32 (fb x2), .float .f32 (fb x3)] _ Tryz.underlying28 rfl (by kernel_rfl) ((HS.out.keep hV).2.2.1)⟩) hHeld ?_
        try simp only [Act.put, List.setIfInBounds_toArray, List.set_cons_zero, List.set_cons_succ]
        refine wpAnyH_take (i := 5) (oi := ⟨some 102, _, _, _, _, _⟩) (v := ?_) rfl (by kernel_rfl) (by kernel_rfl) (by kernel_rfl) (fun _ _ _ h => h) (Or.inl ⟨by kernel_rfl, ?_⟩) hHeld ?_
        rotate_left
        · intro w1 hSw; have nq := HNQ.out w1; go_simp <;> with_reducible rfl
        try simp only [Act.put, List.setIfInBounds_toArray, List.set_cons_zero, List.set_cons_succ]
        refine wpAnyH_take (i := 6) (oi := ⟨some 103, _, _, _, _, _⟩) (v := ?_) rfl (by kernel_rfl) (by kernel_rfl) (by kernel_rfl) (fun _ _ _ h => h) (Or.inl ⟨by kernel_rfl, ?_⟩) hHeld ?_
        rotate_left
        · intro w1 hSw; (try dsimp only at hSw); go_simp <;> with_reducible rfl
        try simp only [Act.put, List.setIfInBounds_toArray, List.set_cons_zero, List.set_cons_succ]
        refine wpAnyH_take (i := 7) (oi := ⟨some 104, _, _, _, _, _⟩) (v := ?_) rfl (by kernel_rfl) (by kernel_rfl) (by kernel_rfl) (fun _ _ _ h => h) (Or.inl ⟨by kernel_rfl, ?_⟩) hHeld ?_
        rotate_left
        · intro w1 hSw; (try dsimp only at hSw); go_simp <;> with_reducible rfl
        try simp only [Act.put, List.setIfInBounds_toArray, List.set_cons_zero, List.set_cons_succ]
        refine wpAnyH_take (i := 8) (oi := ⟨some 105, _, _, _, _, _⟩) (v := ?_) rfl (by kernel_rfl) (by kernel_rfl) (by kernel_rfl) (fun _ _ _ h => h) (Or.inl ⟨by kernel_rfl, ?_⟩) hHeld ?_
        rotate_left
        · intro w1 hSw; (try dsimp only at hSw); go_simp <;> with_reducible rfl
        try simp only [Act.put, List.setIfInBounds_toArray, List.set_cons_zero, List.set_cons_succ]
        refine wpAnyH_take (i := 9) (oi := ⟨some 106, _, _, _, _, _⟩) (v := ?_) rfl (by kernel_rfl) (by kernel_rfl) (by kernel_rfl) (fun _ _ _ h => h) (Or.inl ⟨by kernel_rfl, ?_⟩) hHeld ?_
        rotate_left
        · intro w1 hSw; (try dsimp only at hSw); have cc := (HRP.out.old hSw).cell 0; simp only [cxs, flts, List.map_cons, List.map_nil, List.getElem?_cons_succ, List.getElem?_cons_zero] at cc; go_simp <;> with_reducible rfl
        try simp only [Act.put, List.setIfInBounds_toArray, List.set_cons_zero, List.set_cons_succ]
        refine wpAnyH_take (i := 10) (oi := ⟨some 107, _, _, _, _, _⟩) (v := ?_) rfl (by kernel_rfl) (by kernel_rfl) (by kernel_rfl) (fun _ _ _ h => h) (Or.inl ⟨by kernel_rfl, ?_⟩) hHeld ?_
        rotate_left
        · intro w1 hSw; (try dsimp only at hSw); go_simp <;> with_reducible rfl
        try simp only [Act.put, List.setIfInBounds_toArray, List.set_cons_zero, List.set_cons_succ]
        refine wpAnyH_take (i := 11) (oi := ⟨some 108, _, _, _, _, _⟩) (v := ?_) rfl (by kernel_rfl) (by kernel_rfl) (by kernel_rfl) (fun _ _ _ h => h) (Or.inl ⟨by kernel_rfl, ?_⟩) hHeld ?_
        rotate_left
        · intro w1 hSw; (try dsimp only at hSw); go_simp <;> with_reducible rfl
        try simp only [Act.put, List.setIfInBounds_toArray, List.set_cons_zero, List.set_cons_succ]
        refine wpAnyH_ready (rs := [12]) (by kernel_rfl) (by simp) ?_
        refine AllReadyH.cons rfl (fun K hK => ?_) AllReadyH.nil
        go_simp
        go_at_call 8
        refine (HSM.out _).mono ?_
        rintro e w1 ⟨rfl, rfl⟩
        try go_simp
        refine hK.out _ _ ?_ (fun hHeld => ?_)
        · exact hHeld
        clear hK K
        try simp only [Act.put, List.setIfInBounds_toArray, List.set_cons_zero, List.set_cons_succ]
        refine wpAnyH_take (i := 13) (oi := ⟨some 110, _, _, _, _, _⟩) (v := ?_) rfl (by kernel_rfl) (by kernel_rfl) (by kernel_rfl) (fun _ _ _ h => h) (Or.inl ⟨by kernel_rfl, ?_⟩) hHeld ?_
        rotate_left
        · intro w1 hSw; (try dsimp only at hSw); go_simp <;> with_reducible rfl
        try simp only [Act.put, List.setIfInBounds_toArray, List.set_cons_zero, List.set_cons_succ]
        refine wpAnyH_take (i := 14) (oi := ⟨some 111, _, _, _, _, _⟩) (v := ?_) rfl (by kernel_rfl) (by kernel_rfl) (by kernel_rfl) (fun _ _ _ h => h) (Or.inl ⟨by kernel_rfl, ?_⟩) hHeld ?_
        rotate_left
        · intro w1 hSw; (try dsimp only at hSw); go_simp <;> with_reducible rfl
        try simp only [Act.put, List.setIfInBounds_toArray, List.set_cons_zero, List.set_cons_succ]
        refine wpAnyH_take (i := 15) (oi := ⟨some 112, _, _, _, _, _⟩) (v := ?_) rfl (by kernel_rfl) (by kernel_rfl) (by kernel_rfl) (fun _ _ _ h => h) (Or.inl ⟨by kernel_rfl, ?_⟩) hHeld ?_
        rotate_left
        · intro w1 hSw; (try dsimp only at hSw); go_simp <;> with_reducible rfl
        try simp only [Act.put, List.setIfInBounds_toArray, List.set_cons_zero, List.set_cons_succ]
        refine wpAnyH_take (i := 16) (oi := ⟨some 113, _, _, _, _, _⟩) (v := ?_) rfl (by kernel_rfl) (by kernel_rfl) (by kernel_rfl) (fun _ _ _ h => h) (Or.inl ⟨by kernel_rfl, ?_⟩) hHeld ?_
        rotate_left
        · intro w1 hSw; (try dsimp only at hSw); go_simp <;> with_reducible rfl
        try simp only [Act.put, List.setIfInBounds_toArray, List.set_cons_zero, List.set_cons_succ]
        refine wpAnyH_take (i := 17) (oi := ⟨some 114, _, _, _, _, _⟩) (v := ?_) rfl (by kernel_rfl) (by kernel_rfl) (by kernel_rfl) (fun _ _ _ h => h) (Or.inl ⟨by kernel_rfl, ?_⟩) hHeld ?_
        rotate_left
        · intro w1 hSw; (try dsimp only at hSw); have cc := (HRP.out.old hSw).cell 0; simp only [cxs, flts, List.map_cons, List.map_nil, List.getElem?_cons_succ, List.getElem?_cons_zero] at cc; go_simp <;> with_reducible rfl
        try simp only [Act.put, List.setIfInBounds_toArray, List.set_cons_zero, List.set_cons_succ]
        refine wpAnyH_take (i := 18) (oi := ⟨some 115, _, _, _, _, _⟩) (v := ?_) rfl (by kernel_rfl) (by kernel_rfl) (by kernel_rfl) (fun _ _ _ h => h) (Or.inl ⟨by kernel_rfl, ?_⟩) hHeld ?_
        rotate_left
        · intro w1 hSw; (try dsimp only at hSw); go_simp <;> with_reducible rfl
        try simp only [Act.put, List.setIfInBounds_toArray, List.set_cons_zero, List.set_cons_succ]
        refine wpAnyH_take (i := 19) (oi := ⟨some 116, _, _, _, _, _⟩) (v := ?_) rfl (by kernel_rfl) (by kernel_rfl) (by kernel_rfl) (fun _ _ _ h => h) (Or.inl ⟨by kernel_rfl, ?_⟩) hHeld ?_
        rotate_left
        · intro w1 hSw; (try dsimp only at hSw); go_simp <;> with_reducible rfl
        try simp only [Act.put, List.setIfInBounds_toArray, List.set_cons_zero, List.set_cons_succ]
        refine wpAnyH_take (i := 20) (oi := ⟨some 117, _, _, _, _, _⟩) (v := ?_) rfl (by kernel_rfl) (by kernel_rfl) (by kernel_rfl) (fun _ _ _ h => h) (Or.inl ⟨by kernel_rfl, ?_⟩) hHeld ?_
        rotate_left
        · intro w1 hSw; (try dsimp only at hSw); go_simp <;> with_reducible rfl
        try simp only [Act.put, List.setIfInBounds_toArray, List.set_cons_zero, List.set_cons_succ]
        refine wpAnyH_take (i := 21) (oi := ⟨some 118, _, _, _, _, _⟩) (v := ?_) rfl (by kernel_rfl) (by kernel_rfl) (by kernel_rfl) (fun _ _ _ h => h) (Or.inl ⟨by kernel_rfl, ?_⟩) hHeld ?_
        rotate_left
        · intro w1 hSw; (try dsimp only at hSw); go_simp <;> with_reducible rfl
        try simp only [Act.put, List.setIfInBounds_toArray, List.set_cons_zero, List.set_cons_succ]
        refine wpAnyH_take (i := 22) (oi := ⟨some 119, _, _, _, _, _⟩) (v := ?_) rfl (by kernel_rfl) (by kernel_rfl) (by kernel_rfl) (fun _ _ _ h => h) (Or.inl ⟨by kernel_rfl, ?_⟩) hHeld ?_
        rotate_left
        · intro w1 hSw; (try dsimp only at hSw); go_simp <;> with_reducible rfl
        try simp only [Act.put, List.setIfInBounds_toArray, List.set_cons_zero, List.set_cons_succ]
        refine wpAnyH_take (i := 23) (oi := ⟨some 120, _, _, _, _, _⟩) (v := ?_) rfl (by kernel_rfl) (by kernel_rfl) (by kernel_rfl) (fun _ _ _ h => h) (Or.inl ⟨by kernel_rfl, ?_⟩) hHeld ?_
        rotate_left
        · intro w1 hSw; (try dsimp only at hSw); have cc := (HRQ.out.old hSw).cell 0; simp only [cxs, flts, List.map_cons, List.map_nil, List.getElem?_cons_succ, List.getElem?_cons_zero] at cc; go_simp <;> with_reducible rfl
        try simp only [Act.put, List.setIfInBounds_toArray, List.set_cons_zero, List.set_cons_succ]
        refine wpAnyH_take (i := 24) (oi := ⟨some 121, _, _, _, _, _⟩) (v := ?_) rfl (by kernel_rfl) (by kernel_rfl) (by kernel_rfl) (fun _ _ _ h => h) (Or.inl ⟨by kernel_rfl, ?_⟩) hHeld ?_
        rotate_left
        · intro w1 hSw; (try dsimp only at hSw); go_simp <;> with_reducible rfl
        try simp only [Act.put, List.setIfInBounds_toArray, List.set_cons_zero, List.set_cons_succ]
        refine wpAnyH_take (i := 25) (oi := ⟨some 122, _, _, _, _, _⟩) (v := ?_) rfl (by kernel_rfl) (by kernel_rfl) (by kernel_rfl) (fun _ _ _ h => h) (Or.inl ⟨by kernel_rfl, ?_⟩) hHeld ?_
        rotate_left
        · intro w1 hSw; (try dsimp only at hSw); go_simp <;> with_reducible rfl
        try simp only [Act.put, List.setIfInBounds_toArray, List.set_cons_zero, List.set_cons_succ]
        refine wpAnyH_take (i := 26) (oi := ⟨some 123, _, _, _, _, _⟩) (v := ?_) rfl (by kernel_rfl) (by kernel_rfl) (by kernel_rfl) (fun _ _ _ h => h) (Or.inl ⟨by kernel_rfl, ?_⟩) hHeld ?_
        rotate_left
        · intro w1 hSw; (try dsimp only at hSw); go_simp <;> with_reducible rfl
        try simp only [Act.put, List.setIfInBounds_toArray, List.set_cons_zero, List.set_cons_succ]
        refine wpAnyH_take (i := 27) (oi := ⟨some 124, _, _, _, _, _⟩) (v := ?_) rfl (by kernel_rfl) (by kernel_rfl) (by kernel_rfl) (fun _ _ _ h => h) (Or.inl ⟨by kernel_rfl, ?_⟩) hHeld ?_
        rotate_left
        · intro w1 hSw; (try dsimp only at hSw); go_simp <;> with_reducible rfl
        try simp only [Act.put, List.setIfInBounds_toArray, List.set_cons_zero, List.set_cons_succ]
        refine wpAnyH_take (i := 28) (oi := ⟨some 125, _, _, _, _, _⟩) (v := ?_) rfl (by kernel_rfl) (by kernel_rfl) (by kernel_rfl) (fun _ _ _ h => h) (Or.inl ⟨by kernel_rfl, ?_⟩) hHeld ?_
        rotate_left
        · intro w1 hSw; (try dsimp only at hSw); go_simp <;> with_reducible rfl
        try simp only [Act.put, List.setIfInBounds_toArray, List.set_cons_zero, List.set_cons_succ]
        refine wpAnyH_ready (rs := [29]) (by kernel_rfl) (by simp) ?_
        refine AllReadyH.cons rfl (fun K hK => ?_) AllReadyH.nil
        go_simp
        go_at_call 8
        refine (HSN.out _).mono ?_
        rintro e w1 ⟨rfl, rfl⟩
        try go_simp
        refine hK.out _ _ ?_ (fun hHeld => ?_)
        · exact hHeld
        clear hK K
        try simp only [Act.put, List.setIfInBounds_toArray, List.set_cons_zero, List.set_cons_succ]
        refine wpAnyH_take (i := 30) (oi := ⟨some 127, _, _, _, _, _⟩) (v := ?_) rfl (by kernel_rfl) (by kernel_rfl) (by kernel_rfl) (fun _ _ _ h => h) (Or.inl ⟨by kernel_rfl, ?_⟩) hHeld ?_
        rotate_left
        · intro w1 hSw; (try dsimp only at hSw); go_simp <;> with_reducible rfl
        try simp only [Act.put, List.setIfInBounds_toArray, List.set_cons_zero, List.set_cons_succ]
        refine wpAnyH_take (i := 31) (oi := ⟨some 128, _, _, _, _, _⟩) (v := ?_) rfl (by kernel_rfl) (by kernel_rfl) (by kernel_rfl) (fun _ _ _ h => h) (Or.inl ⟨by kernel_rfl, ?_⟩) hHeld ?_
        rotate_left
        · intro w1 hSw; (try dsimp only at hSw); go_simp <;> with_reducible rfl
        try simp only [Act.put, List.setIfInBounds_toArray, List.set_cons_zero, List.set_cons_succ]
        refine wpAnyH_done (by kernel_rfl) ?_ _
        go_wp2_with fail
        go_meet
        exact ⟨rfl, hHeld⟩
      case rest =>
      obtain ⟨rfl, hb⟩ := hcut
      have HS' := Lib.hid (HS.out.keep hb); have HRP' := Lib.hid (HRP.out.old hb); have HRQ' := Lib.hid (HRQ.out.old hb)
      clear HS HRP HRQ HRS HYS hb
      have HS := HS'; have HRP := HRP'; have HRQ := HRQ'
      clear HS' HRP' HRQ'
      obtain ⟨W6, hW⟩ : ∃ W6 : World, W6 = wc := ⟨_, rfl⟩
      subst hW
      go_wp2_with fail
      have hpw4 := pK_all x0 x1 x2 x3
      rw [← HQ4.out] at hpw4
      have HPW4 := Lib.hid hpw4
      clear hpw4
      go_loopg [20, 129] 4 (fun g s20 s129 wx => ∃ k : Nat, k + g = 4 ∧ s129 = .int .i64 k ∧ s20 = .int .i64 (pK [x0, x1, x2, x3] k) ∧ Hid (Below W6.heap.size W6 wx))
      case atStart => exact ⟨0, rfl, rfl, rfl, Below.refl _ _⟩
      case round =>
        obtain ⟨k, hk, rfl, rfl, hb⟩ := hrel
        by_cases hlt : k < 4
        · obtain ⟨r, i, hrc, hSr, hSi⟩ : ∃ r i, (cxs [(r0, i0), (r1, i1), (r2, i2), (r3, i3)])[k]? = some (.complex .f32 r i) ∧ S r (fourP [x0, x1, x2, x3] k 4).1 ∧ S i (fourP [x0, x1, x2, x3] k 4).2 := by
            have hl : k < [(r0, i0), (r1, i1), (r2, i2), (r3, i3)].length := hlt
            refine ⟨_, _, ?_, (HCX.out k hl).1, (HCX.out k hl).2⟩
            unfold cxs
            rw [List.getElem?_map, List.getElem?_eq_getElem hl]
            rfl
          obtain ⟨t, j, htc, hSt, hSj⟩ : ∃ t j, (cxs [(t0, j0), (t1, j1), (t2, j2), (t3, j3)])[k]? = some (.complex .f32 t j) ∧ S t (fourP [x0 + by', x1 + by', x2 + by', x3 + by'] k 4).1 ∧ S j (fourP [x0 + by', x1 + by', x2 + by', x3 + by'] k 4).2 := by
            have hl : k < [(t0, j0), (t1, j1), (t2, j2), (t3, j3)].length := hlt
            refine ⟨_, _, ?_, (HCY.out k hl).1, (HCY.out k hl).2⟩
            unfold cxs
            rw [List.getElem?_map, List.getElem?_eq_getElem hl]
            rfl
          have hfb := fourP_bd [x0, x1, x2, x3] k 4 (four_bd (M := 16384) (by omega) (by omega) (by omega) (by omega))
          obtain ⟨f, hf⟩ : ∃ f, (fourP [x0, x1, x2, x3] k 4).1 = f := ⟨_, rfl⟩
          obtain ⟨g', hg'⟩ : ∃ g', (fourP [x0, x1, x2, x3] k 4).2 = g' := ⟨_, rfl⟩
          have hpb := pK_bd (four_bd (a := x0) (b := x1) (c := x2) (d := x3) (M := 16384) (by omega) (by omega) (by omega) (by omega)) k
          have hpn : pK [x0, x1, x2, x3] (k + 1) = pK [x0, x1, x2, x3] k + (f * f + g' * g') := by rw [pK, hf, hg']
          obtain ⟨pk, hpk⟩ : ∃ pk, pK [x0, x1, x2, x3] k = pk := ⟨_, rfl⟩
          have hsh : 0 < k → S t f ∧ S j g' := fun h0 => by
            rw [four_shift x0 x1 x2 x3 by' k h0 hlt, hf] at hSt
            rw [four_shift x0 x1 x2 x3 by' k h0 hlt, hg'] at hSj
            exact ⟨hSt, hSj⟩
          rw [hf] at hSr hfb; rw [hg'] at hSi hfb; rw [hpk] at hpb hpn ⊢
          have HSR := Lib.hid hSr; have HSI := Lib.hid hSi; have HSHF := Lib.hid hsh; have HPN := Lib.hid hpn
          have hf2 := sq_bd (x := f) (m := 65536) (by omega)
          have hg2 := sq_bd (x := g') (m := 65536) (by omega)
          obtain ⟨q, hq⟩ : ∃ q, f * f + g' * g' = q := ⟨_, rfl⟩
          have hqb : 0 ≤ q ∧ q ≤ 8589934592 := by omega
          have HQ := Lib.hid hq
          have hfb' : f.natAbs ≤ 65536 ∧ g'.natAbs ≤ 65536 := ⟨by omega, by omega⟩
          have HFB := Lib.hid hfb'
          have hcell : wr.cell? ⟨gp, k, none⟩ = some (.complex .f32 r i) := by rw [(HRP.out.old hb.out).cell]; exact hrc
          have hcel2 : wr.cell? ⟨gq, k, none⟩ = some (.complex .f32 t j) := by rw [(HRQ.out.old hb.out).cell]; exact htc
          have HCL := Lib.hid hcell; have HCM := Lib.hid hcel2
          have hk4 : (k : Int) < 4 := by omega
          have HS16 : Hid (∀ W, Calls Tryz.prog 13 #[.float .f32 r] W fun e w' => e = .returned (.int .i64 f) ∧ W = w') := fun W => sixteenths_S HSR.out HFB.out.1 W
          have HS17 : Hid (∀ W, Calls Tryz.prog 13 #[.float .f32 i] W fun e w' => e = .returned (.int .i64 g') ∧ W = w') := fun W => sixteenths_S HSI.out HFB.out.2 W
          have HSQ : Hid (∀ W, Calls Tryz.prog 12 #[.agg #[.int .i64 f, .int .i64 g']] W fun e w' => e = .returned (.int .i64 q) ∧ Below W.heap.size W w') := fun W => by
            have k := square_any f g' W HFB.out.1 HFB.out.2
            rw [HQ.out] at k; exact k
          clear hSr hSi hSt hSj hsh hpn hf hg' hpk hf2 hg2 hq hfb hfb' hrc htc hcell hcel2
          go_upto_region 21 with fail
          go_cut [20] from 132 to 146 (fun s20 wx => s20 = .int .i64 (pK [x0, x1, x2, x3] (k + 1)) ∧ Below wr.heap.size wr wx)
          case first => as_aux_lemma =>
            have hw9 : IntKind.i64.wrap (pk + q) = pk + q := IntWalk.i64_in _ (by omega)
            refine wp_region_held_drew (S := fun V => Below wr.heap.size wr V) (by kernel_rfl) ?_ (fun hHeld => ?_)
            · exact (Below.refl _ _).drew
            refine wpAnyH_take (i := 0) (oi := ⟨some 132, _, _, _, _, _⟩) (v := ?_) rfl (by kernel_rfl) (by kernel_rfl) (by kernel_rfl) (fun _ _ _ h => h) (Or.inl ⟨by kernel_rfl, ?_⟩) hHeld ?_
            rotate_left
            · intro w1 hSw; (try dsimp only at hSw); go_simp <;> with_reducible rfl
            try simp only [Act.put, List.setIfInBounds_toArray, List.set_cons_zero, List.set_cons_succ]
            refine wpAnyH_take (i := 1) (oi := ⟨some 133, _, _, _, _, _⟩) (v := ?_) rfl (by kernel_rfl) (by kernel_rfl) (by kernel_rfl) (fun _ _ _ h => h) (Or.inl ⟨by kernel_rfl, ?_⟩) hHeld ?_
            rotate_left
            · intro w1 hSw; (try dsimp only at hSw); go_simp <;> with_reducible rfl
            try simp only [Act.put, List.setIfInBounds_toArray, List.set_cons_zero, List.set_cons_succ]
            refine wpAnyH_take (i := 2) (oi := ⟨some 134, _, _, _, _, _⟩) (v := ?_) rfl (by kernel_rfl) (by kernel_rfl) (by kernel_rfl) (fun _ _ _ h => h) (Or.inl ⟨by kernel_rfl, ?_⟩) hHeld ?_
            rotate_left
            · intro w1 hSw; (try dsimp only at hSw); go_simp <;> with_reducible rfl
            try simp only [Act.put, List.setIfInBounds_toArray, List.set_cons_zero, List.set_cons_succ]
            refine wpAnyH_take (i := 3) (oi := ⟨some 135, _, _, _, _, _⟩) (v := ?_) rfl (by kernel_rfl) (by kernel_rfl) (by kernel_rfl) (fun _ _ _ h => h) (Or.inl ⟨by kernel_rfl, ?_⟩) hHeld ?_
            rotate_left
            · intro w1 hSw; (try dsimp only at hSw); have cc := HCL.out; rw [← hSw.cell (World.block_lt_of_cell? wr _ HCL.out)] at cc; go_simp <;> with_reducible rfl
            try simp only [Act.put, List.setIfInBounds_toArray, List.set_cons_zero, List.set_cons_succ]
            refine wpAnyH_take (i := 4) (oi := ⟨some 136, _, _, _, _, _⟩) (v := ?_) rfl (by kernel_rfl) (by kernel_rfl) (by kernel_rfl) (fun _ _ _ h => h) (Or.inl ⟨by kernel_rfl, ?_⟩) hHeld ?_
            rotate_left
            · intro w1 hSw; (try dsimp only at hSw); go_simp <;> with_reducible rfl
            try simp only [Act.put, List.setIfInBounds_toArray, List.set_cons_zero, List.set_cons_succ]
            refine wpAnyH_take (i := 6) (oi := ⟨some 138, _, _, _, _, _⟩) (v := ?_) rfl (by kernel_rfl) (by kernel_rfl) (by kernel_rfl) (fun _ _ _ h => h) (Or.inl ⟨by kernel_rfl, ?_⟩) hHeld ?_
            rotate_left
            · intro w1 hSw; (try dsimp only at hSw); go_simp <;> with_reducible rfl
            try simp only [Act.put, List.setIfInBounds_toArray, List.set_cons_zero, List.set_cons_succ]
            refine wpAnyH_take (i := 7) (oi := ⟨some 139, _, _, _, _, _⟩) (v := ?_) rfl (by kernel_rfl) (by kernel_rfl) (by kernel_rfl) (fun _ _ _ h => h) (Or.inl ⟨by kernel_rfl, ?_⟩) hHeld ?_
            rotate_left
            · intro w1 hSw; (try dsimp only at hSw); go_simp <;> with_reducible rfl
            try simp only [Act.put, List.setIfInBounds_toArray, List.set_cons_zero, List.set_cons_succ]
            refine wpAnyH_take (i := 8) (oi := ⟨some 140, _, _, _, _, _⟩) (v := ?_) rfl (by kernel_rfl) (by kernel_rfl) (by kernel_rfl) (fun _ _ _ h => h) (Or.inl ⟨by kernel_rfl, ?_⟩) hHeld ?_
            rotate_left
            · intro w1 hSw; (try dsimp only at hSw); have cc := HCL.out; rw [← hSw.cell (World.block_lt_of_cell? wr _ HCL.out)] at cc; go_simp <;> with_reducible rfl
            try simp only [Act.put, List.setIfInBounds_toArray, List.set_cons_zero, List.set_cons_succ]
            refine wpAnyH_take (i := 9) (oi := ⟨some 141, _, _, _, _, _⟩) (v := ?_) rfl (by kernel_rfl) (by kernel_rfl) (by kernel_rfl) (fun _ _ _ h => h) (Or.inl ⟨by kernel_rfl, ?_⟩) hHeld ?_
            rotate_left
            · intro w1 hSw; (try dsimp only at hSw); go_simp <;> with_reducible rfl
            try simp only [Act.put, List.setIfInBounds_toArray, List.set_cons_zero, List.set_cons_succ]
            refine wpAnyH_ready (rs := [5]) (by kernel_rfl) (by simp) ?_
            refine AllReadyH.cons rfl (fun K hK => ?_) (AllReadyH.nil)
            go_simp
            go_at_call 13
            refine (HS16.out _).mono ?_
            rintro e w1 ⟨rfl, rfl⟩
            try go_simp
            refine hK.out _ _ ?_ (fun hHeld => ?_)
            · exact hHeld
            clear hK K
            try simp only [Act.put, List.setIfInBounds_toArray, List.set_cons_zero, List.set_cons_succ]
            refine wpAnyH_ready (rs := [10]) (by kernel_rfl) (by simp) ?_
            refine AllReadyH.cons rfl (fun K hK => ?_) (AllReadyH.nil)
            go_simp
            go_at_call 13
            refine (HS17.out _).mono ?_
            rintro e w1 ⟨rfl, rfl⟩
            try go_simp
            refine hK.out _ _ ?_ (fun hHeld => ?_)
            · exact hHeld
            clear hK K
            try simp only [Act.put, List.setIfInBounds_toArray, List.set_cons_zero, List.set_cons_succ]
            refine wpAnyH_take (i := 11) (oi := ⟨some 143, _, _, _, _, _⟩) (v := ?_) rfl (by kernel_rfl) (by kernel_rfl) (by kernel_rfl) (fun _ _ _ h => h) (Or.inl ⟨by kernel_rfl, ?_⟩) hHeld ?_
            rotate_left
            · intro w1 hSw; (try dsimp only at hSw); go_simp <;> with_reducible rfl
            try simp only [Act.put, List.setIfInBounds_toArray, List.set_cons_zero, List.set_cons_succ]
            refine wpAnyH_ready (rs := [12]) (by kernel_rfl) (by simp) ?_
            refine AllReadyH.cons rfl (fun K hK => ?_) (AllReadyH.nil)
            go_simp
            go_at_call 12
            refine (HSQ.out _).mono ?_
            rintro e w1 ⟨rfl, hb1⟩
            try go_simp
            refine hK.out _ _ ?_ (fun hHeld => ?_)
            · exact hHeld.trans (hb1.mono hHeld.size)
            clear hK K
            try simp only [Act.put, List.setIfInBounds_toArray, List.set_cons_zero, List.set_cons_succ]
            refine wpAnyH_take (i := 13) (oi := ⟨some 145, _, _, _, _, _⟩) (v := ?_) rfl (by kernel_rfl) (by kernel_rfl) (by kernel_rfl) (fun _ _ _ h => h) (Or.inl ⟨by kernel_rfl, ?_⟩) hHeld ?_
            rotate_left
            · intro w1 hSw; (try dsimp only at hSw); go_simp <;> with_reducible rfl
            try simp only [Act.put, List.setIfInBounds_toArray, List.set_cons_zero, List.set_cons_succ]
            refine wpAnyH_take (i := 14) (oi := ⟨some 20, _, _, _, _, _⟩) (v := ?_) rfl (by kernel_rfl) (by kernel_rfl) (by kernel_rfl) (fun _ _ _ h => h) (Or.inl ⟨by kernel_rfl, ?_⟩) hHeld ?_
            rotate_left
            · intro w1 hSw; (try dsimp only at hSw); go_simp <;> with_reducible rfl
            try simp only [Act.put, List.setIfInBounds_toArray, List.set_cons_zero, List.set_cons_succ]
            refine wpAnyH_done (by kernel_rfl) ?_ _
            go_wp2_with fail
            go_meet
            exact ⟨by rw [HPN.out, HQ.out], hHeld⟩
          case rest =>
          obtain ⟨rfl, hb2⟩ := hcut
          have HB2 := Lib.hid (hb.out.trans (hb2.mono hb.out.size))
          have hcell : wc.cell? ⟨gp, k, none⟩ = some (.complex .f32 r i) := by rw [hb2.cell (World.block_lt_of_cell? wr _ HCL.out)]; exact HCL.out
          have hcel2 : wc.cell? ⟨gq, k, none⟩ = some (.complex .f32 t j) := by rw [hb2.cell (World.block_lt_of_cell? wr _ HCM.out)]; exact HCM.out
          clear hb2 HS16 HS17 HSQ HCL HCM hb
          obtain ⟨pn, hpn⟩ : ∃ pn, pn = pK [x0, x1, x2, x3] (k + 1) := ⟨_, rfl⟩
          rw [← hpn]
          have HPP := Lib.hid hpn
          clear hpn
          by_cases hk0 : 0 < k
          · have hk0' : (0 : Int) < (k : Int) := by omega
            obtain ⟨hSt, hSj⟩ := HSHF.out hk0
            have hnc := neqC1 hSt hSj HSR.out HSI.out
            clear hSt hSj
            go_upto_region 22 with fail
            go_quiet (fail)
            all_goals
              go_wp2_with fail
              go_roundg (3 - k)
              case measure => omega
              case rel => exact ⟨k + 1, by omega, rfl, by rw [HPP.out], below_drewN HB2.out _⟩
          · obtain rfl : k = 0 := by omega
            go_upto_region 22 with fail
            go_quiet (fail)
            all_goals
              go_wp2_with fail
              go_roundg 3
              case measure => omega
              case rel => exact ⟨1, by omega, rfl, by rw [HPP.out], below_drewN HB2.out _⟩
        · obtain rfl : k = 4 := by omega
          have HS' := Lib.hid (HS.out.keep hb.out)
          clear HS HRP HRQ hb HCX HCY
          have HS := HS'
          clear HS'
          rw [HPW4.out]
          have hqb := HQB.out
          have wq1 : IntKind.i64.wrap (4 * q4) = 4 * q4 := IntWalk.i64_in _ (by omega)
          have bx : x0.natAbs ≤ 16384 ∧ x1.natAbs ≤ 16384 ∧ x2.natAbs ≤ 16384 ∧ x3.natAbs ≤ 16384 := ⟨by omega, by omega, by omega, by omega⟩
          have BX := Lib.hid bx
          clear bx bx0 bx1 bx2 bx3 bby
          clear HQ4 HPW4
          go_upto_region 27 with fail
          clear wq1 hqb
          obtain ⟨W7, hW⟩ : ∃ W7 : World, W7 = wr := ⟨_, rfl⟩
          subst hW
          go_cut [22, 23] from 162 to 168 (fun s22 s23 wx => ∃ A1 c1, s22 = .slice A1 22 c1 ∧ s23 = .int .i64 0 ∧ Rd wx A1 (byts (strT x0 x1 x2 x3)) ∧ (A1 = none → c1 = 0) ∧ Below W7.heap.size W7 wx)
          case first =>
            have hRa : Rd W7 (some ⟨w.heap.size + 1 + 1, 0, none⟩) (flts (fbs [x0, x1, x2, x3])) := Rd.row HS.out.2.2.1
            have HFL : Hid (Calls Tryz.prog 15 #[.slice (some ⟨w.heap.size + 1 + 1, 0, none⟩) 4 4] W7 fun e w' => ∃ GA gc, e = .returned (.slice GA 4 gc) ∧ Rd w' GA (flts (fbs [x0, x1, x2, x3])) ∧ Below W7.heap.size W7 w') := (floats_any _ 4 4 (fbs [x0, x1, x2, x3]) W7 hRa rfl (fun h => by cases h) (by simp [fbs])).mono fun e w' ⟨v, h1, h2, h3⟩ => by
              obtain ⟨B, d, rfl, hB⟩ := owned_slice h2
              exact ⟨B, d, h1, hB, h3⟩
            have HPK : Hid (∀ W A k, Rd W A (flts (fbs [x0, x1, x2, x3])) → Calls Tryz.prog 14 #[.slice A 4 k] W fun e w' => ∃ A1 c1, e = .returned (.tuple #[.slice A1 22 c1, .int .i64 0]) ∧ Rd w' A1 (byts (strT x0 x1 x2 x3)) ∧ (A1 = none → c1 = 0) ∧ Below W.heap.size W w') := fun W A k h => pack_law BX.out.1 BX.out.2.1 BX.out.2.2.1 BX.out.2.2.2 A k W h
            clear hRa
            go_wp2_with (first
              | (go_at_call 15; refine HFL.out.mono ?_; rintro e w1 ⟨GA, gc, rfl, hga, hb1⟩; have HGA := Lib.hid hga; have HB1 := Lib.hid hb1; clear hga hb1)
              | (go_at_call 14; refine (HPK.out _ _ _ HGA.out).mono ?_; rintro e w2 ⟨A1, c1, rfl, hp, hn, hb2⟩; have HP := Lib.hid hp; have HN := Lib.hid hn; have HB2 := Lib.hid (HB1.out.trans (hb2.mono HB1.out.size)); clear hp hn hb2))
            go_meet
            exact ⟨A1, c1, rfl, rfl, HP.out, HN.out, HB2.out⟩
          case rest =>
          obtain ⟨A1, c1, rfl, rfl, hp, hnn, hb⟩ := hcut
          have HS' := Lib.hid (HS.out.keep hb); have HP := Lib.hid hp; have HNN := Lib.hid hnn
          clear HS hb hp hnn
          have HS := HS'
          clear HS'
          obtain ⟨W8, hW⟩ : ∃ W8 : World, W8 = wc := ⟨_, rfl⟩
          subst hW
          have HBY2 : Hid (∀ W, Rd W A1 (byts (strT x0 x1 x2 x3)) → Calls Tryz.prog 17 #[.slice A1 22 c1] W fun e w' => ∃ g cap, e = .returned (.slice (some ⟨g, 0, none⟩) 22 cap) ∧ 22 ≤ cap ∧ W.heap.size ≤ g ∧ Rd w' (some ⟨g, 0, none⟩) (byts (strT x0 x1 x2 x3)) ∧ (∀ j, w'.frozen? ⟨g, j, none⟩ = false) ∧ Below W.heap.size W w') := fun W h => by
            have k := bytes_own (strT x0 x1 x2 x3) (by rw [strT_len]; omega) (by rw [strT_len]; omega) A1 c1 HNN.out W h
            rw [strT_len] at k; exact k
          go_upto_region 28 with fail
          go_cut [24, 25] from 168 to 174 (fun s24 s25 wx => ∃ A2 c2, s24 = .slice A2 4 c2 ∧ s25 = .int .i64 0 ∧ Rd wx A2 (flts (fbs [x0, x1, x2, x3])) ∧ Below W8.heap.size W8 wx)
          case first =>
            have HUN : Hid (∀ W A k, Rd W A (byts (strT x0 x1 x2 x3)) → 22 ≤ k → Calls Tryz.prog 16 #[.slice A 22 k] W fun e w' => ∃ A2 c2, e = .returned (.tuple #[.slice A2 4 c2, .int .i64 0]) ∧ Rd w' A2 (flts (fbs [x0, x1, x2, x3])) ∧ Below W.heap.size W w') := fun W A k h hk => by
              have q := unpack_all A 22 k (strT x0 x1 x2 x3) W h (strT_len _ _ _ _).symm hk (by rw [strT_len]; omega)
              rw [strX_T BX.out.1 BX.out.2.1 BX.out.2.2.1 BX.out.2.2.2, strT_unp BX.out.1 BX.out.2.1 BX.out.2.2.1 BX.out.2.2.2] at q
              exact q
            go_wp2_with (first
              | (go_at_call 17; refine (HBY2.out _ HP.out).mono ?_; rintro e w1 ⟨g, cap, rfl, hcap, hg, hr, -, hb1⟩; have HCAP := Lib.hid hcap; have HR := Lib.hid hr; have HB1 := Lib.hid hb1; clear hcap hg hr hb1)
              | (go_at_call 16; refine (HUN.out _ _ _ HR.out HCAP.out).mono ?_; rintro e w2 ⟨A2, c2, rfl, ha2, hb2⟩; have HA2 := Lib.hid ha2; have HB2 := Lib.hid (HB1.out.trans (hb2.mono HB1.out.size)); clear ha2 hb2))
            go_meet
            exact ⟨A2, c2, rfl, rfl, HA2.out, HB2.out⟩
          case rest =>
          obtain ⟨A2, c2, rfl, rfl, ha2, hb⟩ := hcut
          have HS' := Lib.hid (HS.out.keep hb); have HP' := Lib.hid (HP.out.below hb); have HA2 := Lib.hid ha2
          clear HS HP hb ha2
          have HS := HS'; have HP := HP'
          clear HS' HP'
          obtain ⟨W9, hW⟩ : ∃ W9 : World, W9 = wc := ⟨_, rfl⟩
          subst hW
          go_upto_region 29 with fail
          go_cut [190] from 174 to 191 (fun s190 wx => s190 = .bool false ∧ Below W9.heap.size W9 wx)
          case first =>
            have HSS : Hid (∀ W, Rd W A2 (flts (fbs [x0, x1, x2, x3])) → Rd W (some ⟨w.heap.size + 1 + 1, 0, none⟩) (flts (fbs [x0, x1, x2, x3])) → Calls Tryz.prog 18 #[.slice A2 4 c2, .slice (some ⟨w.heap.size + 1 + 1, 0, none⟩) 4 4] W fun e w' => e = .returned (.bool true) ∧ Below W.heap.size W w') := fun W h1 h2 => by
              refine (sameSamples_any A2 _ 4 4 c2 4 (fbs [x0, x1, x2, x3]) (fbs [x0, x1, x2, x3]) W h1 h2 rfl rfl (by simp [fbs])).mono ?_
              rintro e w' ⟨rfl, q, rfl⟩
              rw [sameF_self _ (fbs_samp ?_)]
              · exact ⟨rfl, below_dn _ _ _⟩
              · intro x hx
                simp only [List.mem_cons, List.not_mem_nil, or_false] at hx
                rcases hx with rfl | rfl | rfl | rfl
                · exact BX.out.1
                · exact BX.out.2.1
                · exact BX.out.2.2.1
                · exact BX.out.2.2.2
            go_wp2_with (go_at_call 18; refine (HSS.out _ HA2.out (Rd.row HS.out.2.2.1)).mono ?_; rintro e w1 ⟨rfl, hb1⟩; have HB1 := Lib.hid hb1; clear hb1)
            go_meet
            exact ⟨rfl, HB1.out⟩
          case rest =>
          obtain ⟨rfl, hb⟩ := hcut
          have HS' := Lib.hid (HS.out.keep hb); have HP' := Lib.hid (HP.out.below hb)
          clear HS HP hb HA2
          have HS := HS'; have HP := HP'
          clear HS' HP'
          obtain ⟨W10, hW⟩ : ∃ W10 : World, W10 = wc := ⟨_, rfl⟩
          subst hW
          go_upto_region 31 with fail
          obtain ⟨W11, hW⟩ : ∃ W11 : World, W11 = W10 := ⟨_, rfl⟩
          subst hW
          have hk22 : (n2 : Int) % 22 = ((n2 % 22 : Nat) : Int) := by omega
          have hkl : n2 % 22 < 22 := by omega
          obtain ⟨k, hk⟩ : ∃ k, k = n2 % 22 := ⟨_, rfl⟩
          rw [← hk] at hk22 hkl
          have hkT : k < (strT x0 x1 x2 x3).length := by rw [strT_len]; exact hkl
          have hr255 : (n3 : Int) % 255 = ((n3 % 255 : Nat) : Int) := by omega
          obtain ⟨v, hv1, hv2⟩ := byte_new (strT x0 x1 x2 x3)[k] n3
          obtain ⟨o, ho⟩ : ∃ o : Nat, o = ((strT x0 x1 x2 x3)[k]).toNat := ⟨_, rfl⟩
          obtain ⟨vn, hvn⟩ : ∃ vn : Nat, vn = v.toNat := ⟨_, rfl⟩
          rw [hr255, ← ho, ← hvn] at hv1
          have ho256 : o < 256 := by rw [ho]; exact UInt8.toNat_lt _
          have hvn256 : vn < 256 := by rw [hvn]; exact UInt8.toNat_lt _
          obtain ⟨r3, hr3⟩ : ∃ r3, r3 = n3 % 255 := ⟨_, rfl⟩
          rw [← hr3] at hr255 hv1
          have hr3l : r3 < 255 := by omega
          have HUB : Hid (∀ (g : Nat) W cap, 22 ≤ cap → Rd W (some ⟨g, 0, none⟩) (byts ((strT x0 x1 x2 x3).set k v)) → Calls Tryz.prog 16 #[.slice (some ⟨g, 0, none⟩) 22 cap] W fun e w' => ∃ A2 c2 n2' E, e = .returned (.tuple #[.slice A2 n2' c2, .int .i64 E]) ∧ E ≠ 0 ∧ Below W.heap.size W w') := fun g W cap hcap h => by
            refine (unpack_all (some ⟨g, 0, none⟩) 22 cap _ W h (by rw [List.length_set, strT_len]) hcap (by rw [List.length_set, strT_len]; omega)).mono ?_
            rintro e w' ⟨A2, c2, rfl, _, hb⟩
            exact ⟨A2, c2, _, _, rfl, strT_broken x0 x1 x2 x3 k hkT v hv2, hb⟩
          have HVN : Hid ((v.toNat : Int) = (vn : Int)) := by unfold Hid; rw [hvn]
          have HOV : Hid (o = ((strT x0 x1 x2 x3)[k]).toNat) := ho
          have hl22 : (k : Int) < 22 := by omega
          have hN2 := HS.out.2.1.cell 2
          simp only [List.getElem?_cons_succ, List.getElem?_cons_zero] at hN2
          have HSN := Lib.hid HS.out.2.1
          clear hk hv2 ho hvn hr3
          go_upto_region 33 with (go_at_call 17; refine (HBY2.out _ HP.out).mono ?_; rintro e W12 ⟨g, cap, rfl, hcap, hg, hr, hfz, hb1⟩; have HCAP := Lib.hid hcap; have HGE := Lib.hid hg; have HRD := Lib.hid hr; have HFZ := Lib.hid hfz; have HB12 := Lib.hid hb1; have hN2 := (HSN.out.old hb1).cell 2; simp only [List.getElem?_cons_succ, List.getElem?_cons_zero] at hN2; clear hcap hg hr hfz hb1)
          have HOC : Hid (W12.cell? ⟨g, k, none⟩ = some (.int .u8 (o : Int))) := by
            obtain ⟨b, off, e1, e2⟩ := HRD.out k (.int .u8 (o : Int)) (by unfold byts; rw [List.getElem?_map, List.getElem?_eq_getElem hkT, HOV.out]; rfl)
            cases e1
            rw [Nat.zero_add] at e2; exact e2
          have HUB2 : Hid (∀ W, Rd W (some ⟨g, 0, none⟩) (byts ((strT x0 x1 x2 x3).set k v)) → Calls Tryz.prog 16 #[.slice (some ⟨g, 0, none⟩) 22 cap] W fun e w' => ∃ A2 c2 n2' E, e = .returned (.tuple #[.slice A2 n2' c2, .int .i64 E]) ∧ E ≠ 0 ∧ Below W.heap.size W w') := fun W h => HUB.out g W cap HCAP.out h
          clear HUB
          have HUB := HUB2
          clear HUB2
          have v1 : IntKind.i64.wrap (o : Int) = (o : Int) := IntWalk.i64_in _ (by omega)
          have v2 : IntKind.i64.wrap ((o : Int) + 1) = (o : Int) + 1 := IntWalk.i64_in _ (by omega)
          have v3 : IntKind.i64.wrap (n3 : Int) = (n3 : Int) := IntWalk.i64_in _ (by omega)
          have v4 : (n3 : Int).tmod 255 = (r3 : Int) := by rw [Int.tmod_eq_emod_of_nonneg (by omega)]; exact hr255
          have v5 : IntKind.i64.wrap ((o : Int) + 1 + (r3 : Int)) = (o : Int) + 1 + (r3 : Int) := IntWalk.i64_in _ (by omega)
          have v6 : ((o : Int) + 1 + (r3 : Int)).tmod 256 = (vn : Int) := by rw [Int.tmod_eq_emod_of_nonneg (by omega)]; exact hv1
          have v7 : IntKind.u8.wrap (vn : Int) = (vn : Int) := IntWalk.u8_in _ (by omega)
          simp only [hk22]
          go_cut [213] from 199 to 215 (fun s213 wx => Rd wx (some ⟨g, 0, none⟩) (byts ((strT x0 x1 x2 x3).set k v)) ∧ Below W11.heap.size W11 wx)
          case first => as_aux_lemma =>
            refine wp_region_held_drew (S := fun V => Below W11.heap.size W11 V) (by kernel_rfl) ?_ (fun hHeld => ?_)
            · exact HB12.out.drew
            refine wpAnyH_take (i := 0) (oi := ⟨some 199, _, _, _, _, _⟩) (v := ?_) rfl (by kernel_rfl) (by kernel_rfl) (by kernel_rfl) (fun _ _ _ h => h) (Or.inl ⟨by kernel_rfl, ?_⟩) hHeld ?_
            rotate_left
            · intro w1 hSw; (try dsimp only at hSw); go_simp <;> with_reducible rfl
            try simp only [Act.put, List.setIfInBounds_toArray, List.set_cons_zero, List.set_cons_succ]
            refine wpAnyH_take (i := 1) (oi := ⟨some 200, _, _, _, _, _⟩) (v := ?_) rfl (by kernel_rfl) (by kernel_rfl) (by kernel_rfl) (fun _ _ _ h => h) (Or.inl ⟨by kernel_rfl, ?_⟩) hHeld ?_
            rotate_left
            · intro w1 hSw; (try dsimp only at hSw); go_simp <;> with_reducible rfl
            try simp only [Act.put, List.setIfInBounds_toArray, List.set_cons_zero, List.set_cons_succ]
            refine wpAnyH_take (i := 2) (oi := ⟨some 201, _, _, _, _, _⟩) (v := ?_) rfl (by kernel_rfl) (by kernel_rfl) (by kernel_rfl) (fun _ _ _ h => h) (Or.inl ⟨by kernel_rfl, ?_⟩) hHeld ?_
            rotate_left
            · intro w1 hSw; (try dsimp only at hSw); go_simp <;> with_reducible rfl
            try simp only [Act.put, List.setIfInBounds_toArray, List.set_cons_zero, List.set_cons_succ]
            refine wpAnyH_take (i := 3) (oi := ⟨some 202, _, _, _, _, _⟩) (v := ?_) rfl (by kernel_rfl) (by kernel_rfl) (by kernel_rfl) (fun _ _ _ h => h) (Or.inl ⟨by kernel_rfl, ?_⟩) hHeld ?_
            rotate_left
            · intro w1 hSw; (try dsimp only at hSw); go_simp <;> with_reducible rfl
            try simp only [Act.put, List.setIfInBounds_toArray, List.set_cons_zero, List.set_cons_succ]
            refine wpAnyH_take (i := 4) (oi := ⟨some 203, _, _, _, _, _⟩) (v := ?_) rfl (by kernel_rfl) (by kernel_rfl) (by kernel_rfl) (fun _ _ _ h => h) (Or.inl ⟨by kernel_rfl, ?_⟩) hHeld ?_
            rotate_left
            · intro w1 hSw; (try dsimp only at hSw); go_simp <;> with_reducible rfl
            try simp only [Act.put, List.setIfInBounds_toArray, List.set_cons_zero, List.set_cons_succ]
            refine wpAnyH_take (i := 8) (oi := ⟨some 207, _, _, _, _, _⟩) (v := ?_) rfl (by kernel_rfl) (by kernel_rfl) (by kernel_rfl) (fun _ _ _ h => h) (Or.inl ⟨by kernel_rfl, ?_⟩) hHeld ?_
            rotate_left
            · intro w1 hSw; (try dsimp only at hSw); go_simp <;> with_reducible rfl
            try simp only [Act.put, List.setIfInBounds_toArray, List.set_cons_zero, List.set_cons_succ]
            refine wpAnyH_take (i := 9) (oi := ⟨some 208, _, _, _, _, _⟩) (v := ?_) rfl (by kernel_rfl) (by kernel_rfl) (by kernel_rfl) (fun _ _ _ h => h) (Or.inl ⟨by kernel_rfl, ?_⟩) hHeld ?_
            rotate_left
            · intro w1 hSw; (try dsimp only at hSw); have cc := (HSN.out.old hSw).cell 3; simp only [List.getElem?_cons_succ, List.getElem?_cons_zero] at cc; go_simp <;> with_reducible rfl
            try simp only [Act.put, List.setIfInBounds_toArray, List.set_cons_zero, List.set_cons_succ]
            refine wpAnyH_take (i := 10) (oi := ⟨some 209, _, _, _, _, _⟩) (v := ?_) rfl (by kernel_rfl) (by kernel_rfl) (by kernel_rfl) (fun _ _ _ h => h) (Or.inl ⟨by kernel_rfl, ?_⟩) hHeld ?_
            rotate_left
            · intro w1 hSw; (try dsimp only at hSw); go_simp <;> with_reducible rfl
            try simp only [Act.put, List.setIfInBounds_toArray, List.set_cons_zero, List.set_cons_succ]
            refine wpAnyH_take (i := 11) (oi := ⟨some 210, _, _, _, _, _⟩) (v := ?_) rfl (by kernel_rfl) (by kernel_rfl) (by kernel_rfl) (fun _ _ _ h => h) (Or.inl ⟨by kernel_rfl, ?_⟩) hHeld ?_
            rotate_left
            · intro w1 hSw; (try dsimp only at hSw); go_simp <;> with_reducible rfl
            try simp only [Act.put, List.setIfInBounds_toArray, List.set_cons_zero, List.set_cons_succ]
            refine wpAnyH_ready (rs := [5]) (by kernel_rfl) (by simp) ?_
            refine AllReadyH.cons rfl (fun K hK => ?_) (AllReadyH.nil)
            have z5 : W12.drew.cell? ⟨g, k, none⟩ = some (.int .u8 (o : Int)) := HOC.out
            go_simp
            refine hK.out _ _ ?_ (fun hHeld => ?_)
            · exact hHeld
            clear hK K
            try simp only [Act.put, List.setIfInBounds_toArray, List.set_cons_zero, List.set_cons_succ]
            refine wpAnyH_take (i := 6) (oi := ⟨some 205, _, _, _, _, _⟩) (v := ?_) rfl (by kernel_rfl) (by kernel_rfl) (by kernel_rfl) (fun _ _ _ h => h) (Or.inl ⟨by kernel_rfl, ?_⟩) hHeld ?_
            rotate_left
            · intro w1 hSw; (try dsimp only at hSw); go_simp <;> with_reducible rfl
            try simp only [Act.put, List.setIfInBounds_toArray, List.set_cons_zero, List.set_cons_succ]
            refine wpAnyH_take (i := 7) (oi := ⟨some 206, _, _, _, _, _⟩) (v := ?_) rfl (by kernel_rfl) (by kernel_rfl) (by kernel_rfl) (fun _ _ _ h => h) (Or.inl ⟨by kernel_rfl, ?_⟩) hHeld ?_
            rotate_left
            · intro w1 hSw; (try dsimp only at hSw); go_simp <;> with_reducible rfl
            try simp only [Act.put, List.setIfInBounds_toArray, List.set_cons_zero, List.set_cons_succ]
            refine wpAnyH_take (i := 12) (oi := ⟨some 211, _, _, _, _, _⟩) (v := ?_) rfl (by kernel_rfl) (by kernel_rfl) (by kernel_rfl) (fun _ _ _ h => h) (Or.inl ⟨by kernel_rfl, ?_⟩) hHeld ?_
            rotate_left
            · intro w1 hSw; (try dsimp only at hSw); go_simp <;> with_reducible rfl
            try simp only [Act.put, List.setIfInBounds_toArray, List.set_cons_zero, List.set_cons_succ]
            refine wpAnyH_take (i := 13) (oi := ⟨some 212, _, _, _, _, _⟩) (v := ?_) rfl (by kernel_rfl) (by kernel_rfl) (by kernel_rfl) (fun _ _ _ h => h) (Or.inl ⟨by kernel_rfl, ?_⟩) hHeld ?_
            rotate_left
            · intro w1 hSw; (try dsimp only at hSw); go_simp <;> with_reducible rfl
            try simp only [Act.put, List.setIfInBounds_toArray, List.set_cons_zero, List.set_cons_succ]
            refine wpAnyH_take (i := 14) (oi := ⟨some 213, _, _, _, _, _⟩) (v := ?_) rfl (by kernel_rfl) (by kernel_rfl) (by kernel_rfl) (fun _ _ _ h => h) (Or.inl ⟨by kernel_rfl, ?_⟩) hHeld ?_
            rotate_left
            · intro w1 hSw; (try dsimp only at hSw); go_simp <;> with_reducible rfl
            try simp only [Act.put, List.setIfInBounds_toArray, List.set_cons_zero, List.set_cons_succ]
            refine wpAnyH_take (i := 15) (oi := ⟨some 214, _, _, _, _, _⟩) (v := ?_) rfl (by kernel_rfl) (by kernel_rfl) (by kernel_rfl) (fun _ _ _ h => h) (Or.inl ⟨by kernel_rfl, ?_⟩) hHeld ?_
            rotate_left
            · intro w1 hSw; (try dsimp only at hSw); go_simp <;> with_reducible rfl
            try simp only [Act.put, List.setIfInBounds_toArray, List.set_cons_zero, List.set_cons_succ]
            refine wpAnyH_ready (rs := [16]) (by kernel_rfl) (by simp) ?_
            refine AllReadyH.cons rfl (fun K hK => ?_) (AllReadyH.nil)
            have z6 : W12.drew.cell? ⟨g, k, none⟩ = some (.int .u8 (o : Int)) := HOC.out
            have z7 : W12.drew.frozen? ⟨g, k, none⟩ = false := HFZ.out k
            go_simp
            refine hK.out _ _ ?_ (fun hHeld => ?_)
            · exact hHeld.setCell HGE.out _
            clear hK K
            try simp only [Act.put, List.setIfInBounds_toArray, List.set_cons_zero, List.set_cons_succ]
            refine wpAnyH_done (by kernel_rfl) ?_ _
            have HRN : Hid (Rd (W12.drew.setCell ⟨g, k, none⟩ (.int .u8 (vn : Int))) (some ⟨g, 0, none⟩) (byts ((strT x0 x1 x2 x3).set k v))) := by
              have h := rd_set (w := W12.drew) HRD.out k v
              rw [HVN.out] at h; exact h
            go_wp2_with fail
            go_meet
            exact ⟨HRN.out, hHeld⟩
          case rest =>
          obtain ⟨hrn, hb12⟩ := hcut
          have HRN := Lib.hid hrn; have HB13 := Lib.hid hb12
          clear hrn hb12 HP HBY2 HOC HRD HFZ HB12 HGE
          go_upto_region 35 with (go_at_call 16; refine (HUB.out _ HRN.out).mono ?_; rintro e w2 ⟨A2, c2, n2', E, rfl, hE, hb2⟩; have HEN := Lib.hid hE; have HB2 := Lib.hid (HB13.out.trans (hb2.mono HB13.out.size)); clear hE hb2)
          have HS' := Lib.hid (HS.out.keep HB2.out)
          have hE := HEN.out
          clear HS HRN HB13 HB2 HUB HEN HSN HCAP HVN HOV
          have HS := HS'
          clear HS'
          obtain ⟨W13, hW⟩ : ∃ W13 : World, W13 = w2 := ⟨_, rfl⟩
          subst hW
          have hE0 : (E == 0) = false := by simpa using hE
          go_upto_region 37 with fail
          obtain ⟨m, hm⟩ : ∃ m, m = n1 % 101 := ⟨_, rfl⟩
          have hm1 : (n1 : Int) % 101 = (m : Int) := by omega
          have hm2 : m ≤ 100 := by omega
          clear hm hE hE0
          have HDR : Hid (∀ W, Calls Tryz.prog 19 #[.int .i64 (n0 : Int), .int .i64 (m : Int)] W fun e w' => ∃ gd, e = .returned (.tuple #[.slice (some ⟨gd, 0, none⟩) m m, .int .i64 0]) ∧ Row w' gd 3 (ints (drawL (n0 : Int) m)) ∧ Below W.heap.size W w') := fun W => by
            have k := draw_ok (n0 : Int) (m : Int) W (by simp [rangeB]; omega) (by simp [rangeB]; omega)
            rw [Int.toNat_natCast] at k
            exact k.mono fun e w' ⟨g, h1, h2, _, h4⟩ => ⟨g, h1, h2, h4⟩
          have hN0 := HS.out.2.1.cell 0
          have hN1 := HS.out.2.1.cell 1
          simp only [List.getElem?_cons_succ, List.getElem?_cons_zero] at hN0 hN1
          go_upto_region 39 with (go_at_call 19; refine (HDR.out _).mono ?_; rintro e W15 ⟨gd, rfl, hr, hb1⟩; have HR := Lib.hid hr; have HB := Lib.hid hb1; clear hr hb1)
          have HS' := Lib.hid (HS.out.keep HB.out)
          clear HS HB HDR hN0 hN1 hm1
          have HS := HS'
          clear HS'
          obtain ⟨l, hl⟩ : ∃ l, l = drawL (n0 : Int) m := ⟨_, rfl⟩
          have hinj : InjL l m := by rw [hl]; exact drawL_inj _ _
          have HINJ := Lib.hid hinj
          have hr2 := HR.out
          rw [← hl] at hr2
          have HRL := Lib.hid hr2
          clear HR hl hinj hr2
          have hmm := @run_makeMap Tryz.prog
          go_upto_region 43 with fail
          clear hmm
          go_loopg [245] m (fun g s245 wx => ∃ i : Nat, i + g = m ∧ s245 = .int .i64 i ∧ Hid (Below W15.heap.size W15 wx) ∧ ∃ D : DataW Unit, Hid (wx.ownsMap Tryz.prog 3 (Go.plainElem Tryz.prog 4) W15.heap.size i D) ∧ Hid (SeenD D l i))
          case atStart => exact ⟨0, by omega, rfl, (Below.refl _ _).alloc (Nat.le_refl _) _, .map [], World.ownsMap_made _ _ _ _, seen_start l⟩
          case round =>
            obtain ⟨i, hi, rfl, hb, D, hown, hseen⟩ := hrel
            by_cases hlt : i < m
            · obtain ⟨lk, hlk⟩ : ∃ lk, lk = l.getD i 0 := ⟨_, rfl⟩
              have hlb := HINJ.out.2.1 i hlt
              rw [← hlk] at hlb
              have HLK := Lib.hid hlk
              have hll : l.length = m := HINJ.out.1
              have hcell : wr.cell? ⟨gd, i, none⟩ = some (.int .i64 lk) := by
                rw [(HRL.out.old hb.out).cell]
                unfold ints
                rw [List.getElem?_map, List.getElem?_eq_getElem (by omega), hlk, List.getD_eq_getElem?_getD, List.getElem?_eq_getElem (by omega)]
                rfl
              have hkey : Go.keyOf Tryz.prog 3 (.int .i64 lk) = some (.int .i64 lk) := Maps.keyOf_int_mk Tryz.underlying3 (WalkArith.wf_i64 (by omega))
              have hlook := look_bool (H := Unit) hown.out (Maps.int_keyed Tryz.underlying3) Tryz.underlying54 Tryz.underlying4 (zeroBool wr) hkey (seen_not HINJ.out hlt hseen.out hlk)
              have HKEY := Lib.hid hkey
              have d1 : decide (lk < 0) = false := decide_eq_false (by omega)
              have d2 : decide ((m : Int) ≤ lk) = false := decide_eq_false (by omega)
              have hi1 : (i : Int) < (m : Int) := by omega
              clear hlk hll hkey
              go_wp2_with (at_mapUpdate; refine wpList_mapUpdate_own _ rfl _ _ _ 54 rfl 3 4 (Maps.int_keyed Tryz.underlying3) Tryz.underlying54 _ W15.heap.size i D rfl hown.out (by unfold maxLen; omega) _ _ _ rfl rfl HKEY.out _ [] (Go.plainElem_bool Tryz.underlying4 true) ?_; intro w1 hown1 hgrow1)
              go_roundg (m - (i + 1))
              case measure => omega
              case rel =>
                exact ⟨i + 1, by omega, rfl, hb.out.grown hgrow1 hb.out.size (fun j hj => by cases hj; exact Nat.le_refl _), _, hown1, seen_next HINJ.out hlt hseen.out HLK.out⟩
            · have hi1 : ¬ (i : Int) < (m : Int) := by omega
              have HS' := Lib.hid (HS.out.keep hb.out)
              clear HS hb hown hseen
              go_wp2_with (go_at_call 20; refine (haw _ HS'.out.2.2.2.2.1).mono ?_; rintro e w5 ⟨rfl, hb5⟩; have HS4 := Lib.hid (HS'.out.keep hb5); clear hb5)
              go_ret
              exact ⟨rfl, HS4.out.2.2.2.2.2⟩
end Go.Proofs.YtkfkmnfejeocpaaGreatDoor
