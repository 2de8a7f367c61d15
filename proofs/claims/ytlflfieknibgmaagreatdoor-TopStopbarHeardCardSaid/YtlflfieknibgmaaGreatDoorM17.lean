import Derived.Test.YtlflfieknibgmaaGreatDoorM14
import Derived.Test.YtlflfieknibgmaaGreatDoorM16
import Derived.Deep.CutBlock
import Derived.Laws.BytesString
namespace Go.Proofs.YtlflfieknibgmaaGreatDoor
set_option linter.all false
open Go.RowKit Go.Fl
def letO (k : UInt8) : UInt8 := 65 + UInt8.ofNat (k.toNat % 26)
inductive WordOf : List UInt8 → ByteArray → Prop
  | one (k : UInt8) : WordOf [k] ⟨#[letO k]⟩
  | two (k l : UInt8) : WordOf [k, l] ⟨#[letO k, letO l]⟩
theorem cvt1 (W : World) (z : Int) : (convert 22 9 (.slice (some ⟨W.heap.size, 0, none⟩) 1 1)).run Tryz.prog (W.alloc (.cells #[.int .u8 z] 5)) = .ok (.string ⟨#[UInt8.ofNat z.toNat]⟩) (W.alloc (.cells #[.int .u8 z] 5)) := by
  have h := run_bytesToString (P := Tryz.prog) (W.alloc (.cells #[.int .u8 z] 5)) ⟨W.heap.size, 0, none⟩ 1 1 [z] (by simp [loadCells, loadCellsFrom, load, Sem.run, Sem.bind, bind, pure, Addr.add])
  simp only [convert, Sem.run_bind, run_underlying Tryz.underlying22, run_underlying Tryz.underlying9, run_underlying Tryz.underlying5, Result.andThen]
  exact h
theorem appE1 (c : UInt8) : ((⟨#[]⟩ : ByteArray) ++ (⟨#[c]⟩ : ByteArray)) = ⟨#[c]⟩ := by apply ByteArray.ext; simp
theorem appE2 (c d : UInt8) : ((⟨#[]⟩ : ByteArray) ++ (⟨#[c]⟩ : ByteArray) ++ (⟨#[d]⟩ : ByteArray)) = ⟨#[c, d]⟩ := by apply ByteArray.ext; simp
theorem ex_eqlGz {o : Oper} {A : Act} {w : World} {a b c d : Int} {z : Bool} {x y : Operand} (ho : o.op = .binOp .eql 25 x y 25) (hx : A.eval x = .agg #[.int .i64 a, .int .i64 b]) (hy : A.eval y = .agg #[.int .i64 c, .int .i64 d]) (hz : (a == c && b == d) = z) : (execOp A.eval o).run Tryz.prog w = .ok (.value (.bool z)) w := by
  have hg : Tryz.prog.eqGuardType Tryz.prog.depth 25 = false := by kernel_rfl
  have h := eqlGauss a b c d w
  rw [hz] at h
  unfold execOp
  simp [ho, hx, hy, eqGuard, hg, h, Sem.run_bind, Sem.run_pure, Result.andThen_ok]
theorem cvt2 (W : World) (o : Obj) (z : Int) : (convert 22 9 (.slice (some ⟨W.heap.size + 1, 0, none⟩) 1 1)).run Tryz.prog ((W.alloc o).alloc (.cells #[.int .u8 z] 5)) = .ok (.string ⟨#[UInt8.ofNat z.toNat]⟩) ((W.alloc o).alloc (.cells #[.int .u8 z] 5)) := by
  have h := cvt1 (W.alloc o) z
  rw [World.size_alloc] at h
  exact h
theorem WordOf.len {bs : List UInt8} {W : ByteArray} (h : WordOf bs W) : 1 ≤ bs.length ∧ bs.length ≤ 2 := by cases h <;> simp
set_option maxRecDepth 100000 in
set_option maxHeartbeats 8000000 in
theorem heard_law (A : Option Addr) (n ca : Nat) (x0 x1 a b c d x y p1 p2 p3 p4 p5 p6 l1 l2 l3 l4 l5 l6 u v tn : Int) (dt : Nat) (j0 j1 j2 j3 j4 j5 j6 j7 k0 k1 k2 k3 k4 k5 k6 k7 : Nat) (K : List Nat) (bs : List UInt8) (Wd : ByteArray) (w : World) (hA : Rd w A (byts bs)) (hn : n = bs.length) (hT : HTb w) (hS : SentOk) (hW : WordOf bs Wd) (hQ : ∀ W, Calls Tryz.prog 5 #[.agg #[.int .i64 a, .int .i64 b, .int .i64 c, .int .i64 d, .int .i64 x, .int .i64 y], .int .i64 300] W fun e w' => ∃ r, e = .returned (.bool r) ∧ Below W.heap.size W w') (hKe : ∀ W, Tz W → Calls Tryz.prog 7 #[.string Wd, .int .i64 (dt : Int)] W fun e w' => ∃ g c, e = .returned (.tuple #[.slice (some ⟨g, 0, none⟩) K.length c, .int .i64 0]) ∧ Rd w' (some ⟨g, 0, none⟩) (flts K) ∧ Below W.heap.size W w') (hTu : ∀ W, Tn W → Calls Tryz.prog 8 #[.agg #[.int .i64 a, .int .i64 b, .int .i64 c, .int .i64 d, .int .i64 x, .int .i64 y], .int .i64 tn] W fun e w' => e = .returned (.tuple #[.agg #[.int .i64 p1, .int .i64 p2, .int .i64 p3, .int .i64 p4, .int .i64 p5, .int .i64 p6], .int .i64 0]) ∧ Below W.heap.size W w') (hAd : ∀ W, Calls Tryz.prog 9 #[.agg #[.int .i64 p1, .int .i64 p2, .int .i64 p3, .int .i64 p4, .int .i64 p5, .int .i64 p6], .agg #[.int .i64 p1, .int .i64 p2, .int .i64 p3, .int .i64 p4, .int .i64 p5, .int .i64 p6]] W fun e w' => e = .returned (.tuple #[.agg #[.int .i64 l1, .int .i64 l2, .int .i64 l3, .int .i64 l4, .int .i64 l5, .int .i64 l6], .int .i64 0]) ∧ Below W.heap.size W w') (hSc : ∀ W, Calls Tryz.prog 10 #[.agg #[.int .i64 p1, .int .i64 p2, .int .i64 p3, .int .i64 p4, .int .i64 p5, .int .i64 p6], .agg #[.int .i64 2, .int .i64 0], .agg #[.int .i64 2, .int .i64 0]] W fun e w' => e = .returned (.tuple #[.agg #[.int .i64 l1, .int .i64 l2, .int .i64 l3, .int .i64 l4, .int .i64 l5, .int .i64 l6], .int .i64 0]) ∧ Below W.heap.size W w') (hNe : ∀ W, Calls Tryz.prog 11 #[.agg #[.int .i64 a, .int .i64 b, .int .i64 c, .int .i64 d, .int .i64 x, .int .i64 y]] W fun e w' => e = .returned (.tuple #[.agg #[.int .i64 u, .int .i64 v], .int .i64 0]) ∧ Below W.heap.size W w') (hNp : ∀ W, Calls Tryz.prog 11 #[.agg #[.int .i64 p1, .int .i64 p2, .int .i64 p3, .int .i64 p4, .int .i64 p5, .int .i64 p6]] W fun e w' => e = .returned (.tuple #[.agg #[.int .i64 u, .int .i64 v], .int .i64 0]) ∧ Below W.heap.size W w') (hNl : ∀ W, Calls Tryz.prog 11 #[.agg #[.int .i64 l1, .int .i64 l2, .int .i64 l3, .int .i64 l4, .int .i64 l5, .int .i64 l6]] W fun e w' => e = .returned (.tuple #[.agg #[.int .i64 u, .int .i64 v], .int .i64 0]) ∧ Below W.heap.size W w') (hSp : ∀ W, Calls Tryz.prog 12 #[.agg #[.int .i64 p1, .int .i64 p2, .int .i64 p3, .int .i64 p4, .int .i64 p5, .int .i64 p6]] W fun e w' => e = .returned (.tuple #[.agg #[.complex .f32 j0 j1, .complex .f32 j2 j3, .complex .f32 j4 j5, .complex .f32 j6 j7], .int .i64 0]) ∧ Below W.heap.size W w') (hSl : ∀ W, Calls Tryz.prog 12 #[.agg #[.int .i64 l1, .int .i64 l2, .int .i64 l3, .int .i64 l4, .int .i64 l5, .int .i64 l6]] W fun e w' => e = .returned (.tuple #[.agg #[.complex .f32 k0 k1, .complex .f32 k2 k3, .complex .f32 k4 k5, .complex .f32 k6 k7], .int .i64 0]) ∧ Below W.heap.size W w') (hRp : ∀ W, Calls Tryz.prog 13 #[.agg #[.complex .f32 j0 j1, .complex .f32 j2 j3, .complex .f32 j4 j5, .complex .f32 j6 j7]] W fun e w' => e = .returned (.tuple #[.agg #[.int .i64 p1, .int .i64 p2, .int .i64 p3, .int .i64 p4, .int .i64 p5, .int .i64 p6], .agg #[.int .i64 0, .int .i64 0], .int .i64 0]) ∧ Below W.heap.size W w') (hRl : ∀ W, Calls Tryz.prog 13 #[.agg #[.complex .f32 k0 k1, .complex .f32 k2 k3, .complex .f32 k4 k5, .complex .f32 k6 k7]] W fun e w' => e = .returned (.tuple #[.agg #[.int .i64 l1, .int .i64 l2, .int .i64 l3, .int .i64 l4, .int .i64 l5, .int .i64 l6], .agg #[.int .i64 0, .int .i64 0], .int .i64 0]) ∧ Below W.heap.size W w') (hPl : ∀ W, Calls Tryz.prog 14 #[.agg #[.int .i64 p1, .int .i64 p2], .agg #[.int .i64 p1, .int .i64 p2]] W fun e w' => e = .returned (.agg #[.int .i64 l1, .int .i64 l2]) ∧ Below W.heap.size W w') (hcp : (p1 == l1 && p2 == l2) = false) (hK1 : ∀ z ∈ K, z = 0 ∨ z = 1065353216) (hK2 : K.length ≤ 100) (hHe : ∀ Ah ch W, Tz W → Rd W Ah (flts K) → Calls Tryz.prog 15 #[.slice Ah K.length ch, .int .i64 (dt : Int)] W fun e w' => ∃ g c, e = .returned (.tuple #[.slice (some ⟨g, 0, none⟩) 1 c, .int .i64 0]) ∧ Rd w' (some ⟨g, 0, none⟩) (strs [Wd]) ∧ Below W.heap.size W w') (hK0 : 0 < K.length) (hdt : (dt : Int) = 1 + x0 % 2) (htn : tn = x1 % 4) (hx0 : 0 ≤ x0 ∧ x0 ≤ 255) (hx1 : 0 ≤ x1 ∧ x1 ≤ 255) : Calls Tryz.prog 3 #[.slice A n ca, .agg #[.int .u8 x0, .int .u8 x1], .agg #[.int .i64 a, .int .i64 b, .int .i64 c, .int .i64 d, .int .i64 x, .int .i64 y]] w fun e w' => e = .returned (.bool true) ∧ Below w.heap.size w w' := by
  have hl2 := hW.len
  have HK : Hid (KpH w [((w.heap.size + 1), 27, [.int .i64 a, .int .i64 b, .int .i64 c, .int .i64 d, .int .i64 x, .int .i64 y]), (w.heap.size, 23, [.int .u8 x0, .int .u8 x1])] [(A, byts bs)] ((w.alloc (.cells #[.int .u8 x0, .int .u8 x1] 23)).alloc (.cells #[.int .i64 a, .int .i64 b, .int .i64 c, .int .i64 d, .int .i64 x, .int .i64 y] 27))) := Lib.hid (KpH.cons (KpH.cons (KpH.old (V := w) ⟨hT, fun r h => (List.not_mem_nil h).elim, fun r h => by rw [List.mem_singleton.1 h]; exact hA, Below.refl _ _⟩ (((Below.refl _ _).alloc (Nat.le_refl _) _).alloc (by simp) _)) ((Row.new w _ [.int .u8 x0, .int .u8 x1]).alloc _)) row2)
  replace hQ := Lib.hid hQ
  replace hKe := Lib.hid hKe
  replace hTu := Lib.hid hTu
  replace hAd := Lib.hid hAd
  replace hSc := Lib.hid hSc
  replace hNe := Lib.hid hNe
  replace hNp := Lib.hid hNp
  replace hNl := Lib.hid hNl
  replace hSp := Lib.hid hSp
  replace hSl := Lib.hid hSl
  replace hRp := Lib.hid hRp
  replace hRl := Lib.hid hRl
  replace hPl := Lib.hid hPl
  replace hcp := Lib.hid hcp
  replace hK1 := Lib.hid hK1
  replace hK2 := Lib.hid hK2
  replace hHe := Lib.hid hHe
  replace hK0 := Lib.hid hK0
  replace hdt := Lib.hid hdt
  replace htn := Lib.hid htn
  replace hS := Lib.hid hS
  have q1 : decide ((n : Int) < 1) = false := decide_eq_false (by omega)
  have q2 : decide ((2 : Int) < (n : Int)) = false := decide_eq_false (by omega)
  have q3 : ¬ (2 : Int) < (n : Int) := by omega
  have Hn := Lib.hid hn
  have Hl := Lib.hid hl2
  clear hA hT hn hl2
  go_enter Tryz.func3, Tryz.ntmps3
  go_upto_region 1 with fail
  refine genT (fun V => KpH w [((w.heap.size + 1), 27, [.int .i64 a, .int .i64 b, .int .i64 c, .int .i64 d, .int .i64 x, .int .i64 y]), (w.heap.size, 23, [.int .u8 x0, .int .u8 x1])] [(A, byts bs)] V) HK.out ?_
  clear HK
  intro wc s0
  have HK := Lib.hid s0
  clear s0
  go_upto_region 1 with fail
  go_cut [48] from 36 to 47 (fun s48 wx => ∃ q, s48 = .bool q ∧ Hid (KpH w [((w.heap.size + 1), 27, [.int .i64 a, .int .i64 b, .int .i64 c, .int .i64 d, .int .i64 x, .int .i64 y]), (w.heap.size, 23, [.int .u8 x0, .int .u8 x1])] [(A, byts bs)] wx))
  case first =>
    have HV := HK
    have z0 := ((HK.out.row (w.heap.size + 1) 27 [.int .i64 a, .int .i64 b, .int .i64 c, .int .i64 d, .int .i64 x, .int .i64 y] (.head _)).cell 0)
    have z1 := ((HK.out.row (w.heap.size + 1) 27 [.int .i64 a, .int .i64 b, .int .i64 c, .int .i64 d, .int .i64 x, .int .i64 y] (.head _)).cell 1)
    have z2 := ((HK.out.row (w.heap.size + 1) 27 [.int .i64 a, .int .i64 b, .int .i64 c, .int .i64 d, .int .i64 x, .int .i64 y] (.head _)).cell 2)
    have z3 := ((HK.out.row (w.heap.size + 1) 27 [.int .i64 a, .int .i64 b, .int .i64 c, .int .i64 d, .int .i64 x, .int .i64 y] (.head _)).cell 3)
    have z4 := ((HK.out.row (w.heap.size + 1) 27 [.int .i64 a, .int .i64 b, .int .i64 c, .int .i64 d, .int .i64 x, .int .i64 y] (.head _)).cell 4)
    have z5 := ((HK.out.row (w.heap.size + 1) 27 [.int .i64 a, .int .i64 b, .int .i64 c, .int .i64 d, .int .i64 x, .int .i64 y] (.head _)).cell 5)
    simp only [List.getElem?_cons_succ, List.getElem?_cons_zero] at z0 z1 z2 z3 z4 z5
    go_wp2_with (first
      | (go_at_call 5; refine (hQ.out _).mono ?_; rintro e w2 ⟨r, rfl, hb⟩; replace HV := Lib.hid (HV.out.old hb); clear hb))
    go_meet
    exact ⟨_, rfl, HV⟩
  case rest =>
  clear HK
  obtain ⟨q, rfl, HK⟩ := hcut
  by_cases hq : q = true
  · subst hq
    have HV := HK
    go_wp2_with (go_at_call 6; refine (hS.out _).mono ?_; rintro e w3 ⟨rfl, hb⟩; replace HV := Lib.hid (HV.out.old hb); clear hb)
    go_ret
    exact ⟨rfl, HV.out.2.2.2⟩
  obtain rfl : q = false := by simpa using hq
  clear hq
  go_upto_block 0 with fail
  go_cut [7] from 9 to 65 (fun s7 wx => s7 = .string Wd ∧ Hid (KpH w [((w.heap.size + 1), 27, [.int .i64 a, .int .i64 b, .int .i64 c, .int .i64 d, .int .i64 x, .int .i64 y]), (w.heap.size, 23, [.int .u8 x0, .int .u8 x1])] [(A, byts bs)] wx))
  case first =>
    clear q1 q2 q3
    cases hW with
    | one k =>
      have hn := Hn.out; simp only [List.length_cons, List.length_nil] at hn; subst hn
      obtain ⟨bb, off, rfl, hc⟩ := (HK.out.rd A (byts [k]) (.head _)) 0 _ rfl
      rw [Nat.add_zero] at hc
      have hk : (k.toNat : Int) ≤ 255 := by have := k.toNat_lt; omega
      have hk0 : (0 : Int) ≤ (k.toNat : Int) := by omega
      have hcv := cvt1
      go_wp2_with fail
      refine wp_loop_rounds 2 ?_
      rw [rounds_succ]
      go_wp2_with fail
      rw [rounds_succ]
      go_wp2_with fail
      go_meet
      exact ⟨congrArg Value.string (appE1 _), Lib.hid (HK.out.old ((Below.refl _ _).alloc (Nat.le_refl _) _))⟩
    | two k l =>
      have hn := Hn.out; simp only [List.length_cons, List.length_nil] at hn; subst hn
      obtain ⟨bb, off, rfl, hc⟩ := (HK.out.rd A (byts [k, l]) (.head _)) 0 _ rfl
      have hc' : wc.cell? ⟨bb, off + 1, none⟩ = some (.int .u8 l.toNat) := by
        obtain ⟨bb', off', e, h⟩ := (HK.out.rd (some ⟨bb, off, none⟩) (byts [k, l]) (.head _)) 1 _ rfl
        cases e; exact h
      have hc3 : ∀ o, (wc.alloc o).cell? ⟨bb, off + 1, none⟩ = some (.int .u8 l.toNat) := fun o => (World.cell?_alloc_some wc _ o (by rw [hc']; rfl)).trans hc'
      rw [Nat.add_zero] at hc
      have hk : (k.toNat : Int) ≤ 255 := by have := k.toNat_lt; omega
      have hk0 : (0 : Int) ≤ (k.toNat : Int) := by omega
      have hm : (l.toNat : Int) ≤ 255 := by have := l.toNat_lt; omega
      have hm0 : (0 : Int) ≤ (l.toNat : Int) := by omega
      have hcv := cvt1
      have hcv2 := cvt2
      go_wp2_with fail
      refine wp_loop_rounds 3 ?_
      rw [rounds_succ]
      go_wp2_with fail
      rw [rounds_succ]
      go_wp2_with fail
      rw [rounds_succ]
      go_wp2_with fail
      go_meet
      exact ⟨congrArg Value.string (appE2 _ _), Lib.hid (HK.out.old (((Below.refl _ _).alloc (Nat.le_refl _) _).alloc (by simp) _))⟩
  case rest =>
  clear HK
  obtain ⟨rfl, HK⟩ := hcut
  clear q1 q2 q3
  go_upto_region 9 with fail
  go_cut [10, 11] from 66 to 74 (fun s10 s11 wx => s10 = .int .i64 (dt : Int) ∧ s11 = .int .i64 tn ∧ Hid (KpH w [((w.heap.size + 1), 27, [.int .i64 a, .int .i64 b, .int .i64 c, .int .i64 d, .int .i64 x, .int .i64 y]), (w.heap.size, 23, [.int .u8 x0, .int .u8 x1])] [(A, byts bs)] wx))
  case first =>
    have z0 := ((HK.out.row w.heap.size 23 [.int .u8 x0, .int .u8 x1] (.tail _ (.head _))).cell 0)
    have z1 := ((HK.out.row w.heap.size 23 [.int .u8 x0, .int .u8 x1] (.tail _ (.head _))).cell 1)
    simp only [List.getElem?_cons_succ, List.getElem?_cons_zero] at z0 z1
    go_region
    go_wp2_with fail
    go_meet
    refine ⟨congrArg (Value.int .i64) ?_, congrArg (Value.int .i64) ?_, Lib.hid (HK.out.old (Below.refl _ _).drew)⟩
    · have := hdt.out; omega
    · have := htn.out; omega
  case rest =>
  clear HK
  obtain ⟨rfl, rfl, HK⟩ := hcut
  go_upto_region 10 with fail
  go_cut [12, 13] from 75 to 80 (fun s12 s13 wx => ∃ gk ck, s12 = .slice (some ⟨gk, 0, none⟩) K.length ck ∧ s13 = .int .i64 0 ∧ Hid (KpH w [((w.heap.size + 1), 27, [.int .i64 a, .int .i64 b, .int .i64 c, .int .i64 d, .int .i64 x, .int .i64 y]), (w.heap.size, 23, [.int .u8 x0, .int .u8 x1])] [((some ⟨gk, 0, none⟩), flts K), (A, byts bs)] wx))
  case first =>
    have HV := HK
    go_wp2_with (first
      | (go_at_call 7; refine (hKe.out _ HV.out.1.1).mono ?_; rintro e w2 ⟨gk, ck, rfl, hF, hb⟩; replace HV := Lib.hid (HV.out.old hb); clear hb))
    go_meet
    exact ⟨_, _, rfl, rfl, Lib.hid (KpH.rcons HV.out hF)⟩
  case rest =>
  clear HK
  obtain ⟨gk, ck, rfl, rfl, HK⟩ := hcut
  go_upto_region 11 with fail
  go_cut [14, 15] from 81 to 86 (fun s14 s15 wx => ∃ g14, s14 = .pointer (some ⟨g14, 0, none⟩) ∧ s15 = .int .i64 0 ∧ Hid (KpH w [(g14, 34, [.int .i64 p1, .int .i64 p2, .int .i64 p3, .int .i64 p4, .int .i64 p5, .int .i64 p6]), ((w.heap.size + 1), 27, [.int .i64 a, .int .i64 b, .int .i64 c, .int .i64 d, .int .i64 x, .int .i64 y]), (w.heap.size, 23, [.int .u8 x0, .int .u8 x1])] [((some ⟨gk, 0, none⟩), flts K), (A, byts bs)] wx))
  case first =>
    have HV := HK
    go_wp2_with (first
      | (refine wpList_load_row rfl 27 _ rfl (w.heap.size + 1) rfl 27 #[.int .i64 a, .int .i64 b, .int .i64 c, .int .i64 d, .int .i64 x, .int .i64 y] (0, 0) _ (HV.out.row (w.heap.size + 1) 27 [.int .i64 a, .int .i64 b, .int .i64 c, .int .i64 d, .int .i64 x, .int .i64 y] (.head _)) Tryz.underlying27 rfl ?_ ?_; (kernel_rfl))
      | (go_at_call 8; refine (hTu.out _ HV.out.1.2).mono ?_; rintro e w2 ⟨rfl, hb⟩; replace HV := Lib.hid (HV.out.old hb); clear hb)
      | (refine wpList_store_row rfl 34 _ _ rfl (w2.heap.size) #[.int .i64 p1, .int .i64 p2, .int .i64 p3, .int .i64 p4, .int .i64 p5, .int .i64 p6] rfl rfl 34 _ (Row.new w2 34 [.int .i64 0, .int .i64 0, .int .i64 0, .int .i64 0, .int .i64 0, .int .i64 0]) ?_ ?_ ?_ ?_; (kernel_rfl); (rfl); (simp [Value.oneCell'])))
    go_meet
    exact ⟨_, rfl, rfl, Lib.hid (KpH.cons (HV.out.old (Below.setRow ((Below.refl _ _).alloc (Nat.le_refl _) _) (Nat.le_refl _) _)) ((Row.new w2 34 [.int .i64 0, .int .i64 0, .int .i64 0, .int .i64 0, .int .i64 0, .int .i64 0]).setRow [.int .i64 p1, .int .i64 p2, .int .i64 p3, .int .i64 p4, .int .i64 p5, .int .i64 p6]))⟩
  case rest =>
  clear HK
  obtain ⟨g14, rfl, rfl, HK⟩ := hcut
  go_upto_region 12 with fail
  go_cut [97] from 87 to 96 (fun s97 wx => s97 = .bool false ∧ Hid (KpH w [(g14, 34, [.int .i64 p1, .int .i64 p2, .int .i64 p3, .int .i64 p4, .int .i64 p5, .int .i64 p6]), ((w.heap.size + 1), 27, [.int .i64 a, .int .i64 b, .int .i64 c, .int .i64 d, .int .i64 x, .int .i64 y]), (w.heap.size, 23, [.int .u8 x0, .int .u8 x1])] [((some ⟨gk, 0, none⟩), flts K), (A, byts bs)] wx))
  case first =>
    have q4 : decide ((100 : Int) < (K.length : Int)) = false := decide_eq_false (by have := hK2.out; omega)
    have q5 : ¬ (100 : Int) < (K.length : Int) := by have := hK2.out; omega
    go_wp2_with fail
    go_meet
    exact ⟨rfl, HK⟩
  case rest =>
  clear HK
  obtain ⟨rfl, HK⟩ := hcut
  go_upto_region 14 with fail
  go_cut [16, 17] from 98 to 103 (fun s16 s17 wx => ∃ g16, s16 = .pointer (some ⟨g16, 0, none⟩) ∧ s17 = .int .i64 0 ∧ Hid (KpH w [(g16, 34, [.int .i64 l1, .int .i64 l2, .int .i64 l3, .int .i64 l4, .int .i64 l5, .int .i64 l6]), (g14, 34, [.int .i64 p1, .int .i64 p2, .int .i64 p3, .int .i64 p4, .int .i64 p5, .int .i64 p6]), ((w.heap.size + 1), 27, [.int .i64 a, .int .i64 b, .int .i64 c, .int .i64 d, .int .i64 x, .int .i64 y]), (w.heap.size, 23, [.int .u8 x0, .int .u8 x1])] [((some ⟨gk, 0, none⟩), flts K), (A, byts bs)] wx))
  case first =>
    have HV := HK
    go_wp2_with (first
      | (refine wpList_load_row rfl 34 _ rfl g14 rfl 34 #[.int .i64 p1, .int .i64 p2, .int .i64 p3, .int .i64 p4, .int .i64 p5, .int .i64 p6] (0, 0) _ (HV.out.row g14 34 [.int .i64 p1, .int .i64 p2, .int .i64 p3, .int .i64 p4, .int .i64 p5, .int .i64 p6] (.head _)) Tryz.underlying34 rfl ?_ ?_; (kernel_rfl))
      | (go_at_call 9; refine (hAd.out _).mono ?_; rintro e w2 ⟨rfl, hb⟩; replace HV := Lib.hid (HV.out.old hb); clear hb)
      | (refine wpList_store_row rfl 34 _ _ rfl (w2.heap.size) #[.int .i64 l1, .int .i64 l2, .int .i64 l3, .int .i64 l4, .int .i64 l5, .int .i64 l6] rfl rfl 34 _ (Row.new w2 34 [.int .i64 0, .int .i64 0, .int .i64 0, .int .i64 0, .int .i64 0, .int .i64 0]) ?_ ?_ ?_ ?_; (kernel_rfl); (rfl); (simp [Value.oneCell'])))
    go_meet
    exact ⟨_, rfl, rfl, Lib.hid (KpH.cons (HV.out.old (Below.setRow ((Below.refl _ _).alloc (Nat.le_refl _) _) (Nat.le_refl _) _)) ((Row.new w2 34 [.int .i64 0, .int .i64 0, .int .i64 0, .int .i64 0, .int .i64 0, .int .i64 0]).setRow [.int .i64 l1, .int .i64 l2, .int .i64 l3, .int .i64 l4, .int .i64 l5, .int .i64 l6]))⟩
  case rest =>
  clear HK
  obtain ⟨g16, rfl, rfl, HK⟩ := hcut
  go_upto_region 15 with fail
  go_cut [18, 19] from 104 to 110 (fun s18 s19 wx => ∃ g18, s18 = .pointer (some ⟨g18, 0, none⟩) ∧ s19 = .int .i64 0 ∧ Hid (KpH w [(g18, 34, [.int .i64 l1, .int .i64 l2, .int .i64 l3, .int .i64 l4, .int .i64 l5, .int .i64 l6]), (g16, 34, [.int .i64 l1, .int .i64 l2, .int .i64 l3, .int .i64 l4, .int .i64 l5, .int .i64 l6]), (g14, 34, [.int .i64 p1, .int .i64 p2, .int .i64 p3, .int .i64 p4, .int .i64 p5, .int .i64 p6]), ((w.heap.size + 1), 27, [.int .i64 a, .int .i64 b, .int .i64 c, .int .i64 d, .int .i64 x, .int .i64 y]), (w.heap.size, 23, [.int .u8 x0, .int .u8 x1])] [((some ⟨gk, 0, none⟩), flts K), (A, byts bs)] wx))
  case first =>
    have HV := HK
    go_wp2_with (first
      | (refine wpList_load_row rfl 34 _ rfl g14 rfl 34 #[.int .i64 p1, .int .i64 p2, .int .i64 p3, .int .i64 p4, .int .i64 p5, .int .i64 p6] (0, 0) _ (HV.out.row g14 34 [.int .i64 p1, .int .i64 p2, .int .i64 p3, .int .i64 p4, .int .i64 p5, .int .i64 p6] (.tail _ (.head _))) Tryz.underlying34 rfl ?_ ?_; (kernel_rfl))
      | (go_at_call 10; refine (hSc.out _).mono ?_; rintro e w2 ⟨rfl, hb⟩; replace HV := Lib.hid (HV.out.old hb); clear hb)
      | (refine wpList_store_row rfl 34 _ _ rfl (w2.heap.size) #[.int .i64 l1, .int .i64 l2, .int .i64 l3, .int .i64 l4, .int .i64 l5, .int .i64 l6] rfl rfl 34 _ (Row.new w2 34 [.int .i64 0, .int .i64 0, .int .i64 0, .int .i64 0, .int .i64 0, .int .i64 0]) ?_ ?_ ?_ ?_; (kernel_rfl); (rfl); (simp [Value.oneCell'])))
    go_meet
    exact ⟨_, rfl, rfl, Lib.hid (KpH.cons (HV.out.old (Below.setRow ((Below.refl _ _).alloc (Nat.le_refl _) _) (Nat.le_refl _) _)) ((Row.new w2 34 [.int .i64 0, .int .i64 0, .int .i64 0, .int .i64 0, .int .i64 0, .int .i64 0]).setRow [.int .i64 l1, .int .i64 l2, .int .i64 l3, .int .i64 l4, .int .i64 l5, .int .i64 l6]))⟩
  case rest =>
  clear HK
  obtain ⟨g18, rfl, rfl, HK⟩ := hcut
  go_upto_region 16 with fail
  go_cut [20, 21] from 111 to 115 (fun s20 s21 wx => ∃ g20, s20 = .pointer (some ⟨g20, 0, none⟩) ∧ s21 = .int .i64 0 ∧ Hid (KpH w [(g20, 40, [.int .i64 u, .int .i64 v]), (g18, 34, [.int .i64 l1, .int .i64 l2, .int .i64 l3, .int .i64 l4, .int .i64 l5, .int .i64 l6]), (g16, 34, [.int .i64 l1, .int .i64 l2, .int .i64 l3, .int .i64 l4, .int .i64 l5, .int .i64 l6]), (g14, 34, [.int .i64 p1, .int .i64 p2, .int .i64 p3, .int .i64 p4, .int .i64 p5, .int .i64 p6]), ((w.heap.size + 1), 27, [.int .i64 a, .int .i64 b, .int .i64 c, .int .i64 d, .int .i64 x, .int .i64 y]), (w.heap.size, 23, [.int .u8 x0, .int .u8 x1])] [((some ⟨gk, 0, none⟩), flts K), (A, byts bs)] wx))
  case first =>
    have HV := HK
    go_wp2_with (first
      | (refine wpList_load_row rfl 27 _ rfl (w.heap.size + 1) rfl 27 #[.int .i64 a, .int .i64 b, .int .i64 c, .int .i64 d, .int .i64 x, .int .i64 y] (0, 0) _ (HV.out.row (w.heap.size + 1) 27 [.int .i64 a, .int .i64 b, .int .i64 c, .int .i64 d, .int .i64 x, .int .i64 y] (.tail _ (.tail _ (.tail _ (.head _))))) Tryz.underlying27 rfl ?_ ?_; (kernel_rfl))
      | (go_at_call 11; refine (hNe.out _).mono ?_; rintro e w2 ⟨rfl, hb⟩; replace HV := Lib.hid (HV.out.old hb); clear hb)
      | (refine wpList_store_row rfl 40 _ _ rfl (w2.heap.size) #[.int .i64 u, .int .i64 v] rfl rfl 40 _ (Row.new w2 40 [.int .i64 0, .int .i64 0]) ?_ ?_ ?_ ?_; (kernel_rfl); (rfl); (simp [Value.oneCell'])))
    go_meet
    exact ⟨_, rfl, rfl, Lib.hid (KpH.cons (HV.out.old (Below.setRow ((Below.refl _ _).alloc (Nat.le_refl _) _) (Nat.le_refl _) _)) ((Row.new w2 40 [.int .i64 0, .int .i64 0]).setRow [.int .i64 u, .int .i64 v]))⟩
  case rest =>
  clear HK
  obtain ⟨g20, rfl, rfl, HK⟩ := hcut
  go_upto_region 17 with fail
  go_cut [130] from 116 to 129 (fun s130 wx => s130 = .bool false ∧ Hid (KpH w [(g20, 40, [.int .i64 u, .int .i64 v]), (g18, 34, [.int .i64 l1, .int .i64 l2, .int .i64 l3, .int .i64 l4, .int .i64 l5, .int .i64 l6]), (g16, 34, [.int .i64 l1, .int .i64 l2, .int .i64 l3, .int .i64 l4, .int .i64 l5, .int .i64 l6]), (g14, 34, [.int .i64 p1, .int .i64 p2, .int .i64 p3, .int .i64 p4, .int .i64 p5, .int .i64 p6]), ((w.heap.size + 1), 27, [.int .i64 a, .int .i64 b, .int .i64 c, .int .i64 d, .int .i64 x, .int .i64 y]), (w.heap.size, 23, [.int .u8 x0, .int .u8 x1])] [((some ⟨gk, 0, none⟩), flts K), (A, byts bs)] wx))
  case first =>
    have e1 := neqTS_selfH l1 l2 l3 l4 l5 l6
    have z0 := ((HK.out.row g16 34 [.int .i64 l1, .int .i64 l2, .int .i64 l3, .int .i64 l4, .int .i64 l5, .int .i64 l6] (.tail _ (.tail _ (.head _)))).cell 0)
    have z1 := ((HK.out.row g16 34 [.int .i64 l1, .int .i64 l2, .int .i64 l3, .int .i64 l4, .int .i64 l5, .int .i64 l6] (.tail _ (.tail _ (.head _)))).cell 1)
    have z2 := ((HK.out.row g16 34 [.int .i64 l1, .int .i64 l2, .int .i64 l3, .int .i64 l4, .int .i64 l5, .int .i64 l6] (.tail _ (.tail _ (.head _)))).cell 2)
    have z3 := ((HK.out.row g16 34 [.int .i64 l1, .int .i64 l2, .int .i64 l3, .int .i64 l4, .int .i64 l5, .int .i64 l6] (.tail _ (.tail _ (.head _)))).cell 3)
    have z4 := ((HK.out.row g16 34 [.int .i64 l1, .int .i64 l2, .int .i64 l3, .int .i64 l4, .int .i64 l5, .int .i64 l6] (.tail _ (.tail _ (.head _)))).cell 4)
    have z5 := ((HK.out.row g16 34 [.int .i64 l1, .int .i64 l2, .int .i64 l3, .int .i64 l4, .int .i64 l5, .int .i64 l6] (.tail _ (.tail _ (.head _)))).cell 5)
    simp only [List.getElem?_cons_succ, List.getElem?_cons_zero] at z0 z1 z2 z3 z4 z5
    have y0 := ((HK.out.row g18 34 [.int .i64 l1, .int .i64 l2, .int .i64 l3, .int .i64 l4, .int .i64 l5, .int .i64 l6] (.tail _ (.head _))).cell 0)
    have y1 := ((HK.out.row g18 34 [.int .i64 l1, .int .i64 l2, .int .i64 l3, .int .i64 l4, .int .i64 l5, .int .i64 l6] (.tail _ (.head _))).cell 1)
    have y2 := ((HK.out.row g18 34 [.int .i64 l1, .int .i64 l2, .int .i64 l3, .int .i64 l4, .int .i64 l5, .int .i64 l6] (.tail _ (.head _))).cell 2)
    have y3 := ((HK.out.row g18 34 [.int .i64 l1, .int .i64 l2, .int .i64 l3, .int .i64 l4, .int .i64 l5, .int .i64 l6] (.tail _ (.head _))).cell 3)
    have y4 := ((HK.out.row g18 34 [.int .i64 l1, .int .i64 l2, .int .i64 l3, .int .i64 l4, .int .i64 l5, .int .i64 l6] (.tail _ (.head _))).cell 4)
    have y5 := ((HK.out.row g18 34 [.int .i64 l1, .int .i64 l2, .int .i64 l3, .int .i64 l4, .int .i64 l5, .int .i64 l6] (.tail _ (.head _))).cell 5)
    simp only [List.getElem?_cons_succ, List.getElem?_cons_zero] at y0 y1 y2 y3 y4 y5
    go_wp2_with fail
    go_meet
    exact ⟨rfl, HK⟩
  case rest =>
  clear HK
  obtain ⟨rfl, HK⟩ := hcut
  go_upto_block 2 with fail
  go_cut [22] from 24 to 189 (fun s22 wx => ∃ gh ch, s22 = .slice (some ⟨gh, 0, none⟩) K.length ch ∧ Hid (KpH w [(g20, 40, [.int .i64 u, .int .i64 v]), (g18, 34, [.int .i64 l1, .int .i64 l2, .int .i64 l3, .int .i64 l4, .int .i64 l5, .int .i64 l6]), (g16, 34, [.int .i64 l1, .int .i64 l2, .int .i64 l3, .int .i64 l4, .int .i64 l5, .int .i64 l6]), (g14, 34, [.int .i64 p1, .int .i64 p2, .int .i64 p3, .int .i64 p4, .int .i64 p5, .int .i64 p6]), ((w.heap.size + 1), 27, [.int .i64 a, .int .i64 b, .int .i64 c, .int .i64 d, .int .i64 x, .int .i64 y]), (w.heap.size, 23, [.int .u8 x0, .int .u8 x1])] [((some ⟨gh, 0, none⟩), flts K), ((some ⟨gk, 0, none⟩), flts K), (A, byts bs)] wx))
  case first =>
    obtain ⟨i0, hin, hz0, hz1, hz2⟩ := info_parts info37
    go_wp2_with fail
    refine genT (fun V => KpH w [(g20, 40, [.int .i64 u, .int .i64 v]), (g18, 34, [.int .i64 l1, .int .i64 l2, .int .i64 l3, .int .i64 l4, .int .i64 l5, .int .i64 l6]), (g16, 34, [.int .i64 l1, .int .i64 l2, .int .i64 l3, .int .i64 l4, .int .i64 l5, .int .i64 l6]), (g14, 34, [.int .i64 p1, .int .i64 p2, .int .i64 p3, .int .i64 p4, .int .i64 p5, .int .i64 p6]), ((w.heap.size + 1), 27, [.int .i64 a, .int .i64 b, .int .i64 c, .int .i64 d, .int .i64 x, .int .i64 y]), (w.heap.size, 23, [.int .u8 x0, .int .u8 x1])] [((some ⟨gk, 0, none⟩), flts K), (A, byts bs)] V) HK.out ?_
    clear HK
    intro W1 s0
    have HB1 := Lib.hid s0.2.2.2
    have HKb : Hid (KpH W1 [(g20, 40, [.int .i64 u, .int .i64 v]), (g18, 34, [.int .i64 l1, .int .i64 l2, .int .i64 l3, .int .i64 l4, .int .i64 l5, .int .i64 l6]), (g16, 34, [.int .i64 l1, .int .i64 l2, .int .i64 l3, .int .i64 l4, .int .i64 l5, .int .i64 l6]), (g14, 34, [.int .i64 p1, .int .i64 p2, .int .i64 p3, .int .i64 p4, .int .i64 p5, .int .i64 p6]), ((w.heap.size + 1), 27, [.int .i64 a, .int .i64 b, .int .i64 c, .int .i64 d, .int .i64 x, .int .i64 y]), (w.heap.size, 23, [.int .u8 x0, .int .u8 x1])] [((some ⟨gk, 0, none⟩), flts K), (A, byts bs)] W1) := Lib.hid ⟨s0.1, s0.2.1, s0.2.2.1, Below.refl _ _⟩
    clear s0
    go_loopw [22, 133] (fun hv hi wr => ∃ k : Nat, k ≤ K.length ∧ hi = .int .i64 k ∧ Hid (wr.ownsRow W1.heap.size 43 1 hv k (flts (K.take k))) ∧ Hid (Below W1.heap.size W1 wr)) (fun _ i _ => K.length - (intOf i).toNat)
    case atStart => exact ⟨0, Nat.zero_le _, rfl, World.ownsRow_nil _ _ _ _, Below.refl _ _⟩
    case round =>
      obtain ⟨k, hk, rfl, HO, HB⟩ := hrel
      have HK := Lib.hid (HKb.out.old HB.out)
      by_cases hlt : k < K.length
      · have hz := hK1.out _ (List.getElem_mem hlt)
        have hk2 : k ≤ 100 := by have := hK2.out; omega
        have hc : wr.cell? ⟨gk, k, none⟩ = some (.float .f32 K[k]) := by
          obtain ⟨b', o', e, h⟩ := (HK.out.rd (some ⟨gk, 0, none⟩) (flts K) (.head _)) k (.float .f32 K[k]) (by simp [flts, hlt])
          cases e; rw [Nat.zero_add] at h; exact h
        have HTK := Lib.hid (show flts (K.take (k + 1)) = flts (K.take k) ++ [.float .f32 K[k]] by rw [show K.take (k + 1) = K.take k ++ [K[k]] by rw [List.take_add_one, List.getElem?_eq_getElem hlt]; rfl]; unfold flts; rw [List.map_append]; rfl)
        have dl : decide (k < K.length) = true := decide_eq_true hlt
        rcases hz with hz | hz
        · rw [hz] at hc HTK
          have HZ := Lib.hid hz
          clear hz
          have e1 : ∀ w, (binOp .eql 43 (.float .f32 0) (.float .f32 1065353216)).run Tryz.prog w = .ok (.bool false) w := fun w => by kernel_rfl
          obtain ⟨g25, hg⟩ : ∃ g25, g25 = wr.heap.size := ⟨_, rfl⟩
          have HG := Lib.hid hg
          clear hg
          go_upto_region 26 with (first
            | (refine wpList_load_row rfl 34 _ rfl g14 rfl 34 #[.int .i64 p1, .int .i64 p2, .int .i64 p3, .int .i64 p4, .int .i64 p5, .int .i64 p6] (0, 0) _ (HK.out.row g14 34 [.int .i64 p1, .int .i64 p2, .int .i64 p3, .int .i64 p4, .int .i64 p5, .int .i64 p6] (.tail _ (.tail _ (.tail _ (.head _))))) Tryz.underlying34 rfl ?_ ?_; (kernel_rfl))
            | (refine wpList_store_row rfl 34 _ _ rfl wr.heap.size #[.int .i64 p1, .int .i64 p2, .int .i64 p3, .int .i64 p4, .int .i64 p5, .int .i64 p6] rfl rfl 34 _ (Row.new wr 34 [.int .i64 0, .int .i64 0, .int .i64 0, .int .i64 0, .int .i64 0, .int .i64 0]) ?_ ?_ ?_ ?_; (kernel_rfl); (rfl); (simp [Value.oneCell'])))
          refine genT (fun V => V.ownsRow W1.heap.size 43 1 u22 k (flts (K.take k)) ∧ KpH W1 [(g25, 34, [.int .i64 p1, .int .i64 p2, .int .i64 p3, .int .i64 p4, .int .i64 p5, .int .i64 p6]), (g20, 40, [.int .i64 u, .int .i64 v]), (g18, 34, [.int .i64 l1, .int .i64 l2, .int .i64 l3, .int .i64 l4, .int .i64 l5, .int .i64 l6]), (g16, 34, [.int .i64 l1, .int .i64 l2, .int .i64 l3, .int .i64 l4, .int .i64 l5, .int .i64 l6]), (g14, 34, [.int .i64 p1, .int .i64 p2, .int .i64 p3, .int .i64 p4, .int .i64 p5, .int .i64 p6]), ((w.heap.size + 1), 27, [.int .i64 a, .int .i64 b, .int .i64 c, .int .i64 d, .int .i64 x, .int .i64 y]), (w.heap.size, 23, [.int .u8 x0, .int .u8 x1])] [((some ⟨gk, 0, none⟩), flts K), (A, byts bs)] V) ⟨owns_below HO.out (Below.setRow ((Below.refl _ _).alloc (Nat.le_refl _) _) (Nat.le_refl _) _), KpH.cons (HK.out.old (Below.setRow ((Below.refl _ _).alloc (Nat.le_refl _) _) (Nat.le_refl _) _)) (by rw [HG.out]; exact ((Row.new wr 34 [.int .i64 0, .int .i64 0, .int .i64 0, .int .i64 0, .int .i64 0, .int .i64 0]).setRow [.int .i64 p1, .int .i64 p2, .int .i64 p3, .int .i64 p4, .int .i64 p5, .int .i64 p6]))⟩ ?_
          rw [← HG.out]
          clear HK HO HB HG hc
          intro W2 s2
          try simp only [Act.put, List.setIfInBounds_toArray, List.set_cons_zero, List.set_cons_succ]
          have HO := Lib.hid s2.1
          have HK := Lib.hid s2.2
          clear s2
          go_upto_region 26 with fail
          go_cut [26, 27] from 141 to 145 (fun s26 s27 wx => ∃ g26, s26 = .pointer (some ⟨g26, 0, none⟩) ∧ s27 = .int .i64 0 ∧ Hid (KpH W1 [(g26, 45, [.complex .f32 j0 j1, .complex .f32 j2 j3, .complex .f32 j4 j5, .complex .f32 j6 j7]), (g25, 34, [.int .i64 p1, .int .i64 p2, .int .i64 p3, .int .i64 p4, .int .i64 p5, .int .i64 p6]), (g20, 40, [.int .i64 u, .int .i64 v]), (g18, 34, [.int .i64 l1, .int .i64 l2, .int .i64 l3, .int .i64 l4, .int .i64 l5, .int .i64 l6]), (g16, 34, [.int .i64 l1, .int .i64 l2, .int .i64 l3, .int .i64 l4, .int .i64 l5, .int .i64 l6]), (g14, 34, [.int .i64 p1, .int .i64 p2, .int .i64 p3, .int .i64 p4, .int .i64 p5, .int .i64 p6]), ((w.heap.size + 1), 27, [.int .i64 a, .int .i64 b, .int .i64 c, .int .i64 d, .int .i64 x, .int .i64 y]), (w.heap.size, 23, [.int .u8 x0, .int .u8 x1])] [((some ⟨gk, 0, none⟩), flts K), (A, byts bs)] wx) ∧ Hid (wx.ownsRow W1.heap.size 43 1 u22 k (flts (K.take k))))
          case first =>
            have HV := HK
            go_wp2_with (first
              | (refine wpList_load_row rfl 34 _ rfl g25 rfl 34 #[.int .i64 p1, .int .i64 p2, .int .i64 p3, .int .i64 p4, .int .i64 p5, .int .i64 p6] (0, 0) _ (HV.out.row g25 34 [.int .i64 p1, .int .i64 p2, .int .i64 p3, .int .i64 p4, .int .i64 p5, .int .i64 p6] (.head _)) Tryz.underlying34 rfl ?_ ?_; (kernel_rfl))
              | (go_at_call 12; refine (hSp.out _).mono ?_; rintro e w2 ⟨rfl, hb⟩; replace HV := Lib.hid (HV.out.old hb); replace HO := Lib.hid (owns_below HO.out hb); clear hb)
              | (refine wpList_store_row rfl 45 _ _ rfl (w2.heap.size) #[.complex .f32 j0 j1, .complex .f32 j2 j3, .complex .f32 j4 j5, .complex .f32 j6 j7] rfl rfl 45 _ (Row.new w2 45 [.complex .f32 0 0, .complex .f32 0 0, .complex .f32 0 0, .complex .f32 0 0]) ?_ ?_ ?_ ?_; (kernel_rfl); (rfl); (simp [Value.oneCell'])))
            go_meet
            exact ⟨_, rfl, rfl, Lib.hid (KpH.cons (HV.out.old (Below.setRow ((Below.refl _ _).alloc (Nat.le_refl _) _) (Nat.le_refl _) _)) ((Row.new w2 45 [.complex .f32 0 0, .complex .f32 0 0, .complex .f32 0 0, .complex .f32 0 0]).setRow [.complex .f32 j0 j1, .complex .f32 j2 j3, .complex .f32 j4 j5, .complex .f32 j6 j7])), Lib.hid (owns_below HO.out (Below.setRow ((Below.refl _ _).alloc (Nat.le_refl _) _) (Nat.le_refl _) _))⟩
          case rest =>
          clear HK HO
          obtain ⟨g26, rfl, rfl, HK, HO⟩ := hcut
          go_upto_region 27 with fail
          go_cut [28, 29, 30] from 146 to 151 (fun s28 s29 s30 wx => ∃ g28 g29, s28 = .pointer (some ⟨g28, 0, none⟩) ∧ s29 = .pointer (some ⟨g29, 0, none⟩) ∧ s30 = .int .i64 0 ∧ Hid (KpH W1 [(g29, 25, [.int .i64 0, .int .i64 0]), (g28, 34, [.int .i64 p1, .int .i64 p2, .int .i64 p3, .int .i64 p4, .int .i64 p5, .int .i64 p6]), (g26, 45, [.complex .f32 j0 j1, .complex .f32 j2 j3, .complex .f32 j4 j5, .complex .f32 j6 j7]), (g25, 34, [.int .i64 p1, .int .i64 p2, .int .i64 p3, .int .i64 p4, .int .i64 p5, .int .i64 p6]), (g20, 40, [.int .i64 u, .int .i64 v]), (g18, 34, [.int .i64 l1, .int .i64 l2, .int .i64 l3, .int .i64 l4, .int .i64 l5, .int .i64 l6]), (g16, 34, [.int .i64 l1, .int .i64 l2, .int .i64 l3, .int .i64 l4, .int .i64 l5, .int .i64 l6]), (g14, 34, [.int .i64 p1, .int .i64 p2, .int .i64 p3, .int .i64 p4, .int .i64 p5, .int .i64 p6]), ((w.heap.size + 1), 27, [.int .i64 a, .int .i64 b, .int .i64 c, .int .i64 d, .int .i64 x, .int .i64 y]), (w.heap.size, 23, [.int .u8 x0, .int .u8 x1])] [((some ⟨gk, 0, none⟩), flts K), (A, byts bs)] wx) ∧ Hid (wx.ownsRow W1.heap.size 43 1 u22 k (flts (K.take k))))
          case first =>
            have HV := HK
            go_wp2_with (first
              | (refine wpList_load_row rfl 45 _ rfl g26 rfl 45 #[.complex .f32 j0 j1, .complex .f32 j2 j3, .complex .f32 j4 j5, .complex .f32 j6 j7] (0, 0) _ (HV.out.row g26 45 [.complex .f32 j0 j1, .complex .f32 j2 j3, .complex .f32 j4 j5, .complex .f32 j6 j7] (.head _)) Tryz.underlying45 rfl ?_ ?_; (kernel_rfl))
              | (go_at_call 13; refine (hRp.out _).mono ?_; rintro e w2 ⟨rfl, hb⟩; replace HV := Lib.hid (HV.out.old hb); replace HO := Lib.hid (owns_below HO.out hb); clear hb)
              | (refine wpList_store_row rfl 34 _ _ rfl (w2.heap.size) #[.int .i64 p1, .int .i64 p2, .int .i64 p3, .int .i64 p4, .int .i64 p5, .int .i64 p6] rfl rfl 34 _ ((Row.new w2 34 [.int .i64 0, .int .i64 0, .int .i64 0, .int .i64 0, .int .i64 0, .int .i64 0]).alloc (.cells ([.int .i64 0, .int .i64 0] : List Value).toArray 25)) ?_ ?_ ?_ ?_; (kernel_rfl); (rfl); (simp [Value.oneCell']))
              | (refine wpList_store_row rfl 25 _ _ rfl (w2.heap.size + 1) #[.int .i64 0, .int .i64 0] rfl rfl 25 _ ((row2 (w := w2) (t1 := 34) (t2 := 25) (L1 := [.int .i64 0, .int .i64 0, .int .i64 0, .int .i64 0, .int .i64 0, .int .i64 0]) (L2 := [.int .i64 0, .int .i64 0])).farRow (by omega : w2.heap.size + 1 ≠ w2.heap.size) #[.int .i64 p1, .int .i64 p2, .int .i64 p3, .int .i64 p4, .int .i64 p5, .int .i64 p6]) ?_ ?_ ?_ ?_; (kernel_rfl); (rfl); (simp [Value.oneCell'])))
            go_meet
            exact ⟨_, _, rfl, rfl, rfl, Lib.hid (KpH.cons (KpH.cons (HV.out.old (Below.setRow (Below.setRow (((Below.refl _ _).alloc (Nat.le_refl _) _).alloc (by simp) _) (Nat.le_refl _) _) (by omega) _)) ((((Row.new w2 34 [.int .i64 0, .int .i64 0, .int .i64 0, .int .i64 0, .int .i64 0, .int .i64 0]).alloc (.cells ([.int .i64 0, .int .i64 0] : List Value).toArray 25)).setRow [.int .i64 p1, .int .i64 p2, .int .i64 p3, .int .i64 p4, .int .i64 p5, .int .i64 p6]).farRow (by omega) _)) (((row2 (w := w2) (t1 := 34) (t2 := 25) (L1 := [.int .i64 0, .int .i64 0, .int .i64 0, .int .i64 0, .int .i64 0, .int .i64 0]) (L2 := [.int .i64 0, .int .i64 0])).farRow (by omega : w2.heap.size + 1 ≠ w2.heap.size) #[.int .i64 p1, .int .i64 p2, .int .i64 p3, .int .i64 p4, .int .i64 p5, .int .i64 p6]).setRow [.int .i64 0, .int .i64 0])), Lib.hid (owns_below HO.out (Below.setRow (Below.setRow (((Below.refl _ _).alloc (Nat.le_refl _) _).alloc (by simp) _) (Nat.le_refl _) _) (by omega) _))⟩
          case rest =>
          clear HK HO
          obtain ⟨g28, g29, rfl, rfl, rfl, HK, HO⟩ := hcut
          go_upto_region 28 with fail
          go_cut [31, 32] from 152 to 156 (fun s31 s32 wx => ∃ g31, s31 = .pointer (some ⟨g31, 0, none⟩) ∧ s32 = .int .i64 0 ∧ Hid (KpH W1 [(g31, 40, [.int .i64 u, .int .i64 v]), (g29, 25, [.int .i64 0, .int .i64 0]), (g28, 34, [.int .i64 p1, .int .i64 p2, .int .i64 p3, .int .i64 p4, .int .i64 p5, .int .i64 p6]), (g26, 45, [.complex .f32 j0 j1, .complex .f32 j2 j3, .complex .f32 j4 j5, .complex .f32 j6 j7]), (g25, 34, [.int .i64 p1, .int .i64 p2, .int .i64 p3, .int .i64 p4, .int .i64 p5, .int .i64 p6]), (g20, 40, [.int .i64 u, .int .i64 v]), (g18, 34, [.int .i64 l1, .int .i64 l2, .int .i64 l3, .int .i64 l4, .int .i64 l5, .int .i64 l6]), (g16, 34, [.int .i64 l1, .int .i64 l2, .int .i64 l3, .int .i64 l4, .int .i64 l5, .int .i64 l6]), (g14, 34, [.int .i64 p1, .int .i64 p2, .int .i64 p3, .int .i64 p4, .int .i64 p5, .int .i64 p6]), ((w.heap.size + 1), 27, [.int .i64 a, .int .i64 b, .int .i64 c, .int .i64 d, .int .i64 x, .int .i64 y]), (w.heap.size, 23, [.int .u8 x0, .int .u8 x1])] [((some ⟨gk, 0, none⟩), flts K), (A, byts bs)] wx) ∧ Hid (wx.ownsRow W1.heap.size 43 1 u22 k (flts (K.take k))))
          case first =>
            have HV := HK
            go_wp2_with (first
              | (refine wpList_load_row rfl 34 _ rfl g28 rfl 34 #[.int .i64 p1, .int .i64 p2, .int .i64 p3, .int .i64 p4, .int .i64 p5, .int .i64 p6] (0, 0) _ (HV.out.row g28 34 [.int .i64 p1, .int .i64 p2, .int .i64 p3, .int .i64 p4, .int .i64 p5, .int .i64 p6] (.tail _ (.head _))) Tryz.underlying34 rfl ?_ ?_; (kernel_rfl))
              | (go_at_call 11; refine (hNp.out _).mono ?_; rintro e w2 ⟨rfl, hb⟩; replace HV := Lib.hid (HV.out.old hb); replace HO := Lib.hid (owns_below HO.out hb); clear hb)
              | (refine wpList_store_row rfl 40 _ _ rfl (w2.heap.size) #[.int .i64 u, .int .i64 v] rfl rfl 40 _ (Row.new w2 40 [.int .i64 0, .int .i64 0]) ?_ ?_ ?_ ?_; (kernel_rfl); (rfl); (simp [Value.oneCell'])))
            go_meet
            exact ⟨_, rfl, rfl, Lib.hid (KpH.cons (HV.out.old (Below.setRow ((Below.refl _ _).alloc (Nat.le_refl _) _) (Nat.le_refl _) _)) ((Row.new w2 40 [.int .i64 0, .int .i64 0]).setRow [.int .i64 u, .int .i64 v])), Lib.hid (owns_below HO.out (Below.setRow ((Below.refl _ _).alloc (Nat.le_refl _) _) (Nat.le_refl _) _))⟩
          case rest =>
          clear HK HO
          obtain ⟨g31, rfl, rfl, HK, HO⟩ := hcut
          go_upto_region 29 with fail
          go_cut [176] from 157 to 175 (fun s176 wx => s176 = .bool false ∧ Hid (KpH W1 [(g31, 40, [.int .i64 u, .int .i64 v]), (g29, 25, [.int .i64 0, .int .i64 0]), (g28, 34, [.int .i64 p1, .int .i64 p2, .int .i64 p3, .int .i64 p4, .int .i64 p5, .int .i64 p6]), (g26, 45, [.complex .f32 j0 j1, .complex .f32 j2 j3, .complex .f32 j4 j5, .complex .f32 j6 j7]), (g25, 34, [.int .i64 p1, .int .i64 p2, .int .i64 p3, .int .i64 p4, .int .i64 p5, .int .i64 p6]), (g20, 40, [.int .i64 u, .int .i64 v]), (g18, 34, [.int .i64 l1, .int .i64 l2, .int .i64 l3, .int .i64 l4, .int .i64 l5, .int .i64 l6]), (g16, 34, [.int .i64 l1, .int .i64 l2, .int .i64 l3, .int .i64 l4, .int .i64 l5, .int .i64 l6]), (g14, 34, [.int .i64 p1, .int .i64 p2, .int .i64 p3, .int .i64 p4, .int .i64 p5, .int .i64 p6]), ((w.heap.size + 1), 27, [.int .i64 a, .int .i64 b, .int .i64 c, .int .i64 d, .int .i64 x, .int .i64 y]), (w.heap.size, 23, [.int .u8 x0, .int .u8 x1])] [((some ⟨gk, 0, none⟩), flts K), (A, byts bs)] wx) ∧ Hid (wx.ownsRow W1.heap.size 43 1 u22 k (flts (K.take k))))
          case first =>
            have HV := HK
            have f1 : ∀ w, (binOp .neq 25 (.agg #[.int .i64 0, .int .i64 0]) (.agg #[.int .i64 0, .int .i64 0])).run Tryz.prog w = .ok (.bool false) w := fun w => neqGH 0 0 0 0 w
            have f2 := neqR_selfH u v
            have z0 := ((HK.out.row g29 25 [.int .i64 0, .int .i64 0] (.tail _ (.head _))).cell 0)
            have z1 := ((HK.out.row g29 25 [.int .i64 0, .int .i64 0] (.tail _ (.head _))).cell 1)
            simp only [List.getElem?_cons_succ, List.getElem?_cons_zero] at z0 z1
            have y0 := ((HK.out.row g31 40 [.int .i64 u, .int .i64 v] (.head _)).cell 0)
            have y1 := ((HK.out.row g31 40 [.int .i64 u, .int .i64 v] (.head _)).cell 1)
            simp only [List.getElem?_cons_succ, List.getElem?_cons_zero] at y0 y1
            have t0 := ((HK.out.row g20 40 [.int .i64 u, .int .i64 v] (.tail _ (.tail _ (.tail _ (.tail _ (.tail _ (.head _))))))).cell 0)
            have t1 := ((HK.out.row g20 40 [.int .i64 u, .int .i64 v] (.tail _ (.tail _ (.tail _ (.tail _ (.tail _ (.head _))))))).cell 1)
            simp only [List.getElem?_cons_succ, List.getElem?_cons_zero] at t0 t1
            go_wp2_with fail
            go_meet
            exact ⟨rfl, HV, HO⟩
          case rest =>
          clear HK HO
          obtain ⟨rfl, HK, HO⟩ := hcut
          go_upto_region 32 with fail
          go_cut [184] from 177 to 183 (fun s184 wx => s184 = .bool false ∧ Hid (KpH W1 [(g31, 40, [.int .i64 u, .int .i64 v]), (g29, 25, [.int .i64 0, .int .i64 0]), (g28, 34, [.int .i64 p1, .int .i64 p2, .int .i64 p3, .int .i64 p4, .int .i64 p5, .int .i64 p6]), (g26, 45, [.complex .f32 j0 j1, .complex .f32 j2 j3, .complex .f32 j4 j5, .complex .f32 j6 j7]), (g25, 34, [.int .i64 p1, .int .i64 p2, .int .i64 p3, .int .i64 p4, .int .i64 p5, .int .i64 p6]), (g20, 40, [.int .i64 u, .int .i64 v]), (g18, 34, [.int .i64 l1, .int .i64 l2, .int .i64 l3, .int .i64 l4, .int .i64 l5, .int .i64 l6]), (g16, 34, [.int .i64 l1, .int .i64 l2, .int .i64 l3, .int .i64 l4, .int .i64 l5, .int .i64 l6]), (g14, 34, [.int .i64 p1, .int .i64 p2, .int .i64 p3, .int .i64 p4, .int .i64 p5, .int .i64 p6]), ((w.heap.size + 1), 27, [.int .i64 a, .int .i64 b, .int .i64 c, .int .i64 d, .int .i64 x, .int .i64 y]), (w.heap.size, 23, [.int .u8 x0, .int .u8 x1])] [((some ⟨gk, 0, none⟩), flts K), (A, byts bs)] wx) ∧ Hid (wx.ownsRow W1.heap.size 43 1 u22 k (flts (K.take k))))
          case first =>
            refine wp_region_held_drew (S := fun V => Below wc.heap.size wc V) (by kernel_rfl) ?_ (fun hHeld => ?_)
            · exact (Below.refl _ _).drew
            refine wpAnyH_take (i := 0) (oi := ⟨some 177, _, _, _, _, _⟩) (v := ?_) rfl (by kernel_rfl) (by kernel_rfl) (by kernel_rfl) (fun _ _ _ h => h) (Or.inl ⟨by kernel_rfl, ?_⟩) hHeld ?_
            rotate_left
            · intro w1 hSw; (try dsimp only at hSw); go_simp <;> with_reducible rfl
            try simp only [Act.put, List.setIfInBounds_toArray, List.set_cons_zero, List.set_cons_succ]
            refine wpAnyH_take (i := 1) (oi := ⟨some 178, _, _, _, _, _⟩) (v := .agg #[.int .i64 p1, .int .i64 p2]) rfl (by kernel_rfl) (by kernel_rfl) (by kernel_rfl) (fun _ _ _ h => h) (Or.inl ⟨by kernel_rfl, fun V hV => ex_Gauss _ rfl (g28) 0 rfl (((HK.out.old hV).row g28 34 [.int .i64 p1, .int .i64 p2, .int .i64 p3, .int .i64 p4, .int .i64 p5, .int .i64 p6] (.tail _ (.tail _ (.head _)))).cell 0) (((HK.out.old hV).row g28 34 [.int .i64 p1, .int .i64 p2, .int .i64 p3, .int .i64 p4, .int .i64 p5, .int .i64 p6] (.tail _ (.tail _ (.head _)))).cell 1)⟩) hHeld ?_
            try simp only [Act.put, List.setIfInBounds_toArray, List.set_cons_zero, List.set_cons_succ]
            refine wpAnyH_take (i := 2) (oi := ⟨some 179, _, _, _, _, _⟩) (v := ?_) rfl (by kernel_rfl) (by kernel_rfl) (by kernel_rfl) (fun _ _ _ h => h) (Or.inl ⟨by kernel_rfl, ?_⟩) hHeld ?_
            rotate_left
            · intro w1 hSw; (try dsimp only at hSw); go_simp <;> with_reducible rfl
            try simp only [Act.put, List.setIfInBounds_toArray, List.set_cons_zero, List.set_cons_succ]
            refine wpAnyH_take (i := 3) (oi := ⟨some 180, _, _, _, _, _⟩) (v := .agg #[.int .i64 p1, .int .i64 p2]) rfl (by kernel_rfl) (by kernel_rfl) (by kernel_rfl) (fun _ _ _ h => h) (Or.inl ⟨by kernel_rfl, fun V hV => ex_Gauss _ rfl (g14) 0 rfl (((HK.out.old hV).row g14 34 [.int .i64 p1, .int .i64 p2, .int .i64 p3, .int .i64 p4, .int .i64 p5, .int .i64 p6] (.tail _ (.tail _ (.tail _ (.tail _ (.tail _ (.tail _ (.tail _ (.tail _ (.head _)))))))))).cell 0) (((HK.out.old hV).row g14 34 [.int .i64 p1, .int .i64 p2, .int .i64 p3, .int .i64 p4, .int .i64 p5, .int .i64 p6] (.tail _ (.tail _ (.tail _ (.tail _ (.tail _ (.tail _ (.tail _ (.tail _ (.head _)))))))))).cell 1)⟩) hHeld ?_
            try simp only [Act.put, List.setIfInBounds_toArray, List.set_cons_zero, List.set_cons_succ]
            refine wpAnyH_take (i := 4) (oi := ⟨some 181, _, _, _, _, _⟩) (v := ?_) rfl (by kernel_rfl) (by kernel_rfl) (by kernel_rfl) (fun _ _ _ h => h) (Or.inl ⟨by kernel_rfl, ?_⟩) hHeld ?_
            rotate_left
            · intro w1 hSw; (try dsimp only at hSw); go_simp <;> with_reducible rfl
            try simp only [Act.put, List.setIfInBounds_toArray, List.set_cons_zero, List.set_cons_succ]
            refine wpAnyH_take (i := 5) (oi := ⟨some 182, _, _, _, _, _⟩) (v := .agg #[.int .i64 p1, .int .i64 p2]) rfl (by kernel_rfl) (by kernel_rfl) (by kernel_rfl) (fun _ _ _ h => h) (Or.inl ⟨by kernel_rfl, fun V hV => ex_Gauss _ rfl (g14) 0 rfl (((HK.out.old hV).row g14 34 [.int .i64 p1, .int .i64 p2, .int .i64 p3, .int .i64 p4, .int .i64 p5, .int .i64 p6] (.tail _ (.tail _ (.tail _ (.tail _ (.tail _ (.tail _ (.tail _ (.tail _ (.head _)))))))))).cell 0) (((HK.out.old hV).row g14 34 [.int .i64 p1, .int .i64 p2, .int .i64 p3, .int .i64 p4, .int .i64 p5, .int .i64 p6] (.tail _ (.tail _ (.tail _ (.tail _ (.tail _ (.tail _ (.tail _ (.tail _ (.head _)))))))))).cell 1)⟩) hHeld ?_
            try simp only [Act.put, List.setIfInBounds_toArray, List.set_cons_zero, List.set_cons_succ]
            refine wpAnyH_ready (rs := [6]) (by kernel_rfl) (by simp) ?_
            refine AllReadyH.cons rfl (fun K hK => ?_) (AllReadyH.nil)
            go_simp
            go_at_call 14
            refine (hPl.out _).mono ?_
            rintro e v6 ⟨rfl, hb6⟩
            have hz6 := hb6.size
            try simp only [World.size_alloc, size_drewT] at hz6
            try go_simp
            refine hK.out _ _ ?_ (fun hHeld => ?_)
            · exact hHeld.trans (hb6.mono hHeld.size)
            clear hK K
            try simp only [Act.put, List.setIfInBounds_toArray, List.set_cons_zero, List.set_cons_succ]
            refine wpAnyH_take (i := 7) (oi := ⟨some 184, _, _, _, _, _⟩) (v := .bool false) rfl (by kernel_rfl) (by kernel_rfl) (by kernel_rfl) (fun _ _ _ h => h) (Or.inl ⟨by kernel_rfl, fun V hV => ex_eqlGz rfl rfl rfl hcp.out⟩) hHeld ?_
            try simp only [Act.put, List.setIfInBounds_toArray, List.set_cons_zero, List.set_cons_succ]
            refine wpAnyH_done (by kernel_rfl) ?_ _
            go_wp2_with fail
            go_meet
            exact ⟨rfl, Lib.hid (HK.out.old hHeld), Lib.hid (owns_below HO.out hHeld)⟩
          case rest =>
          clear HK HO
          obtain ⟨rfl, HK, HO⟩ := hcut
          go_upto_region 34 with fail
          rename_i wq _
          go_wp2_with (at_builtin; go_loud (refine wpList_append_own_at _ rfl _ _ 30 rfl W1.heap.size 43 i0 (.float .f32 0) 1 4 Tryz.underlying30 hin hz0 hz1 hz2 rfl (by decide) _ _ _ rfl (HO.out.alloc _) ⟨_, 0, none⟩ 1 1 [.float .f32 0] rfl rfl (news1 _ _ _ _ rfl) ?c2 ?c3 ?c4 ?c5 ?_))
          case c2 => simp [Value.oneCell']
          case c3 => unfold maxLen; omega
          case c4 => have := HK.out.2.2.2.size; omega
          case c5 => simp; have := HK.out.2.2.2.size; omega
          intro v' w9 hown' hgrow _ _
          have ho1 := Lib.hid hown'
          have hb9 := Lib.hid ((HK.out.2.2.2.alloc HK.out.2.2.2.size _).grown hgrow (by have := HK.out.2.2.2.size; rw [World.size_alloc]; omega) (fun q hq => (HO.out.lt q hq).1))
          clear hown' hgrow
          go_wp2
          go_roundw
          case rel => exact ⟨k + 1, by omega, by go_num, by rw [HTK.out]; exact ho1.out, hb9.out⟩
          case measure => simp [intOf]; omega
        · rw [hz] at hc HTK
          have HZ := Lib.hid hz
          clear hz
          have e1 : ∀ w, (binOp .eql 43 (.float .f32 1065353216) (.float .f32 1065353216)).run Tryz.prog w = .ok (.bool true) w := fun w => by kernel_rfl
          obtain ⟨g25, hg⟩ : ∃ g25, g25 = wr.heap.size := ⟨_, rfl⟩
          have HG := Lib.hid hg
          clear hg
          go_upto_region 26 with (first
            | (refine wpList_load_row rfl 34 _ rfl g14 rfl 34 #[.int .i64 p1, .int .i64 p2, .int .i64 p3, .int .i64 p4, .int .i64 p5, .int .i64 p6] (0, 0) _ (HK.out.row g14 34 [.int .i64 p1, .int .i64 p2, .int .i64 p3, .int .i64 p4, .int .i64 p5, .int .i64 p6] (.tail _ (.tail _ (.tail _ (.head _))))) Tryz.underlying34 rfl ?_ ?_; (kernel_rfl))
            | (refine wpList_store_row rfl 34 _ _ rfl wr.heap.size #[.int .i64 p1, .int .i64 p2, .int .i64 p3, .int .i64 p4, .int .i64 p5, .int .i64 p6] rfl rfl 34 _ (Row.new wr 34 [.int .i64 0, .int .i64 0, .int .i64 0, .int .i64 0, .int .i64 0, .int .i64 0]) ?_ ?_ ?_ ?_; (kernel_rfl); (rfl); (simp [Value.oneCell']))
            | (refine wpList_load_row rfl 34 _ rfl g16 rfl 34 #[.int .i64 l1, .int .i64 l2, .int .i64 l3, .int .i64 l4, .int .i64 l5, .int .i64 l6] (0, 0) _ ((HK.out.old (Below.setRow ((Below.refl _ _).alloc (Nat.le_refl _) _) (Nat.le_refl _) _)).row g16 34 [.int .i64 l1, .int .i64 l2, .int .i64 l3, .int .i64 l4, .int .i64 l5, .int .i64 l6] (.tail _ (.tail _ (.head _)))) Tryz.underlying34 rfl ?_ ?_; (kernel_rfl))
            | (refine wpList_store_row rfl 34 _ _ rfl wr.heap.size #[.int .i64 l1, .int .i64 l2, .int .i64 l3, .int .i64 l4, .int .i64 l5, .int .i64 l6] rfl rfl 34 _ ((Row.new wr 34 [.int .i64 0, .int .i64 0, .int .i64 0, .int .i64 0, .int .i64 0, .int .i64 0]).setRow [.int .i64 p1, .int .i64 p2, .int .i64 p3, .int .i64 p4, .int .i64 p5, .int .i64 p6]) ?_ ?_ ?_ ?_; (kernel_rfl); (rfl); (simp [Value.oneCell'])))
          refine genT (fun V => V.ownsRow W1.heap.size 43 1 u22 k (flts (K.take k)) ∧ KpH W1 [(g25, 34, [.int .i64 l1, .int .i64 l2, .int .i64 l3, .int .i64 l4, .int .i64 l5, .int .i64 l6]), (g20, 40, [.int .i64 u, .int .i64 v]), (g18, 34, [.int .i64 l1, .int .i64 l2, .int .i64 l3, .int .i64 l4, .int .i64 l5, .int .i64 l6]), (g16, 34, [.int .i64 l1, .int .i64 l2, .int .i64 l3, .int .i64 l4, .int .i64 l5, .int .i64 l6]), (g14, 34, [.int .i64 p1, .int .i64 p2, .int .i64 p3, .int .i64 p4, .int .i64 p5, .int .i64 p6]), ((w.heap.size + 1), 27, [.int .i64 a, .int .i64 b, .int .i64 c, .int .i64 d, .int .i64 x, .int .i64 y]), (w.heap.size, 23, [.int .u8 x0, .int .u8 x1])] [((some ⟨gk, 0, none⟩), flts K), (A, byts bs)] V) ⟨owns_below HO.out (Below.setRow (Below.setRow ((Below.refl _ _).alloc (Nat.le_refl _) _) (Nat.le_refl _) _) (Nat.le_refl _) _), KpH.cons (HK.out.old (Below.setRow (Below.setRow ((Below.refl _ _).alloc (Nat.le_refl _) _) (Nat.le_refl _) _) (Nat.le_refl _) _)) (by rw [HG.out]; exact (((Row.new wr 34 [.int .i64 0, .int .i64 0, .int .i64 0, .int .i64 0, .int .i64 0, .int .i64 0]).setRow [.int .i64 p1, .int .i64 p2, .int .i64 p3, .int .i64 p4, .int .i64 p5, .int .i64 p6]).setRow [.int .i64 l1, .int .i64 l2, .int .i64 l3, .int .i64 l4, .int .i64 l5, .int .i64 l6]))⟩ ?_
          rw [← HG.out]
          clear HK HO HB HG hc
          intro W2 s2
          try simp only [Act.put, List.setIfInBounds_toArray, List.set_cons_zero, List.set_cons_succ]
          have HO := Lib.hid s2.1
          have HK := Lib.hid s2.2
          clear s2
          go_upto_region 26 with fail
          go_cut [26, 27] from 141 to 145 (fun s26 s27 wx => ∃ g26, s26 = .pointer (some ⟨g26, 0, none⟩) ∧ s27 = .int .i64 0 ∧ Hid (KpH W1 [(g26, 45, [.complex .f32 k0 k1, .complex .f32 k2 k3, .complex .f32 k4 k5, .complex .f32 k6 k7]), (g25, 34, [.int .i64 l1, .int .i64 l2, .int .i64 l3, .int .i64 l4, .int .i64 l5, .int .i64 l6]), (g20, 40, [.int .i64 u, .int .i64 v]), (g18, 34, [.int .i64 l1, .int .i64 l2, .int .i64 l3, .int .i64 l4, .int .i64 l5, .int .i64 l6]), (g16, 34, [.int .i64 l1, .int .i64 l2, .int .i64 l3, .int .i64 l4, .int .i64 l5, .int .i64 l6]), (g14, 34, [.int .i64 p1, .int .i64 p2, .int .i64 p3, .int .i64 p4, .int .i64 p5, .int .i64 p6]), ((w.heap.size + 1), 27, [.int .i64 a, .int .i64 b, .int .i64 c, .int .i64 d, .int .i64 x, .int .i64 y]), (w.heap.size, 23, [.int .u8 x0, .int .u8 x1])] [((some ⟨gk, 0, none⟩), flts K), (A, byts bs)] wx) ∧ Hid (wx.ownsRow W1.heap.size 43 1 u22 k (flts (K.take k))))
          case first =>
            have HV := HK
            go_wp2_with (first
              | (refine wpList_load_row rfl 34 _ rfl g25 rfl 34 #[.int .i64 l1, .int .i64 l2, .int .i64 l3, .int .i64 l4, .int .i64 l5, .int .i64 l6] (0, 0) _ (HV.out.row g25 34 [.int .i64 l1, .int .i64 l2, .int .i64 l3, .int .i64 l4, .int .i64 l5, .int .i64 l6] (.head _)) Tryz.underlying34 rfl ?_ ?_; (kernel_rfl))
              | (go_at_call 12; refine (hSl.out _).mono ?_; rintro e w2 ⟨rfl, hb⟩; replace HV := Lib.hid (HV.out.old hb); replace HO := Lib.hid (owns_below HO.out hb); clear hb)
              | (refine wpList_store_row rfl 45 _ _ rfl (w2.heap.size) #[.complex .f32 k0 k1, .complex .f32 k2 k3, .complex .f32 k4 k5, .complex .f32 k6 k7] rfl rfl 45 _ (Row.new w2 45 [.complex .f32 0 0, .complex .f32 0 0, .complex .f32 0 0, .complex .f32 0 0]) ?_ ?_ ?_ ?_; (kernel_rfl); (rfl); (simp [Value.oneCell'])))
            go_meet
            exact ⟨_, rfl, rfl, Lib.hid (KpH.cons (HV.out.old (Below.setRow ((Below.refl _ _).alloc (Nat.le_refl _) _) (Nat.le_refl _) _)) ((Row.new w2 45 [.complex .f32 0 0, .complex .f32 0 0, .complex .f32 0 0, .complex .f32 0 0]).setRow [.complex .f32 k0 k1, .complex .f32 k2 k3, .complex .f32 k4 k5, .complex .f32 k6 k7])), Lib.hid (owns_below HO.out (Below.setRow ((Below.refl _ _).alloc (Nat.le_refl _) _) (Nat.le_refl _) _))⟩
          case rest =>
          clear HK HO
          obtain ⟨g26, rfl, rfl, HK, HO⟩ := hcut
          go_upto_region 27 with fail
          go_cut [28, 29, 30] from 146 to 151 (fun s28 s29 s30 wx => ∃ g28 g29, s28 = .pointer (some ⟨g28, 0, none⟩) ∧ s29 = .pointer (some ⟨g29, 0, none⟩) ∧ s30 = .int .i64 0 ∧ Hid (KpH W1 [(g29, 25, [.int .i64 0, .int .i64 0]), (g28, 34, [.int .i64 l1, .int .i64 l2, .int .i64 l3, .int .i64 l4, .int .i64 l5, .int .i64 l6]), (g26, 45, [.complex .f32 k0 k1, .complex .f32 k2 k3, .complex .f32 k4 k5, .complex .f32 k6 k7]), (g25, 34, [.int .i64 l1, .int .i64 l2, .int .i64 l3, .int .i64 l4, .int .i64 l5, .int .i64 l6]), (g20, 40, [.int .i64 u, .int .i64 v]), (g18, 34, [.int .i64 l1, .int .i64 l2, .int .i64 l3, .int .i64 l4, .int .i64 l5, .int .i64 l6]), (g16, 34, [.int .i64 l1, .int .i64 l2, .int .i64 l3, .int .i64 l4, .int .i64 l5, .int .i64 l6]), (g14, 34, [.int .i64 p1, .int .i64 p2, .int .i64 p3, .int .i64 p4, .int .i64 p5, .int .i64 p6]), ((w.heap.size + 1), 27, [.int .i64 a, .int .i64 b, .int .i64 c, .int .i64 d, .int .i64 x, .int .i64 y]), (w.heap.size, 23, [.int .u8 x0, .int .u8 x1])] [((some ⟨gk, 0, none⟩), flts K), (A, byts bs)] wx) ∧ Hid (wx.ownsRow W1.heap.size 43 1 u22 k (flts (K.take k))))
          case first =>
            have HV := HK
            go_wp2_with (first
              | (refine wpList_load_row rfl 45 _ rfl g26 rfl 45 #[.complex .f32 k0 k1, .complex .f32 k2 k3, .complex .f32 k4 k5, .complex .f32 k6 k7] (0, 0) _ (HV.out.row g26 45 [.complex .f32 k0 k1, .complex .f32 k2 k3, .complex .f32 k4 k5, .complex .f32 k6 k7] (.head _)) Tryz.underlying45 rfl ?_ ?_; (kernel_rfl))
              | (go_at_call 13; refine (hRl.out _).mono ?_; rintro e w2 ⟨rfl, hb⟩; replace HV := Lib.hid (HV.out.old hb); replace HO := Lib.hid (owns_below HO.out hb); clear hb)
              | (refine wpList_store_row rfl 34 _ _ rfl (w2.heap.size) #[.int .i64 l1, .int .i64 l2, .int .i64 l3, .int .i64 l4, .int .i64 l5, .int .i64 l6] rfl rfl 34 _ ((Row.new w2 34 [.int .i64 0, .int .i64 0, .int .i64 0, .int .i64 0, .int .i64 0, .int .i64 0]).alloc (.cells ([.int .i64 0, .int .i64 0] : List Value).toArray 25)) ?_ ?_ ?_ ?_; (kernel_rfl); (rfl); (simp [Value.oneCell']))
              | (refine wpList_store_row rfl 25 _ _ rfl (w2.heap.size + 1) #[.int .i64 0, .int .i64 0] rfl rfl 25 _ ((row2 (w := w2) (t1 := 34) (t2 := 25) (L1 := [.int .i64 0, .int .i64 0, .int .i64 0, .int .i64 0, .int .i64 0, .int .i64 0]) (L2 := [.int .i64 0, .int .i64 0])).farRow (by omega : w2.heap.size + 1 ≠ w2.heap.size) #[.int .i64 l1, .int .i64 l2, .int .i64 l3, .int .i64 l4, .int .i64 l5, .int .i64 l6]) ?_ ?_ ?_ ?_; (kernel_rfl); (rfl); (simp [Value.oneCell'])))
            go_meet
            exact ⟨_, _, rfl, rfl, rfl, Lib.hid (KpH.cons (KpH.cons (HV.out.old (Below.setRow (Below.setRow (((Below.refl _ _).alloc (Nat.le_refl _) _).alloc (by simp) _) (Nat.le_refl _) _) (by omega) _)) ((((Row.new w2 34 [.int .i64 0, .int .i64 0, .int .i64 0, .int .i64 0, .int .i64 0, .int .i64 0]).alloc (.cells ([.int .i64 0, .int .i64 0] : List Value).toArray 25)).setRow [.int .i64 l1, .int .i64 l2, .int .i64 l3, .int .i64 l4, .int .i64 l5, .int .i64 l6]).farRow (by omega) _)) (((row2 (w := w2) (t1 := 34) (t2 := 25) (L1 := [.int .i64 0, .int .i64 0, .int .i64 0, .int .i64 0, .int .i64 0, .int .i64 0]) (L2 := [.int .i64 0, .int .i64 0])).farRow (by omega : w2.heap.size + 1 ≠ w2.heap.size) #[.int .i64 l1, .int .i64 l2, .int .i64 l3, .int .i64 l4, .int .i64 l5, .int .i64 l6]).setRow [.int .i64 0, .int .i64 0])), Lib.hid (owns_below HO.out (Below.setRow (Below.setRow (((Below.refl _ _).alloc (Nat.le_refl _) _).alloc (by simp) _) (Nat.le_refl _) _) (by omega) _))⟩
          case rest =>
          clear HK HO
          obtain ⟨g28, g29, rfl, rfl, rfl, HK, HO⟩ := hcut
          go_upto_region 28 with fail
          go_cut [31, 32] from 152 to 156 (fun s31 s32 wx => ∃ g31, s31 = .pointer (some ⟨g31, 0, none⟩) ∧ s32 = .int .i64 0 ∧ Hid (KpH W1 [(g31, 40, [.int .i64 u, .int .i64 v]), (g29, 25, [.int .i64 0, .int .i64 0]), (g28, 34, [.int .i64 l1, .int .i64 l2, .int .i64 l3, .int .i64 l4, .int .i64 l5, .int .i64 l6]), (g26, 45, [.complex .f32 k0 k1, .complex .f32 k2 k3, .complex .f32 k4 k5, .complex .f32 k6 k7]), (g25, 34, [.int .i64 l1, .int .i64 l2, .int .i64 l3, .int .i64 l4, .int .i64 l5, .int .i64 l6]), (g20, 40, [.int .i64 u, .int .i64 v]), (g18, 34, [.int .i64 l1, .int .i64 l2, .int .i64 l3, .int .i64 l4, .int .i64 l5, .int .i64 l6]), (g16, 34, [.int .i64 l1, .int .i64 l2, .int .i64 l3, .int .i64 l4, .int .i64 l5, .int .i64 l6]), (g14, 34, [.int .i64 p1, .int .i64 p2, .int .i64 p3, .int .i64 p4, .int .i64 p5, .int .i64 p6]), ((w.heap.size + 1), 27, [.int .i64 a, .int .i64 b, .int .i64 c, .int .i64 d, .int .i64 x, .int .i64 y]), (w.heap.size, 23, [.int .u8 x0, .int .u8 x1])] [((some ⟨gk, 0, none⟩), flts K), (A, byts bs)] wx) ∧ Hid (wx.ownsRow W1.heap.size 43 1 u22 k (flts (K.take k))))
          case first =>
            have HV := HK
            go_wp2_with (first
              | (refine wpList_load_row rfl 34 _ rfl g28 rfl 34 #[.int .i64 l1, .int .i64 l2, .int .i64 l3, .int .i64 l4, .int .i64 l5, .int .i64 l6] (0, 0) _ (HV.out.row g28 34 [.int .i64 l1, .int .i64 l2, .int .i64 l3, .int .i64 l4, .int .i64 l5, .int .i64 l6] (.tail _ (.head _))) Tryz.underlying34 rfl ?_ ?_; (kernel_rfl))
              | (go_at_call 11; refine (hNl.out _).mono ?_; rintro e w2 ⟨rfl, hb⟩; replace HV := Lib.hid (HV.out.old hb); replace HO := Lib.hid (owns_below HO.out hb); clear hb)
              | (refine wpList_store_row rfl 40 _ _ rfl (w2.heap.size) #[.int .i64 u, .int .i64 v] rfl rfl 40 _ (Row.new w2 40 [.int .i64 0, .int .i64 0]) ?_ ?_ ?_ ?_; (kernel_rfl); (rfl); (simp [Value.oneCell'])))
            go_meet
            exact ⟨_, rfl, rfl, Lib.hid (KpH.cons (HV.out.old (Below.setRow ((Below.refl _ _).alloc (Nat.le_refl _) _) (Nat.le_refl _) _)) ((Row.new w2 40 [.int .i64 0, .int .i64 0]).setRow [.int .i64 u, .int .i64 v])), Lib.hid (owns_below HO.out (Below.setRow ((Below.refl _ _).alloc (Nat.le_refl _) _) (Nat.le_refl _) _))⟩
          case rest =>
          clear HK HO
          obtain ⟨g31, rfl, rfl, HK, HO⟩ := hcut
          go_upto_region 29 with fail
          go_cut [176] from 157 to 175 (fun s176 wx => s176 = .bool false ∧ Hid (KpH W1 [(g31, 40, [.int .i64 u, .int .i64 v]), (g29, 25, [.int .i64 0, .int .i64 0]), (g28, 34, [.int .i64 l1, .int .i64 l2, .int .i64 l3, .int .i64 l4, .int .i64 l5, .int .i64 l6]), (g26, 45, [.complex .f32 k0 k1, .complex .f32 k2 k3, .complex .f32 k4 k5, .complex .f32 k6 k7]), (g25, 34, [.int .i64 l1, .int .i64 l2, .int .i64 l3, .int .i64 l4, .int .i64 l5, .int .i64 l6]), (g20, 40, [.int .i64 u, .int .i64 v]), (g18, 34, [.int .i64 l1, .int .i64 l2, .int .i64 l3, .int .i64 l4, .int .i64 l5, .int .i64 l6]), (g16, 34, [.int .i64 l1, .int .i64 l2, .int .i64 l3, .int .i64 l4, .int .i64 l5, .int .i64 l6]), (g14, 34, [.int .i64 p1, .int .i64 p2, .int .i64 p3, .int .i64 p4, .int .i64 p5, .int .i64 p6]), ((w.heap.size + 1), 27, [.int .i64 a, .int .i64 b, .int .i64 c, .int .i64 d, .int .i64 x, .int .i64 y]), (w.heap.size, 23, [.int .u8 x0, .int .u8 x1])] [((some ⟨gk, 0, none⟩), flts K), (A, byts bs)] wx) ∧ Hid (wx.ownsRow W1.heap.size 43 1 u22 k (flts (K.take k))))
          case first =>
            have HV := HK
            have f1 : ∀ w, (binOp .neq 25 (.agg #[.int .i64 0, .int .i64 0]) (.agg #[.int .i64 0, .int .i64 0])).run Tryz.prog w = .ok (.bool false) w := fun w => neqGH 0 0 0 0 w
            have f2 := neqR_selfH u v
            have z0 := ((HK.out.row g29 25 [.int .i64 0, .int .i64 0] (.tail _ (.head _))).cell 0)
            have z1 := ((HK.out.row g29 25 [.int .i64 0, .int .i64 0] (.tail _ (.head _))).cell 1)
            simp only [List.getElem?_cons_succ, List.getElem?_cons_zero] at z0 z1
            have y0 := ((HK.out.row g31 40 [.int .i64 u, .int .i64 v] (.head _)).cell 0)
            have y1 := ((HK.out.row g31 40 [.int .i64 u, .int .i64 v] (.head _)).cell 1)
            simp only [List.getElem?_cons_succ, List.getElem?_cons_zero] at y0 y1
            have t0 := ((HK.out.row g20 40 [.int .i64 u, .int .i64 v] (.tail _ (.tail _ (.tail _ (.tail _ (.tail _ (.head _))))))).cell 0)
            have t1 := ((HK.out.row g20 40 [.int .i64 u, .int .i64 v] (.tail _ (.tail _ (.tail _ (.tail _ (.tail _ (.head _))))))).cell 1)
            simp only [List.getElem?_cons_succ, List.getElem?_cons_zero] at t0 t1
            go_wp2_with fail
            go_meet
            exact ⟨rfl, HV, HO⟩
          case rest =>
          clear HK HO
          obtain ⟨rfl, HK, HO⟩ := hcut
          go_upto_region 32 with fail
          go_cut [184] from 177 to 183 (fun s184 wx => s184 = .bool true ∧ Hid (KpH W1 [(g31, 40, [.int .i64 u, .int .i64 v]), (g29, 25, [.int .i64 0, .int .i64 0]), (g28, 34, [.int .i64 l1, .int .i64 l2, .int .i64 l3, .int .i64 l4, .int .i64 l5, .int .i64 l6]), (g26, 45, [.complex .f32 k0 k1, .complex .f32 k2 k3, .complex .f32 k4 k5, .complex .f32 k6 k7]), (g25, 34, [.int .i64 l1, .int .i64 l2, .int .i64 l3, .int .i64 l4, .int .i64 l5, .int .i64 l6]), (g20, 40, [.int .i64 u, .int .i64 v]), (g18, 34, [.int .i64 l1, .int .i64 l2, .int .i64 l3, .int .i64 l4, .int .i64 l5, .int .i64 l6]), (g16, 34, [.int .i64 l1, .int .i64 l2, .int .i64 l3, .int .i64 l4, .int .i64 l5, .int .i64 l6]), (g14, 34, [.int .i64 p1, .int .i64 p2, .int .i64 p3, .int .i64 p4, .int .i64 p5, .int .i64 p6]), ((w.heap.size + 1), 27, [.int .i64 a, .int .i64 b, .int .i64 c, .int .i64 d, .int .i64 x, .int .i64 y]), (w.heap.size, 23, [.int .u8 x0, .int .u8 x1])] [((some ⟨gk, 0, none⟩), flts K), (A, byts bs)] wx) ∧ Hid (wx.ownsRow W1.heap.size 43 1 u22 k (flts (K.take k))))
          case first =>
            refine wp_region_held_drew (S := fun V => Below wc.heap.size wc V) (by kernel_rfl) ?_ (fun hHeld => ?_)
            · exact (Below.refl _ _).drew
            refine wpAnyH_take (i := 0) (oi := ⟨some 177, _, _, _, _, _⟩) (v := ?_) rfl (by kernel_rfl) (by kernel_rfl) (by kernel_rfl) (fun _ _ _ h => h) (Or.inl ⟨by kernel_rfl, ?_⟩) hHeld ?_
            rotate_left
            · intro w1 hSw; (try dsimp only at hSw); go_simp <;> with_reducible rfl
            try simp only [Act.put, List.setIfInBounds_toArray, List.set_cons_zero, List.set_cons_succ]
            refine wpAnyH_take (i := 1) (oi := ⟨some 178, _, _, _, _, _⟩) (v := .agg #[.int .i64 l1, .int .i64 l2]) rfl (by kernel_rfl) (by kernel_rfl) (by kernel_rfl) (fun _ _ _ h => h) (Or.inl ⟨by kernel_rfl, fun V hV => ex_Gauss _ rfl (g28) 0 rfl (((HK.out.old hV).row g28 34 [.int .i64 l1, .int .i64 l2, .int .i64 l3, .int .i64 l4, .int .i64 l5, .int .i64 l6] (.tail _ (.tail _ (.head _)))).cell 0) (((HK.out.old hV).row g28 34 [.int .i64 l1, .int .i64 l2, .int .i64 l3, .int .i64 l4, .int .i64 l5, .int .i64 l6] (.tail _ (.tail _ (.head _)))).cell 1)⟩) hHeld ?_
            try simp only [Act.put, List.setIfInBounds_toArray, List.set_cons_zero, List.set_cons_succ]
            refine wpAnyH_take (i := 2) (oi := ⟨some 179, _, _, _, _, _⟩) (v := ?_) rfl (by kernel_rfl) (by kernel_rfl) (by kernel_rfl) (fun _ _ _ h => h) (Or.inl ⟨by kernel_rfl, ?_⟩) hHeld ?_
            rotate_left
            · intro w1 hSw; (try dsimp only at hSw); go_simp <;> with_reducible rfl
            try simp only [Act.put, List.setIfInBounds_toArray, List.set_cons_zero, List.set_cons_succ]
            refine wpAnyH_take (i := 3) (oi := ⟨some 180, _, _, _, _, _⟩) (v := .agg #[.int .i64 p1, .int .i64 p2]) rfl (by kernel_rfl) (by kernel_rfl) (by kernel_rfl) (fun _ _ _ h => h) (Or.inl ⟨by kernel_rfl, fun V hV => ex_Gauss _ rfl (g14) 0 rfl (((HK.out.old hV).row g14 34 [.int .i64 p1, .int .i64 p2, .int .i64 p3, .int .i64 p4, .int .i64 p5, .int .i64 p6] (.tail _ (.tail _ (.tail _ (.tail _ (.tail _ (.tail _ (.tail _ (.tail _ (.head _)))))))))).cell 0) (((HK.out.old hV).row g14 34 [.int .i64 p1, .int .i64 p2, .int .i64 p3, .int .i64 p4, .int .i64 p5, .int .i64 p6] (.tail _ (.tail _ (.tail _ (.tail _ (.tail _ (.tail _ (.tail _ (.tail _ (.head _)))))))))).cell 1)⟩) hHeld ?_
            try simp only [Act.put, List.setIfInBounds_toArray, List.set_cons_zero, List.set_cons_succ]
            refine wpAnyH_take (i := 4) (oi := ⟨some 181, _, _, _, _, _⟩) (v := ?_) rfl (by kernel_rfl) (by kernel_rfl) (by kernel_rfl) (fun _ _ _ h => h) (Or.inl ⟨by kernel_rfl, ?_⟩) hHeld ?_
            rotate_left
            · intro w1 hSw; (try dsimp only at hSw); go_simp <;> with_reducible rfl
            try simp only [Act.put, List.setIfInBounds_toArray, List.set_cons_zero, List.set_cons_succ]
            refine wpAnyH_take (i := 5) (oi := ⟨some 182, _, _, _, _, _⟩) (v := .agg #[.int .i64 p1, .int .i64 p2]) rfl (by kernel_rfl) (by kernel_rfl) (by kernel_rfl) (fun _ _ _ h => h) (Or.inl ⟨by kernel_rfl, fun V hV => ex_Gauss _ rfl (g14) 0 rfl (((HK.out.old hV).row g14 34 [.int .i64 p1, .int .i64 p2, .int .i64 p3, .int .i64 p4, .int .i64 p5, .int .i64 p6] (.tail _ (.tail _ (.tail _ (.tail _ (.tail _ (.tail _ (.tail _ (.tail _ (.head _)))))))))).cell 0) (((HK.out.old hV).row g14 34 [.int .i64 p1, .int .i64 p2, .int .i64 p3, .int .i64 p4, .int .i64 p5, .int .i64 p6] (.tail _ (.tail _ (.tail _ (.tail _ (.tail _ (.tail _ (.tail _ (.tail _ (.head _)))))))))).cell 1)⟩) hHeld ?_
            try simp only [Act.put, List.setIfInBounds_toArray, List.set_cons_zero, List.set_cons_succ]
            refine wpAnyH_ready (rs := [6]) (by kernel_rfl) (by simp) ?_
            refine AllReadyH.cons rfl (fun K hK => ?_) (AllReadyH.nil)
            go_simp
            go_at_call 14
            refine (hPl.out _).mono ?_
            rintro e v6 ⟨rfl, hb6⟩
            have hz6 := hb6.size
            try simp only [World.size_alloc, size_drewT] at hz6
            try go_simp
            refine hK.out _ _ ?_ (fun hHeld => ?_)
            · exact hHeld.trans (hb6.mono hHeld.size)
            clear hK K
            try simp only [Act.put, List.setIfInBounds_toArray, List.set_cons_zero, List.set_cons_succ]
            refine wpAnyH_take (i := 7) (oi := ⟨some 184, _, _, _, _, _⟩) (v := .bool true) rfl (by kernel_rfl) (by kernel_rfl) (by kernel_rfl) (fun _ _ _ h => h) (Or.inl ⟨by kernel_rfl, fun V hV => ex_eqlGz rfl rfl rfl (by simp)⟩) hHeld ?_
            try simp only [Act.put, List.setIfInBounds_toArray, List.set_cons_zero, List.set_cons_succ]
            refine wpAnyH_done (by kernel_rfl) ?_ _
            go_wp2_with fail
            go_meet
            exact ⟨rfl, Lib.hid (HK.out.old hHeld), Lib.hid (owns_below HO.out hHeld)⟩
          case rest =>
          clear HK HO
          obtain ⟨rfl, HK, HO⟩ := hcut
          go_upto_region 34 with fail
          rename_i wq _
          go_wp2_with (at_builtin; go_loud (refine wpList_append_own_at _ rfl _ _ 30 rfl W1.heap.size 43 i0 (.float .f32 0) 1 4 Tryz.underlying30 hin hz0 hz1 hz2 rfl (by decide) _ _ _ rfl (HO.out.alloc _) ⟨_, 0, none⟩ 1 1 [.float .f32 1065353216] rfl rfl (news1 _ _ _ _ rfl) ?c2 ?c3 ?c4 ?c5 ?_))
          case c2 => simp [Value.oneCell']
          case c3 => unfold maxLen; omega
          case c4 => have := HK.out.2.2.2.size; omega
          case c5 => simp; have := HK.out.2.2.2.size; omega
          intro v' w9 hown' hgrow _ _
          have ho1 := Lib.hid hown'
          have hb9 := Lib.hid ((HK.out.2.2.2.alloc HK.out.2.2.2.size _).grown hgrow (by have := HK.out.2.2.2.size; rw [World.size_alloc]; omega) (fun q hq => (HO.out.lt q hq).1))
          clear hown' hgrow
          go_wp2
          go_roundw
          case rel => exact ⟨k + 1, by omega, by go_num, by rw [HTK.out]; exact ho1.out, hb9.out⟩
          case measure => simp [intOf]; omega
      · obtain rfl : k = K.length := by omega
        rw [List.take_length] at HO
        obtain ⟨gh, ch, rfl, -, -⟩ := ownsRow.addr HO.out hK0.out
        have HR := Lib.hid (Rd.own HO.out)
        have HKe := HKb.out.old HB.out
        have HE := Lib.hid (KpH.rcons (⟨HKe.1, HKe.2.1, HKe.2.2.1, HB1.out.trans (HB.out.mono HB1.out.size)⟩ : KpH w [(g20, 40, [.int .i64 u, .int .i64 v]), (g18, 34, [.int .i64 l1, .int .i64 l2, .int .i64 l3, .int .i64 l4, .int .i64 l5, .int .i64 l6]), (g16, 34, [.int .i64 l1, .int .i64 l2, .int .i64 l3, .int .i64 l4, .int .i64 l5, .int .i64 l6]), (g14, 34, [.int .i64 p1, .int .i64 p2, .int .i64 p3, .int .i64 p4, .int .i64 p5, .int .i64 p6]), ((w.heap.size + 1), 27, [.int .i64 a, .int .i64 b, .int .i64 c, .int .i64 d, .int .i64 x, .int .i64 y]), (w.heap.size, 23, [.int .u8 x0, .int .u8 x1])] [((some ⟨gk, 0, none⟩), flts K), (A, byts bs)] wr) HR.out)
        clear HO HK HB HKe
        go_wp2_with fail
        go_meet
        exact ⟨_, _, rfl, HE⟩
  case rest =>
  clear HK
  obtain ⟨gh, ch, rfl, HK⟩ := hcut
  go_upto_region 36 with fail
  go_cut [34, 35] from 190 to 195 (fun s34 s35 wx => ∃ gw cw, s34 = .slice (some ⟨gw, 0, none⟩) 1 cw ∧ s35 = .int .i64 0 ∧ Hid (KpH w [(g20, 40, [.int .i64 u, .int .i64 v]), (g18, 34, [.int .i64 l1, .int .i64 l2, .int .i64 l3, .int .i64 l4, .int .i64 l5, .int .i64 l6]), (g16, 34, [.int .i64 l1, .int .i64 l2, .int .i64 l3, .int .i64 l4, .int .i64 l5, .int .i64 l6]), (g14, 34, [.int .i64 p1, .int .i64 p2, .int .i64 p3, .int .i64 p4, .int .i64 p5, .int .i64 p6]), ((w.heap.size + 1), 27, [.int .i64 a, .int .i64 b, .int .i64 c, .int .i64 d, .int .i64 x, .int .i64 y]), (w.heap.size, 23, [.int .u8 x0, .int .u8 x1])] [((some ⟨gw, 0, none⟩), strs [Wd]), ((some ⟨gh, 0, none⟩), flts K), ((some ⟨gk, 0, none⟩), flts K), (A, byts bs)] wx))
  case first =>
    have HV := HK
    go_wp2_with (first
      | (go_at_call 15; refine (hHe.out _ _ _ HV.out.1.1 (HV.out.rd (some ⟨gh, 0, none⟩) (flts K) (.head _))).mono ?_; rintro e w2 ⟨gw, cw, rfl, hF, hb⟩; replace HV := Lib.hid (HV.out.old hb); clear hb))
    go_meet
    exact ⟨_, _, rfl, rfl, Lib.hid (KpH.rcons HV.out hF)⟩
  case rest =>
  clear HK
  obtain ⟨gw, cw, rfl, rfl, HK⟩ := hcut
  have HV := HK
  go_wp2_with (first
    | (go_at_call 16; refine (sameWords_any _ _ _ _ _ _ [Wd] [Wd] _ ((HV.out.rd (some ⟨gw, 0, none⟩) (strs [Wd]) (.head _)).below ((Below.refl _ _).alloc (Nat.le_refl _) _)) (show Rd _ _ (strs [Wd]) from Rd.row (Row.new _ _ [.string Wd])) rfl rfl (by simp)).mono ?_; rintro e w2 ⟨rfl, q, rfl⟩; rw [sameW_refl]; replace HV := Lib.hid ((HV.out.old ((Below.refl _ _).alloc (Nat.le_refl _) (.cells #[.string Wd] 9))).drewN q))
    | (go_at_call 6; refine (hS.out _).mono ?_; rintro e w3 ⟨rfl, hb⟩; replace HV := Lib.hid (HV.out.old hb); clear hb))
  go_ret
  exact ⟨rfl, HV.out.2.2.2⟩
end Go.Proofs.YtlflfieknibgmaaGreatDoor
