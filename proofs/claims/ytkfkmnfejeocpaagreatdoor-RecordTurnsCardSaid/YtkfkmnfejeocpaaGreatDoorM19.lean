import Derived.Test.YtkfkmnfejeocpaaGreatDoorM18
import Derived.Test.YtkfkmnfejeocpaaGreatDoorM13
import Derived.Deep.LoopGhost
import Derived.Test.YtkfkmnfejeocpaaGreatDoorM23
import Derived.Test.YtkfkmnfejeocpaaGreatDoorM07
import Derived.Test.YtkfkmnfejeocpaaGreatDoorM22
/- Contracts: transforms of four samples, as the law of turns uses them. -/
namespace Go.Proofs.YtkfkmnfejeocpaaGreatDoor
set_option linter.all false
open Go.RowKit Go.Fl
set_option linter.unusedVariables false
set_option linter.unusedSimpArgs false

/-- the parts of a transform -/
def CxP (a : List Int) (r0 i0 r1 i1 r2 i2 r3 i3 : Nat) : Prop := ∀ j (h : j < [(r0, i0), (r1, i1), (r2, i2), (r3, i3)].length), S [(r0, i0), (r1, i1), (r2, i2), (r3, i3)][j].1 (fourP a j 4).1 ∧ S [(r0, i0), (r1, i1), (r2, i2), (r3, i3)][j].2 (fourP a j 4).2
theorem four_bd {a b c d : Int} {M : Nat} (ha : a.natAbs ≤ M) (hb : b.natAbs ≤ M) (hc : c.natAbs ≤ M) (hd : d.natAbs ≤ M) (j : Nat) : ([a, b, c, d].getD j 0).natAbs ≤ M := by
  match j with
  | 0 => exact ha
  | 1 => exact hb
  | 2 => exact hc
  | 3 => exact hd
  | n + 4 => simp
theorem four_S {a b c d : Int} (ha : a.natAbs ≤ 16384) (hb : b.natAbs ≤ 16384) (hc : c.natAbs ≤ 16384) (hd : d.natAbs ≤ 16384) : ∀ j (h : j < [fb a, fb b, fb c, fb d].length), S [fb a, fb b, fb c, fb d][j] ([a, b, c, d].getD j 0) := by
  intro j h
  match j, h with
  | 0, _ => exact S_fb (by omega)
  | 1, _ => exact S_fb (by omega)
  | 2, _ => exact S_fb (by omega)
  | 3, _ => exact S_fb (by omega)
theorem four_law (a b c d : Int) (w : World) (hw : Pw w) (ha : a.natAbs ≤ 16384) (hb : b.natAbs ≤ 16384) (hc : c.natAbs ≤ 16384) (hd : d.natAbs ≤ 16384) :
    Calls Tryz.prog 9 #[.agg #[.float .f32 (fb a), .float .f32 (fb b), .float .f32 (fb c), .float .f32 (fb d)]] w fun e w' => ∃ r0 i0 r1 i1 r2 i2 r3 i3, e = .returned (.tuple #[.agg #[.complex .f32 r0 i0, .complex .f32 r1 i1, .complex .f32 r2 i2, .complex .f32 r3 i3], .int .i64 0]) ∧ CxP [a, b, c, d] r0 i0 r1 i1 r2 i2 r3 i3 ∧ Below w.heap.size w w' := by
  refine (four_ok (fb a) (fb b) (fb c) (fb d) [a, b, c, d] w hw (four_bd ha hb hc hd) (four_S ha hb hc hd) (sampsI_ok (by simp) (four_S ha hb hc hd) (four_bd ha hb hc hd))).mono ?_
  rintro e w' ⟨ps, rfl, hp, hbl⟩
  obtain ⟨hl, hp⟩ := hp
  match ps, hl with
  | [(r0, i0), (r1, i1), (r2, i2), (r3, i3)], _ =>
    refine ⟨r0, i0, r1, i1, r2, i2, r3, i3, rfl, fun j h => ?_, hbl⟩
    have h4 : j < 4 := h
    have e : PaN [a, b, c, d] 4 0 j = fourP [a, b, c, d] j 4 := by unfold PaN; rw [if_pos h4]
    have k := hp j h
    rw [e] at k
    exact k
theorem CxP.part {a : List Int} (ha : ∀ j, (a.getD j 0).natAbs ≤ 16384) {r0 i0 r1 i1 r2 i2 r3 i3 : Nat} (h : CxP a r0 i0 r1 i1 r2 i2 r3 i3) : ∀ p ∈ [(r0, i0), (r1, i1), (r2, i2), (r3, i3)], partI p.1 65536 = 0 ∧ partI p.2 65536 = 0 := by
  intro p hp
  obtain ⟨j, hj, rfl⟩ := List.mem_iff_getElem.1 hp
  have hbd := fourP_bd a j 4 ha
  exact ⟨partI_S (h j hj).1 hbd.1, partI_S (h j hj).2 hbd.2⟩
theorem checkPanel_law {a : List Int} (ha : ∀ j, (a.getD j 0).natAbs ≤ 16384) {r0 i0 r1 i1 r2 i2 r3 i3 : Nat} (h : CxP a r0 i0 r1 i1 r2 i2 r3 i3) (w : World) :
    Calls Tryz.prog 10 #[.agg #[.complex .f32 r0 i0, .complex .f32 r1 i1, .complex .f32 r2 i2, .complex .f32 r3 i3]] w fun e w' => e = .returned (.int .i64 0) ∧ Below w.heap.size w w' :=
  checkPanelR_ok r0 i0 r1 i1 r2 i2 r3 i3 w (h.part ha)
theorem unfour_law {a : List Int} (ha : ∀ j, (a.getD j 0).natAbs ≤ 16384) {r0 i0 r1 i1 r2 i2 r3 i3 : Nat} (h : CxP a r0 i0 r1 i1 r2 i2 r3 i3) (w : World) (hw : Pw w) :
    Calls Tryz.prog 11 #[.agg #[.complex .f32 r0 i0, .complex .f32 r1 i1, .complex .f32 r2 i2, .complex .f32 r3 i3]] w fun e w' => ∃ y0 y1 y2 y3, e = .returned (.tuple #[.agg #[.float .f32 y0, .float .f32 y1, .float .f32 y2, .float .f32 y3], .int .i64 0]) ∧ (∀ j (h : j < [y0, y1, y2, y3].length), S [y0, y1, y2, y3][j] (a.getD j 0)) ∧ Below w.heap.size w w' := by
  refine (unfour_ok r0 i0 r1 i1 r2 i2 r3 i3 a w hw ha h).mono ?_
  rintro e w' ⟨ys, rfl, ⟨hl, hu⟩, hb⟩
  match ys, hl with
  | [y0, y1, y2, y3], _ =>
    refine ⟨y0, y1, y2, y3, rfl, fun j hj => ?_, hb⟩
    have h4 : j < 4 := hj
    have k := hu j hj
    rw [if_pos h4] at k
    exact k
theorem sixteenths_S {x : Nat} {n : Int} (h : S x n) (hb : n.natAbs ≤ 65536) (w : World) : Calls Tryz.prog 13 #[.float .f32 x] w fun e w' => e = .returned (.int .i64 n) ∧ w = w' := by
  have k := sixteenths_any x (n * (2 ^ 145 : Nat)) w h (by rw [natAbs_mul_pow]; exact Nat.lt_of_le_of_lt (Nat.mul_le_mul_right _ hb) (by decide)) (by rw [cutI_mul]; omega)
  rw [cutI_mul] at k
  exact k
theorem S_eq {x y : Nat} {n m : Int} (h : S x n) (k : S y m) : (FloatKind.f32.format.order x y == some .eq) = decide (n = m) := by
  have e := eql_of h k
  rw [e, decide_eq_decide]
  constructor
  · intro e2
    exact Int.eq_of_mul_eq_mul_right (by exact_mod_cast Nat.ne_of_gt (Nat.two_pow_pos 145)) e2
  · intro e2; rw [e2]
end Go.Proofs.YtkfkmnfejeocpaaGreatDoor

/- Contracts: the stream of samples by the reference. -/
namespace Go.Proofs.YtkfkmnfejeocpaaGreatDoor
set_option linter.all false
open Go.RowKit Go.Fl
set_option linter.unusedVariables false
set_option linter.unusedSimpArgs false

end Go.Proofs.YtkfkmnfejeocpaaGreatDoor

/- Contracts: Unpack of the reference. -/
namespace Go.Proofs.YtkfkmnfejeocpaaGreatDoor
set_option linter.all false
open Go.RowKit Go.Fl
set_option linter.unusedVariables false
set_option linter.unusedSimpArgs false

end Go.Proofs.YtkfkmnfejeocpaaGreatDoor

/- Equal bytes. -/
namespace Go.Proofs.YtkfkmnfejeocpaaGreatDoor
set_option linter.all false
open Go.RowKit Go.Fl
set_option linter.unusedVariables false
set_option linter.unusedSimpArgs false

end Go.Proofs.YtkfkmnfejeocpaaGreatDoor

/- Contracts: packets are assembled. -/
namespace Go.Proofs.YtkfkmnfejeocpaaGreatDoor
set_option linter.all false
open Go.RowKit Go.Fl
set_option linter.unusedVariables false
set_option linter.unusedSimpArgs false

abbrev AsT := List Nat × List Bool
def put1 (s : AsT) (j : Nat) (x : Nat) : AsT := if s.2.getD j true then s else (s.1.set j x, s.2.set j true)
def putGo (s : AsT) (a : Nat) (xs : List Nat) (m : Nat) : AsT := (List.range m).foldl (fun s i => put1 s (a + i) (xs.getD i 0)) s
theorem putGo_succ (s : AsT) (a : Nat) (xs : List Nat) (m : Nat) : putGo s a xs (m + 1) = put1 (putGo s a xs m) (a + m) (xs.getD m 0) := by
  unfold putGo; rw [List.range_succ, List.foldl_append]; rfl
theorem put1_len (s : AsT) (j x : Nat) : (put1 s j x).1.length = s.1.length ∧ (put1 s j x).2.length = s.2.length := by
  unfold put1; split <;> simp
theorem putGo_len (s : AsT) (a : Nat) (xs : List Nat) (m : Nat) : (putGo s a xs m).1.length = s.1.length ∧ (putGo s a xs m).2.length = s.2.length := by
  induction m with
  | zero => exact ⟨rfl, rfl⟩
  | succ m ih => rw [putGo_succ]; exact ⟨(put1_len _ _ _).1.trans ih.1, (put1_len _ _ _).2.trans ih.2⟩
def asm1 (station n : Int) (s : AsT) (p : PkT) : AsT := if p.1 = station then putGo s (8 * p.2.1).toNat p.2.2.2 (min p.2.2.1 (n - 8 * p.2.1)).toNat else s
def asmL (station n : Int) (ps : List PkT) : AsT := ps.foldl (asm1 station n) (List.replicate n.toNat 0, List.replicate n.toNat false)
def asmK (station n : Int) (ps : List PkT) (k : Nat) : AsT := asmL station n (ps.take k)
theorem asmK_succ (station n : Int) (ps : List PkT) (k : Nat) (hk : k < ps.length) : asmK station n ps (k + 1) = asm1 station n (asmK station n ps k) ps[k] := by
  unfold asmK asmL; rw [List.take_succ_eq_append_getElem hk, List.foldl_append]; rfl
theorem asm1_len (station n : Int) (s : AsT) (p : PkT) : (asm1 station n s p).1.length = s.1.length ∧ (asm1 station n s p).2.length = s.2.length := by
  unfold asm1; split
  · exact putGo_len _ _ _ _
  · exact ⟨rfl, rfl⟩
theorem asmL_len (station n : Int) (ps : List PkT) : (asmL station n ps).1.length = n.toNat ∧ (asmL station n ps).2.length = n.toNat := by
  have h : ∀ (ps : List PkT) (s : AsT), (ps.foldl (asm1 station n) s).1.length = s.1.length ∧ (ps.foldl (asm1 station n) s).2.length = s.2.length := by
    intro ps
    induction ps with
    | nil => intro s; exact ⟨rfl, rfl⟩
    | cons p ps ih => intro s; rw [List.foldl_cons]; exact ⟨(ih _).1.trans (asm1_len _ _ _ _).1, (ih _).2.trans (asm1_len _ _ _ _).2⟩
  have := h ps (List.replicate n.toNat 0, List.replicate n.toNat false)
  simpa [asmL] using this
def asmE (ps : List PkT) (station n : Int) : Int := firstI [pksI ps, whenI (rangeB station 0 255) 3, whenI (rangeB n 0 4096) 3]

theorem firstI_all {zs : List Int} (h : firstI zs = 0) : ∀ z ∈ zs, z = 0 := by
  induction zs with
  | nil => intro z hz; cases hz
  | cons z zs ih =>
    rw [firstI] at h
    split at h
    · rename_i h0
      intro y hy
      rcases List.mem_cons.1 hy with rfl | hy
      · exact h0
      · exact ih h y hy
    · rename_i h0; exact absurd h h0
theorem when_zero {b : Bool} {n : Int} (h : whenI b n = 0) (hn : n ≠ 0) : b = false := by
  cases b
  · rfl
  · exact absurd h hn
theorem range_of {n low high : Int} (h : rangeB n low high = false) : low ≤ n ∧ n ≤ high := by
  unfold rangeB at h
  simp only [Bool.or_eq_false_iff, decide_eq_false_iff_not] at h
  omega
theorem pkE_ok {p : PkT} (h : pkE p = 0) : (0 ≤ p.1 ∧ p.1 ≤ 255) ∧ (0 ≤ p.2.1 ∧ p.2.1 ≤ 65535) ∧ (0 ≤ p.2.2.1 ∧ p.2.2.1 ≤ 8) := by
  have ha := firstI_all h
  exact ⟨range_of (when_zero (ha (whenI (rangeB p.1 0 255) 3) (by simp)) (by decide)), range_of (when_zero (ha (whenI (rangeB p.2.1 0 65535) 3) (by simp)) (by decide)), range_of (when_zero (ha (whenI (rangeB p.2.2.1 0 8) 3) (by simp)) (by decide))⟩
theorem asmE_ok {ps : List PkT} {station n : Int} (h : asmE ps station n = 0) : ps.length ≤ 1024 ∧ (∀ p ∈ ps, pkE p = 0) ∧ (0 ≤ station ∧ station ≤ 255) ∧ 0 ≤ n ∧ n ≤ 4096 := by
  have ha := firstI_all h
  have h1 : pksI ps = 0 := ha _ (by simp)
  have hl : ¬ 1024 < ps.length := by intro hl; rw [pksI, if_pos hl] at h1; cases h1
  rw [pksI, if_neg hl] at h1
  exact ⟨by omega, fun p hp => firstI_all h1 _ (List.mem_map_of_mem hp), range_of (when_zero (ha (whenI (rangeB station 0 255) 3) (by simp)) (by decide)), range_of (when_zero (ha (whenI (rangeB n 0 4096) 3) (by simp)) (by decide))⟩

set_option maxRecDepth 100000 in
set_option maxHeartbeats 2000000 in
theorem assembled_ok (A : Option Addr) (m c : Nat) (ps : List PkT) (station : Int) (N : Nat) (w : World) (hA : Rd w A (pksC ps)) (h8 : pks8 ps) (hn : m = ps.length) (he : asmE ps station N = 0) :
    Calls Tryz.prog 25 #[.slice A m c, .int .i64 station, .int .i64 (N : Int)] w fun e w' => ∃ gS v, e = .returned (.tuple #[.slice (some ⟨gS, 0, none⟩) N N, v, .int .i64 0]) ∧ Row w' gS 27 (flts (asmL station N ps).1) ∧ w'.ownsRow w.heap.size 77 2 v (gapsL (asmL station N ps).2).length (spanC (gapsL (asmL station N ps).2)) ∧ w.heap.size ≤ gS ∧ Below w.heap.size w w' := by
  subst hn
  obtain ⟨hl, hpk, hst, -, hN0⟩ := asmE_ok he
  have HC : Hid (Calls Tryz.prog 69 #[.slice A ps.length c, .int .i64 1024, .func (.func 63) #[] #[]] w fun e w' => e = .returned (.int .i64 (pksI ps)) ∧ Below w.heap.size w w') := checkListPk_any A _ c ps w hA h8 rfl
  have HER : Hid (firstI [pksI ps, whenI (rangeB station 0 255) 3, whenI (rangeB (N : Int) 0 4096) 3] = 0) := he
  have HM : Hid (∀ W, Below w.heap.size w W → Calls Tryz.prog 70 #[.slice A ps.length c, .func (.func 71) #[] #[]] W fun e w' => ∃ g, e = .returned (.slice (some ⟨g, 0, none⟩) ps.length ps.length) ∧ Row w' g 154 (plC ps) ∧ W.heap.size ≤ g ∧ Below W.heap.size W w') := fun W hW =>
    mappedPl_any A _ c ps W (hA.below hW) h8 (fun p hp => (pkE_ok (hpk p hp)).2.1) rfl hl
  have HPK := Lib.hid hpk; have H8 := Lib.hid h8
  have hN : N ≤ 4096 := by omega
  have hmk1 := fun W : World => make1 (P := Tryz.prog) 45 27 (.float .f32 0) 4 Tryz.underlying45 info37 rfl N (by omega) (by omega) W
  have hmk2 := fun W : World => make1 (P := Tryz.prog) 150 4 (.bool false) 1 Tryz.underlying150 (by kernel_rfl) rfl N (by omega) (by omega) W
  clear hA h8 he hpk hN0
  go_enter Tryz.func25, Tryz.ntmps25
  go_wp2_with (first
    | (go_at_call 69; refine HC.out.mono ?_; rintro e w1 ⟨rfl, hb1⟩; have HB1 := Lib.hid hb1; clear hb1)
    | (go_at_call 58; refine (between_any _ _ _ _).mono ?_; rintro e w3 ⟨rfl, rfl⟩)
    | (go_at_call 57; refine (firstV_any _ _ _ [pksI ps, whenI (rangeB station 0 255) 3, whenI (rangeB (N : Int) 0 4096) 3] _ (Rd.new _ _ _ _ rfl) rfl (by simp)).mono ?_; rintro e w3 ⟨rfl, rfl⟩; rw [HER.out]))
  obtain ⟨gS, hgS⟩ : ∃ gS, gS = w1.heap.size + 1 := ⟨_, rfl⟩
  obtain ⟨gT, hgT⟩ : ∃ gT, gT = w1.heap.size + 1 + 1 := ⟨_, rfl⟩
  have hzw := HB1.out.size
  have hW1 : Below w.heap.size w (((w1.alloc (.cells #[.int .i64 (pksI ps), .int .i64 (whenI (rangeB station 0 255) 3), .int .i64 (whenI (rangeB (N : Int) 0 4096) 3)] 32)).alloc (.cells (List.replicate N (Value.float .f32 0)).toArray 27)).alloc (.cells (List.replicate N (Value.bool false)).toArray 4)) :=
    ((HB1.out.alloc HB1.out.size _).alloc (by simp; omega) _).alloc (by simp; omega) _
  have hS1 : Row (((w1.alloc (.cells #[.int .i64 (pksI ps), .int .i64 (whenI (rangeB station 0 255) 3), .int .i64 (whenI (rangeB (N : Int) 0 4096) 3)] 32)).alloc (.cells (List.replicate N (Value.float .f32 0)).toArray 27)).alloc (.cells (List.replicate N (Value.bool false)).toArray 4)) gS 27 (List.replicate N (Value.float .f32 0)) := by
    have h := (Row.new (w1.alloc (.cells #[.int .i64 (pksI ps), .int .i64 (whenI (rangeB station 0 255) 3), .int .i64 (whenI (rangeB (N : Int) 0 4096) 3)] 32)) 27 (List.replicate N (Value.float .f32 0))).alloc (.cells (List.replicate N (Value.bool false)).toArray 4)
    rw [World.size_alloc] at h; rw [hgS]; exact h
  have hT1 : Row (((w1.alloc (.cells #[.int .i64 (pksI ps), .int .i64 (whenI (rangeB station 0 255) 3), .int .i64 (whenI (rangeB (N : Int) 0 4096) 3)] 32)).alloc (.cells (List.replicate N (Value.float .f32 0)).toArray 27)).alloc (.cells (List.replicate N (Value.bool false)).toArray 4)) gT 4 (List.replicate N (Value.bool false)) := by
    have h := Row.new ((w1.alloc (.cells #[.int .i64 (pksI ps), .int .i64 (whenI (rangeB station 0 255) 3), .int .i64 (whenI (rangeB (N : Int) 0 4096) 3)] 32)).alloc (.cells (List.replicate N (Value.float .f32 0)).toArray 27)) 4 (List.replicate N (Value.bool false))
    rw [World.size_alloc, World.size_alloc] at h; rw [hgT]; exact h
  have HW1 := Lib.hid hW1; have HS1 := Lib.hid hS1; have HT1 := Lib.hid hT1
  have hz1 : Hid (w.heap.size ≤ gS ∧ gS < gT) := by unfold Hid; omega
  clear hW1 hS1 hT1 hzw
  refine (HM.out _ HW1.out).mono ?_
  rintro e w2 ⟨gP, rfl, hrP, hgP, hb2⟩
  have HP2 := Lib.hid hrP
  have HS2 := Lib.hid (HS1.out.old hb2)
  have HT2 := Lib.hid (HT1.out.old hb2)
  have HB2 := Lib.hid (HW1.out.trans (hb2.mono HW1.out.size))
  have hz2 : Hid (gT < gP) := by unfold Hid; simp at hgP; omega
  clear hrP hgP hb2 HW1 HS1 HT1 HB1 hmk1 hmk2 HC HM HER
  rw [← hgT, ← hgS]
  clear hgS hgT
  go_wp2
  go_loopw [34] (fun i wr => ∃ k : Nat, k ≤ ps.length ∧ i = .int .i64 k ∧ Hid (Row wr gS 27 (flts (asmK station N ps k).1)) ∧ Hid (Row wr gT 4 (bools (asmK station N ps k).2)) ∧ Hid (Row wr gP 154 (plC ps)) ∧ Hid (Below w.heap.size w wr)) (fun i _ => ps.length - (intOf i).toNat)
  case atStart => exact ⟨0, Nat.zero_le _, rfl, by have h := HS2.out; show Row _ _ _ _; simpa [asmK, asmL, flts] using h, by have h := HT2.out; show Row _ _ _ _; simpa [asmK, asmL, bools] using h, HP2, HB2⟩
  case round =>
    obtain ⟨k, hk, rfl, HS, HT, HP, HB⟩ := hrel
    obtain ⟨wo, rfl⟩ : ∃ wo : World, wo = wr := ⟨_, rfl⟩
    by_cases hlt : k < ps.length
    · obtain ⟨st, ct, ln, x0, x1, x2, x3, x4, x5, x6, x7, hp⟩ := pk_form (H8.out _ (List.getElem_mem hlt))
      have hok := pkE_ok (HPK.out _ (List.getElem_mem hlt))
      have hsucc := asmK_succ station N ps k hlt
      have hcell : ∀ j v, (plV ps[k])[j]? = some v → wo.cell? ⟨gP, k * 12 + j, none⟩ = some v := fun j v hv => by
        have h12 := plV_length (H8.out _ (List.getElem_mem hlt))
        rw [HP.out.cell, plC, flat_get plV 12 ps (fun p hp => plV_length (H8.out p hp)) k hlt j (by have := (List.getElem?_eq_some_iff.1 hv).1; omega)]; exact hv
      rw [hp] at hok hsucc hcell
      have hok : (0 ≤ st ∧ st ≤ 255) ∧ (0 ≤ ct ∧ ct ≤ 65535) ∧ (0 ≤ ln ∧ ln ≤ 8) := hok
      obtain ⟨aa, haa⟩ : ∃ aa : Nat, 8 * ct = (aa : Int) := ⟨(8 * ct).toNat, by omega⟩
      have c0 := hcell 0 _ rfl
      have c1 := hcell 1 _ rfl
      have c2 := hcell 2 _ rfl
      have c3 := hcell 3 _ rfl
      have c4 := hcell 4 _ rfl
      have c5 := hcell 5 _ rfl
      have c6 := hcell 6 _ rfl
      have c7 := hcell 7 _ rfl
      have c8 := hcell 8 _ rfl
      have c9 := hcell 9 _ rfl
      have c10 := hcell 10 _ rfl
      have c11a := hcell 11 _ rfl
      rw [Nat.add_zero] at c0
      have c11 : wo.cell? ⟨gP, k * 12 + 11, none⟩ = some (.int .i64 (aa : Int)) := by rw [← haa]; exact c11a
      clear c11a
      have hl1a := asmL_len station N (ps.take k)
      have hl1 : (asmK station N ps k).1.length = N ∧ (asmK station N ps k).2.length = N := by simpa [asmK] using hl1a
      clear hl1a
      obtain ⟨s, hs⟩ : ∃ s, s = asmK station N ps k := ⟨_, rfl⟩
      rw [← hs] at HS HT hsucc hl1
      have hB1 := HB.out.size
      have HNB := Lib.hid (HB.out.alloc HB.out.size (.cells #[.int .i64 st, .int .i64 ct, .int .i64 ln, .float .f32 x0, .float .f32 x1, .float .f32 x2, .float .f32 x3, .float .f32 x4, .float .f32 x5, .float .f32 x6, .float .f32 x7, .int .i64 (aa : Int)] 154))
      have HNS := Lib.hid (HS.out.alloc (.cells #[.int .i64 st, .int .i64 ct, .int .i64 ln, .float .f32 x0, .float .f32 x1, .float .f32 x2, .float .f32 x3, .float .f32 x4, .float .f32 x5, .float .f32 x6, .float .f32 x7, .int .i64 (aa : Int)] 154))
      have HNT := Lib.hid (HT.out.alloc (.cells #[.int .i64 st, .int .i64 ct, .int .i64 ln, .float .f32 x0, .float .f32 x1, .float .f32 x2, .float .f32 x3, .float .f32 x4, .float .f32 x5, .float .f32 x6, .float .f32 x7, .int .i64 (aa : Int)] 154))
      have HNP := Lib.hid (HP.out.alloc (.cells #[.int .i64 st, .int .i64 ct, .int .i64 ln, .float .f32 x0, .float .f32 x1, .float .f32 x2, .float .f32 x3, .float .f32 x4, .float .f32 x5, .float .f32 x6, .float .f32 x7, .int .i64 (aa : Int)] 154))
      have hz4 : Hid (gP < wo.heap.size) := HP.out.lt
      clear hcell hp hs hB1
      by_cases hstn : st = station
      · subst hstn
        have e1 : IntKind.i64.wrap ((N : Int) - (aa : Int)) = (N : Int) - (aa : Int) := IntWalk.i64_in _ (by omega)
        have hat : (8 * ct).toNat = aa := by rw [haa]; rfl
        by_cases hlt0 : (N : Int) - (aa : Int) < ln
        · have hmt : (min ln ((N : Int) - 8 * ct)).toNat = N - aa := by rw [haa]; omega
          have HSU : Hid (asmK st N ps (k + 1) = putGo s aa [x0, x1, x2, x3, x4, x5, x6, x7] (N - aa)) := by
            unfold Hid; rw [hsucc, asm1, if_pos rfl]; show putGo s (8 * ct).toNat _ (min ln ((N : Int) - 8 * ct)).toNat = _; rw [hmt, hat]
          have HL1 := Lib.hid hl1
          clear hsucc hmt hat haa hl1
          go_wp2
          go_loopw [51] (fun i wr => ∃ j : Nat, j ≤ (N - aa) ∧ i = .int .i64 j ∧ Hid (Row wr gS 27 (flts (putGo s aa [x0, x1, x2, x3, x4, x5, x6, x7] j).1)) ∧ Hid (Row wr gT 4 (bools (putGo s aa [x0, x1, x2, x3, x4, x5, x6, x7] j).2)) ∧ Hid (Row wr gP 154 (plC ps)) ∧ Hid (Row wr wo.heap.size 154 [.int .i64 st, .int .i64 ct, .int .i64 ln, .float .f32 x0, .float .f32 x1, .float .f32 x2, .float .f32 x3, .float .f32 x4, .float .f32 x5, .float .f32 x6, .float .f32 x7, .int .i64 (aa : Int)]) ∧ Hid (Below w.heap.size w wr)) (fun i _ => (N - aa) - (intOf i).toNat)
          case atStart => exact ⟨0, Nat.zero_le _, rfl, HNS, HNT, HNP, Row.new wo _ [.int .i64 st, .int .i64 ct, .int .i64 ln, .float .f32 x0, .float .f32 x1, .float .f32 x2, .float .f32 x3, .float .f32 x4, .float .f32 x5, .float .f32 x6, .float .f32 x7, .int .i64 (aa : Int)], HNB⟩
          case round =>
            obtain ⟨j, hj, rfl, IS, IT, IP, IG, IB⟩ := hrel
            by_cases hjl : j < (N - aa)
            · have hj8 : j < 8 := by omega
              have haj : aa + j < N := by omega
              have hle := putGo_len s aa [x0, x1, x2, x3, x4, x5, x6, x7] j
              have hsu := putGo_succ s aa [x0, x1, x2, x3, x4, x5, x6, x7] j
              obtain ⟨y, hy⟩ : ∃ y, y = [x0, x1, x2, x3, x4, x5, x6, x7].getD j 0 := ⟨_, rfl⟩
              have cy : wr.cell? ⟨wo.heap.size, 3 + j, none⟩ = some (.float .f32 y) := by
                rw [IG.out.cell, hy]
                rcases (show j = 0 ∨ j = 1 ∨ j = 2 ∨ j = 3 ∨ j = 4 ∨ j = 5 ∨ j = 6 ∨ j = 7 by omega) with rfl | rfl | rfl | rfl | rfl | rfl | rfl | rfl <;> rfl
              have ca : wr.cell? ⟨wo.heap.size, 11, none⟩ = some (.int .i64 (aa : Int)) := by rw [IG.out.cell]; rfl
              rw [← hy] at hsu
              clear hy
              obtain ⟨S, hS⟩ : ∃ S, S = putGo s aa [x0, x1, x2, x3, x4, x5, x6, x7] j := ⟨_, rfl⟩
              rw [← hS] at IS IT hle hsu
              clear hS
              have hLS : S.1.length = N := hle.1.trans HL1.out.1
              have hLT : S.2.length = N := hle.2.trans HL1.out.2
              obtain ⟨bv, hbv⟩ : ∃ bv, bv = S.2[aa + j]'(by omega) := ⟨_, rfl⟩
              have cT : wr.cell? ⟨gT, aa + j, none⟩ = some (.bool bv) := by
                rw [IT.out.cell, hbv]; simp [bools, List.getElem?_eq_getElem (show aa + j < S.2.length by omega)]
              obtain ⟨vS, cS⟩ : ∃ v, wr.cell? ⟨gS, aa + j, none⟩ = some v := ⟨_, IS.out.cellAt (by simp [flts]; omega)⟩
              have fS := IS.out.free (aa + j)
              have fT := IT.out.free (aa + j)
              have hgd : S.2.getD (aa + j) true = bv := by rw [hbv]; simp [List.getD, List.getElem?_eq_getElem (show aa + j < S.2.length by omega)]
              have hI1 : IntKind.i64.wrap ((aa : Int) + (j : Int)) = (aa : Int) + (j : Int) := IntWalk.i64_in _ (by omega)
              have hI2 : ((aa : Int) + (j : Int)).toNat = aa + j := by omega
              have hI3 : 0 ≤ (aa : Int) + (j : Int) := by omega
              have hI4 : (aa : Int) + (j : Int) < (N : Int) := by omega
              have hI5 : (j : Int) < 8 := by omega
              have hI6 : (0 : Int) ≤ (j : Int) := by omega
              have Hsu := Lib.hid hsu; have Hgd := Lib.hid hgd
              clear hle hsu hLS hLT hbv hgd
              cases bv
              · have Hs2 : Hid (putGo s aa [x0, x1, x2, x3, x4, x5, x6, x7] (j + 1) = (S.1.set (aa + j) y, S.2.set (aa + j) true)) := by unfold Hid; rw [Hsu.out, put1, if_neg (by rw [Hgd.out]; decide)]
                have hn1 : Hid (gS ≠ wo.heap.size ∧ gT ≠ wo.heap.size ∧ gS ≠ gT) := by unfold Hid; have := hz1.out; have := hz2.out; have := hz4.out; omega
                have n1 : ¬ gS = gT := hn1.out.2.2
                have n2 : ¬ gT = gS := fun h => hn1.out.2.2 h.symm
                have hnp : Hid (gP ≠ gS ∧ gP ≠ gT) := by unfold Hid; have := hz1.out; have := hz2.out; omega
                have S1 : Hid (wr.cell? ⟨wo.heap.size, 11, none⟩ = some (.int .i64 (aa : Int)) ∧ wr.cell? ⟨wo.heap.size, 3 + j, none⟩ = some (.float .f32 y)) := ⟨ca, cy⟩
                have hK : ∀ (W : World) v, (W.cell? ⟨wo.heap.size, 11, none⟩ = some (.int .i64 (aa : Int)) ∧ W.cell? ⟨wo.heap.size, 3 + j, none⟩ = some (.float .f32 y)) → ((W.setCell ⟨gS, aa + j, none⟩ v).cell? ⟨wo.heap.size, 11, none⟩ = some (.int .i64 (aa : Int)) ∧ (W.setCell ⟨gS, aa + j, none⟩ v).cell? ⟨wo.heap.size, 3 + j, none⟩ = some (.float .f32 y)) := fun W v h => ⟨(World.cell?_setCell_far W _ _ v hn1.out.1).trans h.1, (World.cell?_setCell_far W _ _ v hn1.out.1).trans h.2⟩
                have hK2 : ∀ (W : World) v, (W.cell? ⟨wo.heap.size, 11, none⟩ = some (.int .i64 (aa : Int)) ∧ W.cell? ⟨wo.heap.size, 3 + j, none⟩ = some (.float .f32 y)) → ((W.setCell ⟨gT, aa + j, none⟩ v).cell? ⟨wo.heap.size, 11, none⟩ = some (.int .i64 (aa : Int)) ∧ (W.setCell ⟨gT, aa + j, none⟩ v).cell? ⟨wo.heap.size, 3 + j, none⟩ = some (.float .f32 y)) := fun W v h => ⟨(World.cell?_setCell_far W _ _ v hn1.out.2.1).trans h.1, (World.cell?_setCell_far W _ _ v hn1.out.2.1).trans h.2⟩
                have HK := Lib.hid hK; have HK2 := Lib.hid hK2
                clear hK hK2
                go_wp2
                go_region_held3 (fun w' => w'.cell? ⟨wo.heap.size, 11, none⟩ = some (.int .i64 (aa : Int)) ∧ w'.cell? ⟨wo.heap.size, 3 + j, none⟩ = some (.float .f32 y)) (first | assumption | exact S1.out | exact HK.out _ _ (by assumption) | exact HK2.out _ _ (by assumption) | exact HK.out _ _ S1.out | exact HK2.out _ _ S1.out) (fail)
                all_goals go_wp2
                all_goals go_roundw
                all_goals first
                  | (exact ⟨j + 1, by omega, by go_num, by rw [Hs2.out]; show Row _ _ _ _; simp only [flts, List.map_set]; exact ((IS.out.set (aa + j) (.float .f32 y)).far hn1.out.2.2 (.bool true)), by rw [Hs2.out]; show Row _ _ _ _; simp only [bools, List.map_set]; exact ((IT.out.far (Ne.symm hn1.out.2.2) (.float .f32 y)).set (aa + j) (.bool true)), (IP.out.far hnp.out.1 _).far hnp.out.2 _, (IG.out.far (Ne.symm hn1.out.1) _).far (Ne.symm hn1.out.2.1) _, ((IB.out.drew.setCell hz1.out.1 _).setCell (by have := hz1.out; simp; omega) _)⟩)
                  | (exact ⟨j + 1, by omega, by go_num, by rw [Hs2.out]; show Row _ _ _ _; simp only [flts, List.map_set]; exact ((IS.out.far hn1.out.2.2 (.bool true)).set (aa + j) (.float .f32 y)), by rw [Hs2.out]; show Row _ _ _ _; simp only [bools, List.map_set]; exact ((IT.out.set (aa + j) (.bool true)).far (Ne.symm hn1.out.2.2) (.float .f32 y)), (IP.out.far hnp.out.2 _).far hnp.out.1 _, (IG.out.far (Ne.symm hn1.out.2.1) _).far (Ne.symm hn1.out.1) _, ((IB.out.drew.setCell (by have := hz1.out; simp; omega) _).setCell hz1.out.1 _)⟩)
                  | (simp [intOf]; omega)
              · have Hs2 : Hid (putGo s aa [x0, x1, x2, x3, x4, x5, x6, x7] (j + 1) = S) := by unfold Hid; rw [Hsu.out, put1, if_pos Hgd.out]
                go_wp2
                go_roundw
                case rel => exact ⟨j + 1, by omega, by go_num, by rw [Hs2.out]; exact IS, by rw [Hs2.out]; exact IT, IP, IG, IB⟩
                case measure => simp [intOf]; omega
            · obtain rfl : j = (N - aa) := by omega
              go_wp2
              go_roundw
              case rel => exact ⟨k + 1, by omega, by go_num, by rw [HSU.out]; exact IS, by rw [HSU.out]; exact IT, IP, IB⟩
              case measure => simp [intOf]; omega
        · obtain ⟨lm, rfl⟩ : ∃ lm : Nat, ln = (lm : Int) := ⟨ln.toNat, by omega⟩
          have hmt : (min (lm : Int) ((N : Int) - 8 * ct)).toNat = lm := by rw [haa]; omega
          have HSU : Hid (asmK st N ps (k + 1) = putGo s aa [x0, x1, x2, x3, x4, x5, x6, x7] lm) := by
            unfold Hid; rw [hsucc, asm1, if_pos rfl]; show putGo s (8 * ct).toNat _ (min (lm : Int) ((N : Int) - 8 * ct)).toNat = _; rw [hmt, hat]
          have HL1 := Lib.hid hl1
          clear hsucc hmt hat haa hl1
          go_wp2
          go_loopw [51] (fun i wr => ∃ j : Nat, j ≤ lm ∧ i = .int .i64 j ∧ Hid (Row wr gS 27 (flts (putGo s aa [x0, x1, x2, x3, x4, x5, x6, x7] j).1)) ∧ Hid (Row wr gT 4 (bools (putGo s aa [x0, x1, x2, x3, x4, x5, x6, x7] j).2)) ∧ Hid (Row wr gP 154 (plC ps)) ∧ Hid (Row wr wo.heap.size 154 [.int .i64 st, .int .i64 ct, .int .i64 (lm : Int), .float .f32 x0, .float .f32 x1, .float .f32 x2, .float .f32 x3, .float .f32 x4, .float .f32 x5, .float .f32 x6, .float .f32 x7, .int .i64 (aa : Int)]) ∧ Hid (Below w.heap.size w wr)) (fun i _ => lm - (intOf i).toNat)
          case atStart => exact ⟨0, Nat.zero_le _, rfl, HNS, HNT, HNP, Row.new wo _ [.int .i64 st, .int .i64 ct, .int .i64 (lm : Int), .float .f32 x0, .float .f32 x1, .float .f32 x2, .float .f32 x3, .float .f32 x4, .float .f32 x5, .float .f32 x6, .float .f32 x7, .int .i64 (aa : Int)], HNB⟩
          case round =>
            obtain ⟨j, hj, rfl, IS, IT, IP, IG, IB⟩ := hrel
            by_cases hjl : j < lm
            · have hj8 : j < 8 := by omega
              have haj : aa + j < N := by omega
              have hle := putGo_len s aa [x0, x1, x2, x3, x4, x5, x6, x7] j
              have hsu := putGo_succ s aa [x0, x1, x2, x3, x4, x5, x6, x7] j
              obtain ⟨y, hy⟩ : ∃ y, y = [x0, x1, x2, x3, x4, x5, x6, x7].getD j 0 := ⟨_, rfl⟩
              have cy : wr.cell? ⟨wo.heap.size, 3 + j, none⟩ = some (.float .f32 y) := by
                rw [IG.out.cell, hy]
                rcases (show j = 0 ∨ j = 1 ∨ j = 2 ∨ j = 3 ∨ j = 4 ∨ j = 5 ∨ j = 6 ∨ j = 7 by omega) with rfl | rfl | rfl | rfl | rfl | rfl | rfl | rfl <;> rfl
              have ca : wr.cell? ⟨wo.heap.size, 11, none⟩ = some (.int .i64 (aa : Int)) := by rw [IG.out.cell]; rfl
              rw [← hy] at hsu
              clear hy
              obtain ⟨S, hS⟩ : ∃ S, S = putGo s aa [x0, x1, x2, x3, x4, x5, x6, x7] j := ⟨_, rfl⟩
              rw [← hS] at IS IT hle hsu
              clear hS
              have hLS : S.1.length = N := hle.1.trans HL1.out.1
              have hLT : S.2.length = N := hle.2.trans HL1.out.2
              obtain ⟨bv, hbv⟩ : ∃ bv, bv = S.2[aa + j]'(by omega) := ⟨_, rfl⟩
              have cT : wr.cell? ⟨gT, aa + j, none⟩ = some (.bool bv) := by
                rw [IT.out.cell, hbv]; simp [bools, List.getElem?_eq_getElem (show aa + j < S.2.length by omega)]
              obtain ⟨vS, cS⟩ : ∃ v, wr.cell? ⟨gS, aa + j, none⟩ = some v := ⟨_, IS.out.cellAt (by simp [flts]; omega)⟩
              have fS := IS.out.free (aa + j)
              have fT := IT.out.free (aa + j)
              have hgd : S.2.getD (aa + j) true = bv := by rw [hbv]; simp [List.getD, List.getElem?_eq_getElem (show aa + j < S.2.length by omega)]
              have hI1 : IntKind.i64.wrap ((aa : Int) + (j : Int)) = (aa : Int) + (j : Int) := IntWalk.i64_in _ (by omega)
              have hI2 : ((aa : Int) + (j : Int)).toNat = aa + j := by omega
              have hI3 : 0 ≤ (aa : Int) + (j : Int) := by omega
              have hI4 : (aa : Int) + (j : Int) < (N : Int) := by omega
              have hI5 : (j : Int) < 8 := by omega
              have hI6 : (0 : Int) ≤ (j : Int) := by omega
              have Hsu := Lib.hid hsu; have Hgd := Lib.hid hgd
              clear hle hsu hLS hLT hbv hgd
              cases bv
              · have Hs2 : Hid (putGo s aa [x0, x1, x2, x3, x4, x5, x6, x7] (j + 1) = (S.1.set (aa + j) y, S.2.set (aa + j) true)) := by unfold Hid; rw [Hsu.out, put1, if_neg (by rw [Hgd.out]; decide)]
                have hn1 : Hid (gS ≠ wo.heap.size ∧ gT ≠ wo.heap.size ∧ gS ≠ gT) := by unfold Hid; have := hz1.out; have := hz2.out; have := hz4.out; omega
                have n1 : ¬ gS = gT := hn1.out.2.2
                have n2 : ¬ gT = gS := fun h => hn1.out.2.2 h.symm
                have hnp : Hid (gP ≠ gS ∧ gP ≠ gT) := by unfold Hid; have := hz1.out; have := hz2.out; omega
                have S1 : Hid (wr.cell? ⟨wo.heap.size, 11, none⟩ = some (.int .i64 (aa : Int)) ∧ wr.cell? ⟨wo.heap.size, 3 + j, none⟩ = some (.float .f32 y)) := ⟨ca, cy⟩
                have hK : ∀ (W : World) v, (W.cell? ⟨wo.heap.size, 11, none⟩ = some (.int .i64 (aa : Int)) ∧ W.cell? ⟨wo.heap.size, 3 + j, none⟩ = some (.float .f32 y)) → ((W.setCell ⟨gS, aa + j, none⟩ v).cell? ⟨wo.heap.size, 11, none⟩ = some (.int .i64 (aa : Int)) ∧ (W.setCell ⟨gS, aa + j, none⟩ v).cell? ⟨wo.heap.size, 3 + j, none⟩ = some (.float .f32 y)) := fun W v h => ⟨(World.cell?_setCell_far W _ _ v hn1.out.1).trans h.1, (World.cell?_setCell_far W _ _ v hn1.out.1).trans h.2⟩
                have hK2 : ∀ (W : World) v, (W.cell? ⟨wo.heap.size, 11, none⟩ = some (.int .i64 (aa : Int)) ∧ W.cell? ⟨wo.heap.size, 3 + j, none⟩ = some (.float .f32 y)) → ((W.setCell ⟨gT, aa + j, none⟩ v).cell? ⟨wo.heap.size, 11, none⟩ = some (.int .i64 (aa : Int)) ∧ (W.setCell ⟨gT, aa + j, none⟩ v).cell? ⟨wo.heap.size, 3 + j, none⟩ = some (.float .f32 y)) := fun W v h => ⟨(World.cell?_setCell_far W _ _ v hn1.out.2.1).trans h.1, (World.cell?_setCell_far W _ _ v hn1.out.2.1).trans h.2⟩
                have HK := Lib.hid hK; have HK2 := Lib.hid hK2
                clear hK hK2
                go_wp2
                go_region_held3 (fun w' => w'.cell? ⟨wo.heap.size, 11, none⟩ = some (.int .i64 (aa : Int)) ∧ w'.cell? ⟨wo.heap.size, 3 + j, none⟩ = some (.float .f32 y)) (first | assumption | exact S1.out | exact HK.out _ _ (by assumption) | exact HK2.out _ _ (by assumption) | exact HK.out _ _ S1.out | exact HK2.out _ _ S1.out) (fail)
                all_goals go_wp2
                all_goals go_roundw
                all_goals first
                  | (exact ⟨j + 1, by omega, by go_num, by rw [Hs2.out]; show Row _ _ _ _; simp only [flts, List.map_set]; exact ((IS.out.set (aa + j) (.float .f32 y)).far hn1.out.2.2 (.bool true)), by rw [Hs2.out]; show Row _ _ _ _; simp only [bools, List.map_set]; exact ((IT.out.far (Ne.symm hn1.out.2.2) (.float .f32 y)).set (aa + j) (.bool true)), (IP.out.far hnp.out.1 _).far hnp.out.2 _, (IG.out.far (Ne.symm hn1.out.1) _).far (Ne.symm hn1.out.2.1) _, ((IB.out.drew.setCell hz1.out.1 _).setCell (by have := hz1.out; simp; omega) _)⟩)
                  | (exact ⟨j + 1, by omega, by go_num, by rw [Hs2.out]; show Row _ _ _ _; simp only [flts, List.map_set]; exact ((IS.out.far hn1.out.2.2 (.bool true)).set (aa + j) (.float .f32 y)), by rw [Hs2.out]; show Row _ _ _ _; simp only [bools, List.map_set]; exact ((IT.out.set (aa + j) (.bool true)).far (Ne.symm hn1.out.2.2) (.float .f32 y)), (IP.out.far hnp.out.2 _).far hnp.out.1 _, (IG.out.far (Ne.symm hn1.out.2.1) _).far (Ne.symm hn1.out.1) _, ((IB.out.drew.setCell (by have := hz1.out; simp; omega) _).setCell hz1.out.1 _)⟩)
                  | (simp [intOf]; omega)
              · have Hs2 : Hid (putGo s aa [x0, x1, x2, x3, x4, x5, x6, x7] (j + 1) = S) := by unfold Hid; rw [Hsu.out, put1, if_pos Hgd.out]
                go_wp2
                go_roundw
                case rel => exact ⟨j + 1, by omega, by go_num, by rw [Hs2.out]; exact IS, by rw [Hs2.out]; exact IT, IP, IG, IB⟩
                case measure => simp [intOf]; omega
            · obtain rfl : j = lm := by omega
              go_wp2
              go_roundw
              case rel => exact ⟨k + 1, by omega, by go_num, by rw [HSU.out]; exact IS, by rw [HSU.out]; exact IT, IP, IB⟩
              case measure => simp [intOf]; omega
      · have hne : (st != station) = true := by simpa using hstn
        have HSU : Hid (asmK station N ps (k + 1) = s) := by unfold Hid; rw [hsucc, asm1, if_neg (by simpa using hstn)]
        clear hsucc hstn haa hok hl1
        go_wp2
        go_roundw
        case rel => exact ⟨k + 1, by omega, by go_num, by rw [HSU.out]; exact HNS, by rw [HSU.out]; exact HNT, HNP, HNB⟩
        case measure => simp [intOf]; omega
    · obtain rfl : k = ps.length := by omega
      have hfin : asmK station N ps ps.length = asmL station N ps := by unfold asmK; rw [List.take_length]
      rw [hfin] at HS HT
      have hlT := (asmL_len station N ps).2
      have hlT : N = (asmL station N ps).2.length := by simpa using hlT.symm
      have HLT := Lib.hid hlT
      have HSW := Lib.hid (spansWhere_any (some ⟨gT, 0, none⟩) N N (asmL station N ps).2 wo (Rd.row HT.out) hlT (by rw [← hlT]; exact hN))
      clear hfin hlT
      go_wp2_with fail
      refine HSW.out.mono ?_
      rintro e w5 ⟨v, rfl, ho5, hb5⟩
      have HS5 := Lib.hid (HS.out.old hb5)
      have HO5 := Lib.hid (owns_mono ho5 HB.out.size)
      have HB5 := Lib.hid (HB.out.trans (hb5.mono HB.out.size))
      clear ho5 hb5
      go_wp2
      go_ret3
      exact ⟨gS, v, rfl, HS5.out, HO5.out, hz1.out.1, HB5.out⟩
end Go.Proofs.YtkfkmnfejeocpaaGreatDoor

/- Contracts: a recording of the reference as one of the program. -/
namespace Go.Proofs.YtkfkmnfejeocpaaGreatDoor
set_option linter.all false
open Go.RowKit Go.Fl
set_option linter.unusedVariables false
set_option linter.unusedSimpArgs false

end Go.Proofs.YtkfkmnfejeocpaaGreatDoor
