import Derived.Test.YtphgfiihccofnaaGreatDoorM22
import Derived.Test.YtphgfiihccofnaaGreatDoorM14
import Derived.Test.YtphgfiihccofnaaGreatDoorM07
import Derived.Test.YtphgfiihccofnaaGreatDoorM21
/- Contracts: packets are assembled. -/
namespace Go.Proofs.YtphgfiihccofnaaGreatDoor
set_option linter.all false
open Go.RowKit Go.Fl
set_option linter.unusedVariables false
set_option linter.unusedSimpArgs false

abbrev AsT := List Nat × List Bool
def put1 (s : AsT) (j : Nat) (x : Nat) : AsT := if s.2.getD j true then s else (s.1.set j x, s.2.set j true)
def putGo (s : AsT) (a : Nat) (xs : List Nat) (m : Nat) : AsT := (List.range m).foldl (fun s i => put1 s (a + i) (xs.getD i 0)) s
theorem putGo_succ (s : AsT) (a : Nat) (xs : List Nat) (m : Nat) : putGo s a xs (m + 1) = put1 (putGo s a xs m) (a + m) (xs.getD m 0) := by
  unfold putGo; rw [List.range_succ, List.foldl_append]; rfl
theorem put1_len (s : AsT) (j x : Nat) : (put1 s j x).1.length = s.1.length ∧ (put1 s j x).2.length = s.2.length := by
  unfold put1; split <;> simp
theorem putGo_len (s : AsT) (a : Nat) (xs : List Nat) (m : Nat) : (putGo s a xs m).1.length = s.1.length ∧ (putGo s a xs m).2.length = s.2.length := by
  induction m with
  | zero => exact ⟨rfl, rfl⟩
  | succ m ih => rw [putGo_succ]; exact ⟨(put1_len _ _ _).1.trans ih.1, (put1_len _ _ _).2.trans ih.2⟩
def asm1 (station n : Int) (s : AsT) (p : PkT) : AsT := if p.1 = station then putGo s (8 * p.2.1).toNat p.2.2.2 (min p.2.2.1 (n - 8 * p.2.1)).toNat else s
def asmL (station n : Int) (ps : List PkT) : AsT := ps.foldl (asm1 station n) (List.replicate n.toNat 0, List.replicate n.toNat false)
def asmK (station n : Int) (ps : List PkT) (k : Nat) : AsT := asmL station n (ps.take k)
theorem asmK_succ (station n : Int) (ps : List PkT) (k : Nat) (hk : k < ps.length) : asmK station n ps (k + 1) = asm1 station n (asmK station n ps k) ps[k] := by
  unfold asmK asmL; rw [List.take_succ_eq_append_getElem hk, List.foldl_append]; rfl
theorem asm1_len (station n : Int) (s : AsT) (p : PkT) : (asm1 station n s p).1.length = s.1.length ∧ (asm1 station n s p).2.length = s.2.length := by
  unfold asm1; split
  · exact putGo_len _ _ _ _
  · exact ⟨rfl, rfl⟩
theorem asmL_len (station n : Int) (ps : List PkT) : (asmL station n ps).1.length = n.toNat ∧ (asmL station n ps).2.length = n.toNat := by
  have h : ∀ (ps : List PkT) (s : AsT), (ps.foldl (asm1 station n) s).1.length = s.1.length ∧ (ps.foldl (asm1 station n) s).2.length = s.2.length := by
    intro ps
    induction ps with
    | nil => intro s; exact ⟨rfl, rfl⟩
    | cons p ps ih => intro s; rw [List.foldl_cons]; exact ⟨(ih _).1.trans (asm1_len _ _ _ _).1, (ih _).2.trans (asm1_len _ _ _ _).2⟩
  have := h ps (List.replicate n.toNat 0, List.replicate n.toNat false)
  simpa [asmL] using this
def asmE (ps : List PkT) (station n : Int) : Int := firstI [pksI ps, whenI (rangeB station 0 255) 3, whenI (rangeB n 0 4096) 3]

theorem firstI_all {zs : List Int} (h : firstI zs = 0) : ∀ z ∈ zs, z = 0 := by
  induction zs with
  | nil => intro z hz; cases hz
  | cons z zs ih =>
    rw [firstI] at h
    split at h
    · rename_i h0
      intro y hy
      rcases List.mem_cons.1 hy with rfl | hy
      · exact h0
      · exact ih h y hy
    · rename_i h0; exact absurd h h0
theorem when_zero {b : Bool} {n : Int} (h : whenI b n = 0) (hn : n ≠ 0) : b = false := by
  cases b
  · rfl
  · exact absurd h hn
theorem range_of {n low high : Int} (h : rangeB n low high = false) : low ≤ n ∧ n ≤ high := by
  unfold rangeB at h
  simp only [Bool.or_eq_false_iff, decide_eq_false_iff_not] at h
  omega
theorem pkE_ok {p : PkT} (h : pkE p = 0) : (0 ≤ p.1 ∧ p.1 ≤ 255) ∧ (0 ≤ p.2.1 ∧ p.2.1 ≤ 65535) ∧ (0 ≤ p.2.2.1 ∧ p.2.2.1 ≤ 8) := by
  have ha := firstI_all h
  exact ⟨range_of (when_zero (ha (whenI (rangeB p.1 0 255) 3) (by simp)) (by decide)), range_of (when_zero (ha (whenI (rangeB p.2.1 0 65535) 3) (by simp)) (by decide)), range_of (when_zero (ha (whenI (rangeB p.2.2.1 0 8) 3) (by simp)) (by decide))⟩
theorem asmE_ok {ps : List PkT} {station n : Int} (h : asmE ps station n = 0) : ps.length ≤ 1024 ∧ (∀ p ∈ ps, pkE p = 0) ∧ (0 ≤ station ∧ station ≤ 255) ∧ 0 ≤ n ∧ n ≤ 4096 := by
  have ha := firstI_all h
  have h1 : pksI ps = 0 := ha _ (by simp)
  have hl : ¬ 1024 < ps.length := by intro hl; rw [pksI, if_pos hl] at h1; cases h1
  rw [pksI, if_neg hl] at h1
  exact ⟨by omega, fun p hp => firstI_all h1 _ (List.mem_map_of_mem hp), range_of (when_zero (ha (whenI (rangeB station 0 255) 3) (by simp)) (by decide)), range_of (when_zero (ha (whenI (rangeB n 0 4096) 3) (by simp)) (by decide))⟩

set_option maxRecDepth 100000 in
set_option maxHeartbeats 2000000 in
theorem assembled_ok (A : Option Addr) (m c : Nat) (ps : List PkT) (station : Int) (N : Nat) (w : World) (hA : Rd w A (pksC ps)) (h8 : pks8 ps) (hn : m = ps.length) (he : asmE ps station N = 0) :
    Calls Tryz.prog 46 #[.slice A m c, .int .i64 station, .int .i64 (N : Int)] w fun e w' => ∃ gS v, e = .returned (.tuple #[.slice (some ⟨gS, 0, none⟩) N N, v, .int .i64 0]) ∧ Row w' gS 90 (flts (asmL station N ps).1) ∧ w'.ownsRow w.heap.size 27 2 v (gapsL (asmL station N ps).2).length (spanC (gapsL (asmL station N ps).2)) ∧ w.heap.size ≤ gS ∧ Below w.heap.size w w' := by
  subst hn
  obtain ⟨hl, hpk, hst, -, hN0⟩ := asmE_ok he
  have HC : Hid (Calls Tryz.prog 110 #[.slice A ps.length c, .int .i64 1024, .func (.func 106) #[] #[]] w fun e w' => e = .returned (.int .i64 (pksI ps)) ∧ Below w.heap.size w w') := checkListPk_any A _ c ps w hA h8 rfl
  have HER : Hid (firstI [pksI ps, whenI (rangeB station 0 255) 3, whenI (rangeB (N : Int) 0 4096) 3] = 0) := he
  have HM : Hid (∀ W, Below w.heap.size w W → Calls Tryz.prog 111 #[.slice A ps.length c, .func (.func 112) #[] #[]] W fun e w' => ∃ g, e = .returned (.slice (some ⟨g, 0, none⟩) ps.length ps.length) ∧ Row w' g 186 (plC ps) ∧ W.heap.size ≤ g ∧ Below W.heap.size W w') := fun W hW =>
    mappedPl_any A _ c ps W (hA.below hW) h8 (fun p hp => (pkE_ok (hpk p hp)).2.1) rfl hl
  have HPK := Lib.hid hpk; have H8 := Lib.hid h8
  have hN : N ≤ 4096 := by omega
  have hmk1 := fun W : World => make1 (P := Tryz.prog) 22 90 (.float .f32 0) 4 Tryz.underlying22 info37 rfl N (by omega) (by omega) W
  have hmk2 := fun W : World => make1 (P := Tryz.prog) 149 4 (.bool false) 1 Tryz.underlying149 (by kernel_rfl) rfl N (by omega) (by omega) W
  clear hA h8 he hpk hN0
  go_enter Tryz.func46, Tryz.ntmps46
  go_wp2_with (first
    | (go_at_call 110; refine HC.out.mono ?_; rintro e w1 ⟨rfl, hb1⟩; have HB1 := Lib.hid hb1; clear hb1)
    | (go_at_call 63; refine (between_any _ _ _ _).mono ?_; rintro e w3 ⟨rfl, rfl⟩)
    | (go_at_call 55; refine (firstV_any _ _ _ [pksI ps, whenI (rangeB station 0 255) 3, whenI (rangeB (N : Int) 0 4096) 3] _ (Rd.new _ _ _ _ rfl) rfl (by simp)).mono ?_; rintro e w3 ⟨rfl, rfl⟩; rw [HER.out]))
  obtain ⟨gS, hgS⟩ : ∃ gS, gS = w1.heap.size + 1 := ⟨_, rfl⟩
  obtain ⟨gT, hgT⟩ : ∃ gT, gT = w1.heap.size + 1 + 1 := ⟨_, rfl⟩
  have hzw := HB1.out.size
  have hW1 : Below w.heap.size w (((w1.alloc (.cells #[.int .i64 (pksI ps), .int .i64 (whenI (rangeB station 0 255) 3), .int .i64 (whenI (rangeB (N : Int) 0 4096) 3)] 33)).alloc (.cells (List.replicate N (Value.float .f32 0)).toArray 90)).alloc (.cells (List.replicate N (Value.bool false)).toArray 4)) :=
    ((HB1.out.alloc HB1.out.size _).alloc (by simp; omega) _).alloc (by simp; omega) _
  have hS1 : Row (((w1.alloc (.cells #[.int .i64 (pksI ps), .int .i64 (whenI (rangeB station 0 255) 3), .int .i64 (whenI (rangeB (N : Int) 0 4096) 3)] 33)).alloc (.cells (List.replicate N (Value.float .f32 0)).toArray 90)).alloc (.cells (List.replicate N (Value.bool false)).toArray 4)) gS 90 (List.replicate N (Value.float .f32 0)) := by
    have h := (Row.new (w1.alloc (.cells #[.int .i64 (pksI ps), .int .i64 (whenI (rangeB station 0 255) 3), .int .i64 (whenI (rangeB (N : Int) 0 4096) 3)] 33)) 90 (List.replicate N (Value.float .f32 0))).alloc (.cells (List.replicate N (Value.bool false)).toArray 4)
    rw [World.size_alloc] at h; rw [hgS]; exact h
  have hT1 : Row (((w1.alloc (.cells #[.int .i64 (pksI ps), .int .i64 (whenI (rangeB station 0 255) 3), .int .i64 (whenI (rangeB (N : Int) 0 4096) 3)] 33)).alloc (.cells (List.replicate N (Value.float .f32 0)).toArray 90)).alloc (.cells (List.replicate N (Value.bool false)).toArray 4)) gT 4 (List.replicate N (Value.bool false)) := by
    have h := Row.new ((w1.alloc (.cells #[.int .i64 (pksI ps), .int .i64 (whenI (rangeB station 0 255) 3), .int .i64 (whenI (rangeB (N : Int) 0 4096) 3)] 33)).alloc (.cells (List.replicate N (Value.float .f32 0)).toArray 90)) 4 (List.replicate N (Value.bool false))
    rw [World.size_alloc, World.size_alloc] at h; rw [hgT]; exact h
  have HW1 := Lib.hid hW1; have HS1 := Lib.hid hS1; have HT1 := Lib.hid hT1
  have hz1 : Hid (w.heap.size ≤ gS ∧ gS < gT) := by unfold Hid; omega
  clear hW1 hS1 hT1 hzw
  refine (HM.out _ HW1.out).mono ?_
  rintro e w2 ⟨gP, rfl, hrP, hgP, hb2⟩
  have HP2 := Lib.hid hrP
  have HS2 := Lib.hid (HS1.out.old hb2)
  have HT2 := Lib.hid (HT1.out.old hb2)
  have HB2 := Lib.hid (HW1.out.trans (hb2.mono HW1.out.size))
  have hz2 : Hid (gT < gP) := by unfold Hid; simp at hgP; omega
  clear hrP hgP hb2 HW1 HS1 HT1 HB1 hmk1 hmk2 HC HM HER
  rw [← hgT, ← hgS]
  clear hgS hgT
  go_wp2
  go_loopw [34] (fun i wr => ∃ k : Nat, k ≤ ps.length ∧ i = .int .i64 k ∧ Hid (Row wr gS 90 (flts (asmK station N ps k).1)) ∧ Hid (Row wr gT 4 (bools (asmK station N ps k).2)) ∧ Hid (Row wr gP 186 (plC ps)) ∧ Hid (Below w.heap.size w wr)) (fun i _ => ps.length - (intOf i).toNat)
  case atStart => exact ⟨0, Nat.zero_le _, rfl, by have h := HS2.out; show Row _ _ _ _; simpa [asmK, asmL, flts] using h, by have h := HT2.out; show Row _ _ _ _; simpa [asmK, asmL, bools] using h, HP2, HB2⟩
  case round =>
    obtain ⟨k, hk, rfl, HS, HT, HP, HB⟩ := hrel
    obtain ⟨wo, rfl⟩ : ∃ wo : World, wo = wr := ⟨_, rfl⟩
    by_cases hlt : k < ps.length
    · obtain ⟨st, ct, ln, x0, x1, x2, x3, x4, x5, x6, x7, hp⟩ := pk_form (H8.out _ (List.getElem_mem hlt))
      have hok := pkE_ok (HPK.out _ (List.getElem_mem hlt))
      have hsucc := asmK_succ station N ps k hlt
      have hcell : ∀ j v, (plV ps[k])[j]? = some v → wo.cell? ⟨gP, k * 12 + j, none⟩ = some v := fun j v hv => by
        have h12 := plV_length (H8.out _ (List.getElem_mem hlt))
        rw [HP.out.cell, plC, flat_get plV 12 ps (fun p hp => plV_length (H8.out p hp)) k hlt j (by have := (List.getElem?_eq_some_iff.1 hv).1; omega)]; exact hv
      rw [hp] at hok hsucc hcell
      have hok : (0 ≤ st ∧ st ≤ 255) ∧ (0 ≤ ct ∧ ct ≤ 65535) ∧ (0 ≤ ln ∧ ln ≤ 8) := hok
      obtain ⟨aa, haa⟩ : ∃ aa : Nat, 8 * ct = (aa : Int) := ⟨(8 * ct).toNat, by omega⟩
      have c0 := hcell 0 _ rfl
      have c1 := hcell 1 _ rfl
      have c2 := hcell 2 _ rfl
      have c3 := hcell 3 _ rfl
      have c4 := hcell 4 _ rfl
      have c5 := hcell 5 _ rfl
      have c6 := hcell 6 _ rfl
      have c7 := hcell 7 _ rfl
      have c8 := hcell 8 _ rfl
      have c9 := hcell 9 _ rfl
      have c10 := hcell 10 _ rfl
      have c11a := hcell 11 _ rfl
      rw [Nat.add_zero] at c0
      have c11 : wo.cell? ⟨gP, k * 12 + 11, none⟩ = some (.int .i64 (aa : Int)) := by rw [← haa]; exact c11a
      clear c11a
      have hl1a := asmL_len station N (ps.take k)
      have hl1 : (asmK station N ps k).1.length = N ∧ (asmK station N ps k).2.length = N := by simpa [asmK] using hl1a
      clear hl1a
      obtain ⟨s, hs⟩ : ∃ s, s = asmK station N ps k := ⟨_, rfl⟩
      rw [← hs] at HS HT hsucc hl1
      have hB1 := HB.out.size
      have HNB := Lib.hid (HB.out.alloc HB.out.size (.cells #[.int .i64 st, .int .i64 ct, .int .i64 ln, .float .f32 x0, .float .f32 x1, .float .f32 x2, .float .f32 x3, .float .f32 x4, .float .f32 x5, .float .f32 x6, .float .f32 x7, .int .i64 (aa : Int)] 186))
      have HNS := Lib.hid (HS.out.alloc (.cells #[.int .i64 st, .int .i64 ct, .int .i64 ln, .float .f32 x0, .float .f32 x1, .float .f32 x2, .float .f32 x3, .float .f32 x4, .float .f32 x5, .float .f32 x6, .float .f32 x7, .int .i64 (aa : Int)] 186))
      have HNT := Lib.hid (HT.out.alloc (.cells #[.int .i64 st, .int .i64 ct, .int .i64 ln, .float .f32 x0, .float .f32 x1, .float .f32 x2, .float .f32 x3, .float .f32 x4, .float .f32 x5, .float .f32 x6, .float .f32 x7, .int .i64 (aa : Int)] 186))
      have HNP := Lib.hid (HP.out.alloc (.cells #[.int .i64 st, .int .i64 ct, .int .i64 ln, .float .f32 x0, .float .f32 x1, .float .f32 x2, .float .f32 x3, .float .f32 x4, .float .f32 x5, .float .f32 x6, .float .f32 x7, .int .i64 (aa : Int)] 186))
      have hz4 : Hid (gP < wo.heap.size) := HP.out.lt
      clear hcell hp hs hB1
      by_cases hstn : st = station
      · subst hstn
        have e1 : IntKind.i64.wrap ((N : Int) - (aa : Int)) = (N : Int) - (aa : Int) := IntWalk.i64_in _ (by omega)
        have hat : (8 * ct).toNat = aa := by rw [haa]; rfl
        by_cases hlt0 : (N : Int) - (aa : Int) < ln
        · have hmt : (min ln ((N : Int) - 8 * ct)).toNat = N - aa := by rw [haa]; omega
          have HSU : Hid (asmK st N ps (k + 1) = putGo s aa [x0, x1, x2, x3, x4, x5, x6, x7] (N - aa)) := by
            unfold Hid; rw [hsucc, asm1, if_pos rfl]; show putGo s (8 * ct).toNat _ (min ln ((N : Int) - 8 * ct)).toNat = _; rw [hmt, hat]
          have HL1 := Lib.hid hl1
          clear hsucc hmt hat haa hl1
          go_wp2
          go_loopw [51] (fun i wr => ∃ j : Nat, j ≤ (N - aa) ∧ i = .int .i64 j ∧ Hid (Row wr gS 90 (flts (putGo s aa [x0, x1, x2, x3, x4, x5, x6, x7] j).1)) ∧ Hid (Row wr gT 4 (bools (putGo s aa [x0, x1, x2, x3, x4, x5, x6, x7] j).2)) ∧ Hid (Row wr gP 186 (plC ps)) ∧ Hid (Row wr wo.heap.size 186 [.int .i64 st, .int .i64 ct, .int .i64 ln, .float .f32 x0, .float .f32 x1, .float .f32 x2, .float .f32 x3, .float .f32 x4, .float .f32 x5, .float .f32 x6, .float .f32 x7, .int .i64 (aa : Int)]) ∧ Hid (Below w.heap.size w wr)) (fun i _ => (N - aa) - (intOf i).toNat)
          case atStart => exact ⟨0, Nat.zero_le _, rfl, HNS, HNT, HNP, Row.new wo _ [.int .i64 st, .int .i64 ct, .int .i64 ln, .float .f32 x0, .float .f32 x1, .float .f32 x2, .float .f32 x3, .float .f32 x4, .float .f32 x5, .float .f32 x6, .float .f32 x7, .int .i64 (aa : Int)], HNB⟩
          case round =>
            obtain ⟨j, hj, rfl, IS, IT, IP, IG, IB⟩ := hrel
            by_cases hjl : j < (N - aa)
            · have hj8 : j < 8 := by omega
              have haj : aa + j < N := by omega
              have hle := putGo_len s aa [x0, x1, x2, x3, x4, x5, x6, x7] j
              have hsu := putGo_succ s aa [x0, x1, x2, x3, x4, x5, x6, x7] j
              obtain ⟨y, hy⟩ : ∃ y, y = [x0, x1, x2, x3, x4, x5, x6, x7].getD j 0 := ⟨_, rfl⟩
              have cy : wr.cell? ⟨wo.heap.size, 3 + j, none⟩ = some (.float .f32 y) := by
                rw [IG.out.cell, hy]
                rcases (show j = 0 ∨ j = 1 ∨ j = 2 ∨ j = 3 ∨ j = 4 ∨ j = 5 ∨ j = 6 ∨ j = 7 by omega) with rfl | rfl | rfl | rfl | rfl | rfl | rfl | rfl <;> rfl
              have ca : wr.cell? ⟨wo.heap.size, 11, none⟩ = some (.int .i64 (aa : Int)) := by rw [IG.out.cell]; rfl
              rw [← hy] at hsu
              clear hy
              obtain ⟨S, hS⟩ : ∃ S, S = putGo s aa [x0, x1, x2, x3, x4, x5, x6, x7] j := ⟨_, rfl⟩
              rw [← hS] at IS IT hle hsu
              clear hS
              have hLS : S.1.length = N := hle.1.trans HL1.out.1
              have hLT : S.2.length = N := hle.2.trans HL1.out.2
              obtain ⟨bv, hbv⟩ : ∃ bv, bv = S.2[aa + j]'(by omega) := ⟨_, rfl⟩
              have cT : wr.cell? ⟨gT, aa + j, none⟩ = some (.bool bv) := by
                rw [IT.out.cell, hbv]; simp [bools, List.getElem?_eq_getElem (show aa + j < S.2.length by omega)]
              obtain ⟨vS, cS⟩ : ∃ v, wr.cell? ⟨gS, aa + j, none⟩ = some v := ⟨_, IS.out.cellAt (by simp [flts]; omega)⟩
              have fS := IS.out.free (aa + j)
              have fT := IT.out.free (aa + j)
              have hgd : S.2.getD (aa + j) true = bv := by rw [hbv]; simp [List.getD, List.getElem?_eq_getElem (show aa + j < S.2.length by omega)]
              have hI1 : IntKind.i64.wrap ((aa : Int) + (j : Int)) = (aa : Int) + (j : Int) := IntWalk.i64_in _ (by omega)
              have hI2 : ((aa : Int) + (j : Int)).toNat = aa + j := by omega
              have hI3 : 0 ≤ (aa : Int) + (j : Int) := by omega
              have hI4 : (aa : Int) + (j : Int) < (N : Int) := by omega
              have hI5 : (j : Int) < 8 := by omega
              have hI6 : (0 : Int) ≤ (j : Int) := by omega
              have Hsu := Lib.hid hsu; have Hgd := Lib.hid hgd
              clear hle hsu hLS hLT hbv hgd
              cases bv
              · have Hs2 : Hid (putGo s aa [x0, x1, x2, x3, x4, x5, x6, x7] (j + 1) = (S.1.set (aa + j) y, S.2.set (aa + j) true)) := by unfold Hid; rw [Hsu.out, put1, if_neg (by rw [Hgd.out]; decide)]
                have hn1 : Hid (gS ≠ wo.heap.size ∧ gT ≠ wo.heap.size ∧ gS ≠ gT) := by unfold Hid; have := hz1.out; have := hz2.out; have := hz4.out; omega
                have n1 : ¬ gS = gT := hn1.out.2.2
                have n2 : ¬ gT = gS := fun h => hn1.out.2.2 h.symm
                have hnp : Hid (gP ≠ gS ∧ gP ≠ gT) := by unfold Hid; have := hz1.out; have := hz2.out; omega
                have S1 : Hid (wr.cell? ⟨wo.heap.size, 11, none⟩ = some (.int .i64 (aa : Int)) ∧ wr.cell? ⟨wo.heap.size, 3 + j, none⟩ = some (.float .f32 y)) := ⟨ca, cy⟩
                have hK : ∀ (W : World) v, (W.cell? ⟨wo.heap.size, 11, none⟩ = some (.int .i64 (aa : Int)) ∧ W.cell? ⟨wo.heap.size, 3 + j, none⟩ = some (.float .f32 y)) → ((W.setCell ⟨gS, aa + j, none⟩ v).cell? ⟨wo.heap.size, 11, none⟩ = some (.int .i64 (aa : Int)) ∧ (W.setCell ⟨gS, aa + j, none⟩ v).cell? ⟨wo.heap.size, 3 + j, none⟩ = some (.float .f32 y)) := fun W v h => ⟨(World.cell?_setCell_far W _ _ v hn1.out.1).trans h.1, (World.cell?_setCell_far W _ _ v hn1.out.1).trans h.2⟩
                have hK2 : ∀ (W : World) v, (W.cell? ⟨wo.heap.size, 11, none⟩ = some (.int .i64 (aa : Int)) ∧ W.cell? ⟨wo.heap.size, 3 + j, none⟩ = some (.float .f32 y)) → ((W.setCell ⟨gT, aa + j, none⟩ v).cell? ⟨wo.heap.size, 11, none⟩ = some (.int .i64 (aa : Int)) ∧ (W.setCell ⟨gT, aa + j, none⟩ v).cell? ⟨wo.heap.size, 3 + j, none⟩ = some (.float .f32 y)) := fun W v h => ⟨(World.cell?_setCell_far W _ _ v hn1.out.2.1).trans h.1, (World.cell?_setCell_far W _ _ v hn1.out.2.1).trans h.2⟩
                have HK := Lib.hid hK; have HK2 := Lib.hid hK2
                clear hK hK2
                go_wp2
                go_region_held3 (fun w' => w'.cell? ⟨wo.heap.size, 11, none⟩ = some (.int .i64 (aa : Int)) ∧ w'.cell? ⟨wo.heap.size, 3 + j, none⟩ = some (.float .f32 y)) (first | assumption | exact S1.out | exact HK.out _ _ (by assumption) | exact HK2.out _ _ (by assumption) | exact HK.out _ _ S1.out | exact HK2.out _ _ S1.out) (fail)
                all_goals go_wp2
                all_goals go_roundw
                all_goals first
                  | (exact ⟨j + 1, by omega, by go_num, by rw [Hs2.out]; show Row _ _ _ _; simp only [flts, List.map_set]; exact ((IS.out.set (aa + j) (.float .f32 y)).far hn1.out.2.2 (.bool true)), by rw [Hs2.out]; show Row _ _ _ _; simp only [bools, List.map_set]; exact ((IT.out.far (Ne.symm hn1.out.2.2) (.float .f32 y)).set (aa + j) (.bool true)), (IP.out.far hnp.out.1 _).far hnp.out.2 _, (IG.out.far (Ne.symm hn1.out.1) _).far (Ne.symm hn1.out.2.1) _, ((IB.out.drew.setCell hz1.out.1 _).setCell (by have := hz1.out; simp; omega) _)⟩)
                  | (exact ⟨j + 1, by omega, by go_num, by rw [Hs2.out]; show Row _ _ _ _; simp only [flts, List.map_set]; exact ((IS.out.far hn1.out.2.2 (.bool true)).set (aa + j) (.float .f32 y)), by rw [Hs2.out]; show Row _ _ _ _; simp only [bools, List.map_set]; exact ((IT.out.set (aa + j) (.bool true)).far (Ne.symm hn1.out.2.2) (.float .f32 y)), (IP.out.far hnp.out.2 _).far hnp.out.1 _, (IG.out.far (Ne.symm hn1.out.2.1) _).far (Ne.symm hn1.out.1) _, ((IB.out.drew.setCell (by have := hz1.out; simp; omega) _).setCell hz1.out.1 _)⟩)
                  | (simp [intOf]; omega)
              · have Hs2 : Hid (putGo s aa [x0, x1, x2, x3, x4, x5, x6, x7] (j + 1) = S) := by unfold Hid; rw [Hsu.out, put1, if_pos Hgd.out]
                go_wp2
                go_roundw
                case rel => exact ⟨j + 1, by omega, by go_num, by rw [Hs2.out]; exact IS, by rw [Hs2.out]; exact IT, IP, IG, IB⟩
                case measure => simp [intOf]; omega
            · obtain rfl : j = (N - aa) := by omega
              go_wp2
              go_roundw
              case rel => exact ⟨k + 1, by omega, by go_num, by rw [HSU.out]; exact IS, by rw [HSU.out]; exact IT, IP, IB⟩
              case measure => simp [intOf]; omega
        · obtain ⟨lm, rfl⟩ : ∃ lm : Nat, ln = (lm : Int) := ⟨ln.toNat, by omega⟩
          have hmt : (min (lm : Int) ((N : Int) - 8 * ct)).toNat = lm := by rw [haa]; omega
          have HSU : Hid (asmK st N ps (k + 1) = putGo s aa [x0, x1, x2, x3, x4, x5, x6, x7] lm) := by
            unfold Hid; rw [hsucc, asm1, if_pos rfl]; show putGo s (8 * ct).toNat _ (min (lm : Int) ((N : Int) - 8 * ct)).toNat = _; rw [hmt, hat]
          have HL1 := Lib.hid hl1
          clear hsucc hmt hat haa hl1
          go_wp2
          go_loopw [51] (fun i wr => ∃ j : Nat, j ≤ lm ∧ i = .int .i64 j ∧ Hid (Row wr gS 90 (flts (putGo s aa [x0, x1, x2, x3, x4, x5, x6, x7] j).1)) ∧ Hid (Row wr gT 4 (bools (putGo s aa [x0, x1, x2, x3, x4, x5, x6, x7] j).2)) ∧ Hid (Row wr gP 186 (plC ps)) ∧ Hid (Row wr wo.heap.size 186 [.int .i64 st, .int .i64 ct, .int .i64 (lm : Int), .float .f32 x0, .float .f32 x1, .float .f32 x2, .float .f32 x3, .float .f32 x4, .float .f32 x5, .float .f32 x6, .float .f32 x7, .int .i64 (aa : Int)]) ∧ Hid (Below w.heap.size w wr)) (fun i _ => lm - (intOf i).toNat)
          case atStart => exact ⟨0, Nat.zero_le _, rfl, HNS, HNT, HNP, Row.new wo _ [.int .i64 st, .int .i64 ct, .int .i64 (lm : Int), .float .f32 x0, .float .f32 x1, .float .f32 x2, .float .f32 x3, .float .f32 x4, .float .f32 x5, .float .f32 x6, .float .f32 x7, .int .i64 (aa : Int)], HNB⟩
          case round =>
            obtain ⟨j, hj, rfl, IS, IT, IP, IG, IB⟩ := hrel
            by_cases hjl : j < lm
            · have hj8 : j < 8 := by omega
              have haj : aa + j < N := by omega
              have hle := putGo_len s aa [x0, x1, x2, x3, x4, x5, x6, x7] j
              have hsu := putGo_succ s aa [x0, x1, x2, x3, x4, x5, x6, x7] j
              obtain ⟨y, hy⟩ : ∃ y, y = [x0, x1, x2, x3, x4, x5, x6, x7].getD j 0 := ⟨_, rfl⟩
              have cy : wr.cell? ⟨wo.heap.size, 3 + j, none⟩ = some (.float .f32 y) := by
                rw [IG.out.cell, hy]
                rcases (show j = 0 ∨ j = 1 ∨ j = 2 ∨ j = 3 ∨ j = 4 ∨ j = 5 ∨ j = 6 ∨ j = 7 by omega) with rfl | rfl | rfl | rfl | rfl | rfl | rfl | rfl <;> rfl
              have ca : wr.cell? ⟨wo.heap.size, 11, none⟩ = some (.int .i64 (aa : Int)) := by rw [IG.out.cell]; rfl
              rw [← hy] at hsu
              clear hy
              obtain ⟨S, hS⟩ : ∃ S, S = putGo s aa [x0, x1, x2, x3, x4, x5, x6, x7] j := ⟨_, rfl⟩
              rw [← hS] at IS IT hle hsu
              clear hS
              have hLS : S.1.length = N := hle.1.trans HL1.out.1
              have hLT : S.2.length = N := hle.2.trans HL1.out.2
              obtain ⟨bv, hbv⟩ : ∃ bv, bv = S.2[aa + j]'(by omega) := ⟨_, rfl⟩
              have cT : wr.cell? ⟨gT, aa + j, none⟩ = some (.bool bv) := by
                rw [IT.out.cell, hbv]; simp [bools, List.getElem?_eq_getElem (show aa + j < S.2.length by omega)]
              obtain ⟨vS, cS⟩ : ∃ v, wr.cell? ⟨gS, aa + j, none⟩ = some v := ⟨_, IS.out.cellAt (by simp [flts]; omega)⟩
              have fS := IS.out.free (aa + j)
              have fT := IT.out.free (aa + j)
              have hgd : S.2.getD (aa + j) true = bv := by rw [hbv]; simp [List.getD, List.getElem?_eq_getElem (show aa + j < S.2.length by omega)]
              have hI1 : IntKind.i64.wrap ((aa : Int) + (j : Int)) = (aa : Int) + (j : Int) := IntWalk.i64_in _ (by omega)
              have hI2 : ((aa : Int) + (j : Int)).toNat = aa + j := by omega
              have hI3 : 0 ≤ (aa : Int) + (j : Int) := by omega
              have hI4 : (aa : Int) + (j : Int) < (N : Int) := by omega
              have hI5 : (j : Int) < 8 := by omega
              have hI6 : (0 : Int) ≤ (j : Int) := by omega
              have Hsu := Lib.hid hsu; have Hgd := Lib.hid hgd
              clear hle hsu hLS hLT hbv hgd
              cases bv
              · have Hs2 : Hid (putGo s aa [x0, x1, x2, x3, x4, x5, x6, x7] (j + 1) = (S.1.set (aa + j) y, S.2.set (aa + j) true)) := by unfold Hid; rw [Hsu.out, put1, if_neg (by rw [Hgd.out]; decide)]
                have hn1 : Hid (gS ≠ wo.heap.size ∧ gT ≠ wo.heap.size ∧ gS ≠ gT) := by unfold Hid; have := hz1.out; have := hz2.out; have := hz4.out; omega
                have n1 : ¬ gS = gT := hn1.out.2.2
                have n2 : ¬ gT = gS := fun h => hn1.out.2.2 h.symm
                have hnp : Hid (gP ≠ gS ∧ gP ≠ gT) := by unfold Hid; have := hz1.out; have := hz2.out; omega
                have S1 : Hid (wr.cell? ⟨wo.heap.size, 11, none⟩ = some (.int .i64 (aa : Int)) ∧ wr.cell? ⟨wo.heap.size, 3 + j, none⟩ = some (.float .f32 y)) := ⟨ca, cy⟩
                have hK : ∀ (W : World) v, (W.cell? ⟨wo.heap.size, 11, none⟩ = some (.int .i64 (aa : Int)) ∧ W.cell? ⟨wo.heap.size, 3 + j, none⟩ = some (.float .f32 y)) → ((W.setCell ⟨gS, aa + j, none⟩ v).cell? ⟨wo.heap.size, 11, none⟩ = some (.int .i64 (aa : Int)) ∧ (W.setCell ⟨gS, aa + j, none⟩ v).cell? ⟨wo.heap.size, 3 + j, none⟩ = some (.float .f32 y)) := fun W v h => ⟨(World.cell?_setCell_far W _ _ v hn1.out.1).trans h.1, (World.cell?_setCell_far W _ _ v hn1.out.1).trans h.2⟩
                have hK2 : ∀ (W : World) v, (W.cell? ⟨wo.heap.size, 11, none⟩ = some (.int .i64 (aa : Int)) ∧ W.cell? ⟨wo.heap.size, 3 + j, none⟩ = some (.float .f32 y)) → ((W.setCell ⟨gT, aa + j, none⟩ v).cell? ⟨wo.heap.size, 11, none⟩ = some (.int .i64 (aa : Int)) ∧ (W.setCell ⟨gT, aa + j, none⟩ v).cell? ⟨wo.heap.size, 3 + j, none⟩ = some (.float .f32 y)) := fun W v h => ⟨(World.cell?_setCell_far W _ _ v hn1.out.2.1).trans h.1, (World.cell?_setCell_far W _ _ v hn1.out.2.1).trans h.2⟩
                have HK := Lib.hid hK; have HK2 := Lib.hid hK2
                clear hK hK2
                go_wp2
                go_region_held3 (fun w' => w'.cell? ⟨wo.heap.size, 11, none⟩ = some (.int .i64 (aa : Int)) ∧ w'.cell? ⟨wo.heap.size, 3 + j, none⟩ = some (.float .f32 y)) (first | assumption | exact S1.out | exact HK.out _ _ (by assumption) | exact HK2.out _ _ (by assumption) | exact HK.out _ _ S1.out | exact HK2.out _ _ S1.out) (fail)
                all_goals go_wp2
                all_goals go_roundw
                all_goals first
                  | (exact ⟨j + 1, by omega, by go_num, by rw [Hs2.out]; show Row _ _ _ _; simp only [flts, List.map_set]; exact ((IS.out.set (aa + j) (.float .f32 y)).far hn1.out.2.2 (.bool true)), by rw [Hs2.out]; show Row _ _ _ _; simp only [bools, List.map_set]; exact ((IT.out.far (Ne.symm hn1.out.2.2) (.float .f32 y)).set (aa + j) (.bool true)), (IP.out.far hnp.out.1 _).far hnp.out.2 _, (IG.out.far (Ne.symm hn1.out.1) _).far (Ne.symm hn1.out.2.1) _, ((IB.out.drew.setCell hz1.out.1 _).setCell (by have := hz1.out; simp; omega) _)⟩)
                  | (exact ⟨j + 1, by omega, by go_num, by rw [Hs2.out]; show Row _ _ _ _; simp only [flts, List.map_set]; exact ((IS.out.far hn1.out.2.2 (.bool true)).set (aa + j) (.float .f32 y)), by rw [Hs2.out]; show Row _ _ _ _; simp only [bools, List.map_set]; exact ((IT.out.set (aa + j) (.bool true)).far (Ne.symm hn1.out.2.2) (.float .f32 y)), (IP.out.far hnp.out.2 _).far hnp.out.1 _, (IG.out.far (Ne.symm hn1.out.2.1) _).far (Ne.symm hn1.out.1) _, ((IB.out.drew.setCell (by have := hz1.out; simp; omega) _).setCell hz1.out.1 _)⟩)
                  | (simp [intOf]; omega)
              · have Hs2 : Hid (putGo s aa [x0, x1, x2, x3, x4, x5, x6, x7] (j + 1) = S) := by unfold Hid; rw [Hsu.out, put1, if_pos Hgd.out]
                go_wp2
                go_roundw
                case rel => exact ⟨j + 1, by omega, by go_num, by rw [Hs2.out]; exact IS, by rw [Hs2.out]; exact IT, IP, IG, IB⟩
                case measure => simp [intOf]; omega
            · obtain rfl : j = lm := by omega
              go_wp2
              go_roundw
              case rel => exact ⟨k + 1, by omega, by go_num, by rw [HSU.out]; exact IS, by rw [HSU.out]; exact IT, IP, IB⟩
              case measure => simp [intOf]; omega
      · have hne : (st != station) = true := by simpa using hstn
        have HSU : Hid (asmK station N ps (k + 1) = s) := by unfold Hid; rw [hsucc, asm1, if_neg (by simpa using hstn)]
        clear hsucc hstn haa hok hl1
        go_wp2
        go_roundw
        case rel => exact ⟨k + 1, by omega, by go_num, by rw [HSU.out]; exact HNS, by rw [HSU.out]; exact HNT, HNP, HNB⟩
        case measure => simp [intOf]; omega
    · obtain rfl : k = ps.length := by omega
      have hfin : asmK station N ps ps.length = asmL station N ps := by unfold asmK; rw [List.take_length]
      rw [hfin] at HS HT
      have hlT := (asmL_len station N ps).2
      have hlT : N = (asmL station N ps).2.length := by simpa using hlT.symm
      have HLT := Lib.hid hlT
      have HSW := Lib.hid (spansWhere_any (some ⟨gT, 0, none⟩) N N (asmL station N ps).2 wo (Rd.row HT.out) hlT (by rw [← hlT]; exact hN))
      clear hfin hlT
      go_wp2_with fail
      refine HSW.out.mono ?_
      rintro e w5 ⟨v, rfl, ho5, hb5⟩
      have HS5 := Lib.hid (HS.out.old hb5)
      have HO5 := Lib.hid (owns_mono ho5 HB.out.size)
      have HB5 := Lib.hid (HB.out.trans (hb5.mono HB.out.size))
      clear ho5 hb5
      go_wp2
      go_ret3
      exact ⟨gS, v, rfl, HS5.out, HO5.out, hz1.out.1, HB5.out⟩
end Go.Proofs.YtphgfiihccofnaaGreatDoor

/- Contracts: a recording of the reference as one of the program. -/
namespace Go.Proofs.YtphgfiihccofnaaGreatDoor
set_option linter.all false
open Go.RowKit Go.Fl
set_option linter.unusedVariables false
set_option linter.unusedSimpArgs false

theorem owns_cap {w : World} {B : Nat} {e : TypeId} {s n m c : Nat} {A : Option Addr} {vs : List Value} (h : w.ownsRow B e s (.slice A n c) m vs) : n ≤ c ∧ (A = none → c = 0) := by
  rcases h.2 with ⟨h1, hn⟩ | ⟨g, cap, cur, h1, _, _, hcap, _⟩
  · cases h1; exact ⟨Nat.le_refl _, fun _ => rfl⟩
  · cases h1; exact ⟨hcap, fun h => by cases h⟩
set_option maxRecDepth 100000 in
set_option maxHeartbeats 4000000 in
theorem given_ok (st sp : Int) (A B : Option Addr) (c d : Nat) (xs : List Nat) (ms : List (Int × ByteArray)) (w : World) (hA : Rd w A (flts xs)) (hB : Rd w B (markC ms)) (hx : xs.length ≤ 1000000) (hm : ms.length ≤ 1000000) (hc : A = none → c = 0) :
    Calls Tryz.prog 11 #[.agg #[.int .i64 st, .int .i64 sp, .slice A xs.length c, .slice B ms.length d]] w fun e w' => ∃ A' c' B' d', e = .returned (.agg #[.int .i64 st, .int .i64 sp, .slice A' xs.length c', .slice B' ms.length d']) ∧ Rd w' A' (flts xs) ∧ Rd w' B' (markC ms) ∧ Below w.heap.size w w' ∧ xs.length ≤ c' ∧ (A' = none → c' = 0) := by
  have HA : Hid (∀ W, Below w.heap.size w W → Rd W A (flts xs)) := fun W h => hA.below h
  have HB : Hid (∀ W, Below w.heap.size w W → Rd W B (markC ms)) := fun W h => hB.below h
  clear hA hB
  have R0 := (Row.new w 25 [.int .i64 st, .int .i64 sp, .slice A xs.length c, .slice B ms.length d]).alloc (.cells zero4.toArray 32)
  have R1 := Row.new (w.alloc (.cells #[.int .i64 st, .int .i64 sp, .slice A xs.length c, .slice B ms.length d] 25)) 32 zero4
  rw [World.size_alloc] at R1
  have RB := ((Below.refl w.heap.size w).alloc (Nat.le_refl _) (.cells #[.int .i64 st, .int .i64 sp, .slice A xs.length c, .slice B ms.length d] 25)).alloc (by simp) (.cells zero4.toArray 32)
  go_enter Tryz.func11, Tryz.ntmps11
  go_upto_region 1 with fail
  refine genH (w0 := w) w.heap.size (w.heap.size + 1) _ _ _ _ R0 R1 RB ?_
  clear R0 R1 RB
  intro W R0 R1 RB
  have q0 := R0.cell 0; have q1 := R0.cell 1; have q2 := R0.cell 2
  simp only [List.getElem?_cons_succ, List.getElem?_cons_zero] at q0 q1 q2
  have hsz := R1.lt
  have hsz0 := R0.lt
  have HRB := Lib.hid RB; have HR0 := Lib.hid R0; have HR1 := Lib.hid R1
  have HF : Hid (∀ W', Below W.heap.size W W' → Calls Tryz.prog 23 #[.slice A xs.length c] W' fun e w' => ∃ A' c', e = .returned (.slice A' xs.length c') ∧ w'.ownsRow W'.heap.size 90 1 (.slice A' xs.length c') xs.length (flts xs) ∧ Below W'.heap.size W' w' ∧ w'.cell? ⟨w.heap.size, 0, none⟩ = some (.int .i64 st) ∧ w'.cell? ⟨w.heap.size, 1, none⟩ = some (.int .i64 sp)) := fun W' h =>
    (floats_any A xs.length c xs W' (HA.out _ (HRB.out.trans (h.mono HRB.out.size))) rfl hc (by omega)).mono fun e w' ⟨v, h1, h2, h3⟩ => by
      obtain ⟨A', c', rfl, -⟩ := owned_slice h2
      have hb := h.trans (h3.mono h.size)
      exact ⟨A', c', h1, h2, h3, (HR0.out.old hb).cell 0, (HR0.out.old hb).cell 1⟩
  clear RB R0 R1
  go_cut [3] (fun s3 wx => ∃ (g : Nat) (A' : Option Addr) (c' : Nat), s3 = .pointer (some ⟨g, 0, none⟩) ∧ Row wx g 32 [.int .i64 st, .int .i64 sp, .slice A' xs.length c', .slice none 0 0] ∧ (Value.slice A' xs.length c').ownBlock ≠ some g ∧ wx.ownsRow W.heap.size 90 1 (.slice A' xs.length c') xs.length (flts xs) ∧ W.heap.size ≤ g ∧ Below W.heap.size W wx)
  case first =>
    refine wp_region_held_drew (S := fun w' => w'.cell? ⟨w.heap.size, 0, none⟩ = some (.int .i64 st) ∧ w'.cell? ⟨w.heap.size, 1, none⟩ = some (.int .i64 sp) ∧ w'.cell? ⟨w.heap.size, 2, none⟩ = some (.slice A xs.length c) ∧ Below W.heap.size W w') (by kernel_rfl) ?_ (fun hHeld => ?_)
    · exact ⟨HR0.out.cell 0, HR0.out.cell 1, HR0.out.cell 2, (Below.refl _ _).drew⟩
    refine wpAnyH_take (i := 0) (v := ?_) rfl (by kernel_rfl) (by kernel_rfl) (by kernel_rfl) (fun _ _ _ h => h) (Or.inl ⟨by kernel_rfl, ?_⟩) hHeld ?_
    rotate_left
    · intro w1 hSw; (try dsimp only at hSw); go_simp <;> with_reducible rfl
    try simp only [Act.put, List.setIfInBounds_toArray, List.set_cons_zero, List.set_cons_succ]
    refine wpAnyH_take (i := 1) (v := ?_) rfl (by kernel_rfl) (by kernel_rfl) (by kernel_rfl) (fun _ _ _ h => h) (Or.inl ⟨by kernel_rfl, ?_⟩) hHeld ?_
    rotate_left
    · intro w1 hSw; (try dsimp only at hSw); go_simp <;> with_reducible rfl
    try simp only [Act.put, List.setIfInBounds_toArray, List.set_cons_zero, List.set_cons_succ]
    refine wpAnyH_take (i := 2) (v := ?_) rfl (by kernel_rfl) (by kernel_rfl) (by kernel_rfl) (fun _ _ _ h => h) (Or.inl ⟨by kernel_rfl, ?_⟩) hHeld ?_
    rotate_left
    · intro w1 hSw; (try dsimp only at hSw); go_simp <;> with_reducible rfl
    try simp only [Act.put, List.setIfInBounds_toArray, List.set_cons_zero, List.set_cons_succ]
    refine wpAnyH_take (i := 3) (v := ?_) rfl (by kernel_rfl) (by kernel_rfl) (by kernel_rfl) (fun _ _ _ h => h) (Or.inl ⟨by kernel_rfl, ?_⟩) hHeld ?_
    rotate_left
    · intro w1 hSw; (try dsimp only at hSw); go_simp <;> with_reducible rfl
    try simp only [Act.put, List.setIfInBounds_toArray, List.set_cons_zero, List.set_cons_succ]
    refine wpAnyH_take (i := 4) (v := ?_) rfl (by kernel_rfl) (by kernel_rfl) (by kernel_rfl) (fun _ _ _ h => h) (Or.inl ⟨by kernel_rfl, ?_⟩) hHeld ?_
    rotate_left
    · intro w1 hSw; (try dsimp only at hSw); go_simp <;> with_reducible rfl
    try simp only [Act.put, List.setIfInBounds_toArray, List.set_cons_zero, List.set_cons_succ]
    refine wpAnyH_take (i := 5) (v := ?_) rfl (by kernel_rfl) (by kernel_rfl) (by kernel_rfl) (fun _ _ _ h => h) (Or.inl ⟨by kernel_rfl, ?_⟩) hHeld ?_
    rotate_left
    · intro w1 hSw; (try dsimp only at hSw); go_simp <;> with_reducible rfl
    try simp only [Act.put, List.setIfInBounds_toArray, List.set_cons_zero, List.set_cons_succ]
    refine wpAnyH_ready (rs := [6, 8]) (by kernel_rfl) (by simp) ?_
    refine AllReadyH.cons rfl (fun K hK => ?_) (AllReadyH.cons rfl (fun K hK => ?_) (AllReadyH.nil))
    ·
      go_simp
      go_at_call 23
      refine (HF.out _ hHeld.2.2.2).mono ?_
      rintro e w2 ⟨A2, c2, rfl, ho2, hb2, -, -⟩
      try go_simp
      refine hK.out _ _ ?_ (fun hHeld => ?_)
      · exact ⟨keepC hHeld.1 hb2, keepC hHeld.2.1 hb2, keepC hHeld.2.2.1 hb2, hHeld.2.2.2.trans ((hb2).mono hHeld.2.2.2.size)⟩
      clear hK K
      try simp only [Act.put, List.setIfInBounds_toArray, List.set_cons_zero, List.set_cons_succ]
      refine wpAnyH_take (i := 7) (oi := { dst := some 13, op := Op.build 32 #[(0, Operand.tmp 7), (1, Operand.tmp 9), (2, Operand.tmp 12)], type := 32, pos := _, after := #[{ on := 1, ground := Ground.data }, { on := 3, ground := Ground.data }, { on := 6, ground := Ground.data }], guard := none }) (v := ?_) rfl (by kernel_rfl) (by kernel_rfl) (by kernel_rfl) (fun _ _ _ h => h) (Or.inl ⟨by kernel_rfl, ?_⟩) hHeld ?_
      rotate_left
      · intro w1 hSw; (try dsimp only at hSw); go_simp <;> with_reducible rfl
      try simp only [Act.put, List.setIfInBounds_toArray, List.set_cons_zero, List.set_cons_succ]
      refine wpAnyH_ready (rs := [8]) (by kernel_rfl) (by simp) ?_
      refine AllReadyH.cons rfl (fun K hK => ?_) (AllReadyH.nil)
      go_simp
      refine hK.out _ _ ?_ (fun hHeld => ?_)
      · exact ⟨keepC hHeld.1 ((Below.refl _ _).alloc (Nat.le_refl _) _), keepC hHeld.2.1 ((Below.refl _ _).alloc (Nat.le_refl _) _), keepC hHeld.2.2.1 ((Below.refl _ _).alloc (Nat.le_refl _) _), hHeld.2.2.2.trans ((((Below.refl _ _).alloc (Nat.le_refl _) _)).mono hHeld.2.2.2.size)⟩
      clear hK K
      try simp only [Act.put, List.setIfInBounds_toArray, List.set_cons_zero, List.set_cons_succ]
      refine wpAnyH_ready (rs := [9]) (by kernel_rfl) (by simp) ?_
      refine AllReadyH.cons rfl (fun K hK => ?_) (AllReadyH.nil)
      have zz := hHeld.2.2.2.size
      rw [World.size_alloc] at zz
      have zw := (((Below.refl _ W).drew.trans hb2)).size
      have hz := Row.new w2 32 zero4
      refine step_store_row rfl 32 _ _ rfl w2.heap.size [.int .i64 st, .int .i64 sp, .slice A2 xs.length c2, .slice none 0 0] rfl rfl 32 zero4 hz (by kernel_rfl) rfl (by simp [Value.oneCell']) ?_
      refine hK.out _ _ ?_ (fun hHeld => ?_)
      · exact ⟨(cell_far _ (by omega)).trans hHeld.1, (cell_far _ (by omega)).trans hHeld.2.1, (cell_far _ (by omega)).trans hHeld.2.2.1, Below.setRow hHeld.2.2.2 (by omega) _⟩
      clear hK K
      try simp only [Act.put, List.setIfInBounds_toArray, List.set_cons_zero, List.set_cons_succ]
      refine wpAnyH_done (by kernel_rfl) ?_ _
      go_wp2_with fail
      go_meet
      have zb : Below W.heap.size W w2 := (Below.refl _ W).drew.trans hb2
      refine ⟨w2.heap.size, A2, c2, rfl, hz.setRow _, fun e => ?_, owns_other w2.heap.size ho2 (fun j hj hne => (setRow_other _ _ _ _ hne).trans (((Below.refl w2.heap.size w2).alloc (Nat.le_refl _) _).block j hj)) (fun e => ?_), zb.size, Below.setRow (zb.alloc zb.size _) zb.size _⟩
      · have := (ho2.lt _ e).2; omega
      · have := (ho2.lt _ e).2; omega
    ·
      go_simp
      refine hK.out _ _ ?_ (fun hHeld => ?_)
      · exact ⟨keepC hHeld.1 ((Below.refl _ _).alloc (Nat.le_refl _) _), keepC hHeld.2.1 ((Below.refl _ _).alloc (Nat.le_refl _) _), keepC hHeld.2.2.1 ((Below.refl _ _).alloc (Nat.le_refl _) _), hHeld.2.2.2.trans ((((Below.refl _ _).alloc (Nat.le_refl _) _)).mono hHeld.2.2.2.size)⟩
      clear hK K
      try simp only [Act.put, List.setIfInBounds_toArray, List.set_cons_zero, List.set_cons_succ]
      refine wpAnyH_ready (rs := [6]) (by kernel_rfl) (by simp) ?_
      refine AllReadyH.cons rfl (fun K hK => ?_) (AllReadyH.nil)
      go_simp
      go_at_call 23
      refine (HF.out _ hHeld.2.2.2).mono ?_
      rintro e w2 ⟨A2, c2, rfl, ho2, hb2, -, -⟩
      try go_simp
      refine hK.out _ _ ?_ (fun hHeld => ?_)
      · exact ⟨keepC hHeld.1 hb2, keepC hHeld.2.1 hb2, keepC hHeld.2.2.1 hb2, hHeld.2.2.2.trans ((hb2).mono hHeld.2.2.2.size)⟩
      clear hK K
      try simp only [Act.put, List.setIfInBounds_toArray, List.set_cons_zero, List.set_cons_succ]
      refine wpAnyH_take (i := 7) (oi := { dst := some 13, op := Op.build 32 #[(0, Operand.tmp 7), (1, Operand.tmp 9), (2, Operand.tmp 12)], type := 32, pos := _, after := #[{ on := 1, ground := Ground.data }, { on := 3, ground := Ground.data }, { on := 6, ground := Ground.data }], guard := none }) (v := ?_) rfl (by kernel_rfl) (by kernel_rfl) (by kernel_rfl) (fun _ _ _ h => h) (Or.inl ⟨by kernel_rfl, ?_⟩) hHeld ?_
      rotate_left
      · intro w1 hSw; (try dsimp only at hSw); go_simp <;> with_reducible rfl
      try simp only [Act.put, List.setIfInBounds_toArray, List.set_cons_zero, List.set_cons_succ]
      refine wpAnyH_ready (rs := [9]) (by kernel_rfl) (by simp) ?_
      refine AllReadyH.cons rfl (fun K hK => ?_) (AllReadyH.nil)
      have zz := hHeld.2.2.2.size
      have hz : Row w2 W.heap.size 32 zero4 := Row.old (w := (W.drew.alloc (.cells zero4.toArray 32))) (Row.new W.drew 32 zero4) hb2
      refine step_store_row rfl 32 _ _ rfl W.heap.size [.int .i64 st, .int .i64 sp, .slice A2 xs.length c2, .slice none 0 0] rfl rfl 32 zero4 hz (by kernel_rfl) rfl (by simp [Value.oneCell']) ?_
      refine hK.out _ _ ?_ (fun hHeld => ?_)
      · exact ⟨(cell_far _ (by omega)).trans hHeld.1, (cell_far _ (by omega)).trans hHeld.2.1, (cell_far _ (by omega)).trans hHeld.2.2.1, Below.setRow hHeld.2.2.2 (by omega) _⟩
      clear hK K
      try simp only [Act.put, List.setIfInBounds_toArray, List.set_cons_zero, List.set_cons_succ]
      refine wpAnyH_done (by kernel_rfl) ?_ _
      go_wp2_with fail
      go_meet
      have zb : Below W.heap.size W w2 := ((Below.refl _ W).drew.alloc (Nat.le_refl _) _).trans (hb2.mono (by simp))
      have zs : W.heap.size < (W.drew.alloc (.cells zero4.toArray 32)).heap.size := by rw [World.size_alloc]; exact Nat.lt_succ_self _
      refine ⟨W.heap.size, A2, c2, rfl, hz.setRow _, fun e => ?_, owns_far ho2 _ _ zs (Nat.le_of_lt zs), Nat.le_refl _, Below.setRow zb (Nat.le_refl _) _⟩
      have h1 := (ho2.lt _ e).1
      exact absurd (Nat.lt_of_lt_of_le zs h1) (Nat.lt_irrefl _)
  case rest =>
    obtain ⟨g, A2, c2, rfl, hrow, hne, ho, hg, hbw⟩ := hcut
    have HB1 := Lib.hid (HB.out _ (HRB.out.trans (hbw.mono HRB.out.size)))
    have hr3 := (HR0.out.old hbw).cell 3
    simp only [List.getElem?_cons_succ, List.getElem?_cons_zero] at hr3
    have HBx := Lib.hid (HRB.out.trans (hbw.mono HRB.out.size))
    have HRow := Lib.hid hrow; have HO := Lib.hid ho; have HNe := Lib.hid hne
    have hgs : g < wc.heap.size := hrow.lt
    have HT1 := Lib.hid (HR1.out.old hbw)
    have HGW := Lib.hid hsz
    have HGS : Hid (w.heap.size + 1 < g ∧ g < wc.heap.size) := ⟨by omega, hgs⟩
    obtain ⟨im, him0, him1, him2, him3⟩ := info_parts info158
    clear hrow ho hne hbw hg hgs hsz hsz0 q0 q1 q2 HF HR0 HR1 HRB
    go_wp2
    go_loopg [17] ms.length (fun gg i wr => ∃ (k : Nat) (u : Value), k ≤ ms.length ∧ i = .int .i64 k ∧ gg = ms.length - k ∧ Hid (wr.ownsRow wc.heap.size 120 2 u k (markC (ms.take k))) ∧ Hid (Row wr g 32 [.int .i64 st, .int .i64 sp, .slice A2 xs.length c2, u]) ∧ Hid (∀ j, j < wc.heap.size → j ≠ g → wr.heap[j]? = wc.heap[j]?) ∧ Hid (Below w.heap.size w wr) ∧ Hid (wc.heap.size ≤ wr.heap.size))
    case atStart => exact ⟨0, .slice none 0 0, Nat.zero_le _, rfl, rfl, World.ownsRow_nil _ _ _ _, HRow, fun j _ _ => rfl, HBx, Nat.le_refl _⟩
    case round =>
      obtain ⟨k, u, hk, rfl, hgk, Ho, KR, KK, KB, KS⟩ := hrel
      subst hgk
      have hRdB : Rd wr B (markC ms) := HB.out _ KB.out
      by_cases hlt : k < ms.length
      · obtain ⟨b, off, hBb, hc1, hc2⟩ := Rd.mark hRdB hlt
        subst hBb
        obtain ⟨ix, hix⟩ : ∃ ix, ix = ms[k].1 := ⟨_, rfl⟩
        obtain ⟨nm, hnm⟩ : ∃ nm, nm = ms[k].2 := ⟨_, rfl⟩
        rw [← hix] at hc1; rw [← hnm] at hc2
        have HT : Hid (markC (ms.take (k + 1)) = markC (ms.take k) ++ [.int .i64 ix, .string nm]) := by
          unfold Hid; rw [List.take_succ_eq_append_getElem hlt, markC_app, hix, hnm]; simp [markC]
        clear hix hnm
        have N0 := Lib.hid (KR.out.alloc (.cells #[.int .i64 ix, .string nm] 83))
        have No := Lib.hid (Ho.out.alloc (.cells #[.int .i64 ix, .string nm] 83))
        have n3 := N0.out.cell 3
        simp only [List.getElem?_cons_succ, List.getElem?_cons_zero] at n3
        have hs1 := KS.out
        have hs2 := HGS.out.2
        have hs3 : g < wr.heap.size := by omega
        go_wp2_with (at_builtin; refine wpList_append_own_at _ rfl _ _ 30 rfl wc.heap.size 120 im (.agg #[.int .i64 0, .string ⟨#[]⟩]) 2 24 Tryz.underlying30 him0 him1 him2 him3 rfl (by decide) _ _ _ rfl (No.out.alloc _) ⟨wr.heap.size + 1, 0, none⟩ 1 1 [.int .i64 ix, .string nm] rfl rfl (news2 _ _ _ _ _ ?c1) ?c2 ?c3 ?c4 ?c5 ?_)
        case c1 => simp
        case c2 => simp [Value.oneCell']
        case c3 => unfold maxLen; omega
        case c4 => omega
        case c5 => simp; omega
        intro v' w3 ho hg3 _ hat
        have hst : Step (wr.alloc (.cells #[.int .i64 ix, .string nm] 83)) w3 u v' := Step.of_alloc hg3 (by rw [World.size_alloc, World.size_alloc]; exact hat)
        have hb3 := hst.below No.out (by simp; omega)
        have Hb3 : Hid (Below wc.heap.size wr w3) := (((Below.refl wc.heap.size wr).alloc hs1 _)).trans hb3
        have hr3 : Row w3 g 32 [.int .i64 st, .int .i64 sp, .slice A2 xs.length c2, u] := KR.out.below Hb3.out hs2
        have HR3 := Lib.hid hr3
        have m3 := hr3.cell 3
        have mf := hr3.free 3
        simp only [List.getElem?_cons_succ, List.getElem?_cons_zero] at m3
        have Ho3 : Hid (w3.ownsRow wc.heap.size 120 2 v' (k + 1) (markC (ms.take (k + 1)))) := by
          unfold Hid; rw [HT.out]; exact ho
        clear ho hg3 hat hst hb3 hr3 n3 hc1 hc2
        obtain ⟨A3, c3, rfl, -⟩ := owned_slice Ho3.out
        obtain ⟨v', hv'⟩ : ∃ v', v' = Value.slice A3 (k + 1) c3 := ⟨_, rfl⟩
        go_wp2
        go_roundg (ms.length - (k + 1))
        case measure => omega
        case rel =>
          have hz := Hb3.out.size
          rw [← hv'] at Ho3 ⊢
          refine ⟨k + 1, v', by omega, by go_num, rfl, ?_, HR3.out.set 3 v', ?_, ?_, ?_⟩
          · exact owns_other g Ho3.out (fun j _ hne => heap_setCell_other w3 ⟨g, 3, none⟩ j v' hne) (fun e => by have := (Ho3.out.lt _ e).1; omega)
          · exact fun j hj hne => ((heap_setCell_other w3 ⟨g, 3, none⟩ j v' hne).trans (Hb3.out.block j hj)).trans (KK.out j hj hne)
          · have h0 := HGS.out.1
            have h1 : Below w.heap.size w w3 := KB.out.trans (Hb3.out.mono (by omega))
            exact h1.setCell (p := ⟨g, 3, none⟩) (by show w.heap.size ≤ g; omega) v'
          · have h1 : Below wc.heap.size wr w3 := Hb3.out
            have h2 := ((Below.refl 0 w3).setCell (p := ⟨g, 3, none⟩) (Nat.zero_le _) v').size
            show wc.heap.size ≤ _
            omega
      · obtain rfl : k = ms.length := by omega
        obtain ⟨B2, d2, rfl, -⟩ := owned_slice Ho.out
        have hT1 : Row wr (w.heap.size + 1) 32 zero4 := (KK.out _ HT1.out.lt (by have := HGS.out.1; omega)).trans HT1.out
        have HT2 := Lib.hid hT1
        have h1 := HGW.out; have h2 := HGS.out
        clear hT1
        go_wp2_with (first
          | (refine wpList_load_row rfl 32 _ rfl g rfl 32 #[.int .i64 st, .int .i64 sp, .slice A2 xs.length c2, .slice B2 ms.length d2] (0, 0) _ KR.out Tryz.underlying32 rfl ?_ ?_; (kernel_rfl))
          | (refine wpList_store_row rfl 32 _ _ rfl (w.heap.size + 1) #[.int .i64 st, .int .i64 sp, .slice A2 xs.length c2, .slice B2 ms.length d2] rfl rfl 32 _ HT2.out ?_ ?_ ?_ ?_; (kernel_rfl); (rfl); (simp [Value.oneCell'])))
        have hrow : Row (wr.setRow (w.heap.size + 1) [Value.int .i64 st, .int .i64 sp, .slice A2 xs.length c2, .slice B2 ms.length d2].toArray) (w.heap.size + 1) 32 [.int .i64 st, .int .i64 sp, .slice A2 xs.length c2, .slice B2 ms.length d2] := HT2.out.setRow _
        refine bodyPost_ret (results_row1 rfl _ _ (w.heap.size + 1) 32 _ (0, 0) _ rfl hrow Tryz.underlying32 rfl (by kernel_rfl)) rfl ⟨A2, c2, B2, d2, rfl, ?_, ?_, ?_, owns_cap HO.out⟩
        · exact owned_rd (owns_far (owns_other g HO.out (fun j hj hne => KK.out j hj hne) HNe.out) _ _ h1 (Nat.zero_le _) (B' := 0))
        · have := Ho.out; rw [List.take_of_length_le (Nat.le_refl _)] at this
          exact owned_rd (owns_far this _ _ (by omega) (Nat.zero_le _) (B' := 0))
        · exact Below.setRow KB.out (by omega) _
end Go.Proofs.YtphgfiihccofnaaGreatDoor
