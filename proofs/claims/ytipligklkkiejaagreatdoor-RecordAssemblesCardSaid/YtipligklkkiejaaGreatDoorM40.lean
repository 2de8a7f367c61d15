import Derived.Test.YtipligklkkiejaaGreatDoorM24
import Derived.Test.YtipligklkkiejaaGreatDoorM38
import Derived.Test.YtipligklkkiejaaGreatDoorM37
import Derived.Test.YtipligklkkiejaaGreatDoorM17
import Derived.Deep.LoopGhost
/- Contracts: packets are assembled by the reference. -/
namespace Go.Proofs.YtipligklkkiejaaGreatDoor
set_option linter.all false
open Go.RowKit Go.Fl
set_option linter.unusedVariables false
set_option linter.unusedSimpArgs false

def hit (station i : Int) (p : PkT) : Bool := decide (p.1 = station ∧ 0 ≤ i - 8 * p.2.1 ∧ i - 8 * p.2.1 < p.2.2.1)
def hitX (station i : Int) : List PkT → Option Nat
  | [] => none
  | p :: ps => if hit station i p then some (p.2.2.2.getD (i - 8 * p.2.1).toNat 0) else hitX station i ps
def orN : Option Nat → Option Nat → Option Nat
  | some x, _ => some x
  | none, q => q
theorem hitX_app (station i : Int) (p : PkT) : ∀ ps : List PkT, hitX station i (ps ++ [p]) = orN (hitX station i ps) (if hit station i p then some (p.2.2.2.getD (i - 8 * p.2.1).toNat 0) else none)
  | [] => by simp [hitX, orN]
  | q :: ps => by
    rw [List.cons_append, hitX, hitX, hitX_app station i p ps]
    split <;> simp [orN]
theorem hitX_more (station i : Int) : ∀ (ps qs : List PkT) (x : Nat), hitX station i ps = some x → hitX station i (ps ++ qs) = some x
  | [], qs, x, h => by simp [hitX] at h
  | p :: ps, qs, x, h => by
    rw [List.cons_append, hitX]
    rw [hitX] at h
    split at h
    · rename_i h1; rw [if_pos h1]; exact h
    · rename_i h1; rw [if_neg h1]; exact hitX_more station i ps qs x h
theorem hitX_stop {station i : Int} {ps : List PkT} {k x : Nat} (h : some x = hitX station i (ps.take k)) : hitX station i ps = some x := by
  have := hitX_more station i (ps.take k) (ps.drop k) x h.symm
  rwa [List.take_append_drop] at this
theorem hitX_step {station i : Int} {ps : List PkT} {k : Nat} (hk : k < ps.length) (h : none = hitX station i (ps.take k)) : hitX station i (ps.take (k + 1)) = if hit station i ps[k] then some (ps[k].2.2.2.getD (i - 8 * ps[k].2.1).toNat 0) else none := by
  rw [List.take_succ_eq_append_getElem hk, hitX_app, ← h]; rfl
def outL (station : Int) (N : Nat) (ps : List PkT) : List Nat := (List.range N).map fun (i : Nat) => (hitX station (i : Int) ps).getD 0
def thL (station : Int) (N : Nat) (ps : List PkT) : List Bool := (List.range N).map fun (i : Nat) => (hitX station (i : Int) ps).isSome
theorem outL_length (station : Int) (N : Nat) (ps : List PkT) : (outL station N ps).length = N := by simp [outL]
theorem thL_length (station : Int) (N : Nat) (ps : List PkT) : (thL station N ps).length = N := by simp [thL]
theorem thL_get (station : Int) (N : Nat) (ps : List PkT) (n : Nat) (h : n < N) : (thL station N ps)[n]'(by rw [thL_length]; exact h) = (hitX station n ps).isSome := by simp [thL]
theorem outL_take (station : Int) (N : Nat) (ps : List PkT) (n : Nat) (h : n < N) : (outL station N ps).take (n + 1) = (outL station N ps).take n ++ [(hitX station n ps).getD 0] := by
  rw [List.take_succ_eq_append_getElem (by rw [outL_length]; exact h)]; simp [outL]
/-- what a round of the reference has -/
def AsmR (w : World) (station : Int) (N : Nat) (ps : List PkT) (n : Nat) (v u : Value) (wr : World) : Prop :=
  ∃ sp, sp.length ≤ n ∧ gapsGo ((thL station N ps).drop n) n sp = gapsL (thL station N ps) ∧ wr.ownsRow w.heap.size 24 1 v n (flts ((outL station N ps).take n)) ∧
    wr.ownsRow w.heap.size 93 2 u sp.length (spanC sp) ∧ (v.ownBlock = none ∨ v.ownBlock ≠ u.ownBlock) ∧ Below w.heap.size w wr

set_option maxRecDepth 100000 in
set_option maxHeartbeats 4000000 in
theorem assembledR_ok (A : Option Addr) (m c : Nat) (ps : List PkT) (station : Int) (N : Nat) (w : World) (hA : Rd w A (pksC ps)) (h8 : pks8 ps) (hm : m = ps.length) (hv : ∀ p ∈ ps, (0 ≤ p.2.1 ∧ p.2.1 ≤ 65535) ∧ (0 ≤ p.2.2.1 ∧ p.2.2.1 ≤ 8)) (hl : ps.length ≤ 1024) (hN : N ≤ 4096) :
    Calls Tryz.prog 27 #[.slice A m c, .int .i64 station, .int .i64 (N : Int)] w fun e w' => ∃ v u, e = .returned (.tuple #[v, u]) ∧ w'.ownsRow w.heap.size 24 1 v N (flts (outL station N ps)) ∧ w'.ownsRow w.heap.size 93 2 u (gapsL (thL station N ps)).length (spanC (gapsL (thL station N ps))) ∧ Below w.heap.size w w' := by
  subst hm
  have HA := Lib.hid hA; have H8 := Lib.hid h8; have HV := Lib.hid hv
  clear hA h8 hv
  obtain ⟨i0, hi, hz0, hz1, hz2⟩ := info_parts info37
  go_enter Tryz.func27, Tryz.ntmps27
  go_wp2
  go_loopg [8, 9, 10] N (fun g v u i wr => ∃ n : Nat, n ≤ N ∧ i = .int .i64 n ∧ g = N - n ∧ Hid (AsmR w station N ps n v u wr))
  case atStart => exact ⟨0, Nat.zero_le _, rfl, rfl, [], Nat.le_refl _, rfl, World.ownsRow_nil _ _ _ _, World.ownsRow_nil _ _ _ _, .inl rfl, Below.refl _ _⟩
  case round =>
    obtain ⟨n, hn, rfl, hgk, HI⟩ := hrel
    obtain ⟨wo, rfl⟩ : ∃ wo : World, wo = wr := ⟨_, rfl⟩
    by_cases hlt : n < N
    · obtain ⟨sp, hsp, hgo, hvv, huu, hdd, hB⟩ := HI.out
      have i1 : (n : Int) < (N : Int) := by omega
      have HAo := Lib.hid (HA.out.below hB)
      have Hsp := Lib.hid hsp; have Hgo := Lib.hid hgo; have Hv := Lib.hid hvv; have Hu := Lib.hid huu; have Hd := Lib.hid hdd; have HB := Lib.hid hB
      clear hsp hgo hvv huu hdd hB HI
      go_wp2
      go_loopw [11, 12, 13] (fun f x i W => ∃ k : Nat, k ≤ ps.length ∧ i = .int .i64 k ∧ ∃ o : Option Nat, Hid (o = hitX station n (ps.take k)) ∧ f = .bool o.isSome ∧ x = .float .f32 (o.getD 0) ∧ ∃ q, W = wo.drewN q) (fun _ _ i _ => ps.length - (intOf i).toNat)
      case atStart => exact ⟨0, Nat.zero_le _, rfl, none, rfl, rfl, rfl, 0, rfl⟩
      case round =>
        obtain ⟨k, hk, rfl, o, HO, rfl, rfl, q, rfl⟩ := hrel
        by_cases hkl : k < ps.length
        · have i2 : (k : Int) < (ps.length : Int) := by omega
          cases o with
          | some y =>
            have HF : Hid (hitX station n ps = some y) := hitX_stop HO.out
            clear HO
            simp only [Option.isSome_some, Option.getD_some]
            have HX : Hid ((outL station N ps).take (n + 1) = (outL station N ps).take n ++ [y]) := by
              unfold Hid; rw [outL_take _ _ _ _ hlt, HF.out]; rfl
            have HT : Hid (gapsGo ((thL station N ps).drop n) n sp = gapsGo ((thL station N ps).drop (n + 1)) (n + 1) (sp)) := by
              unfold Hid; rw [gapsGo_drop (by rw [thL_length]; exact hlt), thL_get _ _ _ _ hlt, HF.out]; rfl
            have Hv' := Lib.hid (owns_below Hv.out (below_drewN (Below.refl _ _) q))
            have Hu' := Lib.hid (owns_below Hu.out (below_drewN (Below.refl _ _) q))
            have HB' := Lib.hid (below_drewN HB.out q)
            have Hd2 := Lib.hid (dis_symm Hd.out)
            have Hsz : Hid (w.heap.size ≤ (wo.drewN q).heap.size) := HB'.out.size
            have Hgo2 := Lib.hid (HT.out.symm.trans Hgo.out)
            clear HF HT
            generalize hwd : wo.drewN q = wd at *
            clear hwd
            go_wp2_with (at_builtin; refine wpList_append_own_at _ rfl _ _ 59 rfl w.heap.size 24 i0 (.float .f32 0) 1 4 Tryz.underlying59 hi hz0 hz1 hz2 rfl (by decide) _ n (flts ((outL station N ps).take n)) rfl (Hv'.out.alloc _) ⟨wd.heap.size, 0, none⟩ 1 1 [.float .f32 y] rfl rfl (news1 _ _ _ _ rfl) ?c2 ?c3 ?c4 ?c5 ?_)
            case c2 => simp [Value.oneCell']
            case c3 => unfold maxLen; omega
            case c4 => omega
            case c5 => have := Hsz.out; simp; omega
            intro v' w3 ho hg3 _ hat
            have hst : Step wd w3 u8 v' := Step.of_alloc hg3 (by rw [World.size_alloc]; exact hat)
            have Hk1 := Lib.hid (hst.keep Hu'.out Hd2.out)
            have Hb1 := Lib.hid (hst.below Hv'.out Hsz.out)
            have Ho : Hid (w3.ownsRow w.heap.size 24 1 v' (n + 1) (flts ((outL station N ps).take (n + 1)))) := by
              unfold Hid; rw [HX.out]; simpa [flts] using ho
            have HB3 := Lib.hid (HB'.out.trans Hb1.out)
            clear ho hst hat hg3 Hv' Hu' HX
            go_wp2
            go_roundg (N - (n + 1))
            case measure => omega
            case rel => exact ⟨n + 1, by omega, by go_num, rfl, sp, by have := Hsp.out; omega, Hgo2.out, Ho.out, Hk1.out.1, dis_symm Hk1.out.2, HB3.out⟩
          | none =>
            simp only [Option.isSome_none, Option.getD_none]
            obtain ⟨b, off, hAb, hc⟩ := Rd.flat HAo.out (fun p hp => pkV_length (H8.out p hp)) (by decide) hkl
            subst hAb
            have hstep := hitX_step hkl HO.out
            have hvk := HV.out _ (List.getElem_mem hkl)
            obtain ⟨st, ct, ln, x0, x1, x2, x3, x4, x5, x6, x7, hp⟩ := pk_form (H8.out _ (List.getElem_mem hkl))
            rw [hp] at hc hstep hvk
            have hvk : (0 ≤ ct ∧ ct ≤ 65535) ∧ (0 ≤ ln ∧ ln ≤ 8) := hvk
            have c0 := hc 0 _ rfl; have c1 := hc 1 _ rfl; have c2 := hc 2 _ rfl
            rw [Nat.add_zero] at c0
            have e1 : IntKind.i64.wrap (8 * ct) = 8 * ct := IntWalk.i64_in _ (by omega)
            have e2 : IntKind.i64.wrap ((n : Int) - 8 * ct) = (n : Int) - 8 * ct := IntWalk.i64_in _ (by omega)
            have HH : Hid (hitX station n (ps.take (k + 1)) = if decide (st = station ∧ 0 ≤ (n : Int) - 8 * ct ∧ (n : Int) - 8 * ct < ln) then some ([x0, x1, x2, x3, x4, x5, x6, x7].getD ((n : Int) - 8 * ct).toNat 0) else none) := by
              unfold Hid; rw [hstep]; rfl
            clear hstep hp
            by_cases h1 : st = station
            · by_cases h2 : 0 ≤ (n : Int) - 8 * ct
              · by_cases h3 : (n : Int) - 8 * ct < ln
                · obtain ⟨j, hj⟩ : ∃ j : Nat, (n : Int) - 8 * ct = (j : Int) := ⟨((n : Int) - 8 * ct).toNat, by omega⟩
                  have hI2 : ((n : Int) - 8 * ct).toNat = j := by omega
                  have hj8 : j < 8 := by omega
                  obtain ⟨y, hy⟩ : ∃ y, y = [x0, x1, x2, x3, x4, x5, x6, x7].getD j 0 := ⟨_, rfl⟩
                  have cy : wo.cell? ⟨b, off + k * 11 + 3 + j, none⟩ = some (.float .f32 y) := by
                    rw [hy]
                    rcases (show j = 0 ∨ j = 1 ∨ j = 2 ∨ j = 3 ∨ j = 4 ∨ j = 5 ∨ j = 6 ∨ j = 7 by omega) with rfl | rfl | rfl | rfl | rfl | rfl | rfl | rfl
                    · exact hc 3 _ rfl
                    · exact hc 4 _ rfl
                    · exact hc 5 _ rfl
                    · exact hc 6 _ rfl
                    · exact hc 7 _ rfl
                    · exact hc 8 _ rfl
                    · exact hc 9 _ rfl
                    · exact hc 10 _ rfl
                  have HH2 : Hid (some y = hitX station n (ps.take (k + 1))) := by
                    unfold Hid; rw [HH.out, if_pos (by simp only [decide_eq_true_eq]; exact ⟨h1, h2, h3⟩), hI2, hy]
                  have f1 : (st == station) = true := by simpa using h1
                  have f5 : (n : Int) - 8 * ct < 8 := by omega
                  clear hc hy HH h1 HO hj
                  go_wp2
                  go_quiet (fail)
                  go_wp2
                  go_roundw
                  case rel => exact ⟨k + 1, by omega, by go_num, some y, HH2, rfl, rfl, _, rfl⟩
                  case measure => simp [intOf]; omega
                · have HH2 : Hid (none = hitX station n (ps.take (k + 1))) := by
                    unfold Hid; rw [HH.out, if_neg (by simp only [decide_eq_true_eq]; exact fun h => h3 h.2.2)]
                  have f1 : (st == station) = true := by simpa using h1
                  clear hc HH h1 HO
                  go_wp2
                  go_roundw
                  case rel => exact ⟨k + 1, by omega, by go_num, none, HH2, rfl, rfl, _, rfl⟩
                  case measure => simp [intOf]; omega
              · have HH2 : Hid (none = hitX station n (ps.take (k + 1))) := by
                  unfold Hid; rw [HH.out, if_neg (by simp only [decide_eq_true_eq]; exact fun h => h2 h.2.1)]
                have f1 : (st == station) = true := by simpa using h1
                clear hc HH h1 HO
                go_wp2
                go_roundw
                case rel => exact ⟨k + 1, by omega, by go_num, none, HH2, rfl, rfl, _, rfl⟩
                case measure => simp [intOf]; omega
            · have HH2 : Hid (none = hitX station n (ps.take (k + 1))) := by
                unfold Hid; rw [HH.out, if_neg (by simp only [decide_eq_true_eq]; exact fun h => h1 h.1)]
              have f1 : (st == station) = false := by simpa using h1
              clear hc HH h1 HO
              go_wp2
              go_roundw
              case rel => exact ⟨k + 1, by omega, by go_num, none, HH2, rfl, rfl, _, rfl⟩
              case measure => simp [intOf]; omega
        · obtain rfl : k = ps.length := by omega
          have HO2 := HO.out
          rw [List.take_length] at HO2
          clear HO
          cases o with
          | some y =>
            have HF : Hid (hitX station n ps = some y) := HO2.symm
            clear HO2
            simp only [Option.isSome_some, Option.getD_some]
            have HX : Hid ((outL station N ps).take (n + 1) = (outL station N ps).take n ++ [y]) := by
              unfold Hid; rw [outL_take _ _ _ _ hlt, HF.out]; rfl
            have HT : Hid (gapsGo ((thL station N ps).drop n) n sp = gapsGo ((thL station N ps).drop (n + 1)) (n + 1) (sp)) := by
              unfold Hid; rw [gapsGo_drop (by rw [thL_length]; exact hlt), thL_get _ _ _ _ hlt, HF.out]; rfl
            have Hv' := Lib.hid (owns_below Hv.out (below_drewN (Below.refl _ _) q))
            have Hu' := Lib.hid (owns_below Hu.out (below_drewN (Below.refl _ _) q))
            have HB' := Lib.hid (below_drewN HB.out q)
            have Hd2 := Lib.hid (dis_symm Hd.out)
            have Hsz : Hid (w.heap.size ≤ (wo.drewN q).heap.size) := HB'.out.size
            have Hgo2 := Lib.hid (HT.out.symm.trans Hgo.out)
            clear HF HT
            generalize hwd : wo.drewN q = wd at *
            clear hwd
            go_wp2_with (at_builtin; refine wpList_append_own_at _ rfl _ _ 59 rfl w.heap.size 24 i0 (.float .f32 0) 1 4 Tryz.underlying59 hi hz0 hz1 hz2 rfl (by decide) _ n (flts ((outL station N ps).take n)) rfl (Hv'.out.alloc _) ⟨wd.heap.size, 0, none⟩ 1 1 [.float .f32 y] rfl rfl (news1 _ _ _ _ rfl) ?c2 ?c3 ?c4 ?c5 ?_)
            case c2 => simp [Value.oneCell']
            case c3 => unfold maxLen; omega
            case c4 => omega
            case c5 => have := Hsz.out; simp; omega
            intro v' w3 ho hg3 _ hat
            have hst : Step wd w3 u8 v' := Step.of_alloc hg3 (by rw [World.size_alloc]; exact hat)
            have Hk1 := Lib.hid (hst.keep Hu'.out Hd2.out)
            have Hb1 := Lib.hid (hst.below Hv'.out Hsz.out)
            have Ho : Hid (w3.ownsRow w.heap.size 24 1 v' (n + 1) (flts ((outL station N ps).take (n + 1)))) := by
              unfold Hid; rw [HX.out]; simpa [flts] using ho
            have HB3 := Lib.hid (HB'.out.trans Hb1.out)
            clear ho hst hat hg3 Hv' Hu' HX
            go_wp2
            go_roundg (N - (n + 1))
            case measure => omega
            case rel => exact ⟨n + 1, by omega, by go_num, rfl, sp, by have := Hsp.out; omega, Hgo2.out, Ho.out, Hk1.out.1, dis_symm Hk1.out.2, HB3.out⟩
          | none =>
            have HF : Hid (hitX station n ps = none) := HO2.symm
            clear HO2
            simp only [Option.isSome_none, Option.getD_none]
            have HX : Hid ((outL station N ps).take (n + 1) = (outL station N ps).take n ++ [0]) := by
              unfold Hid; rw [outL_take _ _ _ _ hlt, HF.out]; rfl
            have HT : Hid (gapsGo ((thL station N ps).drop n) n sp = gapsGo ((thL station N ps).drop (n + 1)) (n + 1) (widL sp n)) := by
              unfold Hid; rw [gapsGo_drop (by rw [thL_length]; exact hlt), thL_get _ _ _ _ hlt, HF.out]; rfl
            have Hv' := Lib.hid (owns_below Hv.out (below_drewN (Below.refl _ _) q))
            have Hu' := Lib.hid (owns_below Hu.out (below_drewN (Below.refl _ _) q))
            have HB' := Lib.hid (below_drewN HB.out q)
            have Hd2 := Lib.hid (dis_symm Hd.out)
            have Hsz : Hid (w.heap.size ≤ (wo.drewN q).heap.size) := HB'.out.size
            have Hgo2 := Lib.hid (HT.out.symm.trans Hgo.out)
            clear HF HT
            generalize hwd : wo.drewN q = wd at *
            clear hwd
            go_wp2_with (at_builtin; refine wpList_append_own_at _ rfl _ _ 59 rfl w.heap.size 24 i0 (.float .f32 0) 1 4 Tryz.underlying59 hi hz0 hz1 hz2 rfl (by decide) _ n (flts ((outL station N ps).take n)) rfl (Hv'.out.alloc _) ⟨wd.heap.size, 0, none⟩ 1 1 [.float .f32 0] rfl rfl (news1 _ _ _ _ rfl) ?c2 ?c3 ?c4 ?c5 ?_)
            case c2 => simp [Value.oneCell']
            case c3 => unfold maxLen; omega
            case c4 => omega
            case c5 => have := Hsz.out; simp; omega
            intro v' w3 ho hg3 _ hat
            have hst : Step wd w3 u8 v' := Step.of_alloc hg3 (by rw [World.size_alloc]; exact hat)
            have Hk1 := Lib.hid (hst.keep Hu'.out Hd2.out)
            have Hb1 := Lib.hid (hst.below Hv'.out Hsz.out)
            have Ho : Hid (w3.ownsRow w.heap.size 24 1 v' (n + 1) (flts ((outL station N ps).take (n + 1)))) := by
              unfold Hid; rw [HX.out]; simpa [flts] using ho
            have HB3 := Lib.hid (HB'.out.trans Hb1.out)
            clear ho hst hat hg3 Hv' Hu' HX
            have Hl6 : Hid (sp.length ≤ 1000000) := by have := Hsp.out; unfold Hid; omega
            have Hi9 : Hid ((0 : Int) ≤ (n : Int) ∧ (n : Int) ≤ 1000000000) := by unfold Hid; omega
            have Hsz3 : Hid (w.heap.size ≤ w3.heap.size) := HB3.out.size
            go_wp2_with fail
            refine (widenR_any w.heap.size u9 sp (n : Int) _ Hk1.out.1 Hsz3.out Hl6.out Hi9.out).mono ?_
            rintro e w4 ⟨u', rfl, ho4, hst4⟩
            have Hk4 := Lib.hid (hst4.keep Ho.out (dis_symm Hk1.out.2))
            have Hb4 := Lib.hid (hst4.below Hk1.out.1 Hsz3.out)
            have Ho4 := Lib.hid ho4
            have Hwl := Lib.hid (widL_le sp n)
            clear ho4 hst4
            go_wp2
            go_roundg (N - (n + 1))
            case measure => omega
            case rel => exact ⟨n + 1, by omega, by go_num, rfl, widL sp n, by have := Hwl.out; have := Hsp.out; omega, Hgo2.out, Hk4.out.1, Ho4.out, Hk4.out.2, HB3.out.trans Hb4.out⟩
    · obtain rfl : n = N := by omega
      obtain ⟨sp, hsp, hgo, hvv, huu, hdd, hB⟩ := HI.out
      rw [List.take_of_length_le (by rw [outL_length]; exact Nat.le_refl _)] at hvv
      rw [List.drop_of_length_le (by rw [thL_length]; exact Nat.le_refl _)] at hgo
      have hgo : sp = gapsL (thL station n ps) := hgo
      rw [hgo] at huu
      have Hv := Lib.hid hvv; have Hu := Lib.hid huu; have HB := Lib.hid hB
      clear hsp hgo hvv huu hdd hB HI
      go_wp2
      go_ret2
      exact ⟨_, _, rfl, Hv.out, Hu.out, HB.out⟩
end Go.Proofs.YtipligklkkiejaaGreatDoor
