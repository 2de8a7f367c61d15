import Derived.Laws.CopyOwn
import Derived.Maps.AppendAt
import Derived.Test.YtaknlhepgeiekaaGreatDoorH28
import Derived.Test.YtaknlhepgeiekaaGreatDoorH34
namespace Go.Proofs.YtaknlhepgeiekaaGreatDoor
set_option linter.all false
open Go.RowKit Go.Fl
def befI (z : List Int) : List Int := 0 :: z.take (z.length - 1)
def crL (z : List Int) : Nat → List (Int × Int)
 | 0 => []
 | k + 1 => if z.getD k 0 * (befI z).getD k 0 < 0 then crL z k ++ [((k : Int) - 1, (k : Int) + 1)] else crL z k
theorem crL_len (z : List Int) (k : Nat) : (crL z k).length ≤ k := by
 induction k with
 | zero => exact Nat.le_refl _
 | succ k ih =>
   rw [crL]
   split
   · rw [List.length_append, List.length_singleton]; omega
   · omega
theorem bef_len (z : List Int) (h : 0 < z.length) : (befI z).length = z.length := by simp [befI]; omega
theorem ints_len (z : List Int) : (ints z).length = z.length := by simp [ints]
theorem bef_splice (z : List Int) (h : 0 < z.length) : splice (List.replicate z.length (Value.int .i64 0)) 1 (ints (z.take (z.length - 1))) = ints (befI z) := by
 obtain ⟨m, hm⟩ : ∃ m, z.length = m + 1 := ⟨z.length - 1, by omega⟩
 unfold splice befI
 have e : (ints (z.take (z.length - 1))).length = m := by rw [ints_len, List.length_take]; omega
 rw [e, List.drop_of_length_le (by rw [List.length_replicate]; omega), hm, List.replicate_succ]
 simp [ints]
theorem bef_vals {z : List Int} (h : ∀ x ∈ z, x = -1 ∨ x = 0 ∨ x = 1) (k : Nat) : (befI z).getD k 0 = -1 ∨ (befI z).getD k 0 = 0 ∨ (befI z).getD k 0 = 1 := by
 cases k with
 | zero => exact .inr (.inl rfl)
 | succ k =>
   show (z.take (z.length - 1)).getD k 0 = -1 ∨ (z.take (z.length - 1)).getD k 0 = 0 ∨ (z.take (z.length - 1)).getD k 0 = 1
   by_cases hk : k < (z.take (z.length - 1)).length
   · have e : (z.take (z.length - 1)).getD k 0 = (z.take (z.length - 1))[k] := by simp [List.getD, List.getElem?_eq_getElem hk]
     rw [e]
     exact h _ (List.mem_of_mem_take (List.getElem_mem hk))
   · have e : (z.take (z.length - 1)).getD k 0 = 0 := by simp [List.getD, List.getElem?_eq_none (Nat.le_of_not_lt hk)]
     rw [e]; exact .inr (.inl rfl)
theorem slice_oneT {P : Program} (t : TypeId) (ht : P.underlying t = some (.slice (P.elem t))) (hs : ∀ w, (sizeOf (P.elem t)).run P w = .ok 1 w) (b off n c : Nat) (hn : 1 ≤ n) (hc : n ≤ c) :
 ∃ A', (∀ W, (Instr.slice t (.slice (some ⟨b, off, none⟩) n c) (some (.int .i64 1)) none none).run P W = .ok (.slice A' (n - 1) (c - 1)) W) ∧ A' = some ⟨b, if c = 1 then off else off + 1, none⟩ := by
 refine ⟨some ⟨b, if c = 1 then off else off + 1, none⟩, fun W => ?_, rfl⟩
 rw [run_slice_l W t (some ⟨b, off, none⟩) n c ht .i64 1 (by omega) (by omega), hs]
 simp only [Result.andThen, sliced, Nat.mul_one]
 by_cases h1 : c = 1
 · subst h1; simp
 · have hne : ¬ c = Int.toNat 1 := by simpa using h1
   rw [if_neg hne, if_neg h1]
   simp [Addr.add]
set_option maxRecDepth 100000 in
set_option maxHeartbeats 8000000 in
theorem crossings_of (E : Int) (A : Option Addr) (c : Nat) (L : List Sg) (w : World) (hA : Rd w A (sgC L)) (hL : L.length ≤ 1000000) (hE : E = sgsE L) (h0 : E = 0) (hg : ∀ s ∈ L, SigG s.a s.b s.c s.d s.x s.y) (hn : 0 < L.length ∧ L.length ≤ 256) (HS : ∀ (B : Nat) (A : Option Addr) (c : Nat) (l : List (Int × Int)) (W : World), W.ownsRow B 77 2 (.slice A l.length c) l.length (spanC l) → l.length ≤ 1000 → Calls Tryz.prog 79 #[.slice A l.length c, .func (.func 80) #[] #[]] W fun e w' => e = .returned (.tuple #[]) ∧ ∃ S : List (Int × Int), S.Perm l ∧ S.Pairwise (fun a b => a.1 ≤ b.1) ∧ Rd w' A (spanC S) ∧ Below B W w') : Calls Tryz.prog 27 #[.slice A L.length c] w fun e w' => ∃ A2 c2 S, e = .returned (.tuple #[.slice A2 S.length c2, .int .i64 0]) ∧ S.Perm (spL (fun k => (L.map sgn).getD k 1 == 0) L.length ++ crL (L.map sgn) L.length) ∧ S.Pairwise (fun a b : Int × Int => a.1 ≤ b.1) ∧ Rd w' A2 (spanC S) ∧ Below w.heap.size w w' := by
 have HC4 : Hid (Calls Tryz.prog 52 #[.slice A L.length c] w fun e w' => e = .returned (.int .i64 E) ∧ Below w.heap.size w w') := by unfold Hid; rw [hE]; exact checkSignals_any A c L w hA hL
 have hne : (E == 0) = true := by simpa using h0
 have hne2 : (E != 0) = false := by simpa using h0
 have hmk := fun W : World => make1 (P := Tryz.prog) 74 3 (.int .i64 0) 8 Tryz.underlying74 info3 rfl L.length (by omega) (by omega) W
 have HM : Hid (∀ W gF, Row W gF 154 [.func (.func 73) #[] #[]] → Below w.heap.size w W → Calls Tryz.prog 74 #[.slice A L.length c, .func (.func 75) #[] #[.pointer (some ⟨gF, 0, none⟩)]] W fun e w' => e = .returned (.slice (some ⟨W.heap.size, 0, none⟩) L.length L.length) ∧ Row w' W.heap.size 3 (ints (L.map sgn)) ∧ Below W.heap.size W w') := fun W gF hF hW =>
  mappedI_any A c L sgn 75 #[.pointer (some ⟨gF, 0, none⟩)] W (hA.below hW) hL (fun k hk V hV => crossings1_any L[k] gF V (hg _ (List.getElem_mem _)) (hF.old hV)) (enters_of Tryz.func75 (by kernel_rfl) rfl)
 have HV : Hid (∀ x ∈ L.map sgn, x = -1 ∨ x = 0 ∨ x = 1) := fun x hx => by obtain ⟨s, _, rfl⟩ := List.mem_map.1 hx; exact sgn_cases s
 obtain ⟨z, hz⟩ : ∃ z, z = L.map sgn := ⟨_, rfl⟩
 have hzl : z.length = L.length := by rw [hz]; simp
 rw [← hz] at HM HV ⊢
 obtain ⟨n, hnn⟩ : ∃ n, n = L.length := ⟨_, rfl⟩
 rw [← hnn] at HM HC4 hmk hzl hn ⊢
 have HN := Lib.hid hn; have HZL := Lib.hid hzl; have HSS := Lib.hid HS
 have HW : Hid (∀ W g, Row W g 3 (ints z) → Calls Tryz.prog 77 #[.slice (some ⟨g, 0, none⟩) n n, .func (.func 78) #[] #[]] W fun e w' => ∃ v, e = .returned v ∧ w'.ownsRow W.heap.size 77 2 v (spL (fun k => z.getD k 1 == 0) n).length (spanC (spL (fun k => z.getD k 1 == 0) n)) ∧ Below W.heap.size W w') := fun W g h => by
  have h2 := spansWhereI_any (some ⟨g, 0, none⟩) n z W (Rd.row h) (by omega)
  rw [hzl] at h2; exact h2
 obtain ⟨zs, hzs⟩ : ∃ zs, zs = spL (fun k => z.getD k 1 == 0) n := ⟨_, rfl⟩
 have HZS : Hid (zs.length ≤ n) := by unfold Hid; rw [hzs]; exact spL_len _ _
 rw [← hzs] at HW ⊢
 obtain ⟨i0, hi0, hz0, hz1, hz2⟩ := info_parts info94
 clear hE h0 hA hL hg hn hz hnn hzs hzl HS
 go_enter Tryz.func27, Tryz.ntmps27
 go_upto_region 7 with (first
  | (go_at_call 52; refine HC4.out.mono ?_; rintro e w2 ⟨rfl, hb2⟩; have HB2 := Lib.hid hb2; clear hb2)
  | (go_at_call 74; refine (HM.out _ w2.heap.size (Row.new w2 154 [.func (.func 73) #[] #[]]) (HB2.out.alloc HB2.out.size _)).mono ?_; rintro e w3 ⟨rfl, hr3, hb3⟩; have HR3 := Lib.hid hr3; have HB3 := Lib.hid ((HB2.out.alloc HB2.out.size _).trans (hb3.mono (HB2.out.alloc HB2.out.size _).size)); clear hr3 hb3))
 have HB : Hid (Row (w3.alloc (.cells (List.replicate n (.int .i64 0)).toArray 3)) w3.heap.size 3 (List.replicate n (.int .i64 0))) := Row.new w3 _ _
 have HR3a := Lib.hid (HR3.out.alloc (.cells (List.replicate n (.int .i64 0)).toArray 3))
 have HB3a := Lib.hid (HB3.out.alloc HB3.out.size (.cells (List.replicate n (.int .i64 0)).toArray 3))
 obtain ⟨A1, hsl, hA1⟩ := slice_oneT (P := Tryz.prog) 74 Tryz.underlying74 (fun _ => by kernel_rfl) w3.heap.size 0 n n HN.out.1 (Nat.le_refl _)
 have HA1 := Lib.hid hA1
 clear hA1 hmk
 have hgS : (w2.alloc (.cells #[.func (.func 73) #[] #[]] 154)).heap.size = w2.heap.size + 1 := World.size_alloc _ _
 rw [hgS] at HR3a
 have hlt3 : w2.heap.size + 1 < w3.heap.size := by have h := HR3.out.lt; rw [hgS] at h; exact h
 clear hgS HR3
 have G1 : Hid ((ints (z.take (n - 1))).length = Nat.min n (n - 1)) := by unfold Hid; rw [ints_len, List.length_take, HZL.out]; exact Nat.min_comm _ _
 have G3 : Hid (1 + (ints (z.take (n - 1))).length ≤ (List.replicate n (Value.int .i64 0)).length) := by unfold Hid; rw [ints_len, List.length_take, HZL.out, List.length_replicate]; have := HN.out; omega
 have G4 : Hid (∀ v ∈ ints (z.take (n - 1)), v.oneCell' = true) := by unfold Hid; intro v hv; obtain ⟨x, _, rfl⟩ := List.mem_map.1 hv; rfl
 have G5 : Hid (0 < (ints (z.take (n - 1))).length → A1 = some ⟨w3.heap.size, 1, none⟩) := by
  unfold Hid; rw [ints_len, List.length_take, HZL.out]
  intro h
  rw [HA1.out, if_neg (by omega)]
 have G6 : Hid (∀ j v, (ints (z.take (n - 1)))[j]? = some v → (w3.alloc (.cells (List.replicate n (.int .i64 0)).toArray 3)).cell? ((⟨w2.heap.size + 1, 0, none⟩ : Addr).add j) = some v) := fun j v hv => by
  rw [show (⟨w2.heap.size + 1, 0, none⟩ : Addr).add j = ⟨w2.heap.size + 1, j, none⟩ from by simp [Addr.add]; exact fun h => h.symm, HR3a.out.cell]
  have hj : j < n - 1 := by have := (List.getElem?_eq_some_iff.1 hv).1; rw [ints_len, List.length_take] at this; omega
  simp only [ints, List.getElem?_map, List.getElem?_take, if_pos hj] at hv ⊢
  exact hv
 go_upto_region 8 with (refine wpList_copy_splice (o := ⟨some 25, _, _, _, _, _⟩) rfl (.tmp 23) (.tmp 24) 74 74 rfl 3 Tryz.underlying74 (by kernel_rfl) A1 (some ⟨w2.heap.size + 1, 0, none⟩) (n - 1) (n - 1) n n (by simp [Act.eval, Act.put]) (by simp [Act.eval, Act.put]) w3.heap.size 1 (List.replicate n (.int .i64 0)) 3 HB.out (ints (z.take (n - 1))) G1.out (fun h => ⟨G5.out h, _, rfl, G6.out⟩) G3.out G4.out w3.heap.size _ (Below.refl _ _) (Nat.le_refl _) ?_; intro W4 g4 b4)
 have HR4 := Lib.hid (HR3a.out.below b4 (by omega))
 have HBf : Hid (Row W4 w3.heap.size 3 (ints (befI z))) := by
  have h : Row W4 w3.heap.size 3 (splice (List.replicate n (.int .i64 0)) 1 (ints (z.take (n - 1)))) := g4.out
  have e := bef_splice z (by rw [HZL.out]; exact HN.out.1)
  rw [HZL.out] at e
  rw [e] at h; exact h
 have HB4 := Lib.hid (HB3a.out.trans (b4.mono (by have := HB3.out.size; omega)))
 have hz4 : w3.heap.size < W4.heap.size := HBf.out.lt
 clear g4 b4 HB HR3a HB3a G1 G3 G4 G5 G6 HA1 hsl HB3 HC4 HM
 go_upto_region 9 with (go_at_call 77; refine (HW.out _ _ HR4.out).mono ?_; rintro e w5 ⟨v5, rfl, ho5, hb5⟩; have HO5 := Lib.hid ho5; have HR5 := Lib.hid (HR4.out.old hb5); have HF5 := Lib.hid (HBf.out.old hb5); have HB5 := Lib.hid hb5; clear ho5 hb5)
 have HPL : Hid (∀ k (h : k < n) (W : World), Below W4.heap.size W4 W → W.cell? ⟨w2.heap.size + 1, k, none⟩ = some (.int .i64 (z.getD k 0)) ∧ W.cell? ⟨w3.heap.size, k, none⟩ = some (.int .i64 ((befI z).getD k 0))) := fun k h W hW => by
  have e1 : (ints z)[k]? = some (.int .i64 (z.getD k 0)) := by simp [ints, List.getD, List.getElem?_eq_getElem (show k < z.length by rw [HZL.out]; exact h)]
  have e2 : (ints (befI z))[k]? = some (.int .i64 ((befI z).getD k 0)) := by simp [ints, List.getD, List.getElem?_eq_getElem (show k < (befI z).length by rw [bef_len z (by rw [HZL.out]; exact HN.out.1), HZL.out]; exact h)]
  exact ⟨by rw [(HR4.out.below hW (by omega)).cell]; exact e1, by rw [(HBf.out.below hW (by omega)).cell]; exact e2⟩
 have HZV : Hid (∀ k, (z.getD k 0 = -1 ∨ z.getD k 0 = 0 ∨ z.getD k 0 = 1) ∧ ((befI z).getD k 0 = -1 ∨ (befI z).getD k 0 = 0 ∨ (befI z).getD k 0 = 1)) := fun k => by
  refine ⟨?_, bef_vals HV.out k⟩
  by_cases hk : k < z.length
  · have e : z.getD k 0 = z[k] := by simp [List.getD, List.getElem?_eq_getElem hk]
    rw [e]; exact HV.out _ (List.getElem_mem hk)
  · have e : z.getD k 0 = 0 := by simp [List.getD, List.getElem?_eq_none (Nat.le_of_not_lt hk)]
    rw [e]; exact .inr (.inl rfl)
 go_wp2_with fail
 go_loopw [8, 30] (fun v i wr => ∃ k : Nat, k ≤ n ∧ i = .int .i64 k ∧ Hid (wr.ownsRow W4.heap.size 77 2 v (zs ++ crL z k).length (spanC (zs ++ crL z k))) ∧ Hid (Below W4.heap.size W4 wr)) (fun _ i _ => n - (intOf i).toNat)
 case atStart => exact ⟨0, Nat.zero_le _, rfl, by show World.ownsRow _ _ _ _ _ (zs ++ crL z 0).length (spanC (zs ++ crL z 0)); rw [crL, List.append_nil]; exact HO5.out, HB5.out⟩
 case round =>
  obtain ⟨k, hk, rfl, Hown, Hb⟩ := hrel
  obtain ⟨VA, VC, rfl⟩ := own_slice Hown.out
  by_cases hlt : k < n
  · obtain ⟨q1, q2⟩ := HPL.out k hlt _ Hb.out
    have hv := HZV.out k
    have hcr : crL z (k + 1) = if z.getD k 0 * (befI z).getD k 0 < 0 then crL z k ++ [((k : Int) - 1, (k : Int) + 1)] else crL z k := rfl
    have hcl := crL_len z k
    obtain ⟨x, hx⟩ : ∃ x, x = z.getD k 0 := ⟨_, rfl⟩
    obtain ⟨y, hy⟩ : ∃ y, y = (befI z).getD k 0 := ⟨_, rfl⟩
    rw [← hx] at q1 hv hcr
    rw [← hy] at q2 hv hcr
    have hxy : IntKind.i64.wrap (x * y) = x * y := IntWalk.i64_in _ (by rcases hv.1 with h | h | h <;> rcases hv.2 with h2 | h2 | h2 <;> rw [h, h2] <;> decide)
    have hln : (zs ++ crL z k).length ≤ 2 * n := by rw [List.length_append]; have := HZS.out; omega
    obtain ⟨m, hm⟩ : ∃ m, m = (zs ++ crL z k).length := ⟨_, rfl⟩
    have Hm := Lib.hid hm
    rw [← hm] at Hown hln ⊢
    have HN2 := HN.out.2
    by_cases hneg : x * y < 0
    · have hneg2 : decide (x * y < 0) = true := by simpa using hneg
      rw [if_pos hneg] at hcr
      have HCR : Hid (zs ++ crL z (k + 1) = (zs ++ crL z k) ++ [((k : Int) - 1, (k : Int) + 1)]) := by unfold Hid; rw [hcr, List.append_assoc]
      have e1 : IntKind.i64.wrap ((k : Int) - 1) = (k : Int) - 1 := IntWalk.i64_in _ (by omega)
      have Hneg := Lib.hid hneg
      clear hneg hv hcr hcl hx hy hm HPL HZV
      go_wp2_with (at_builtin; refine wpList_append_own_at _ rfl _ _ 71 rfl W4.heap.size 77 i0 (.agg #[.int .i64 0, .int .i64 0]) 2 16 Tryz.underlying71 hi0 hz0 hz1 hz2 rfl (by decide) _ m (spanC (zs ++ crL z k)) rfl (Hown.out.alloc _) ⟨_, 0, none⟩ 1 1 [.int .i64 ((k : Int) - 1), .int .i64 ((k : Int) + 1)] rfl rfl (news2 _ _ _ _ _ rfl) (by simp [Value.oneCell']) ?c3 ?c4 ?c5 ?_)
      case c3 => unfold maxLen; omega
      case c4 => omega
      case c5 => have := Hb.out.size; simp; omega
      intro v' w6 ho hgr _ hat
      have HO6 : Hid (w6.ownsRow W4.heap.size 77 2 v' (zs ++ crL z (k + 1)).length (spanC (zs ++ crL z (k + 1)))) := by
       unfold Hid; rw [HCR.out, spanC_app, List.length_append, ← Hm.out]
       exact ho
      have HB6 : Hid (Below W4.heap.size W4 w6) := Hb.out.trans ((Step.of_alloc hgr (by rw [World.size_alloc]; exact hat)).below Hown.out Hb.out.size)
      clear ho hgr hat
      go_wp2_with fail
      go_roundw
      case rel => exact ⟨k + 1, by omega, by go_num, HO6.out, HB6.out⟩
      case measure => simp [intOf]; omega
    · have hneg2 : decide (x * y < 0) = false := by simpa using hneg
      rw [if_neg hneg] at hcr
      have HCR : Hid (crL z (k + 1) = crL z k) := hcr
      have Hneg := Lib.hid hneg
      clear hneg hv hcr hcl hx hy hm HPL HZV
      go_wp2_with fail
      go_roundw
      case rel => exact ⟨k + 1, by omega, by go_num, by rw [HCR.out, ← Hm.out]; exact Hown.out, Hb.out⟩
      case measure => simp [intOf]; omega
  · obtain rfl : k = n := by omega
    have hcl : (zs ++ crL z k).length ≤ 1000 := by rw [List.length_append]; have := HZS.out; have := crL_len z k; have := HN.out.2; omega
    have HSRT := Lib.hid (HSS.out W4.heap.size VA VC (zs ++ crL z k) _ Hown.out hcl)
    obtain ⟨m, hm⟩ : ∃ m, m = (zs ++ crL z k).length := ⟨_, rfl⟩
    have Hm := Lib.hid hm
    rw [← hm] at HSRT Hown ⊢
    obtain ⟨ll, hll⟩ : ∃ ll, ll = zs ++ crL z k := ⟨_, rfl⟩
    rw [← hll] at HSRT Hm
    have Hll := Lib.hid hll
    clear hcl HPL HZV hm Hown hll
    go_wp2_with (go_at_call 79; refine HSRT.out.mono ?_; rintro e w7 ⟨rfl, S, hp, hs, hrd, hb7⟩; have HP := Lib.hid hp; have HSO := Lib.hid hs; have HRD := Lib.hid hrd; have HB7 := Lib.hid hb7; clear hp hs hrd hb7)
    go_ret2
    exact ⟨VA, VC, S, by rw [HP.out.length_eq]; exact congrArg (fun q => Ending.returned (.tuple #[.slice VA q VC, .int .i64 0])) Hm.out, by rw [← Hll.out]; exact HP.out, HSO.out, HRD.out, HB4.out.trans ((Hb.out.trans HB7.out).mono HB4.out.size)⟩
end Go.Proofs.YtaknlhepgeiekaaGreatDoor
