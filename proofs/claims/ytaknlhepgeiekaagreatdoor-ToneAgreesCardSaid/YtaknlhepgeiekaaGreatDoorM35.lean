import Derived.Laws.CopyOwn
import Derived.Maps.AppendAt
import Derived.Test.YtaknlhepgeiekaaGreatDoorM28
import Derived.Test.YtaknlhepgeiekaaGreatDoorM34
import Derived.Test.YtaknlhepgeiekaaGreatDoorM43
namespace Go.Proofs.YtaknlhepgeiekaaGreatDoor
set_option linter.all false
open Go.RowKit Go.Fl
def befI (z : List Int) : List Int := 0 :: z.take (z.length - 1)
def crL (z : List Int) : Nat → List (Int × Int)
 | 0 => []
 | k + 1 => if z.getD k 0 * (befI z).getD k 0 < 0 then crL z k ++ [((k : Int) - 1, (k : Int) + 1)] else crL z k
theorem crL_len (z : List Int) (k : Nat) : (crL z k).length ≤ k := by
 induction k with
 | zero => exact Nat.le_refl _
 | succ k ih =>
   rw [crL]
   split
   · rw [List.length_append, List.length_singleton]; omega
   · omega
theorem bef_len (z : List Int) (h : 0 < z.length) : (befI z).length = z.length := by simp [befI]; omega
theorem ints_len (z : List Int) : (ints z).length = z.length := by simp [ints]
theorem bef_splice (z : List Int) (h : 0 < z.length) : splice (List.replicate z.length (Value.int .i64 0)) 1 (ints (z.take (z.length - 1))) = ints (befI z) := by
 obtain ⟨m, hm⟩ : ∃ m, z.length = m + 1 := ⟨z.length - 1, by omega⟩
 unfold splice befI
 have e : (ints (z.take (z.length - 1))).length = m := by rw [ints_len, List.length_take]; omega
 rw [e, List.drop_of_length_le (by rw [List.length_replicate]; omega), hm, List.replicate_succ]
 simp [ints]
theorem bef_vals {z : List Int} (h : ∀ x ∈ z, x = -1 ∨ x = 0 ∨ x = 1) (k : Nat) : (befI z).getD k 0 = -1 ∨ (befI z).getD k 0 = 0 ∨ (befI z).getD k 0 = 1 := by
 cases k with
 | zero => exact .inr (.inl rfl)
 | succ k =>
   show (z.take (z.length - 1)).getD k 0 = -1 ∨ (z.take (z.length - 1)).getD k 0 = 0 ∨ (z.take (z.length - 1)).getD k 0 = 1
   by_cases hk : k < (z.take (z.length - 1)).length
   · have e : (z.take (z.length - 1)).getD k 0 = (z.take (z.length - 1))[k] := by simp [List.getD, List.getElem?_eq_getElem hk]
     rw [e]
     exact h _ (List.mem_of_mem_take (List.getElem_mem hk))
   · have e : (z.take (z.length - 1)).getD k 0 = 0 := by simp [List.getD, List.getElem?_eq_none (Nat.le_of_not_lt hk)]
     rw [e]; exact .inr (.inl rfl)
theorem slice_oneT {P : Program} (t : TypeId) (ht : P.underlying t = some (.slice (P.elem t))) (hs : ∀ w, (sizeOf (P.elem t)).run P w = .ok 1 w) (b off n c : Nat) (hn : 1 ≤ n) (hc : n ≤ c) :
 ∃ A', (∀ W, (Instr.slice t (.slice (some ⟨b, off, none⟩) n c) (some (.int .i64 1)) none none).run P W = .ok (.slice A' (n - 1) (c - 1)) W) ∧ A' = some ⟨b, if c = 1 then off else off + 1, none⟩ := by
 refine ⟨some ⟨b, if c = 1 then off else off + 1, none⟩, fun W => ?_, rfl⟩
 rw [run_slice_l W t (some ⟨b, off, none⟩) n c ht .i64 1 (by omega) (by omega), hs]
 simp only [Result.andThen, sliced, Nat.mul_one]
 by_cases h1 : c = 1
 · subst h1; simp
 · have hne : ¬ c = Int.toNat 1 := by simpa using h1
   rw [if_neg hne, if_neg h1]
   simp [Addr.add]
set_option maxRecDepth 100000 in
set_option maxHeartbeats 8000000 in
theorem crossings_of (E : Int) (A : Option Addr) (c : Nat) (L : List Sg) (w : World) (hA : Rd w A (sgC L)) (hL : L.length ≤ 1000000) (hE : E = sgsE L) (h0 : E = 0) (hg : ∀ s ∈ L, SigG s.a s.b s.c s.d s.x s.y) (hn : 0 < L.length ∧ L.length ≤ 256) (HS : ∀ (B : Nat) (A : Option Addr) (c : Nat) (l : List (Int × Int)) (W : World), W.ownsRow B 77 2 (.slice A l.length c) l.length (spanC l) → l.length ≤ 1000 → Calls Tryz.prog 79 #[.slice A l.length c, .func (.func 80) #[] #[]] W fun e w' => e = .returned (.tuple #[]) ∧ ∃ S : List (Int × Int), S.Perm l ∧ S.Pairwise (fun a b => a.1 ≤ b.1) ∧ Rd w' A (spanC S) ∧ Below B W w') : Calls Tryz.prog 27 #[.slice A L.length c] w fun e w' => ∃ A2 c2 S, e = .returned (.tuple #[.slice A2 S.length c2, .int .i64 0]) ∧ S.Perm (spL (fun k => (L.map sgn).getD k 1 == 0) L.length ++ crL (L.map sgn) L.length) ∧ S.Pairwise (fun a b : Int × Int => a.1 ≤ b.1) ∧ Rd w' A2 (spanC S) ∧ Below w.heap.size w w' := by
 have HC4 : Hid (Calls Tryz.prog 52 #[.slice A L.length c] w fun e w' => e = .returned (.int .i64 E) ∧ Below w.heap.size w w') := by unfold Hid; rw [hE]; exact checkSignals_any A c L w hA hL
 have hne : (E == 0) = true := by simpa using h0
 have hne2 : (E != 0) = false := by simpa using h0
 have hmk := fun W : World => make1 (P := Tryz.prog) 74 3 (.int .i64 0) 8 Tryz.underlying74 info3 rfl L.length (by omega) (by omega) W
 have HM : Hid (∀ W gF, Row W gF 154 [.func (.func 73) #[] #[]] → Below w.heap.size w W → Calls Tryz.prog 74 #[.slice A L.length c, .func (.func 75) #[] #[.pointer (some ⟨gF, 0, none⟩)]] W fun e w' => e = .returned (.slice (some ⟨W.heap.size, 0, none⟩) L.length L.length) ∧ Row w' W.heap.size 3 (ints (L.map sgn)) ∧ Below W.heap.size W w') := fun W gF hF hW =>
  mappedI_any A c L sgn 75 #[.pointer (some ⟨gF, 0, none⟩)] W (hA.below hW) hL (fun k hk V hV => crossings1_any L[k] gF V (hg _ (List.getElem_mem _)) (hF.old hV)) (enters_of Tryz.func75 (by kernel_rfl) rfl)
 have HV : Hid (∀ x ∈ L.map sgn, x = -1 ∨ x = 0 ∨ x = 1) := fun x hx => by obtain ⟨s, _, rfl⟩ := List.mem_map.1 hx; exact sgn_cases s
 obtain ⟨z, hz⟩ : ∃ z, z = L.map sgn := ⟨_, rfl⟩
 have hzl : z.length = L.length := by rw [hz]; simp
 rw [← hz] at HM HV ⊢
 obtain ⟨n, hnn⟩ : ∃ n, n = L.length := ⟨_, rfl⟩
 rw [← hnn] at HM HC4 hmk hzl hn ⊢
 have HN := Lib.hid hn; have HZL := Lib.hid hzl; have HSS := Lib.hid HS
 have HW : Hid (∀ W g, Row W g 3 (ints z) → Calls Tryz.prog 77 #[.slice (some ⟨g, 0, none⟩) n n, .func (.func 78) #[] #[]] W fun e w' => ∃ v, e = .returned v ∧ w'.ownsRow W.heap.size 77 2 v (spL (fun k => z.getD k 1 == 0) n).length (spanC (spL (fun k => z.getD k 1 == 0) n)) ∧ Below W.heap.size W w') := fun W g h => by
  have h2 := spansWhereI_any (some ⟨g, 0, none⟩) n z W (Rd.row h) (by omega)
  rw [hzl] at h2; exact h2
 obtain ⟨zs, hzs⟩ : ∃ zs, zs = spL (fun k => z.getD k 1 == 0) n := ⟨_, rfl⟩
 have HZS : Hid (zs.length ≤ n) := by unfold Hid; rw [hzs]; exact spL_len _ _
 rw [← hzs] at HW ⊢
 obtain ⟨i0, hi0, hz0, hz1, hz2⟩ := info_parts info94
 clear hE h0 hA hL hg hn hz hnn hzs hzl HS
 go_enter Tryz.func27, Tryz.ntmps27
 go_upto_region 7 with (first
  | (go_at_call 52; refine HC4.out.mono ?_; rintro e w2 ⟨rfl, hb2⟩; have HB2 := Lib.hid hb2; clear hb2)
  | (go_at_call 74; refine (HM.out _ w2.heap.size (Row.new w2 154 [.func (.func 73) #[] #[]]) (HB2.out.alloc HB2.out.size _)).mono ?_; rintro e w3 ⟨rfl, hr3, hb3⟩; have HR3 := Lib.hid hr3; have HB3 := Lib.hid ((HB2.out.alloc HB2.out.size _).trans (hb3.mono (HB2.out.alloc HB2.out.size _).size)); clear hr3 hb3))
 have HB : Hid (Row (w3.alloc (.cells (List.replicate n (.int .i64 0)).toArray 3)) w3.heap.size 3 (List.replicate n (.int .i64 0))) := Row.new w3 _ _
 have HR3a := Lib.hid (HR3.out.alloc (.cells (List.replicate n (.int .i64 0)).toArray 3))
 have HB3a := Lib.hid (HB3.out.alloc HB3.out.size (.cells (List.replicate n (.int .i64 0)).toArray 3))
 obtain ⟨A1, hsl, hA1⟩ := slice_oneT (P := Tryz.prog) 74 Tryz.underlying74 (fun _ => by kernel_rfl) w3.heap.size 0 n n HN.out.1 (Nat.le_refl _)
 have HA1 := Lib.hid hA1
 clear hA1 hmk
 have hgS : (w2.alloc (.cells #[.func (.func 73) #[] #[]] 154)).heap.size = w2.heap.size + 1 := World.size_alloc _ _
 rw [hgS] at HR3a
 have hlt3 : w2.heap.size + 1 < w3.heap.size := by have h := HR3.out.lt; rw [hgS] at h; exact h
 clear hgS HR3
 have G1 : Hid ((ints (z.take (n - 1))).length = Nat.min n (n - 1)) := by unfold Hid; rw [ints_len, List.length_take, HZL.out]; exact Nat.min_comm _ _
 have G3 : Hid (1 + (ints (z.take (n - 1))).length ≤ (List.replicate n (Value.int .i64 0)).length) := by unfold Hid; rw [ints_len, List.length_take, HZL.out, List.length_replicate]; have := HN.out; omega
 have G4 : Hid (∀ v ∈ ints (z.take (n - 1)), v.oneCell' = true) := by unfold Hid; intro v hv; obtain ⟨x, _, rfl⟩ := List.mem_map.1 hv; rfl
 have G5 : Hid (0 < (ints (z.take (n - 1))).length → A1 = some ⟨w3.heap.size, 1, none⟩) := by
  unfold Hid; rw [ints_len, List.length_take, HZL.out]
  intro h
  rw [HA1.out, if_neg (by omega)]
 have G6 : Hid (∀ j v, (ints (z.take (n - 1)))[j]? = some v → (w3.alloc (.cells (List.replicate n (.int .i64 0)).toArray 3)).cell? ((⟨w2.heap.size + 1, 0, none⟩ : Addr).add j) = some v) := fun j v hv => by
  rw [show (⟨w2.heap.size + 1, 0, none⟩ : Addr).add j = ⟨w2.heap.size + 1, j, none⟩ from by simp [Addr.add]; exact fun h => h.symm, HR3a.out.cell]
  have hj : j < n - 1 := by have := (List.getElem?_eq_some_iff.1 hv).1; rw [ints_len, List.length_take] at this; omega
  simp only [ints, List.getElem?_map, List.getElem?_take, if_pos hj] at hv ⊢
  exact hv
 go_upto_region 8 with (refine wpList_copy_splice (o := ⟨some 25, _, _, _, _, _⟩) rfl (.tmp 23) (.tmp 24) 74 74 rfl 3 Tryz.underlying74 (by kernel_rfl) A1 (some ⟨w2.heap.size + 1, 0, none⟩) (n - 1) (n - 1) n n (by simp [Act.eval, Act.put]) (by simp [Act.eval, Act.put]) w3.heap.size 1 (List.replicate n (.int .i64 0)) 3 HB.out (ints (z.take (n - 1))) G1.out (fun h => ⟨G5.out h, _, rfl, G6.out⟩) G3.out G4.out w3.heap.size _ (Below.refl _ _) (Nat.le_refl _) ?_; intro W4 g4 b4)
 have HR4 := Lib.hid (HR3a.out.below b4 (by omega))
 have HBf : Hid (Row W4 w3.heap.size 3 (ints (befI z))) := by
  have h : Row W4 w3.heap.size 3 (splice (List.replicate n (.int .i64 0)) 1 (ints (z.take (n - 1)))) := g4.out
  have e := bef_splice z (by rw [HZL.out]; exact HN.out.1)
  rw [HZL.out] at e
  rw [e] at h; exact h
 have HB4 := Lib.hid (HB3a.out.trans (b4.mono (by have := HB3.out.size; omega)))
 have hz4 : w3.heap.size < W4.heap.size := HBf.out.lt
 clear g4 b4 HB HR3a HB3a G1 G3 G4 G5 G6 HA1 hsl HB3 HC4 HM
 go_upto_region 9 with (go_at_call 77; refine (HW.out _ _ HR4.out).mono ?_; rintro e w5 ⟨v5, rfl, ho5, hb5⟩; have HO5 := Lib.hid ho5; have HR5 := Lib.hid (HR4.out.old hb5); have HF5 := Lib.hid (HBf.out.old hb5); have HB5 := Lib.hid hb5; clear ho5 hb5)
 have HPL : Hid (∀ k (h : k < n) (W : World), Below W4.heap.size W4 W → W.cell? ⟨w2.heap.size + 1, k, none⟩ = some (.int .i64 (z.getD k 0)) ∧ W.cell? ⟨w3.heap.size, k, none⟩ = some (.int .i64 ((befI z).getD k 0))) := fun k h W hW => by
  have e1 : (ints z)[k]? = some (.int .i64 (z.getD k 0)) := by simp [ints, List.getD, List.getElem?_eq_getElem (show k < z.length by rw [HZL.out]; exact h)]
  have e2 : (ints (befI z))[k]? = some (.int .i64 ((befI z).getD k 0)) := by simp [ints, List.getD, List.getElem?_eq_getElem (show k < (befI z).length by rw [bef_len z (by rw [HZL.out]; exact HN.out.1), HZL.out]; exact h)]
  exact ⟨by rw [(HR4.out.below hW (by omega)).cell]; exact e1, by rw [(HBf.out.below hW (by omega)).cell]; exact e2⟩
 have HZV : Hid (∀ k, (z.getD k 0 = -1 ∨ z.getD k 0 = 0 ∨ z.getD k 0 = 1) ∧ ((befI z).getD k 0 = -1 ∨ (befI z).getD k 0 = 0 ∨ (befI z).getD k 0 = 1)) := fun k => by
  refine ⟨?_, bef_vals HV.out k⟩
  by_cases hk : k < z.length
  · have e : z.getD k 0 = z[k] := by simp [List.getD, List.getElem?_eq_getElem hk]
    rw [e]; exact HV.out _ (List.getElem_mem hk)
  · have e : z.getD k 0 = 0 := by simp [List.getD, List.getElem?_eq_none (Nat.le_of_not_lt hk)]
    rw [e]; exact .inr (.inl rfl)
 go_wp2_with fail
 go_loopw [8, 30] (fun v i wr => ∃ k : Nat, k ≤ n ∧ i = .int .i64 k ∧ Hid (wr.ownsRow W4.heap.size 77 2 v (zs ++ crL z k).length (spanC (zs ++ crL z k))) ∧ Hid (Below W4.heap.size W4 wr)) (fun _ i _ => n - (intOf i).toNat)
 case atStart => exact ⟨0, Nat.zero_le _, rfl, by show World.ownsRow _ _ _ _ _ (zs ++ crL z 0).length (spanC (zs ++ crL z 0)); rw [crL, List.append_nil]; exact HO5.out, HB5.out⟩
 case round =>
  obtain ⟨k, hk, rfl, Hown, Hb⟩ := hrel
  obtain ⟨VA, VC, rfl⟩ := own_slice Hown.out
  by_cases hlt : k < n
  · obtain ⟨q1, q2⟩ := HPL.out k hlt _ Hb.out
    have hv := HZV.out k
    have hcr : crL z (k + 1) = if z.getD k 0 * (befI z).getD k 0 < 0 then crL z k ++ [((k : Int) - 1, (k : Int) + 1)] else crL z k := rfl
    have hcl := crL_len z k
    obtain ⟨x, hx⟩ : ∃ x, x = z.getD k 0 := ⟨_, rfl⟩
    obtain ⟨y, hy⟩ : ∃ y, y = (befI z).getD k 0 := ⟨_, rfl⟩
    rw [← hx] at q1 hv hcr
    rw [← hy] at q2 hv hcr
    have hxy : IntKind.i64.wrap (x * y) = x * y := IntWalk.i64_in _ (by rcases hv.1 with h | h | h <;> rcases hv.2 with h2 | h2 | h2 <;> rw [h, h2] <;> decide)
    have hln : (zs ++ crL z k).length ≤ 2 * n := by rw [List.length_append]; have := HZS.out; omega
    obtain ⟨m, hm⟩ : ∃ m, m = (zs ++ crL z k).length := ⟨_, rfl⟩
    have Hm := Lib.hid hm
    rw [← hm] at Hown hln ⊢
    have HN2 := HN.out.2
    by_cases hneg : x * y < 0
    · have hneg2 : decide (x * y < 0) = true := by simpa using hneg
      rw [if_pos hneg] at hcr
      have HCR : Hid (zs ++ crL z (k + 1) = (zs ++ crL z k) ++ [((k : Int) - 1, (k : Int) + 1)]) := by unfold Hid; rw [hcr, List.append_assoc]
      have e1 : IntKind.i64.wrap ((k : Int) - 1) = (k : Int) - 1 := IntWalk.i64_in _ (by omega)
      have Hneg := Lib.hid hneg
      clear hneg hv hcr hcl hx hy hm HPL HZV
      go_wp2_with (at_builtin; refine wpList_append_own_at _ rfl _ _ 71 rfl W4.heap.size 77 i0 (.agg #[.int .i64 0, .int .i64 0]) 2 16 Tryz.underlying71 hi0 hz0 hz1 hz2 rfl (by decide) _ m (spanC (zs ++ crL z k)) rfl (Hown.out.alloc _) ⟨_, 0, none⟩ 1 1 [.int .i64 ((k : Int) - 1), .int .i64 ((k : Int) + 1)] rfl rfl (news2 _ _ _ _ _ rfl) (by simp [Value.oneCell']) ?c3 ?c4 ?c5 ?_)
      case c3 => unfold maxLen; omega
      case c4 => omega
      case c5 => have := Hb.out.size; simp; omega
      intro v' w6 ho hgr _ hat
      have HO6 : Hid (w6.ownsRow W4.heap.size 77 2 v' (zs ++ crL z (k + 1)).length (spanC (zs ++ crL z (k + 1)))) := by
       unfold Hid; rw [HCR.out, spanC_app, List.length_append, ← Hm.out]
       exact ho
      have HB6 : Hid (Below W4.heap.size W4 w6) := Hb.out.trans ((Step.of_alloc hgr (by rw [World.size_alloc]; exact hat)).below Hown.out Hb.out.size)
      clear ho hgr hat
      go_wp2_with fail
      go_roundw
      case rel => exact ⟨k + 1, by omega, by go_num, HO6.out, HB6.out⟩
      case measure => simp [intOf]; omega
    · have hneg2 : decide (x * y < 0) = false := by simpa using hneg
      rw [if_neg hneg] at hcr
      have HCR : Hid (crL z (k + 1) = crL z k) := hcr
      have Hneg := Lib.hid hneg
      clear hneg hv hcr hcl hx hy hm HPL HZV
      go_wp2_with fail
      go_roundw
      case rel => exact ⟨k + 1, by omega, by go_num, by rw [HCR.out, ← Hm.out]; exact Hown.out, Hb.out⟩
      case measure => simp [intOf]; omega
  · obtain rfl : k = n := by omega
    have hcl : (zs ++ crL z k).length ≤ 1000 := by rw [List.length_append]; have := HZS.out; have := crL_len z k; have := HN.out.2; omega
    have HSRT := Lib.hid (HSS.out W4.heap.size VA VC (zs ++ crL z k) _ Hown.out hcl)
    obtain ⟨m, hm⟩ : ∃ m, m = (zs ++ crL z k).length := ⟨_, rfl⟩
    have Hm := Lib.hid hm
    rw [← hm] at HSRT Hown ⊢
    obtain ⟨ll, hll⟩ : ∃ ll, ll = zs ++ crL z k := ⟨_, rfl⟩
    rw [← hll] at HSRT Hm
    have Hll := Lib.hid hll
    clear hcl HPL HZV hm Hown hll
    go_wp2_with (go_at_call 79; refine HSRT.out.mono ?_; rintro e w7 ⟨rfl, S, hp, hs, hrd, hb7⟩; have HP := Lib.hid hp; have HSO := Lib.hid hs; have HRD := Lib.hid hrd; have HB7 := Lib.hid hb7; clear hp hs hrd hb7)
    go_ret2
    exact ⟨VA, VC, S, by rw [HP.out.length_eq]; exact congrArg (fun q => Ending.returned (.tuple #[.slice VA q VC, .int .i64 0])) Hm.out, by rw [← Hll.out]; exact HP.out, HSO.out, HRD.out, HB4.out.trans ((Hb.out.trans HB7.out).mono HB4.out.size)⟩

def setL (l : List (Int × Int)) (t : Int) : List (Int × Int) := match l.getLast? with
 | some p => l.dropLast ++ [(p.1, t)]
 | none => l
def crA (z : List Int) (k : Nat) (l : List (Int × Int)) : List (Int × Int) := if z.getD k 1 = 0 then (if 0 < k ∧ z.getD (k - 1) 1 = 0 then setL l ((k : Int) + 1) else l ++ [((k : Int), (k : Int) + 1)]) else l
def crB (z : List Int) (k : Nat) (l : List (Int × Int)) : List (Int × Int) := if k + 1 < z.length ∧ z.getD k 1 * z.getD (k + 1) 1 < 0 then l ++ [((k : Int), (k : Int) + 2)] else l
def crS (z : List Int) : Nat → List (Int × Int)
 | 0 => []
 | k + 1 => crB z k (crA z k (crS z k))
theorem setL_app (l : List (Int × Int)) (p : Int × Int) (t : Int) : setL (l ++ [p]) t = l ++ [(p.1, t)] := by unfold setL; simp
end Go.Proofs.YtaknlhepgeiekaaGreatDoor
namespace Go.Proofs.YtaknlhepgeiekaaGreatDoor
set_option linter.all false
theorem widL_app (l : List (Int × Int)) (f i : Int) : widL (l ++ [(f, i)]) i = l ++ [(f, i + 1)] := by unfold widL; simp
theorem widL_new (l : List (Int × Int)) (i : Int) (h : ∀ x ∈ l, x.2 < i) : widL l i = l ++ [(i, i + 1)] := by
 unfold widL
 cases hl : l.getLast? with
 | none => rw [List.getLast?_eq_none_iff] at hl; subst hl; rfl
 | some p =>
   have hm := h p (List.mem_of_getLast? hl)
   show (if p.2 = i then _ else _) = _
   rw [if_neg (by omega)]
theorem getD_same (z : List Int) (k : Nat) (h : k < z.length) (d e : Int) : z.getD k d = z.getD k e := by
 rw [List.getD_eq_getElem?_getD, List.getD_eq_getElem?_getD, List.getElem?_eq_getElem h]; rfl
theorem bef_getD (z : List Int) (k : Nat) (h : k + 1 < z.length) : (befI z).getD (k + 1) 0 = z.getD k 1 := by
 unfold befI
 rw [List.getD_eq_getElem?_getD, List.getElem?_cons_succ, List.getElem?_take, if_pos (by omega), List.getD_eq_getElem?_getD, List.getElem?_eq_getElem (by omega)]; rfl
structure CrInv (z : List Int) (k : Nat) : Prop where
 perm : (crS z k).Perm (spL (fun k => z.getD k 1 == 0) k ++ crL z (min (k + 1) z.length))
 zero : 0 < k → z.getD (k - 1) 1 = 0 → ∃ R R' f, crS z k = R ++ [(f, (k : Int))] ∧ spL (fun k => z.getD k 1 == 0) k = R' ++ [(f, (k : Int))]
 notz : ¬ (0 < k ∧ z.getD (k - 1) 1 = 0) → ∀ x ∈ spL (fun k => z.getD k 1 == 0) k, x.2 < (k : Int)
 ends : ∀ x ∈ spL (fun k => z.getD k 1 == 0) k, x.2 ≤ (k : Int)
 first : ∀ x ∈ crS z k, x.1 < (k : Int)
 sort : (crS z k).Pairwise fun a b : Int × Int => a.1 < b.1
theorem pw_app {l : List (Int × Int)} {p : Int × Int} (h : l.Pairwise fun a b : Int × Int => a.1 < b.1) (hp : ∀ x ∈ l, x.1 < p.1) : (l ++ [p]).Pairwise fun a b : Int × Int => a.1 < b.1 := by
 rw [List.pairwise_append]
 exact ⟨h, List.pairwise_singleton _ _, fun a ha b hb => by rw [List.mem_singleton] at hb; subst hb; exact hp a ha⟩
theorem pw_last {l : List (Int × Int)} {p q : Int × Int} (h : (l ++ [p]).Pairwise fun a b : Int × Int => a.1 < b.1) (hq : q.1 = p.1) : (l ++ [q]).Pairwise fun a b : Int × Int => a.1 < b.1 := by
 rw [List.pairwise_append] at h
 exact pw_app h.1 (fun x hx => by rw [hq]; exact h.2.2 x hx p (List.mem_singleton.2 rfl))
theorem perm_end {S A C : List (Int × Int)} {p : Int × Int} (h : S.Perm (A ++ C)) : (S ++ [p]).Perm ((A ++ [p]) ++ C) := by
 have h1 : (S ++ [p]).Perm (p :: S) := List.perm_append_comm
 have h2 : ((A ++ [p]) ++ C).Perm (p :: (A ++ C)) := by rw [List.append_assoc]; exact List.perm_middle
 exact h1.trans ((h.cons p).trans h2.symm)
theorem perm_cut {S A C : List (Int × Int)} {p : Int × Int} (h : (S ++ [p]).Perm ((A ++ [p]) ++ C)) : S.Perm (A ++ C) := by
 have h1 : (S ++ [p]).Perm (p :: S) := List.perm_append_comm
 have h2 : ((A ++ [p]) ++ C).Perm (p :: (A ++ C)) := by rw [List.append_assoc]; exact List.perm_middle
 exact (List.perm_cons p).1 (h1.symm.trans (h.trans h2))
theorem cr_none (z : List Int) (k : Nat) (h : ¬ (k + 1 < z.length ∧ z.getD k 1 * z.getD (k + 1) 1 < 0)) : crL z (min (k + 2) z.length) = crL z (min (k + 1) z.length) := by
 by_cases hl : k + 1 < z.length
 · rw [Nat.min_eq_left (by omega), Nat.min_eq_left (by omega), crL, if_neg]
   rw [bef_getD z k hl, getD_same z (k + 1) hl 0 1, Int.mul_comm]
   exact fun e => h ⟨hl, e⟩
 · rw [Nat.min_eq_right (by omega), Nat.min_eq_right (by omega)]
theorem cr_some (z : List Int) (k : Nat) (h : k + 1 < z.length ∧ z.getD k 1 * z.getD (k + 1) 1 < 0) : crL z (min (k + 2) z.length) = crL z (min (k + 1) z.length) ++ [((k : Int), (k : Int) + 2)] := by
 rw [Nat.min_eq_left (by omega), Nat.min_eq_left (by omega), crL, if_pos]
 · have e1 : ((k + 1 : Nat) : Int) - 1 = k := by omega
   have e2 : ((k + 1 : Nat) : Int) + 1 = (k : Int) + 2 := by omega
   rw [e1, e2]
 · rw [bef_getD z k h.1, getD_same z (k + 1) h.1 0 1, Int.mul_comm]; exact h.2
theorem crInv_zero (z : List Int) : CrInv z 0 := by
 have e : crL z (min 1 z.length) = [] := by
  by_cases h : z.length = 0
  · rw [h]; rfl
  · rw [Nat.min_eq_left (by omega), crL, if_neg (by show ¬ _ * (0 : Int) < 0; rw [Int.mul_zero]; omega)]; rfl
 exact ⟨by rw [show 0 + 1 = 1 from rfl, e]; exact List.Perm.nil, fun h => absurd h (by omega), fun _ x hx => absurd hx List.not_mem_nil, fun x hx => absurd hx List.not_mem_nil, fun x hx => absurd hx List.not_mem_nil, List.Pairwise.nil⟩
theorem crInv_step (z : List Int) (k : Nat) (h : CrInv z k) : CrInv z (k + 1) := by
 have hk : ((k + 1 : Nat) : Int) = (k : Int) + 1 := by omega
 by_cases hz : z.getD k 1 = 0
 · have hno : ¬ (k + 1 < z.length ∧ z.getD k 1 * z.getD (k + 1) 1 < 0) := by rw [hz, Int.zero_mul]; omega
   have hB : ∀ l, crB z k l = l := fun l => by unfold crB; rw [if_neg hno]
   have hp : spL (fun k => z.getD k 1 == 0) (k + 1) = widL (spL (fun k => z.getD k 1 == 0) k) (k : Int) := by rw [spL, hz]; rfl
   have key : ∃ R R' f, crS z (k + 1) = R ++ [(f, (k : Int) + 1)] ∧ spL (fun k => z.getD k 1 == 0) (k + 1) = R' ++ [(f, (k : Int) + 1)] ∧ R.Perm (R' ++ crL z (min (k + 1) z.length)) ∧ (R ++ [(f, (k : Int) + 1)]).Pairwise (fun a b : Int × Int => a.1 < b.1) ∧ (∀ x ∈ R', x.2 ≤ (k : Int)) ∧ f ≤ (k : Int) := by
    rw [hp, crS, hB]
    unfold crA
    rw [if_pos hz]
    by_cases h1 : 0 < k ∧ z.getD (k - 1) 1 = 0
    · obtain ⟨R, R', f, e1, e2⟩ := h.zero h1.1 h1.2
      rw [if_pos h1, e1, e2, setL_app, widL_app]
      have hpm := h.perm
      rw [e1, e2] at hpm
      have hs := h.sort
      rw [e1] at hs
      refine ⟨R, R', f, rfl, rfl, perm_cut hpm, pw_last hs rfl, fun x hx => h.ends x (by rw [e2]; exact List.mem_append_left _ hx), ?_⟩
      have := h.first (f, (k : Int)) (by rw [e1]; exact List.mem_append_right _ (List.mem_singleton.2 rfl))
      simp at this; omega
    · rw [if_neg h1, widL_new _ _ (h.notz h1)]
      exact ⟨_, _, (k : Int), rfl, rfl, h.perm, pw_app h.sort h.first, h.ends, Int.le_refl _⟩
   obtain ⟨R, R', f, e1, e2, hpm, hs, he, hf⟩ := key
   refine ⟨?_, ?_, ?_, ?_, ?_, ?_⟩
   · rw [e1, e2, cr_none z k hno]; exact perm_end hpm
   · intro _ _; exact ⟨R, R', f, by rw [e1, hk], by rw [e2, hk]⟩
   · intro hn; exact absurd ⟨Nat.succ_pos k, by simpa using hz⟩ hn
   · intro x hx
     rw [e2, List.mem_append, List.mem_singleton] at hx
     rcases hx with hx | rfl
     · have := he x hx; omega
     · show (k : Int) + 1 ≤ _; omega
   · intro x hx
     rw [e1] at hx
     rw [List.mem_append, List.mem_singleton] at hx
     rcases hx with hx | rfl
     · rw [List.pairwise_append] at hs
       have := hs.2.2 x hx _ (List.mem_singleton.2 rfl)
       simp at this; omega
     · show f < _; omega
   · rw [e1]; exact hs
 · have hA : ∀ l, crA z k l = l := fun l => by unfold crA; rw [if_neg hz]
   have hp : spL (fun k => z.getD k 1 == 0) (k + 1) = spL (fun k => z.getD k 1 == 0) k := by
    rw [spL, if_neg]; simpa using hz
   have hzn : ¬ z.getD (k + 1 - 1) 1 = 0 := by simpa using hz
   by_cases hc : k + 1 < z.length ∧ z.getD k 1 * z.getD (k + 1) 1 < 0
   · have hS : crS z (k + 1) = crS z k ++ [((k : Int), (k : Int) + 2)] := by rw [crS, hA]; unfold crB; rw [if_pos hc]
     refine ⟨?_, fun _ e => absurd e hzn, ?_, ?_, ?_, ?_⟩
     · rw [hS, hp, cr_some z k hc, ← List.append_assoc]
       exact h.perm.append_right _
     · intro _ x hx; rw [hp] at hx; have := h.ends x hx; omega
     · intro x hx; rw [hp] at hx; have := h.ends x hx; omega
     · intro x hx
       rw [hS, List.mem_append, List.mem_singleton] at hx
       rcases hx with hx | rfl
       · have := h.first x hx; omega
       · show (k : Int) < _; omega
     · rw [hS]; exact pw_app h.sort h.first
   · have hS : crS z (k + 1) = crS z k := by rw [crS, hA]; unfold crB; rw [if_neg hc]
     refine ⟨?_, fun _ e => absurd e hzn, ?_, ?_, ?_, ?_⟩
     · rw [hS, hp, cr_none z k hc]; exact h.perm
     · intro _ x hx; rw [hp] at hx; have := h.ends x hx; omega
     · intro x hx; rw [hp] at hx; have := h.ends x hx; omega
     · intro x hx; rw [hS] at hx; have := h.first x hx; omega
     · rw [hS]; exact h.sort
theorem crInv_all (z : List Int) (k : Nat) : CrInv z k := by
 induction k with
 | zero => exact crInv_zero z
 | succ k ih => exact crInv_step z k ih
theorem pw_same {l : List (Int × Int)} (h : l.Pairwise fun a b : Int × Int => a.1 < b.1) {a b : Int × Int} (ha : a ∈ l) (hb : b ∈ l) (e : a.1 = b.1) : a = b := by
 induction l with
 | nil => cases ha
 | cons c l ih =>
   rw [List.pairwise_cons] at h
   rw [List.mem_cons] at ha hb
   rcases ha with rfl | ha <;> rcases hb with rfl | hb
   · rfl
   · have := h.1 b hb; omega
   · have := h.1 a ha; omega
   · exact ih h.2 ha hb
theorem crossings_same (z : List Int) (S : List (Int × Int)) (hp : S.Perm (spL (fun k => z.getD k 1 == 0) z.length ++ crL z z.length)) (hs : S.Pairwise (fun a b : Int × Int => a.1 ≤ b.1)) : S = crS z z.length := by
 have h := crInv_all z z.length
 have h1 := h.perm
 rw [Nat.min_eq_right (by omega)] at h1
 have h2 : S.Perm (crS z z.length) := hp.trans h1.symm
 refine List.Perm.eq_of_pairwise (le := fun a b : Int × Int => a.1 ≤ b.1) ?_ hs (h.sort.imp (fun {a b} g => Int.le_of_lt g)) h2
 intro a b ha hb g1 g2
 exact pw_same h.sort (h2.mem_iff.1 ha) hb (Int.le_antisymm g1 g2)
def ZR (z : List Int) (x : Int × Int) : Prop := z.getD x.1.toNat 1 = 0
structure CrP (z : List Int) (k : Nat) : Prop where
 ok : ∀ x ∈ crS z k, 0 ≤ x.1 ∧ x.1 < k ∧ ((ZR z x ∧ x.1 < x.2 ∧ x.2 ≤ k ∧ ∀ p : Nat, x.1 ≤ p → (p : Int) < x.2 → z.getD p 1 = 0) ∨ (¬ ZR z x ∧ x.2 = x.1 + 2 ∧ x.1 + 1 < z.length ∧ z.getD x.1.toNat 1 * z.getD (x.1.toNat + 1) 1 < 0))
 zs : ∀ p : Nat, p < k → z.getD p 1 = 0 → ∃ x ∈ crS z k, x.1 ≤ p ∧ (p : Int) < x.2 ∧ ZR z x
 cs : ∀ p : Nat, p < k → p + 1 < z.length → z.getD p 1 * z.getD (p + 1) 1 < 0 → ((p : Int), (p : Int) + 2) ∈ crS z k
 pw : (crS z k).Pairwise fun a b : Int × Int => a.1 < b.1 ∧ (ZR z a → a.2 ≤ b.1)
theorem pwz_app {z : List Int} {l : List (Int × Int)} {p : Int × Int} (h : l.Pairwise fun a b : Int × Int => a.1 < b.1 ∧ (ZR z a → a.2 ≤ b.1)) (hp : ∀ x ∈ l, x.1 < p.1 ∧ (ZR z x → x.2 ≤ p.1)) : (l ++ [p]).Pairwise fun a b : Int × Int => a.1 < b.1 ∧ (ZR z a → a.2 ≤ b.1) := by
 rw [List.pairwise_append]
 exact ⟨h, List.pairwise_singleton _ _, fun a ha b hb => by rw [List.mem_singleton] at hb; subst hb; exact hp a ha⟩
theorem crP_zero (z : List Int) : CrP z 0 :=
 ⟨fun x hx => absurd hx List.not_mem_nil, fun p hp => absurd hp (by omega), fun p hp => absurd hp (by omega), List.Pairwise.nil⟩
theorem crP_step (z : List Int) (k : Nat) (hk : k < z.length) (h : CrP z k) : CrP z (k + 1) := by
 have hk1 : ((k + 1 : Nat) : Int) = (k : Int) + 1 := by omega
 by_cases hz : z.getD k 1 = 0
 · have hno : ¬ (k + 1 < z.length ∧ z.getD k 1 * z.getD (k + 1) 1 < 0) := by rw [hz, Int.zero_mul]; omega
   have hB : ∀ l, crB z k l = l := fun l => by unfold crB; rw [if_neg hno]
   have hS : crS z (k + 1) = crA z k (crS z k) := by rw [crS, hB]
   by_cases h1 : 0 < k ∧ z.getD (k - 1) 1 = 0
   · obtain ⟨R, R', f, e1, -⟩ := (crInv_all z k).zero h1.1 h1.2
     have e2 : crS z (k + 1) = R ++ [(f, (k : Int) + 1)] := by
      rw [hS]; unfold crA; rw [if_pos hz, if_pos h1, e1, setL_app]
     have hm : (f, (k : Int)) ∈ crS z k := by rw [e1]; simp
     obtain ⟨o1, o2, o3⟩ := h.ok _ hm
     have o4 : ZR z (f, (k : Int)) ∧ f < (k : Int) ∧ ∀ p : Nat, f ≤ p → (p : Int) < (k : Int) → z.getD p 1 = 0 := by
      rcases o3 with ⟨a, b, _, d⟩ | ⟨a, b, c, d⟩
      · exact ⟨a, b, d⟩
      · exfalso
        dsimp only at b c d o1
        have e : f.toNat + 1 = k - 1 := by omega
        rw [e, h1.2, Int.mul_zero] at d
        omega
     have hR : ∀ x ∈ R, x ∈ crS z k := fun x hx => by rw [e1]; exact List.mem_append_left _ hx
     have hpw := h.pw
     rw [e1, List.pairwise_append] at hpw
     refine ⟨?_, ?_, ?_, ?_⟩
     · intro x hx
       rw [e2, List.mem_append, List.mem_singleton] at hx
       rcases hx with hx | rfl
       · obtain ⟨a, b, c⟩ := h.ok x (hR x hx)
         refine ⟨a, by omega, ?_⟩
         rcases c with ⟨c1, c2, c3, c4⟩ | c
         · exact .inl ⟨c1, c2, by omega, c4⟩
         · exact .inr c
       · refine ⟨o1, by dsimp only; omega, .inl ⟨o4.1, by dsimp only; omega, by dsimp only; omega, fun p hp hp2 => ?_⟩⟩
         dsimp only at hp hp2
         by_cases hpk : (p : Int) < (k : Int)
         · exact o4.2.2 p hp hpk
         · have : p = k := by omega
           rw [this]; exact hz
     · intro p hp hpz
       by_cases hpk : p < k
       · obtain ⟨x, hx, a, b, c⟩ := h.zs p hpk hpz
         rw [e1, List.mem_append, List.mem_singleton] at hx
         rcases hx with hx | rfl
         · exact ⟨x, by rw [e2]; exact List.mem_append_left _ hx, a, b, c⟩
         · exact ⟨(f, (k : Int) + 1), by rw [e2]; simp, a, by dsimp only at b ⊢; omega, o4.1⟩
       · have : p = k := by omega
         subst this
         exact ⟨(f, (p : Int) + 1), by rw [e2]; simp, by dsimp only; omega, by dsimp only; omega, o4.1⟩
     · intro p hp hpl hpc
       by_cases hpk : p < k
       · have hx := h.cs p hpk hpl hpc
         rw [e1, List.mem_append, List.mem_singleton] at hx
         rcases hx with hx | hx
         · rw [e2]; exact List.mem_append_left _ hx
         · exfalso
           have hf : f = (p : Int) := by have := congrArg Prod.fst hx; dsimp only at this; omega
           have hq := o4.2.2 p (by omega) (by omega)
           rw [hq, Int.zero_mul] at hpc
           omega
       · have : p = k := by omega
         rw [this, hz, Int.zero_mul] at hpc
         omega
     · rw [e2]
       exact pwz_app hpw.1 (fun x hx => hpw.2.2 x hx (f, (k : Int)) (List.mem_singleton.2 rfl))
   · have e2 : crS z (k + 1) = crS z k ++ [((k : Int), (k : Int) + 1)] := by
      rw [hS]; unfold crA; rw [if_pos hz, if_neg h1]
     have hzr : ZR z ((k : Int), (k : Int) + 1) := hz
     refine ⟨?_, ?_, ?_, ?_⟩
     · intro x hx
       rw [e2, List.mem_append, List.mem_singleton] at hx
       rcases hx with hx | rfl
       · obtain ⟨a, b, c⟩ := h.ok x hx
         refine ⟨a, by omega, ?_⟩
         rcases c with ⟨c1, c2, c3, c4⟩ | c
         · exact .inl ⟨c1, c2, by omega, c4⟩
         · exact .inr c
       · refine ⟨by dsimp only; omega, by dsimp only; omega, .inl ⟨hzr, by dsimp only; omega, by dsimp only; omega, fun p hp hp2 => ?_⟩⟩
         dsimp only at hp hp2
         have : p = k := by omega
         rw [this]; exact hz
     · intro p hp hpz
       by_cases hpk : p < k
       · obtain ⟨x, hx, a, b, c⟩ := h.zs p hpk hpz
         exact ⟨x, by rw [e2]; exact List.mem_append_left _ hx, a, b, c⟩
       · have : p = k := by omega
         subst this
         exact ⟨((p : Int), (p : Int) + 1), by rw [e2]; simp, by dsimp only; omega, by dsimp only; omega, hzr⟩
     · intro p hp hpl hpc
       by_cases hpk : p < k
       · rw [e2]; exact List.mem_append_left _ (h.cs p hpk hpl hpc)
       · have : p = k := by omega
         rw [this, hz, Int.zero_mul] at hpc
         omega
     · rw [e2]
       refine pwz_app h.pw (fun x hx => ?_)
       obtain ⟨a, b, c⟩ := h.ok x hx
       refine ⟨b, fun hr => ?_⟩
       rcases c with ⟨c1, c2, c3, c4⟩ | ⟨c, _⟩
       · exact c3
       · exact absurd hr c
 · have hA : ∀ l, crA z k l = l := fun l => by unfold crA; rw [if_neg hz]
   by_cases hc : k + 1 < z.length ∧ z.getD k 1 * z.getD (k + 1) 1 < 0
   · have e2 : crS z (k + 1) = crS z k ++ [((k : Int), (k : Int) + 2)] := by rw [crS, hA]; unfold crB; rw [if_pos hc]
     have hzr : ¬ ZR z ((k : Int), (k : Int) + 2) := hz
     refine ⟨?_, ?_, ?_, ?_⟩
     · intro x hx
       rw [e2, List.mem_append, List.mem_singleton] at hx
       rcases hx with hx | rfl
       · obtain ⟨a, b, c⟩ := h.ok x hx
         refine ⟨a, by omega, ?_⟩
         rcases c with ⟨c1, c2, c3, c4⟩ | c
         · exact .inl ⟨c1, c2, by omega, c4⟩
         · exact .inr c
       · exact ⟨by dsimp only; omega, by dsimp only; omega, .inr ⟨hzr, rfl, by dsimp only; omega, hc.2⟩⟩
     · intro p hp hpz
       by_cases hpk : p < k
       · obtain ⟨x, hx, a, b, c⟩ := h.zs p hpk hpz
         exact ⟨x, by rw [e2]; exact List.mem_append_left _ hx, a, b, c⟩
       · have : p = k := by omega
         rw [this] at hpz; exact absurd hpz hz
     · intro p hp hpl hpc
       by_cases hpk : p < k
       · rw [e2]; exact List.mem_append_left _ (h.cs p hpk hpl hpc)
       · have : p = k := by omega
         subst this
         rw [e2]; simp
     · rw [e2]
       refine pwz_app h.pw (fun x hx => ?_)
       obtain ⟨a, b, c⟩ := h.ok x hx
       refine ⟨b, fun hr => ?_⟩
       rcases c with ⟨c1, c2, c3, c4⟩ | ⟨c, _⟩
       · exact c3
       · exact absurd hr c
   · have e2 : crS z (k + 1) = crS z k := by rw [crS, hA]; unfold crB; rw [if_neg hc]
     refine ⟨?_, ?_, ?_, ?_⟩
     · intro x hx
       rw [e2] at hx
       obtain ⟨a, b, c⟩ := h.ok x hx
       refine ⟨a, by omega, ?_⟩
       rcases c with ⟨c1, c2, c3, c4⟩ | c
       · exact .inl ⟨c1, c2, by omega, c4⟩
       · exact .inr c
     · intro p hp hpz
       by_cases hpk : p < k
       · rw [e2]; exact h.zs p hpk hpz
       · have : p = k := by omega
         rw [this] at hpz; exact absurd hpz hz
     · intro p hp hpl hpc
       by_cases hpk : p < k
       · rw [e2]; exact h.cs p hpk hpl hpc
       · have : p = k := by omega
         subst this
         exact absurd ⟨hpl, hpc⟩ hc
     · rw [e2]; exact h.pw
theorem crP_all (z : List Int) : ∀ k, k ≤ z.length → CrP z k
 | 0, _ => crP_zero z
 | k + 1, h => crP_step z k (by omega) (crP_all z k (by omega))
structure ChI (z : List Int) (S : List (Int × Int)) (j i : Nat) : Prop where
 le : i ≤ z.length
 far : ∀ x ∈ S.drop j, (i : Int) ≤ x.1
 zs : ∀ p : Nat, i ≤ p → p < z.length → z.getD p 1 = 0 → ∃ x ∈ S.drop j, x.1 ≤ p ∧ (p : Int) < x.2 ∧ ZR z x
 cs : ∀ p : Nat, i ≤ p → p + 1 < z.length → z.getD p 1 * z.getD (p + 1) 1 < 0 → ((p : Int), (p : Int) + 2) ∈ S.drop j
theorem chI_zero {z : List Int} {S : List (Int × Int)} (hS : S = crS z z.length) : ChI z S 0 0 := by
 have h := crP_all z z.length (Nat.le_refl _)
 subst hS
 exact ⟨by omega, fun x hx => (h.ok x hx).1, fun p _ hp hz => h.zs p hp hz, fun p _ hp hz => h.cs p (by omega) hp hz⟩
theorem chI_at {z : List Int} {S : List (Int × Int)} (hS : S = crS z z.length) {j : Nat} (hj : j < S.length) : 0 ≤ S[j].1 ∧ S[j].1 < S[j].2 ∧ S[j].2 ≤ z.length ∧ ((ZR z S[j] ∧ ∀ p : Nat, S[j].1 ≤ p → (p : Int) < S[j].2 → z.getD p 1 = 0) ∨ (¬ ZR z S[j] ∧ S[j].2 = S[j].1 + 2 ∧ z.getD S[j].1.toNat 1 * z.getD (S[j].1.toNat + 1) 1 < 0)) := by
 have hs := (crP_all z z.length (Nat.le_refl _)).ok S[j] (by rw [← hS]; exact List.getElem_mem hj)
 obtain ⟨a, b, c⟩ := hs
 rcases c with ⟨c1, c2, c3, c4⟩ | ⟨c1, c2, c3, c4⟩
 · exact ⟨a, c2, c3, .inl ⟨c1, c4⟩⟩
 · exact ⟨a, by omega, by omega, .inr ⟨c1, c2, c4⟩⟩
theorem chI_none {z : List Int} {S : List (Int × Int)} (hS : S = crS z z.length) {j i p : Nat} (h : ChI z S j i) (hj : j < S.length) (h1 : i ≤ p) (h2 : (p : Int) < S[j].1) : z.getD p 1 ≠ 0 ∧ ¬ (p + 1 < z.length ∧ z.getD p 1 * z.getD (p + 1) 1 < 0) := by
 have hp := (crP_all z z.length (Nat.le_refl _)).pw
 rw [← hS] at hp
 have hd : ∀ x ∈ S.drop j, S[j].1 ≤ x.1 := fun x hx => by
  rw [List.drop_eq_getElem_cons hj, List.mem_cons] at hx
  rcases hx with rfl | hx
  · exact Int.le_refl _
  · have h3 : (S.drop j).Pairwise fun a b : Int × Int => a.1 < b.1 ∧ (ZR z a → a.2 ≤ b.1) := hp.sublist (List.drop_sublist _ _)
    rw [List.drop_eq_getElem_cons hj, List.pairwise_cons] at h3
    have := (h3.1 x hx).1
    omega
 have hl := (chI_at hS hj).2.2.1
 have hl2 := (chI_at hS hj).2.1
 refine ⟨fun hz => ?_, fun ⟨hl3, hc⟩ => ?_⟩
 · obtain ⟨x, hx, a, b, c⟩ := h.zs p h1 (by omega) hz
   have := hd x hx
   omega
 · have := hd _ (h.cs p h1 hl3 hc)
   dsimp only at this
   omega
theorem chI_next {z : List Int} {S : List (Int × Int)} (hS : S = crS z z.length) {j i m : Nat} (h : ChI z S j i) (hj : j < S.length) (hm : (ZR z S[j] → (m : Int) = S[j].2) ∧ (¬ ZR z S[j] → (m : Int) = S[j].1 + 1)) : ChI z S (j + 1) m := by
 have hp := (crP_all z z.length (Nat.le_refl _)).pw
 rw [← hS] at hp
 obtain ⟨a1, a2, a3, a4⟩ := chI_at hS hj
 have h3 : (S.drop j).Pairwise fun a b : Int × Int => a.1 < b.1 ∧ (ZR z a → a.2 ≤ b.1) := hp.sublist (List.drop_sublist _ _)
 rw [List.drop_eq_getElem_cons hj, List.pairwise_cons] at h3
 have hi : (i : Int) ≤ S[j].1 := h.far S[j] (by rw [List.drop_eq_getElem_cons hj]; exact List.mem_cons_self)
 by_cases hr : ZR z S[j]
 · have e := hm.1 hr
   refine ⟨by omega, fun x hx => ?_, fun p h1 h2 hz => ?_, fun p h1 h2 hc => ?_⟩
   · have := (h3.1 x hx).2 hr; omega
   · obtain ⟨x, hx, b, c, d⟩ := h.zs p (by omega) h2 hz
     rw [List.drop_eq_getElem_cons hj, List.mem_cons] at hx
     rcases hx with rfl | hx
     · omega
     · exact ⟨x, hx, b, c, d⟩
   · have hx := h.cs p (by omega) h2 hc
     rw [List.drop_eq_getElem_cons hj, List.mem_cons] at hx
     rcases hx with hx | hx
     · have := congrArg Prod.fst hx; dsimp only at this; omega
     · exact hx
 · have e := hm.2 hr
   refine ⟨by omega, fun x hx => ?_, fun p h1 h2 hz => ?_, fun p h1 h2 hc => ?_⟩
   · have := (h3.1 x hx).1; omega
   · obtain ⟨x, hx, b, c, d⟩ := h.zs p (by omega) h2 hz
     rw [List.drop_eq_getElem_cons hj, List.mem_cons] at hx
     rcases hx with rfl | hx
     · exact absurd d hr
     · exact ⟨x, hx, b, c, d⟩
   · have hx := h.cs p (by omega) h2 hc
     rw [List.drop_eq_getElem_cons hj, List.mem_cons] at hx
     rcases hx with hx | hx
     · have := congrArg Prod.fst hx; dsimp only at this; omega
     · exact hx
theorem chI_end {z : List Int} {S : List (Int × Int)} {i p : Nat} (h : ChI z S S.length i) (h1 : i ≤ p) (h2 : p < z.length) : z.getD p 1 ≠ 0 ∧ ¬ (p + 1 < z.length ∧ z.getD p 1 * z.getD (p + 1) 1 < 0) := by
 refine ⟨fun hz => ?_, fun ⟨hl3, hc⟩ => ?_⟩
 · obtain ⟨x, hx, _⟩ := h.zs p h1 h2 hz
   rw [List.drop_of_length_le (Nat.le_refl _)] at hx
   cases hx
 · have hx := h.cs p h1 hl3 hc
   rw [List.drop_of_length_le (Nat.le_refl _)] at hx
   cases hx
end Go.Proofs.YtaknlhepgeiekaaGreatDoor
