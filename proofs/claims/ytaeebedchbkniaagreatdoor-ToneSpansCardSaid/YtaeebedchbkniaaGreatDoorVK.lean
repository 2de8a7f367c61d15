import Derived.Test.YtaeebedchbkniaaGreatDoorVJ
namespace Go.Proofs.YtaeebedchbkniaaGreatDoor
set_option linter.all false
open Go.RowKit Go.Fl

def setL (l : List (Int × Int)) (t : Int) : List (Int × Int) := match l.getLast? with
 | some p => l.dropLast ++ [(p.1, t)]
 | none => l
def crA (z : List Int) (k : Nat) (l : List (Int × Int)) : List (Int × Int) := if z.getD k 1 = 0 then (if 0 < k ∧ z.getD (k - 1) 1 = 0 then setL l ((k : Int) + 1) else l ++ [((k : Int), (k : Int) + 1)]) else l
def crB (z : List Int) (k : Nat) (l : List (Int × Int)) : List (Int × Int) := if k + 1 < z.length ∧ z.getD k 1 * z.getD (k + 1) 1 < 0 then l ++ [((k : Int), (k : Int) + 2)] else l
def crS (z : List Int) : Nat → List (Int × Int)
 | 0 => []
 | k + 1 => crB z k (crA z k (crS z k))
theorem setL_app (l : List (Int × Int)) (p : Int × Int) (t : Int) : setL (l ++ [p]) t = l ++ [(p.1, t)] := by unfold setL; simp
theorem crA_len (z : List Int) (k : Nat) (l : List (Int × Int)) : (crA z k l).length ≤ l.length + 1 := by
 unfold crA setL
 split
 · split
   · split
     · simp
     · omega
   · simp
 · omega
theorem crB_len (z : List Int) (k : Nat) (l : List (Int × Int)) : (crB z k l).length ≤ l.length + 1 := by
 unfold crB
 split
 · simp
 · omega
theorem crS_len (z : List Int) (k : Nat) : (crS z k).length ≤ 2 * k := by
 induction k with
 | zero => exact Nat.le_refl _
 | succ k ih =>
   have h1 := crB_len z k (crA z k (crS z k)); have h2 := crA_len z k (crS z k)
   rw [crS]; omega
theorem crS_last (z : List Int) (k : Nat) (h : z.getD k 1 = 0) : ∃ R f, crS z (k + 1) = R ++ [(f, (k : Int) + 1)] := by
 have hb : ∀ l, crB z k l = l := fun l => by unfold crB; rw [h, Int.zero_mul]; simp
 have key : ∀ m, m ≤ k → z.getD m 1 = 0 → ∃ R f, crS z (m + 1) = R ++ [(f, (m : Int) + 1)] := by
  intro m
  induction m with
  | zero =>
    intro _ h0
    refine ⟨[], 0, ?_⟩
    have hb0 : ∀ l, crB z 0 l = l := fun l => by unfold crB; rw [h0, Int.zero_mul]; simp
    rw [crS, hb0]
    unfold crA
    rw [if_pos h0, if_neg (by omega)]
    rfl
  | succ m ih =>
    intro hm h0
    have hb0 : ∀ l, crB z (m + 1) l = l := fun l => by unfold crB; rw [h0, Int.zero_mul]; simp
    rw [crS, hb0]
    unfold crA
    rw [if_pos h0]
    by_cases h1 : z.getD m 1 = 0
    · obtain ⟨R, f, e⟩ := ih (by omega) h1
      rw [if_pos ⟨by omega, by simpa using h1⟩, e, setL_app]
      exact ⟨R, f, rfl⟩
    · rw [if_neg (by simp only [Nat.add_sub_cancel]; exact fun h => h1 h.2)]
      exact ⟨_, _, rfl⟩
 exact key k (Nat.le_refl _) h
set_option maxRecDepth 100000 in
set_option maxHeartbeats 16000000 in
theorem crossingsR_any (A : Option Addr) (c : Nat) (L : List Sg) (w : World) (hA : Rd w A (sgC L)) (hm : L.length ≤ 1000000) (hg : ∀ s ∈ L, SigG s.a s.b s.c s.d s.x s.y) :
 Calls Tryz.prog 25 #[.slice A L.length c] w fun e w' => ∃ v, e = .returned v ∧ w'.ownsRow w.heap.size 111 2 v (crS (L.map sgn) L.length).length (spanC (crS (L.map sgn) L.length)) ∧ Below w.heap.size w w' := by
 have HA := Lib.hid hA; have HG := Lib.hid hg
 obtain ⟨n, hn⟩ : ∃ n, n = L.length := ⟨_, rfl⟩
 obtain ⟨z, hz⟩ : ∃ z, z = L.map sgn := ⟨_, rfl⟩
 have HN := Lib.hid hn; have HZ := Lib.hid hz
 have hzl : z.length = n := by rw [hz, hn]; simp
 have Hzl := Lib.hid hzl
 rw [← hz, ← hn]
 rw [← hn] at hm
 have Hm := Lib.hid hm
 clear hA hg hn hz hzl hm
 obtain ⟨i0, hi0, hz0, hz1, hz2⟩ := info_parts info94
 go_enter Tryz.func25, Tryz.ntmps25
 go_wp2_with fail
 go_loopw [3, 4] (fun v i wr => ∃ k : Nat, k ≤ n ∧ i = .int .i64 k ∧ Hid (wr.ownsRow w.heap.size 111 2 v (crS z k).length (spanC (crS z k))) ∧ Hid (Below w.heap.size w wr)) (fun _ i _ => n - (intOf i).toNat)
 case atStart => exact ⟨0, Nat.zero_le _, rfl, World.ownsRow_nil _ _ _ _, Below.refl _ _⟩
 case round =>
  rename_i v _ wr
  obtain ⟨k, hk, rfl, Ho, Hb⟩ := hrel
  by_cases hlt : k < n
  · have hltL : k < L.length := by rw [← HN.out]; exact hlt
    obtain ⟨b0, off, rfl, -⟩ := Rd.sg (HA.out.below Hb.out) hltL
    have cellsAt : ∀ (j : Nat) (hj : j < L.length) (W0 : World), Below w.heap.size w W0 → ∀ V, Below W0.heap.size W0 V → V.cell? ⟨b0, off + j * 6, none⟩ = some (.int .i64 L[j].a) ∧ V.cell? ⟨b0, off + j * 6 + 1, none⟩ = some (.int .i64 L[j].b) ∧ V.cell? ⟨b0, off + j * 6 + 2, none⟩ = some (.int .i64 L[j].c) ∧ V.cell? ⟨b0, off + j * 6 + 3, none⟩ = some (.int .i64 L[j].d) ∧ V.cell? ⟨b0, off + j * 6 + 4, none⟩ = some (.int .i64 L[j].x) ∧ V.cell? ⟨b0, off + j * 6 + 5, none⟩ = some (.int .i64 L[j].y) := fun j hj W0 h0 V hV => by
     obtain ⟨b1, o1, e1, h1⟩ := Rd.sg (HA.out.below (h0.trans (hV.mono h0.size))) hj
     cases e1
     exact h1
    have signAt : ∀ (j : Nat) (hj : j < L.length), ∀ W, Calls Tryz.prog 90 #[.agg #[.int .i64 L[j].a, .int .i64 L[j].b, .int .i64 L[j].c, .int .i64 L[j].d, .int .i64 L[j].x, .int .i64 L[j].y]] W fun e w' => e = .returned (.int .i64 (z.getD j 1)) ∧ Below W.heap.size W w' := fun j hj W => by
     have h := signR_any L[j].a L[j].b L[j].c L[j].d L[j].x L[j].y (nS L[j]) W (fun W => by have g := HG.out L[j] (List.getElem_mem hj); exact differenceR_any _ _ _ _ _ _ W g.g1 g.g2 g.g3)
     have e : z.getD j 1 = cmpI (nS L[j]) 0 := by rw [HZ.out, List.getD_eq_getElem?_getD, List.getElem?_map, List.getElem?_eq_getElem hj]; rfl
     rw [e]
     exact h
    have CA := Lib.hid cellsAt; have SA := Lib.hid signAt
    have hll := crS_len z k
    have Hll : Hid ((crS z k).length ≤ 2000000) := Lib.hid (by have := Hm.out; omega)
    have Hlt := Lib.hid hlt
    have hltI : (k : Int) < (n : Int) := by omega
    clear cellsAt signAt hll hlt
    obtain ⟨sk, hsk⟩ : ∃ s, s = L[k] := ⟨_, rfl⟩
    have HEsk : Hid (∀ V, Below wr.heap.size wr V → V.cell? ⟨b0, off + k * 6, none⟩ = some (.int .i64 sk.a) ∧ V.cell? ⟨b0, off + k * 6 + 1, none⟩ = some (.int .i64 sk.b) ∧ V.cell? ⟨b0, off + k * 6 + 2, none⟩ = some (.int .i64 sk.c) ∧ V.cell? ⟨b0, off + k * 6 + 3, none⟩ = some (.int .i64 sk.d) ∧ V.cell? ⟨b0, off + k * 6 + 4, none⟩ = some (.int .i64 sk.x) ∧ V.cell? ⟨b0, off + k * 6 + 5, none⟩ = some (.int .i64 sk.y)) := by rw [hsk]; exact CA.out k hltL wr Hb.out
    obtain ⟨zk, hzk⟩ : ∃ y, y = z.getD k 1 := ⟨_, rfl⟩
    have HSk : Hid (∀ W, Calls Tryz.prog 90 #[.agg #[.int .i64 sk.a, .int .i64 sk.b, .int .i64 sk.c, .int .i64 sk.d, .int .i64 sk.x, .int .i64 sk.y]] W fun e w' => e = .returned (.int .i64 zk) ∧ Below W.heap.size W w') := by rw [hsk, hzk]; exact SA.out k hltL
    have Hzk := Lib.hid hzk; have Hsk := Lib.hid hsk
    clear hzk hsk
    obtain ⟨q0, q1, q2, q3, q4, q5⟩ := HEsk.out wr (Below.refl _ _)
    go_upto_if 16 with (go_at_call 90; refine (HSk.out _).mono ?_; rintro e w2 ⟨rfl, hb_w2⟩; have Hb2 := Lib.hid (Hb.out.trans (hb_w2.mono Hb.out.size)); have Ho2 := Lib.hid (own_keep Ho.out hb_w2); clear hb_w2)
    clear q0 q1 q2 q3 q4 q5 HEsk Ho Hb
    go_cut [3] from 11 to 43 (fun s3 wx => Hid (wx.ownsRow w.heap.size 111 2 s3 (crA z k (crS z k)).length (spanC (crA z k (crS z k)))) ∧ Hid (Below w.heap.size w wx))
    case first =>
     by_cases h0 : zk = 0
     · subst h0
       have hz0' : z.getD k 1 = 0 := Hzk.out.symm
       have hkk : k = 0 ∨ ∃ j, k = j + 1 := by cases k with | zero => exact .inl rfl | succ j => exact .inr ⟨j, rfl⟩
       rcases hkk with hk0 | ⟨j, hj⟩
       · have hcr : crA z k (crS z k) = crS z k ++ [((k : Int), (k : Int) + 1)] := by unfold crA; rw [if_pos hz0', if_neg (by omega)]
         have Hcr := Lib.hid hcr
         have hkn : ¬ 0 < k := by omega
         have eK : IntKind.i64.wrap ((k : Int) + 1) = (k : Int) + 1 := IntWalk.i64_in _ (by have := Hm.out; omega)
         clear hcr hz0' hk0
         obtain ⟨VA, VC, rfl⟩ := own_slice Ho2.out
         go_wp2_with (at_builtin; refine wpList_append_own_at _ rfl _ _ 55 rfl w.heap.size 111 i0 (.agg #[.int .i64 0, .int .i64 0]) 2 16 Tryz.underlying55 hi0 hz0 hz1 hz2 rfl (by decide) _ (crS z k).length (spanC (crS z k)) rfl (Ho2.out.alloc _) ⟨w2.heap.size, 0, none⟩ 1 1 [.int .i64 (k : Int), .int .i64 ((k : Int) + 1)] rfl rfl (news2 _ _ _ _ _ rfl) (by simp [Value.oneCell']) ?c3 ?c4 ?c5 ?_)
         case c3 => have q1 := Hll.out; unfold maxLen; omega
         case c4 => have q1 := Hll.out; first | omega | (unfold maxLen; omega)
         case c5 => simp; try (have q2 := Hb2.out.size; omega)
         intro v' w1 ho hg2 _ hat
         have hst : Step w2 w1 _ v' := Step.of_alloc hg2 (by rw [World.size_alloc]; exact hat)
         have Ho1 : Hid (w1.ownsRow w.heap.size 111 2 v' ((crS z k) ++ [((k : Int), (k : Int) + 1)]).length (spanC ((crS z k) ++ [((k : Int), (k : Int) + 1)]))) := by
          unfold Hid; rw [spanC_app]
          have e : ((crS z k) ++ [((k : Int), (k : Int) + 1)]).length = (crS z k).length + 1 := by simp
          rw [e]; exact ho
         have Hb1 : Hid (Below w.heap.size w w1) := Hb2.out.trans (hst.below Ho2.out Hb2.out.size)
         clear ho hg2 hat hst
         go_wp2_with fail
         go_meet
         exact ⟨by rw [Hcr.out]; exact Ho1, Hb1⟩
       · have hkp : 0 < k := by omega
         have hjL : j < L.length := by omega
         obtain ⟨sj, hsj⟩ : ∃ s, s = L[j] := ⟨_, rfl⟩
         have HEj : Hid (∀ V, Below w2.heap.size w2 V → V.cell? ⟨b0, off + j * 6, none⟩ = some (.int .i64 sj.a) ∧ V.cell? ⟨b0, off + j * 6 + 1, none⟩ = some (.int .i64 sj.b) ∧ V.cell? ⟨b0, off + j * 6 + 2, none⟩ = some (.int .i64 sj.c) ∧ V.cell? ⟨b0, off + j * 6 + 3, none⟩ = some (.int .i64 sj.d) ∧ V.cell? ⟨b0, off + j * 6 + 4, none⟩ = some (.int .i64 sj.x) ∧ V.cell? ⟨b0, off + j * 6 + 5, none⟩ = some (.int .i64 sj.y)) := by rw [hsj]; exact CA.out j hjL w2 Hb2.out
         obtain ⟨zj, hzj⟩ : ∃ y, y = z.getD j 1 := ⟨_, rfl⟩
         have HSj : Hid (∀ W, Calls Tryz.prog 90 #[.agg #[.int .i64 sj.a, .int .i64 sj.b, .int .i64 sj.c, .int .i64 sj.d, .int .i64 sj.x, .int .i64 sj.y]] W fun e w' => e = .returned (.int .i64 zj) ∧ Below W.heap.size W w') := by rw [hsj, hzj]; exact SA.out j hjL
         have hj1 : k - 1 = j := by omega
         have hmx : max (k : Int) 1 = (k : Int) := by omega
         have e1 : IntKind.i64.wrap ((k : Int) - 1) = (j : Int) := by rw [show (k : Int) - 1 = (j : Int) by omega]; exact IntWalk.i64_in _ (by have := Hm.out; omega)
         have hjn : (j : Int) < (n : Int) := by omega
         have hjn2 : j < n := by omega
         obtain ⟨q0, q1, q2, q3, q4, q5⟩ := HEj.out w2 (Below.refl _ _)
         have Hj := Lib.hid hj
         clear hsj
         have Hjz := Lib.hid hzj
         by_cases hj0 : zj = 0
         · subst hj0
           have hcr : crA z k (crS z k) = setL (crS z k) ((k : Int) + 1) := by unfold crA; rw [if_pos hz0', if_pos ⟨hkp, by rw [hj1]; exact hzj.symm⟩]
           obtain ⟨R, sf, hR⟩ := crS_last z j hzj.symm
           have hcon : crS z k = R ++ [(sf, (j : Int) + 1)] := by rw [hj]; exact hR
           replace hcr : crA z k (crS z k) = R ++ [(sf, (k : Int) + 1)] := hcr.trans (by rw [hcon, setL_app])
           rw [hcon] at Hll
           have hown := Ho2.out
           rw [hcon] at hown
           obtain ⟨g, cap, rfl, hBg, hgs⟩ := ownsRow.addr hown (by simp)
           have hlen : (R ++ [(sf, (j : Int) + 1)]).length = R.length + 1 := by simp
           rw [hlen] at hown
           have hml : R.length ≤ 2000000 := by have q1 := Hll.out; rw [hlen] at q1; omega
           have HF : Hid (∀ V, Below w2.heap.size w2 V → V.ownsRow w.heap.size 111 2 (.slice (some ⟨g, 0, none⟩) (R.length + 1) cap) (R.length + 1) (spanC (R ++ [(sf, (j : Int) + 1)]))) := fun V hV => own_keep hown hV
           have hgw : Hid (w.heap.size ≤ g) := hBg
           obtain ⟨m, hmR⟩ : ∃ m, R.length = m := ⟨_, rfl⟩
           have Hcr := Lib.hid hcr; have HmR := Lib.hid hmR
           rw [hmR] at hml hlen HF
           rw [hlen]
           have Hml := Lib.hid hml
           clear hcr hmR hown hcon hR hlen hml hj hzj hj1 hz0' Ho2 Hll hBg hgs
           have hp0 : (0 : Int) < (m : Int) + 1 := by omega
           have hp1 : (m : Int) < (m : Int) + 1 := by omega
           have hp2 : m < m + 1 := by omega
           have h1 : IntKind.i64.wrap ((m : Int) + 1 - 1) = (m : Int) := by rw [show (m : Int) + 1 - 1 = m by omega]; exact IntWalk.i64_in _ (by have := Hml.out; omega)
           have h1b : IntKind.i64.wrap (m : Int) = (m : Int) := IntWalk.i64_in _ (by have := Hml.out; omega)
           have eK : IntKind.i64.wrap ((k : Int) + 1) = (k : Int) + 1 := IntWalk.i64_in _ (by have := Hm.out; omega)
           go_wp2_with (go_at_call 90; refine (HSj.out _).mono ?_; rintro e w3 ⟨rfl, hb_w3⟩; have Hb5 := Lib.hid (Hb2.out.trans (hb_w3.mono Hb2.out.size)); have Hw5 := Lib.hid (HF.out w3 hb_w3); have hfree := Hw5.out.frozenAt (m * 2 + 1); have hcell : w3.cell? ⟨g, m * 2 + 1, none⟩ = some (.int .i64 ((j : Int) + 1)) := (by have q := Hw5.out.cellAt (m * 2 + 1) (by omega); rw [q, spanC_app, List.getElem?_append_right (by rw [spanC_length, HmR.out]; omega), spanC_length, HmR.out, show m * 2 + 1 - m * 2 = 1 by omega]; rfl); clear hb_w3)
           have h := Hw5.out.stored (m * 2 + 1) (.int .i64 ((k : Int) + 1))
           have e2 : (spanC (R ++ [(sf, (j : Int) + 1)])).set (m * 2 + 1) (.int .i64 ((k : Int) + 1)) = spanC (R ++ [(sf, (k : Int) + 1)]) := by
            rw [spanC_app, spanC_app, List.set_append_right _ _ (by rw [spanC_length, HmR.out]; omega), spanC_length, HmR.out, show m * 2 + 1 - m * 2 = 1 by omega]
            rfl
           rw [e2] at h
           go_meet
           exact ⟨by show World.ownsRow _ _ _ _ _ _ _; rw [Hcr.out, show (R ++ [(sf, (k : Int) + 1)]).length = m + 1 by rw [← HmR.out]; simp]; exact h.1, Below.setCell Hb5.out (show w.heap.size ≤ g from hgw.out) _⟩
         · have hcr : crA z k (crS z k) = crS z k ++ [((k : Int), (k : Int) + 1)] := by unfold crA; rw [if_pos hz0', if_neg (fun h => hj0 (by rw [hzj, ← hj1]; exact h.2))]
           have Hcr := Lib.hid hcr
           have hjb : (zj == 0) = false := by simpa using hj0
           have eK : IntKind.i64.wrap ((k : Int) + 1) = (k : Int) + 1 := IntWalk.i64_in _ (by have := Hm.out; omega)
           clear hcr hz0' hj hzj hj1 hj0
           obtain ⟨VA, VC, rfl⟩ := own_slice Ho2.out
           go_wp2_with (first | (go_at_call 90; refine (HSj.out _).mono ?_; rintro e w3 ⟨rfl, hb_w3⟩; have Hb5 := Lib.hid (Hb2.out.trans (hb_w3.mono Hb2.out.size)); have Ho5 := Lib.hid (own_keep Ho2.out hb_w3); clear hb_w3) | (at_builtin; refine wpList_append_own_at _ rfl _ _ 55 rfl w.heap.size 111 i0 (.agg #[.int .i64 0, .int .i64 0]) 2 16 Tryz.underlying55 hi0 hz0 hz1 hz2 rfl (by decide) _ (crS z k).length (spanC (crS z k)) rfl (Ho5.out.alloc _) ⟨w3.heap.size, 0, none⟩ 1 1 [.int .i64 (k : Int), .int .i64 ((k : Int) + 1)] rfl rfl (news2 _ _ _ _ _ rfl) (by simp [Value.oneCell']) ?c3 ?c4 ?c5 ?_))
           case c3 => have q1 := Hll.out; unfold maxLen; omega
           case c4 => have q1 := Hll.out; first | omega | (unfold maxLen; omega)
           case c5 => simp; try (have q2 := Hb5.out.size; omega)
           intro v' w1 ho hg2 _ hat
           have hst : Step w3 w1 _ v' := Step.of_alloc hg2 (by rw [World.size_alloc]; exact hat)
           have Ho1 : Hid (w1.ownsRow w.heap.size 111 2 v' ((crS z k) ++ [((k : Int), (k : Int) + 1)]).length (spanC ((crS z k) ++ [((k : Int), (k : Int) + 1)]))) := by
            unfold Hid; rw [spanC_app]
            have e : ((crS z k) ++ [((k : Int), (k : Int) + 1)]).length = (crS z k).length + 1 := by simp
            rw [e]; exact ho
           have Hb1 : Hid (Below w.heap.size w w1) := Hb5.out.trans (hst.below Ho5.out Hb5.out.size)
           clear ho hg2 hat hst
           go_wp2_with fail
           go_meet
           exact ⟨by rw [Hcr.out]; exact Ho1, Hb1⟩
     · have hz1' : ¬ z.getD k 1 = 0 := fun h => h0 (Hzk.out.trans h)
       have hb : (zk == 0) = false := by simpa using h0
       have hcr : crA z k (crS z k) = crS z k := by unfold crA; rw [if_neg hz1']
       have Hcr := Lib.hid hcr
       clear hcr hz1' h0
       go_wp2_with fail
       go_meet
       exact ⟨by rw [Hcr.out]; exact Ho2, Hb2⟩
    case rest =>
    clear Ho2 Hb2
    obtain ⟨Ho3, Hb3⟩ := hcut
    obtain ⟨w6, hw6⟩ : ∃ W : World, W = wc := ⟨_, rfl⟩
    subst hw6
    have hl3 := crA_len z k (crS z k)
    replace Hll : Hid ((crA z k (crS z k)).length ≤ 2000001) := Lib.hid (by have := Hll.out; omega)
    obtain ⟨la, hla⟩ : ∃ la, la = crA z k (crS z k) := ⟨_, rfl⟩
    rw [← hla] at Ho3 Hll hl3
    have Hla := Lib.hid hla
    have HEsk : Hid (∀ V, Below w6.heap.size w6 V → V.cell? ⟨b0, off + k * 6, none⟩ = some (.int .i64 sk.a) ∧ V.cell? ⟨b0, off + k * 6 + 1, none⟩ = some (.int .i64 sk.b) ∧ V.cell? ⟨b0, off + k * 6 + 2, none⟩ = some (.int .i64 sk.c) ∧ V.cell? ⟨b0, off + k * 6 + 3, none⟩ = some (.int .i64 sk.d) ∧ V.cell? ⟨b0, off + k * 6 + 4, none⟩ = some (.int .i64 sk.x) ∧ V.cell? ⟨b0, off + k * 6 + 5, none⟩ = some (.int .i64 sk.y)) := by rw [Hsk.out]; exact CA.out k hltL w6 Hb3.out
    have HSR : Hid (Below w6.heap.size w6 w6) := Below.refl _ _
    obtain ⟨p, hp⟩ : ∃ p, p = k + 1 := ⟨_, rfl⟩
    have eP : IntKind.i64.wrap ((k : Int) + 1) = (p : Int) := by rw [show (k : Int) + 1 = (p : Int) by omega]; exact IntWalk.i64_in _ (by have := Hm.out; omega)
    have Hp := Lib.hid hp
    have e5 : IntKind.i64.wrap ((k : Int) + 2) = (k : Int) + 2 := IntWalk.i64_in _ (by have := Hm.out; omega)
    clear hla hl3
    by_cases hpn : p < n
    · have hpL : p < L.length := by rw [← HN.out]; exact hpn
      have hpI : (p : Int) < (n : Int) := by omega
      have hpd : decide ((p : Int) < (n : Int)) = true := decide_eq_true hpI
      obtain ⟨q, hq⟩ : ∃ q, q = n - 1 := ⟨_, rfl⟩
      have e3 : IntKind.i64.wrap ((n : Int) - 1) = (q : Int) := by rw [show (n : Int) - 1 = (q : Int) by omega]; exact IntWalk.i64_in _ (by have := Hm.out; omega)
      have hmn : min (p : Int) (q : Int) = (p : Int) := by omega
      have hqp : ¬ q < p := by omega
      obtain ⟨sp, hsp⟩ : ∃ s, s = L[p] := ⟨_, rfl⟩
      have HEsp : Hid (∀ V, Below w6.heap.size w6 V → V.cell? ⟨b0, off + p * 6, none⟩ = some (.int .i64 sp.a) ∧ V.cell? ⟨b0, off + p * 6 + 1, none⟩ = some (.int .i64 sp.b) ∧ V.cell? ⟨b0, off + p * 6 + 2, none⟩ = some (.int .i64 sp.c) ∧ V.cell? ⟨b0, off + p * 6 + 3, none⟩ = some (.int .i64 sp.d) ∧ V.cell? ⟨b0, off + p * 6 + 4, none⟩ = some (.int .i64 sp.x) ∧ V.cell? ⟨b0, off + p * 6 + 5, none⟩ = some (.int .i64 sp.y)) := by rw [hsp]; exact CA.out p hpL w6 Hb3.out
      obtain ⟨zp, hzp⟩ : ∃ y, y = z.getD p 1 := ⟨_, rfl⟩
      have HSp : Hid (∀ W, Calls Tryz.prog 90 #[.agg #[.int .i64 sp.a, .int .i64 sp.b, .int .i64 sp.c, .int .i64 sp.d, .int .i64 sp.x, .int .i64 sp.y]] W fun e w' => e = .returned (.int .i64 zp) ∧ Below W.heap.size W w') := by rw [hsp, hzp]; exact SA.out p hpL
      have bz : ∀ j (hj : j < L.length), z.getD j 1 = -1 ∨ z.getD j 1 = 0 ∨ z.getD j 1 = 1 := fun j hj => by
       have e : z.getD j 1 = sgn L[j] := by rw [HZ.out, List.getD_eq_getElem?_getD, List.getElem?_map, List.getElem?_eq_getElem hj]; rfl
       rw [e]; exact sgn_cases _
      have bk := bz k hltL; have bp := bz p hpL
      rw [← Hzk.out] at bk
      rw [← hzp] at bp
      have e4 : IntKind.i64.wrap (zk * zp) = zk * zp := IntWalk.i64_in _ (by rcases bk with h | h | h <;> rcases bp with g | g | g <;> rw [h, g] <;> decide)
      have Hzp := Lib.hid hzp
      have hcase : crS z (k + 1) = if zk * zp < 0 then la ++ [((k : Int), (k : Int) + 2)] else la := by
       rw [crS, ← Hla.out]
       unfold crB
       rw [← hp, ← Hzk.out, ← hzp]
       by_cases hc : zk * zp < 0
       · rw [if_pos ⟨by rw [Hzl.out]; exact hpn, hc⟩, if_pos hc]
       · rw [if_neg (fun h => hc h.2), if_neg hc]
      have Hcase := Lib.hid hcase
      have Hpn := Lib.hid hpn
      clear bz bk bp hcase hzp hsp hq hp hpn
      obtain ⟨P, hP⟩ : ∃ P, P = zk * zp := ⟨_, rfl⟩
      replace e4 : IntKind.i64.wrap (zk * zp) = P := e4.trans hP.symm
      rw [← hP] at Hcase
      clear hP
      go_upto_region 9 with fail
      refine wp_region_held_drew (S := fun V => Below w6.heap.size w6 V) (by kernel_rfl) ?_ (fun hHeld => ?_)
      · exact (HSR.out).drew
      refine tk 0 44 ?_ rfl (by kernel_rfl) (fun _ _ _ h => h) (by kernel_rfl) ?_ hHeld ?_
      rotate_left
      · intro a h; go_simp <;> with_reducible rfl
      try simp only [zz]
      refine tk 1 45 ?_ rfl (by kernel_rfl) (fun _ _ _ h => h) (by kernel_rfl) ?_ hHeld ?_
      rotate_left
      · intro a h; go_simp <;> with_reducible rfl
      try simp only [zz]
      refine tk 2 46 ?_ rfl (by kernel_rfl) (fun _ _ _ h => h) (by kernel_rfl) ?_ hHeld ?_
      rotate_left
      · intro a h; go_simp <;> with_reducible rfl
      try simp only [zz]
      refine tk 3 47 ?_ rfl (by kernel_rfl) (fun _ _ _ h => h) (by kernel_rfl) ?_ hHeld ?_
      rotate_left
      · intro a h; go_simp <;> with_reducible rfl
      try simp only [zz]
      refine tk 4 48 ?_ rfl (by kernel_rfl) (fun _ _ _ h => h) (by kernel_rfl) ?_ hHeld ?_
      rotate_left
      · intro a h; go_simp <;> with_reducible rfl
      try simp only [zz]
      refine tk 5 49 ?_ rfl (by kernel_rfl) (fun _ _ _ h => h) (by kernel_rfl) ?_ hHeld ?_
      rotate_left
      · intro a h; go_simp <;> with_reducible rfl
      try simp only [zz]
      refine tk 6 50 ?_ rfl (by kernel_rfl) (fun _ _ _ h => h) (by kernel_rfl) ?_ hHeld ?_
      rotate_left
      · intro a h; go_simp <;> with_reducible rfl
      try simp only [zz]
      refine tk 7 51 ?_ rfl (by kernel_rfl) (fun _ _ _ h => h) (by kernel_rfl) ?_ hHeld ?_
      rotate_left
      · intro a h; go_simp <;> with_reducible rfl
      try simp only [zz]
      refine tk 8 52 ?_ rfl (by kernel_rfl) (fun _ _ _ h => h) (by kernel_rfl) ?_ hHeld ?_
      rotate_left
      · intro a h; go_simp <;> with_reducible rfl
      try simp only [zz]
      refine tk 9 53 (.agg #[.int .i64 sk.a, .int .i64 sk.b, .int .i64 sk.c, .int .i64 sk.d, .int .i64 sk.x, .int .i64 sk.y]) rfl (by kernel_rfl) (fun _ _ _ h => h) (by kernel_rfl) (fun V hV => ex_SgR _ rfl b0 (off + k * 6) rfl (HEsk.out V hV).1 (HEsk.out V hV).2.1 (HEsk.out V hV).2.2.1 (HEsk.out V hV).2.2.2.1 (HEsk.out V hV).2.2.2.2.1 (HEsk.out V hV).2.2.2.2.2) hHeld ?_
      try simp only [zz]
      refine tk 11 55 ?_ rfl (by kernel_rfl) (fun _ _ _ h => h) (by kernel_rfl) ?_ hHeld ?_
      rotate_left
      · intro a h; go_simp <;> with_reducible rfl
      try simp only [zz]
      refine tk 12 56 ?_ rfl (by kernel_rfl) (fun _ _ _ h => h) (by kernel_rfl) ?_ hHeld ?_
      rotate_left
      · intro a h; go_simp <;> with_reducible rfl
      try simp only [zz]
      refine tk 13 57 ?_ rfl (by kernel_rfl) (fun _ _ _ h => h) (by kernel_rfl) ?_ hHeld ?_
      rotate_left
      · intro a h; go_simp <;> with_reducible rfl
      try simp only [zz]
      refine tk 14 58 ?_ rfl (by kernel_rfl) (fun _ _ _ h => h) (by kernel_rfl) ?_ hHeld ?_
      rotate_left
      · intro a h; go_simp <;> with_reducible rfl
      try simp only [zz]
      refine tk 15 59 ?_ rfl (by kernel_rfl) (fun _ _ _ h => h) (by kernel_rfl) ?_ hHeld ?_
      rotate_left
      · intro a h; go_simp <;> with_reducible rfl
      try simp only [zz]
      refine tk 16 60 ?_ rfl (by kernel_rfl) (fun _ _ _ h => h) (by kernel_rfl) ?_ hHeld ?_
      rotate_left
      · intro a h; go_simp <;> with_reducible rfl
      try simp only [zz]
      refine tk 17 61 ?_ rfl (by kernel_rfl) (fun _ _ _ h => h) (by kernel_rfl) ?_ hHeld ?_
      rotate_left
      · intro a h; go_simp <;> with_reducible rfl
      try simp only [zz]
      refine tk 18 62 ?_ rfl (by kernel_rfl) (fun _ _ _ h => h) (by kernel_rfl) ?_ hHeld ?_
      rotate_left
      · intro a h; go_simp <;> with_reducible rfl
      try simp only [zz]
      refine tk 19 63 (.agg #[.int .i64 sp.a, .int .i64 sp.b, .int .i64 sp.c, .int .i64 sp.d, .int .i64 sp.x, .int .i64 sp.y]) rfl (by kernel_rfl) (fun _ _ _ h => h) (by kernel_rfl) (fun V hV => ex_SgR _ rfl b0 (off + p * 6) rfl (HEsp.out V hV).1 (HEsp.out V hV).2.1 (HEsp.out V hV).2.2.1 (HEsp.out V hV).2.2.2.1 (HEsp.out V hV).2.2.2.2.1 (HEsp.out V hV).2.2.2.2.2) hHeld ?_
      try simp only [zz]
      refine st1 10 (by kernel_rfl) rfl (fun K hK => ?_)
      go_simp
      go_at_call 90
      refine (HSk.out _).mono ?_
      rintro e v10 ⟨rfl, hb10⟩
      try go_simp
      refine hK.out _ _ ?_ (fun hHeld => ?_)
      · exact (hHeld).trans ((hb10).mono (hHeld).size)
      clear hK K
      try simp only [zz]
      refine st1 20 (by kernel_rfl) rfl (fun K hK => ?_)
      go_simp
      go_at_call 90
      refine (HSp.out _).mono ?_
      rintro e v20 ⟨rfl, hb20⟩
      try go_simp
      refine hK.out _ _ ?_ (fun hHeld => ?_)
      · exact (hHeld).trans ((hb20).mono (hHeld).size)
      clear hK K
      try simp only [zz]
      refine tk 21 65 ?_ rfl (by kernel_rfl) (fun _ _ _ h => h) (by kernel_rfl) ?_ hHeld ?_
      rotate_left
      · intro a h; go_simp <;> with_reducible rfl
      try simp only [zz]
      refine tk 22 66 ?_ rfl (by kernel_rfl) (fun _ _ _ h => h) (by kernel_rfl) ?_ hHeld ?_
      rotate_left
      · intro a h; go_simp <;> with_reducible rfl
      try simp only [zz]
      refine tk 23 67 ?_ rfl (by kernel_rfl) (fun _ _ _ h => h) (by kernel_rfl) ?_ hHeld ?_
      rotate_left
      · intro a h; go_simp <;> with_reducible rfl
      try simp only [zz]
      refine wpAnyH_done (by kernel_rfl) ?_ _
      refine genT (fun V => Below w6.heap.size w6 V) hHeld ?_
      intro W7 s7
      have HK7 := Lib.hid s7
      clear s7 hHeld HSR HEsk HEsp HSk HSp
      have Ho7 := Lib.hid (own_keep Ho3.out HK7.out)
      have Hb7 := Lib.hid (Hb3.out.trans (HK7.out.mono Hb3.out.size))
      clear HK7 Ho3 Hb3
      by_cases hc : P < 0
      · have hcd : decide (P < 0) = true := decide_eq_true hc
        have HN2 : Hid (crS z (k + 1) = la ++ [((k : Int), (k : Int) + 2)]) := Lib.hid (by rw [Hcase.out, if_pos hc])
        clear e3 hmn hqp hpI hpd
        obtain ⟨VA, VC, rfl⟩ := own_slice Ho7.out
        go_wp2_with (at_builtin; refine wpList_append_own_at _ rfl _ _ 55 rfl w.heap.size 111 i0 (.agg #[.int .i64 0, .int .i64 0]) 2 16 Tryz.underlying55 hi0 hz0 hz1 hz2 rfl (by decide) _ la.length (spanC la) rfl (Ho7.out.alloc _) ⟨W7.heap.size, 0, none⟩ 1 1 [.int .i64 (k : Int), .int .i64 ((k : Int) + 2)] rfl rfl (news2 _ _ _ _ _ rfl) (by simp [Value.oneCell']) ?c3 ?c4 ?c5 ?_)
        case c3 => have q1 := Hll.out; unfold maxLen; omega
        case c4 => have q1 := Hll.out; first | omega | (unfold maxLen; omega)
        case c5 => simp; try (have q2 := Hb7.out.size; omega)
        intro v' w1 ho hg2 _ hat
        have hst : Step W7 w1 _ v' := Step.of_alloc hg2 (by rw [World.size_alloc]; exact hat)
        have Ho1 : Hid (w1.ownsRow w.heap.size 111 2 v' (la ++ [((k : Int), (k : Int) + 2)]).length (spanC (la ++ [((k : Int), (k : Int) + 2)]))) := by
         unfold Hid; rw [spanC_app]
         have e : (la ++ [((k : Int), (k : Int) + 2)]).length = la.length + 1 := by simp
         rw [e]; exact ho
        have Hb1 : Hid (Below w.heap.size w w1) := Hb7.out.trans (hst.below Ho7.out Hb7.out.size)
        clear ho hg2 hat hst
        go_wp2_with fail
        go_roundw
        case rel => exact ⟨k + 1, by have := Hlt.out; omega, by rw [Hp.out], by show World.ownsRow _ _ _ _ _ _ _; rw [HN2.out]; exact Ho1.out, Hb1⟩
        case measure => have q1 := Hp.out; have q2 := Hlt.out; simp [intOf]; omega
      · have hcd : decide (P < 0) = false := decide_eq_false hc
        have HN2 : Hid (crS z (k + 1) = la) := Lib.hid (by rw [Hcase.out, if_neg hc])
        clear e3 e5
        go_wp2_with fail
        go_roundw
        case rel => exact ⟨k + 1, by have := Hlt.out; omega, by rw [Hp.out], by show World.ownsRow _ _ _ _ _ _ _; rw [HN2.out]; exact Ho7.out, Hb7⟩
        case measure => have q1 := Hp.out; have q2 := Hlt.out; simp [intOf]; omega
    · have hpd : decide ((p : Int) < (n : Int)) = false := decide_eq_false (by omega)
      have HN2 : Hid (crS z (k + 1) = la) := Lib.hid (by rw [crS, ← Hla.out]; unfold crB; rw [← hp, if_neg (fun h => hpn (by rw [← Hzl.out]; exact h.1))])
      have hpn2 : ¬ (p : Int) < (n : Int) := by omega
      clear hp
      go_upto_region 9 with fail
      refine wp_region_held_drew (S := fun V => Below w6.heap.size w6 V) (by kernel_rfl) ?_ (fun hHeld => ?_)
      · exact (HSR.out).drew
      refine tk 0 44 ?_ rfl (by kernel_rfl) (fun _ _ _ h => h) (by kernel_rfl) ?_ hHeld ?_
      rotate_left
      · intro a h; go_simp <;> with_reducible rfl
      try simp only [zz]
      refine tk 1 45 ?_ rfl (by kernel_rfl) (fun _ _ _ h => h) (by kernel_rfl) ?_ hHeld ?_
      rotate_left
      · intro a h; go_simp <;> with_reducible rfl
      try simp only [zz]
      refine tk 2 46 ?_ rfl (by kernel_rfl) (fun _ _ _ h => h) (by kernel_rfl) ?_ hHeld ?_
      rotate_left
      · intro a h; go_simp <;> with_reducible rfl
      try simp only [zz]
      refine tk 3 47 ?_ rfl (by kernel_rfl) (fun _ _ _ h => h) (by kernel_rfl) ?_ hHeld ?_
      rotate_left
      · intro a h; go_simp <;> with_reducible rfl
      try simp only [zz]
      refine tk 4 48 ?_ rfl (by kernel_rfl) (fun _ _ _ h => h) (by kernel_rfl) ?_ hHeld ?_
      rotate_left
      · intro a h; go_simp <;> with_reducible rfl
      try simp only [zz]
      refine tk 5 49 ?_ rfl (by kernel_rfl) (fun _ _ _ h => h) (by kernel_rfl) ?_ hHeld ?_
      rotate_left
      · intro a h; go_simp <;> with_reducible rfl
      try simp only [zz]
      refine wpAnyH_take (i := 6) (oi := ⟨some 50, _, _, _, _, _⟩) (v := undef) rfl (by kernel_rfl) (by kernel_rfl) (by kernel_rfl) (fun _ _ _ h => h) (Or.inr ⟨by kernel_rfl, rfl⟩) hHeld ?_
      try simp only [zz]
      refine wpAnyH_take (i := 7) (oi := ⟨some 51, _, _, _, _, _⟩) (v := undef) rfl (by kernel_rfl) (by kernel_rfl) (by kernel_rfl) (fun _ _ _ h => h) (Or.inr ⟨by kernel_rfl, rfl⟩) hHeld ?_
      try simp only [zz]
      refine wpAnyH_take (i := 8) (oi := ⟨some 52, _, _, _, _, _⟩) (v := undef) rfl (by kernel_rfl) (by kernel_rfl) (by kernel_rfl) (fun _ _ _ h => h) (Or.inr ⟨by kernel_rfl, rfl⟩) hHeld ?_
      try simp only [zz]
      refine wpAnyH_take (i := 9) (oi := ⟨some 53, _, _, _, _, _⟩) (v := undef) rfl (by kernel_rfl) (by kernel_rfl) (by kernel_rfl) (fun _ _ _ h => h) (Or.inr ⟨by kernel_rfl, rfl⟩) hHeld ?_
      try simp only [zz]
      refine wpAnyH_take (i := 11) (oi := ⟨some 55, _, _, _, _, _⟩) (v := undef) rfl (by kernel_rfl) (by kernel_rfl) (by kernel_rfl) (fun _ _ _ h => h) (Or.inr ⟨by kernel_rfl, rfl⟩) hHeld ?_
      try simp only [zz]
      refine wpAnyH_take (i := 12) (oi := ⟨some 56, _, _, _, _, _⟩) (v := undef) rfl (by kernel_rfl) (by kernel_rfl) (by kernel_rfl) (fun _ _ _ h => h) (Or.inr ⟨by kernel_rfl, rfl⟩) hHeld ?_
      try simp only [zz]
      refine wpAnyH_take (i := 13) (oi := ⟨some 57, _, _, _, _, _⟩) (v := undef) rfl (by kernel_rfl) (by kernel_rfl) (by kernel_rfl) (fun _ _ _ h => h) (Or.inr ⟨by kernel_rfl, rfl⟩) hHeld ?_
      try simp only [zz]
      refine wpAnyH_take (i := 14) (oi := ⟨some 58, _, _, _, _, _⟩) (v := undef) rfl (by kernel_rfl) (by kernel_rfl) (by kernel_rfl) (fun _ _ _ h => h) (Or.inr ⟨by kernel_rfl, rfl⟩) hHeld ?_
      try simp only [zz]
      refine wpAnyH_take (i := 15) (oi := ⟨some 59, _, _, _, _, _⟩) (v := undef) rfl (by kernel_rfl) (by kernel_rfl) (by kernel_rfl) (fun _ _ _ h => h) (Or.inr ⟨by kernel_rfl, rfl⟩) hHeld ?_
      try simp only [zz]
      refine wpAnyH_take (i := 16) (oi := ⟨some 60, _, _, _, _, _⟩) (v := undef) rfl (by kernel_rfl) (by kernel_rfl) (by kernel_rfl) (fun _ _ _ h => h) (Or.inr ⟨by kernel_rfl, rfl⟩) hHeld ?_
      try simp only [zz]
      refine wpAnyH_take (i := 17) (oi := ⟨some 61, _, _, _, _, _⟩) (v := undef) rfl (by kernel_rfl) (by kernel_rfl) (by kernel_rfl) (fun _ _ _ h => h) (Or.inr ⟨by kernel_rfl, rfl⟩) hHeld ?_
      try simp only [zz]
      refine wpAnyH_take (i := 18) (oi := ⟨some 62, _, _, _, _, _⟩) (v := undef) rfl (by kernel_rfl) (by kernel_rfl) (by kernel_rfl) (fun _ _ _ h => h) (Or.inr ⟨by kernel_rfl, rfl⟩) hHeld ?_
      try simp only [zz]
      refine wpAnyH_take (i := 19) (oi := ⟨some 63, _, _, _, _, _⟩) (v := undef) rfl (by kernel_rfl) (by kernel_rfl) (by kernel_rfl) (fun _ _ _ h => h) (Or.inr ⟨by kernel_rfl, rfl⟩) hHeld ?_
      try simp only [zz]
      refine wpAnyH_take (i := 10) (oi := ⟨some 54, _, _, _, _, _⟩) (v := undef) rfl (by kernel_rfl) (by kernel_rfl) (by kernel_rfl) (fun _ _ _ h => h) (Or.inr ⟨by kernel_rfl, rfl⟩) hHeld ?_
      try simp only [zz]
      refine wpAnyH_take (i := 20) (oi := ⟨some 64, _, _, _, _, _⟩) (v := undef) rfl (by kernel_rfl) (by kernel_rfl) (by kernel_rfl) (fun _ _ _ h => h) (Or.inr ⟨by kernel_rfl, rfl⟩) hHeld ?_
      try simp only [zz]
      refine wpAnyH_take (i := 21) (oi := ⟨some 65, _, _, _, _, _⟩) (v := undef) rfl (by kernel_rfl) (by kernel_rfl) (by kernel_rfl) (fun _ _ _ h => h) (Or.inr ⟨by kernel_rfl, rfl⟩) hHeld ?_
      try simp only [zz]
      refine wpAnyH_take (i := 22) (oi := ⟨some 66, _, _, _, _, _⟩) (v := undef) rfl (by kernel_rfl) (by kernel_rfl) (by kernel_rfl) (fun _ _ _ h => h) (Or.inr ⟨by kernel_rfl, rfl⟩) hHeld ?_
      try simp only [zz]
      refine tk 23 67 ?_ rfl (by kernel_rfl) (fun _ _ _ h => h) (by kernel_rfl) ?_ hHeld ?_
      rotate_left
      · intro a h; go_simp <;> with_reducible rfl
      try simp only [zz]
      refine wpAnyH_done (by kernel_rfl) ?_ _
      refine genT (fun V => Below w6.heap.size w6 V) hHeld ?_
      intro W7 s7
      have HK7 := Lib.hid s7
      clear s7 hHeld HSR HEsk HSk
      have Ho7 := Lib.hid (own_keep Ho3.out HK7.out)
      have Hb7 := Lib.hid (Hb3.out.trans (HK7.out.mono Hb3.out.size))
      clear HK7 Ho3 Hb3 e5
      go_wp2_with fail
      go_roundw
      case rel => exact ⟨k + 1, by have := Hlt.out; omega, by rw [Hp.out], by show World.ownsRow _ _ _ _ _ _ _; rw [HN2.out]; exact Ho7.out, Hb7⟩
      case measure => have q1 := Hp.out; have q2 := Hlt.out; simp [intOf]; omega
  · obtain rfl : k = n := by omega
    have hn : ¬ (k : Int) < (k : Int) := by omega
    go_wp2_with fail
    go_ret
    exact ⟨_, rfl, Ho.out, Hb.out⟩
end Go.Proofs.YtaeebedchbkniaaGreatDoor
