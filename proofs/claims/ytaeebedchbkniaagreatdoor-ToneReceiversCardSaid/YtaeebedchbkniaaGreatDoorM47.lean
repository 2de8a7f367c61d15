import Derived.Test.YtaeebedchbkniaaGreatDoorM18
import Derived.Test.YtaeebedchbkniaaGreatDoorM23
namespace Go.Proofs.YtaeebedchbkniaaGreatDoor
set_option linter.all false
open Go.RowKit Go.Fl
theorem ex_SgR {o : Oper} {a : Act} {w : World} {u0 u1 u2 u3 u4 u5 : Value} (x : Operand) (ho : o.op = .load 40 x) (g off : Nat) (hx : a.eval x = .pointer (some ⟨g, off, none⟩)) (c0 : w.cell? ⟨g, off, none⟩ = some u0) (c1 : w.cell? ⟨g, off + 1, none⟩ = some u1) (c2 : w.cell? ⟨g, off + 2, none⟩ = some u2) (c3 : w.cell? ⟨g, off + 3, none⟩ = some u3) (c4 : w.cell? ⟨g, off + 4, none⟩ = some u4) (c5 : w.cell? ⟨g, off + 5, none⟩ = some u5) :
 (execOp a.eval o).run Tryz.prog w = .ok (.value (.agg #[u0, u1, u2, u3, u4, u5])) w := by
 unfold execOp
 simp only [ho, hx]
 go_simp
theorem infoSgF : (Tryz.prog.info? 39).map (fun i => (i.zero, i.size, i.bytes)) = some (some (.agg #[.int .i64 0, .int .i64 0, .int .i64 0, .int .i64 0, .int .i64 0, .int .i64 0]), 6, 48) := by kernel_rfl
theorem sgC_take (L : List Sg) (k : Nat) (hk : k < L.length) : sgC (L.take (k + 1)) = sgC (L.take k) ++ L[k].L := by
 unfold sgC
 rw [List.take_succ_eq_append_getElem hk, List.flatMap_append, List.flatMap_cons, List.flatMap_nil, List.append_nil]
theorem cmp_lt (a b : Int) : decide (cmpI a b < 0) = decide (a < b) := by
 unfold cmpI
 by_cases h1 : a < b
 · simp [h1]
 · by_cases h2 : b < a <;> simp [h1, h2]
theorem cmp_gt (a b : Int) : decide (0 < cmpI a b) = decide (b < a) := by
 unfold cmpI
 by_cases h1 : a < b
 · have h2 : ¬ b < a := by omega
   simp [h1, h2]
 · by_cases h2 : b < a <;> simp [h1, h2]
theorem Below.app6 {B B2 : Nat} {w wr w1 : World} {o : Obj} {v : Value} {e : TypeId} {size n : Nat} {xs : List Value} (hb : Below B w wr) (hB : B ≤ wr.heap.size) (hown : wr.ownsRow B2 e size v n xs) (hg : (wr.alloc o).grownBy w1 v.ownBlock) (hB2 : B ≤ B2 := by omega) : Below B w w1 :=
 Below.app (B := B) hb hB ⟨hown.1, hown.2.imp id fun ⟨g, cap, cur, hv, hg, rest⟩ => ⟨g, cap, cur, hv, Nat.le_trans hB2 hg, rest⟩⟩ hg
theorem Row.app6 {B2 g : Nat} {t : TypeId} {vs : List Value} {wr w1 : World} {o : Obj} {v : Value} {e : TypeId} {size n : Nat} {xs : List Value} (hr : Row wr g t vs) (hown : wr.ownsRow B2 e size v n xs) (hg : (wr.alloc o).grownBy w1 v.ownBlock) (hB2 : g < B2 := by omega) : Row w1 g t vs :=
 (hr.alloc o).grown hg (fun h => by
   have := (hown.lt g h.symm).1
   omega)
set_option maxRecDepth 100000 in
set_option maxHeartbeats 1000000 in
theorem toldR_sg (rs rf rl ra rb : Int) (s : Sg) (w : World) (hR : RecG rs rf rl ra rb) (h : SigG s.a s.b s.c s.d s.x s.y) : Calls Tryz.prog 16 #[.agg #[.int .i64 rs, .int .i64 rf, .int .i64 rl, .int .i64 ra, .int .i64 rb], .agg #[.int .i64 s.a, .int .i64 s.b, .int .i64 s.c, .int .i64 s.d, .int .i64 s.x, .int .i64 s.y]] w fun e w' => e = .returned (.tuple #[.int .i64 (tvS rs rf rl ra rb s), .string (flS rl ra rb s)]) ∧ Below w.heap.size w w' := by
 have hb := sg_bd h
 have ha := hR.a; have hb2 := hR.b
 have m1 : (ra * qS s).natAbs ≤ 10000 * 200000000 := by rw [Int.natAbs_mul]; exact Nat.mul_le_mul (by omega) (by have := hb.2.2; omega)
 have m2 : (rb * qS s).natAbs ≤ 10000 * 200000000 := by rw [Int.natAbs_mul]; exact Nat.mul_le_mul (by omega) (by have := hb.2.2; omega)
 have hD : flD ra rb s = (decide (1000 * tS s < ra * qS s) || decide (rb * qS s < 1000 * tS s)) := by
  unfold flD
  rw [cmp_lt, cmp_gt, Int.mul_comm (tS s) 1000]
 have HF := fun W => flagR_any rs rf rl ra rb s.a s.b s.c s.d s.x s.y (tS s) (qS s) (1000 * tS s) (ra * qS s) (rb * qS s) (flB rl s) (decide (1000 * tS s < ra * qS s)) (decide (rb * qS s < 1000 * tS s)) W (fun W => squareR_any s.a s.b s.c s.d s.x s.y W h.g1) (fun W => totalR_any s.a s.b s.c s.d s.x s.y W h.g1 h.g2 h.g3) (IntWalk.i64_in _ (by have := hb.2.1; omega)) (IntWalk.i64_in _ (by omega)) (IntWalk.i64_in _ (by omega)) rfl rfl rfl
 rw [← hD] at HF
 exact toldR_any rs rf rl ra rb s.a s.b s.c s.d s.x s.y (nS s) (qS s) (shownI rs rf (nS s) (qS s)) (flB rl s) (flD ra rb s) w HF (fun W => differenceR_any s.a s.b s.c s.d s.x s.y W h.g1 h.g2 h.g3) (fun W => squareR_any s.a s.b s.c s.d s.x s.y W h.g1) (fun W => shownR_any rs rf rl ra rb _ _ W hR.s hR.f (by have := hb.1; omega) (by have := hb.2.2; omega))
set_option maxRecDepth 100000 in
set_option maxHeartbeats 4000000 in
theorem signals_any (A : Option Addr) (c : Nat) (L : List Sg) (w : World) (hA : Rd w A (sgC L)) (hm : L.length ≤ 1000000) :
 Calls Tryz.prog 18 #[.slice A L.length c] w fun e w' => ∃ v, e = .returned v ∧ w'.ownsRow w.heap.size 39 6 v L.length (sgC L) ∧ Below w.heap.size w w' := by
 have HA := Lib.hid hA
 clear hA
 obtain ⟨i0, hi, hz0, hz1, hz2⟩ := info_parts infoSgF
 go_enter Tryz.func18, Tryz.ntmps18
 go_wp2
 go_loopw [3, 8] (fun u i wr => ∃ k : Nat, k ≤ L.length ∧ i = .int .i64 k ∧ Hid (wr.ownsRow w.heap.size 39 6 u k (sgC (L.take k))) ∧ Hid (Below w.heap.size w wr)) (fun _ i _ => L.length - (intOf i).toNat)
 case atStart => exact ⟨0, Nat.zero_le _, rfl, World.ownsRow_nil _ _ _ _, Below.refl _ _⟩
 case round =>
  obtain ⟨k, hk, rfl, Ho, Hb⟩ := hrel
  by_cases hlt : k < L.length
  · obtain ⟨b0, off, rfl, q0, q1, q2, q3, q4, q5⟩ := Rd.sg (HA.out.below Hb.out) hlt
    have hst := Lib.hid (sgC_take L k hlt)
    obtain ⟨⟨sa, sb, sc, sd, sx, sy⟩, hs⟩ : ∃ s, s = L[k] := ⟨_, rfl⟩
    rw [← hs] at q0 q1 q2 q3 q4 q5 hst
    dsimp only at q0 q1 q2 q3 q4 q5
    have hltI : (k : Int) < (L.length : Int) := by omega
    have hsz := Hb.out.size
    have hbn : Below wr.heap.size wr ((wr.alloc (.cells #[.int .i64 0, .int .i64 0, .int .i64 0, .int .i64 0, .int .i64 0, .int .i64 0] 40)).setRow wr.heap.size #[.int .i64 sa, .int .i64 sb, .int .i64 sc, .int .i64 sd, .int .i64 sx, .int .i64 sy]) := Below.setRow ((Below.refl _ _).alloc (Nat.le_refl _) _) (Nat.le_refl _) _
    have Ho2 := Lib.hid (own_keep Ho.out hbn)
    have Hb2 := Lib.hid (Hb.out.trans (hbn.mono hsz))
    have Hn : Hid (Row ((wr.alloc (.cells #[.int .i64 0, .int .i64 0, .int .i64 0, .int .i64 0, .int .i64 0, .int .i64 0] 40)).setRow wr.heap.size #[.int .i64 sa, .int .i64 sb, .int .i64 sc, .int .i64 sd, .int .i64 sx, .int .i64 sy]) wr.heap.size 40 [.int .i64 sa, .int .i64 sb, .int .i64 sc, .int .i64 sd, .int .i64 sx, .int .i64 sy]) := (Row.new wr 40 [.int .i64 0, .int .i64 0, .int .i64 0, .int .i64 0, .int .i64 0, .int .i64 0]).setRow _
    have hs2 : ((wr.alloc (.cells #[.int .i64 0, .int .i64 0, .int .i64 0, .int .i64 0, .int .i64 0, .int .i64 0] 40)).setRow wr.heap.size #[.int .i64 sa, .int .i64 sb, .int .i64 sc, .int .i64 sd, .int .i64 sx, .int .i64 sy]).heap.size = wr.heap.size + 1 := by unfold World.setRow; simp
    have Hs2 := Lib.hid hs2
    have Hsz := Lib.hid hsz
    have Hm := Lib.hid (show L.length ≤ 1000000 from hm)
    have Hlt := Lib.hid hlt
    clear hs hlt hs2 hbn hsz
    go_wp2_with (first
     | (refine wpList_store_row rfl 40 _ _ rfl (wr.heap.size) #[.int .i64 sa, .int .i64 sb, .int .i64 sc, .int .i64 sd, .int .i64 sx, .int .i64 sy] rfl rfl 40 _ (Row.new wr 40 [.int .i64 0, .int .i64 0, .int .i64 0, .int .i64 0, .int .i64 0, .int .i64 0]) ?_ ?_ ?_ ?_; (kernel_rfl); (rfl); (simp [Value.oneCell']))
     | (refine wpList_load_row rfl 40 _ rfl (wr.heap.size) rfl 40 #[.int .i64 sa, .int .i64 sb, .int .i64 sc, .int .i64 sd, .int .i64 sx, .int .i64 sy] (0, 0) _ Hn.out Tryz.underlying40 rfl ?_ ?_; (kernel_rfl))
     | (at_builtin; refine wpList_append_own _ rfl _ _ 48 rfl w.heap.size 39 i0 (.agg #[.int .i64 0, .int .i64 0, .int .i64 0, .int .i64 0, .int .i64 0, .int .i64 0]) 6 48 Tryz.underlying48 hi hz0 hz1 hz2 rfl (by decide) _ _ _ rfl (Ho2.out.alloc _) ⟨wr.heap.size + 1, 0, none⟩ 1 1 [.int .i64 sa, .int .i64 sb, .int .i64 sc, .int .i64 sd, .int .i64 sx, .int .i64 sy] rfl rfl (news11 _ _ _ _ (by rw [Hs2.out])) ?c2 ?c3 ?c4 ?c5 ?_))
    case c2 => simp [Value.oneCell']
    case c3 => have := Hm.out; have := Hlt.out; unfold maxLen; omega
    case c4 => omega
    case c5 => simp; try (have := Hsz.out; omega)
    intro v' w1 hown' hgrow _
    have hb1 := Lib.hid (Below.app Hb2.out (by rw [Hs2.out]; have := Hsz.out; omega) Ho2.out hgrow)
    have ho1 := Lib.hid hown'
    clear hown' hgrow
    go_wp2
    go_roundw
    case rel => exact ⟨k + 1, by have := Hlt.out; omega, by go_num, by show World.ownsRow _ _ _ _ _ _ _; rw [hst.out]; exact ho1.out, hb1⟩
    case measure => have := Hlt.out; simp [intOf]; omega
  · obtain rfl : k = L.length := by omega
    have hn : ¬ (L.length : Int) < (L.length : Int) := by omega
    go_wp2
    go_ret
    exact ⟨_, rfl, by have h := Ho.out; rw [List.take_of_length_le (Nat.le_refl _)] at h; exact h, Hb.out⟩
set_option maxRecDepth 100000 in
set_option maxHeartbeats 4000000 in
theorem followedR_any (rs rf rl ra rb lag start : Int) (A : Option Addr) (c : Nat) (L : List Sg) (w : World) (hA : Rd w A (sgC L)) (hm : L.length ≤ 1000000) (hR : RecG rs rf rl ra rb) (hl : 1 ≤ lag ∧ lag ≤ 16) (hs : -rf ≤ start ∧ start ≤ rf) (hg : ∀ s ∈ L, SigG s.a s.b s.c s.d s.x s.y) :
 Calls Tryz.prog 21 #[.agg #[.int .i64 rs, .int .i64 rf, .int .i64 rl, .int .i64 ra, .int .i64 rb], .int .i64 lag, .int .i64 start, .slice A L.length c] w fun e w' => ∃ v, e = .returned v ∧ w'.ownsRow (w.heap.size + 1) 3 1 v L.length (ints (foL rs rf rl ra rb lag start L)) ∧ Below w.heap.size w w' := by
 have HA := Lib.hid hA; have HG := Lib.hid hg; have HS := Lib.hid hs; have HRR := Lib.hid hR; have HL := Lib.hid hl; have Hm := Lib.hid (show L.length ≤ 1000000 from hm)
 clear hA hg hs hR hl
 obtain ⟨i0, hi, hz0, hz1, hz2⟩ := info_parts info3
 go_enter Tryz.func21, Tryz.ntmps21
 go_upto_region 1 with fail
 refine genT (fun V => Row V (w.heap.size) 25 [.int .i64 rs, .int .i64 rf, .int .i64 rl, .int .i64 ra, .int .i64 rb] ∧ Below w.heap.size w V) ⟨(rowAt _ _ (by first | rfl | simp only [World.size_alloc])), ((Below.refl _ _).alloc (by first | exact Nat.le_refl _ | (simp only [World.size_alloc]; omega)) _)⟩ ?_
 intro W1 s1
 have HS1 := Lib.hid s1
 clear s1
 go_wp2_with fail
 go_loopw [9, 10, 11] (fun u n i wr => ∃ k : Nat, k ≤ L.length ∧ i = .int .i64 k ∧ n = .int .i64 ((L.take k).foldl (foN rs rf rl ra rb lag) start) ∧ Hid (wr.ownsRow (w.heap.size + 1) 3 1 u k (ints ((foL rs rf rl ra rb lag start L).take k))) ∧ Hid (Row wr w.heap.size 25 [.int .i64 rs, .int .i64 rf, .int .i64 rl, .int .i64 ra, .int .i64 rb]) ∧ Hid (-rf ≤ (L.take k).foldl (foN rs rf rl ra rb lag) start ∧ (L.take k).foldl (foN rs rf rl ra rb lag) start ≤ rf) ∧ Hid (Below w.heap.size w wr)) (fun _ _ i _ => L.length - (intOf i).toNat)
 case atStart => exact ⟨0, Nat.zero_le _, rfl, rfl, World.ownsRow_nil _ _ _ _, Lib.hid HS1.out.1, HS, Lib.hid HS1.out.2⟩
 case round =>
  clear HS1
  obtain ⟨k, hk, rfl, rfl, Ho, Hr, Hn, Hb⟩ := hrel
  by_cases hlt : k < L.length
  · obtain ⟨b0, off, rfl, q0, q1, q2, q3, q4, q5⟩ := Rd.sg (HA.out.below Hb.out) hlt
    have hgk := HG.out L[k] (List.getElem_mem hlt)
    have hfk : Hid ((L.take (k + 1)).foldl (foN rs rf rl ra rb lag) start = foN rs rf rl ra rb lag ((L.take k).foldl (foN rs rf rl ra rb lag) start) L[k]) := Lib.hid (by rw [List.take_succ_eq_append_getElem hlt, List.foldl_append]; rfl)
    have hik : Hid (ints ((foL rs rf rl ra rb lag start L).take (k + 1)) = ints ((foL rs rf rl ra rb lag start L).take k) ++ [.int .i64 ((L.take (k + 1)).foldl (foN rs rf rl ra rb lag) start)]) := Lib.hid (by
     rw [List.take_succ_eq_append_getElem (by simpa [foL] using hlt)]
     simp [ints, foL])
    have hbk := Lib.hid (foN_bd HRR.out HL.out.1 Hn.out L[k])
    obtain ⟨⟨sa, sb, sc, sd, sx, sy⟩, hs⟩ : ∃ s, s = L[k] := ⟨_, rfl⟩
    rw [← hs] at q0 q1 q2 q3 q4 q5 hgk hfk hbk
    dsimp only at q0 q1 q2 q3 q4 q5
    obtain ⟨n, hn⟩ : ∃ n, n = (L.take k).foldl (foN rs rf rl ra rb lag) start := ⟨_, rfl⟩
    rw [← hn] at hfk hbk Hn ⊢
    obtain ⟨m, hmm⟩ : ∃ m, m = (L.take (k + 1)).foldl (foN rs rf rl ra rb lag) start := ⟨_, rfl⟩
    rw [← hmm] at hfk hik
    rw [← hfk.out] at hbk
    obtain ⟨t, ht⟩ : ∃ t, t = tvS rs rf rl ra rb ⟨sa, sb, sc, sd, sx, sy⟩ := ⟨_, rfl⟩
    obtain ⟨B, hB⟩ : ∃ B, B = flB rl ⟨sa, sb, sc, sd, sx, sy⟩ := ⟨_, rfl⟩
    obtain ⟨D, hD⟩ : ∃ D, D = flD ra rb ⟨sa, sb, sc, sd, sx, sy⟩ := ⟨_, rfl⟩
    have HT : Hid (∀ W, Calls Tryz.prog 16 #[.agg #[.int .i64 rs, .int .i64 rf, .int .i64 rl, .int .i64 ra, .int .i64 rb], .agg #[.int .i64 sa, .int .i64 sb, .int .i64 sc, .int .i64 sd, .int .i64 sx, .int .i64 sy]] W fun e w' => e = .returned (.tuple #[.int .i64 t, .string (flagS B D)]) ∧ Below W.heap.size W w') := fun W => by rw [ht, hB, hD]; exact toldR_sg rs rf rl ra rb ⟨sa, sb, sc, sd, sx, sy⟩ W HRR.out hgk
    have htb : -rf ≤ t ∧ t ≤ rf := by rw [ht]; exact tv_bd HRR.out _
    have hfv : m = if B || D then n else n + (t - n) / lag := by rw [hfk.out, ht, hB, hD]; rfl
    have HC := Lib.hid (And.intro q0 (And.intro q1 (And.intro q2 (And.intro q3 (And.intro q4 q5)))))
    have hltI : (k : Int) < (L.length : Int) := by omega
    have Htb := Lib.hid htb; have Hfv := Lib.hid hfv; have Hlt := Lib.hid hlt; have Hmm := Lib.hid hmm
    clear q0 q1 q2 q3 q4 q5 hs hgk ht hB hD htb hfv hlt hfk hmm hn
    have HSR : Hid (Row wr (w.heap.size) 25 [.int .i64 rs, .int .i64 rf, .int .i64 rl, .int .i64 ra, .int .i64 rb] ∧ Below wr.heap.size wr wr) := ⟨Hr.out, Below.refl _ _⟩
    go_upto_region 6 with fail
    refine wp_region_held_drew (S := fun V => Row V (w.heap.size) 25 [.int .i64 rs, .int .i64 rf, .int .i64 rl, .int .i64 ra, .int .i64 rb] ∧ Below wr.heap.size wr V) (by kernel_rfl) ?_ (fun hHeld => ?_)
    · exact ⟨(HSR.out.1).drew, (HSR.out.2).drew⟩
    refine tk 0 22 (.agg #[.int .i64 rs, .int .i64 rf, .int .i64 rl, .int .i64 ra, .int .i64 rb]) rfl (by kernel_rfl) (fun _ _ _ h => h) (by kernel_rfl) (fun V hV => ex_rowT 25 _ rfl (w.heap.size) rfl 25 [.int .i64 rs, .int .i64 rf, .int .i64 rl, .int .i64 ra, .int .i64 rb] _ Tryz.underlying25 rfl (by kernel_rfl) (hV.1)) hHeld ?_
    try simp only [zz]
    refine tk 1 23 ?_ rfl (by kernel_rfl) (fun _ _ _ h => h) (by kernel_rfl) ?_ hHeld ?_
    rotate_left
    · intro w1 hSw; (try dsimp only at hSw); go_simp <;> with_reducible rfl
    try simp only [zz]
    refine tk 2 24 ?_ rfl (by kernel_rfl) (fun _ _ _ h => h) (by kernel_rfl) ?_ hHeld ?_
    rotate_left
    · intro w1 hSw; (try dsimp only at hSw); go_simp <;> with_reducible rfl
    try simp only [zz]
    refine tk 3 25 ?_ rfl (by kernel_rfl) (fun _ _ _ h => h) (by kernel_rfl) ?_ hHeld ?_
    rotate_left
    · intro w1 hSw; (try dsimp only at hSw); go_simp <;> with_reducible rfl
    try simp only [zz]
    refine tk 4 26 (.agg #[.int .i64 sa, .int .i64 sb, .int .i64 sc, .int .i64 sd, .int .i64 sx, .int .i64 sy]) rfl (by kernel_rfl) (fun _ _ _ h => h) (by kernel_rfl) (fun V hV => ex_SgR _ rfl b0 (off + k * 6) rfl (keepT HC.out.1 hV.2) (keepT HC.out.2.1 hV.2) (keepT HC.out.2.2.1 hV.2) (keepT HC.out.2.2.2.1 hV.2) (keepT HC.out.2.2.2.2.1 hV.2) (keepT HC.out.2.2.2.2.2 hV.2)) hHeld ?_
    try simp only [zz]
    refine st1 5 (by kernel_rfl) rfl (fun K hK => ?_)
    go_simp
    go_at_call 16
    refine (HT.out _).mono ?_
    rintro e v5 ⟨rfl, hb5⟩
    try go_simp
    refine hK.out _ _ ?_ (fun hHeld => ?_)
    · exact ⟨(hHeld.1).old hb5, (hHeld.2).trans ((hb5).mono (hHeld.2).size)⟩
    clear hK K
    try simp only [zz]
    refine tk 6 21 ?_ rfl (by kernel_rfl) (fun _ _ _ h => h) (by kernel_rfl) ?_ hHeld ?_
    rotate_left
    · intro w1 hSw; (try dsimp only at hSw); go_simp <;> with_reducible rfl
    try simp only [zz]
    refine tk 7 28 ?_ rfl (by kernel_rfl) (fun _ _ _ h => h) (by kernel_rfl) ?_ hHeld ?_
    rotate_left
    · intro w1 hSw; (try dsimp only at hSw); go_simp <;> with_reducible rfl
    try simp only [zz]
    refine tk 8 29 ?_ rfl (by kernel_rfl) (fun _ _ _ h => h) (by kernel_rfl) ?_ hHeld ?_
    rotate_left
    · intro w1 hSw; (try dsimp only at hSw); go_simp <;> with_reducible rfl
    try simp only [zz]
    refine tk 9 12 ?_ rfl (by kernel_rfl) (fun _ _ _ h => h) (by kernel_rfl) ?_ hHeld ?_
    rotate_left
    · intro w1 hSw; (try dsimp only at hSw); go_simp <;> with_reducible rfl
    try simp only [zz]
    refine tk 10 13 ?_ rfl (by kernel_rfl) (fun _ _ _ h => h) (by kernel_rfl) ?_ hHeld ?_
    rotate_left
    · intro w1 hSw; (try dsimp only at hSw); go_simp <;> with_reducible rfl
    try simp only [zz]
    refine wpAnyH_done (by kernel_rfl) ?_ _
    refine genT (fun V => Row V (w.heap.size) 25 [.int .i64 rs, .int .i64 rf, .int .i64 rl, .int .i64 ra, .int .i64 rb] ∧ Below wr.heap.size wr V) hHeld ?_
    intro W6 s6
    have HK := Lib.hid s6
    clear s6 hHeld HSR HC HT
    have Ho6 := Lib.hid (own_keep Ho.out HK.out.2)
    have Hb6 := Lib.hid (Hb.out.trans (HK.out.2.mono Hb.out.size))
    have Hr6 := Lib.hid HK.out.1
    have Hsz : Hid (w.heap.size + 1 ≤ W6.heap.size) := Lib.hid (by have := HK.out.1.lt; omega)
    clear HK Ho Hb Hr
    have hsplit : (B = false ∧ D = false) ∨ (B = false ∧ D = true) ∨ B = true := by cases B <;> cases D <;> simp
    rcases hsplit with ⟨rfl, rfl⟩ | ⟨rfl, rfl⟩ | rfl
    · have k0 : flagS false false = ⟨#[]⟩ := rfl
      have hv : m = n + (t - n) / lag := Hfv.out
      have hf2 := HRR.out.f
      have e1 : IntKind.i64.wrap (t - n) = t - n := IntWalk.i64_in _ (by have := Htb.out; have := Hn.out; omega)
      have e2 : IntKind.i64.wrap (n + (t - n) / lag) = m := by rw [← hv]; exact IntWalk.i64_in _ (by have := hbk.out; omega)
      have HFl : Hid (∀ W, Calls Tryz.prog 76 #[.int .i64 (t - n), .int .i64 lag] W fun e w' => e = .returned (.int .i64 ((t - n) / lag)) ∧ W = w') := fun W => floorR_any _ _ W (by have := Htb.out; have := Hn.out; omega) (by have := HL.out; omega)
      rw [k0]
      clear k0 Hfv hv hf2
      go_wp2_with (first | (go_at_call 76; refine (HFl.out _).mono ?_; rintro e w7 ⟨rfl, rfl⟩) | (at_builtin; refine wpList_append_own _ rfl _ _ 43 rfl (w.heap.size + 1) 3 i0 (.int .i64 0) 1 8 Tryz.underlying43 hi hz0 hz1 hz2 rfl (by decide) _ _ _ rfl (Ho6.out.alloc _) ⟨W6.heap.size, 0, none⟩ 1 1 [.int .i64 m] rfl rfl (news1 _ _ _ _ rfl) ?c2 ?c3 ?c4 ?c5 ?_))
      case c2 => simp [Value.oneCell']
      case c3 => have := Hm.out; have := Hlt.out; unfold maxLen; omega
      case c4 => omega
      case c5 => simp; try (have := Hsz.out; omega)
      intro v' w1 hown' hgrow _
      have hb1 := Lib.hid (Below.app6 Hb6.out (by have := Hsz.out; omega) Ho6.out hgrow)
      have ho1 := Lib.hid hown'
      have hr1 := Lib.hid (Hr6.out.app6 Ho6.out hgrow)
      clear hown' hgrow
      go_wp2
      go_roundw
      case rel => exact ⟨k + 1, by have := Hlt.out; omega, by go_num, by rw [← Hmm.out], by show World.ownsRow _ _ _ _ _ _ _; rw [hik.out]; exact ho1.out, hr1, by rw [← Hmm.out]; exact hbk, hb1⟩
      case measure => have := Hlt.out; simp [intOf]; omega
    · have k0 : flagS false true = ⟨#[100, 101, 112, 116, 104]⟩ := rfl
      obtain rfl : m = n := Hfv.out
      rw [k0]
      clear k0 Hfv
      go_wp2_with (at_builtin; refine wpList_append_own _ rfl _ _ 43 rfl (w.heap.size + 1) 3 i0 (.int .i64 0) 1 8 Tryz.underlying43 hi hz0 hz1 hz2 rfl (by decide) _ _ _ rfl (Ho6.out.alloc _) ⟨W6.heap.size, 0, none⟩ 1 1 [.int .i64 m] rfl rfl (news1 _ _ _ _ rfl) ?c2 ?c3 ?c4 ?c5 ?_)
      case c2 => simp [Value.oneCell']
      case c3 => have := Hm.out; have := Hlt.out; unfold maxLen; omega
      case c4 => omega
      case c5 => simp; try (have := Hsz.out; omega)
      intro v' w1 hown' hgrow _
      have hb1 := Lib.hid (Below.app6 Hb6.out (by have := Hsz.out; omega) Ho6.out hgrow)
      have ho1 := Lib.hid hown'
      have hr1 := Lib.hid (Hr6.out.app6 Ho6.out hgrow)
      clear hown' hgrow
      go_wp2
      go_roundw
      case rel => exact ⟨k + 1, by have := Hlt.out; omega, by go_num, by rw [← Hmm.out], by show World.ownsRow _ _ _ _ _ _ _; rw [hik.out]; exact ho1.out, hr1, by rw [← Hmm.out]; exact hbk, hb1⟩
      case measure => have := Hlt.out; simp [intOf]; omega
    · have k0 : flagS true D = ⟨#[119, 101, 97, 107]⟩ := rfl
      obtain rfl : m = n := Hfv.out
      rw [k0]
      clear k0 Hfv
      go_wp2_with (at_builtin; refine wpList_append_own _ rfl _ _ 43 rfl (w.heap.size + 1) 3 i0 (.int .i64 0) 1 8 Tryz.underlying43 hi hz0 hz1 hz2 rfl (by decide) _ _ _ rfl (Ho6.out.alloc _) ⟨W6.heap.size, 0, none⟩ 1 1 [.int .i64 m] rfl rfl (news1 _ _ _ _ rfl) ?c2 ?c3 ?c4 ?c5 ?_)
      case c2 => simp [Value.oneCell']
      case c3 => have := Hm.out; have := Hlt.out; unfold maxLen; omega
      case c4 => omega
      case c5 => simp; try (have := Hsz.out; omega)
      intro v' w1 hown' hgrow _
      have hb1 := Lib.hid (Below.app6 Hb6.out (by have := Hsz.out; omega) Ho6.out hgrow)
      have ho1 := Lib.hid hown'
      have hr1 := Lib.hid (Hr6.out.app6 Ho6.out hgrow)
      clear hown' hgrow
      go_wp2
      go_roundw
      case rel => exact ⟨k + 1, by have := Hlt.out; omega, by go_num, by rw [← Hmm.out], by show World.ownsRow _ _ _ _ _ _ _; rw [hik.out]; exact ho1.out, hr1, by rw [← Hmm.out]; exact hbk, hb1⟩
      case measure => have := Hlt.out; simp [intOf]; omega
  · obtain rfl : k = L.length := by omega
    have hn : ¬ (L.length : Int) < (L.length : Int) := by omega
    go_wp2_with fail
    go_ret
    exact ⟨_, rfl, by have h := Ho.out; rw [List.take_of_length_le (by simp [foL])] at h; exact h, Hb.out⟩
end Go.Proofs.YtaeebedchbkniaaGreatDoor
