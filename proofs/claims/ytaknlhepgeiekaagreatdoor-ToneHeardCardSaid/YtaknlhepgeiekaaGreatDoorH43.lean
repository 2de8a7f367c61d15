import Derived.Test.YtaknlhepgeiekaaGreatDoorH18
import Derived.Test.YtaknlhepgeiekaaGreatDoorH22
namespace Go.Proofs.YtaknlhepgeiekaaGreatDoor
set_option linter.all false
open Go.RowKit Go.Fl
theorem infoSgF : (Tryz.prog.info? 35).map (fun i => (i.zero, i.size, i.bytes)) = some (some (.agg #[.int .i64 0, .int .i64 0, .int .i64 0, .int .i64 0, .int .i64 0, .int .i64 0]), 6, 48) := by kernel_rfl
theorem sgC_take (L : List Sg) (k : Nat) (hk : k < L.length) : sgC (L.take (k + 1)) = sgC (L.take k) ++ L[k].L := by
 unfold sgC
 rw [List.take_succ_eq_append_getElem hk, List.flatMap_append, List.flatMap_cons, List.flatMap_nil, List.append_nil]
set_option maxRecDepth 100000 in
set_option maxHeartbeats 4000000 in
theorem signals_any (A : Option Addr) (c : Nat) (L : List Sg) (w : World) (hA : Rd w A (sgC L)) (hm : L.length ≤ 1000000) :
 Calls Tryz.prog 14 #[.slice A L.length c] w fun e w' => ∃ v, e = .returned v ∧ w'.ownsRow w.heap.size 35 6 v L.length (sgC L) ∧ Below w.heap.size w w' := by
 have HA := Lib.hid hA
 clear hA
 obtain ⟨i0, hi, hz0, hz1, hz2⟩ := info_parts infoSgF
 go_enter Tryz.func14, Tryz.ntmps14
 go_wp2
 go_loopw [3, 8] (fun u i wr => ∃ k : Nat, k ≤ L.length ∧ i = .int .i64 k ∧ Hid (wr.ownsRow w.heap.size 35 6 u k (sgC (L.take k))) ∧ Hid (Below w.heap.size w wr)) (fun _ i _ => L.length - (intOf i).toNat)
 case atStart => exact ⟨0, Nat.zero_le _, rfl, World.ownsRow_nil _ _ _ _, Below.refl _ _⟩
 case round =>
  obtain ⟨k, hk, rfl, Ho, Hb⟩ := hrel
  by_cases hlt : k < L.length
  · obtain ⟨b0, off, rfl, q0, q1, q2, q3, q4, q5⟩ := Rd.sg (HA.out.below Hb.out) hlt
    have hst := Lib.hid (sgC_take L k hlt)
    obtain ⟨⟨sa, sb, sc, sd, sx, sy⟩, hs⟩ : ∃ s, s = L[k] := ⟨_, rfl⟩
    rw [← hs] at q0 q1 q2 q3 q4 q5 hst
    dsimp only at q0 q1 q2 q3 q4 q5
    have hltI : (k : Int) < (L.length : Int) := by omega
    have hsz := Hb.out.size
    have hbn : Below wr.heap.size wr ((wr.alloc (.cells #[.int .i64 0, .int .i64 0, .int .i64 0, .int .i64 0, .int .i64 0, .int .i64 0] 25)).setRow wr.heap.size #[.int .i64 sa, .int .i64 sb, .int .i64 sc, .int .i64 sd, .int .i64 sx, .int .i64 sy]) := Below.setRow ((Below.refl _ _).alloc (Nat.le_refl _) _) (Nat.le_refl _) _
    have Ho2 := Lib.hid (own_keep Ho.out hbn)
    have Hb2 := Lib.hid (Hb.out.trans (hbn.mono hsz))
    have Hn : Hid (Row ((wr.alloc (.cells #[.int .i64 0, .int .i64 0, .int .i64 0, .int .i64 0, .int .i64 0, .int .i64 0] 25)).setRow wr.heap.size #[.int .i64 sa, .int .i64 sb, .int .i64 sc, .int .i64 sd, .int .i64 sx, .int .i64 sy]) wr.heap.size 25 [.int .i64 sa, .int .i64 sb, .int .i64 sc, .int .i64 sd, .int .i64 sx, .int .i64 sy]) := (Row.new wr 25 [.int .i64 0, .int .i64 0, .int .i64 0, .int .i64 0, .int .i64 0, .int .i64 0]).setRow _
    have hs2 : ((wr.alloc (.cells #[.int .i64 0, .int .i64 0, .int .i64 0, .int .i64 0, .int .i64 0, .int .i64 0] 25)).setRow wr.heap.size #[.int .i64 sa, .int .i64 sb, .int .i64 sc, .int .i64 sd, .int .i64 sx, .int .i64 sy]).heap.size = wr.heap.size + 1 := by unfold World.setRow; simp
    have Hs2 := Lib.hid hs2
    have Hsz := Lib.hid hsz
    have Hm := Lib.hid (show L.length ≤ 1000000 from hm)
    have Hlt := Lib.hid hlt
    clear hs hlt hs2 hbn hsz
    go_wp2_with (first
     | (refine wpList_store_row rfl 25 _ _ rfl (wr.heap.size) #[.int .i64 sa, .int .i64 sb, .int .i64 sc, .int .i64 sd, .int .i64 sx, .int .i64 sy] rfl rfl 25 _ (Row.new wr 25 [.int .i64 0, .int .i64 0, .int .i64 0, .int .i64 0, .int .i64 0, .int .i64 0]) ?_ ?_ ?_ ?_; (kernel_rfl); (rfl); (simp [Value.oneCell']))
     | (refine wpList_load_row rfl 25 _ rfl (wr.heap.size) rfl 25 #[.int .i64 sa, .int .i64 sb, .int .i64 sc, .int .i64 sd, .int .i64 sx, .int .i64 sy] (0, 0) _ Hn.out Tryz.underlying25 rfl ?_ ?_; (kernel_rfl))
     | (at_builtin; refine wpList_append_own _ rfl _ _ 45 rfl w.heap.size 35 i0 (.agg #[.int .i64 0, .int .i64 0, .int .i64 0, .int .i64 0, .int .i64 0, .int .i64 0]) 6 48 Tryz.underlying45 hi hz0 hz1 hz2 rfl (by decide) _ _ _ rfl (Ho2.out.alloc _) ⟨wr.heap.size + 1, 0, none⟩ 1 1 [.int .i64 sa, .int .i64 sb, .int .i64 sc, .int .i64 sd, .int .i64 sx, .int .i64 sy] rfl rfl (news11 _ _ _ _ (by rw [Hs2.out])) ?c2 ?c3 ?c4 ?c5 ?_))
    case c2 => simp [Value.oneCell']
    case c3 => have := Hm.out; have := Hlt.out; unfold maxLen; omega
    case c4 => omega
    case c5 => simp; try (have := Hsz.out; omega)
    intro v' w1 hown' hgrow _
    have hb1 := Lib.hid (Below.app Hb2.out (by rw [Hs2.out]; have := Hsz.out; omega) Ho2.out hgrow)
    have ho1 := Lib.hid hown'
    clear hown' hgrow
    go_wp2
    go_roundw
    case rel => exact ⟨k + 1, by have := Hlt.out; omega, by go_num, by show World.ownsRow _ _ _ _ _ _ _; rw [hst.out]; exact ho1.out, hb1⟩
    case measure => have := Hlt.out; simp [intOf]; omega
  · obtain rfl : k = L.length := by omega
    have hn : ¬ (L.length : Int) < (L.length : Int) := by omega
    go_wp2
    go_ret
    exact ⟨_, rfl, by have h := Ho.out; rw [List.take_of_length_le (Nat.le_refl _)] at h; exact h, Hb.out⟩
set_option maxRecDepth 100000
set_option maxHeartbeats 4000000
theorem infoSgR2 : (Tryz.prog.info? 25).map (fun i => (i.zero, i.size, i.bytes)) = some (some (.agg #[.int .i64 0, .int .i64 0, .int .i64 0, .int .i64 0, .int .i64 0, .int .i64 0]), 6, 48) := by kernel_rfl
theorem backs_any (A : Option Addr) (c : Nat) (L : List Sg) (w : World) (hA : Rd w A (sgC L)) (hm : L.length ≤ 1000000) :
 Calls Tryz.prog 17 #[.slice A L.length c] w fun e w' => ∃ v, e = .returned v ∧ w'.ownsRow w.heap.size 25 6 v L.length (sgC L) ∧ Below w.heap.size w w' := by
 have HA := Lib.hid hA
 clear hA
 obtain ⟨i0, hi, hz0, hz1, hz2⟩ := info_parts infoSgR2
 go_enter Tryz.func17, Tryz.ntmps17
 go_wp2
 go_loopw [3, 8] (fun u i wr => ∃ k : Nat, k ≤ L.length ∧ i = .int .i64 k ∧ Hid (wr.ownsRow w.heap.size 25 6 u k (sgC (L.take k))) ∧ Hid (Below w.heap.size w wr)) (fun _ i _ => L.length - (intOf i).toNat)
 case atStart => exact ⟨0, Nat.zero_le _, rfl, World.ownsRow_nil _ _ _ _, Below.refl _ _⟩
 case round =>
  obtain ⟨k, hk, rfl, Ho, Hb⟩ := hrel
  by_cases hlt : k < L.length
  · obtain ⟨b0, off, rfl, q0, q1, q2, q3, q4, q5⟩ := Rd.sg (HA.out.below Hb.out) hlt
    have hst := Lib.hid (sgC_take L k hlt)
    obtain ⟨⟨sa, sb, sc, sd, sx, sy⟩, hs⟩ : ∃ s, s = L[k] := ⟨_, rfl⟩
    rw [← hs] at q0 q1 q2 q3 q4 q5 hst
    dsimp only at q0 q1 q2 q3 q4 q5
    have hltI : (k : Int) < (L.length : Int) := by omega
    have hsz := Hb.out.size
    have hbn : Below wr.heap.size wr ((wr.alloc (.cells #[.int .i64 0, .int .i64 0, .int .i64 0, .int .i64 0, .int .i64 0, .int .i64 0] 35)).setRow wr.heap.size #[.int .i64 sa, .int .i64 sb, .int .i64 sc, .int .i64 sd, .int .i64 sx, .int .i64 sy]) := Below.setRow ((Below.refl _ _).alloc (Nat.le_refl _) _) (Nat.le_refl _) _
    have Ho2 := Lib.hid (own_keep Ho.out hbn)
    have Hb2 := Lib.hid (Hb.out.trans (hbn.mono hsz))
    have Hn : Hid (Row ((wr.alloc (.cells #[.int .i64 0, .int .i64 0, .int .i64 0, .int .i64 0, .int .i64 0, .int .i64 0] 35)).setRow wr.heap.size #[.int .i64 sa, .int .i64 sb, .int .i64 sc, .int .i64 sd, .int .i64 sx, .int .i64 sy]) wr.heap.size 35 [.int .i64 sa, .int .i64 sb, .int .i64 sc, .int .i64 sd, .int .i64 sx, .int .i64 sy]) := (Row.new wr 35 [.int .i64 0, .int .i64 0, .int .i64 0, .int .i64 0, .int .i64 0, .int .i64 0]).setRow _
    have hs2 : ((wr.alloc (.cells #[.int .i64 0, .int .i64 0, .int .i64 0, .int .i64 0, .int .i64 0, .int .i64 0] 35)).setRow wr.heap.size #[.int .i64 sa, .int .i64 sb, .int .i64 sc, .int .i64 sd, .int .i64 sx, .int .i64 sy]).heap.size = wr.heap.size + 1 := by unfold World.setRow; simp
    have Hs2 := Lib.hid hs2
    have Hsz := Lib.hid hsz
    have Hm := Lib.hid (show L.length ≤ 1000000 from hm)
    have Hlt := Lib.hid hlt
    clear hs hlt hs2 hbn hsz
    go_wp2_with (first
     | (refine wpList_store_row rfl 35 _ _ rfl (wr.heap.size) #[.int .i64 sa, .int .i64 sb, .int .i64 sc, .int .i64 sd, .int .i64 sx, .int .i64 sy] rfl rfl 35 _ (Row.new wr 35 [.int .i64 0, .int .i64 0, .int .i64 0, .int .i64 0, .int .i64 0, .int .i64 0]) ?_ ?_ ?_ ?_; (kernel_rfl); (rfl); (simp [Value.oneCell']))
     | (refine wpList_load_row rfl 35 _ rfl (wr.heap.size) rfl 35 #[.int .i64 sa, .int .i64 sb, .int .i64 sc, .int .i64 sd, .int .i64 sx, .int .i64 sy] (0, 0) _ Hn.out Tryz.underlying35 rfl ?_ ?_; (kernel_rfl))
     | (at_builtin; refine wpList_append_own _ rfl _ _ 42 rfl w.heap.size 25 i0 (.agg #[.int .i64 0, .int .i64 0, .int .i64 0, .int .i64 0, .int .i64 0, .int .i64 0]) 6 48 Tryz.underlying42 hi hz0 hz1 hz2 rfl (by decide) _ _ _ rfl (Ho2.out.alloc _) ⟨wr.heap.size + 1, 0, none⟩ 1 1 [.int .i64 sa, .int .i64 sb, .int .i64 sc, .int .i64 sd, .int .i64 sx, .int .i64 sy] rfl rfl (news11 _ _ _ _ (by rw [Hs2.out])) ?c2 ?c3 ?c4 ?c5 ?_))
    case c2 => simp [Value.oneCell']
    case c3 => have := Hm.out; have := Hlt.out; unfold maxLen; omega
    case c4 => omega
    case c5 => simp; try (have := Hsz.out; omega)
    intro v' w1 hown' hgrow _
    have hb1 := Lib.hid (Below.app Hb2.out (by rw [Hs2.out]; have := Hsz.out; omega) Ho2.out hgrow)
    have ho1 := Lib.hid hown'
    clear hown' hgrow
    go_wp2
    go_roundw
    case rel => exact ⟨k + 1, by have := Hlt.out; omega, by go_num, by show World.ownsRow _ _ _ _ _ _ _; rw [hst.out]; exact ho1.out, hb1⟩
    case measure => have := Hlt.out; simp [intOf]; omega
  · obtain rfl : k = L.length := by omega
    have hn : ¬ (L.length : Int) < (L.length : Int) := by omega
    go_wp2
    go_ret
    exact ⟨_, rfl, by have h := Ho.out; rw [List.take_of_length_le (Nat.le_refl _)] at h; exact h, Hb.out⟩
theorem fieldsRS2 : ((Tryz.prog.fieldsOf 25).toList.map fun f => (f.name, f.type, f.offset)) = [("Carrier", 23, 0), ("Low", 23, 2), ("High", 23, 4)] := by kernel_rfl
theorem neqRS_self (a b c d x y : Int) (w : World) : (binOp .neq 25 (.agg #[.int .i64 a, .int .i64 b, .int .i64 c, .int .i64 d, .int .i64 x, .int .i64 y]) (.agg #[.int .i64 a, .int .i64 b, .int .i64 c, .int .i64 d, .int .i64 x, .int .i64 y])).run Tryz.prog w = .ok (.bool false) w := by
 have e1 : (part 23 #[.int .i64 a, .int .i64 b, .int .i64 c, .int .i64 d, .int .i64 x, .int .i64 y] 0).run Tryz.prog w = .ok (.agg #[.int .i64 a, .int .i64 b]) w := by kernel_rfl
 have e2 : (part 23 #[.int .i64 a, .int .i64 b, .int .i64 c, .int .i64 d, .int .i64 x, .int .i64 y] 2).run Tryz.prog w = .ok (.agg #[.int .i64 c, .int .i64 d]) w := by kernel_rfl
 have e3 : (part 23 #[.int .i64 a, .int .i64 b, .int .i64 c, .int .i64 d, .int .i64 x, .int .i64 y] 4).run Tryz.prog w = .ok (.agg #[.int .i64 x, .int .i64 y]) w := by kernel_rfl
 have e4 := fun (a b : Int) => eqG9 a b a b w
 have n1 : ("Carrier" : String) ≠ "_" := by decide
 have n2 : ("Low" : String) ≠ "_" := by decide
 have n3 : ("High" : String) ≠ "_" := by decide
 rw [run_neq_struct, run_eqStruct w 9999 _ _ _ _ (by kernel_rfl) (by kernel_rfl) fieldsRS2]
 simp [eqTriples, Sem.run_bind, e1, e2, e3, e4, Result.andThen_ok, Sem.run_ite, Sem.run_pure]
theorem sameSignals_self (A B : Option Addr) (c d : Nat) (L : List Sg) (w : World) (hA : Rd w A (sgC L)) (hB : Rd w B (sgC L)) (hx : L.length ≤ 4611686018427387903) :
 Calls Tryz.prog 16 #[.slice A L.length c, .slice B L.length d] w fun e w' => e = .returned (.bool true) ∧ ∃ q, w' = w.drewN q := by
 have hl1 : ((L.length : Int) != (L.length : Int)) = false := by simp
 go_enter Tryz.func16, Tryz.ntmps16
 go_wp2
 go_loopw [5] (fun i wr => ∃ k : Nat, k ≤ L.length ∧ i = .int .i64 k ∧ ∃ q, wr = w.drewN q) (fun i _ => L.length - (intOf i).toNat)
 case atStart => exact ⟨0, Nat.zero_le _, rfl, 0, rfl⟩
 case round =>
  obtain ⟨k, hk, rfl, q, rfl⟩ := hrel
  by_cases hlt : k < L.length
  · obtain ⟨b, off, rfl, q0, q1, q2, q3, q4, q5⟩ := Rd.sg hA hlt
    obtain ⟨b', off', rfl, r0, r1, r2, r3, r4, r5⟩ := Rd.sg hB hlt
    have i1 : (k : Int) < (L.length : Int) := by omega
    obtain ⟨⟨sa, sb, sc, sd, sx, sy⟩, hs⟩ : ∃ s, s = L[k] := ⟨_, rfl⟩
    rw [← hs] at q0 q1 q2 q3 q4 q5 r0 r1 r2 r3 r4 r5
    dsimp only at q0 q1 q2 q3 q4 q5 r0 r1 r2 r3 r4 r5
    have hneq := neqRS_self sa sb sc sd sx sy
    clear hs
    go_wp2
    go_quiet (fail)
    go_wp2
    go_roundw
    case rel => exact ⟨k + 1, by omega, by go_num, _, rfl⟩
    case measure => simp [intOf]; omega
  · obtain rfl : k = L.length := by omega
    have hn : ¬ (L.length : Int) < (L.length : Int) := by omega
    go_wp2
    go_ret
    exact ⟨rfl, q, rfl⟩
end Go.Proofs.YtaknlhepgeiekaaGreatDoor
