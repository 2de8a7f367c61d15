import Derived.Test.YtaeebedchbkniaaGreatDoorM18
import Derived.Test.YtaeebedchbkniaaGreatDoorM15
import Derived.Test.YtaeebedchbkniaaGreatDoorM11
import Derived.Test.YtaeebedchbkniaaGreatDoorM23
namespace Go.Proofs.YtaeebedchbkniaaGreatDoor
set_option linter.all false
open Go.RowKit Go.Fl

theorem ex_SgR {o : Oper} {a : Act} {w : World} {u0 u1 u2 u3 u4 u5 : Value} (x : Operand) (ho : o.op = .load 40 x) (g off : Nat) (hx : a.eval x = .pointer (some ⟨g, off, none⟩)) (c0 : w.cell? ⟨g, off, none⟩ = some u0) (c1 : w.cell? ⟨g, off + 1, none⟩ = some u1) (c2 : w.cell? ⟨g, off + 2, none⟩ = some u2) (c3 : w.cell? ⟨g, off + 3, none⟩ = some u3) (c4 : w.cell? ⟨g, off + 4, none⟩ = some u4) (c5 : w.cell? ⟨g, off + 5, none⟩ = some u5) :
 (execOp a.eval o).run Tryz.prog w = .ok (.value (.agg #[u0, u1, u2, u3, u4, u5])) w := by
 unfold execOp
 simp only [ho, hx]
 go_simp
theorem infoSgF : (Tryz.prog.info? 39).map (fun i => (i.zero, i.size, i.bytes)) = some (some (.agg #[.int .i64 0, .int .i64 0, .int .i64 0, .int .i64 0, .int .i64 0, .int .i64 0]), 6, 48) := by kernel_rfl
theorem sgC_take (L : List Sg) (k : Nat) (hk : k < L.length) : sgC (L.take (k + 1)) = sgC (L.take k) ++ L[k].L := by
 unfold sgC
 rw [List.take_succ_eq_append_getElem hk, List.flatMap_append, List.flatMap_cons, List.flatMap_nil, List.append_nil]
theorem cmp_lt (a b : Int) : decide (cmpI a b < 0) = decide (a < b) := by
 unfold cmpI
 by_cases h1 : a < b
 · simp [h1]
 · by_cases h2 : b < a <;> simp [h1, h2]
theorem cmp_gt (a b : Int) : decide (0 < cmpI a b) = decide (b < a) := by
 unfold cmpI
 by_cases h1 : a < b
 · have h2 : ¬ b < a := by omega
   simp [h1, h2]
 · by_cases h2 : b < a <;> simp [h1, h2]
theorem Below.app6 {B B2 : Nat} {w wr w1 : World} {o : Obj} {v : Value} {e : TypeId} {size n : Nat} {xs : List Value} (hb : Below B w wr) (hB : B ≤ wr.heap.size) (hown : wr.ownsRow B2 e size v n xs) (hg : (wr.alloc o).grownBy w1 v.ownBlock) (hB2 : B ≤ B2 := by omega) : Below B w w1 :=
 Below.app (B := B) hb hB ⟨hown.1, hown.2.imp id fun ⟨g, cap, cur, hv, hg, rest⟩ => ⟨g, cap, cur, hv, Nat.le_trans hB2 hg, rest⟩⟩ hg
theorem Row.app6 {B2 g : Nat} {t : TypeId} {vs : List Value} {wr w1 : World} {o : Obj} {v : Value} {e : TypeId} {size n : Nat} {xs : List Value} (hr : Row wr g t vs) (hown : wr.ownsRow B2 e size v n xs) (hg : (wr.alloc o).grownBy w1 v.ownBlock) (hB2 : g < B2 := by omega) : Row w1 g t vs :=
 (hr.alloc o).grown hg (fun h => by
   have := (hown.lt g h.symm).1
   omega)
set_option maxRecDepth 100000 in
set_option maxHeartbeats 4000000 in
theorem signals_any (A : Option Addr) (c : Nat) (L : List Sg) (w : World) (hA : Rd w A (sgC L)) (hm : L.length ≤ 1000000) :
 Calls Tryz.prog 18 #[.slice A L.length c] w fun e w' => ∃ v, e = .returned v ∧ w'.ownsRow w.heap.size 39 6 v L.length (sgC L) ∧ Below w.heap.size w w' := by
 have HA := Lib.hid hA
 clear hA
 obtain ⟨i0, hi, hz0, hz1, hz2⟩ := info_parts infoSgF
 go_enter Tryz.func18, Tryz.ntmps18
 go_wp2
 go_loopw [3, 8] (fun u i wr => ∃ k : Nat, k ≤ L.length ∧ i = .int .i64 k ∧ Hid (wr.ownsRow w.heap.size 39 6 u k (sgC (L.take k))) ∧ Hid (Below w.heap.size w wr)) (fun _ i _ => L.length - (intOf i).toNat)
 case atStart => exact ⟨0, Nat.zero_le _, rfl, World.ownsRow_nil _ _ _ _, Below.refl _ _⟩
 case round =>
  obtain ⟨k, hk, rfl, Ho, Hb⟩ := hrel
  by_cases hlt : k < L.length
  · obtain ⟨b0, off, rfl, q0, q1, q2, q3, q4, q5⟩ := Rd.sg (HA.out.below Hb.out) hlt
    have hst := Lib.hid (sgC_take L k hlt)
    obtain ⟨⟨sa, sb, sc, sd, sx, sy⟩, hs⟩ : ∃ s, s = L[k] := ⟨_, rfl⟩
    rw [← hs] at q0 q1 q2 q3 q4 q5 hst
    dsimp only at q0 q1 q2 q3 q4 q5
    have hltI : (k : Int) < (L.length : Int) := by omega
    have hsz := Hb.out.size
    have hbn : Below wr.heap.size wr ((wr.alloc (.cells #[.int .i64 0, .int .i64 0, .int .i64 0, .int .i64 0, .int .i64 0, .int .i64 0] 40)).setRow wr.heap.size #[.int .i64 sa, .int .i64 sb, .int .i64 sc, .int .i64 sd, .int .i64 sx, .int .i64 sy]) := Below.setRow ((Below.refl _ _).alloc (Nat.le_refl _) _) (Nat.le_refl _) _
    have Ho2 := Lib.hid (own_keep Ho.out hbn)
    have Hb2 := Lib.hid (Hb.out.trans (hbn.mono hsz))
    have Hn : Hid (Row ((wr.alloc (.cells #[.int .i64 0, .int .i64 0, .int .i64 0, .int .i64 0, .int .i64 0, .int .i64 0] 40)).setRow wr.heap.size #[.int .i64 sa, .int .i64 sb, .int .i64 sc, .int .i64 sd, .int .i64 sx, .int .i64 sy]) wr.heap.size 40 [.int .i64 sa, .int .i64 sb, .int .i64 sc, .int .i64 sd, .int .i64 sx, .int .i64 sy]) := (Row.new wr 40 [.int .i64 0, .int .i64 0, .int .i64 0, .int .i64 0, .int .i64 0, .int .i64 0]).setRow _
    have hs2 : ((wr.alloc (.cells #[.int .i64 0, .int .i64 0, .int .i64 0, .int .i64 0, .int .i64 0, .int .i64 0] 40)).setRow wr.heap.size #[.int .i64 sa, .int .i64 sb, .int .i64 sc, .int .i64 sd, .int .i64 sx, .int .i64 sy]).heap.size = wr.heap.size + 1 := by unfold World.setRow; simp
    have Hs2 := Lib.hid hs2
    have Hsz := Lib.hid hsz
    have Hm := Lib.hid (show L.length ≤ 1000000 from hm)
    have Hlt := Lib.hid hlt
    clear hs hlt hs2 hbn hsz
    go_wp2_with (first
     | (refine wpList_store_row rfl 40 _ _ rfl (wr.heap.size) #[.int .i64 sa, .int .i64 sb, .int .i64 sc, .int .i64 sd, .int .i64 sx, .int .i64 sy] rfl rfl 40 _ (Row.new wr 40 [.int .i64 0, .int .i64 0, .int .i64 0, .int .i64 0, .int .i64 0, .int .i64 0]) ?_ ?_ ?_ ?_; (kernel_rfl); (rfl); (simp [Value.oneCell']))
     | (refine wpList_load_row rfl 40 _ rfl (wr.heap.size) rfl 40 #[.int .i64 sa, .int .i64 sb, .int .i64 sc, .int .i64 sd, .int .i64 sx, .int .i64 sy] (0, 0) _ Hn.out Tryz.underlying40 rfl ?_ ?_; (kernel_rfl))
     | (at_builtin; refine wpList_append_own _ rfl _ _ 48 rfl w.heap.size 39 i0 (.agg #[.int .i64 0, .int .i64 0, .int .i64 0, .int .i64 0, .int .i64 0, .int .i64 0]) 6 48 Tryz.underlying48 hi hz0 hz1 hz2 rfl (by decide) _ _ _ rfl (Ho2.out.alloc _) ⟨wr.heap.size + 1, 0, none⟩ 1 1 [.int .i64 sa, .int .i64 sb, .int .i64 sc, .int .i64 sd, .int .i64 sx, .int .i64 sy] rfl rfl (news11 _ _ _ _ (by rw [Hs2.out])) ?c2 ?c3 ?c4 ?c5 ?_))
    case c2 => simp [Value.oneCell']
    case c3 => have := Hm.out; have := Hlt.out; unfold maxLen; omega
    case c4 => omega
    case c5 => simp; try (have := Hsz.out; omega)
    intro v' w1 hown' hgrow _
    have hb1 := Lib.hid (Below.app Hb2.out (by rw [Hs2.out]; have := Hsz.out; omega) Ho2.out hgrow)
    have ho1 := Lib.hid hown'
    clear hown' hgrow
    go_wp2
    go_roundw
    case rel => exact ⟨k + 1, by have := Hlt.out; omega, by go_num, by show World.ownsRow _ _ _ _ _ _ _; rw [hst.out]; exact ho1.out, hb1⟩
    case measure => have := Hlt.out; simp [intOf]; omega
  · obtain rfl : k = L.length := by omega
    have hn : ¬ (L.length : Int) < (L.length : Int) := by omega
    go_wp2
    go_ret
    exact ⟨_, rfl, by have h := Ho.out; rw [List.take_of_length_le (Nat.le_refl _)] at h; exact h, Hb.out⟩
end Go.Proofs.YtaeebedchbkniaaGreatDoor
