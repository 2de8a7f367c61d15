import Derived.Test.YtipligklkkiejaaGreatDoorM09
import Derived.Test.YtipligklkkiejaaGreatDoorM10
import Derived.Test.YtipligklkkiejaaGreatDoorM19
/- Contracts: the same packets; packets of the program as those of the reference. -/
namespace Go.Proofs.YtipligklkkiejaaGreatDoor
set_option linter.all false
open Go.RowKit Go.Fl
set_option linter.unusedVariables false
set_option linter.unusedSimpArgs false

def pksS (l : List PkT) : Prop := ∀ p ∈ l, sameF p.2.2.2 p.2.2.2 = true
theorem infoRPw : (Tryz.prog.info? 27).map (fun i => (i.zero, i.size, i.bytes)) = some (some (.agg #[.int .i64 0, .int .i64 0, .int .i64 0, .float .f32 0, .float .f32 0, .float .f32 0, .float .f32 0, .float .f32 0, .float .f32 0, .float .f32 0, .float .f32 0]), 11, 56) := by kernel_rfl

set_option maxRecDepth 100000 in
set_option maxHeartbeats 2000000 in
theorem samePackets_any (A B : Option Addr) (n m c d : Nat) (ps : List PkT) (w : World) (hA : Rd w A (pksC ps)) (hB : Rd w B (pksC ps)) (h8 : pks8 ps) (hs : pksS ps) (hn : n = ps.length) (hm : m = ps.length) (hx : ps.length ≤ 1000000) :
    Calls Tryz.prog 18 #[.slice A n c, .slice B m d] w fun e w' => e = .returned (.bool true) ∧ Below w.heap.size w w' := by
  subst hn; subst hm
  have HA := Lib.hid hA; have HB := Lib.hid hB; have H8 := Lib.hid h8; have HS := Lib.hid hs
  clear hA hB h8 hs
  go_enter Tryz.func18, Tryz.ntmps18
  go_wp2
  go_loopw [5] (fun i wr => ∃ k : Nat, k ≤ ps.length ∧ i = .int .i64 k ∧ ∃ q, wr = w.drewN q) (fun i _ => ps.length - (intOf i).toNat)
  case atStart => exact ⟨0, Nat.zero_le _, rfl, 0, rfl⟩
  case round =>
    obtain ⟨k, hk, rfl, q, rfl⟩ := hrel
    by_cases hlt : k < ps.length
    · obtain ⟨b, off, hAb, hc⟩ := Rd.flat HA.out (fun p hp => pkV_length (H8.out p hp)) (by decide) hlt
      obtain ⟨b', off', hBb, hc'⟩ := Rd.flat HB.out (fun p hp => pkV_length (H8.out p hp)) (by decide) hlt
      subst hAb; subst hBb
      have hsf := HS.out _ (List.getElem_mem hlt)
      obtain ⟨st, ct, ln, x0, x1, x2, x3, x4, x5, x6, x7, hp⟩ := pk_form (H8.out _ (List.getElem_mem hlt))
      rw [hp] at hc hc' hsf
      have hsk : samePk st ct ln [x0, x1, x2, x3, x4, x5, x6, x7] st ct ln [x0, x1, x2, x3, x4, x5, x6, x7] = true := by
        unfold samePk; rw [show sameF [x0, x1, x2, x3, x4, x5, x6, x7] [x0, x1, x2, x3, x4, x5, x6, x7] = true from hsf]; simp
      have hneq := fun W => neqPk50 st ct ln [x0, x1, x2, x3, x4, x5, x6, x7] st ct ln [x0, x1, x2, x3, x4, x5, x6, x7] rfl rfl W
      rw [hsk] at hneq
      have hneq : ∀ W, (binOp .neq 27 (.agg #[.int .i64 st, .int .i64 ct, .int .i64 ln, .float .f32 x0, .float .f32 x1, .float .f32 x2, .float .f32 x3, .float .f32 x4, .float .f32 x5, .float .f32 x6, .float .f32 x7]) (.agg #[.int .i64 st, .int .i64 ct, .int .i64 ln, .float .f32 x0, .float .f32 x1, .float .f32 x2, .float .f32 x3, .float .f32 x4, .float .f32 x5, .float .f32 x6, .float .f32 x7])).run Tryz.prog W = .ok (.bool false) W := hneq
      have c0 := hc 0 _ rfl; have c1 := hc 1 _ rfl; have c2 := hc 2 _ rfl; have c3 := hc 3 _ rfl; have c4 := hc 4 _ rfl; have c5 := hc 5 _ rfl; have c6 := hc 6 _ rfl; have c7 := hc 7 _ rfl; have c8 := hc 8 _ rfl; have c9 := hc 9 _ rfl; have c10 := hc 10 _ rfl
      have e0 := hc' 0 _ rfl; have e1 := hc' 1 _ rfl; have e2 := hc' 2 _ rfl; have e3 := hc' 3 _ rfl; have e4 := hc' 4 _ rfl; have e5 := hc' 5 _ rfl; have e6 := hc' 6 _ rfl; have e7 := hc' 7 _ rfl; have e8 := hc' 8 _ rfl; have e9 := hc' 9 _ rfl; have e10 := hc' 10 _ rfl
      rw [Nat.add_zero] at c0 e0
      have i1 : (k : Int) < (ps.length : Int) := by omega
      clear hc hc' hp hsf hsk
      go_wp2
      go_quiet (fail)
      go_wp2
      go_roundw
      case rel => exact ⟨k + 1, by omega, by go_num, _, rfl⟩
      case measure => simp [intOf]; omega
    · go_wp2
      go_ret
      exact ⟨rfl, below_drewN (Below.refl _ _) _⟩

theorem pksC_take (ps : List PkT) (k : Nat) (hk : k < ps.length) : pksC (ps.take (k + 1)) = pksC (ps.take k) ++ pkV ps[k] := by
  unfold pksC
  rw [List.take_add_one, List.getElem?_eq_getElem hk, Option.toList_some, List.flatMap_append]; simp
set_option maxRecDepth 100000 in
set_option maxHeartbeats 2000000 in
theorem packets_any (A : Option Addr) (n c : Nat) (ps : List PkT) (w : World) (hA : Rd w A (pksC ps)) (h8 : pks8 ps) (hn : n = ps.length) (hx : ps.length ≤ 1000000) :
    Calls Tryz.prog 19 #[.slice A n c] w fun e w' => ∃ v, e = .returned v ∧ w'.ownsRow w.heap.size 27 11 v ps.length (pksC ps) ∧ Below w.heap.size w w' := by
  subst hn
  have HA := Lib.hid hA; have H8 := Lib.hid h8
  clear hA h8
  go_enter Tryz.func19, Tryz.ntmps19
  go_wp2
  go_loopg [3, 8] ps.length (fun g u i wr => ∃ k : Nat, k ≤ ps.length ∧ i = .int .i64 k ∧ g = ps.length - k ∧ Hid (wr.ownsRow w.heap.size 27 11 u k (pksC (ps.take k))) ∧ Hid (Below w.heap.size w wr))
  case atStart => exact ⟨0, by omega, rfl, rfl, World.ownsRow_nil _ _ _ _, Below.refl _ _⟩
  case round =>
    obtain ⟨k, hk, rfl, hgk, HO, Hb⟩ := hrel
    by_cases hlt : k < ps.length
    · obtain ⟨b, off, hAb, hc⟩ := Rd.flat (HA.out.below Hb.out) (fun p hp => pkV_length (H8.out p hp)) (by decide) hlt
      subst hAb
      obtain ⟨st, ct, ln, x0, x1, x2, x3, x4, x5, x6, x7, hp⟩ := pk_form (H8.out _ (List.getElem_mem hlt))
      rw [hp] at hc
      have c0 := hc 0 _ rfl; have c1 := hc 1 _ rfl; have c2 := hc 2 _ rfl; have c3 := hc 3 _ rfl; have c4 := hc 4 _ rfl; have c5 := hc 5 _ rfl; have c6 := hc 6 _ rfl; have c7 := hc 7 _ rfl; have c8 := hc 8 _ rfl; have c9 := hc 9 _ rfl; have c10 := hc 10 _ rfl
      rw [Nat.add_zero] at c0
      have HT : Hid (pksC (ps.take (k + 1)) = pksC (ps.take k) ++ [.int .i64 st, .int .i64 ct, .int .i64 ln, .float .f32 x0, .float .f32 x1, .float .f32 x2, .float .f32 x3, .float .f32 x4, .float .f32 x5, .float .f32 x6, .float .f32 x7]) := by
        unfold Hid; rw [pksC_take ps k hlt, hp]; rfl
      have hzr : w.heap.size ≤ wr.heap.size := Hb.out.size
      clear hc hp
      go_wp2_with (at_builtin; refine wpList_app rfl _ _ 51 rfl w.heap.size 27 (.agg #[.int .i64 0, .int .i64 0, .int .i64 0, .float .f32 0, .float .f32 0, .float .f32 0, .float .f32 0, .float .f32 0, .float .f32 0, .float .f32 0, .float .f32 0]) 11 56 Tryz.underlying51 infoRPw rfl (by decide) _ k (pksC (ps.take k)) rfl ((HO.out.alloc _).alloc _) (some ⟨wr.heap.size + 1, 0, none⟩) 1 1 [.int .i64 st, .int .i64 ct, .int .i64 ln, .float .f32 x0, .float .f32 x1, .float .f32 x2, .float .f32 x3, .float .f32 x4, .float .f32 x5, .float .f32 x6, .float .f32 x7] rfl (fun h => by cases h) ?c0 rfl (by simp [Value.oneCell']) ?d2 ?d3 ?d4 ?_)
      case c0 =>
        have h1 := Rd.row (Row.new (wr.alloc (.cells #[.int .i64 st, .int .i64 ct, .int .i64 ln, .float .f32 x0, .float .f32 x1, .float .f32 x2, .float .f32 x3, .float .f32 x4, .float .f32 x5, .float .f32 x6, .float .f32 x7] 32)) 27 [.int .i64 st, .int .i64 ct, .int .i64 ln, .float .f32 x0, .float .f32 x1, .float .f32 x2, .float .f32 x3, .float .f32 x4, .float .f32 x5, .float .f32 x6, .float .f32 x7])
        rw [World.size_alloc] at h1
        exact h1
      case d2 => unfold maxLen; omega
      case d3 => omega
      case d4 => first | omega | (simp; omega)
      intro v1 w1 hown1 hg1
      have HB1 : Hid (Below w.heap.size w w1) := ((Hb.out.alloc Hb.out.size (.cells #[.int .i64 st, .int .i64 ct, .int .i64 ln, .float .f32 x0, .float .f32 x1, .float .f32 x2, .float .f32 x3, .float .f32 x4, .float .f32 x5, .float .f32 x6, .float .f32 x7] 32)).alloc (by simp; omega) (.cells #[.int .i64 st, .int .i64 ct, .int .i64 ln, .float .f32 x0, .float .f32 x1, .float .f32 x2, .float .f32 x3, .float .f32 x4, .float .f32 x5, .float .f32 x6, .float .f32 x7] 27)).grown hg1 (by simp; omega) (fun q hq => (HO.out.lt q hq).1)
      have HO1 : Hid (w1.ownsRow w.heap.size 27 11 v1 (k + 1) (pksC (ps.take (k + 1)))) := by
        unfold Hid; rw [HT.out]; exact hown1
      clear hown1 hg1 HO Hb
      go_wp2
      go_roundg (ps.length - (k + 1))
      case measure => omega
      case rel => exact ⟨k + 1, by omega, by go_num, rfl, HO1, HB1⟩
    · obtain rfl : k = ps.length := by omega
      have HO2 := HO.out
      rw [List.take_length] at HO2
      have HO3 := Lib.hid HO2
      clear HO2 HO
      go_wp2
      go_ret
      exact ⟨_, rfl, HO3.out, Hb.out⟩
end Go.Proofs.YtipligklkkiejaaGreatDoor
