import Derived.Test.YtdglifjhkjdogaaGreatDoorM25
import Derived.Test.YtdglifjhkjdogaaGreatDoorM19
import Derived.Test.YtdglifjhkjdogaaGreatDoorM18
import Derived.Test.YtdglifjhkjdogaaGreatDoorZ1
/- Contracts: hold, Code and letter of the reference. -/
namespace Go.Proofs.YtdglifjhkjdogaaGreatDoor
set_option linter.all false
open Go.RowKit Go.Fl
set_option linter.unusedVariables false
set_option linter.unusedSimpArgs false

set_option maxRecDepth 100000 in
set_option maxHeartbeats 1000000 in
theorem hold_step (B : Nat) (v : Value) (xs : List Nat) (b : Nat) (m : Int) (w : World) (hown : w.ownsRow B 76 1 v xs.length (flts xs)) (hB : B ≤ w.heap.size) (hm0 : 0 ≤ m) (hm : m ≤ 1000000) (hx : xs.length ≤ 1000000) :
    Calls Tryz.prog 79 #[v, .float .f32 b, .int .i64 m] w fun e w' => ∃ v', e = .returned v' ∧ w'.ownsRow B 76 1 v' (xs ++ List.replicate m.toNat b).length (flts (xs ++ List.replicate m.toNat b)) ∧ Step w w' v v' := by
  obtain ⟨q, rfl⟩ := Int.eq_ofNat_of_zero_le hm0
  obtain ⟨i0, hi, hz0, hz1, hz2⟩ := info_parts info37
  go_enter Tryz.func79, Tryz.ntmps79
  go_wp2
  go_loopw [0, 7] (fun u i wr => ∃ k : Nat, k ≤ q ∧ i = .int .i64 k ∧ wr.ownsRow B 76 1 u (xs.length + k) (flts (xs ++ List.replicate k b)) ∧ Step w wr v u) (fun _ i _ => q - (intOf i).toNat)
  case atStart => exact ⟨0, Nat.zero_le _, rfl, by simpa using hown, Step.refl _ _⟩
  case round =>
    clear hown
    obtain ⟨k, hk, rfl, hown, hb⟩ := hrel
    have hsz := hb.1.size
    have Hb := Lib.hid hb
    clear hb
    by_cases hlt : k < q
    · go_wp2_with (at_builtin; refine wpList_append_own_at _ rfl _ _ 22 rfl B 76 i0 (.float .f32 0) 1 4 Tryz.underlying22 hi hz0 hz1 hz2 rfl (by decide) _ _ _ rfl (hown.alloc _) ⟨wr.heap.size, 0, none⟩ 1 1 [.float .f32 b] rfl rfl (news1 _ _ _ _ rfl) ?c2 ?c3 ?c4 ?c5 ?_)
      case c2 => simp [Value.oneCell']
      case c3 => unfold maxLen; omega
      case c4 => omega
      case c5 => simp; omega
      intro v' w1 hown' hgrow _ hat
      have hu := Lib.hid (flts_snoc xs b k)
      have hb1 := Lib.hid (Hb.out.trans (Step.of_alloc hgrow (by rw [World.size_alloc]; exact hat)))
      have ho1 := Lib.hid hown'
      clear hown' hgrow hown hat
      go_wp2
      go_roundw
      case rel => exact ⟨k + 1, by omega, by go_num, by rw [hu.out]; exact ho1.out, hb1.out⟩
      case measure => simp [intOf]; omega
    · obtain rfl : k = q := by omega
      go_wp2
      go_ret
      exact ⟨_, rfl, by simpa using hown, Hb.out⟩

/-- the dots and dashes of a letter -/
def codeB (k : Nat) : List Bool := (codeL k).map (fun c => c == 49)
def codeG (f n : Nat) : List Bool := (codeF f n).map (fun c => c == 49)
theorem codeG_step (f n : Nat) (h : 2 ≤ n) : codeG (f + 1) n = codeG f (n / 2) ++ [n % 2 == 1] := by
  unfold codeG
  rw [codeF, if_neg (by omega), List.map_append]
  congr 1
  rcases Nat.mod_two_eq_zero_or_one n with e | e <;> rw [e] <;> rfl
theorem codeG_end (f n : Nat) (h : n < 2) : codeG f n = [] := by
  cases f with
  | zero => rfl
  | succ f => unfold codeG; rw [codeF, if_pos h]; rfl
theorem codeB_len (k : Nat) (hk : k < 26) : (codeB k).length ≤ 8 := by
  unfold codeB; rw [List.length_map]; exact (codeL_small ⟨k, hk⟩).1
theorem info4 : (Tryz.prog.info? 4).map (fun i => (i.zero, i.size, i.bytes)) = some (some (.bool false), 1, 1) := by kernel_rfl

set_option maxRecDepth 100000 in
set_option maxHeartbeats 1000000 in
theorem codeR_any (k : Nat) (hk : k < 26) (w : World) :
    Calls Tryz.prog 80 #[.int .i64 k] w fun e w' => ∃ v, e = .returned v ∧ w'.ownsRow w.heap.size 4 1 v (codeB k).length (bools (codeB k)) ∧ Below w.heap.size w w' := by
  have H8 := Lib.hid (codeB_len k hk)
  have E0 : IntKind.i64.wrap ((k : Int) + 2) = ((k + 2 : Nat) : Int) := by rw [IntWalk.i64_in _ (by omega)]; omega
  go_enter Tryz.func80, Tryz.ntmps80
  go_wp2
  go_loopg [0, 3] 8 (fun g i u wr => ∃ (n : Nat) (out : List Bool), n < 28 ∧ i = .int .i64 n ∧ n < 2 ^ (g + 1) ∧ Hid (codeG g n ++ out = codeB k) ∧ Hid (wr.ownsRow w.heap.size 4 1 u out.length (bools out)) ∧ Hid (Below w.heap.size w wr))
  case atStart => exact ⟨k + 2, [], by omega, by go_num, by omega, by show _ = _; rw [List.append_nil]; rfl, World.ownsRow_nil _ _ _ _, Below.refl _ _⟩
  case round =>
    obtain ⟨n, out, hn, rfl, hg, H, Ho, HB⟩ := hrel
    by_cases h2 : 2 ≤ n
    · have hgk : gk ≠ 0 := by intro h; subst h; omega
      obtain ⟨f, rfl⟩ : ∃ f, gk = f + 1 := ⟨gk - 1, by omega⟩
      have hst := codeG_step f n h2
      have hH : Hid (codeG f (n / 2) ++ ((n % 2 == 1) :: out) = codeB k) := by
        unfold Hid; rw [← H.out, hst, List.append_assoc]; rfl
      have hol : out.length ≤ 8 := by have h1 := H.out; have h3 := congrArg List.length h1; rw [List.length_append] at h3; have := H8.out; omega
      have Hol := Lib.hid hol
      obtain ⟨A', c', hu, hR⟩ := owned_slice Ho.out
      subst hu
      have hcc := (own_cap Ho.out).2
      have Hcc := Lib.hid hcc
      have HR := Lib.hid hR
      obtain ⟨b, hb⟩ : ∃ b, b = (n % 2 == 1) := ⟨_, rfl⟩
      have e3 : ((n : Int) % 2 == 1) = b := by
        rw [hb]
        rcases Nat.mod_two_eq_zero_or_one n with e | e
        · rw [e, show (n : Int) % 2 = 0 by omega]; rfl
        · rw [e, show (n : Int) % 2 = 1 by omega]; rfl
      rw [← hb] at hH
      have HW : Hid (wr.heap.size ≥ w.heap.size) := HB.out.size
      have ho : Hid ((wr.alloc (.cells #[.bool b] 4)).ownsRow w.heap.size 4 1 (.slice (some ⟨wr.heap.size, 0, none⟩) 1 1) 1 [.bool b]) := row_owns (Row.new wr 4 [.bool b]) 1 1 w.heap.size rfl (by unfold maxLen; decide) HB.out.size
      have hbl : Hid (Below w.heap.size w (wr.alloc (.cells #[.bool b] 4))) := HB.out.alloc HB.out.size _
      have hR1 : Hid (Rd (wr.alloc (.cells #[.bool b] 4)) A' (bools out)) := HR.out.below ((Below.refl _ _).alloc (Nat.le_refl _) _)
      clear hol hcc hR hb hst
      go_wp2_with (at_builtin; refine wpList_app rfl _ _ 154 rfl w.heap.size 4 (.bool false) 1 1 Tryz.underlying154 info4 rfl (by decide) _ 1 [.bool b] rfl ho.out A' out.length c' (bools out) rfl Hcc.out hR1.out (by simp [bools]) ?c1 ?c2 ?c3 ?c4 ?_)
      case c1 => intro u hu; obtain ⟨b', -, rfl⟩ := List.mem_map.1 hu; rfl
      case c2 => have := Hol.out; unfold maxLen; omega
      case c3 => have := Hol.out; omega
      case c4 => have := HW.out; simp; omega
      intro v' w2 ho2 hg2
      have Ho2 : Hid (w2.ownsRow w.heap.size 4 1 v' (b :: out).length (bools (b :: out))) := by
        unfold Hid; rw [List.length_cons, Nat.add_comm]; exact ho2
      have HB2 := Lib.hid (hbl.out.grown hg2 (by have := HW.out; simp; omega) (fun j hj => by simp [Value.ownBlock] at hj; have := HW.out; omega))
      clear ho2 hg2 ho hbl hR1
      go_wp2
      go_roundg f
      case measure => omega
      case rel => exact ⟨n / 2, b :: out, by omega, by go_num, by omega, hH, Ho2, HB2⟩
    · have hz : codeG gk n = [] := codeG_end _ _ (by omega)
      have hH : out = codeB k := by have := H.out; rw [hz] at this; exact this
      go_wp2
      go_ret
      exact ⟨_, rfl, by rw [← hH]; exact Ho.out, HB.out⟩
end Go.Proofs.YtdglifjhkjdogaaGreatDoor
