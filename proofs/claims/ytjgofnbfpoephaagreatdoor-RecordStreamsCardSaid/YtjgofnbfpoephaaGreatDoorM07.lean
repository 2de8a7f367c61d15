/- Texts that were made one by one: Wi Y V Ui W Z. -/
import Derived.Test.YtjgofnbfpoephaaGreatDoorM06
import Derived.Maps.AppendAt
import Derived.Laws.OwnMore
import Derived.IntWalk
import Derived.Test.YtjgofnbfpoephaaGreatDoorM05
/- Contracts: spans with one more index. -/
namespace Go.Proofs.YtjgofnbfpoephaaGreatDoor
set_option linter.all false
open Go.RowKit Go.Fl
set_option linter.unusedVariables false
set_option linter.unusedSimpArgs false

def spanC (l : List (Int × Int)) : List Value := l.flatMap fun p => [.int .i64 p.1, .int .i64 p.2]
theorem spanC_length (l : List (Int × Int)) : (spanC l).length = l.length * 2 := by
  induction l with
  | nil => rfl
  | cons p l ih => simp only [spanC, List.flatMap_cons, List.length_append, List.length_cons, List.length_nil] at ih ⊢; omega
theorem spanC_app (l m : List (Int × Int)) : spanC (l ++ m) = spanC l ++ spanC m := by simp [spanC]
def widL (l : List (Int × Int)) (i : Int) : List (Int × Int) := match l.getLast? with
  | some p => if p.2 = i then l.dropLast ++ [(p.1, i + 1)] else l ++ [(i, i + 1)]
  | none => [(i, i + 1)]

/-- what was done to the slice v, which is now v': nothing but its own row has changed, and its row is the same, or new -/
def Step (w w' : World) (v v' : Value) : Prop := w.grownBy w' v.ownBlock ∧ (v'.ownBlock = v.ownBlock ∨ ∃ k, v'.ownBlock = some k ∧ w.heap.size ≤ k)
theorem Step.keep {w w' : World} {v v' u : Value} {B : Nat} {e : TypeId} {s n : Nat} {xs : List Value} (h : Step w w' v v') (hu : w.ownsRow B e s u n xs) (hd : u.ownBlock = none ∨ u.ownBlock ≠ v.ownBlock) : w'.ownsRow B e s u n xs ∧ (u.ownBlock = none ∨ u.ownBlock ≠ v'.ownBlock) := by
  refine ⟨hu.kept h.1 hd, ?_⟩
  rcases h.2 with h2 | ⟨k, hk, hk2⟩
  · rw [h2]; exact hd
  · rcases hd with hd | hd
    · exact .inl hd
    · cases hub : u.ownBlock with
      | none => exact .inl rfl
      | some j =>
        refine .inr ?_
        have := (hu.lt j hub).2
        rw [hk]
        intro hh
        cases hh
        omega
theorem Step.below {w w' : World} {v v' : Value} {B : Nat} {e : TypeId} {s n : Nat} {xs : List Value} (h : Step w w' v v') (hv : w.ownsRow B e s v n xs) (hB : B ≤ w.heap.size) : Below B w w' :=
  (Below.refl B w).grown h.1 hB (fun k hk => (hv.lt k hk).1)
theorem Step.of_alloc {w w' : World} {v v' : Value} {o : Obj} (h : (w.alloc o).grownBy w' v.ownBlock) (h2 : v'.ownBlock = v.ownBlock ∨ v'.ownBlock = some (w.alloc o).heap.size) : Step w w' v v' := by
  refine ⟨⟨h.os, h.tape, h.output, by have := h.size; simp at this; omega, fun k hk hne => (h.block k (by simp; omega) hne).trans ((Below.heap_alloc w o k hk))⟩, ?_⟩
  rcases h2 with h2 | h2
  · exact .inl h2
  · exact .inr ⟨_, h2, by simp⟩

theorem news2 (w : World) (u u' : Value) (t : TypeId) (a : Addr) (ha : a = ⟨w.heap.size, 0, none⟩) : ∀ j x, [u, u'][j]? = some x → (w.alloc (.cells #[u, u'] t)).cell? (a.add j) = some x := by
  subst ha
  intro j x hx
  match j, hx with
  | 0, hx => simp at hx; subst hx; simp [Addr.add]
  | 1, hx => simp at hx; subst hx; simp [Addr.add]
theorem info94 : (Tryz.prog.info? 94).map (fun i => (i.zero, i.size, i.bytes)) = some (some (.agg #[.int .i64 0, .int .i64 0]), 2, 16) := by kernel_rfl

set_option maxRecDepth 100000 in
set_option maxHeartbeats 600000 in
theorem widened_any (B : Nat) (v : Value) (l : List (Int × Int)) (i : Int) (w : World) (hown : w.ownsRow B 94 2 v l.length (spanC l)) (hB : B ≤ w.heap.size) (hl : l.length ≤ 1000000) (hi : 0 ≤ i ∧ i ≤ 1000000000) :
    Calls Tryz.prog 114 #[v, .int .i64 i] w fun e w' => ∃ v', e = .returned v' ∧ w'.ownsRow B 94 2 v' (widL l i).length (spanC (widL l i)) ∧ Step w w' v v' := by
  obtain ⟨i0, hi0, hz0, hz1, hz2⟩ := info_parts info94
  rcases List.eq_nil_or_concat l with rfl | ⟨init, p, rfl⟩
  · have hv : v = .slice none 0 0 ∨ ∃ g cap, v = .slice (some ⟨g, 0, none⟩) 0 cap := by
      rcases hown.2 with ⟨h, _⟩ | ⟨g, cap, cur, h, _⟩
      · exact .inl h
      · exact .inr ⟨g, cap, h⟩
    have hw : Hid (widL [] i = [] ++ [(i, i + 1)]) := rfl
    have Hown := Lib.hid hown
    clear hown
    obtain ⟨A, c, rfl⟩ : ∃ A c, v = .slice A 0 c := by
      rcases hv with rfl | ⟨g, cap, rfl⟩
      · exact ⟨_, _, rfl⟩
      · exact ⟨_, _, rfl⟩
    clear hv
    go_enter Tryz.func114, Tryz.ntmps114
    go_wp2_with (at_builtin; refine wpList_append_own_at _ rfl _ _ 68 rfl B 94 i0 (.agg #[.int .i64 0, .int .i64 0]) 2 16 Tryz.underlying68 hi0 hz0 hz1 hz2 rfl (by decide) _ 0 [] rfl (Hown.out.alloc _) ⟨w.heap.size, 0, none⟩ 1 1 [.int .i64 i, .int .i64 (i + 1)] rfl rfl (news2 _ _ _ _ _ rfl) (by simp [Value.oneCell']) ?c3 ?c4 ?c5 ?_)
    case c3 => unfold maxLen; omega
    case c4 => omega
    case c5 => simp; omega
    intro v' w1 ho hg _ hat
    have Ho : Hid (w1.ownsRow B 94 2 v' (widL [] i).length (spanC (widL [] i))) := by unfold Hid; rw [hw.out, spanC_app]; simpa [spanC] using ho
    have Hs := Lib.hid (Step.of_alloc hg (by rw [World.size_alloc]; exact hat))
    clear ho hg hat
    go_wp2
    go_ret
    exact ⟨_, rfl, Ho.out, Hs.out⟩
  · obtain ⟨f, t⟩ := p
    rw [List.concat_eq_append] at *
    obtain ⟨g, cap, rfl, hBg, hgs⟩ := ownsRow.addr hown (by simp)
    have hlen : (init ++ [(f, t)]).length = init.length + 1 := by simp
    rw [hlen] at hown hl
    have hcell : w.cell? ⟨g, init.length * 2 + 1, none⟩ = some (.int .i64 t) := by
      rw [hown.cellAt _ (by omega), spanC_app, List.getElem?_append_right (by rw [spanC_length]; omega), spanC_length]
      have : init.length * 2 + 1 - init.length * 2 = 1 := by omega
      rw [this]; rfl
    have hfree := hown.frozenAt (init.length * 2 + 1)
    have hst := hown.stored (init.length * 2 + 1) (.int .i64 (i + 1))
    have Hown := Lib.hid hown
    have Hst := Lib.hid hst
    clear hown hst
    obtain ⟨k, hk⟩ : ∃ k, init.length = k := ⟨_, rfl⟩
    have Hk := Lib.hid hk
    rw [hk] at hcell hfree hl hlen
    clear hk
    have h1 : IntKind.i64.wrap ((k : Int) + 1 - 1) = (k : Int) := by rw [show (k : Int) + 1 - 1 = k by omega]; exact IntWalk.i64_in _ (by omega)
    by_cases hti : t = i
    · subst hti
      have hw : Hid (widL (init ++ [(f, t)]) t = init ++ [(f, t + 1)]) := by unfold Hid widL; simp
      rw [hlen]
      clear hlen
      go_enter Tryz.func114, Tryz.ntmps114
      go_wp2
      go_ret
      have e : (widL (init ++ [(f, t)]) t).length = k + 1 := by rw [hw.out, ← Hk.out]; simp
      have e2 : (spanC (init ++ [(f, t)])).set (k * 2 + 1) (.int .i64 (t + 1)) = spanC (widL (init ++ [(f, t)]) t) := by
        rw [hw.out, spanC_app, spanC_app, List.set_append_right _ _ (by rw [spanC_length, Hk.out]; omega), spanC_length, Hk.out]
        have : k * 2 + 1 - k * 2 = 1 := by omega
        rw [this]; rfl
      have h := Hst.out
      rw [Hk.out, e2] at h
      exact ⟨_, rfl, by rw [e]; exact h.1, h.2, .inl rfl⟩
    · have hti2 : (t == i) = false := by simpa using hti
      have hw : Hid (widL (init ++ [(f, t)]) i = (init ++ [(f, t)]) ++ [(i, i + 1)]) := by unfold Hid widL; simp [hti]
      have Hti := Lib.hid hti
      rw [Hk.out] at Hown
      rw [hlen]
      clear hlen hti Hst
      go_enter Tryz.func114, Tryz.ntmps114
      go_wp2_with (at_builtin; refine wpList_append_own_at _ rfl _ _ 68 rfl B 94 i0 (.agg #[.int .i64 0, .int .i64 0]) 2 16 Tryz.underlying68 hi0 hz0 hz1 hz2 rfl (by decide) _ (k + 1) (spanC (init ++ [(f, t)])) rfl (Hown.out.alloc _) ⟨w.heap.size, 0, none⟩ 1 1 [.int .i64 i, .int .i64 (i + 1)] rfl rfl (news2 _ _ _ _ _ rfl) (by simp [Value.oneCell']) ?c3 ?c4 ?c5 ?_)
      case c3 => unfold maxLen; omega
      case c4 => omega
      case c5 => simp; omega
      intro v' w1 ho hg _ hat
      have Ho : Hid (w1.ownsRow B 94 2 v' (widL (init ++ [(f, t)]) i).length (spanC (widL (init ++ [(f, t)]) i))) := by
        unfold Hid; rw [hw.out, spanC_app]
        have e : (init ++ [(f, t)] ++ [(i, i + 1)]).length = k + 1 + 1 := by rw [← Hk.out]; simp
        rw [e]; exact ho
      have Hs := Lib.hid (Step.of_alloc hg (by rw [World.size_alloc]; exact hat))
      clear ho hg hat
      go_wp2
      go_ret
      exact ⟨_, rfl, Ho.out, Hs.out⟩
end Go.Proofs.YtjgofnbfpoephaaGreatDoor

/- Contracts: samples that are held; where a span ends. -/
namespace Go.Proofs.YtjgofnbfpoephaaGreatDoor
set_option linter.all false
open Go.RowKit Go.Fl
set_option linter.unusedVariables false
set_option linter.unusedSimpArgs false


theorem Below.app0 {B : Nat} {w wr w1 : World} {v : Value} {e : TypeId} {size n : Nat} {xs : List Value} {o : Obj} (hb : Below B w wr) (hB : B ≤ wr.heap.size) (hown : wr.ownsRow B e size v n xs) (hg : (wr.alloc o).grownBy w1 v.ownBlock) : Below B w w1 := Below.app hb hB hown hg
theorem flts_snoc (xs : List Nat) (b k : Nat) : flts (xs ++ List.replicate (k + 1) b) = flts (xs ++ List.replicate k b) ++ [.float .f32 b] := by
  rw [List.replicate_succ', ← List.append_assoc]; simp [flts]

set_option maxRecDepth 100000 in
set_option maxHeartbeats 1000000 in
theorem held_any (B : Nat) (v : Value) (xs : List Nat) (b : Nat) (m : Int) (w : World) (hown : w.ownsRow B 37 1 v xs.length (flts xs)) (hB : B ≤ w.heap.size) (hm : m ≤ 1000000) (hx : xs.length ≤ 1000000) :
    Calls Tryz.prog 135 #[v, .float .f32 b, .int .i64 m] w fun e w' => ∃ v', e = .returned v' ∧ w'.ownsRow B 37 1 v' (xs ++ List.replicate m.toNat b).length (flts (xs ++ List.replicate m.toNat b)) ∧ Below B w w' := by
  by_cases hneg : m ≤ 0
  · have h0 : m.toNat = 0 := by omega
    have H0 := Lib.hid h0; clear h0
    go_enter Tryz.func135, Tryz.ntmps135
    go_wp2
    refine wp_loop_rounds 1 ?_
    rw [rounds_succ]
    go_wp2
    go_ret
    exact ⟨_, rfl, by rw [H0.out]; simpa using hown, Below.refl _ _⟩
  · obtain ⟨q, rfl⟩ := Int.eq_ofNat_of_zero_le (show 0 ≤ m by omega)
    obtain ⟨i0, hi, hz0, hz1, hz2⟩ := info_parts info37
    go_enter Tryz.func135, Tryz.ntmps135
    go_wp2
    go_loopw [0, 8] (fun u i wr => ∃ k : Nat, k ≤ q ∧ i = .int .i64 k ∧ wr.ownsRow B 37 1 u (xs.length + k) (flts (xs ++ List.replicate k b)) ∧ Below B w wr) (fun _ i _ => q - (intOf i).toNat)
    case atStart => exact ⟨0, Nat.zero_le _, rfl, by simpa using hown, Below.refl _ _⟩
    case round =>
      clear hown
      obtain ⟨k, hk, rfl, hown, hb⟩ := hrel
      have hsz := hb.size
      by_cases hlt : k < q
      · go_wp2_with (at_builtin; refine wpList_append_own _ rfl _ _ 38 rfl B 37 i0 (.float .f32 0) 1 4 Tryz.underlying38 hi hz0 hz1 hz2 rfl (by decide) _ _ _ rfl (hown.alloc _) ⟨wr.heap.size, 0, none⟩ 1 1 [.float .f32 b] rfl rfl (news1 _ _ _ _ rfl) ?c2 ?c3 ?c4 ?c5 ?_)
        case c2 => simp [Value.oneCell']
        case c3 => unfold maxLen; omega
        case c4 => omega
        case c5 => simp; omega
        intro v' w1 hown' hgrow _
        have hu := Lib.hid (flts_snoc xs b k)
        have hb1 := Lib.hid (Below.app hb (by omega) hown hgrow)
        have ho1 := Lib.hid hown'
        clear hown' hgrow hown hb
        go_wp2
        go_roundw
        case rel => exact ⟨k + 1, by omega, by go_num, by rw [hu.out]; exact ho1.out, hb1.out⟩
        case measure => simp [intOf]; omega
      · obtain rfl : k = q := by omega
        go_wp2
        go_ret
        exact ⟨_, rfl, by simpa using hown, hb⟩

def onB (x : Nat) : Bool := FloatKind.f32.format.order x 1056964608 == some .gt || FloatKind.f32.format.order x 1056964608 == some .eq
set_option maxHeartbeats 400000 in
theorem isOn_any (x : Nat) (w : World) : Calls Tryz.prog 140 #[.float .f32 x] w fun e w' => e = .returned (.bool (onB x)) ∧ w = w' := by
  go_enter Tryz.func140, Tryz.ntmps140
  go_wp2
  go_ret
  exact ⟨rfl, rfl⟩

/-- how many samples from the head on are on (or off) as the flag says -/
def runL (on : Bool) : List Nat → Nat
  | [] => 0
  | x :: xs => if onB x = on then runL on xs + 1 else 0
def spanEndL (xs : List Nat) (i : Nat) : Nat := i + 1 + runL (onB (xs.getD i 0)) (xs.drop (i + 1))
theorem runL_drop (on : Bool) (xs : List Nat) (k : Nat) (hk : k < xs.length) : runL on (xs.drop k) = if onB xs[k] = on then runL on (xs.drop (k + 1)) + 1 else 0 := by
  rw [List.drop_eq_getElem_cons hk, runL]
theorem runL_le (on : Bool) (xs : List Nat) : runL on xs ≤ xs.length := by
  induction xs with
  | nil => simp [runL]
  | cons x xs ih => rw [runL]; split <;> simp <;> omega

theorem quiet_same {P : Program} {f : FuncId} {args : Array Value} {w : World} {v : Value} {n : Nat} (h : Calls P f args (w.drewN n) fun e w' => e = .returned v ∧ w.drewN n = w') : Calls P f args (w.drewN n) fun e w'' => e = .returned v ∧ ∃ m, w'' = w.drewN m :=
  h.mono fun _ _ ⟨he, hm⟩ => ⟨he, n, hm.symm⟩

theorem quiet_same2 {P : Program} {f : FuncId} {args : Array Value} {w : World} {v : Value} {a n : Nat} (h : Calls P f args (w.drewN (a + n)) fun e w' => e = .returned v ∧ w.drewN (a + n) = w') : Calls P f args (w.drewN (a + n)) fun e w'' => e = .returned v ∧ ∃ m, w'' = w.drewN (a + m) :=
  h.mono fun _ _ ⟨he, hm⟩ => ⟨he, n, hm.symm⟩

set_option maxRecDepth 100000 in
set_option maxHeartbeats 1000000 in
theorem spanEnd_any (A : Option Addr) (n c : Nat) (xs : List Nat) (i : Nat) (w : World) (hA : Rd w A (flts xs)) (hn : n = xs.length) (hi : i < xs.length) (hm : xs.length ≤ 9223372036854775806) :
    Calls Tryz.prog 139 #[.slice A n c, .int .i64 i] w fun e w' => e = .returned (.int .i64 (spanEndL xs i : Nat)) ∧ ∃ q, w' = w.drewN q := by
  subst hn
  obtain ⟨b, off, rfl, hci⟩ := Rd.flt hA hi
  have hgi := Lib.hid (show xs.getD i 0 = xs[i] by simp [hi])
  go_enter Tryz.func139, Tryz.ntmps139
  go_wp2
  go_loopw [5] (fun t wr => ∃ k : Nat, i + 1 ≤ k ∧ k ≤ xs.length ∧ t = .int .i64 k ∧ Hid (k + runL (onB xs[i]) (xs.drop k) = spanEndL xs i) ∧ ∃ q, wr = w.drewN q) (fun t _ => xs.length - (intOf t).toNat)
  case atStart => exact ⟨i + 1, Nat.le_refl _, hi, by go_num, by show _ = _; rw [spanEndL, hgi.out], 0, rfl⟩
  case round =>
    obtain ⟨k, hk1, hk, rfl, H, q, rfl⟩ := hrel
    by_cases hlt : k < xs.length
    · obtain ⟨b', off', hab, hck⟩ := Rd.flt hA hlt
      cases hab
      have hr := Lib.hid (runL_drop (onB xs[i]) xs k hlt)
      have i1 : (k : Int) < (xs.length : Int) := by omega
      have i2 : (i : Int) < (xs.length : Int) := by omega
      cases hon : (onB xs[k] == onB xs[i])
      · have Hon := Lib.hid (show onB xs[k] ≠ onB xs[i] by simpa using hon)
        go_wp2
        go_quiet ((go_at_call 140; exact quiet_same2 (isOn_any _ _)))
        go_wp2
        go_ret
        exact ⟨ret_int (by rw [← H.out, hr.out, if_neg Hon.out]; rfl), q + _, by rw [World.drewN_drewN]⟩
      · have Hon := Lib.hid (show onB xs[k] = onB xs[i] by simpa using hon)
        go_wp2
        go_quiet ((go_at_call 140; exact quiet_same2 (isOn_any _ _)))
        go_wp2
        go_roundw
        case rel => exact ⟨k + 1, by omega, by omega, by go_num, by show _ = _; rw [← H.out, hr.out, if_pos Hon.out]; omega, _, rfl⟩
        case measure => simp [intOf]; omega
    · have hd : decide ((k : Int) < (xs.length : Int)) = false := by simp; omega
      go_wp2
      go_quiet (fail)
      go_wp2
      go_ret
      exact ⟨ret_int (by rw [← H.out, List.drop_of_length_le (by omega)]; rfl), q + _, by rw [World.drewN_drewN]⟩
end Go.Proofs.YtjgofnbfpoephaaGreatDoor

/- Contracts: seals, by the reference; and the two-byte integers. -/
namespace Go.Proofs.YtjgofnbfpoephaaGreatDoor
set_option linter.all false
open Go.RowKit Go.Fl
set_option linter.unusedVariables false

def doneL (key : List Int) (bs : List UInt8) (j : Nat) : List Int := (sealL key bs).take j ++ List.replicate (key.length - j) 0
theorem doneL_set (key : List Int) (bs : List UInt8) (j : Nat) (hj : j < key.length) : (u8s (doneL key bs j)).set j (.int .u8 (sealB j key[j] bs)) = u8s (doneL key bs (j + 1)) := by
  have hl : ((sealL key bs).take j).length = j := by simp [sealL, sealGo_length]; omega
  have hs : j < (sealL key bs).length := by simp [sealL, sealGo_length]; exact hj
  have hg : (sealL key bs)[j] = sealB j key[j] bs := by
    have := sealGo_get bs key 0 j hj
    simpa [sealL] using this
  have hr : key.length - j = (key.length - (j + 1)) + 1 := by omega
  have e : u8s (doneL key bs j) = u8s ((sealL key bs).take j) ++ (.int .u8 0 :: u8s (List.replicate (key.length - (j + 1)) 0)) := by
    rw [doneL, hr, List.replicate_succ]; simp [u8s]
  rw [e, doneL, List.take_succ_eq_append_getElem hs, hg, List.set_append_right _ _ (by simp [u8s]; omega)]
  have : j - (u8s ((sealL key bs).take j)).length = 0 := by simp [u8s]; omega
  rw [this]
  simp only [u8s, List.map_cons, List.set_cons_zero, List.map_append, List.append_assoc, List.cons_append, List.nil_append]
theorem doneL_length (key : List Int) (bs : List UInt8) (j : Nat) (hj : j ≤ key.length) : (doneL key bs j).length = key.length := by
  simp [doneL, sealL, sealGo_length]; omega

set_option maxRecDepth 100000 in
set_option maxHeartbeats 1000000 in
theorem sealR_any (k0 k1 k2 k3 k4 k5 k6 k7 : Int) (A : Option Addr) (n c : Nat) (bs : List UInt8) (w : World) (hA : Rd w A (byts bs)) (hn : n = bs.length) (hm : bs.length ≤ 9223372036854775807) (hkeys : ∀ j (h : j < 8), isByte ([k0, k1, k2, k3, k4, k5, k6, k7][j])) :
    Calls Tryz.prog 36 #[.agg #[.int .u8 k0, .int .u8 k1, .int .u8 k2, .int .u8 k3, .int .u8 k4, .int .u8 k5, .int .u8 k6, .int .u8 k7], .slice A n c] w fun e w' => e = .returned (keyV (sealL [k0, k1, k2, k3, k4, k5, k6, k7] bs)) ∧ Below w.heap.size w w' := by
  subst hn
  have Hkeys := Lib.hid hkeys
  clear hkeys
  go_enter Tryz.func36, Tryz.ntmps36
  go_wp2
  go_loopw [6] (fun i wr => ∃ j : Nat, j ≤ 8 ∧ i = .int .i64 j ∧ Row wr w.heap.size 47 (u8s [k0, k1, k2, k3, k4, k5, k6, k7]) ∧ Row wr (w.heap.size + 1) 47 (u8s [0, 0, 0, 0, 0, 0, 0, 0]) ∧ Row wr (w.heap.size + 2) 47 (u8s (doneL [k0, k1, k2, k3, k4, k5, k6, k7] bs j)) ∧ Below w.heap.size w wr) (fun i _ => 8 - (intOf i).toNat)
  case atStart =>
    have h1 := Row.new w 47 (u8s [k0, k1, k2, k3, k4, k5, k6, k7])
    have h2 := Row.new (w.alloc (.cells (u8s [k0, k1, k2, k3, k4, k5, k6, k7]).toArray 47)) 47 (u8s [0, 0, 0, 0, 0, 0, 0, 0])
    have h3 := Row.new ((w.alloc (.cells (u8s [k0, k1, k2, k3, k4, k5, k6, k7]).toArray 47)).alloc (.cells (u8s [0, 0, 0, 0, 0, 0, 0, 0]).toArray 47)) 47 (u8s [0, 0, 0, 0, 0, 0, 0, 0])
    rw [World.size_alloc] at h2
    rw [World.size_alloc, World.size_alloc] at h3
    exact ⟨0, Nat.zero_le _, rfl, (h1.alloc _).alloc _, h2.alloc _, h3, by repeat (first | exact Below.refl _ _ | refine below_drewN ?_ _ | refine Below.drew ?_ | refine Below.alloc ?_ (by simp; try omega) _)⟩
  case round =>
    obtain ⟨j, hj, rfl, hrow, hres, hout, hb⟩ := hrel
    by_cases hlt : j < 8
    · obtain ⟨kj, hkj⟩ : ∃ kj, [k0, k1, k2, k3, k4, k5, k6, k7][j] = kj := ⟨_, rfl⟩
      have hset := Lib.hid (doneL_set [k0, k1, k2, k3, k4, k5, k6, k7] bs j hlt)
      have hck : wr.cell? ⟨w.heap.size, j, none⟩ = some (.int .u8 kj) := by rw [hrow.cell, u8s, List.getElem?_map, List.getElem?_eq_getElem (show j < [k0, k1, k2, k3, k4, k5, k6, k7].length from hlt), hkj]; rfl
      have hkb : Hid (isByte kj) := by rw [← hkj]; exact Hkeys.out j hlt
      have hkb0 := hkb.out.1
      have hkb1 := hkb.out.2
      have HK := Lib.hid hkj
      have hA2 := Lib.hid (hA.below hb)
      obtain ⟨v0, hc0⟩ : ∃ v0, wr.cell? ⟨w.heap.size + 2, j, none⟩ = some v0 := ⟨_, hout.cellAt (by have := doneL_length [k0, k1, k2, k3, k4, k5, k6, k7] bs j (by simpa using hj); simp [u8s, this]; omega)⟩
      have hf0 := hout.free j
      have Hrow := Lib.hid hrow
      have Hres := Lib.hid hres
      have Hout := Lib.hid hout
      have Hb := Lib.hid hb
      clear hrow hres hb hkj hout
      go_wp2
      go_loop [8, 7] (fun i x => ∃ (k : Nat) (y : Int), k ≤ bs.length ∧ i = .int .i64 k ∧ x = .int .i64 y ∧ 0 ≤ y ∧ y ≤ 255 ∧ Hid (y = sealB j kj (bs.take k))) (fun i _ => bs.length - (intOf i).toNat)
      case atStart => exact ⟨0, kj, Nat.zero_le _, rfl, rfl, hkb0, hkb1, rfl⟩
      case round =>
        obtain ⟨k, y, hk, rfl, rfl, y0, y1, H⟩ := hrel
        by_cases hkl : k < bs.length
        · obtain ⟨b, off, rfl, hc⟩ := Rd.byte hA2.out hkl
          have hsn := Lib.hid (sealB_snoc j kj bs k hkl)
          have hbd := Lib.hid (stepX_bd j y bs[k].toNat)
          have hbb : (bs[k].toNat : Int) < 256 := by have := bs[k].toNat_lt; omega
          have hp0 : 0 ≤ (10 * (j : Int) + 7) * y := Int.mul_nonneg (by omega) y0
          have hp1 : (10 * (j : Int) + 7) * y ≤ 87 * 255 := Int.mul_le_mul (by omega) y1 y0 (by omega)
          go_wp2
          go_round
          case rel => exact ⟨k + 1, stepX j y bs[k].toNat, by omega, by go_num, rfl, hbd.out.1, hbd.out.2, by show _ = _; rw [hsn.out, ← H.out]⟩
          case measure => simp [intOf]; omega
        · have he : Hid (y = sealB j kj bs) := by have := H.out; rw [List.take_of_length_le (by omega)] at this; exact this
          go_wp2
          go_roundw
          case rel => exact ⟨j + 1, by omega, by go_num, Hrow.out.far (by simp <;> omega) _, Hres.out.far (by simp) _, by rw [← hset.out, HK.out, ← he.out]; exact Hout.out.set j _, Hb.out.setCell (by simp <;> omega) _⟩
          case measure => simp [intOf]; omega
    · obtain rfl : j = 8 := by omega
      have hr8 : Row wr (w.heap.size + 2) 47 (u8s (sealL [k0, k1, k2, k3, k4, k5, k6, k7] bs)) := hout
      obtain ⟨l, hl⟩ : ∃ l, l = sealL [k0, k1, k2, k3, k4, k5, k6, k7] bs := ⟨_, rfl⟩
      have hlen : l.length = 8 := by rw [hl]; simp [sealL, sealGo_length]
      rw [← hl] at hr8
      have He := Lib.hid hl
      have Hr := Lib.hid hr8
      have Hres := Lib.hid hres
      have Hlen := Lib.hid hlen
      clear hrow hr8 hl hlen hres hout
      go_wp2_with (first | (refine wpList_load_row rfl 47 _ rfl (w.heap.size + 2) rfl 47 (u8s l).toArray (0, 0) _ Hr.out Tryz.underlying47 rfl ?_ ?_; (rw [info47]; simp [u8s, Hlen.out])) | (refine wpList_store_row rfl 47 _ _ rfl (w.heap.size + 1) (u8s l).toArray rfl rfl 47 _ Hres.out ?_ ?_ ?_ ?_; (rw [info47]; simp [u8s, Hlen.out]); (simp [u8s, Hlen.out]); (simp [u8s, Value.oneCell'])))
      refine bodyPost_ret (v := .agg (u8s l).toArray) (results_cell_row rfl _ _ (w.heap.size + 1) 47 (u8s l).toArray (0, 0) _ rfl (Hres.out.setRow (u8s l)) Tryz.underlying47 rfl ?_) rfl ⟨by rw [← He.out]; rfl, Below.setRow hb (by simp) _⟩
      rw [info47]; simp [u8s, Hlen.out]

-- two bytes
def wholeI (a b : Int) : Int := 256 * a + b
def signI (a b : Int) : Int := if 32768 ≤ wholeI a b then wholeI a b - 65536 else wholeI a b
set_option maxHeartbeats 400000 in
theorem word_any (a b : Int) (w : World) (ha : 0 ≤ a ∧ a ≤ 255) (hb : 0 ≤ b ∧ b ≤ 255) : Calls Tryz.prog 109 #[.int .u8 a, .int .u8 b] w fun e w' => e = .returned (.int .i64 (wholeI a b)) ∧ w = w' := by
  go_enter Tryz.func109, Tryz.ntmps109
  go_wp2
  go_ret
  exact ⟨rfl, rfl⟩
set_option maxHeartbeats 400000 in
theorem signedR_any (a b : Int) (w : World) (ha : 0 ≤ a ∧ a ≤ 255) (hb : 0 ≤ b ∧ b ≤ 255) : Calls Tryz.prog 110 #[.int .u8 a, .int .u8 b] w fun e w' => e = .returned (.int .i64 (signI a b)) ∧ w = w' := by
  obtain ⟨m, hm⟩ : ∃ m, m = wholeI a b := ⟨_, rfl⟩
  have hm0 : 0 ≤ m ∧ m ≤ 65535 := by rw [hm]; unfold wholeI; omega
  have Hm := Lib.hid hm
  clear hm
  go_enter Tryz.func110, Tryz.ntmps110
  go_wp2_with (go_at_call 109; refine (word_any _ _ _ ha hb).mono ?_; rintro e w' ⟨rfl, rfl⟩; rw [← Hm.out])
  all_goals go_ret
  · exact ⟨ret_int (by rw [signI, ← Hm.out, if_pos (by omega)]), rfl⟩
  · exact ⟨ret_int (by rw [signI, ← Hm.out, if_neg (by omega)]), rfl⟩
set_option maxHeartbeats 400000 in
theorem or_bytes (a b : Int) (ha : 0 ≤ a ∧ a ≤ 255) (hb : 0 ≤ b ∧ b ≤ 255) : bits .or .i64 (a * 256) b = wholeI a b := by
  obtain ⟨x, rfl⟩ := Int.eq_ofNat_of_zero_le ha.1
  obtain ⟨y, rfl⟩ := Int.eq_ofNat_of_zero_le hb.1
  have hx : x ≤ 255 := by omega
  have hy : y < 2 ^ 8 := by omega
  show IntKind.i64.wrap ((BitVec.ofInt 64 ((x : Int) * 256) ||| BitVec.ofInt 64 (y : Int)).toNat : Nat) = wholeI x y
  have h1 : (BitVec.ofInt 64 ((x : Int) * 256)).toNat = x * 2 ^ 8 := by
    rw [BitVec.toNat_ofInt]; omega
  have h2 : (BitVec.ofInt 64 (y : Int)).toNat = y := by
    rw [BitVec.toNat_ofInt]; omega
  have h3 : x * 2 ^ 8 ||| y = x * 2 ^ 8 + y := by
    rw [← Nat.shiftLeft_eq, Nat.shiftLeft_add_eq_or_of_lt hy]
  rw [BitVec.toNat_or, h1, h2, h3, IntKind.wrap_i64]
  unfold wholeI
  omega
theorem whole_any (a b : Int) (w : World) (ha : 0 ≤ a ∧ a ≤ 255) (hb : 0 ≤ b ∧ b ≤ 255) : Calls Tryz.prog 103 #[.int .u8 a, .int .u8 b] w fun e w' => e = .returned (.int .i64 (wholeI a b)) ∧ w = w' := by
  go_enter Tryz.func103, Tryz.ntmps103
  go_wp2
  go_ret
  exact ⟨ret_int (or_bytes a b ha hb), rfl⟩
set_option maxHeartbeats 400000 in
theorem halves_any (n : Int) (w : World) (hn : -32768 ≤ n ∧ n ≤ 65535) : Calls Tryz.prog 147 #[.int .i64 n] w fun e w' => e = .returned (.tuple #[.int .u8 (n % 65536 / 256), .int .u8 (n % 256)]) ∧ w = w' := by
  go_enter Tryz.func147, Tryz.ntmps147
  go_wp2
  go_ret2
  exact ⟨by rw [show n / 256 % 256 = n % 65536 / 256 by omega]; rfl, rfl⟩
theorem wrap16 (m : Int) (h : 0 ≤ m ∧ m ≤ 65535) : IntKind.i16.wrap m = if 32768 ≤ m then m - 65536 else m := by
  have e : m % (2 ^ IntKind.i16.bits : Int) = m := Int.emod_eq_of_lt h.1 (by simp [IntKind.bits]; omega)
  unfold IntKind.wrap
  simp only [e]
  simp [IntKind.signed, IntKind.bits]
set_option maxHeartbeats 400000 in
theorem signed_any (a b : Int) (w : World) (ha : 0 ≤ a ∧ a ≤ 255) (hb : 0 ≤ b ∧ b ≤ 255) : Calls Tryz.prog 105 #[.int .u8 a, .int .u8 b] w fun e w' => e = .returned (.int .i64 (signI a b)) ∧ w = w' := by
  obtain ⟨m, hm⟩ : ∃ m, m = wholeI a b := ⟨_, rfl⟩
  have hm0 : 0 ≤ m ∧ m ≤ 65535 := by rw [hm]; unfold wholeI; omega
  have Hm := Lib.hid hm
  clear hm
  go_enter Tryz.func105, Tryz.ntmps105
  go_wp2_with (go_at_call 103; refine (whole_any _ _ _ ha hb).mono ?_; rintro e w' ⟨rfl, rfl⟩; rw [← Hm.out])
  go_ret
  exact ⟨ret_int (by rw [wrap16 m hm0, signI, ← Hm.out]; unfold wrap64; split <;> omega), rfl⟩
end Go.Proofs.YtjgofnbfpoephaaGreatDoor

/- Contracts: the integers of samples, and their bytes. -/
namespace Go.Proofs.YtjgofnbfpoephaaGreatDoor
set_option linter.all false
open Go.RowKit Go.Fl
set_option linter.unusedVariables false
set_option linter.unusedSimpArgs false

/-- the integer of a sample -/
def unitI (x : Nat) : Int := match V32 x with | some V => cutI V | none => 0
theorem unit_of {x : Nat} (h : sampI x = 0) : ∃ V, Val Ieee.single x V ∧ V.natAbs ≤ 16384 * 2 ^ 145 ∧ unitI x = cutI V := by
  have h2 : partI x 16384 = 0 := by rw [← sampI_eq]; exact h
  unfold partI at h2
  split at h2
  · cases h2
  · have h3 : stepB x 16384 = true := by
      cases hs : stepB x 16384 with
      | true => rfl
      | false => rw [hs] at h2; cases h2
    unfold stepB at h3
    split at h3
    · rename_i V hV
      simp only [Bool.and_eq_true, decide_eq_true_eq] at h3
      exact ⟨V, V32_some hV, h3.1, by unfold unitI; rw [hV]⟩
    · cases h3
theorem unitI_bd {x : Nat} (h : sampI x = 0) : (unitI x).natAbs ≤ 16384 := by
  obtain ⟨V, _, hb, e⟩ := unit_of h
  rw [e]; exact cutI_bd hb
theorem unitI_bd2 {x : Nat} (h : sampI x = 0) : -32768 ≤ unitI x ∧ unitI x ≤ 65535 := by
  have := unitI_bd h; omega
theorem big_lt : 16384 * 2 ^ 145 < 2 ^ 200 := by decide
theorem unitOf_ok (x : Nat) (w : World) (h : sampI x = 0) : Calls Tryz.prog 128 #[.float .f32 x] w fun e w' => e = .returned (.int .i64 (unitI x)) ∧ w = w' := by
  obtain ⟨V, hV, hb, e⟩ := unit_of h
  rw [e]
  exact unitOf_any x V w hV (Nat.lt_of_le_of_lt hb big_lt) (Nat.lt_of_le_of_lt (cutI_bd hb) (by decide))
theorem sixteenths_ok (x : Nat) (w : World) (h : sampI x = 0) : Calls Tryz.prog 108 #[.float .f32 x] w fun e w' => e = .returned (.int .i64 (unitI x)) ∧ w = w' := by
  obtain ⟨V, hV, hb, e⟩ := unit_of h
  rw [e]
  exact sixteenths_any x V w hV (Nat.lt_of_le_of_lt hb big_lt) (Nat.lt_of_le_of_lt (cutI_bd hb) (by decide))

theorem part_setG {α : Type} (f : α → Value) (l : List α) (z : Value) (n k : Nat) (hk : k < l.length) (hn : n = l.length) : ((l.take k).map f ++ List.replicate (n - k) z).set k (f l[k]) = (l.take (k + 1)).map f ++ List.replicate (n - (k + 1)) z := by
  subst hn
  have hl : ((l.take k).map f).length = k := by simp; omega
  have he : l.length - k = (l.length - (k + 1)) + 1 := by omega
  rw [he, List.replicate_succ, List.set_append_right _ _ (by omega), hl, Nat.sub_self, List.take_succ_eq_append_getElem hk]
  simp only [List.map_append, List.append_assoc, List.map_cons, List.map_nil, List.cons_append, List.nil_append, List.set_cons_zero]

set_option maxRecDepth 100000 in
set_option maxHeartbeats 1000000 in
theorem mappedUnit_any (A : Option Addr) (n c : Nat) (xs : List Nat) (w : World) (hA : Rd w A (flts xs)) (hn : n = xs.length) (hm : xs.length ≤ 4096) (hs : ∀ x ∈ xs, sampI x = 0) :
    Calls Tryz.prog 127 #[.slice A n c, .func (.func 128) #[] #[]] w fun e w' => ∃ g, e = .returned (.slice (some ⟨g, 0, none⟩) n n) ∧ Row w' g 3 (ints (xs.map unitI)) ∧ w.heap.size ≤ g ∧ Below w.heap.size w w' := by
  subst hn
  have Hs := Lib.hid hs
  clear hs
  have hmk := fun W : World => make1 (P := Tryz.prog) 26 3 (.int .i64 0) 8 Tryz.underlying26 info3 rfl xs.length (by omega) (by omega) W
  go_enter Tryz.func127, Tryz.ntmps127
  go_wp2
  go_loopw [13] (fun i wr => ∃ k : Nat, k ≤ xs.length ∧ i = .int .i64 k ∧ Row wr w.heap.size 3 (ints ((xs.map unitI).take k) ++ List.replicate (xs.length - k) (.int .i64 0)) ∧ Below w.heap.size w wr) (fun i _ => xs.length - (intOf i).toNat)
  case atStart => exact ⟨0, Nat.zero_le _, rfl, by have := Row.new w 3 (List.replicate xs.length (.int .i64 0)); simpa [ints] using this, (Below.refl _ _).alloc (Nat.le_refl _) _⟩
  case round =>
    obtain ⟨k, hk, rfl, hrow, hb⟩ := hrel
    by_cases hlt : k < xs.length
    · obtain ⟨b, off, rfl, hc⟩ := Rd.flt (hA.below hb) hlt
      have hset := Lib.hid (part_set (xs.map unitI) xs.length k (by simpa using hlt) (by simp))
      have hfk := Lib.hid (show (xs.map unitI)[k]'(by simpa using hlt) = unitI xs[k] by simp)
      have hsk := Lib.hid (Hs.out xs[k] (List.getElem_mem hlt))
      have Hrow := Lib.hid hrow
      have Hb := Lib.hid hb
      have hc1 : wr.cell? ⟨w.heap.size, k, none⟩ = some (.int .i64 0) := by
        rw [hrow.cell]
        exact mid_get _ _ _ _ (by simp [ints]; omega) hlt
      have hf1 := hrow.free k
      clear hrow hb
      go_wp2_with (go_at_call 128; refine (unitOf_ok _ _ hsk.out).mono ?_; rintro e w1 ⟨rfl, rfl⟩)
      go_roundw
      case rel => exact ⟨k + 1, by omega, by go_num, by rw [← hset.out, hfk.out]; exact Hrow.out.set k _, Hb.out.setCell (by simp) _⟩
      case measure => simp [intOf]; omega
    · obtain rfl : k = xs.length := by omega
      go_wp2
      go_ret
      exact ⟨_, rfl, by rw [Nat.sub_self, List.replicate_zero, List.append_nil, List.take_of_length_le (by simp)] at hrow; exact hrow, Nat.le_refl _, hb⟩

/-- the higher and the lower byte of a sample's integer -/
def hiI (x : Nat) : Int := unitI x % 65536 / 256
def loI (x : Nat) : Int := unitI x % 256
set_option maxHeartbeats 400000 in
theorem pack1_any (x : Nat) (w : World) (h : sampI x = 0) : Calls Tryz.prog 149 #[.float .f32 x] w fun e w' => e = .returned (.int .u8 (hiI x)) ∧ w = w' := by
  have H := Lib.hid h
  have hb := unitI_bd2 h
  clear h
  go_enter Tryz.func149, Tryz.ntmps149
  go_wp2_with (first | (go_at_call 128; refine (unitOf_ok _ _ H.out).mono ?_; rintro e w1 ⟨rfl, rfl⟩) | (go_at_call 147; refine (halves_any _ _ hb).mono ?_; rintro e w1 ⟨rfl, rfl⟩))
  go_ret
  exact ⟨rfl, rfl⟩
set_option maxHeartbeats 400000 in
theorem pack2_any (x : Nat) (w : World) (h : sampI x = 0) : Calls Tryz.prog 150 #[.float .f32 x] w fun e w' => e = .returned (.int .u8 (loI x)) ∧ w = w' := by
  have H := Lib.hid h
  have hb := unitI_bd2 h
  clear h
  go_enter Tryz.func150, Tryz.ntmps150
  go_wp2_with (first | (go_at_call 128; refine (unitOf_ok _ _ H.out).mono ?_; rintro e w1 ⟨rfl, rfl⟩) | (go_at_call 147; refine (halves_any _ _ hb).mono ?_; rintro e w1 ⟨rfl, rfl⟩))
  go_ret
  exact ⟨rfl, rfl⟩

set_option maxRecDepth 100000 in
set_option maxHeartbeats 1000000 in
theorem mappedHi_any (A : Option Addr) (n c : Nat) (xs : List Nat) (w : World) (hA : Rd w A (flts xs)) (hn : n = xs.length) (hm : xs.length ≤ 4096) (hs : ∀ x ∈ xs, sampI x = 0) :
    Calls Tryz.prog 148 #[.slice A n c, .func (.func 149) #[] #[]] w fun e w' => ∃ g, e = .returned (.slice (some ⟨g, 0, none⟩) n n) ∧ Row w' g 5 (u8s (xs.map hiI)) ∧ w.heap.size ≤ g ∧ Below w.heap.size w w' := by
  subst hn
  have Hs := Lib.hid hs
  clear hs
  have hmk := fun W : World => make1 (P := Tryz.prog) 59 5 (.int .u8 0) 1 Tryz.underlying59 info5 rfl xs.length (by omega) (by omega) W
  go_enter Tryz.func148, Tryz.ntmps148
  go_wp2
  go_loopw [13] (fun i wr => ∃ k : Nat, k ≤ xs.length ∧ i = .int .i64 k ∧ Row wr w.heap.size 5 (((xs.map hiI).take k).map (Value.int .u8) ++ List.replicate (xs.length - k) (.int .u8 0)) ∧ Below w.heap.size w wr) (fun i _ => xs.length - (intOf i).toNat)
  case atStart => exact ⟨0, Nat.zero_le _, rfl, by have := Row.new w 5 (List.replicate xs.length (.int .u8 0)); simpa using this, (Below.refl _ _).alloc (Nat.le_refl _) _⟩
  case round =>
    obtain ⟨k, hk, rfl, hrow, hb⟩ := hrel
    by_cases hlt : k < xs.length
    · obtain ⟨b, off, rfl, hc⟩ := Rd.flt (hA.below hb) hlt
      have hset := Lib.hid (part_setG (Value.int .u8) (xs.map hiI) (.int .u8 0) xs.length k (by simpa using hlt) (by simp))
      have hfk := Lib.hid (show (xs.map hiI)[k]'(by simpa using hlt) = hiI xs[k] by simp)
      have hsk := Lib.hid (Hs.out xs[k] (List.getElem_mem hlt))
      have Hrow := Lib.hid hrow
      have Hb := Lib.hid hb
      have hc1 : wr.cell? ⟨w.heap.size, k, none⟩ = some (.int .u8 0) := by
        rw [hrow.cell]
        exact mid_get _ _ _ _ (by simp; omega) hlt
      have hf1 := hrow.free k
      clear hrow hb
      go_wp2_with (go_at_call 149; refine (pack1_any _ _ hsk.out).mono ?_; rintro e w1 ⟨rfl, rfl⟩)
      go_roundw
      case rel => exact ⟨k + 1, by omega, by go_num, by rw [← hset.out, hfk.out]; exact Hrow.out.set k _, Hb.out.setCell (by simp) _⟩
      case measure => simp [intOf]; omega
    · obtain rfl : k = xs.length := by omega
      go_wp2
      go_ret
      exact ⟨_, rfl, by rw [Nat.sub_self, List.replicate_zero, List.append_nil, List.take_of_length_le (by simp)] at hrow; exact hrow, Nat.le_refl _, hb⟩
set_option maxRecDepth 100000 in
set_option maxHeartbeats 1000000 in
theorem mappedLo_any (A : Option Addr) (n c : Nat) (xs : List Nat) (w : World) (hA : Rd w A (flts xs)) (hn : n = xs.length) (hm : xs.length ≤ 4096) (hs : ∀ x ∈ xs, sampI x = 0) :
    Calls Tryz.prog 148 #[.slice A n c, .func (.func 150) #[] #[]] w fun e w' => ∃ g, e = .returned (.slice (some ⟨g, 0, none⟩) n n) ∧ Row w' g 5 (u8s (xs.map loI)) ∧ w.heap.size ≤ g ∧ Below w.heap.size w w' := by
  subst hn
  have Hs := Lib.hid hs
  clear hs
  have hmk := fun W : World => make1 (P := Tryz.prog) 59 5 (.int .u8 0) 1 Tryz.underlying59 info5 rfl xs.length (by omega) (by omega) W
  go_enter Tryz.func148, Tryz.ntmps148
  go_wp2
  go_loopw [13] (fun i wr => ∃ k : Nat, k ≤ xs.length ∧ i = .int .i64 k ∧ Row wr w.heap.size 5 (((xs.map loI).take k).map (Value.int .u8) ++ List.replicate (xs.length - k) (.int .u8 0)) ∧ Below w.heap.size w wr) (fun i _ => xs.length - (intOf i).toNat)
  case atStart => exact ⟨0, Nat.zero_le _, rfl, by have := Row.new w 5 (List.replicate xs.length (.int .u8 0)); simpa using this, (Below.refl _ _).alloc (Nat.le_refl _) _⟩
  case round =>
    obtain ⟨k, hk, rfl, hrow, hb⟩ := hrel
    by_cases hlt : k < xs.length
    · obtain ⟨b, off, rfl, hc⟩ := Rd.flt (hA.below hb) hlt
      have hset := Lib.hid (part_setG (Value.int .u8) (xs.map loI) (.int .u8 0) xs.length k (by simpa using hlt) (by simp))
      have hfk := Lib.hid (show (xs.map loI)[k]'(by simpa using hlt) = loI xs[k] by simp)
      have hsk := Lib.hid (Hs.out xs[k] (List.getElem_mem hlt))
      have Hrow := Lib.hid hrow
      have Hb := Lib.hid hb
      have hc1 : wr.cell? ⟨w.heap.size, k, none⟩ = some (.int .u8 0) := by
        rw [hrow.cell]
        exact mid_get _ _ _ _ (by simp; omega) hlt
      have hf1 := hrow.free k
      clear hrow hb
      go_wp2_with (go_at_call 150; refine (pack2_any _ _ hsk.out).mono ?_; rintro e w1 ⟨rfl, rfl⟩)
      go_roundw
      case rel => exact ⟨k + 1, by omega, by go_num, by rw [← hset.out, hfk.out]; exact Hrow.out.set k _, Hb.out.setCell (by simp) _⟩
      case measure => simp [intOf]; omega
    · obtain rfl : k = xs.length := by omega
      go_wp2
      go_ret
      exact ⟨_, rfl, by rw [Nat.sub_self, List.replicate_zero, List.append_nil, List.take_of_length_le (by simp)] at hrow; exact hrow, Nat.le_refl _, hb⟩
end Go.Proofs.YtjgofnbfpoephaaGreatDoor

/- Contracts: packets: what is cut off behind their length. -/
namespace Go.Proofs.YtjgofnbfpoephaaGreatDoor
set_option linter.all false
open Go.RowKit Go.Fl
set_option linter.unusedVariables false

theorem stored_float (P : Program) (w : World) (a : Addr) (m : Mode) (k : FloatKind) (b : Nat) : (store a (.float k b) m).run P w = stored P w a (.float k b) m := run_store P w a _ m rfl
theorem stored_complex (P : Program) (w : World) (a : Addr) (m : Mode) (k : FloatKind) (b c : Nat) : (store a (.complex k b c) m).run P w = stored P w a (.complex k b c) m := run_store P w a _ m rfl
attribute [go_sem] stored_float stored_complex

/-- a packet's cells -/
def pkC (st ct ln : Int) (xs : List Nat) : List Value := [.int .i64 st, .int .i64 ct, .int .i64 ln] ++ flts xs
def trimTo (ln : Int) (i : Nat) (xs : List Nat) : List Nat := (xs.zipIdx).map fun p => if p.2 < i ∧ ln ≤ (p.2 : Int) then 0 else p.1
def trimL (ln : Int) (xs : List Nat) : List Nat := trimTo ln xs.length xs
theorem trimTo_length (ln : Int) (i : Nat) (xs : List Nat) : (trimTo ln i xs).length = xs.length := by simp [trimTo]
theorem trimTo_zero (ln : Int) (xs : List Nat) : trimTo ln 0 xs = xs := by
  apply List.ext_getElem
  · simp [trimTo]
  · intro k h1 h2; simp [trimTo]
theorem trimTo_succ_keep (ln : Int) (i : Nat) (xs : List Nat) (h : ¬ ln ≤ (i : Int)) : trimTo ln (i + 1) xs = trimTo ln i xs := by
  apply List.ext_getElem
  · simp [trimTo]
  · intro k h1 h2
    simp only [trimTo, List.getElem_map, List.getElem_zipIdx]
    by_cases hk : k = i
    · subst hk; simp [h]
    · have : (k < i + 1 ↔ k < i) := by omega
      simp [this]
theorem trimTo_succ_drop (ln : Int) (i : Nat) (xs : List Nat) (h : ln ≤ (i : Int)) (hi : i < xs.length) : trimTo ln (i + 1) xs = (trimTo ln i xs).set i 0 := by
  apply List.ext_getElem
  · simp [trimTo]
  · intro k h1 h2
    rw [List.getElem_set]
    simp only [trimTo, List.getElem_map, List.getElem_zipIdx]
    by_cases hk : i = k
    · subst hk; simp [h]
    · rw [if_neg hk]
      have : (0 + k < i + 1 ↔ 0 + k < i) := by omega
      simp only [this]
theorem pkC_set (st ct ln : Int) (xs : List Nat) (i : Nat) (x : Nat) : (pkC st ct ln xs).set (3 + i) (.float .f32 x) = pkC st ct ln (xs.set i x) := by
  rw [pkC, List.set_append_right _ _ (by simp)]
  simp [pkC, flts, List.map_set]
theorem pkC_length (st ct ln : Int) (xs : List Nat) : (pkC st ct ln xs).length = 3 + xs.length := by simp [pkC, flts]; omega
theorem pkC_one (st ct ln : Int) (xs : List Nat) : ∀ v ∈ pkC st ct ln xs, v.oneCell' = true := by
  intro v hv
  simp [pkC, flts] at hv
  rcases hv with rfl | rfl | rfl | ⟨x, _, rfl⟩ <;> rfl
theorem info54 : (Tryz.prog.info? 54).map (·.size) = some 11 := by kernel_rfl
def zero11 : List Value := pkC 0 0 0 [0, 0, 0, 0, 0, 0, 0, 0]

set_option maxRecDepth 100000 in
set_option maxHeartbeats 1000000 in
theorem trimmed_any (st ct ln : Int) (x0 x1 x2 x3 x4 x5 x6 x7 : Nat) (w : World) :
    Calls Tryz.prog 172 #[.agg #[.int .i64 st, .int .i64 ct, .int .i64 ln, .float .f32 x0, .float .f32 x1, .float .f32 x2, .float .f32 x3, .float .f32 x4, .float .f32 x5, .float .f32 x6, .float .f32 x7]] w
      fun e w' => e = .returned (.agg (pkC st ct ln (trimL ln [x0, x1, x2, x3, x4, x5, x6, x7])).toArray) ∧ Below w.heap.size w w' := by
  obtain ⟨xs, hxs⟩ : ∃ xs, xs = [x0, x1, x2, x3, x4, x5, x6, x7] := ⟨_, rfl⟩
  have hx8 : xs.length = 8 := by rw [hxs]; rfl
  have HX := Lib.hid hxs
  have HX8 := Lib.hid hx8
  clear hxs hx8
  go_enter Tryz.func172, Tryz.ntmps172
  go_wp2
  go_loopw [4] (fun i wr => ∃ j : Nat, j ≤ 8 ∧ i = .int .i64 j ∧ Row wr w.heap.size 54 (pkC st ct ln (trimTo ln j xs)) ∧ Row wr (w.heap.size + 1) 54 zero11 ∧ Below w.heap.size w wr) (fun i _ => 8 - (intOf i).toNat)
  case atStart =>
    have h1 := Row.new w 54 (pkC st ct ln xs)
    have h2 := Row.new (w.alloc (.cells (pkC st ct ln xs).toArray 54)) 54 zero11
    rw [World.size_alloc] at h2
    rw [HX.out] at h1 h2
    exact ⟨0, Nat.zero_le _, rfl, by rw [trimTo_zero, HX.out]; exact h1.alloc _, h2, by repeat (first | exact Below.refl _ _ | refine below_drewN ?_ _ | refine Below.drew ?_ | refine Below.alloc ?_ (by simp) _)⟩
  case round =>
    obtain ⟨j, hj, rfl, hrow, hres, hb⟩ := hrel
    by_cases hlt : j < 8
    · have hcl : wr.cell? ⟨w.heap.size, 2, none⟩ = some (.int .i64 ln) := by rw [hrow.cell]; rfl
      obtain ⟨v0, hc0⟩ : ∃ v0, wr.cell? ⟨w.heap.size, 3 + j, none⟩ = some v0 := ⟨_, hrow.cellAt (by rw [pkC_length, trimTo_length, HX8.out]; omega)⟩
      have hf0 := hrow.free (3 + j)
      have Hrow := Lib.hid hrow
      have Hres := Lib.hid hres
      have Hb := Lib.hid hb
      clear hrow hres hb
      by_cases hln : ln ≤ (j : Int)
      · have ht := Lib.hid (trimTo_succ_drop ln j xs hln (by rw [HX8.out]; exact hlt))
        go_wp2
        go_roundw
        case rel => exact ⟨j + 1, by omega, by go_num, by rw [ht.out, ← pkC_set]; exact Hrow.out.set (3 + j) _, Hres.out.far (by simp) _, Hb.out.setCell (by simp) _⟩
        case measure => simp [intOf]; omega
      · have ht := Lib.hid (trimTo_succ_keep ln j xs hln)
        go_wp2
        go_roundw
        case rel => exact ⟨j + 1, by omega, by go_num, by rw [ht.out]; exact Hrow.out, Hres.out, Hb.out⟩
        case measure => simp [intOf]; omega
    · obtain rfl : j = 8 := by omega
      obtain ⟨l, hl⟩ : ∃ l, l = pkC st ct ln (trimTo ln 8 xs) := ⟨_, rfl⟩
      have hlen : l.length = 11 := by rw [hl, pkC_length, trimTo_length, HX8.out]
      have h1 : ∀ v ∈ l, v.oneCell' = true := by rw [hl]; exact pkC_one _ _ _ _
      rw [← hl] at hrow
      have He : Hid (l = pkC st ct ln (trimL ln [x0, x1, x2, x3, x4, x5, x6, x7])) := by unfold Hid; rw [hl, trimL, ← HX.out, HX8.out]
      have Hr := Lib.hid hrow
      have Hres := Lib.hid hres
      have Hlen := Lib.hid hlen
      have H1 := Lib.hid h1
      clear hrow hl hlen hres h1
      go_wp2_with (first | (refine wpList_load_row rfl 54 _ rfl w.heap.size rfl 54 l.toArray (0, 0) _ Hr.out Tryz.underlying54 rfl ?_ ?_; (rw [info54]; simp [Hlen.out])) | (refine wpList_store_row rfl 54 _ _ rfl (w.heap.size + 1) l.toArray rfl rfl 54 _ Hres.out ?_ ?_ ?_ ?_; (rw [info54]; simp [Hlen.out]); (simp [Hlen.out, zero11, pkC, flts]); (simpa using H1.out)))
      refine bodyPost_ret (v := .agg l.toArray) (results_cell_row rfl _ _ (w.heap.size + 1) 54 l.toArray (0, 0) _ rfl (Hres.out.setRow l) Tryz.underlying54 rfl ?_) rfl ⟨by rw [He.out], Below.setRow hb (by simp) _⟩
      rw [info54]; simp [Hlen.out]
end Go.Proofs.YtjgofnbfpoephaaGreatDoor

/- Contracts: small functions of records. -/
namespace Go.Proofs.YtjgofnbfpoephaaGreatDoor
set_option linter.all false
open Go.RowKit Go.Fl
set_option linter.unusedVariables false
set_option linter.unusedSimpArgs false


theorem results_row_tmp {P : Program} {fn : Func} {p t : Tmp} {ty : TypeId} (h : fn.results = #[.cell p ty, .tmp t]) (tmps : Array Value) (w : World) (g : Nat) (e : TypeId) (cs : Array Value) (fr : Nat × Nat) (d : TypeDesc)
    (hp : tmps.getD p undef = .pointer (some ⟨g, 0, none⟩)) (hg : w.heap[g]? = some (.cells cs e fr))
    (hu : P.underlying ty = some d) (hd : (match d with | .struct _ | .array _ _ => true | _ => false) = true) (hi : (P.info? ty).map (·.size) = some cs.size) :
    (results fn tmps).run P w = .ok (.tuple #[.agg cs, tmps.getD t undef]) w := by
  have hp' : tmps[p]?.getD undef = .pointer (some ⟨g, 0, none⟩) := by simpa using hp
  simp [results, h, hp', asAddr, run_loadVar_row w g e ty cs fr d hg hu hd hi]

set_option maxRecDepth 100000 in
set_option maxHeartbeats 400000 in
theorem seal_any (k0 k1 k2 k3 k4 k5 k6 k7 : Int) (A : Option Addr) (n c : Nat) (bs : List UInt8) (w : World) (hA : Rd w A (byts bs)) (hn : n = bs.length) (hm : bs.length ≤ 400000) (hkeys : ∀ j (h : j < 8), isByte ([k0, k1, k2, k3, k4, k5, k6, k7][j])) :
    Calls Tryz.prog 31 #[.agg #[.int .u8 k0, .int .u8 k1, .int .u8 k2, .int .u8 k3, .int .u8 k4, .int .u8 k5, .int .u8 k6, .int .u8 k7], .slice A n c] w fun e w' => e = .returned (.tuple #[keyV (sealL [k0, k1, k2, k3, k4, k5, k6, k7] bs), .int .i64 0]) ∧ Below w.heap.size w w' := by
  subst hn
  have Hk := Lib.hid hkeys; clear hkeys
  go_enter Tryz.func31, Tryz.ntmps31
  go_wp2_with fail
  refine (sealed_any k0 k1 k2 k3 k4 k5 k6 k7 A _ c bs _ (hA.below (by repeat (first | exact Below.refl _ _ | refine Below.alloc ?_ (by simp) _))) rfl (by omega) Hk.out).mono ?_
  rintro e w1 ⟨rfl, hb⟩
  have hres : Row w1 (w.heap.size + 1) 47 (u8s [0, 0, 0, 0, 0, 0, 0, 0]) := by
    have h2 := Row.new (w.alloc (.cells (u8s [k0, k1, k2, k3, k4, k5, k6, k7]).toArray 47)) 47 (u8s [0, 0, 0, 0, 0, 0, 0, 0])
    rw [World.size_alloc] at h2
    exact h2.old hb
  have hb0 : Below w.heap.size w w1 := (((Below.refl w.heap.size w).alloc (Nat.le_refl _) _).alloc (by simp) _).trans (hb.mono (by simp; omega))
  obtain ⟨l, hl⟩ : ∃ l, l = sealL [k0, k1, k2, k3, k4, k5, k6, k7] bs := ⟨_, rfl⟩
  have hlen : l.length = 8 := by rw [hl]; simp [sealL, sealGo_length]
  rw [← hl]
  have He := Lib.hid hl
  have Hlen := Lib.hid hlen
  have Hres := Lib.hid hres
  have Hb0 := Lib.hid hb0
  clear hl hlen hres hb hb0
  unfold keyV
  go_wp2_with (refine wpList_store_row rfl 47 _ _ rfl (w.heap.size + 1) (u8s l).toArray rfl rfl 47 _ Hres.out ?_ ?_ ?_ ?_; (rw [info47]; simp [u8s, Hlen.out]); (simp [u8s, Hlen.out]); (simp [u8s, Value.oneCell']))
  refine bodyPost_ret (results_row_tmp rfl _ _ (w.heap.size + 1) 47 (u8s l).toArray (0, 0) _ rfl (Hres.out.setRow (u8s l)) Tryz.underlying47 rfl ?_) rfl ?_
  · rw [info47]; simp [u8s, Hlen.out]
  · exact ⟨by rw [← He.out]; rfl, Below.setRow Hb0.out (by simp) _⟩

set_option maxHeartbeats 400000 in
theorem to_any (a b : Int) (w : World) : Calls Tryz.prog 84 #[.int .i64 a, .int .i64 b] w fun e w' => e = .returned (.agg #[.int .i64 a, .int .i64 b]) ∧ w' = w.alloc (.cells #[.int .i64 a, .int .i64 b] 94) := by
  go_enter Tryz.func84, Tryz.ntmps84
  go_wp2
  exact bodyPost_ret (v := .agg #[.int .i64 a, .int .i64 b]) (by simp [results, Tryz.results84, go_sem]) rfl ⟨rfl, rfl⟩

set_option maxHeartbeats 400000 in
theorem isLess_any (a b c d : Int) (w : World) (h1 : -4611686018427387904 ≤ a * d) (h2 : a * d ≤ 4611686018427387904) (h3 : -4611686018427387904 ≤ c * b) (h4 : c * b ≤ 4611686018427387904) : Calls Tryz.prog 130 #[.agg #[.int .i64 a, .int .i64 b], .agg #[.int .i64 c, .int .i64 d]] w fun e w' => e = .returned (.bool (decide (a * d < c * b))) ∧ Below w.heap.size w w' := by
  go_enter Tryz.func130, Tryz.ntmps130
  go_wp2
  go_ret
  exact ⟨rfl, ((Below.refl _ _).alloc (Nat.le_refl _) _).alloc (by simp) _⟩
end Go.Proofs.YtjgofnbfpoephaaGreatDoor
