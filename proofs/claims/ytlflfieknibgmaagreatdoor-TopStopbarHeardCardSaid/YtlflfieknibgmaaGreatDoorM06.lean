import Derived.Test.YtlflfieknibgmaaGreatDoorM03
import Derived.Test.YtlflfieknibgmaaGreatDoorM05
import Derived.BigRegion
namespace Go.Proofs.YtlflfieknibgmaaGreatDoor
set_option linter.all false
open Go.RowKit Go.Fl
theorem Rd.below {w w' : World} {A : Option Addr} {xs : List Value} (h : Rd w A xs) (hb : Below w.heap.size w w') : Rd w' A xs := by
  intro j v hv
  obtain ⟨b, off, h1, h2⟩ := h j v hv
  exact ⟨b, off, h1, (hb.cell (World.block_lt_of_cell? w _ h2)).trans h2⟩
theorem Rd.row {w : World} {g : Nat} {t : TypeId} {vs : List Value} (h : Row w g t vs) : Rd w (some ⟨g, 0, none⟩) vs := fun j v hv => ⟨g, 0, rfl, by rw [Nat.zero_add, h.cell]; exact hv⟩
theorem Rd.own {w : World} {B : Nat} {e : TypeId} {g n cap : Nat} {vs : List Value} (h : w.ownsRow B e 1 (.slice (some ⟨g, 0, none⟩) n cap) n vs) : Rd w (some ⟨g, 0, none⟩) vs := by
  intro j v hv
  have hj : j < n := by have := (List.getElem?_eq_some_iff.1 hv).1; have := h.1; omega
  exact ⟨g, 0, rfl, by rw [Nat.zero_add, h.cellAt j (by omega)]; exact hv⟩
theorem Rd.take {w : World} {A : Option Addr} {xs : List Value} (h : Rd w A xs) (k : Nat) : Rd w A (xs.take k) := by
  intro j v hv
  rw [List.getElem?_take] at hv
  split at hv
  · exact h j v hv
  · cases hv
def flts (xs : List Nat) : List Value := xs.map (Value.float .f32)
theorem Rd.flt {w : World} {A : Option Addr} {xs : List Nat} (h : Rd w A (flts xs)) {j : Nat} (hj : j < xs.length) : ∃ b off, A = some ⟨b, off, none⟩ ∧ w.cell? ⟨b, off + j, none⟩ = some (.float .f32 xs[j]) := by
  obtain ⟨b, off, h1, h2⟩ := Rd.at h (j := j) (by simpa [flts] using hj)
  exact ⟨b, off, h1, by rw [h2]; simp [flts]⟩
theorem part_set (f : List Int) (n k : Nat) (hk : k < f.length) (hn : n = f.length) : (ints (f.take k) ++ List.replicate (n - k) (Value.int .i64 0)).set k (.int .i64 f[k]) = ints (f.take (k + 1)) ++ List.replicate (n - (k + 1)) (.int .i64 0) := by
  subst hn
  have hl : (ints (f.take k)).length = k := by simp [ints]; omega
  have he : f.length - k = (f.length - (k + 1)) + 1 := by omega
  rw [he, List.replicate_succ, List.set_append_right _ _ (by omega), hl, Nat.sub_self, List.take_succ_eq_append_getElem hk]
  simp only [ints, List.map_append, List.append_assoc, List.map_cons, List.map_nil, List.cons_append, List.nil_append, List.set_cons_zero]
theorem mid_get (ys : List Value) (n k : Nat) (z : Value) (hy : ys.length = k) (hk : k < n) : (ys ++ List.replicate (n - k) z)[k]? = some z := by
  rw [List.getElem?_append_right (by omega), hy, Nat.sub_self, List.getElem?_replicate, if_pos (by omega)]
theorem info27 : (Tryz.prog.info? 31).map (fun i => (i.zero, i.size, i.bytes)) = some (some (.int .i64 0), 1, 8) := by kernel_rfl
set_option maxRecDepth 100000 in
set_option maxHeartbeats 1000000 in
theorem mappedSamp_any (A : Option Addr) (n c : Nat) (xs : List Nat) (w : World) (hA : Rd w A (flts xs)) (hn : n = xs.length) (hm : xs.length ≤ 4096) :
    Calls Tryz.prog 142 #[.slice A n c, .func (.func 115) #[] #[]] w fun e w' => ∃ g, e = .returned (.slice (some ⟨g, 0, none⟩) n n) ∧ Row w' g 31 (ints (xs.map sampI)) ∧ w.heap.size ≤ g ∧ Below w.heap.size w w' := by
  subst hn
  have hmk := fun W : World => make1 (P := Tryz.prog) 193 31 (.int .i64 0) 8 Tryz.underlying193 info27 rfl xs.length (by omega) (by omega) W
  go_enter Tryz.func142, Tryz.ntmps142
  go_wp2
  go_loopw [13] (fun i wr => ∃ k : Nat, k ≤ xs.length ∧ i = .int .i64 k ∧ Row wr w.heap.size 31 (ints ((xs.map sampI).take k) ++ List.replicate (xs.length - k) (.int .i64 0)) ∧ Below w.heap.size w wr) (fun i _ => xs.length - (intOf i).toNat)
  case atStart => exact ⟨0, Nat.zero_le _, rfl, by have := Row.new w 31 (List.replicate xs.length (.int .i64 0)); simpa [ints] using this, (Below.refl _ _).alloc (Nat.le_refl _) _⟩
  case round =>
    obtain ⟨k, hk, rfl, hrow, hb⟩ := hrel
    by_cases hlt : k < xs.length
    · obtain ⟨b, off, rfl, hc⟩ := Rd.flt (hA.below hb) hlt
      have hset := Lib.hid (part_set (xs.map sampI) xs.length k (by simpa using hlt) (by simp))
      have hfk := Lib.hid (show (xs.map sampI)[k]'(by simpa using hlt) = sampI xs[k] by simp)
      have Hrow := Lib.hid hrow
      have Hb := Lib.hid hb
      clear hrow hb
      go_wp2_with fail
      refine (checkSample_any _ _).mono ?_
      rintro e w1 ⟨rfl, hb1⟩
      have Hrow1 := Lib.hid (Hrow.out.old hb1)
      have hc1 : w1.cell? ⟨w.heap.size, k, none⟩ = some (.int .i64 0) := by
        rw [Hrow1.out.cell]
        exact mid_get _ _ _ _ (by simp [ints]; omega) hlt
      have hf1 := Hrow1.out.free k
      have Hb1 := Lib.hid (Hb.out.trans (hb1.mono Hb.out.size))
      clear hb1
      go_wp2
      go_roundw
      case rel => exact ⟨k + 1, by omega, by go_num, by rw [← hset.out, hfk.out]; exact Hrow1.out.set k _, Hb1.out.setCell (by simp) _⟩
      case measure => simp [intOf]; omega
    · obtain rfl : k = xs.length := by omega
      go_wp2
      go_ret
      exact ⟨_, rfl, by rw [Nat.sub_self, List.replicate_zero, List.append_nil, List.take_of_length_le (by simp)] at hrow; exact hrow, Nat.le_refl _, hb⟩
def sampsI (xs : List Nat) : Int := if 4096 < xs.length then 5 else firstI (xs.map sampI)
set_option maxHeartbeats 400000 in
theorem checkListSamp_any (A : Option Addr) (n c : Nat) (xs : List Nat) (w : World) (hA : Rd w A (flts xs)) (hn : n = xs.length) :
    Calls Tryz.prog 114 #[.slice A n c, .int .i64 4096, .func (.func 115) #[] #[]] w fun e w' => e = .returned (.int .i64 (sampsI xs)) ∧ Below w.heap.size w w' := by
  subst hn
  by_cases hl : 4096 < xs.length
  · go_enter Tryz.func114, Tryz.ntmps114
    go_wp2
    go_ret
    exact ⟨ret_int (by rw [sampsI, if_pos hl]), Below.refl _ _⟩
  · have hm : xs.length ≤ 4096 := by omega
    go_enter Tryz.func114, Tryz.ntmps114
    go_wp2_with fail
    refine (mappedSamp_any _ _ _ xs _ hA rfl hm).mono ?_
    rintro e w1 ⟨g, rfl, hrow, hg, hb⟩
    go_wp2_with fail
    refine (firstV_any _ _ _ (xs.map sampI) _ (Rd.row hrow) (by simp) (by simp; omega)).mono ?_
    rintro e w2 ⟨rfl, rfl⟩
    go_wp2
    go_ret
    exact ⟨ret_int (by rw [sampsI, if_neg hl]), hb⟩
set_option maxRecDepth 100000 in
set_option maxHeartbeats 400000 in
theorem checkSamples_any (A : Option Addr) (n c : Nat) (xs : List Nat) (w : World) (hA : Rd w A (flts xs)) (hn : n = xs.length) :
    Calls Tryz.prog 53 #[.slice A n c] w fun e w' => e = .returned (.int .i64 (sampsI xs)) ∧ Below w.heap.size w w' := by
  subst hn
  go_enter Tryz.func53, Tryz.ntmps53
  go_wp2_with fail
  refine (checkListSamp_any _ _ _ xs _ hA rfl).mono ?_
  rintro e w1 ⟨rfl, hb⟩
  go_wp2
  go_ret
  exact ⟨rfl, hb⟩
set_option maxHeartbeats 400000 in
theorem checkAll_any (A : Option Addr) (n c : Nat) (xs : List Nat) (w : World) (hA : Rd w A (flts xs)) (hn : n = xs.length) (hm : xs.length ≤ 9223372036854775807) :
    Calls Tryz.prog 60 #[.slice A n c] w fun e w' => e = .returned (.int .i64 (firstI (xs.map sampI))) ∧ ∃ q, w' = w.drewN q := by
  subst hn
  go_enter Tryz.func60, Tryz.ntmps60
  go_wp2
  go_loopw [3] (fun i wr => ∃ k : Nat, k ≤ xs.length ∧ i = .int .i64 k ∧ Hid (firstI ((xs.map sampI).drop k) = firstI (xs.map sampI)) ∧ ∃ q, wr = w.drewN q) (fun i _ => xs.length - (intOf i).toNat)
  case atStart => exact ⟨0, Nat.zero_le _, rfl, rfl, 0, rfl⟩
  case round =>
    obtain ⟨k, hk, rfl, H, q, rfl⟩ := hrel
    by_cases hlt : k < xs.length
    · obtain ⟨b, off, rfl, hc⟩ := Rd.flt hA hlt
      have hd := Lib.hid (firstI_drop (zs := xs.map sampI) (k := k) (by simpa using hlt))
      have hfk := Lib.hid (show (xs.map sampI)[k]'(by simpa using hlt) = sampI xs[k] by simp)
      by_cases hz : sampI xs[k] = 0
      · have Hz := Lib.hid hz; clear hz
        go_wp2_with fail
        refine (checkSampleR_any _ _).mono ?_
        rintro e w1 ⟨rfl, q1, rfl⟩
        rw [Hz.out]
        go_wp2
        go_roundw
        case rel => exact ⟨k + 1, by omega, by go_num, by show _ = _; rw [← H.out, hd.out, if_pos (hfk.out.trans Hz.out)], _, rfl⟩
        case measure => simp [intOf]; omega
      · have hz' : (sampI xs[k] != 0) = true := by simpa using hz
        have Hz := Lib.hid hz; clear hz
        go_wp2_with fail
        refine (checkSampleR_any _ _).mono ?_
        rintro e w1 ⟨rfl, q1, rfl⟩
        go_wp2
        go_ret
        exact ⟨ret_int (by rw [← H.out, hd.out, if_neg (by rw [hfk.out]; exact Hz.out), hfk.out]), _, rfl⟩
    · go_wp2
      go_ret
      exact ⟨ret_int (by rw [← H.out, List.drop_of_length_le (by simp; omega)]; rfl), q, rfl⟩
end Go.Proofs.YtlflfieknibgmaaGreatDoor
namespace Go.Proofs.YtlflfieknibgmaaGreatDoor
set_option linter.all false
open Go.RowKit

end Go.Proofs.YtlflfieknibgmaaGreatDoor
namespace Go.Proofs.YtlflfieknibgmaaGreatDoor
set_option linter.all false
open Go.RowKit Go.Fl
theorem Rd.alloc {w : World} {A : Option Addr} {xs : List Value} (h : Rd w A xs) (o : Obj) : Rd (w.alloc o) A xs := h.below ((Below.refl _ _).alloc (Nat.le_refl _) o)
end Go.Proofs.YtlflfieknibgmaaGreatDoor
