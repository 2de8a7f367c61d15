import Derived.Test.YtjdniebjhilooaaGreatDoorM04
import Derived.Test.YtjdniebjhilooaaGreatDoorM06
import Derived.BigRegion
namespace Go.Proofs.YtjdniebjhilooaaGreatDoor
set_option linter.all false
open Go.RowKit Go.Fl
theorem Rd.below {w w' : World} {A : Option Addr} {xs : List Value} (h : Rd w A xs) (hb : Below w.heap.size w w') : Rd w' A xs := by
 intro j v hv
 obtain ⟨b, off, h1, h2⟩ := h j v hv
 exact ⟨b, off, h1, (hb.cell (World.block_lt_of_cell? w _ h2)).trans h2⟩
theorem Rd.row {w : World} {g : Nat} {t : TypeId} {vs : List Value} (h : Row w g t vs) : Rd w (some ⟨g, 0, none⟩) vs := fun j v hv => ⟨g, 0, rfl, by rw [Nat.zero_add, h.cell]; exact hv⟩
theorem Rd.own {w : World} {B : Nat} {e : TypeId} {g n cap : Nat} {vs : List Value} (h : w.ownsRow B e 1 (.slice (some ⟨g, 0, none⟩) n cap) n vs) : Rd w (some ⟨g, 0, none⟩) vs := by
 intro j v hv
 have hj : j < n := by have := (List.getElem?_eq_some_iff.1 hv).1; have := h.1; omega
 exact ⟨g, 0, rfl, by rw [Nat.zero_add, h.cellAt j (by omega)]; exact hv⟩
theorem Rd.take {w : World} {A : Option Addr} {xs : List Value} (h : Rd w A xs) (k : Nat) : Rd w A (xs.take k) := by
 intro j v hv
 rw [List.getElem?_take] at hv
 split at hv
 · exact h j v hv
 · cases hv
def flts (xs : List Nat) : List Value := xs.map (Value.float .f32)
theorem Rd.flt {w : World} {A : Option Addr} {xs : List Nat} (h : Rd w A (flts xs)) {j : Nat} (hj : j < xs.length) : ∃ b off, A = some ⟨b, off, none⟩ ∧ w.cell? ⟨b, off + j, none⟩ = some (.float .f32 xs[j]) := by
 obtain ⟨b, off, h1, h2⟩ := Rd.at h (j := j) (by simpa [flts] using hj)
 exact ⟨b, off, h1, by rw [h2]; simp [flts]⟩
theorem part_set (f : List Int) (n k : Nat) (hk : k < f.length) (hn : n = f.length) : (ints (f.take k) ++ List.replicate (n - k) (Value.int .i64 0)).set k (.int .i64 f[k]) = ints (f.take (k + 1)) ++ List.replicate (n - (k + 1)) (.int .i64 0) := by
 subst hn
 have hl : (ints (f.take k)).length = k := by simp [ints]; omega
 have he : f.length - k = (f.length - (k + 1)) + 1 := by omega
 rw [he, List.replicate_succ, List.set_append_right _ _ (by omega), hl, Nat.sub_self, List.take_succ_eq_append_getElem hk]
 simp only [ints, List.map_append, List.append_assoc, List.map_cons, List.map_nil, List.cons_append, List.nil_append, List.set_cons_zero]
theorem mid_get (ys : List Value) (n k : Nat) (z : Value) (hy : ys.length = k) (hk : k < n) : (ys ++ List.replicate (n - k) z)[k]? = some z := by
 rw [List.getElem?_append_right (by omega), hy, Nat.sub_self, List.getElem?_replicate, if_pos (by omega)]
theorem info27 : (Tryz.prog.info? 28).map (fun i => (i.zero, i.size, i.bytes)) = some (some (.int .i64 0), 1, 8) := by kernel_rfl
set_option maxRecDepth 100000 in
set_option maxHeartbeats 1000000 in
theorem mappedSamp_any (A : Option Addr) (n c : Nat) (xs : List Nat) (w : World) (hA : Rd w A (flts xs)) (hn : n = xs.length) (hm : xs.length ≤ 4096) :
 Calls Tryz.prog 153 #[.slice A n c, .func (.func 128) #[] #[]] w fun e w' => ∃ g, e = .returned (.slice (some ⟨g, 0, none⟩) n n) ∧ Row w' g 28 (ints (xs.map sampI)) ∧ w.heap.size ≤ g ∧ Below w.heap.size w w' := by
 subst hn
 have hmk := fun W : World => make1 (P := Tryz.prog) 213 28 (.int .i64 0) 8 Tryz.underlying213 info27 rfl xs.length (by omega) (by omega) W
 go_enter Tryz.func153, Tryz.ntmps153
 go_wp2
 go_loopw [13] (fun i wr => ∃ k : Nat, k ≤ xs.length ∧ i = .int .i64 k ∧ Row wr w.heap.size 28 (ints ((xs.map sampI).take k) ++ List.replicate (xs.length - k) (.int .i64 0)) ∧ Below w.heap.size w wr) (fun i _ => xs.length - (intOf i).toNat)
 case atStart => exact ⟨0, Nat.zero_le _, rfl, by have := Row.new w 28 (List.replicate xs.length (.int .i64 0)); simpa [ints] using this, (Below.refl _ _).alloc (Nat.le_refl _) _⟩
 case round =>
  obtain ⟨k, hk, rfl, hrow, hb⟩ := hrel
  by_cases hlt : k < xs.length
  · obtain ⟨b, off, rfl, hc⟩ := Rd.flt (hA.below hb) hlt
    have hset := Lib.hid (part_set (xs.map sampI) xs.length k (by simpa using hlt) (by simp))
    have hfk := Lib.hid (show (xs.map sampI)[k]'(by simpa using hlt) = sampI xs[k] by simp)
    have Hrow := Lib.hid hrow
    have Hb := Lib.hid hb
    clear hrow hb
    go_wp2_with fail
    refine (checkSample_any _ _).mono ?_
    rintro e w1 ⟨rfl, hb1⟩
    have Hrow1 := Lib.hid (Hrow.out.old hb1)
    have hc1 : w1.cell? ⟨w.heap.size, k, none⟩ = some (.int .i64 0) := by
     rw [Hrow1.out.cell]
     exact mid_get _ _ _ _ (by simp [ints]; omega) hlt
    have hf1 := Hrow1.out.free k
    have Hb1 := Lib.hid (Hb.out.trans (hb1.mono Hb.out.size))
    clear hb1
    go_wp2
    go_roundw
    case rel => exact ⟨k + 1, by omega, by go_num, by rw [← hset.out, hfk.out]; exact Hrow1.out.set k _, Hb1.out.setCell (by simp) _⟩
    case measure => simp [intOf]; omega
  · obtain rfl : k = xs.length := by omega
    go_wp2
    go_ret
    exact ⟨_, rfl, by rw [Nat.sub_self, List.replicate_zero, List.append_nil, List.take_of_length_le (by simp)] at hrow; exact hrow, Nat.le_refl _, hb⟩
def sampsI (xs : List Nat) : Int := if 4096 < xs.length then 5 else firstI (xs.map sampI)
set_option maxHeartbeats 400000 in
theorem checkListSamp_any (A : Option Addr) (n c : Nat) (xs : List Nat) (w : World) (hA : Rd w A (flts xs)) (hn : n = xs.length) :
 Calls Tryz.prog 127 #[.slice A n c, .int .i64 4096, .func (.func 128) #[] #[]] w fun e w' => e = .returned (.int .i64 (sampsI xs)) ∧ Below w.heap.size w w' := by
 subst hn
 by_cases hl : 4096 < xs.length
 · go_enter Tryz.func127, Tryz.ntmps127
   go_wp2
   go_ret
   exact ⟨ret_int (by rw [sampsI, if_pos hl]), Below.refl _ _⟩
 · have hm : xs.length ≤ 4096 := by omega
   go_enter Tryz.func127, Tryz.ntmps127
   go_wp2_with fail
   refine (mappedSamp_any _ _ _ xs _ hA rfl hm).mono ?_
   rintro e w1 ⟨g, rfl, hrow, hg, hb⟩
   go_wp2_with fail
   refine (firstV_any _ _ _ (xs.map sampI) _ (Rd.row hrow) (by simp) (by simp; omega)).mono ?_
   rintro e w2 ⟨rfl, rfl⟩
   go_wp2
   go_ret
   exact ⟨ret_int (by rw [sampsI, if_neg hl]), hb⟩
set_option maxRecDepth 100000 in
set_option maxHeartbeats 400000 in
theorem checkSamples_any (A : Option Addr) (n c : Nat) (xs : List Nat) (w : World) (hA : Rd w A (flts xs)) (hn : n = xs.length) :
 Calls Tryz.prog 87 #[.slice A n c] w fun e w' => e = .returned (.int .i64 (sampsI xs)) ∧ Below w.heap.size w w' := by
 subst hn
 go_enter Tryz.func87, Tryz.ntmps87
 go_wp2_with fail
 refine (checkListSamp_any _ _ _ xs _ hA rfl).mono ?_
 rintro e w1 ⟨rfl, hb⟩
 go_wp2
 go_ret
 exact ⟨rfl, hb⟩
set_option maxHeartbeats 400000 in
theorem checkAll_any (A : Option Addr) (n c : Nat) (xs : List Nat) (w : World) (hA : Rd w A (flts xs)) (hn : n = xs.length) (hm : xs.length ≤ 9223372036854775807) :
 Calls Tryz.prog 120 #[.slice A n c] w fun e w' => e = .returned (.int .i64 (firstI (xs.map sampI))) ∧ ∃ q, w' = w.drewN q := by
 subst hn
 go_enter Tryz.func120, Tryz.ntmps120
 go_wp2
 go_loopw [3] (fun i wr => ∃ k : Nat, k ≤ xs.length ∧ i = .int .i64 k ∧ Hid (firstI ((xs.map sampI).drop k) = firstI (xs.map sampI)) ∧ ∃ q, wr = w.drewN q) (fun i _ => xs.length - (intOf i).toNat)
 case atStart => exact ⟨0, Nat.zero_le _, rfl, rfl, 0, rfl⟩
 case round =>
  obtain ⟨k, hk, rfl, H, q, rfl⟩ := hrel
  by_cases hlt : k < xs.length
  · obtain ⟨b, off, rfl, hc⟩ := Rd.flt hA hlt
    have hd := Lib.hid (firstI_drop (zs := xs.map sampI) (k := k) (by simpa using hlt))
    have hfk := Lib.hid (show (xs.map sampI)[k]'(by simpa using hlt) = sampI xs[k] by simp)
    by_cases hz : sampI xs[k] = 0
    · have Hz := Lib.hid hz; clear hz
      go_wp2_with fail
      refine (checkSampleR_any _ _).mono ?_
      rintro e w1 ⟨rfl, q1, rfl⟩
      rw [Hz.out]
      go_wp2
      go_roundw
      case rel => exact ⟨k + 1, by omega, by go_num, by show _ = _; rw [← H.out, hd.out, if_pos (hfk.out.trans Hz.out)], _, rfl⟩
      case measure => simp [intOf]; omega
    · have hz' : (sampI xs[k] != 0) = true := by simpa using hz
      have Hz := Lib.hid hz; clear hz
      go_wp2_with fail
      refine (checkSampleR_any _ _).mono ?_
      rintro e w1 ⟨rfl, q1, rfl⟩
      go_wp2
      go_ret
      exact ⟨ret_int (by rw [← H.out, hd.out, if_neg (by rw [hfk.out]; exact Hz.out), hfk.out]), _, rfl⟩
  · go_wp2
    go_ret
    exact ⟨ret_int (by rw [← H.out, List.drop_of_length_le (by simp; omega)]; rfl), q, rfl⟩
end Go.Proofs.YtjdniebjhilooaaGreatDoor
namespace Go.Proofs.YtjdniebjhilooaaGreatDoor
set_option linter.all false
open Go.RowKit
def nextX (x : Int) : Int := (48271 * x + 11) % 2147483629
def swapAt (l : List Int) (i j : Nat) : List Int := (l.set i (l.getD j 0)).set j (l.getD i 0)
def drawGo : Nat → List Int → Int → List Int
 | 0, l, _ => l
 | i + 1, l, x => drawGo i (swapAt l (i + 1) (nextX x % (i + 2)).toNat) (nextX x)
def upTo (n : Nat) : List Int := (List.range n).map Int.ofNat
def drawL (x : Int) (n : Nat) : List Int := drawGo (n - 1) (upTo n) x
theorem info3 : (Tryz.prog.info? 3).map (fun i => (i.zero, i.size, i.bytes)) = some (some (.int .i64 0), 1, 8) := by kernel_rfl
theorem fill_set (n k : Nat) (hk : k < n) : (ints (upTo k) ++ List.replicate (n - k) (Value.int .i64 0)).set k (.int .i64 k) = ints (upTo (k + 1)) ++ List.replicate (n - (k + 1)) (.int .i64 0) := by
 have hl : (ints (upTo k)).length = k := by simp [ints, upTo]
 have he : n - k = (n - (k + 1)) + 1 := by omega
 rw [he, List.replicate_succ, List.set_append_right _ _ (by omega), hl, Nat.sub_self]
 simp [ints, upTo, List.range_succ]
theorem drawGo_pos (q p : Nat) (l : List Int) (y : Int) (hq : 1 ≤ q) (hp : (48271 * y + 11) % 2147483629 % ((q : Int) + 1) = p) : drawGo q l y = drawGo (q - 1) (swapAt l q p) ((48271 * y + 11) % 2147483629) := by
 obtain ⟨r, rfl⟩ : ∃ r, q = r + 1 := ⟨q - 1, by omega⟩
 rw [drawGo, Nat.add_sub_cancel]
 have : (nextX y % ((r : Int) + 2)).toNat = p := by
  have h : ((r + 1 : Nat) : Int) + 1 = (r : Int) + 2 := by omega
  rw [h] at hp
  show ((48271 * y + 11) % 2147483629 % ((r : Int) + 2)).toNat = p
  rw [hp]; simp
 rw [this]; rfl
theorem swap_length (l : List Int) (i j : Nat) : (swapAt l i j).length = l.length := by simp [swapAt]
theorem ints_swap (l : List Int) (i j : Nat) : ints (swapAt l i j) = ((ints l).set i (.int .i64 (l.getD j 0))).set j (.int .i64 (l.getD i 0)) := by simp [swapAt, ints]
set_option maxHeartbeats 1000000 in
theorem draw_ok (x n : Int) (w : World) (hx : rangeB x 0 999999999 = false) (hn : rangeB n 0 256 = false) :
 Calls Tryz.prog 32 #[.int .i64 x, .int .i64 n] w fun e w' => ∃ g, e = .returned (.tuple #[.slice (some ⟨g, 0, none⟩) n.toNat n.toNat, .int .i64 0]) ∧ Row w' g 3 (ints (drawL x n.toNat)) ∧ w.heap.size ≤ g ∧ Below w.heap.size w w' := by
 have hx' : 0 ≤ x ∧ x ≤ 999999999 := by simp [rangeB] at hx; omega
 have hn' : 0 ≤ n ∧ n ≤ 256 := by simp [rangeB] at hn; omega
 obtain ⟨m, rfl⟩ := Int.eq_ofNat_of_zero_le hn'.1
 rw [Int.toNat_natCast]
 have hm : m ≤ 256 := by omega
 have HX := Lib.hid hx
 have HN := Lib.hid hn
 clear hx hn hn'
 have hmk := fun W : World => make1 (P := Tryz.prog) 92 3 (.int .i64 0) 8 Tryz.underlying92 info3 rfl m (by omega) (by omega) W
 have H0 : Hid (firstI [whenI (rangeB x 0 999999999) 3, whenI (rangeB (m : Int) 0 256) 3] = 0) := by rw [HX.out, HN.out]; rfl
 go_enter Tryz.func32, Tryz.ntmps32
 go_wp2_with (first | (go_at_call 78; refine (between_any _ _ _ _).mono ?_; rintro e w' ⟨rfl, rfl⟩) | (go_at_call 76; refine (firstV_any _ _ _ [whenI (rangeB x 0 999999999) 3, whenI (rangeB (m : Int) 0 256) 3] _ (Rd.new _ _ _ _ ?_) rfl ?_).mono ?_; (simp); (simp); (rintro e w' ⟨rfl, rfl⟩; rw [H0.out])))
 go_loopw [24] (fun i wr => ∃ k : Nat, k ≤ m ∧ i = .int .i64 k ∧ Row wr (w.heap.size + 1) 3 (ints (upTo k) ++ List.replicate (m - k) (.int .i64 0)) ∧ Below w.heap.size w wr) (fun i _ => m - (intOf i).toNat)
 case atStart => exact ⟨0, Nat.zero_le _, rfl, by have := Row.new (w.alloc (.cells #[.int .i64 (whenI (rangeB x 0 999999999) 3), .int .i64 (whenI (rangeB (m : Int) 0 256) 3)] 28)) 3 (List.replicate m (.int .i64 0)); simpa [ints, upTo] using this, ((Below.refl _ _).alloc (Nat.le_refl _) _).alloc (by simp) _⟩
 case round =>
  obtain ⟨k, hk, rfl, hrow, hb⟩ := hrel
  by_cases hlt : k < m
  · have hc := hrow.cellAt (j := k) (by simp [ints, upTo]; omega)
    obtain ⟨v, hv⟩ : ∃ v, (ints (upTo k) ++ List.replicate (m - k) (Value.int .i64 0))[k]'(by simp [ints, upTo]; omega) = v := ⟨_, rfl⟩
    rw [hv] at hc
    have hf := hrow.free k
    have hset := Lib.hid (fill_set m k hlt)
    have hrow2 := Lib.hid (hrow.set k (.int .i64 k))
    have hb2 := Lib.hid (hb.setCell (p := ⟨w.heap.size + 1, k, none⟩) (by simp) (.int .i64 k))
    clear hv
    go_wp2
    go_roundw
    case rel => exact ⟨k + 1, by omega, by go_num, by rw [← hset.out]; exact hrow2.out, hb2.out⟩
    case measure => simp [intOf]; omega
  · obtain rfl : k = m := by omega
    rw [Nat.sub_self, List.replicate_zero, List.append_nil] at hrow
    have hlen : (upTo k).length = k := by simp [upTo]
    have HL := Lib.hid hlen; clear hlen
    go_wp2
    go_loopw [9, 10] (fun u i wr' => ∃ (y : Int) (j : Int) (l : List Int), u = .int .i64 y ∧ i = .int .i64 j ∧ 0 ≤ y ∧ y ≤ 2147483629 ∧ -1 ≤ j ∧ j < (k : Int) ∧ Hid (l.length = k) ∧ Hid (drawGo j.toNat l y = drawL x k) ∧ Row wr' (w.heap.size + 1) 3 (ints l) ∧ Below w.heap.size w wr') (fun _ i _ => (intOf i).toNat)
    case atStart => exact ⟨x, (k : Int) - 1, upTo k, rfl, rfl, by omega, by omega, by omega, by omega, HL, by show _ = _; rw [drawL]; congr 1; omega, hrow, hb⟩
    case round =>
     obtain ⟨y, j, l, rfl, rfl, y0, y1, j0, j1, hl, H, hrow, hb⟩ := hrel
     by_cases hj : 1 ≤ j
     · obtain ⟨q, rfl⟩ := Int.eq_ofNat_of_zero_le (show 0 ≤ j by omega)
       obtain ⟨p, hp⟩ := Int.eq_ofNat_of_zero_le (show 0 ≤ (48271 * y + 11) % 2147483629 % ((q : Int) + 1) from Int.emod_nonneg _ (by omega))
       have hpq : p ≤ q := by have := Int.emod_lt_of_pos ((48271 * y + 11) % 2147483629) (show 0 < (q : Int) + 1 by omega); omega
       have n0 : 0 ≤ (48271 * y + 11) % 2147483629 := Int.emod_nonneg _ (by decide)
       have n1 : (48271 * y + 11) % 2147483629 ≤ 2147483629 := by have := Int.emod_lt_of_pos (48271 * y + 11) (show (0 : Int) < 2147483629 by decide); omega
       have lq : q < l.length := by rw [hl.out]; omega
       have lp : p < l.length := by omega
       have hcq : wr.cell? ⟨w.heap.size + 1, q, none⟩ = some (.int .i64 (l.getD q 0)) := by rw [hrow.cell]; simp [ints, lq]
       have hcp : wr.cell? ⟨w.heap.size + 1, p, none⟩ = some (.int .i64 (l.getD p 0)) := by rw [hrow.cell]; simp [ints, lp]
       have hfq := hrow.free q
       have hfp := hrow.free p
       have hrow2 := hrow.set q (.int .i64 (l.getD p 0))
       have hcp2 : ∃ v2, (wr.setCell ⟨w.heap.size + 1, q, none⟩ (.int .i64 (l.getD p 0))).cell? ⟨w.heap.size + 1, p, none⟩ = some v2 := ⟨_, hrow2.cellAt (by simpa [ints] using lp)⟩
       obtain ⟨v2, hv2⟩ := hcp2
       have hrow3 := Lib.hid (hrow2.set p (.int .i64 (l.getD q 0)))
       have hb2 := Lib.hid ((hb.setCell (p := ⟨w.heap.size + 1, q, none⟩) (by simp) (.int .i64 (l.getD p 0))).setCell (p := ⟨w.heap.size + 1, p, none⟩) (by simp) (.int .i64 (l.getD q 0)))
       have hgo := Lib.hid (drawGo_pos q p l y (by omega) hp)
       have hlen := Lib.hid (swap_length l q p)
       have hsw := Lib.hid (ints_swap l q p)
       obtain ⟨a, ha⟩ : ∃ a, l.getD q 0 = a := ⟨_, rfl⟩
       obtain ⟨b, hb0⟩ : ∃ b, l.getD p 0 = b := ⟨_, rfl⟩
       rw [ha] at hcq hrow3 hb2 hsw
       rw [hb0] at hcp hrow3 hb2 hsw hv2
       clear ha hb0 hrow2
       go_wp2
       go_region
       all_goals go_wp2
       all_goals go_roundw
       case rel => exact ⟨_, (q : Int) - 1, swapAt l q p, rfl, rfl, n0, n1, by omega, by omega, by show _ = _; rw [hlen.out, hl.out], by show _ = _; rw [← H.out, Int.toNat_natCast, hgo.out]; congr 1; omega, by rw [hsw.out]; exact hrow3.out.drew, hb2.out.drew⟩
       case measure => simp [intOf]; omega
     · go_wp2
       go_ret2
       exact ⟨_, rfl, by have := H.out; rw [show j.toNat = 0 by omega] at this; rw [← this]; exact hrow, by omega, hb⟩
end Go.Proofs.YtjdniebjhilooaaGreatDoor
namespace Go.Proofs.YtjdniebjhilooaaGreatDoor
set_option linter.all false
open Go.RowKit Go.Fl
theorem Rd.alloc {w : World} {A : Option Addr} {xs : List Value} (h : Rd w A xs) (o : Obj) : Rd (w.alloc o) A xs := h.below ((Below.refl _ _).alloc (Nat.le_refl _) o)
theorem slice38 (a : Option Addr) (n c : Nat) (h : Int) (h0 : 0 ≤ h) (hc : h ≤ c) (w : World) : (Instr.slice 22 (.slice a n c) none (some (.int .i64 h)) none).run Tryz.prog w = .ok (.slice a h.toNat c) w :=
 slice_to 22 (by kernel_rfl) 1 (fun _ => by kernel_rfl) a n c h h0 hc w
theorem sampsR_eq (xs : List Nat) : firstI [whenI (decide (4096 < xs.length)) 5, whenI (decide (xs.length ≤ 4096)) (firstI ((xs.take (min xs.length 4096)).map sampI))] = sampsI xs := by
 unfold sampsI
 by_cases h : 4096 < xs.length
 · simp [h, firstI, whenI]
 · have h1 : xs.length ≤ 4096 := by omega
   rw [Nat.min_eq_left h1, List.take_length]
   simp only [h, h1, decide_false, decide_true, whenI, firstI, if_true, Bool.false_eq_true, if_false]
   split <;> simp_all
set_option maxRecDepth 100000 in
set_option maxHeartbeats 1000000 in
theorem checkSamplesR_any (A : Option Addr) (n c : Nat) (xs : List Nat) (w : World) (hA : Rd w A (flts xs)) (hn : n = xs.length) (hc : n ≤ c) (hm : xs.length ≤ 9223372036854775807) :
 Calls Tryz.prog 59 #[.slice A n c] w fun e w' => e = .returned (.int .i64 (sampsI xs)) ∧ Below w.heap.size w w' := by
 subst hn
 have i1 : (xs.length : Int) ≤ (c : Int) := by omega
 by_cases h : 4096 < xs.length
 · have hR : Rd w A (flts (xs.take 4096)) := by have := hA.take 4096; simpa [flts] using this
   have hL : 4096 = (xs.take 4096).length := by simp; omega
   have hE := Lib.hid (sampsR_eq xs)
   have d1 : decide ((4096 : Int) < (xs.length : Int)) = true := by simp; omega
   have d2 : decide ((xs.length : Int) ≤ 4096) = false := by simp; omega
   have d0 : Hid (4096 < xs.length) := h
   have hsl := fun W => slice38 A xs.length c 4096 (by decide) (by omega) W
   have hmin : (if (4096 : Int) < (xs.length : Int) then (4096 : Int) else xs.length) = 4096 := if_pos (by omega)
   have HL := Lib.hid hL
   clear hL h
   go_enter Tryz.func59, Tryz.ntmps59
   go_wp2
   go_region_held3 (fun w' => Rd w' A (flts (xs.take 4096))) (first | exact hR | assumption | exact (Rd.drewN hR _).alloc _ | exact hR.alloc _)
    (first | (go_at_call 60; refine (when_any _ _ _).mono ?_; rintro e w' ⟨rfl, rfl⟩) | (go_at_call 120; refine (checkAll_any _ _ _ (xs.take 4096) _ ?_ HL.out ?_).mono ?_; assumption; (rw [← HL.out]; decide); rintro e w' ⟨rfl, q, rfl⟩) | (go_at_call 56; refine (first_any _ _ _ [whenI true 5, whenI false (firstI (List.take 4096 (List.map sampI xs)))] _ ?_ rfl ?_).mono ?_; (first | exact Rd.new _ _ _ _ (by simp) | exact Rd.drewN (Rd.new _ _ _ _ (by simp)) _); (simp); rintro e w' ⟨rfl, rfl⟩))
   all_goals (go_wp2; go_ret)
   all_goals exact ⟨ret_int (by rw [← hE.out, decide_eq_true d0.out]; have : ¬ xs.length ≤ 4096 := (by have := d0.out; omega); rw [decide_eq_false this]; rfl), by repeat (first | exact Below.refl _ _ | refine below_drewN ?_ _ | refine Below.drew ?_ | refine Below.alloc ?_ (by simp) _)⟩
 · have hR : Rd w A (flts xs) := hA
   have hE := Lib.hid (sampsR_eq xs)
   have d1 : decide ((4096 : Int) < (xs.length : Int)) = false := by simp; omega
   have d2 : decide ((xs.length : Int) ≤ 4096) = true := by simp; omega
   have d0 : Hid (xs.length ≤ 4096) := by unfold Hid; omega
   have hsl := fun W => slice38 A xs.length c xs.length (by omega) (by omega) W
   have hmin : (if (4096 : Int) < (xs.length : Int) then (4096 : Int) else xs.length) = xs.length := if_neg (by omega)
   clear h
   go_enter Tryz.func59, Tryz.ntmps59
   go_wp2
   go_region_held3 (fun w' => Rd w' A (flts (xs))) (first | exact hR | assumption | exact (Rd.drewN hR _).alloc _ | exact hR.alloc _)
    (first | (go_at_call 60; refine (when_any _ _ _).mono ?_; rintro e w' ⟨rfl, rfl⟩) | (go_at_call 120; refine (checkAll_any _ _ _ (xs) _ ?_ rfl ?_).mono ?_; assumption; exact hm; rintro e w' ⟨rfl, q, rfl⟩) | (go_at_call 56; refine (first_any _ _ _ [whenI false 5, whenI true (firstI (List.map sampI xs))] _ ?_ rfl ?_).mono ?_; (first | exact Rd.new _ _ _ _ (by simp) | exact Rd.drewN (Rd.new _ _ _ _ (by simp)) _); (simp); rintro e w' ⟨rfl, rfl⟩))
   all_goals (go_wp2; go_ret)
   all_goals exact ⟨ret_int (by rw [← hE.out, decide_eq_true d0.out]; have : ¬ 4096 < xs.length := (by have := d0.out; omega); rw [decide_eq_false this, Nat.min_eq_left d0.out, List.take_length]), by repeat (first | exact Below.refl _ _ | refine below_drewN ?_ _ | refine Below.drew ?_ | refine Below.alloc ?_ (by simp) _)⟩
end Go.Proofs.YtjdniebjhilooaaGreatDoor
namespace Go.Proofs.YtjdniebjhilooaaGreatDoor
set_option linter.all false
open Go.RowKit



end Go.Proofs.YtjdniebjhilooaaGreatDoor
