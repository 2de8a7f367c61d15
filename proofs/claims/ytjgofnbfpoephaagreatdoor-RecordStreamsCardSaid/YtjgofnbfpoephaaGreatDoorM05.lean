/- Texts that were made one by one: F H I N G J O Db K P. -/
import Derived.Test.YtjgofnbfpoephaaGreatDoorM04
import Derived.Test.YtjgofnbfpoephaaGreatDoorM02
import Derived.Test.YtjgofnbfpoephaaGreatDoorM01
import Derived.BigRegion
/- Contracts: names. -/
namespace Go.Proofs.YtjgofnbfpoephaaGreatDoor
set_option linter.all false
open Go.RowKit

def u8I (c : UInt8) : Int := c.toNat
def okc (c : Int) : Bool := letB c || digB c || c == 95
def nameL (l : List UInt8) : Bool := !l.isEmpty && decide (l.length ≤ 24) && letB (u8I (l.headD 0)) && l.all fun c => okc (u8I c)

theorem take_all_succ (s : ByteArray) (k : Nat) (h : k < s.size) (p : UInt8 → Bool) : (s.data.toList.take (k + 1)).all p = ((s.data.toList.take k).all p && p s[k]) := by
  rw [List.take_succ_eq_append_getElem (by simpa using h), List.all_append]
  simp; rfl
theorem all_false_of (s : ByteArray) (k : Nat) (h : k < s.size) (p : UInt8 → Bool) (hp : p s[k] = false) : s.data.toList.all p = false := by
  rw [List.all_eq_false]
  exact ⟨s[k], by simp [ByteArray.getElem_eq_getElem_data], by simp [hp]⟩
theorem head_eq (s : ByteArray) (h : 0 < s.size) : s.data.toList.headD 0 = s[0] := by
  obtain ⟨⟨l⟩⟩ := s
  cases l with
  | nil => simp [ByteArray.size] at h
  | cons a l => rfl
theorem isEmpty_eq (s : ByteArray) (h : 0 < s.size) : s.data.toList.isEmpty = false := by
  obtain ⟨⟨l⟩⟩ := s
  cases l with
  | nil => simp [ByteArray.size] at h
  | cons a l => rfl

set_option maxHeartbeats 1000000 in
theorem isName_any (s : ByteArray) (w : World) : Calls Tryz.prog 18 #[.string s] w fun e w' => e = .returned (.bool (nameL s.data.toList)) ∧ w = w' := by
  have hl : s.data.toList.length = s.size := by simp
  by_cases h0 : s.size = 0
  · have he : s = ByteArray.empty := by
      obtain ⟨⟨l⟩⟩ := s
      cases l with
      | nil => rfl
      | cons a l => simp [ByteArray.size] at h0
    subst he
    clear h0 hl
    go_enter Tryz.func18, Tryz.ntmps18
    go_wp2
    go_ret
    exact ⟨by simp [nameL], rfl⟩
  · have hp : 0 < s.size := by omega
    have hne := isEmpty_eq s hp
    have hne2 : s.toList.isEmpty = false := by rw [ByteArray.toList_eq]; exact hne
    have hd := Lib.hid (head_eq s hp)
    by_cases h1 : 24 < s.size
    · go_enter Tryz.func18, Tryz.ntmps18
      go_wp2
      go_ret
      exact ⟨by simp [nameL]; omega, rfl⟩
    · have h2 : s.size ≤ 24 := by omega
      clear h1
      cases h3 : letB (s[0].toNat : Int)
      · have H3 := Lib.hid h3; clear h3
        go_enter Tryz.func18, Tryz.ntmps18
        go_wp2_with (go_at_call 89; refine (isLetter_any _ _).mono ?_; rintro e w' ⟨rfl, rfl⟩; rw [H3.out])
        go_ret
        exact ⟨by rw [nameL, hd.out]; simp [u8I, H3.out], rfl⟩
      · have H3 := Lib.hid h3; clear h3
        go_enter Tryz.func18, Tryz.ntmps18
        go_wp2_with (go_at_call 89; refine (isLetter_any _ _).mono ?_; rintro e w' ⟨rfl, rfl⟩; rw [H3.out])
        go_loop [19] (fun i => ∃ k : Nat, k ≤ s.size ∧ i = .int .i64 k ∧ Hid ((s.data.toList.take k).all (fun c => okc (u8I c)) = true)) (fun i => s.size - (intOf i).toNat)
        case atStart => exact ⟨0, Nat.zero_le _, rfl, rfl⟩
        case round =>
          obtain ⟨k, hk, rfl, H⟩ := hrel
          by_cases hlt : k < s.size
          · have hall := Lib.hid (take_all_succ s k hlt (fun c => okc (u8I c)))
            have hbad := Lib.hid (all_false_of s k hlt (fun c => okc (u8I c)))
            go_wp2_with (first | (go_at_call 89; refine (isLetter_any _ _).mono ?_; rintro e w' ⟨rfl, rfl⟩) | (go_at_call 90; refine (isDigit_any _ _).mono ?_; rintro e w' ⟨rfl, rfl⟩))
            all_goals first
              | (go_round
                 case rel => exact ⟨k + 1, by omega, by go_num, by show _ = true; rw [hall.out, H.out]; simp_all [okc, u8I]⟩
                 case measure => simp [intOf]; omega)
              | (go_ret
                 exact ⟨by rw [nameL, hbad.out (by simp_all [okc, u8I])]; simp, rfl⟩)
          · go_wp2
            go_ret
            exact ⟨by rw [nameL, hne, hd.out]; have := H.out; rw [List.take_of_length_le (by omega)] at this; rw [this]; simp [u8I, H3.out, h2], rfl⟩
end Go.Proofs.YtjgofnbfpoephaaGreatDoor

/- Contracts: lists of integers are compared. -/
namespace Go.Proofs.YtjgofnbfpoephaaGreatDoor
set_option linter.all false
open Go.RowKit

theorem take_eq_succ {α : Type} {xs ys : List α} {k : Nat} (h : xs.take k = ys.take k) (hx : k < xs.length) (hy : k < ys.length) (he : xs[k] = ys[k]) : xs.take (k + 1) = ys.take (k + 1) := by
  rw [List.take_succ_eq_append_getElem hx, List.take_succ_eq_append_getElem hy, h, he]
theorem ne_of_get {α : Type} {xs ys : List α} {k : Nat} (hx : k < xs.length) (hy : k < ys.length) (he : xs[k] ≠ ys[k]) : xs ≠ ys := fun h => he (by subst h; rfl)

set_option maxHeartbeats 400000 in
theorem sameInts_any (A B : Option Addr) (n m c d : Nat) (xs ys : List Int) (w : World) (hA : Rd w A (ints xs)) (hB : Rd w B (ints ys)) (hn : n = xs.length) (hm : m = ys.length) (hx : xs.length ≤ 9223372036854775807) (hy : ys.length ≤ 9223372036854775807) :
    Calls Tryz.prog 20 #[.slice A n c, .slice B m d] w fun e w' => e = .returned (.bool (decide (xs = ys))) ∧ ∃ q, w' = w.drewN q := by
  subst hn; subst hm
  by_cases hl : xs.length = ys.length
  · have hl1 : ((xs.length : Int) != (ys.length : Int)) = false := by rw [bne_eq_false_iff_eq]; omega
    have HL := Lib.hid hl; clear hl
    go_enter Tryz.func20, Tryz.ntmps20
    go_wp2
    go_loopw [5] (fun i wr => ∃ k : Nat, k ≤ xs.length ∧ i = .int .i64 k ∧ Hid (xs.take k = ys.take k) ∧ ∃ q, wr = w.drewN q) (fun i _ => xs.length - (intOf i).toNat)
    case atStart => exact ⟨0, Nat.zero_le _, rfl, rfl, 0, rfl⟩
    case round =>
      obtain ⟨k, hk, rfl, H, q, rfl⟩ := hrel
      by_cases hlt : k < xs.length
      · have hlt2 : k < ys.length := by rw [← HL.out]; exact hlt
        obtain ⟨b, off, rfl, hc⟩ := Rd.int hA hlt
        obtain ⟨b', off', rfl, hc'⟩ := Rd.int hB hlt2
        have i1 : (k : Int) < (xs.length : Int) := by omega
        have i2 : (k : Int) < (ys.length : Int) := by omega
        have HS := Lib.hid (fun he => take_eq_succ H.out hlt hlt2 he)
        have HN := Lib.hid (fun he => ne_of_get hlt hlt2 he)
        go_wp2
        go_quiet (fail)
        go_wp2
        · go_ret
          exact ⟨by have := HN.out (by simpa using ‹(xs[k] != ys[k]) = true›); simp [this], q + _, by rw [World.drewN_drewN]⟩
        · go_roundw
          case rel => exact ⟨k + 1, by omega, by go_num, HS.out (by simpa using ‹(xs[k] != ys[k]) = false›), _, rfl⟩
          case measure => simp [intOf]; omega
      · go_wp2
        go_ret
        exact ⟨by have := H.out; rw [List.take_of_length_le (by omega), List.take_of_length_le (by rw [← HL.out]; omega)] at this; simp [this], q, rfl⟩
  · have hl1 : ((xs.length : Int) != (ys.length : Int)) = true := by rw [bne_iff_ne]; omega
    have HL := Lib.hid hl; clear hl
    go_enter Tryz.func20, Tryz.ntmps20
    go_wp2
    go_ret
    exact ⟨by have : xs ≠ ys := fun h => HL.out (by rw [h]); simp [this], 0, rfl⟩
end Go.Proofs.YtjgofnbfpoephaaGreatDoor

/- Contracts: the arguments of Draw. -/
namespace Go.Proofs.YtjgofnbfpoephaaGreatDoor
set_option linter.all false
open Go.RowKit

def checkDrawI (a n : Int) : Int := firstI [whenI (rangeB a 0 999999999) 3, whenI (rangeB n 0 256) 3]
set_option maxHeartbeats 400000 in
theorem checkDraw_any (a n : Int) (w : World) : Calls Tryz.prog 16 #[.int .i64 a, .int .i64 n] w fun e w' => e = .returned (.int .i64 (checkDrawI a n)) ∧ Below w.heap.size w w' := by
  go_enter Tryz.func16, Tryz.ntmps16
  go_wp2_with (first | (go_at_call 48; refine (checkRange_any _ _ _ _).mono ?_; rintro e w' ⟨rfl, rfl⟩) | (go_at_call 46; refine (first_any _ _ _ [whenI (rangeB a 0 999999999) 3, whenI (rangeB n 0 256) 3] _ (Rd.new _ _ _ _ ?_) rfl ?_).mono ?_; (simp); (simp); (rintro e w' ⟨rfl, rfl⟩)))
  go_ret
  exact ⟨rfl, (Below.refl _ _).alloc (Nat.le_refl _) _⟩
end Go.Proofs.YtjgofnbfpoephaaGreatDoor

/- Contracts: samples and their integers. -/
namespace Go.Proofs.YtjgofnbfpoephaaGreatDoor
set_option linter.all false
open Go.RowKit Go.Fl
set_option linter.unusedVariables false

theorem quo16 {n : Int} (hn : n.natAbs < 2 ^ 20) (w : World) : (binOp .quo 37 (.float .f32 (floatOfInt .f32 n)) (.float .f32 1098907648)).run Tryz.prog w = .ok (.float .f32 (fb n)) w :=
  run_float_arith w .quo _ .f32 _ _ _ (fb_spec hn).1

set_option maxHeartbeats 400000 in
theorem sampleOf_any (n : Int) (w : World) (hn : n.natAbs < 2 ^ 20) : Calls Tryz.prog 104 #[.int .i64 n] w fun e w' => e = .returned (.float .f32 (fb n)) ∧ w = w' := by
  have hq := fun w => quo16 hn w
  go_enter Tryz.func104, Tryz.ntmps104
  go_wp2
  go_ret
  exact ⟨rfl, rfl⟩
set_option maxHeartbeats 400000 in
theorem sample_any (n : Int) (w : World) (hn : n.natAbs < 2 ^ 20) : Calls Tryz.prog 112 #[.int .i64 n] w fun e w' => e = .returned (.float .f32 (fb n)) ∧ w = w' := by
  have hq := fun w => quo16 hn w
  go_enter Tryz.func112, Tryz.ntmps112
  go_wp2
  go_ret
  exact ⟨rfl, rfl⟩

theorem cut16 {x : Nat} {V : Int} (h : Val Ieee.single x V) (hV : V.natAbs < 2 ^ 200) (hc : (cutI V).natAbs < 2 ^ 60) : ∃ r, (∀ w, (binOp .mul 37 (.float .f32 1098907648) (.float .f32 x)).run Tryz.prog w = .ok (.float .f32 r) w) ∧
    ∀ w, (convert 37 3 (.float .f32 r)).run Tryz.prog w = .ok (.int .i64 (cutI V)) w := by
  obtain ⟨r, h1, h2⟩ := mul16 h hV
  exact ⟨r, fun w => run_float_arith w .mul _ .f32 _ _ _ h1, fun w => run_convert_float_int w _ _ .f32 .i64 _ _ (by kernel_rfl) (by kernel_rfl) (toInt32 h2 hc)⟩

set_option maxHeartbeats 400000 in
theorem unitOf_any (x : Nat) (V : Int) (w : World) (h : Val Ieee.single x V) (hV : V.natAbs < 2 ^ 200) (hc : (cutI V).natAbs < 2 ^ 60) : Calls Tryz.prog 128 #[.float .f32 x] w fun e w' => e = .returned (.int .i64 (cutI V)) ∧ w = w' := by
  obtain ⟨r, h1, h2⟩ := cut16 h hV hc
  clear hV hc
  go_enter Tryz.func128, Tryz.ntmps128
  go_wp2
  go_ret
  exact ⟨rfl, rfl⟩
set_option maxHeartbeats 400000 in
theorem sixteenths_any (x : Nat) (V : Int) (w : World) (h : Val Ieee.single x V) (hV : V.natAbs < 2 ^ 200) (hc : (cutI V).natAbs < 2 ^ 60) : Calls Tryz.prog 108 #[.float .f32 x] w fun e w' => e = .returned (.int .i64 (cutI V)) ∧ w = w' := by
  obtain ⟨r, h1, h2⟩ := cut16 h hV hc
  clear hV hc
  go_enter Tryz.func108, Tryz.ntmps108
  go_wp2
  go_ret
  exact ⟨rfl, rfl⟩
end Go.Proofs.YtjgofnbfpoephaaGreatDoor

/- Contracts: names, by the reference. -/
namespace Go.Proofs.YtjgofnbfpoephaaGreatDoor
set_option linter.all false
open Go.RowKit

set_option maxHeartbeats 2000000 in
theorem isNameR_any (s : ByteArray) (w : World) : Calls Tryz.prog 19 #[.string s] w fun e w' => e = .returned (.bool (nameL s.data.toList)) ∧ w = w' := by
  have hl : s.data.toList.length = s.size := by simp
  by_cases h0 : s.size = 0
  · have he : s = ByteArray.empty := by
      obtain ⟨⟨l⟩⟩ := s
      cases l with
      | nil => rfl
      | cons a l => simp [ByteArray.size] at h0
    subst he
    clear h0 hl
    go_enter Tryz.func19, Tryz.ntmps19
    go_wp2
    go_ret
    exact ⟨by simp [nameL], rfl⟩
  · have hp : 0 < s.size := by omega
    have hne := Lib.hid (isEmpty_eq s hp)
    have hd := Lib.hid (head_eq s hp)
    have hz : ((s.size : Int) == 0) = false := beq_eq_false_iff_ne.2 (by omega)
    by_cases h1 : 24 < s.size
    · go_enter Tryz.func19, Tryz.ntmps19
      go_wp2
      go_ret
      exact ⟨by simp [nameL]; omega, rfl⟩
    · have h2 : s.size ≤ 24 := by omega
      clear h1
      go_enter Tryz.func19, Tryz.ntmps19
      go_wp2
      go_loop [3] (fun i => ∃ k : Nat, k ≤ s.size ∧ i = .int .i64 k ∧ Hid ((s.data.toList.take k).all (fun c => okc (u8I c)) = true) ∧ Hid (0 < k → letB (s[0].toNat : Int) = true)) (fun i => s.size - (intOf i).toNat)
      case atStart => exact ⟨0, Nat.zero_le _, rfl, rfl, fun h => absurd h (by decide)⟩
      case round =>
        obtain ⟨k, hk, rfl, H, H2⟩ := hrel
        by_cases hlt : k < s.size
        · have hall := Lib.hid (take_all_succ s k hlt (fun c => okc (u8I c)))
          have hbad := Lib.hid (all_false_of s k hlt (fun c => okc (u8I c)))
          have hok : okc (s[k].toNat : Int) = true ↔ (65 ≤ (s[k].toNat : Int) ∧ (s[k].toNat : Int) ≤ 90) ∨ (97 ≤ (s[k].toNat : Int) ∧ (s[k].toNat : Int) ≤ 122) ∨ (48 ≤ (s[k].toNat : Int) ∧ (s[k].toNat : Int) ≤ 57) ∨ (s[k].toNat : Int) = 95 := by
            simp [okc, letB, capB, lowB, digB]; omega
          have hlet : letB (s[k].toNat : Int) = true ↔ (65 ≤ (s[k].toNat : Int) ∧ (s[k].toNat : Int) ≤ 90) ∨ (97 ≤ (s[k].toNat : Int) ∧ (s[k].toNat : Int) ≤ 122) := by
            simp [letB, capB, lowB]
          have Hok := Lib.hid hok; have Hlet := Lib.hid hlet; clear hok hlet
          by_cases hk0 : k = 0
          · have hh : Hid ((s[0].toNat : Int) = (s[k].toNat : Int)) := by subst hk0; rfl
            have hk1 : ((k : Int) == 0) = true := beq_iff_eq.2 (by omega)
            have HK := Lib.hid hk0; clear hk0
            go_wp2
            all_goals first
              | (go_round
                 case rel => exact ⟨k + 1, by omega, by go_num, by show _ = true; rw [hall.out, H.out, Bool.true_and]; exact Hok.out.2 (by first | omega | (simp_all <;> omega)), fun _ => by rw [hh.out]; exact Hlet.out.2 (by first | omega | (simp_all <;> omega))⟩
                 case measure => simp [intOf]; omega)
              | (go_ret
                 exact ⟨by rw [nameL, hne.out, hd.out]; have e : letB (u8I s[0]) = false := (by rw [← Bool.not_eq_true]; intro hx; have := Hlet.out.1 (by rw [← hh.out]; exact hx); first | omega | (simp_all <;> omega)); rw [e]; simp, rfl⟩)
          · have hk1 : ((k : Int) == 0) = false := beq_eq_false_iff_ne.2 (by omega)
            have HK := Lib.hid hk0; clear hk0
            go_wp2
            all_goals first
              | (go_round
                 case rel => exact ⟨k + 1, by omega, by go_num, by show _ = true; rw [hall.out, H.out, Bool.true_and]; exact Hok.out.2 (by first | omega | (simp_all <;> omega)), fun _ => H2.out (by have := HK.out; omega)⟩
                 case measure => simp [intOf]; omega)
              | (go_ret
                 exact ⟨by rw [nameL, hbad.out (by rw [← Bool.not_eq_true]; intro hx; have := Hok.out.1 hx; first | omega | (simp_all <;> omega))]; simp, rfl⟩)
        · go_wp2
          go_ret
          exact ⟨by rw [nameL, hne.out, hd.out]; have := H.out; rw [List.take_of_length_le (by omega)] at this; rw [this]; simp [u8I, H2.out (by omega), h2], rfl⟩
end Go.Proofs.YtjgofnbfpoephaaGreatDoor

/- Contracts: the permutation by a number. -/
namespace Go.Proofs.YtjgofnbfpoephaaGreatDoor
set_option linter.all false
open Go.RowKit
set_option linter.unusedVariables false

def nextX (x : Int) : Int := (48271 * x + 11) % 2147483629
def swapAt (l : List Int) (i j : Nat) : List Int := (l.set i (l.getD j 0)).set j (l.getD i 0)
def drawGo : Nat → List Int → Int → List Int
  | 0, l, _ => l
  | i + 1, l, x => drawGo i (swapAt l (i + 1) (nextX x % (i + 2)).toNat) (nextX x)
def upTo (n : Nat) : List Int := (List.range n).map Int.ofNat
def drawL (x : Int) (n : Nat) : List Int := drawGo (n - 1) (upTo n) x

theorem info3 : (Tryz.prog.info? 3).map (fun i => (i.zero, i.size, i.bytes)) = some (some (.int .i64 0), 1, 8) := by kernel_rfl

theorem fill_set (n k : Nat) (hk : k < n) : (ints (upTo k) ++ List.replicate (n - k) (Value.int .i64 0)).set k (.int .i64 k) = ints (upTo (k + 1)) ++ List.replicate (n - (k + 1)) (.int .i64 0) := by
  have hl : (ints (upTo k)).length = k := by simp [ints, upTo]
  have he : n - k = (n - (k + 1)) + 1 := by omega
  rw [he, List.replicate_succ, List.set_append_right _ _ (by omega), hl, Nat.sub_self]
  simp [ints, upTo, List.range_succ]

theorem drawGo_pos (q p : Nat) (l : List Int) (y : Int) (hq : 1 ≤ q) (hp : (48271 * y + 11) % 2147483629 % ((q : Int) + 1) = p) : drawGo q l y = drawGo (q - 1) (swapAt l q p) ((48271 * y + 11) % 2147483629) := by
  obtain ⟨r, rfl⟩ : ∃ r, q = r + 1 := ⟨q - 1, by omega⟩
  rw [drawGo, Nat.add_sub_cancel]
  have : (nextX y % ((r : Int) + 2)).toNat = p := by
    have h : ((r + 1 : Nat) : Int) + 1 = (r : Int) + 2 := by omega
    rw [h] at hp
    show ((48271 * y + 11) % 2147483629 % ((r : Int) + 2)).toNat = p
    rw [hp]; simp
  rw [this]; rfl
theorem swap_length (l : List Int) (i j : Nat) : (swapAt l i j).length = l.length := by simp [swapAt]
theorem ints_swap (l : List Int) (i j : Nat) : ints (swapAt l i j) = ((ints l).set i (.int .i64 (l.getD j 0))).set j (.int .i64 (l.getD i 0)) := by simp [swapAt, ints]

set_option maxHeartbeats 1000000 in
theorem draw_ok (x n : Int) (w : World) (hx : rangeB x 0 999999999 = false) (hn : rangeB n 0 256 = false) :
    Calls Tryz.prog 15 #[.int .i64 x, .int .i64 n] w fun e w' => ∃ g, e = .returned (.tuple #[.slice (some ⟨g, 0, none⟩) n.toNat n.toNat, .int .i64 0]) ∧ Row w' g 3 (ints (drawL x n.toNat)) ∧ w.heap.size ≤ g ∧ Below w.heap.size w w' := by
  have hx' : 0 ≤ x ∧ x ≤ 999999999 := by simp [rangeB] at hx; omega
  have hn' : 0 ≤ n ∧ n ≤ 256 := by simp [rangeB] at hn; omega
  obtain ⟨m, rfl⟩ := Int.eq_ofNat_of_zero_le hn'.1
  rw [Int.toNat_natCast]
  have hm : m ≤ 256 := by omega
  have HX := Lib.hid hx
  have HN := Lib.hid hn
  clear hx hn hn'
  have hmk := fun W : World => make1 (P := Tryz.prog) 26 3 (.int .i64 0) 8 Tryz.underlying26 info3 rfl m (by omega) (by omega) W
  have H0 : Hid (firstI [whenI (rangeB x 0 999999999) 3, whenI (rangeB (m : Int) 0 256) 3] = 0) := by rw [HX.out, HN.out]; rfl
  go_enter Tryz.func15, Tryz.ntmps15
  go_wp2_with (first | (go_at_call 88; refine (between_any _ _ _ _).mono ?_; rintro e w' ⟨rfl, rfl⟩) | (go_at_call 87; refine (firstV_any _ _ _ [whenI (rangeB x 0 999999999) 3, whenI (rangeB (m : Int) 0 256) 3] _ (Rd.new _ _ _ _ ?_) rfl ?_).mono ?_; (simp); (simp); (rintro e w' ⟨rfl, rfl⟩; rw [H0.out])))
  go_loopw [24] (fun i wr => ∃ k : Nat, k ≤ m ∧ i = .int .i64 k ∧ Row wr (w.heap.size + 1) 3 (ints (upTo k) ++ List.replicate (m - k) (.int .i64 0)) ∧ Below w.heap.size w wr) (fun i _ => m - (intOf i).toNat)
  case atStart => exact ⟨0, Nat.zero_le _, rfl, by have := Row.new (w.alloc (.cells #[.int .i64 (whenI (rangeB x 0 999999999) 3), .int .i64 (whenI (rangeB (m : Int) 0 256) 3)] 27)) 3 (List.replicate m (.int .i64 0)); simpa [ints, upTo] using this, ((Below.refl _ _).alloc (Nat.le_refl _) _).alloc (by simp) _⟩
  case round =>
    obtain ⟨k, hk, rfl, hrow, hb⟩ := hrel
    by_cases hlt : k < m
    · have hc := hrow.cellAt (j := k) (by simp [ints, upTo]; omega)
      obtain ⟨v, hv⟩ : ∃ v, (ints (upTo k) ++ List.replicate (m - k) (Value.int .i64 0))[k]'(by simp [ints, upTo]; omega) = v := ⟨_, rfl⟩
      rw [hv] at hc
      have hf := hrow.free k
      have hset := Lib.hid (fill_set m k hlt)
      have hrow2 := Lib.hid (hrow.set k (.int .i64 k))
      have hb2 := Lib.hid (hb.setCell (p := ⟨w.heap.size + 1, k, none⟩) (by simp) (.int .i64 k))
      clear hv
      go_wp2
      go_roundw
      case rel => exact ⟨k + 1, by omega, by go_num, by rw [← hset.out]; exact hrow2.out, hb2.out⟩
      case measure => simp [intOf]; omega
    · obtain rfl : k = m := by omega
      rw [Nat.sub_self, List.replicate_zero, List.append_nil] at hrow
      have hlen : (upTo k).length = k := by simp [upTo]
      have HL := Lib.hid hlen; clear hlen
      go_wp2
      go_loopw [9, 10] (fun u i wr' => ∃ (y : Int) (j : Int) (l : List Int), u = .int .i64 y ∧ i = .int .i64 j ∧ 0 ≤ y ∧ y ≤ 2147483629 ∧ -1 ≤ j ∧ j < (k : Int) ∧ Hid (l.length = k) ∧ Hid (drawGo j.toNat l y = drawL x k) ∧ Row wr' (w.heap.size + 1) 3 (ints l) ∧ Below w.heap.size w wr') (fun _ i _ => (intOf i).toNat)
      case atStart => exact ⟨x, (k : Int) - 1, upTo k, rfl, rfl, by omega, by omega, by omega, by omega, HL, by show _ = _; rw [drawL]; congr 1; omega, hrow, hb⟩
      case round =>
        obtain ⟨y, j, l, rfl, rfl, y0, y1, j0, j1, hl, H, hrow, hb⟩ := hrel
        by_cases hj : 1 ≤ j
        · obtain ⟨q, rfl⟩ := Int.eq_ofNat_of_zero_le (show 0 ≤ j by omega)
          obtain ⟨p, hp⟩ := Int.eq_ofNat_of_zero_le (show 0 ≤ (48271 * y + 11) % 2147483629 % ((q : Int) + 1) from Int.emod_nonneg _ (by omega))
          have hpq : p ≤ q := by have := Int.emod_lt_of_pos ((48271 * y + 11) % 2147483629) (show 0 < (q : Int) + 1 by omega); omega
          have n0 : 0 ≤ (48271 * y + 11) % 2147483629 := Int.emod_nonneg _ (by decide)
          have n1 : (48271 * y + 11) % 2147483629 ≤ 2147483629 := by have := Int.emod_lt_of_pos (48271 * y + 11) (show (0 : Int) < 2147483629 by decide); omega
          have lq : q < l.length := by rw [hl.out]; omega
          have lp : p < l.length := by omega
          have hcq : wr.cell? ⟨w.heap.size + 1, q, none⟩ = some (.int .i64 (l.getD q 0)) := by rw [hrow.cell]; simp [ints, lq]
          have hcp : wr.cell? ⟨w.heap.size + 1, p, none⟩ = some (.int .i64 (l.getD p 0)) := by rw [hrow.cell]; simp [ints, lp]
          have hfq := hrow.free q
          have hfp := hrow.free p
          have hrow2 := hrow.set q (.int .i64 (l.getD p 0))
          have hcp2 : ∃ v2, (wr.setCell ⟨w.heap.size + 1, q, none⟩ (.int .i64 (l.getD p 0))).cell? ⟨w.heap.size + 1, p, none⟩ = some v2 := ⟨_, hrow2.cellAt (by simpa [ints] using lp)⟩
          obtain ⟨v2, hv2⟩ := hcp2
          have hrow3 := Lib.hid (hrow2.set p (.int .i64 (l.getD q 0)))
          have hb2 := Lib.hid ((hb.setCell (p := ⟨w.heap.size + 1, q, none⟩) (by simp) (.int .i64 (l.getD p 0))).setCell (p := ⟨w.heap.size + 1, p, none⟩) (by simp) (.int .i64 (l.getD q 0)))
          have hgo := Lib.hid (drawGo_pos q p l y (by omega) hp)
          have hlen := Lib.hid (swap_length l q p)
          have hsw := Lib.hid (ints_swap l q p)
          obtain ⟨a, ha⟩ : ∃ a, l.getD q 0 = a := ⟨_, rfl⟩
          obtain ⟨b, hb0⟩ : ∃ b, l.getD p 0 = b := ⟨_, rfl⟩
          rw [ha] at hcq hrow3 hb2 hsw
          rw [hb0] at hcp hrow3 hb2 hsw hv2
          clear ha hb0 hrow2
          go_wp2
          go_region
          all_goals go_wp2
          all_goals go_roundw
          case rel => exact ⟨_, (q : Int) - 1, swapAt l q p, rfl, rfl, n0, n1, by omega, by omega, by show _ = _; rw [hlen.out, hl.out], by show _ = _; rw [← H.out, Int.toNat_natCast, hgo.out]; congr 1; omega, by rw [hsw.out]; exact hrow3.out.drew, hb2.out.drew⟩
          case measure => simp [intOf]; omega
        · go_wp2
          go_ret2
          exact ⟨_, rfl, by have := H.out; rw [show j.toNat = 0 by omega] at this; rw [← this]; exact hrow, by omega, hb⟩
end Go.Proofs.YtjgofnbfpoephaaGreatDoor

/- Contracts: is a float finite. -/
namespace Go.Proofs.YtjgofnbfpoephaaGreatDoor
set_option linter.all false
open Go.RowKit Go.Fl
set_option linter.unusedVariables false

set_option maxHeartbeats 400000 in
theorem isNaN_any (y : Nat) (w : World) : Calls Tryz.prog 169 #[.float .f64 y] w fun e w' => e = .returned (.bool (Ieee.double.order y y != some .eq)) ∧ w = w' := by
  go_enter Tryz.func169, Tryz.ntmps169
  go_wp2
  go_ret
  exact ⟨by rfl, rfl⟩
theorem bits_run (y : Nat) (w : World) : (callFunc 207 #[.float .f64 y]).run Tryz.prog w = .ok (.value (.int .u64 (y : Int))) w := by kernel_rfl
theorem frombits_run (y : Nat) (w : World) : (callFunc 206 #[.int .u64 (y : Int)]).run Tryz.prog w = .ok (.value (.float .f64 y)) w := by kernel_rfl
theorem clear_sign (y : Nat) (hy : y < 18446744073709551616) : bits .andNot .u64 (y : Int) 9223372036854775808 = ((y % 9223372036854775808 : Nat) : Int) := by
  have h := u64_andNot_nat y 9223372036854775808 hy (by decide)
  rw [show ((9223372036854775808 : Nat) : Int) = 9223372036854775808 from rfl] at h
  rw [h]
  have e : 18446744073709551615 - 9223372036854775808 = 2 ^ 63 - 1 := by decide
  rw [e, Nat.and_two_pow_sub_one_eq_mod]
set_option maxRecDepth 100000 in
set_option maxHeartbeats 400000 in
theorem abs_any (y : Nat) (w : World) (hy : y < 18446744073709551616) : Calls Tryz.prog 193 #[.float .f64 y] w fun e w' => e = .returned (.float .f64 (y % 9223372036854775808)) ∧ w = w' := by
  have h1 := fun w => bits_run y w
  have h2 := fun w => frombits_run (y % 9223372036854775808) w
  have h3 := clear_sign y hy
  obtain ⟨z, hz⟩ : ∃ z, z = y % 9223372036854775808 := ⟨_, rfl⟩
  rw [← hz] at h2 h3 ⊢
  clear hy hz
  go_enter Tryz.func193, Tryz.ntmps193
  go_wp2
  go_ret
  exact ⟨rfl, rfl⟩
set_option maxRecDepth 100000 in
set_option maxHeartbeats 400000 in
theorem isInf_any (y : Nat) (w : World) (hy : y < 18446744073709551616) : Calls Tryz.prog 170 #[.float .f64 y, .int .i64 0] w fun e w' => e = .returned (.bool (Ieee.double.order (y % 9223372036854775808) 9218868437227405311 == some .gt)) ∧ w = w' := by
  have h1 := Lib.hid hy
  clear hy
  go_enter Tryz.func170, Tryz.ntmps170
  go_wp2_with (go_at_call 193; refine (abs_any y _ h1.out).mono ?_; rintro e w' ⟨rfl, rfl⟩)
  go_ret
  exact ⟨rfl, rfl⟩

theorem conv_fin {x y : Nat} (h : floatToFloatBits .f32 x .f64 = some y) (w : World) : (convert 37 238 (.float .f32 x)).run Tryz.prog w = .ok (.float .f64 y) w :=
  run_convert_float_float w _ _ .f32 .f64 _ _ (by kernel_rfl) (by kernel_rfl) h
theorem conv_inf {x : Nat} {s : Bool} (h : Ieee.single.read x = .infinity s) (w : World) : (convert 37 238 (.float .f32 x)).run Tryz.prog w = .ok (.float .f64 (Ieee.double.write (.infinity s))) w := by
  refine conv_fin ?_ w
  unfold floatToFloatBits
  rw [if_neg (by decide)]
  have hd : FloatKind.f32.decode x = .infinity s := h
  rw [hd]; rfl
theorem conv_nan {x : Nat} {s : Bool} {t : Nat} (h : Ieee.single.read x = .nan s t) (w : World) : ∃ y, (convert 37 238 (.float .f32 x)).run Tryz.prog w = .ok (.float .f64 y) w.drew ∧ ∃ s t, Ieee.double.read y = .nan s t := by
  have u1 := Tryz.underlying37
  have u2 := Tryz.underlying238
  have hd : FloatKind.f32.decode x = .nan s t := h
  refine ⟨(Question.nanConv .f64 x).cut (w.tape w.drawn (Question.nanConv .f64 x)), ?_, nan64_cut _ _⟩
  simp [convert, run_underlying u1, run_underlying u2, Conv.floatToFloat, hd, Question.forced]

def finB (x : Nat) : Bool := (V32 x).isSome
set_option maxRecDepth 100000 in
set_option maxHeartbeats 400000 in
theorem isFinite_any (x : Nat) (w : World) : Calls Tryz.prog 94 #[.float .f32 x] w fun e w' => e = .returned (.bool (finB x)) ∧ ∃ n, w' = w.drewN n := by
  cases hV : V32 x with
  | some V =>
    have hv := V32_some hV
    obtain ⟨y, h1, h2, h3⟩ := wide hv
    have hc := conv_fin h1
    have hlt := Lib.hid (wide_lt h1)
    have e1 : (Ieee.double.order y y != some .eq) = false := by have := order_eq_iff h2 h2; simp [bne, this]
    have e2 : Hid ((Ieee.double.order (y % 9223372036854775808) 9218868437227405311 == some .gt) = false) := not_inf h2 h3
    have HV := Lib.hid hV
    have E1 := Lib.hid e1
    clear hV hv h1 h2 h3 e1
    go_enter Tryz.func94, Tryz.ntmps94
    go_wp2_with (first | (go_at_call 169; refine (isNaN_any y _).mono ?_; rintro e w' ⟨rfl, rfl⟩; rw [E1.out]) | (go_at_call 170; refine (isInf_any y _ hlt.out).mono ?_; rintro e w' ⟨rfl, rfl⟩; rw [e2.out]))
    go_ret
    exact ⟨by rw [finB, HV.out]; rfl, 0, rfl⟩
  | none =>
    have HV := Lib.hid hV
    rcases V32_none hV with ⟨s, hr⟩ | ⟨s, t, hr⟩
    · have hc := conv_inf hr
      obtain ⟨y, hy⟩ : ∃ y, y = Ieee.double.write (.infinity s) := ⟨_, rfl⟩
      have hri : Ieee.double.read y = .infinity s := by rw [hy]; exact read_inf _ _ (by decide)
      have hlt : Hid (y < 2 ^ 64) := by rw [hy]; exact Ieee.Format.write_lt Ieee.double _
      rw [← hy] at hc
      have E1 : Hid ((Ieee.double.order y y != some .eq) = false) := by unfold Hid; rw [order_inf_inf hri]; rfl
      have e2 : Hid ((Ieee.double.order (y % 9223372036854775808) 9218868437227405311 == some .gt) = true) := is_inf hri
      clear hV hr hy hri
      go_enter Tryz.func94, Tryz.ntmps94
      go_wp2_with (first | (go_at_call 169; refine (isNaN_any y _).mono ?_; rintro e w' ⟨rfl, rfl⟩; rw [E1.out]) | (go_at_call 170; refine (isInf_any y _ hlt.out).mono ?_; rintro e w' ⟨rfl, rfl⟩; rw [e2.out]))
      go_ret
      exact ⟨by rw [finB, HV.out]; rfl, 0, rfl⟩
    · obtain ⟨y, hc, s', t', hn⟩ := conv_nan hr w
      have E1 : Hid ((Ieee.double.order y y != some .eq) = true) := by unfold Hid; rw [order_nan hn]; rfl
      clear hV hr hn
      go_enter Tryz.func94, Tryz.ntmps94
      go_wp2_with (first | (go_at_call 169; refine (isNaN_any y _).mono ?_; rintro e w' ⟨rfl, rfl⟩; rw [E1.out]))
      go_ret
      exact ⟨by rw [finB, HV.out]; rfl, 1, rfl⟩
end Go.Proofs.YtjgofnbfpoephaaGreatDoor

/- Contracts: the permutation by a number that is out of range. -/
namespace Go.Proofs.YtjgofnbfpoephaaGreatDoor
set_option linter.all false
open Go.RowKit
set_option linter.unusedVariables false

theorem draw_bad (x n : Int) (w : World) (h : checkDrawI x n ≠ 0) :
    Calls Tryz.prog 15 #[.int .i64 x, .int .i64 n] w fun e w' => e = .returned (.tuple #[.slice none 0 0, .int .i64 (checkDrawI x n)]) ∧ Below w.heap.size w w' := by
  unfold checkDrawI at h ⊢
  go_enter Tryz.func15, Tryz.ntmps15
  go_wp2_with (first | (go_at_call 88; refine (between_any _ _ _ _).mono ?_; rintro e w' ⟨rfl, rfl⟩) | (go_at_call 87; refine (firstV_any _ _ _ [whenI (rangeB x 0 999999999) 3, whenI (rangeB n 0 256) 3] _ (Rd.new _ _ _ _ ?_) rfl ?_).mono ?_; (simp); (simp); (rintro e w' ⟨rfl, rfl⟩)))
  go_ret2
  exact ⟨rfl, (Below.refl _ _).alloc (Nat.le_refl _) _⟩
theorem drawGo_length : ∀ (i : Nat) (l : List Int) (x : Int), (drawGo i l x).length = l.length
  | 0, l, x => rfl
  | i + 1, l, x => by rw [drawGo, drawGo_length i, swap_length]
theorem drawL_length (x : Int) (n : Nat) : (drawL x n).length = n := by rw [drawL, drawGo_length]; simp [upTo]
end Go.Proofs.YtjgofnbfpoephaaGreatDoor

/- Contracts: the permutation by a number, by the reference. -/
namespace Go.Proofs.YtjgofnbfpoephaaGreatDoor
set_option linter.all false
open Go.RowKit
set_option linter.unusedVariables false

theorem upTo_succ (k : Nat) : ints (upTo (k + 1)) = ints (upTo k) ++ [.int .i64 k] := by simp [ints, upTo, List.range_succ]

set_option maxRecDepth 100000 in
set_option maxHeartbeats 1000000 in
theorem drawR_ok (x n : Int) (w : World) (hx : rangeB x 0 999999999 = false) (hn : rangeB n 0 256 = false) :
    Calls Tryz.prog 17 #[.int .i64 x, .int .i64 n] w fun e w' => ∃ v, e = .returned v ∧ w'.ownsRow w.heap.size 3 1 v n.toNat (ints (drawL x n.toNat)) ∧ Below w.heap.size w w' := by
  have hx' : 0 ≤ x ∧ x ≤ 999999999 := by simp [rangeB] at hx; omega
  have hn' : 0 ≤ n ∧ n ≤ 256 := by simp [rangeB] at hn; omega
  obtain ⟨m, rfl⟩ := Int.eq_ofNat_of_zero_le hn'.1
  rw [Int.toNat_natCast]
  have hm : m ≤ 256 := by omega
  clear hx hn hn'
  obtain ⟨i0, hi, hz0, hz1, hz2⟩ := info_parts info3
  go_enter Tryz.func17, Tryz.ntmps17
  go_wp2
  go_loopw [5, 6] (fun v i wr => ∃ k : Nat, k ≤ m ∧ i = .int .i64 k ∧ wr.ownsRow w.heap.size 3 1 v k (ints (upTo k)) ∧ Below w.heap.size w wr) (fun _ i _ => m - (intOf i).toNat)
  case atStart => exact ⟨0, Nat.zero_le _, rfl, World.ownsRow_nil _ _ _ _, Below.refl _ _⟩
  case round =>
    obtain ⟨k, hk, rfl, hown, hb⟩ := hrel
    have hsz := hb.size
    by_cases hlt : k < m
    · go_wp2_with (at_builtin; refine wpList_append_own _ rfl _ _ 26 rfl w.heap.size 3 i0 (.int .i64 0) 1 8 Tryz.underlying26 hi hz0 hz1 hz2 rfl (by decide) _ _ _ rfl (hown.alloc _) ⟨wr.heap.size, 0, none⟩ 1 1 [.int .i64 k] rfl rfl (news1 _ _ _ _ rfl) ?c2 ?c3 ?c4 ?c5 ?_)
      case c2 => simp [Value.oneCell']
      case c3 => unfold maxLen; omega
      case c4 => omega
      case c5 => simp; omega
      intro v' w1 hown' hgrow _
      have hu := Lib.hid (upTo_succ k)
      have hb1 := Lib.hid (Below.app hb hsz hown hgrow)
      have ho1 := Lib.hid hown'
      clear hown' hgrow hown hb
      go_wp2
      go_roundw
      case rel => exact ⟨k + 1, by omega, by go_num, by rw [hu.out]; exact ho1.out, hb1.out⟩
      case measure => simp [intOf]; omega
    · obtain rfl : k = m := by omega
      have hlen : (upTo k).length = k := by simp [upTo]
      have HL := Lib.hid hlen; clear hlen
      go_wp2
      go_loopw [7, 8] (fun u i wr' => ∃ (y : Int) (j : Int) (l : List Int), u = .int .i64 y ∧ i = .int .i64 j ∧ 0 ≤ y ∧ y ≤ 2147483629 ∧ -1 ≤ j ∧ j < (k : Int) ∧ Hid (l.length = k) ∧ Hid (drawGo j.toNat l y = drawL x k) ∧ wr'.ownsRow w.heap.size 3 1 u5 k (ints l) ∧ Below w.heap.size w wr') (fun _ i _ => (intOf i).toNat)
      case atStart => exact ⟨x, (k : Int) - 1, upTo k, rfl, rfl, by omega, by omega, by omega, by omega, HL, by show _ = _; rw [drawL]; congr 1; omega, hown, hb⟩
      case round =>
        clear hown hb hsz
        obtain ⟨y, j, l, rfl, rfl, y0, y1, j0, j1, hl, H, hown, hb⟩ := hrel
        by_cases hj : 1 ≤ j
        · obtain ⟨q, rfl⟩ := Int.eq_ofNat_of_zero_le (show 0 ≤ j by omega)
          obtain ⟨p, hp⟩ := Int.eq_ofNat_of_zero_le (show 0 ≤ (48271 * y + 11) % 2147483629 % ((q : Int) + 1) from Int.emod_nonneg _ (by omega))
          have hpq : p ≤ q := by have := Int.emod_lt_of_pos ((48271 * y + 11) % 2147483629) (show 0 < (q : Int) + 1 by omega); omega
          have n0 : 0 ≤ (48271 * y + 11) % 2147483629 := Int.emod_nonneg _ (by decide)
          have n1 : (48271 * y + 11) % 2147483629 ≤ 2147483629 := by have := Int.emod_lt_of_pos (48271 * y + 11) (show (0 : Int) < 2147483629 by decide); omega
          have lq : q < l.length := by rw [hl.out]; omega
          have lp : p < l.length := by omega
          have hqk : (q : Int) < (k : Int) := by omega
          have hpk : (p : Int) < (k : Int) := by omega
          obtain ⟨g, cap, rfl, hg, hglt⟩ := ownsRow.addr hown (by omega)
          have hcq : wr.cell? ⟨g, q, none⟩ = some (.int .i64 (l.getD q 0)) := by rw [hown.cellAt _ (by omega)]; simp [ints, lq]
          have hcp : wr.cell? ⟨g, p, none⟩ = some (.int .i64 (l.getD p 0)) := by rw [hown.cellAt _ (by omega)]; simp [ints, lp]
          have hfq := hown.frozenAt q
          have hfp := hown.frozenAt p
          have hrow2 := (hown.stored q (.int .i64 (l.getD p 0))).1
          have hcp2 : ∃ v2, (wr.setCell ⟨g, q, none⟩ (.int .i64 (l.getD p 0))).cell? ⟨g, p, none⟩ = some v2 := ⟨_, by rw [hrow2.cellAt _ (by omega)]; exact List.getElem?_eq_getElem (by simpa [ints] using lp)⟩
          obtain ⟨v2, hv2⟩ := hcp2
          have hrow3 := Lib.hid (hrow2.stored p (.int .i64 (l.getD q 0))).1
          have hb2 := Lib.hid ((hb.setCell (p := ⟨g, q, none⟩) hg (.int .i64 (l.getD p 0))).setCell (p := ⟨g, p, none⟩) hg (.int .i64 (l.getD q 0)))
          have hgo := Lib.hid (drawGo_pos q p l y (by omega) hp)
          have hlen := Lib.hid (swap_length l q p)
          have hsw := Lib.hid (ints_swap l q p)
          obtain ⟨a, ha⟩ : ∃ a, l.getD q 0 = a := ⟨_, rfl⟩
          obtain ⟨b, hb0⟩ : ∃ b, l.getD p 0 = b := ⟨_, rfl⟩
          rw [ha] at hcq hrow3 hb2 hsw
          rw [hb0] at hcp hrow3 hb2 hsw hv2
          have hv3 : ∀ nq, ((wr.drewN nq).setCell ⟨g, q, none⟩ (.int .i64 b)).cell? ⟨g, p, none⟩ = some v2 := fun _ => hv2
          clear ha hb0 hrow2 hown hb hv2
          go_wp2
          go_quiet (fail)
          go_wp2
          go_roundw
          case rel => exact ⟨_, (q : Int) - 1, swapAt l q p, rfl, rfl, n0, n1, by omega, by omega, by show _ = _; rw [hlen.out, hl.out], by show _ = _; rw [← H.out, Int.toNat_natCast, hgo.out]; congr 1; omega, by rw [hsw.out]; exact hrow3.out, below_drewN hb2.out _⟩
          case measure => simp [intOf]; omega
        · go_wp2
          go_ret
          exact ⟨_, rfl, by have := H.out; rw [show j.toNat = 0 by omega] at this; rw [← this]; exact hown, hb⟩
end Go.Proofs.YtjgofnbfpoephaaGreatDoor

/- Contracts: is a float a multiple of a sixteenth within bounds; the error of a sample. -/
namespace Go.Proofs.YtjgofnbfpoephaaGreatDoor
set_option linter.all false
open Go.RowKit Go.Fl
set_option linter.unusedVariables false

theorem ret_bool {a b : Bool} (h : a = b) : Ending.returned (.bool a) = .returned (.bool b) := by rw [h]

/-- x is finite, n sixteenths for an integer n from -M to M -/
def stepB (x : Nat) (M : Nat) : Bool := match V32 x with | some V => decide (V.natAbs ≤ M * 2 ^ 145) && decide (cutI V * (2 ^ 145 : Nat) = V) | none => false

theorem geq_of {x y : Nat} {V U : Int} (h : Val Ieee.single x V) (k : Val Ieee.single y U) : (FloatKind.f32.format.order x y == some .gt || FloatKind.f32.format.order x y == some .eq) = decide (U ≤ V) := by
  show (Ieee.single.order x y == some .gt || Ieee.single.order x y == some .eq) = _
  rw [order_gt_iff h k, order_eq_iff h k, Bool.eq_iff_iff]; simp; omega
theorem leq_of {x y : Nat} {V U : Int} (h : Val Ieee.single x V) (k : Val Ieee.single y U) : (FloatKind.f32.format.order x y == some .lt || FloatKind.f32.format.order x y == some .eq) = decide (V ≤ U) := by
  show (Ieee.single.order x y == some .lt || Ieee.single.order x y == some .eq) = _
  rw [order_lt_iff h k, order_eq_iff h k, Bool.eq_iff_iff]; simp; omega
theorem eql_of {x y : Nat} {V U : Int} (h : Val Ieee.single x V) (k : Val Ieee.single y U) : (FloatKind.f32.format.order x y == some .eq) = decide (V = U) := order_eq_iff h k

set_option maxRecDepth 100000 in
set_option maxHeartbeats 400000 in
theorem isStepped_any (x mb nb M : Nat) (w : World) (hneg0 : Op.negFloat .f32 mb = nb) (hm : Val Ieee.single mb ((M * 2 ^ 145 : Nat) : Int)) (hn : Val Ieee.single nb (-((M * 2 ^ 145 : Nat) : Int))) (hM : M < 2 ^ 18) :
    Calls Tryz.prog 95 #[.float .f32 x, .float .f32 mb] w fun e w' => e = .returned (.bool (stepB x M)) ∧ w = w' := by
  have hneg : ∀ w, (Op.unary .neg (.float .f32 mb)).run Tryz.prog w = .ok (.float .f32 nb) w := fun w => by rw [← hneg0]; rfl
  clear hneg0
  cases hV : V32 x with
  | some V =>
    have hv := V32_some hV
    have g1 := geq_of hv hn
    have l1 := leq_of hv hm
    by_cases hin : V.natAbs ≤ M * 2 ^ 145
    · have g2 : decide (-((M * 2 ^ 145 : Nat) : Int) ≤ V) = true := by simp only [decide_eq_true_eq]; omega
      have l2 : decide (V ≤ ((M * 2 ^ 145 : Nat) : Int)) = true := by simp only [decide_eq_true_eq]; omega
      rw [g2] at g1; rw [l2] at l1
      have hc := cutI_bd hin
      have hc2 : (cutI V).natAbs < 2 ^ 20 := Nat.lt_of_le_of_lt hc (Nat.lt_of_lt_of_le hM (Nat.pow_le_pow_right (by decide) (by decide)))
      have hVb : V.natAbs < 2 ^ 200 := Nat.lt_of_le_of_lt hin (pow_bound hM (by decide))
      have he : Hid ((FloatKind.f32.format.order (fb (cutI V)) x == some .eq) = decide (cutI V * (2 ^ 145 : Nat) = V)) := eql_of (fb_spec hc2).2 hv
      have hc3 : (cutI V).natAbs < 2 ^ 60 := Nat.lt_trans hc2 (Nat.pow_lt_pow_right (by decide) (by decide))
      have Hu := Lib.hid (fun w => unitOf_any x V w hv hVb hc3)
      have Hs := Lib.hid (fun w => sampleOf_any (cutI V) w hc2)
      have HV := Lib.hid hV
      have HI := Lib.hid hin
      clear hV hv hin g2 l2 hc hc2 hVb hc3 hm hn hM
      go_enter Tryz.func95, Tryz.ntmps95
      go_wp2_with (first | (go_at_call 128; refine (Hu.out _).mono ?_; rintro e w' ⟨rfl, rfl⟩) | (go_at_call 104; refine (Hs.out _).mono ?_; rintro e w' ⟨rfl, rfl⟩))
      go_ret
      exact ⟨ret_bool (by rw [he.out, stepB, HV.out]; simp [HI.out]), rfl⟩
    · have hs : stepB x M = false := by rw [stepB, hV]; simp [hin]
      have HS := Lib.hid hs
      by_cases hlow : V < -((M * 2 ^ 145 : Nat) : Int)
      · have g2 : decide (-((M * 2 ^ 145 : Nat) : Int) ≤ V) = false := by simp only [decide_eq_false_iff_not]; omega
        rw [g2] at g1
        clear hV hv hin g2 hlow l1 hm hn hM hs
        go_enter Tryz.func95, Tryz.ntmps95
        go_wp2
        go_ret
        exact ⟨ret_bool HS.out.symm, rfl⟩
      · have g2 : decide (-((M * 2 ^ 145 : Nat) : Int) ≤ V) = true := by simp only [decide_eq_true_eq]; omega
        have l2 : decide (V ≤ ((M * 2 ^ 145 : Nat) : Int)) = false := by simp only [decide_eq_false_iff_not]; omega
        rw [g2] at g1; rw [l2] at l1
        clear hV hv hin g2 hlow l2 hm hn hM hs
        go_enter Tryz.func95, Tryz.ntmps95
        go_wp2
        go_ret
        exact ⟨ret_bool HS.out.symm, rfl⟩
  | none =>
    have hs : stepB x M = false := by rw [stepB, hV]
    have HS := Lib.hid hs
    rcases V32_none hV with ⟨s, hr⟩ | ⟨s, t, hr⟩
    · have o1 := order_inf_fin hr hn
      have o2 := order_inf_fin hr hm
      cases s
      · have g1 : (FloatKind.f32.format.order x nb == some .gt || FloatKind.f32.format.order x nb == some .eq) = true := by
          show (Ieee.single.order x nb == some .gt || Ieee.single.order x nb == some .eq) = _
          rw [o1]; rfl
        have l1 : (FloatKind.f32.format.order x mb == some .lt || FloatKind.f32.format.order x mb == some .eq) = false := by
          show (Ieee.single.order x mb == some .lt || Ieee.single.order x mb == some .eq) = _
          rw [o2]; rfl
        clear hV hr o1 o2 hm hn hM hs
        go_enter Tryz.func95, Tryz.ntmps95
        go_wp2
        go_ret
        exact ⟨ret_bool HS.out.symm, rfl⟩
      · have g1 : (FloatKind.f32.format.order x nb == some .gt || FloatKind.f32.format.order x nb == some .eq) = false := by
          show (Ieee.single.order x nb == some .gt || Ieee.single.order x nb == some .eq) = _
          rw [o1]; rfl
        clear hV hr o1 o2 hm hn hM hs
        go_enter Tryz.func95, Tryz.ntmps95
        go_wp2
        go_ret
        exact ⟨ret_bool HS.out.symm, rfl⟩
    · have g1 : (FloatKind.f32.format.order x nb == some .gt || FloatKind.f32.format.order x nb == some .eq) = false := by
        show (Ieee.single.order x nb == some .gt || Ieee.single.order x nb == some .eq) = _
        rw [order_nan hr]; rfl
      clear hV hr hm hn hM hs
      go_enter Tryz.func95, Tryz.ntmps95
      go_wp2
      go_ret
      exact ⟨ret_bool HS.out.symm, rfl⟩

def gradeB (x : Nat) : Bool := stepB x 16384
theorem sample_bound : Val Ieee.single 1149239296 ((16384 * 2 ^ 145 : Nat) : Int) := ⟨false, _, ⟨_, _, (show Ieee.single.read 1149239296 = .number false 8388608 (-13) by decide +kernel), by decide, by decide +kernel⟩, rfl⟩
theorem sample_boundN : Val Ieee.single 3296722944 (-((16384 * 2 ^ 145 : Nat) : Int)) := ⟨true, _, ⟨_, _, (show Ieee.single.read 3296722944 = .number true 8388608 (-13) by decide +kernel), by decide, by decide +kernel⟩, rfl⟩
theorem isStepped_sample (x : Nat) (w : World) : Calls Tryz.prog 95 #[.float .f32 x, .float .f32 1149239296] w fun e w' => e = .returned (.bool (gradeB x)) ∧ w = w' :=
  isStepped_any x 1149239296 3296722944 16384 w (by decide +kernel) sample_bound sample_boundN (by decide)
theorem panel_bound : Val Ieee.single 1166016512 ((65536 * 2 ^ 145 : Nat) : Int) := ⟨false, _, ⟨_, _, (show Ieee.single.read 1166016512 = .number false 8388608 (-11) by decide +kernel), by decide, by decide +kernel⟩, rfl⟩
theorem panel_boundN : Val Ieee.single 3313500160 (-((65536 * 2 ^ 145 : Nat) : Int)) := ⟨true, _, ⟨_, _, (show Ieee.single.read 3313500160 = .number true 8388608 (-11) by decide +kernel), by decide, by decide +kernel⟩, rfl⟩
theorem isStepped_panel (x : Nat) (w : World) : Calls Tryz.prog 95 #[.float .f32 x, .float .f32 1166016512] w fun e w' => e = .returned (.bool (stepB x 65536)) ∧ w = w' :=
  isStepped_any x 1166016512 3313500160 65536 w (by decide +kernel) panel_bound panel_boundN (by decide)

/-- the error of a sample -/
def sampI (x : Nat) : Int := firstI [whenI (!finB x) 1, whenI (!gradeB x) 3]
set_option maxHeartbeats 400000 in
theorem checkSample_any (x : Nat) (w : World) : Calls Tryz.prog 24 #[.float .f32 x] w fun e w' => e = .returned (.int .i64 (sampI x)) ∧ Below w.heap.size w w' := by
  go_enter Tryz.func24, Tryz.ntmps24
  go_wp2_with (first | (go_at_call 94; refine (isFinite_any _ _).mono ?_; rintro e w' ⟨rfl, n, rfl⟩) | (go_at_call 95; refine (isStepped_sample _ _).mono ?_; rintro e w' ⟨rfl, rfl⟩) | (go_at_call 91; refine (failed_any _ _ _).mono ?_; rintro e w' ⟨rfl, rfl⟩) | (go_at_call 87; refine (firstV_any _ _ _ [whenI (!finB x) 1, whenI (!gradeB x) 3] _ ?_ rfl ?_).mono ?_; (first | exact Rd.new _ _ _ _ (by simp) | exact Rd.drewN (Rd.new _ _ _ _ (by simp)) _); (simp); (rintro e w' ⟨rfl, rfl⟩)))
  go_ret
  exact ⟨rfl, by repeat (first | exact Below.refl _ _ | refine below_drewN ?_ _ | refine Below.drew ?_ | refine Below.alloc ?_ (by simp) _)⟩

/-- the error of a part, by the reference: the same -/
def partI (x M : Nat) : Int := if V32 x = none then 1 else whenI (!stepB x M) 3
theorem sampI_eq (x : Nat) : sampI x = partI x 16384 := by
  unfold sampI partI finB gradeB stepB
  cases hV : V32 x with
  | none => simp [firstI, whenI]
  | some V => simp [firstI, whenI]

theorem convW (n : Int) (hn : n.natAbs < 2 ^ 53) : Val Ieee.double (floatOfInt .f64 n) (n * (2 ^ u64 : Nat)) := nearest64 n hn
end Go.Proofs.YtjgofnbfpoephaaGreatDoor
