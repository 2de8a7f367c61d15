import Derived.Test.YtlflfieknibgmaaGreatDoorM06
import Derived.Laws.AppendOwnNone
import Derived.ChangeKeysEq
namespace Go.Proofs.YtlflfieknibgmaaGreatDoor
set_option linter.all false
open Go.RowKit Go.Fl
theorem ownsRow.empty (w : World) (e : TypeId) (size : Nat) : (w.alloc (.cells #[] e)).ownsRow w.heap.size e size (.slice (some ⟨w.heap.size, 0, none⟩) 0 0) 0 [] :=
  World.ownsRow_made w #[] 0 (Nat.le_refl _) (by unfold maxLen; decide) (by simp)
theorem info37 : (Tryz.prog.info? 43).map (fun i => (i.zero, i.size, i.bytes)) = some (some (.float .f32 0), 1, 4) := by kernel_rfl
theorem info5 : (Tryz.prog.info? 5).map (fun i => (i.zero, i.size, i.bytes)) = some (some (.int .u8 0), 1, 1) := by kernel_rfl
def sameF : List Nat → List Nat → Bool
  | [], [] => true
  | x :: xs, y :: ys => (FloatKind.f32.format.order x y == some .eq) && sameF xs ys
  | _, _ => false
theorem sameF_length {xs ys : List Nat} (h : xs.length ≠ ys.length) : sameF xs ys = false := by
  induction xs generalizing ys with
  | nil => cases ys with
    | nil => exact absurd rfl h
    | cons => rfl
  | cons x xs ih => cases ys with
    | nil => rfl
    | cons y ys => rw [sameF, ih (by simpa using h), Bool.and_false]
theorem sameF_drop {xs ys : List Nat} {k : Nat} (hx : k < xs.length) (hy : k < ys.length) : sameF (xs.drop k) (ys.drop k) = ((FloatKind.f32.format.order xs[k] ys[k] == some .eq) && sameF (xs.drop (k + 1)) (ys.drop (k + 1))) := by
  rw [List.drop_eq_getElem_cons hx, List.drop_eq_getElem_cons hy, sameF]
def byts (xs : List UInt8) : List Value := xs.map fun b => .int .u8 (b.toNat : Int)
set_option maxHeartbeats 400000 in
theorem sameSamples_any (A B : Option Addr) (n m c d : Nat) (xs ys : List Nat) (w : World) (hA : Rd w A (flts xs)) (hB : Rd w B (flts ys)) (hn : n = xs.length) (hm : m = ys.length) (hx : xs.length ≤ 9223372036854775807) :
    Calls Tryz.prog 27 #[.slice A n c, .slice B m d] w fun e w' => e = .returned (.bool (sameF xs ys)) ∧ ∃ q, w' = w.drewN q := by
  subst hn; subst hm
  by_cases hl : xs.length = ys.length
  · have hl1 : ((xs.length : Int) != (ys.length : Int)) = false := by rw [bne_eq_false_iff_eq]; omega
    have HL := Lib.hid hl; clear hl
    go_enter Tryz.func27, Tryz.ntmps27
    go_wp2
    go_loopw [5] (fun i wr => ∃ k : Nat, k ≤ xs.length ∧ i = .int .i64 k ∧ Hid (sameF (xs.drop k) (ys.drop k) = sameF xs ys) ∧ ∃ q, wr = w.drewN q) (fun i _ => xs.length - (intOf i).toNat)
    case atStart => exact ⟨0, Nat.zero_le _, rfl, rfl, 0, rfl⟩
    case round =>
      obtain ⟨k, hk, rfl, H, q, rfl⟩ := hrel
      by_cases hlt : k < xs.length
      · have hlt2 : k < ys.length := by rw [← HL.out]; exact hlt
        obtain ⟨b, off, rfl, hc⟩ := Rd.flt hA hlt
        obtain ⟨b', off', rfl, hc'⟩ := Rd.flt hB hlt2
        have i1 : (k : Int) < (xs.length : Int) := by omega
        have i2 : (k : Int) < (ys.length : Int) := by omega
        have HS := Lib.hid (sameF_drop hlt hlt2)
        cases ho : (FloatKind.f32.format.order xs[k] ys[k] == some .eq)
        · have ho2 : (FloatKind.f32.format.order xs[k] ys[k] != some .eq) = true := by rw [bne, ho]; rfl
          have Ho := Lib.hid ho; clear ho
          go_wp2
          go_quiet (fail)
          go_wp2
          go_ret
          exact ⟨ret_bool (by rw [← H.out, HS.out, Ho.out]; rfl), q + _, by rw [World.drewN_drewN]⟩
        · have ho2 : (FloatKind.f32.format.order xs[k] ys[k] != some .eq) = false := by rw [bne, ho]; rfl
          have Ho := Lib.hid ho; clear ho
          go_wp2
          go_quiet (fail)
          go_wp2
          go_roundw
          case rel => exact ⟨k + 1, by omega, by go_num, by show _ = _; rw [← H.out, HS.out, Ho.out]; rfl, _, rfl⟩
          case measure => simp [intOf]; omega
      · go_wp2
        go_ret
        exact ⟨ret_bool (by rw [← H.out, List.drop_of_length_le (by omega), List.drop_of_length_le (by rw [← HL.out]; omega)]; rfl), q, rfl⟩
  · have hl1 : ((xs.length : Int) != (ys.length : Int)) = true := by rw [bne_iff_ne]; omega
    have HL := Lib.hid hl; clear hl
    go_enter Tryz.func27, Tryz.ntmps27
    go_wp2
    go_ret
    exact ⟨ret_bool (sameF_length HL.out).symm, 0, rfl⟩
def stepX (j : Nat) (x b : Int) : Int := ((10 * j + 7) * x + b + 3 * j + 5) % 256
def sealB (j : Nat) (x : Int) (bs : List UInt8) : Int := bs.foldl (fun x b => stepX j x b.toNat) x
def sealGo (bs : List UInt8) : Nat → List Int → List Int
  | _, [] => []
  | j, x :: xs => sealB j x bs :: sealGo bs (j + 1) xs
def sealL (key : List Int) (bs : List UInt8) : List Int := sealGo bs 0 key
def u8s (xs : List Int) : List Value := xs.map (Value.int .u8)
def keyV (xs : List Int) : Value := .agg (u8s xs).toArray
def isByte (x : Int) : Prop := 0 ≤ x ∧ x ≤ 255
theorem index_key (k0 k1 k2 k3 k4 k5 k6 k7 : Int) (j : Nat) (hj : j < 8) (w : World) :
    (Instr.index 57 (.agg #[.int .u8 k0, .int .u8 k1, .int .u8 k2, .int .u8 k3, .int .u8 k4, .int .u8 k5, .int .u8 k6, .int .u8 k7]) (.int .i64 (j : Int))).run Tryz.prog w = .ok (.int .u8 ([k0, k1, k2, k3, k4, k5, k6, k7].getD j 0)) w := by
  rcases (show j = 0 ∨ j = 1 ∨ j = 2 ∨ j = 3 ∨ j = 4 ∨ j = 5 ∨ j = 6 ∨ j = 7 by omega) with rfl | rfl | rfl | rfl | rfl | rfl | rfl | rfl
  all_goals kernel_rfl
theorem sealGo_length (bs : List UInt8) (key : List Int) : ∀ j, (sealGo bs j key).length = key.length := by
  induction key with
  | nil => intro j; rfl
  | cons x xs ih => intro j; simp [sealGo, ih]
theorem sealGo_get (bs : List UInt8) (key : List Int) : ∀ (j i : Nat) (h : i < key.length), (sealGo bs j key)[i]'(by rw [sealGo_length]; exact h) = sealB (j + i) key[i] bs := by
  induction key with
  | nil => intro j i h; simp at h
  | cons x xs ih =>
    intro j i h
    cases i with
    | zero => simp [sealGo]
    | succ i =>
      have := ih (j + 1) i (by simpa using h)
      simp only [sealGo, List.getElem_cons_succ]
      rw [this]; congr 1; omega
def mixL (key : List Int) (bs : List UInt8) (j : Nat) : List Int := (sealL key bs).take j ++ key.drop j
theorem mixL_length (key : List Int) (bs : List UInt8) (j : Nat) (hj : j ≤ key.length) : (mixL key bs j).length = key.length := by
  simp [mixL, sealL, sealGo_length]; omega
theorem mixL_set (key : List Int) (bs : List UInt8) (j : Nat) (hj : j < key.length) : (u8s (mixL key bs j)).set j (.int .u8 (sealB j key[j] bs)) = u8s (mixL key bs (j + 1)) := by
  have hl : ((sealL key bs).take j).length = j := by simp [sealL, sealGo_length]; omega
  have hs : j < (sealL key bs).length := by simp [sealL, sealGo_length]; exact hj
  have hg : (sealL key bs)[j] = sealB j key[j] bs := by
    have := sealGo_get bs key 0 j hj
    simpa [sealL] using this
  have e : u8s (mixL key bs j) = u8s ((sealL key bs).take j) ++ u8s (key.drop j) := by simp [u8s, mixL]
  rw [e, List.drop_eq_getElem_cons hj, mixL, List.take_succ_eq_append_getElem hs, hg]
  rw [List.set_append_right _ _ (by simp [u8s]; omega)]
  have : j - (u8s ((sealL key bs).take j)).length = 0 := by simp [u8s]; omega
  rw [this]
  simp only [u8s, List.map_cons, List.set_cons_zero, List.map_append, List.append_assoc, List.cons_append, List.nil_append]
theorem sealB_snoc (j : Nat) (x : Int) (bs : List UInt8) (k : Nat) (hk : k < bs.length) : sealB j x (bs.take (k + 1)) = stepX j (sealB j x (bs.take k)) bs[k].toNat := by
  rw [List.take_succ_eq_append_getElem hk, sealB, List.foldl_append]; rfl
theorem stepX_bd (j : Nat) (x b : Int) : 0 ≤ stepX j x b ∧ stepX j x b ≤ 255 := by
  unfold stepX; omega
theorem Rd.byte {w : World} {A : Option Addr} {xs : List UInt8} (h : Rd w A (byts xs)) {j : Nat} (hj : j < xs.length) : ∃ b off, A = some ⟨b, off, none⟩ ∧ w.cell? ⟨b, off + j, none⟩ = some (.int .u8 (xs[j].toNat : Int)) := by
  obtain ⟨b, off, h1, h2⟩ := Rd.at h (j := j) (by simpa [byts] using hj)
  exact ⟨b, off, h1, by rw [h2]; simp [byts]⟩
theorem stepX_wrap (j : Nat) (x b : Int) : (((10 * (j : Int) + 7) * x + b) % 256 + (3 * (j : Int) + 5)) % 256 = stepX j x b := by
  unfold stepX; omega
theorem info47 : (Tryz.prog.info? 57).map (·.size) = some 8 := by kernel_rfl
set_option maxRecDepth 100000 in
set_option maxHeartbeats 1000000 in
theorem sealed_any (k0 k1 k2 k3 k4 k5 k6 k7 : Int) (A : Option Addr) (n c : Nat) (bs : List UInt8) (w : World) (hA : Rd w A (byts bs)) (hn : n = bs.length) (hm : bs.length ≤ 9223372036854775807) (hkeys : ∀ j (h : j < 8), isByte ([k0, k1, k2, k3, k4, k5, k6, k7][j])) :
    Calls Tryz.prog 63 #[.agg #[.int .u8 k0, .int .u8 k1, .int .u8 k2, .int .u8 k3, .int .u8 k4, .int .u8 k5, .int .u8 k6, .int .u8 k7], .slice A n c] w fun e w' => e = .returned (keyV (sealL [k0, k1, k2, k3, k4, k5, k6, k7] bs)) ∧ Below w.heap.size w w' := by
  subst hn
  have hix := fun (j : Nat) (hj : j < 8) W => index_key k0 k1 k2 k3 k4 k5 k6 k7 j hj W
  have Hix := Lib.hid hix
  have Hkeys := Lib.hid hkeys
  clear hix hkeys
  go_enter Tryz.func63, Tryz.ntmps63
  go_wp2
  go_loopw [12] (fun i wr => ∃ j : Nat, j ≤ 8 ∧ i = .int .i64 j ∧ Row wr w.heap.size 57 (u8s (mixL [k0, k1, k2, k3, k4, k5, k6, k7] bs j)) ∧ Row wr (w.heap.size + 1) 57 (u8s [0, 0, 0, 0, 0, 0, 0, 0]) ∧ Below w.heap.size w wr) (fun i _ => 8 - (intOf i).toNat)
  case atStart => exact ⟨0, Nat.zero_le _, rfl, (Row.new w 57 (u8s [k0, k1, k2, k3, k4, k5, k6, k7])).alloc _, by have := Row.new (w.alloc (.cells (u8s [k0, k1, k2, k3, k4, k5, k6, k7]).toArray 57)) 57 (u8s [0, 0, 0, 0, 0, 0, 0, 0]); rw [World.size_alloc] at this; exact this, by repeat (first | exact Below.refl _ _ | refine below_drewN ?_ _ | refine Below.drew ?_ | refine Below.alloc ?_ (by simp) _)⟩
  case round =>
    obtain ⟨j, hj, rfl, hrow, hres, hb⟩ := hrel
    by_cases hlt : j < 8
    · obtain ⟨kj, hkj⟩ : ∃ kj, [k0, k1, k2, k3, k4, k5, k6, k7].getD j 0 = kj := ⟨_, rfl⟩
      have hi := fun W => Hix.out j hlt W
      rw [hkj] at hi
      have hset := Lib.hid (mixL_set [k0, k1, k2, k3, k4, k5, k6, k7] bs j hlt)
      have HK : Hid ([k0, k1, k2, k3, k4, k5, k6, k7][j] = kj) := by unfold Hid; rw [← hkj]; simp [hlt]
      have hkb := Lib.hid (Hkeys.out j hlt)
      have hA2 := Lib.hid (hA.below hb)
      obtain ⟨v0, hc0⟩ : ∃ v0, wr.cell? ⟨w.heap.size, j, none⟩ = some v0 := ⟨_, hrow.cellAt (by have := mixL_length [k0, k1, k2, k3, k4, k5, k6, k7] bs j (by simpa using hj); simp [u8s, this]; omega)⟩
      have hf0 := hrow.free j
      have Hrow := Lib.hid hrow
      have Hres := Lib.hid hres
      have Hb := Lib.hid hb
      clear hrow hres hb hkj
      go_wp2
      go_loop [26, 6] (fun i x => ∃ (k : Nat) (y : Int), k ≤ bs.length ∧ i = .int .i64 k ∧ x = .int .u8 y ∧ 0 ≤ y ∧ y ≤ 255 ∧ Hid (y = sealB j kj (bs.take k))) (fun i _ => bs.length - (intOf i).toNat)
      case atStart => exact ⟨0, kj, Nat.zero_le _, rfl, rfl, by rw [← HK.out]; exact hkb.out.1, by rw [← HK.out]; exact hkb.out.2, rfl⟩
      case round =>
        obtain ⟨k, y, hk, rfl, rfl, y0, y1, H⟩ := hrel
        by_cases hkl : k < bs.length
        · obtain ⟨b, off, rfl, hc⟩ := Rd.byte hA2.out hkl
          have hsn := Lib.hid (sealB_snoc j kj bs k hkl)
          have hst := Lib.hid (stepX_wrap j y bs[k].toNat)
          have hbd := Lib.hid (stepX_bd j y bs[k].toNat)
          go_wp2
          go_round
          case rel => exact ⟨k + 1, stepX j y bs[k].toNat, by omega, by go_num, by rw [hst.out], hbd.out.1, hbd.out.2, by show _ = _; rw [hsn.out, ← H.out]⟩
          case measure => simp [intOf]; omega
        · have he : Hid (y = sealB j kj bs) := by have := H.out; rw [List.take_of_length_le (by omega)] at this; exact this
          go_wp2
          go_roundw
          case rel => exact ⟨j + 1, by omega, by go_num, by rw [← hset.out, HK.out, ← he.out]; exact Hrow.out.set j _, Hres.out.far (by simp) _, Hb.out.setCell (by simp) _⟩
          case measure => simp [intOf]; omega
    · obtain rfl : j = 8 := by omega
      have hr8 : Row wr w.heap.size 57 (u8s (sealL [k0, k1, k2, k3, k4, k5, k6, k7] bs)) := hrow
      obtain ⟨l, hl⟩ : ∃ l, l = sealL [k0, k1, k2, k3, k4, k5, k6, k7] bs := ⟨_, rfl⟩
      have hlen : l.length = 8 := by rw [hl]; simp [sealL, sealGo_length]
      rw [← hl] at hr8
      have He := Lib.hid hl
      have Hr := Lib.hid hr8
      have Hres := Lib.hid hres
      have Hlen := Lib.hid hlen
      clear hrow hr8 hl hlen hres
      go_wp2_with (first | (refine wpList_load_row rfl 57 _ rfl w.heap.size rfl 57 (u8s l).toArray (0, 0) _ Hr.out Tryz.underlying57 rfl ?_ ?_; (rw [info47]; simp [u8s, Hlen.out])) | (refine wpList_store_row rfl 57 _ _ rfl (w.heap.size + 1) (u8s l).toArray rfl rfl 57 _ Hres.out ?_ ?_ ?_ ?_; (rw [info47]; simp [u8s, Hlen.out]); (simp [u8s, Hlen.out]); (simp [u8s, Value.oneCell'])))
      refine bodyPost_ret (v := .agg (u8s l).toArray) (results_cell_row rfl _ _ (w.heap.size + 1) 57 (u8s l).toArray (0, 0) _ rfl (Hres.out.setRow (u8s l)) Tryz.underlying57 rfl ?_) rfl ⟨by rw [← He.out]; rfl, Below.setRow hb (by simp) _⟩
      rw [info47]; simp [u8s, Hlen.out]
-- two bytes
def wholeI (a b : Int) : Int := 256 * a + b
def signI (a b : Int) : Int := if 32768 ≤ wholeI a b then wholeI a b - 65536 else wholeI a b
set_option maxHeartbeats 400000 in
theorem or_bytes (a b : Int) (ha : 0 ≤ a ∧ a ≤ 255) (hb : 0 ≤ b ∧ b ≤ 255) : bits .or .i64 (a * 256) b = wholeI a b := by
  obtain ⟨x, rfl⟩ := Int.eq_ofNat_of_zero_le ha.1
  obtain ⟨y, rfl⟩ := Int.eq_ofNat_of_zero_le hb.1
  have hx : x ≤ 255 := by omega
  have hy : y < 2 ^ 8 := by omega
  show IntKind.i64.wrap ((BitVec.ofInt 64 ((x : Int) * 256) ||| BitVec.ofInt 64 (y : Int)).toNat : Nat) = wholeI x y
  have h1 : (BitVec.ofInt 64 ((x : Int) * 256)).toNat = x * 2 ^ 8 := by
    rw [BitVec.toNat_ofInt]; omega
  have h2 : (BitVec.ofInt 64 (y : Int)).toNat = y := by
    rw [BitVec.toNat_ofInt]; omega
  have h3 : x * 2 ^ 8 ||| y = x * 2 ^ 8 + y := by
    rw [← Nat.shiftLeft_eq, Nat.shiftLeft_add_eq_or_of_lt hy]
  rw [BitVec.toNat_or, h1, h2, h3, IntKind.wrap_i64]
  unfold wholeI
  omega
theorem whole_any (a b : Int) (w : World) (ha : 0 ≤ a ∧ a ≤ 255) (hb : 0 ≤ b ∧ b ≤ 255) : Calls Tryz.prog 97 #[.int .u8 a, .int .u8 b] w fun e w' => e = .returned (.int .i64 (wholeI a b)) ∧ w = w' := by
  go_enter Tryz.func97, Tryz.ntmps97
  go_wp2
  go_ret
  exact ⟨ret_int (or_bytes a b ha hb), rfl⟩
set_option maxHeartbeats 400000 in
theorem halves_any (n : Int) (w : World) (hn : -32768 ≤ n ∧ n ≤ 65535) : Calls Tryz.prog 82 #[.int .i64 n] w fun e w' => e = .returned (.tuple #[.int .u8 (n % 65536 / 256), .int .u8 (n % 256)]) ∧ w = w' := by
  go_enter Tryz.func82, Tryz.ntmps82
  go_wp2
  go_ret2
  exact ⟨by rw [show n / 256 % 256 = n % 65536 / 256 by omega]; rfl, rfl⟩
theorem wrap16 (m : Int) (h : 0 ≤ m ∧ m ≤ 65535) : IntKind.i16.wrap m = if 32768 ≤ m then m - 65536 else m := by
  have e : m % (2 ^ IntKind.i16.bits : Int) = m := Int.emod_eq_of_lt h.1 (by simp [IntKind.bits]; omega)
  unfold IntKind.wrap
  simp only [e]
  simp [IntKind.signed, IntKind.bits]
set_option maxHeartbeats 400000 in
theorem signed_any (a b : Int) (w : World) (ha : 0 ≤ a ∧ a ≤ 255) (hb : 0 ≤ b ∧ b ≤ 255) : Calls Tryz.prog 89 #[.int .u8 a, .int .u8 b] w fun e w' => e = .returned (.int .i64 (signI a b)) ∧ w = w' := by
  obtain ⟨m, hm⟩ : ∃ m, m = wholeI a b := ⟨_, rfl⟩
  have hm0 : 0 ≤ m ∧ m ≤ 65535 := by rw [hm]; unfold wholeI; omega
  have Hm := Lib.hid hm
  clear hm
  go_enter Tryz.func89, Tryz.ntmps89
  go_wp2_with (go_at_call 97; refine (whole_any _ _ _ ha hb).mono ?_; rintro e w' ⟨rfl, rfl⟩; rw [← Hm.out])
  go_ret
  exact ⟨ret_int (by rw [wrap16 m hm0, signI, ← Hm.out]; unfold wrap64; split <;> omega), rfl⟩
def unitI (x : Nat) : Int := match V32 x with | some V => cutI V | none => 0
theorem unit_of {x : Nat} (h : sampI x = 0) : ∃ V, Val Ieee.single x V ∧ V.natAbs ≤ 16384 * 2 ^ 145 ∧ unitI x = cutI V := by
  have h2 : partI x 16384 = 0 := by rw [← sampI_eq]; exact h
  unfold partI at h2
  split at h2
  · cases h2
  · have h3 : stepB x 16384 = true := by
      cases hs : stepB x 16384 with
      | true => rfl
      | false => rw [hs] at h2; cases h2
    unfold stepB at h3
    split at h3
    · rename_i V hV
      simp only [Bool.and_eq_true, decide_eq_true_eq] at h3
      exact ⟨V, V32_some hV, h3.1, by unfold unitI; rw [hV]⟩
    · cases h3
theorem unitI_bd {x : Nat} (h : sampI x = 0) : (unitI x).natAbs ≤ 16384 := by
  obtain ⟨V, _, hb, e⟩ := unit_of h
  rw [e]; exact cutI_bd hb
theorem unitI_bd2 {x : Nat} (h : sampI x = 0) : -32768 ≤ unitI x ∧ unitI x ≤ 65535 := by
  have := unitI_bd h; omega
theorem big_lt : 16384 * 2 ^ 145 < 2 ^ 200 := by decide
theorem unitOf_ok (x : Nat) (w : World) (h : sampI x = 0) : Calls Tryz.prog 76 #[.float .f32 x] w fun e w' => e = .returned (.int .i64 (unitI x)) ∧ w = w' := by
  obtain ⟨V, hV, hb, e⟩ := unit_of h
  rw [e]
  exact unitOf_any x V w hV (Nat.lt_of_le_of_lt hb big_lt) (Nat.lt_of_le_of_lt (cutI_bd hb) (by decide))
def hiI (x : Nat) : Int := unitI x % 65536 / 256
def loI (x : Nat) : Int := unitI x % 256
theorem stored_float (P : Program) (w : World) (a : Addr) (m : Mode) (k : FloatKind) (b : Nat) : (store a (.float k b) m).run P w = stored P w a (.float k b) m := run_store P w a _ m rfl
theorem stored_complex (P : Program) (w : World) (a : Addr) (m : Mode) (k : FloatKind) (b c : Nat) : (store a (.complex k b c) m).run P w = stored P w a (.complex k b c) m := run_store P w a _ m rfl
attribute [go_sem] stored_float stored_complex
def pkC (st ct ln : Int) (xs : List Nat) : List Value := [.int .i64 st, .int .i64 ct, .int .i64 ln] ++ flts xs
def trimTo (ln : Int) (i : Nat) (xs : List Nat) : List Nat := (xs.zipIdx).map fun p => if p.2 < i ∧ ln ≤ (p.2 : Int) then 0 else p.1
def trimL (ln : Int) (xs : List Nat) : List Nat := trimTo ln xs.length xs
theorem trimTo_length (ln : Int) (i : Nat) (xs : List Nat) : (trimTo ln i xs).length = xs.length := by simp [trimTo]
theorem trimTo_zero (ln : Int) (xs : List Nat) : trimTo ln 0 xs = xs := by
  apply List.ext_getElem
  · simp [trimTo]
  · intro k h1 h2; simp [trimTo]
theorem trimTo_succ_keep (ln : Int) (i : Nat) (xs : List Nat) (h : ¬ ln ≤ (i : Int)) : trimTo ln (i + 1) xs = trimTo ln i xs := by
  apply List.ext_getElem
  · simp [trimTo]
  · intro k h1 h2
    simp only [trimTo, List.getElem_map, List.getElem_zipIdx]
    by_cases hk : k = i
    · subst hk; simp [h]
    · have : (k < i + 1 ↔ k < i) := by omega
      simp [this]
theorem trimTo_succ_drop (ln : Int) (i : Nat) (xs : List Nat) (h : ln ≤ (i : Int)) (hi : i < xs.length) : trimTo ln (i + 1) xs = (trimTo ln i xs).set i 0 := by
  apply List.ext_getElem
  · simp [trimTo]
  · intro k h1 h2
    rw [List.getElem_set]
    simp only [trimTo, List.getElem_map, List.getElem_zipIdx]
    by_cases hk : i = k
    · subst hk; simp [h]
    · rw [if_neg hk]
      have : (0 + k < i + 1 ↔ 0 + k < i) := by omega
      simp only [this]
theorem pkC_set (st ct ln : Int) (xs : List Nat) (i : Nat) (x : Nat) : (pkC st ct ln xs).set (3 + i) (.float .f32 x) = pkC st ct ln (xs.set i x) := by
  rw [pkC, List.set_append_right _ _ (by simp)]
  simp [pkC, flts, List.map_set]
theorem pkC_length (st ct ln : Int) (xs : List Nat) : (pkC st ct ln xs).length = 3 + xs.length := by simp [pkC, flts]; omega
theorem pkC_one (st ct ln : Int) (xs : List Nat) : ∀ v ∈ pkC st ct ln xs, v.oneCell' = true := by
  intro v hv
  simp [pkC, flts] at hv
  rcases hv with rfl | rfl | rfl | ⟨x, _, rfl⟩ <;> rfl
theorem info54 : (Tryz.prog.info? 72).map (·.size) = some 11 := by kernel_rfl
def zero11 : List Value := pkC 0 0 0 [0, 0, 0, 0, 0, 0, 0, 0]
set_option maxRecDepth 100000 in
set_option maxHeartbeats 1000000 in
theorem trimmed_any (st ct ln : Int) (x0 x1 x2 x3 x4 x5 x6 x7 : Nat) (w : World) :
    Calls Tryz.prog 118 #[.agg #[.int .i64 st, .int .i64 ct, .int .i64 ln, .float .f32 x0, .float .f32 x1, .float .f32 x2, .float .f32 x3, .float .f32 x4, .float .f32 x5, .float .f32 x6, .float .f32 x7]] w
      fun e w' => e = .returned (.agg (pkC st ct ln (trimL ln [x0, x1, x2, x3, x4, x5, x6, x7])).toArray) ∧ Below w.heap.size w w' := by
  obtain ⟨xs, hxs⟩ : ∃ xs, xs = [x0, x1, x2, x3, x4, x5, x6, x7] := ⟨_, rfl⟩
  have hx8 : xs.length = 8 := by rw [hxs]; rfl
  have HX := Lib.hid hxs
  have HX8 := Lib.hid hx8
  clear hxs hx8
  go_enter Tryz.func118, Tryz.ntmps118
  go_wp2
  go_loopw [4] (fun i wr => ∃ j : Nat, j ≤ 8 ∧ i = .int .i64 j ∧ Row wr w.heap.size 72 (pkC st ct ln (trimTo ln j xs)) ∧ Row wr (w.heap.size + 1) 72 zero11 ∧ Below w.heap.size w wr) (fun i _ => 8 - (intOf i).toNat)
  case atStart =>
    have h1 := Row.new w 72 (pkC st ct ln xs)
    have h2 := Row.new (w.alloc (.cells (pkC st ct ln xs).toArray 72)) 72 zero11
    rw [World.size_alloc] at h2
    rw [HX.out] at h1 h2
    exact ⟨0, Nat.zero_le _, rfl, by rw [trimTo_zero, HX.out]; exact h1.alloc _, h2, by repeat (first | exact Below.refl _ _ | refine below_drewN ?_ _ | refine Below.drew ?_ | refine Below.alloc ?_ (by simp) _)⟩
  case round =>
    obtain ⟨j, hj, rfl, hrow, hres, hb⟩ := hrel
    by_cases hlt : j < 8
    · have hcl : wr.cell? ⟨w.heap.size, 2, none⟩ = some (.int .i64 ln) := by rw [hrow.cell]; rfl
      obtain ⟨v0, hc0⟩ : ∃ v0, wr.cell? ⟨w.heap.size, 3 + j, none⟩ = some v0 := ⟨_, hrow.cellAt (by rw [pkC_length, trimTo_length, HX8.out]; omega)⟩
      have hf0 := hrow.free (3 + j)
      have Hrow := Lib.hid hrow
      have Hres := Lib.hid hres
      have Hb := Lib.hid hb
      clear hrow hres hb
      by_cases hln : ln ≤ (j : Int)
      · have ht := Lib.hid (trimTo_succ_drop ln j xs hln (by rw [HX8.out]; exact hlt))
        go_wp2
        go_roundw
        case rel => exact ⟨j + 1, by omega, by go_num, by rw [ht.out, ← pkC_set]; exact Hrow.out.set (3 + j) _, Hres.out.far (by simp) _, Hb.out.setCell (by simp) _⟩
        case measure => simp [intOf]; omega
      · have ht := Lib.hid (trimTo_succ_keep ln j xs hln)
        go_wp2
        go_roundw
        case rel => exact ⟨j + 1, by omega, by go_num, by rw [ht.out]; exact Hrow.out, Hres.out, Hb.out⟩
        case measure => simp [intOf]; omega
    · obtain rfl : j = 8 := by omega
      obtain ⟨l, hl⟩ : ∃ l, l = pkC st ct ln (trimTo ln 8 xs) := ⟨_, rfl⟩
      have hlen : l.length = 11 := by rw [hl, pkC_length, trimTo_length, HX8.out]
      have h1 : ∀ v ∈ l, v.oneCell' = true := by rw [hl]; exact pkC_one _ _ _ _
      rw [← hl] at hrow
      have He : Hid (l = pkC st ct ln (trimL ln [x0, x1, x2, x3, x4, x5, x6, x7])) := by unfold Hid; rw [hl, trimL, ← HX.out, HX8.out]
      have Hr := Lib.hid hrow
      have Hres := Lib.hid hres
      have Hlen := Lib.hid hlen
      have H1 := Lib.hid h1
      clear hrow hl hlen hres h1
      go_wp2_with (first | (refine wpList_load_row rfl 72 _ rfl w.heap.size rfl 72 l.toArray (0, 0) _ Hr.out Tryz.underlying72 rfl ?_ ?_; (rw [info54]; simp [Hlen.out])) | (refine wpList_store_row rfl 72 _ _ rfl (w.heap.size + 1) l.toArray rfl rfl 72 _ Hres.out ?_ ?_ ?_ ?_; (rw [info54]; simp [Hlen.out]); (simp [Hlen.out, zero11, pkC, flts]); (simpa using H1.out)))
      refine bodyPost_ret (v := .agg l.toArray) (results_cell_row rfl _ _ (w.heap.size + 1) 72 l.toArray (0, 0) _ rfl (Hres.out.setRow l) Tryz.underlying72 rfl ?_) rfl ⟨by rw [He.out], Below.setRow hb (by simp) _⟩
      rw [info54]; simp [Hlen.out]
section
variable {P : Program} (w : World)
def all2 (f : Value → Value → Bool) : List Value → List Value → Bool
  | [], [] => true
  | x :: xs, y :: ys => f x y && all2 f xs ys
  | _, _ => false
theorem all2_range (f : Value → Value → Bool) : ∀ (xs ys : List Value), xs.length = ys.length → ((List.range xs.length).all fun i => f (xs.getD i undef) (ys.getD i undef)) = all2 f xs ys
  | [], [], _ => rfl
  | x :: xs, y :: ys, h => by
    rw [all2, ← all2_range f xs ys (by simpa using h), List.length_cons, List.range_succ_eq_map]
    simp
    rfl
  | [], _ :: _, h => by simp at h
  | _ :: _, [], h => by simp at h
theorem run_eqItems (d : Nat) (e : TypeId) (c : Nat) (hc : c = 1) (f : Value → Value → Bool) (xs ys : List Value) (hp : ∀ (zs : List Value) (i : Nat), i < zs.length → (part e zs.toArray (i * 1)).run P w = .ok (zs.getD i undef) w)
    (hf : ∀ i, i < xs.length → (Op.equalIn d e (xs.getD i undef) (ys.getD i undef)).run P w = .ok (f (xs.getD i undef) (ys.getD i undef)) w) (hl : xs.length = ys.length) :
    ∀ l : List Nat, (∀ i ∈ l, i < xs.length) → (Op.eqItems d e c xs.toArray ys.toArray l).run P w = .ok (l.all fun i => f (xs.getD i undef) (ys.getD i undef)) w := by
  subst hc
  intro l
  induction l with
  | nil => intro _; simp [Op.eqItems]
  | cons i l ih =>
    intro h
    have hi := h i (by simp)
    simp only [Op.eqItems, Sem.run_bind, hp xs i hi, hp ys i (hl ▸ hi), hf i hi, Result.andThen_ok, List.all_cons]
    cases f (xs.getD i undef) (ys.getD i undef)
    · simp
    · simp only [Bool.not_true, Bool.false_eq_true, if_false, Bool.true_and]
      exact ih fun j hj => h j (by simp [hj])
theorem run_eqArray (d : Nat) (t e : TypeId) (n : Nat) (i : TypeInfo) (f : Value → Value → Bool) (xs ys : List Value) (hu : P.underlying t = some (.array n e)) (hi : P.info? e = some i) (hc : P.cellsOf e = 1)
    (hp : ∀ (zs : List Value) (i : Nat), i < zs.length → (part e zs.toArray (i * 1)).run P w = .ok (zs.getD i undef) w)
    (hf : ∀ i, i < xs.length → (Op.equalIn d e (xs.getD i undef) (ys.getD i undef)).run P w = .ok (f (xs.getD i undef) (ys.getD i undef)) w) (hx : xs.length = n) (hy : ys.length = n) :
    (Op.equalIn (d + 1) t (.agg xs.toArray) (.agg ys.toArray)).run P w = .ok (all2 f xs ys) w := by
  rw [run_equalIn_array w d xs.toArray ys.toArray hu hi, run_eqItems w d e _ hc f xs ys hp hf (hx.trans hy.symm) _ (fun i hi => by rw [hx]; exact List.mem_range.1 hi), ← hx, all2_range f xs ys (hx.trans hy.symm)]
theorem run_equalIn_float (d : Nat) (t : TypeId) (k k' : FloatKind) (a b : Nat) (h : P.underlying t = some (.float k')) : (Op.equalIn (d + 1) t (.float k a) (.float k b)).run P w = .ok (k.format.order a b == some .eq) w := by
  simp [Op.equalIn, run_underlying h, Op.floatEq]
theorem run_equalIn_complex (d : Nat) (t : TypeId) (k k' : FloatKind) (a b c e : Nat) (h : P.underlying t = some (.complex k')) : (Op.equalIn (d + 1) t (.complex k a b) (.complex k c e)).run P w = .ok ((k.format.order a c == some .eq) && (k.format.order b e == some .eq)) w := by
  simp [Op.equalIn, run_underlying h, Op.floatEq]
theorem part_scalar (e : TypeId) (h : ∀ w, (isAgg e).run P w = .ok false w) (zs : List Value) (i : Nat) (hi : i < zs.length) : (part e zs.toArray (i * 1)).run P w = .ok (zs.getD i undef) w := by
  simp [part, h, hi]
end
def fEq : Value → Value → Bool
  | .float _ a, .float _ b => FloatKind.f32.format.order a b == some .eq
  | _, _ => false
theorem all2_flts : ∀ xs ys : List Nat, all2 fEq (flts xs) (flts ys) = sameF xs ys
  | [], [] => rfl
  | x :: xs, y :: ys => by
    have := all2_flts xs ys
    simp only [flts, List.map_cons, all2, sameF, fEq] at this ⊢
    rw [this]
  | [], _ :: _ => rfl
  | _ :: _, [] => rfl
theorem flts_getD (xs : List Nat) (i : Nat) (h : i < (flts xs).length) : (flts xs).getD i undef = .float .f32 (xs.getD i 0) := by
  have h2 : i < xs.length := by simpa [flts] using h
  simp [flts, h2]
theorem isAgg37 (w : World) : (isAgg 43).run Tryz.prog w = .ok false w := by kernel_rfl
theorem eqFloats (d : Nat) (t : TypeId) (n : Nat) (hu : Tryz.prog.underlying t = some (.array n 43)) (xs ys : List Nat) (hx : xs.length = n) (hy : ys.length = n) (w : World) :
    (Op.equalIn (d + 2) t (.agg (flts xs).toArray) (.agg (flts ys).toArray)).run Tryz.prog w = .ok (sameF xs ys) w := by
  obtain ⟨i, hi, _⟩ := info_parts info37
  rw [run_eqArray w (d + 1) t 43 n i fEq (flts xs) (flts ys) hu hi (by kernel_rfl) (part_scalar w _ isAgg37) ?_ (by simpa [flts] using hx) (by simpa [flts] using hy), all2_flts]
  intro j hj
  have hj2 : j < (flts ys).length := by simp [flts] at hj ⊢; omega
  rw [flts_getD xs j hj, flts_getD ys j hj2, run_equalIn_float w d _ .f32 .f32 _ _ Tryz.underlying43]
  rfl
def samePk (st ct ln : Int) (xs : List Nat) (st' ct' ln' : Int) (ys : List Nat) : Bool := st == st' && (ct == ct' && (ln == ln' && sameF xs ys))
theorem extract_pk (st ct ln : Int) (xs : List Nat) (hx : xs.length = 8) : (pkC st ct ln xs).toArray.extract 3 11 = (flts xs).toArray := by
  match xs, hx with
  | [_, _, _, _, _, _, _, _], _ => rfl
section
variable {P : Program} (w : World)
def eqTriples (d : Nat) (xs ys : Array Value) : List (String × TypeId × Nat) → Sem Bool
  | [] => pure true
  | f :: fs =>
    if f.1 ≠ "_" then do
      let a ← part f.2.1 xs f.2.2
      let b ← part f.2.1 ys f.2.2
      let r ← Op.equalIn d f.2.1 a b
      if (!r) = true then pure false else eqTriples d xs ys fs
    else eqTriples d xs ys fs
theorem eqFields_triples (d : Nat) (xs ys : Array Value) (fs : List Field) : Op.eqFields d xs ys fs = eqTriples d xs ys (fs.map fun f => (f.name, f.type, f.offset)) := by
  induction fs with
  | nil => rfl
  | cons f fs ih => simp only [Op.eqFields, eqTriples, List.map_cons, ih]
theorem run_eqStruct (d : Nat) (t : TypeId) (xs ys : Array Value) (l : List (String × TypeId × Nat)) (ht : P.underlying t = some (.struct (P.fieldsOf t))) (hp : P.stoodInHeld t = false) (hl : ((P.fieldsOf t).toList.map fun f => (f.name, f.type, f.offset)) = l) :
    (Op.equalIn (d + 1) t (.agg xs) (.agg ys)).run P w = (eqTriples d xs ys l).run P w := by
  rw [run_equalIn_struct w d t xs ys ht hp, eqFields_triples, hl]
end
theorem isAgg3 (w : World) : (isAgg 3).run Tryz.prog w = .ok false w := by kernel_rfl
theorem isAgg48 (w : World) : (isAgg 65).run Tryz.prog w = .ok true w := by kernel_rfl
theorem size48 (w : World) : (sizeOf 65).run Tryz.prog w = .ok 8 w := by kernel_rfl
theorem part_int (cs : Array Value) (i : Nat) (v : Value) (h : cs[i]? = some v) (w : World) : (part 3 cs i).run Tryz.prog w = .ok v w := by
  simp [part, isAgg3, h]
theorem part_samples (st ct ln : Int) (xs : List Nat) (hx : xs.length = 8) (w : World) : (part 65 (pkC st ct ln xs).toArray 3).run Tryz.prog w = .ok (.agg (flts xs).toArray) w := by
  have h := extract_pk st ct ln xs hx
  unfold part
  simp only [Sem.run_bind, isAgg48, Result.andThen_ok, if_true, size48, Sem.run_pure]
  rw [show 3 + 8 = 11 from rfl, h]
theorem fields54 : ((Tryz.prog.fieldsOf 72).toList.map fun f => (f.name, f.type, f.offset)) = [("Station", 3, 0), ("Counter", 3, 1), ("Length", 3, 2), ("Samples", 65, 3)] := by kernel_rfl
theorem eqPk (st ct ln : Int) (xs : List Nat) (st' ct' ln' : Int) (ys : List Nat) (hx : xs.length = 8) (hy : ys.length = 8) (w : World) :
    (eqTriples 9999 (pkC st ct ln xs).toArray (pkC st' ct' ln' ys).toArray [("Station", 3, 0), ("Counter", 3, 1), ("Length", 3, 2), ("Samples", 65, 3)]).run Tryz.prog w = .ok (samePk st ct ln xs st' ct' ln' ys) w := by
  have i3 := Tryz.underlying3
  have e1 : ∀ (st ct ln : Int) (xs : List Nat), (part 3 (pkC st ct ln xs).toArray 0).run Tryz.prog w = .ok (.int .i64 st) w := fun st ct ln xs => part_int _ _ _ (by simp [pkC]) w
  have e2 : ∀ (st ct ln : Int) (xs : List Nat), (part 3 (pkC st ct ln xs).toArray 1).run Tryz.prog w = .ok (.int .i64 ct) w := fun st ct ln xs => part_int _ _ _ (by simp [pkC]) w
  have e3 : ∀ (st ct ln : Int) (xs : List Nat), (part 3 (pkC st ct ln xs).toArray 2).run Tryz.prog w = .ok (.int .i64 ln) w := fun st ct ln xs => part_int _ _ _ (by simp [pkC]) w
  have e4 := fun (a b : Int) => run_equalIn_int (P := Tryz.prog) w 9998 3 .i64 .i64 a b i3
  have e5 := eqFloats 9997 65 8 Tryz.underlying65 xs ys hx hy w
  have n1 : ("Station" : String) ≠ "_" := by decide
  have n2 : ("Counter" : String) ≠ "_" := by decide
  have n3 : ("Length" : String) ≠ "_" := by decide
  have n4 : ("Samples" : String) ≠ "_" := by decide
  unfold samePk
  simp only [eqTriples, if_pos n1, if_pos n2, if_pos n3, if_pos n4, Sem.run_bind, e1, e2, e3, e4, part_samples _ _ _ _ hx, part_samples _ _ _ _ hy, e5, Result.andThen_ok, Sem.run_ite, Sem.run_pure]
  cases st == st' <;> cases ct == ct' <;> cases ln == ln' <;> cases sameF xs ys <;> simp [e1, e2, e3, e4, part_samples _ _ _ _ hx, part_samples _ _ _ _ hy, e5]
theorem neqPk54 (st ct ln : Int) (xs : List Nat) (st' ct' ln' : Int) (ys : List Nat) (hx : xs.length = 8) (hy : ys.length = 8) (w : World) :
    (binOp .neq 72 (.agg (pkC st ct ln xs).toArray) (.agg (pkC st' ct' ln' ys).toArray)).run Tryz.prog w = .ok (.bool (!samePk st ct ln xs st' ct' ln' ys)) w := by
  rw [run_neq_struct, run_eqStruct w 9999 _ _ _ _ (by kernel_rfl) (by kernel_rfl) fields54, eqPk _ _ _ _ _ _ _ _ hx hy]; rfl
def pkI (st ct ln : Int) (xs : List Nat) : Int := firstI [whenI (rangeB st 0 255) 3, whenI (rangeB ct 0 65535) 3, whenI (rangeB ln 0 8) 3, sampsI xs, whenI (!samePk st ct ln xs st ct ln (trimL ln xs)) 1]
theorem rd8 {w : World} {g o : Nat} {x0 x1 x2 x3 x4 x5 x6 x7 : Nat} (h0 : w.cell? ⟨g, o, none⟩ = some (.float .f32 x0)) (h1 : w.cell? ⟨g, o + 1, none⟩ = some (.float .f32 x1)) (h2 : w.cell? ⟨g, o + 2, none⟩ = some (.float .f32 x2)) (h3 : w.cell? ⟨g, o + 3, none⟩ = some (.float .f32 x3))
    (h4 : w.cell? ⟨g, o + 4, none⟩ = some (.float .f32 x4)) (h5 : w.cell? ⟨g, o + 5, none⟩ = some (.float .f32 x5)) (h6 : w.cell? ⟨g, o + 6, none⟩ = some (.float .f32 x6)) (h7 : w.cell? ⟨g, o + 7, none⟩ = some (.float .f32 x7)) : Rd w (some ⟨g, o, none⟩) (flts [x0, x1, x2, x3, x4, x5, x6, x7]) := by
  intro j v hv
  have hj : j < 8 := (List.getElem?_eq_some_iff.1 hv).1
  refine ⟨g, o, rfl, ?_⟩
  rcases (show j = 0 ∨ j = 1 ∨ j = 2 ∨ j = 3 ∨ j = 4 ∨ j = 5 ∨ j = 6 ∨ j = 7 by omega) with rfl | rfl | rfl | rfl | rfl | rfl | rfl | rfl
  all_goals (simp [flts] at hv; subst hv; assumption)
theorem keepPk {w W W' : World} {st ct ln : Int} {x0 x1 x2 x3 x4 x5 x6 x7 : Nat} (h : W.cell? ⟨w.heap.size, 0, none⟩ = some (.int .i64 st) ∧ W.cell? ⟨w.heap.size, 1, none⟩ = some (.int .i64 ct) ∧ W.cell? ⟨w.heap.size, 2, none⟩ = some (.int .i64 ln) ∧ W.cell? ⟨w.heap.size, 3, none⟩ = some (.float .f32 x0) ∧ W.cell? ⟨w.heap.size, 4, none⟩ = some (.float .f32 x1) ∧ W.cell? ⟨w.heap.size, 5, none⟩ = some (.float .f32 x2) ∧ W.cell? ⟨w.heap.size, 6, none⟩ = some (.float .f32 x3) ∧ W.cell? ⟨w.heap.size, 7, none⟩ = some (.float .f32 x4) ∧ W.cell? ⟨w.heap.size, 8, none⟩ = some (.float .f32 x5) ∧ W.cell? ⟨w.heap.size, 9, none⟩ = some (.float .f32 x6) ∧ W.cell? ⟨w.heap.size, 10, none⟩ = some (.float .f32 x7) ∧ Below w.heap.size w W ∧ w.heap.size < W.heap.size) (hb : Below W.heap.size W W') : W'.cell? ⟨w.heap.size, 0, none⟩ = some (.int .i64 st) ∧ W'.cell? ⟨w.heap.size, 1, none⟩ = some (.int .i64 ct) ∧ W'.cell? ⟨w.heap.size, 2, none⟩ = some (.int .i64 ln) ∧ W'.cell? ⟨w.heap.size, 3, none⟩ = some (.float .f32 x0) ∧ W'.cell? ⟨w.heap.size, 4, none⟩ = some (.float .f32 x1) ∧ W'.cell? ⟨w.heap.size, 5, none⟩ = some (.float .f32 x2) ∧ W'.cell? ⟨w.heap.size, 6, none⟩ = some (.float .f32 x3) ∧ W'.cell? ⟨w.heap.size, 7, none⟩ = some (.float .f32 x4) ∧ W'.cell? ⟨w.heap.size, 8, none⟩ = some (.float .f32 x5) ∧ W'.cell? ⟨w.heap.size, 9, none⟩ = some (.float .f32 x6) ∧ W'.cell? ⟨w.heap.size, 10, none⟩ = some (.float .f32 x7) ∧ Below w.heap.size w W' ∧ w.heap.size < W'.heap.size := by
  obtain ⟨c0, c1, c2, c3, c4, c5, c6, c7, c8, c9, c10, b, l⟩ := h
  have hc : ∀ o v, W.cell? ⟨w.heap.size, o, none⟩ = some v → W'.cell? ⟨w.heap.size, o, none⟩ = some v := fun o v hv => (hb.cell (p := ⟨w.heap.size, o, none⟩) l).trans hv
  exact ⟨hc _ _ c0, hc _ _ c1, hc _ _ c2, hc _ _ c3, hc _ _ c4, hc _ _ c5, hc _ _ c6, hc _ _ c7, hc _ _ c8, hc _ _ c9, hc _ _ c10, b.trans (hb.mono b.size), Nat.lt_of_lt_of_le l hb.size⟩
theorem belowPk {w W : World} {st ct ln : Int} {x0 x1 x2 x3 x4 x5 x6 x7 : Nat} (h : W.cell? ⟨w.heap.size, 0, none⟩ = some (.int .i64 st) ∧ W.cell? ⟨w.heap.size, 1, none⟩ = some (.int .i64 ct) ∧ W.cell? ⟨w.heap.size, 2, none⟩ = some (.int .i64 ln) ∧ W.cell? ⟨w.heap.size, 3, none⟩ = some (.float .f32 x0) ∧ W.cell? ⟨w.heap.size, 4, none⟩ = some (.float .f32 x1) ∧ W.cell? ⟨w.heap.size, 5, none⟩ = some (.float .f32 x2) ∧ W.cell? ⟨w.heap.size, 6, none⟩ = some (.float .f32 x3) ∧ W.cell? ⟨w.heap.size, 7, none⟩ = some (.float .f32 x4) ∧ W.cell? ⟨w.heap.size, 8, none⟩ = some (.float .f32 x5) ∧ W.cell? ⟨w.heap.size, 9, none⟩ = some (.float .f32 x6) ∧ W.cell? ⟨w.heap.size, 10, none⟩ = some (.float .f32 x7) ∧ Below w.heap.size w W ∧ w.heap.size < W.heap.size) : Below w.heap.size w W := by
  obtain ⟨c0, c1, c2, c3, c4, c5, c6, c7, c8, c9, c10, b, l⟩ := h
  exact b
theorem rdPk {w W : World} {st ct ln : Int} {x0 x1 x2 x3 x4 x5 x6 x7 : Nat} (h : W.cell? ⟨w.heap.size, 0, none⟩ = some (.int .i64 st) ∧ W.cell? ⟨w.heap.size, 1, none⟩ = some (.int .i64 ct) ∧ W.cell? ⟨w.heap.size, 2, none⟩ = some (.int .i64 ln) ∧ W.cell? ⟨w.heap.size, 3, none⟩ = some (.float .f32 x0) ∧ W.cell? ⟨w.heap.size, 4, none⟩ = some (.float .f32 x1) ∧ W.cell? ⟨w.heap.size, 5, none⟩ = some (.float .f32 x2) ∧ W.cell? ⟨w.heap.size, 6, none⟩ = some (.float .f32 x3) ∧ W.cell? ⟨w.heap.size, 7, none⟩ = some (.float .f32 x4) ∧ W.cell? ⟨w.heap.size, 8, none⟩ = some (.float .f32 x5) ∧ W.cell? ⟨w.heap.size, 9, none⟩ = some (.float .f32 x6) ∧ W.cell? ⟨w.heap.size, 10, none⟩ = some (.float .f32 x7) ∧ Below w.heap.size w W ∧ w.heap.size < W.heap.size) : Rd W (some ⟨w.heap.size, 3, none⟩) (flts [x0, x1, x2, x3, x4, x5, x6, x7]) := by
  obtain ⟨c0, c1, c2, c3, c4, c5, c6, c7, c8, c9, c10, b, l⟩ := h
  exact rd8 c3 c4 c5 c6 c7 c8 c9 c10
set_option maxRecDepth 100000 in
set_option maxHeartbeats 2000000 in
theorem checkPacket_any (st ct ln : Int) (x0 x1 x2 x3 x4 x5 x6 x7 : Nat) (w : World) :
    Calls Tryz.prog 61 #[.agg #[.int .i64 st, .int .i64 ct, .int .i64 ln, .float .f32 x0, .float .f32 x1, .float .f32 x2, .float .f32 x3, .float .f32 x4, .float .f32 x5, .float .f32 x6, .float .f32 x7]] w
      fun e w' => e = .returned (.int .i64 (pkI st ct ln [x0, x1, x2, x3, x4, x5, x6, x7])) ∧ Below w.heap.size w w' := by
  have heq := fun W => neqPk54 st ct ln [x0, x1, x2, x3, x4, x5, x6, x7] st ct ln (trimL ln [x0, x1, x2, x3, x4, x5, x6, x7]) rfl rfl W
  obtain ⟨tv, htv⟩ : ∃ tv, tv = (pkC st ct ln (trimL ln [x0, x1, x2, x3, x4, x5, x6, x7])).toArray := ⟨_, rfl⟩
  rw [← htv] at heq
  have HT := Lib.hid htv
  clear htv
  have heq2 : ∀ W, (binOp .neq 72 (.agg #[.int .i64 st, .int .i64 ct, .int .i64 ln, .float .f32 x0, .float .f32 x1, .float .f32 x2, .float .f32 x3, .float .f32 x4, .float .f32 x5, .float .f32 x6, .float .f32 x7]) (.agg tv)).run Tryz.prog W = .ok (.bool (!samePk st ct ln [x0, x1, x2, x3, x4, x5, x6, x7] st ct ln (trimL ln [x0, x1, x2, x3, x4, x5, x6, x7]))) W := heq
  clear heq
  go_enter Tryz.func61, Tryz.ntmps61
  go_wp2
  have hS0 : (fun w' : World => w'.cell? ⟨w.heap.size, 0, none⟩ = some (.int .i64 st) ∧ w'.cell? ⟨w.heap.size, 1, none⟩ = some (.int .i64 ct) ∧ w'.cell? ⟨w.heap.size, 2, none⟩ = some (.int .i64 ln) ∧ w'.cell? ⟨w.heap.size, 3, none⟩ = some (.float .f32 x0) ∧ w'.cell? ⟨w.heap.size, 4, none⟩ = some (.float .f32 x1) ∧ w'.cell? ⟨w.heap.size, 5, none⟩ = some (.float .f32 x2) ∧ w'.cell? ⟨w.heap.size, 6, none⟩ = some (.float .f32 x3) ∧ w'.cell? ⟨w.heap.size, 7, none⟩ = some (.float .f32 x4) ∧ w'.cell? ⟨w.heap.size, 8, none⟩ = some (.float .f32 x5) ∧ w'.cell? ⟨w.heap.size, 9, none⟩ = some (.float .f32 x6) ∧ w'.cell? ⟨w.heap.size, 10, none⟩ = some (.float .f32 x7) ∧ Below w.heap.size w w' ∧ w.heap.size < w'.heap.size) (w.alloc (.cells #[.int .i64 st, .int .i64 ct, .int .i64 ln, .float .f32 x0, .float .f32 x1, .float .f32 x2, .float .f32 x3, .float .f32 x4, .float .f32 x5, .float .f32 x6, .float .f32 x7] 72)) := by
    refine ⟨?_, ?_, ?_, ?_, ?_, ?_, ?_, ?_, ?_, ?_, ?_, (Below.refl _ _).alloc (Nat.le_refl _) _, by simp⟩
    all_goals simp
  go_region_held3 (fun w' => w'.cell? ⟨w.heap.size, 0, none⟩ = some (.int .i64 st) ∧ w'.cell? ⟨w.heap.size, 1, none⟩ = some (.int .i64 ct) ∧ w'.cell? ⟨w.heap.size, 2, none⟩ = some (.int .i64 ln) ∧ w'.cell? ⟨w.heap.size, 3, none⟩ = some (.float .f32 x0) ∧ w'.cell? ⟨w.heap.size, 4, none⟩ = some (.float .f32 x1) ∧ w'.cell? ⟨w.heap.size, 5, none⟩ = some (.float .f32 x2) ∧ w'.cell? ⟨w.heap.size, 6, none⟩ = some (.float .f32 x3) ∧ w'.cell? ⟨w.heap.size, 7, none⟩ = some (.float .f32 x4) ∧ w'.cell? ⟨w.heap.size, 8, none⟩ = some (.float .f32 x5) ∧ w'.cell? ⟨w.heap.size, 9, none⟩ = some (.float .f32 x6) ∧ w'.cell? ⟨w.heap.size, 10, none⟩ = some (.float .f32 x7) ∧ Below w.heap.size w w' ∧ w.heap.size < w'.heap.size) (first | assumption | exact keepPk hS0 (Below.drew (Below.refl _ _)) | exact keepPk (by assumption) (Below.drew (Below.refl _ _)) | exact keepPk (by assumption) (below_drewN (Below.refl _ _) _) | exact keepPk (by assumption) (by assumption) | exact keepPk (by assumption) ((Below.refl _ _).alloc (Nat.le_refl _) _))
    (first | (go_at_call 34; refine (between_any _ _ _ _).mono ?_; rintro e w' ⟨rfl, rfl⟩) | (go_at_call 53; refine (checkSamples_any _ _ _ [x0, x1, x2, x3, x4, x5, x6, x7] _ ?_ rfl).mono ?_; (exact rdPk (by assumption)); (rintro e w1 ⟨rfl, hb1⟩)) | (go_at_call 118; refine (trimmed_any _ _ _ _ _ _ _ _ _ _ _ _).mono ?_; (rintro e w1 ⟨rfl, hb1⟩); rw [← HT.out]) | (go_at_call 45; refine (failed_any _ _ _).mono ?_; rintro e w' ⟨rfl, rfl⟩) | (go_at_call 32; refine (firstV_any _ _ _ [whenI (rangeB st 0 255) 3, whenI (rangeB ct 0 65535) 3, whenI (rangeB ln 0 8) 3, sampsI [x0, x1, x2, x3, x4, x5, x6, x7], whenI (!samePk st ct ln [x0, x1, x2, x3, x4, x5, x6, x7] st ct ln (trimL ln [x0, x1, x2, x3, x4, x5, x6, x7])) 1] _ ?_ rfl ?_).mono ?_; (first | exact Rd.new _ _ _ _ (by simp) | exact Rd.drew (Rd.new _ _ _ _ (by simp)) | exact Rd.drewN (Rd.new _ _ _ _ (by simp)) _); (simp); rintro e w' ⟨rfl, rfl⟩))
  all_goals go_wp2
  all_goals go_ret
  all_goals exact ⟨rfl, belowPk (by assumption)⟩
theorem results_row_tmp {P : Program} {fn : Func} {p t : Tmp} {ty : TypeId} (h : fn.results = #[.cell p ty, .tmp t]) (tmps : Array Value) (w : World) (g : Nat) (e : TypeId) (cs : Array Value) (fr : Nat × Nat) (d : TypeDesc)
    (hp : tmps.getD p undef = .pointer (some ⟨g, 0, none⟩)) (hg : w.heap[g]? = some (.cells cs e fr))
    (hu : P.underlying ty = some d) (hd : (match d with | .struct _ | .array _ _ => true | _ => false) = true) (hi : (P.info? ty).map (·.size) = some cs.size) :
    (results fn tmps).run P w = .ok (.tuple #[.agg cs, tmps.getD t undef]) w := by
  have hp' : tmps[p]?.getD undef = .pointer (some ⟨g, 0, none⟩) := by simpa using hp
  simp [results, h, hp', asAddr, run_loadVar_row w g e ty cs fr d hg hu hd hi]
theorem flts_snoc (xs : List Nat) (b k : Nat) : flts (xs ++ List.replicate (k + 1) b) = flts (xs ++ List.replicate k b) ++ [.float .f32 b] := by
  rw [List.replicate_succ', ← List.append_assoc]; simp [flts]
def onB (x : Nat) : Bool := FloatKind.f32.format.order x 1056964608 == some .gt || FloatKind.f32.format.order x 1056964608 == some .eq
set_option maxHeartbeats 400000 in
theorem isOn_any (x : Nat) (w : World) : Calls Tryz.prog 56 #[.float .f32 x] w fun e w' => e = .returned (.bool (onB x)) ∧ w = w' := by
  go_enter Tryz.func56, Tryz.ntmps56
  go_wp2
  go_ret
  exact ⟨rfl, rfl⟩
def runL (on : Bool) : List Nat → Nat
  | [] => 0
  | x :: xs => if onB x = on then runL on xs + 1 else 0
def spanEndL (xs : List Nat) (i : Nat) : Nat := i + 1 + runL (onB (xs.getD i 0)) (xs.drop (i + 1))
theorem runL_drop (on : Bool) (xs : List Nat) (k : Nat) (hk : k < xs.length) : runL on (xs.drop k) = if onB xs[k] = on then runL on (xs.drop (k + 1)) + 1 else 0 := by
  rw [List.drop_eq_getElem_cons hk, runL]
theorem runL_le (on : Bool) (xs : List Nat) : runL on xs ≤ xs.length := by
  induction xs with
  | nil => simp [runL]
  | cons x xs ih => rw [runL]; split <;> simp <;> omega
theorem quiet_same2 {P : Program} {f : FuncId} {args : Array Value} {w : World} {v : Value} {a n : Nat} (h : Calls P f args (w.drewN (a + n)) fun e w' => e = .returned v ∧ w.drewN (a + n) = w') : Calls P f args (w.drewN (a + n)) fun e w'' => e = .returned v ∧ ∃ m, w'' = w.drewN (a + m) :=
  h.mono fun _ _ ⟨he, hm⟩ => ⟨he, n, hm.symm⟩
set_option maxRecDepth 100000 in
set_option maxHeartbeats 1000000 in
theorem spanEnd_any (A : Option Addr) (n c : Nat) (xs : List Nat) (i : Nat) (w : World) (hA : Rd w A (flts xs)) (hn : n = xs.length) (hi : i < xs.length) (hm : xs.length ≤ 9223372036854775806) :
    Calls Tryz.prog 55 #[.slice A n c, .int .i64 i] w fun e w' => e = .returned (.int .i64 (spanEndL xs i : Nat)) ∧ ∃ q, w' = w.drewN q := by
  subst hn
  obtain ⟨b, off, rfl, hci⟩ := Rd.flt hA hi
  have hgi := Lib.hid (show xs.getD i 0 = xs[i] by simp [hi])
  go_enter Tryz.func55, Tryz.ntmps55
  go_wp2
  go_loopw [5] (fun t wr => ∃ k : Nat, i + 1 ≤ k ∧ k ≤ xs.length ∧ t = .int .i64 k ∧ Hid (k + runL (onB xs[i]) (xs.drop k) = spanEndL xs i) ∧ ∃ q, wr = w.drewN q) (fun t _ => xs.length - (intOf t).toNat)
  case atStart => exact ⟨i + 1, Nat.le_refl _, hi, by go_num, by show _ = _; rw [spanEndL, hgi.out], 0, rfl⟩
  case round =>
    obtain ⟨k, hk1, hk, rfl, H, q, rfl⟩ := hrel
    by_cases hlt : k < xs.length
    · obtain ⟨b', off', hab, hck⟩ := Rd.flt hA hlt
      cases hab
      have hr := Lib.hid (runL_drop (onB xs[i]) xs k hlt)
      have i1 : (k : Int) < (xs.length : Int) := by omega
      have i2 : (i : Int) < (xs.length : Int) := by omega
      cases hon : (onB xs[k] == onB xs[i])
      · have Hon := Lib.hid (show onB xs[k] ≠ onB xs[i] by simpa using hon)
        go_wp2
        go_quiet ((go_at_call 56; exact quiet_same2 (isOn_any _ _)))
        go_wp2
        go_ret
        exact ⟨ret_int (by rw [← H.out, hr.out, if_neg Hon.out]; rfl), q + _, by rw [World.drewN_drewN]⟩
      · have Hon := Lib.hid (show onB xs[k] = onB xs[i] by simpa using hon)
        go_wp2
        go_quiet ((go_at_call 56; exact quiet_same2 (isOn_any _ _)))
        go_wp2
        go_roundw
        case rel => exact ⟨k + 1, by omega, by omega, by go_num, by show _ = _; rw [← H.out, hr.out, if_pos Hon.out]; omega, _, rfl⟩
        case measure => simp [intOf]; omega
    · have hd : decide ((k : Int) < (xs.length : Int)) = false := by simp; omega
      go_wp2
      go_quiet (fail)
      go_wp2
      go_ret
      exact ⟨ret_int (by rw [← H.out, List.drop_of_length_le (by omega)]; rfl), q + _, by rw [World.drewN_drewN]⟩
end Go.Proofs.YtlflfieknibgmaaGreatDoor
