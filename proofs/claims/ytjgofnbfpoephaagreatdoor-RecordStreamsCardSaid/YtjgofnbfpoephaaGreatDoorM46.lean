/- Texts that were made one by one: Bp Pq Sy Ur. -/
import Derived.Test.YtjgofnbfpoephaaGreatDoorM15
import Derived.Test.YtjgofnbfpoephaaGreatDoorM20
import Derived.Deep.LoopGhost
import Derived.Test.YtjgofnbfpoephaaGreatDoorM01
/- Contracts: two bytes of an integer by the reference; bytes compared. -/
namespace Go.Proofs.YtjgofnbfpoephaaGreatDoor
set_option linter.all false
open Go.RowKit Go.Fl
set_option linter.unusedVariables false
set_option linter.unusedSimpArgs false

theorem pairR_any (n : Int) (w : World) (hn : -65536 ≤ n ∧ n ≤ 65535) :
    Calls Tryz.prog 107 #[.int .i64 n] w fun e w' => e = .returned (.slice (some ⟨w.heap.size, 0, none⟩) 2 2) ∧ w' = w.alloc (.cells (u8s [n % 65536 / 256, n % 256]).toArray 5) := by
  have h0 : 0 ≤ n + 65536 := by omega
  have h1 : (n + 65536) % 65536 = n % 65536 := by omega
  go_enter Tryz.func107, Tryz.ntmps107
  go_wp2
  go_ret
  refine ⟨rfl, ?_⟩
  have h2 : n % 65536 / 256 % 256 = n % 65536 / 256 := by omega
  have h3 : n % 65536 % 256 % 256 = n % 256 := by omega
  have h4 : n % 65536 % 256 = n % 256 := by omega
  simp [u8s, h2, h3, h4]
end Go.Proofs.YtjgofnbfpoephaaGreatDoor

/- Contracts: the stream of samples by the reference. -/
namespace Go.Proofs.YtjgofnbfpoephaaGreatDoor
set_option linter.all false
open Go.RowKit Go.Fl
set_option linter.unusedVariables false
set_option linter.unusedSimpArgs false

/-- the k-th byte of a sample's integer -/
def bkI (k : Nat) (x : Nat) : Int := if k = 0 then hiI x else loI x
/-- what the k-th round finds -/
def preI (xs : List Nat) (k : Nat) : List Int := if k = 0 then headI xs else if k = 1 then headI xs ++ xs.map hiI else bodyI xs
theorem preI_length (xs : List Nat) (k : Nat) (hk : k ≤ 2) : (preI xs k).length = 6 + k * xs.length := by
  match k, hk with
  | 0, _ => simp [preI, headI]
  | 1, _ => simp [preI, headI]; omega
  | 2, _ => simp [preI, bodyI, headI]; omega
theorem preI_succ (xs : List Nat) (k : Nat) (hk : k < 2) : preI xs k ++ xs.map (bkI k) = preI xs (k + 1) := by
  match k, hk with
  | 0, _ => simp [preI, bkI]
  | 1, _ => simp [preI, bkI, bodyI]
theorem bk_cell (k : Nat) (hk : k < 2) (x : Nat) : [hiI x, loI x][k]? = some (bkI k x) := by
  match k, hk with
  | 0, _ => rfl
  | 1, _ => rfl
theorem take_snoc (k : Nat) (xs : List Nat) (i : Nat) (h : i < xs.length) : (xs.take (i + 1)).map (bkI k) = (xs.take i).map (bkI k) ++ [bkI k xs[i]] := by
  rw [List.take_add_one, List.getElem?_eq_getElem h, Option.toList_some, List.map_append]; rfl

set_option maxRecDepth 100000 in
set_option maxHeartbeats 4000000 in
theorem packR_ok (A : Option Addr) (n c : Nat) (xs : List Nat) (w : World) (hA : Rd w A (flts xs)) (hn : n = xs.length) (hm : xs.length ≤ 4096) (hs : ∀ x ∈ xs, sampI x = 0) :
    Calls Tryz.prog 75 #[.slice A n c] w fun e w' => ∃ v, e = .returned v ∧ w'.ownsRow w.heap.size 5 1 v (packI xs).length (u8s (packI xs)) ∧ Below w.heap.size w w' := by
  subst hn
  have Hs := Lib.hid hs
  have HA := Lib.hid hA
  obtain ⟨i5, hi0, hi1, hi2, hi3⟩ := info_parts info5
  clear hs hA
  have hq : (xs.length : Int) % 65536 / 256 = (xs.length : Int) / 256 := by omega
  have HQ := Lib.hid hq
  clear hq
  have kc := fun (W : World) (C : Array Value) (n c : Nat) => Lib.run_convert_bytes_const (P := Tryz.prog) W 59 5 C n c Tryz.underlying59 Tryz.underlying5
  go_enter Tryz.func75, Tryz.ntmps75
  go_upto_region 2 with (at_builtin; refine wpList_append_grows _ rfl _ _ 59 rfl 5 i5 (.int .u8 0) 1 1 Tryz.underlying59 hi0 hi1 hi2 hi3 rfl (by decide) (some ⟨w.heap.size, 0, none⟩) 4 4 (u8s [71, 76, 83, 49]) rfl ?c0 rfl ?c1 ⟨w.heap.size + 1, 0, none⟩ 2 2 (u8s [(xs.length : Int) / 256, (xs.length : Int) % 256]) rfl rfl ?c2 (u8s_one _) ?c3 ?c4 ?c5 ?_)
  case c0 => intro h; cases h
  case c1 =>
    intro b hb j u hu
    cases hb
    rw [add0]
    have h1 : (w.alloc (.cells (u8s [71, 76, 83, 49]).toArray 5 (4, 5))).cell? ⟨w.heap.size, j, none⟩ = some u := by rw [cell_of_row _ _ _ _ _ _ (heap_alloc_new w _)]; simpa using hu
    exact keepC h1 ((Below.refl _ _).alloc (Nat.le_refl _) _)
  case c2 =>
    intro j u hu
    rw [add0]
    have h1 := (Row.new (w.alloc (.cells (u8s [71, 76, 83, 49]).toArray 5 (4, 5))) 5 (u8s [(xs.length : Int) / 256, (xs.length : Int) % 256])).cell j
    rw [hu, World.size_alloc] at h1
    exact h1
  case c3 => decide
  case c4 => unfold maxLen; decide
  case c5 => decide
  intro v2 w2 ho2 hg2
  have HB2 : Hid (Below w.heap.size w w2) := by
    have h := (((Below.refl w.heap.size w).alloc (Nat.le_refl _) (.cells (u8s [71, 76, 83, 49]).toArray 5 (4, 5))).alloc (by simp) (.cells (u8s [(xs.length : Int) / 256, (xs.length : Int) % 256]).toArray 5))
    exact h.grown hg2 (by simp; omega) (fun k hk => by cases hk)
  have HO2 : Hid (w2.ownsRow w.heap.size 5 1 v2 6 (u8s (headI xs))) := by
    have h := owns_mono ho2 (B' := w.heap.size) (by omega)
    unfold headI
    rw [HQ.out]
    exact h
  clear ho2 hg2 kc HQ
  go_wp2
  go_loopg [3, 4] 2 (fun g u i wr => ∃ k : Nat, k ≤ 2 ∧ i = .int .i64 k ∧ g = 2 - k ∧ Hid (wr.ownsRow w.heap.size 5 1 u (6 + k * xs.length) (u8s (preI xs k))) ∧ Hid (Below w.heap.size w wr))
  case atStart => exact ⟨0, by omega, rfl, rfl, by simpa [preI] using HO2, HB2⟩
  case round =>
    clear HO2 HB2
    obtain ⟨k, hk, rfl, hgk, HOk, HBk⟩ := hrel
    by_cases hlt : k < 2
    · have hdk : decide ((k : Int) < 2) = true := decide_eq_true (by omega)
      go_wp2
      go_loopg [3, 5] xs.length (fun g u i wr' => ∃ j : Nat, j ≤ xs.length ∧ i = .int .i64 j ∧ g = xs.length - j ∧ Hid (wr'.ownsRow w.heap.size 5 1 u (6 + k * xs.length + j) (u8s (preI xs k ++ (xs.take j).map (bkI k)))) ∧ Hid (Below w.heap.size w wr'))
      case atStart => exact ⟨0, by omega, rfl, rfl, by simpa using HOk, HBk⟩
      case round =>
        clear HOk HBk
        obtain ⟨j, hj, rfl, hgj, HOj, HBj⟩ := hrel
        by_cases hltj : j < xs.length
        · obtain ⟨b, off, rfl, hc⟩ := (HA.out.below HBj.out).flt hltj
          have hsx : sampI xs[j] = 0 := Hs.out _ (List.getElem_mem _)
          have hsn := Lib.hid (take_snoc k xs j hltj)
          obtain ⟨x, hx⟩ : ∃ x, xs[j] = x := ⟨_, rfl⟩
          rw [hx] at hc hsx hsn
          have hbd : -65536 ≤ unitI x ∧ unitI x ≤ 65535 := by have := unitI_bd2 hsx; omega
          go_wp2_with fail
          refine (sixteenths_ok x _ hsx).mono ?_
          rintro e w' ⟨rfl, rfl⟩
          go_wp2_with fail
          refine (pairR_any _ _ hbd).mono ?_
          rintro e w' ⟨rfl, rfl⟩
          have hck : (wr.alloc (.cells (u8s [unitI x % 65536 / 256, unitI x % 256]).toArray 5)).cell? ⟨wr.heap.size, k, none⟩ = some (.int .u8 (bkI k x)) := by
            rw [(Row.new wr 5 (u8s [unitI x % 65536 / 256, unitI x % 256])).cell k]
            simp only [u8s, List.getElem?_map]
            rw [show ([unitI x % 65536 / 256, unitI x % 256] : List Int)[k]? = some (bkI k x) from bk_cell k hlt x]; rfl
          go_wp2_with (at_builtin; refine wpList_app rfl _ _ 59 rfl w.heap.size 5 (.int .u8 0) 1 1 Tryz.underlying59 info5 rfl (by decide) _ (6 + k * xs.length + j) (u8s (preI xs k ++ (xs.take j).map (bkI k))) rfl ((HOj.out.alloc _).alloc _) (some ⟨wr.heap.size + 1, 0, none⟩) 1 1 [.int .u8 (bkI k x)] rfl (fun h => by cases h) ?c0 rfl (by simp [Value.oneCell']) ?d2 ?d3 ?d4 ?_)
          case c0 =>
            have h1 := Rd.row (Row.new (wr.alloc (.cells (u8s [unitI x % 65536 / 256, unitI x % 256]).toArray 5)) 5 [.int .u8 (bkI k x)])
            rw [World.size_alloc] at h1
            exact h1
          case d2 => unfold maxLen; have : k * xs.length ≤ 2 * 4096 := Nat.mul_le_mul (by omega) hm; omega
          case d3 => have : k * xs.length ≤ 2 * 4096 := Nat.mul_le_mul (by omega) hm; omega
          case d4 => have := HBj.out.size; simp; omega
          intro v1 w1 hown1 hg1
          have HB1 : Hid (Below w.heap.size w w1) := ((HBj.out.alloc HBj.out.size (.cells (u8s [unitI x % 65536 / 256, unitI x % 256]).toArray 5)).alloc (by have := HBj.out.size; simp; omega) (.cells #[.int .u8 (bkI k x)] 5)).grown hg1 (by have := HBj.out.size; simp; omega) (fun q hq => (HOj.out.lt q hq).1)
          try rw [← List.map_take] at hown1
          have HO1 : Hid (w1.ownsRow w.heap.size 5 1 v1 (6 + k * xs.length + (j + 1)) (u8s (preI xs k ++ (xs.take (j + 1)).map (bkI k)))) := by
            unfold Hid
            rw [hsn.out, ← List.append_assoc, u8s_app, show 6 + k * xs.length + (j + 1) = 6 + k * xs.length + j + 1 by omega]
            exact hown1
          clear hown1 hg1 HOj HBj
          go_wp2
          go_roundg (xs.length - (j + 1))
          case measure => omega
          case rel => exact ⟨j + 1, by omega, by go_num, rfl, HO1, HB1⟩
        · obtain rfl : j = xs.length := by omega
          have HO1 : Hid (wr.ownsRow w.heap.size 5 1 u3 (6 + (k + 1) * xs.length) (u8s (preI xs (k + 1)))) := by
            have h := HOj.out
            rw [List.take_length, preI_succ xs k hlt] at h
            rw [show 6 + (k + 1) * xs.length = 6 + k * xs.length + xs.length by rw [Nat.add_mul]; omega]
            exact h
          clear HOj
          go_wp2
          go_roundg (2 - (k + 1))
          case measure => omega
          case rel => exact ⟨k + 1, by omega, by go_num, rfl, HO1, HBj⟩
    · obtain rfl : k = 2 := by omega
      have HO6 : Hid (wr.ownsRow w.heap.size 5 1 u3 (6 + xs.length + xs.length) (u8s (bodyI xs))) := by
        have h := HOk.out
        rw [show 6 + 2 * xs.length = 6 + xs.length + xs.length by omega] at h
        exact h
      clear HOk
      obtain ⟨g6, c6, hv6, hg6, hl6⟩ := ownsRow.addr HO6.out (by omega)
      subst hv6
      have hlen : (bodyI xs).length = 6 + xs.length + xs.length := by simp [bodyI, headI]; omega
      have Hlen : Hid (6 + xs.length + xs.length = (toB (bodyI xs)).length) := by unfold Hid; rw [toB_length, hlen]
      have HR6 : Hid (Rd wr (some ⟨g6, 0, none⟩) (byts (toB (bodyI xs)))) := by unfold Hid; rw [byts_toB (bodyI_byte xs)]; exact Rd.owned HO6.out rfl
      obtain ⟨sl, hsl⟩ : ∃ sl, sl = sealL [0, 0, 0, 0, 0, 0, 0, 0] (toB (bodyI xs)) := ⟨_, rfl⟩
      have hsl8 : sl.length = 8 := by rw [hsl, seal8]; rfl
      obtain ⟨s0, s1, s2, s3, s4, s5, s6, s7, hs8⟩ : ∃ s0 s1 s2 s3 s4 s5 s6 s7, sl = [s0, s1, s2, s3, s4, s5, s6, s7] := by
        match sl, hsl8 with
        | [a, b, c, d, e, f, g, h], _ => exact ⟨a, b, c, d, e, f, g, h, rfl⟩
      have HP : Hid (packI xs = bodyI xs ++ [s0, s1, s2, s3, s4, s5, s6, s7]) := by unfold Hid packI zero8; rw [← hsl, hs8]
      have HSC : Hid (Calls Tryz.prog 36 #[.agg #[.int .u8 0, .int .u8 0, .int .u8 0, .int .u8 0, .int .u8 0, .int .u8 0, .int .u8 0, .int .u8 0], .slice (some ⟨g6, 0, none⟩) (6 + xs.length + xs.length) c6] wr fun e w' => e = .returned (.agg #[.int .u8 s0, .int .u8 s1, .int .u8 s2, .int .u8 s3, .int .u8 s4, .int .u8 s5, .int .u8 s6, .int .u8 s7]) ∧ Below wr.heap.size wr w') :=
        (sealR_any 0 0 0 0 0 0 0 0 (some ⟨g6, 0, none⟩) (6 + xs.length + xs.length) c6 (toB (bodyI xs)) wr HR6.out Hlen.out (by rw [← Hlen.out]; omega) zero8_byte).mono fun e w' h => ⟨by rw [h.1, ← hsl, hs8]; rfl, h.2⟩
      clear hs8 hsl8 hsl hlen
      go_wp2_with (go_at_call 36; refine HSC.out.mono ?_; rintro e w7 ⟨rfl, hb7⟩; have HO7 := Lib.hid (owns_below HO6.out hb7); have HB7 := Lib.hid (HBk.out.trans (hb7.mono HBk.out.size)); clear hb7; go_wp2_with (at_builtin; refine wpList_app rfl _ _ 59 rfl w.heap.size 5 (.int .u8 0) 1 1 Tryz.underlying59 info5 rfl (by decide) _ (6 + xs.length + xs.length) (u8s (bodyI xs)) rfl (HO7.out.alloc _) (some ⟨w7.heap.size, 0, none⟩) 8 8 (u8s [s0, s1, s2, s3, s4, s5, s6, s7]) rfl (fun h => by cases h) (Rd.row (Row.new w7 47 _)) (by simp [u8s]) (u8s_one _) ?d2 ?d3 ?d4 ?_))
      case d2 => unfold maxLen; omega
      case d3 => omega
      case d4 => have := HB7.out.size; simp; omega
      intro v8 w8 ho8 hg8
      have HB8 : Hid (Below w.heap.size w w8) := Below.app HB7.out HB7.out.size HO7.out hg8
      have HO8 : Hid (w8.ownsRow w.heap.size 5 1 v8 (packI xs).length (u8s (packI xs))) := by
        unfold Hid; rw [HP.out, u8s_app]
        have e : (bodyI xs ++ [s0, s1, s2, s3, s4, s5, s6, s7]).length = 6 + xs.length + xs.length + 8 := by simp [bodyI, headI]; omega
        rw [e]; exact ho8
      clear ho8 hg8
      go_wp2
      go_ret
      exact ⟨_, rfl, HO8.out, HB8.out⟩
end Go.Proofs.YtjgofnbfpoephaaGreatDoor

/- Contracts: streams: samples that are refused; equal bytes. -/
namespace Go.Proofs.YtjgofnbfpoephaaGreatDoor
set_option linter.all false
open Go.RowKit Go.Fl
set_option linter.unusedVariables false
set_option linter.unusedSimpArgs false

theorem firstI_allz {zs : List Int} (h : firstI zs = 0) : ∀ z ∈ zs, z = 0 := by
  induction zs with
  | nil => intro z hz; cases hz
  | cons a l ih =>
    unfold firstI at h
    by_cases ha : a = 0
    · subst ha
      simp at h
      intro z hz
      rcases List.mem_cons.1 hz with rfl | hz
      · rfl
      · exact ih h z hz
    · simp [ha] at h
theorem samps_zero {xs : List Nat} (h : sampsI xs = 0) : xs.length ≤ 4096 ∧ ∀ x ∈ xs, sampI x = 0 := by
  unfold sampsI at h
  split at h
  · simp at h
  · exact ⟨by omega, fun x hx => firstI_allz h _ (List.mem_map_of_mem hx)⟩

theorem pack_bad (A : Option Addr) (n c : Nat) (xs : List Nat) (w : World) (hA : Rd w A (flts xs)) (hn : n = xs.length) (h : sampsI xs ≠ 0) :
    Calls Tryz.prog 73 #[.slice A n c] w fun e w' => e = .returned (.tuple #[.slice none 0 0, .int .i64 (sampsI xs)]) ∧ Below w.heap.size w w' := by
  subst hn
  have HC : Hid (Calls Tryz.prog 26 #[.slice A xs.length c] w fun e w' => e = .returned (.int .i64 (sampsI xs)) ∧ Below w.heap.size w w') := checkSamples_any A _ c xs w hA rfl
  obtain ⟨E, hE⟩ : ∃ E, sampsI xs = E := ⟨_, rfl⟩
  rw [hE] at HC h ⊢
  have hz : (E != 0) = true := by simpa using h
  clear hE h hA
  go_enter Tryz.func73, Tryz.ntmps73
  go_wp2_with fail
  refine HC.out.mono ?_
  rintro e w1 ⟨rfl, hb1⟩
  have HB1 := Lib.hid hb1
  clear hb1
  go_wp2
  go_ret2
  exact ⟨rfl, HB1.out⟩

/-- bytes as a string, wherever they lie -/
theorem conv_any (A : Option Addr) (n c : Nat) (bs : List UInt8) (w : World) (hA : Rd w A (byts bs)) (hn : n = bs.length) (hs : ∀ a, A = some a → a.spot = none) :
    ∃ S, S.data.toList = bs ∧ (convert 59 9 (.slice A n c)).run Tryz.prog w = .ok (.string S) w := by
  subst hn
  cases A with
  | none =>
    have hb : bs = [] := by
      cases bs with
      | nil => rfl
      | cons b l => obtain ⟨x, y, h, _⟩ := hA 0 _ rfl; cases h
    subst hb
    exact ⟨ByteArray.empty, rfl, run_convert_bytes_nil w 59 5 Tryz.underlying59 Tryz.underlying5 _ _ 9 Tryz.underlying9⟩
  | some a =>
    obtain ⟨b, off, sp⟩ := a
    have hsp : sp = none := hs _ rfl
    subst hsp
    refine ⟨strOfNums (natsI bs), ?_, run_convert_bytes_arg w 59 5 Tryz.underlying59 Tryz.underlying5 b off bs.length c (natsI bs) (by simp [natsI]) (fun i hi => ?_) 9 Tryz.underlying9⟩
    · rw [strOfNums_data]; simp only [natsI, List.map_map]; rw [List.map_congr_left (g := id) (fun b _ => by simp), List.map_id]
    · obtain ⟨b', off', hb', h⟩ := hA.byteAt (j := i) hi
      cases hb'
      rw [h]
      simp only [byteAt, natsI, List.getD, List.getElem?_map]
      rw [List.getElem?_eq_getElem hi]; rfl
theorem sameBytes_true (A B : Option Addr) (n m c d : Nat) (bs : List UInt8) (w : World) (hA : Rd w A (byts bs)) (hB : Rd w B (byts bs)) (hn : n = bs.length) (hm : m = bs.length) (hs : ∀ a, A = some a → a.spot = none) (ht : ∀ a, B = some a → a.spot = none) :
    Calls Tryz.prog 77 #[.slice A n c, .slice B m d] w fun e w' => e = .returned (.bool true) ∧ Below w.heap.size w w' := by
  obtain ⟨S, hS, h1⟩ := conv_any A n c bs w hA hn hs
  obtain ⟨T, hT, h2⟩ := conv_any B m d bs w hB hm ht
  clear hs ht hn hm
  have hST : (S.toList == T.toList) = true := by rw [ByteArray.toList_eq, ByteArray.toList_eq, hS, hT]; exact beq_self_eq_true _
  clear hS hT hA hB
  go_enter Tryz.func77, Tryz.ntmps77
  go_wp2
  go_ret
  exact ⟨rfl, Below.refl _ _⟩
end Go.Proofs.YtjgofnbfpoephaaGreatDoor

/- Contracts: a stream read by the reference. -/
namespace Go.Proofs.YtjgofnbfpoephaaGreatDoor
set_option linter.all false
open Go.RowKit Go.Fl
set_option linter.unusedVariables false
set_option linter.unusedSimpArgs false

theorem sampI_fb {n : Int} (hn : n.natAbs < 2 ^ 20) : sampI (fb n) = whenI (rangeB n (-16384) 16384) 3 := by
  have hV := V32_of (fb_spec hn).2
  rw [sampI_eq, partI, hV, if_neg (by simp), stepB, hV]
  simp only [cutI_mul, decide_true, Bool.and_true]
  have hp : (n * ((2 ^ 145 : Nat) : Int)).natAbs = n.natAbs * 2 ^ 145 := by rw [Int.natAbs_mul]; rfl
  rw [hp]
  have h0 : 0 < 2 ^ 145 := by decide
  by_cases h : n.natAbs ≤ 16384
  · have h1 : n.natAbs * 2 ^ 145 ≤ 16384 * 2 ^ 145 := Nat.mul_le_mul_right _ h
    have h2 : rangeB n (-16384) 16384 = false := by simp [rangeB]; omega
    rw [decide_eq_true h1, h2]; rfl
  · have h1 : ¬ n.natAbs * 2 ^ 145 ≤ 16384 * 2 ^ 145 := fun hc => h (Nat.le_of_mul_le_mul_right hc h0)
    have h2 : rangeB n (-16384) 16384 = true := by simp [rangeB]; omega
    rw [decide_eq_false h1, h2]; rfl

theorem checkUnit_any (n : Int) (w : World) : Calls Tryz.prog 111 #[.int .i64 n] w fun e w' => e = .returned (.int .i64 (whenI (rangeB n (-16384) 16384) 3)) ∧ w = w' := by
  go_enter Tryz.func111, Tryz.ntmps111
  go_wp2_with (go_at_call 48; refine (checkRange_any _ _ _ _).mono ?_; rintro e w' ⟨rfl, rfl⟩)
  go_ret
  exact ⟨rfl, rfl⟩

theorem seal_cmp (sl : List Int) (hb : ∀ x ∈ sl, isByte x) (ds : List UInt8) (T U : ByteArray) (hT : T.data.toList = sl.map fun n => UInt8.ofNat n.toNat) (hU : U.data.toList = ds) : (T.toList != U.toList) = !(natsI ds == sl) := by
  rw [ByteArray.toList_eq, ByteArray.toList_eq, hT, hU]
  have h1 : (sl.map fun n => UInt8.ofNat n.toNat) = ds ↔ natsI ds = sl := by
    constructor
    · intro h
      rw [← h]
      simp only [natsI, List.map_map]
      rw [List.map_congr_left (g := id) (fun x hx => ?_), List.map_id]
      have := hb x hx
      unfold isByte at this
      simp only [Function.comp_apply, id]
      rw [UInt8.toNat_ofNat']
      omega
    · intro h
      rw [← h]
      simp only [natsI, List.map_map]
      rw [List.map_congr_left (g := id) (fun x _ => by simp), List.map_id]
  by_cases h : natsI ds = sl
  · rw [h1.2 h, h]; simp
  · have h2 : (sl.map fun n => UInt8.ofNat n.toNat) ≠ ds := fun k => h (h1.1 k)
    rw [show (natsI ds == sl) = false by simpa using h, bne, show ((sl.map fun n => UInt8.ofNat n.toNat) == ds) = false by simpa using h2]
theorem firstI_at : ∀ (zs : List Int) (k : Nat) (hk : k < zs.length), (∀ z ∈ zs.take k, z = 0) → zs[k] ≠ 0 → firstI zs = zs[k]
  | [], k, hk, _, _ => by simp at hk
  | z :: zs, 0, hk, _, h => by
    simp only [List.getElem_cons_zero] at h ⊢
    rw [firstI, if_neg h]
  | z :: zs, k + 1, hk, h0, h => by
    have hz : z = 0 := h0 z (by simp)
    simp only [List.getElem_cons_succ] at h ⊢
    rw [firstI, if_pos hz]
    exact firstI_at zs k (by simpa using hk) (fun y hy => h0 y (by simp [hy])) h
theorem conv_nums (g off n c : Nat) (xs : List Int) (w : World) (h : Rd w (some ⟨g, off, none⟩) (u8s xs)) (hn : n = xs.length) : (convert 59 9 (.slice (some ⟨g, off, none⟩) n c)).run Tryz.prog w = .ok (.string (strOfNums xs)) w := by
  subst hn
  refine run_convert_bytes_arg w 59 5 Tryz.underlying59 Tryz.underlying5 g off xs.length c xs rfl (fun i hi => ?_) 9 Tryz.underlying9
  obtain ⟨b', off', hb', h2⟩ := h i (.int .u8 xs[i]) (by simp [u8s, hi])
  cases hb'
  rw [h2]; simp [List.getD, hi]
theorem genBw {p : World → Prop} {w0 w : World} (hb : Below w0.heap.size w0 w) (h : ∀ W, Below w0.heap.size w0 W → p W) : p w := h w hb
theorem genOw {p : World → Prop} {w0 w : World} {B : Nat} {e : TypeId} {s n : Nat} {v : Value} {xs : List Value} (ho : w.ownsRow B e s v n xs) (hb : Below w0.heap.size w0 w) (h : ∀ W, W.ownsRow B e s v n xs → Below w0.heap.size w0 W → p W) : p w := h w ho hb
theorem firstI_zeros : ∀ {zs : List Int}, (∀ z ∈ zs, z = 0) → firstI zs = 0
  | [], _ => rfl
  | z :: zs, h => by rw [firstI, if_pos (h z (by simp))]; exact firstI_zeros (fun y hy => h y (by simp [hy]))
/-- what the reference returns for a stream -/
def UnpP (bs : List UInt8) (w : World) (e : Ending) (w' : World) : Prop :=
  ∃ v, e = .returned (.tuple #[v, .int .i64 (unpE bs)]) ∧ (unpE bs = 0 → w'.ownsRow w.heap.size 37 1 v (unpN bs) (flts (upX bs (unpN bs)))) ∧ (unpE bs ≠ 0 → v = .slice none 0 0) ∧ Below w.heap.size w w'
theorem unpP_bad {bs : List UInt8} {w w' : World} {k : Int} (hk : strE bs = k) (h0 : k ≠ 0) (hb : Below w.heap.size w w') : UnpP bs w (.returned (.tuple #[.slice none 0 0, .int .i64 k])) w' := by
  have hE : unpE bs = k := by unfold unpE; rw [if_pos (by rw [hk]; exact h0), hk]
  exact ⟨.slice none 0 0, by rw [hE], fun h => absurd (hE.symm.trans h) h0, fun _ => rfl, hb⟩

set_option maxRecDepth 100000 in
set_option maxHeartbeats 2000000 in
theorem unpackR_any (A : Option Addr) (n c : Nat) (bs : List UInt8) (w : World) (hA : Rd w A (byts bs)) (hn : n = bs.length) (hc : n ≤ c) (hm : bs.length ≤ 9223372036854775807) :
    Calls Tryz.prog 76 #[.slice A n c] w (UnpP bs w) := by
  subst hn
  by_cases h1 : 400000 < bs.length
  · have HE : Hid (strE bs = 26) := by unfold Hid strE; rw [if_pos h1]
    go_enter Tryz.func76, Tryz.ntmps76
    go_wp2
    go_ret2
    exact unpP_bad HE.out (by decide) (Below.refl _ _)
  by_cases h2 : bs.length < 14
  · have HE : Hid (strE bs = 28) := by unfold Hid strE; rw [if_neg h1, if_pos h2]
    go_enter Tryz.func76, Tryz.ntmps76
    go_wp2
    go_ret2
    exact unpP_bad HE.out (by decide) (Below.refl _ _)
  obtain ⟨b, off, rfl, c4⟩ := hA.byteAt (j := 4) (by omega)
  obtain ⟨b', off', hb', c5⟩ := hA.byteAt (j := 5) (by omega)
  cases hb'
  have hsl := fun W => slice_to (P := Tryz.prog) 59 (by kernel_rfl) 1 (fun _ => by kernel_rfl) (some ⟨b, off, none⟩) bs.length c (4 : Int) (by decide) (by omega) W
  obtain ⟨S, hS, hcv⟩ := conv_any (some ⟨b, off, none⟩) 4 c (bs.take 4) w (by have h := hA.take 4; simpa [byts] using h) (by simp; omega) (fun a h => by cases h; rfl)
  have hneq : (S.toList == (ByteArray.mk #[71, 76, 83, 49]).toList) = decide (bs.take 4 = [71, 76, 83, 49]) := by
    rw [ByteArray.toList_eq, ByteArray.toList_eq, hS]
    by_cases h : bs.take 4 = [71, 76, 83, 49] <;> simp [h]
  have hsl : ∀ W, (Instr.slice 59 (.slice (some ⟨b, off, none⟩) bs.length c) none (some (.int .i64 4)) none).run Tryz.prog W = .ok (.slice (some ⟨b, off, none⟩) 4 c) W := hsl
  have HA := Lib.hid hA
  have HNQ := Lib.hid hneq
  have HSL := Lib.hid hsl; have HCV := Lib.hid hcv
  clear hA hS hneq hsl hcv
  have hsl := HSL.out; have hcv := HCV.out
  by_cases h3 : bs.take 4 = [71, 76, 83, 49]
  · have hd : decide (bs.take 4 = [71, 76, 83, 49]) = true := by simpa using h3
    have hst : (S.toList == [71, 76, 83, 49]) = true := by have h := HNQ.out; rw [hd] at h; simpa using h
    have hN := strN_bd bs
    have d4 := byteAt_bd bs 4
    have d5 := byteAt_bd bs 5
    have HN : Hid (strN bs = wholeI (byteAt bs 4) (byteAt bs 5)) := rfl
    obtain ⟨x, hx⟩ : ∃ x, x = byteAt bs 4 := ⟨_, rfl⟩
    obtain ⟨y, hy⟩ : ∃ y, y = byteAt bs 5 := ⟨_, rfl⟩
    rw [← hx] at c4 d4 HN; rw [← hy] at c5 d5 HN
    obtain ⟨N, hNN⟩ : ∃ N, N = strN bs := ⟨_, rfl⟩
    rw [← hNN] at hN
    have HW : Hid (∀ W, Calls Tryz.prog 109 #[.int .u8 x, .int .u8 y] W fun e w' => e = .returned (.int .i64 N) ∧ W = w') := fun W => by rw [hNN, HN.out]; exact word_any x y W d4 d5
    have HE0 : Hid (strE bs = if (bs.length : Int) ≠ 14 + 2 * N then 2 else if !sealedB zero8 bs then 27 else 0) := by
      unfold Hid strE; rw [if_neg h1, if_neg h2, if_neg (by simpa using h3), hNN]
    have HNN := Lib.hid hNN
    have j4 : (4 : Int) < (bs.length : Int) := by omega
    have j5 : (5 : Int) < (bs.length : Int) := by omega
    clear h3 hd hNN hx hy d4 d5 HN
    by_cases h4 : (bs.length : Int) = 14 + 2 * N
    · obtain ⟨m, rfl⟩ := Int.eq_ofNat_of_zero_le hN.1
      obtain ⟨q, hq⟩ : ∃ q, bs.length = q + 8 := ⟨bs.length - 8, by omega⟩
      have hqm : q = 6 + 2 * m := by omega
      have Hqm := Lib.hid hqm
      have hEs : strE bs = if !sealedB zero8 bs then 27 else 0 := by rw [HE0.out, if_neg (by simpa using h4)]
      have hst2 := fun W => slice_to (P := Tryz.prog) 59 (by kernel_rfl) 1 (fun _ => by kernel_rfl) (some ⟨b, off, none⟩) bs.length c (q : Int) (by omega) (by omega) W
      have hsf2 := fun W => slice_from (P := Tryz.prog) 59 (by kernel_rfl) (fun _ => by kernel_rfl) b off bs.length c (q : Int) (by omega) (by omega) hc W
      have hRq : Rd w (some ⟨b, off, none⟩) (byts (bs.take q)) := by have h := HA.out.take q; simpa [byts] using h
      have hRd : Rd w (some ⟨b, off + q, none⟩) (byts (bs.drop q)) := by have h := HA.out.drop q; simpa [byts] using h
      have hsB : sealedB zero8 bs = (natsI (bs.drop q) == sealL zero8 (bs.take q)) := by unfold sealedB; rw [show bs.length - 8 = q by omega]
      obtain ⟨sl, hsl0⟩ : ∃ sl, sl = sealL [0, 0, 0, 0, 0, 0, 0, 0] (bs.take q) := ⟨_, rfl⟩
      have hsl8 : sl.length = 8 := by rw [hsl0, seal8]; rfl
      have hslb : ∀ z ∈ sl, isByte z := by rw [hsl0]; exact sealL_byte _ _ (fun z hz => by simp at hz; subst hz; unfold isByte; omega)
      obtain ⟨s0, s1, s2, s3, s4, s5, s6, s7, hsl9⟩ : ∃ s0 s1 s2 s3 s4 s5 s6 s7, sl = [s0, s1, s2, s3, s4, s5, s6, s7] := by
        match sl, hsl8 with
        | [a, b, c, d, e, f, g, h], _ => exact ⟨a, b, c, d, e, f, g, h, rfl⟩
      have HSC : Hid (∀ W, Below w.heap.size w W → Calls Tryz.prog 36 #[.agg #[.int .u8 0, .int .u8 0, .int .u8 0, .int .u8 0, .int .u8 0, .int .u8 0, .int .u8 0, .int .u8 0], .slice (some ⟨b, off, none⟩) q c] W fun e w' => e = .returned (.agg #[.int .u8 s0, .int .u8 s1, .int .u8 s2, .int .u8 s3, .int .u8 s4, .int .u8 s5, .int .u8 s6, .int .u8 s7]) ∧ Below W.heap.size W w') := fun W hW =>
        (sealR_any 0 0 0 0 0 0 0 0 (some ⟨b, off, none⟩) q c (bs.take q) W (hRq.below hW) (by simp; omega) (by simp; omega) zero8_byte).mono fun e w' h => ⟨by rw [h.1, ← hsl0, hsl9]; rfl, h.2⟩
      have hsB2 : sealedB zero8 bs = (natsI (bs.drop q) == sl) := by rw [hsB, hsl0]; rfl
      rw [hsl9] at hsB2 hslb
      have HSB := Lib.hid hsB2; have HSLB := Lib.hid hslb; have HRD := Lib.hid hRd; have HES := Lib.hid hEs
      obtain ⟨L, hL⟩ : ∃ L, L = bs.length := ⟨_, rfl⟩
      have HLb := Lib.hid hL
      have HRA := Lib.hid (HA.out)
      rw [← hL] at hst2 hsf2 hc hq hsl hm j4 j5 h4 h1 h2 ⊢
      clear hRq hsB hsl0 hsl8 hsl9 hslb hEs hRd hL hsB2 HSL hqm HE0
      subst hq
      have e1 : q + 8 - (q : Int).toNat = 8 := by omega
      have e2 : (q : Int).toNat = q := by omega
      simp only [e1, e2] at hst2 hsf2
      clear e1 e2
      have h6 : ((q : Int) + 8 != 14 + 2 * (m : Int)) = false := by rw [bne_eq_false_iff_eq]; have := Hqm.out; omega
      have k1 : ¬ ((400000 : Int) < (q : Int) + 8) := by omega
      have k2 : ¬ ((q : Int) + 8 < 14) := by omega
      have k4 : (4 : Int) < (q : Int) + 8 := by omega
      have k5 : (5 : Int) < (q : Int) + 8 := by omega
      have k7 : (q : Int) ≤ 399992 := by omega
      have k8 : IntKind.i64.wrap ((q : Int) + 8 - 8) = q := by rw [show (q : Int) + 8 - 8 = q by omega]; exact IntWalk.i64_in _ (by omega)
      have Hm := Lib.hid hm
      have HN1 := Lib.hid hN
      clear h4 h1 h2 j4 j5 hm hN hc
      go_enter Tryz.func76, Tryz.ntmps76
      go_wp2
      go_quiet ((go_at_call 109; (first | exact quiet_same (HW.out _) | exact quiet_same2 (HW.out _))))
      have hq8 : ((q + 8 : Nat) : Int) = (q : Int) + 8 := by omega
      have hmm : IntKind.i64.wrap (2 * (m : Int)) = 2 * (m : Int) := IntWalk.i64_in _ (by have := HN1.out; omega)
      have hmn : IntKind.i64.wrap (14 + 2 * (m : Int)) = 14 + 2 * (m : Int) := IntWalk.i64_in _ (by have := HN1.out; omega)
      have HT2 := Lib.hid hst2; have HF2 := Lib.hid hsf2
      clear hst2 hsf2
      go_upto_region 10 with fail
      clear hcv hst c4 c5 h6 hsl hmm hmn
      go_upto_region 11 with fail
      have hst2 := HT2.out
      go_wp2_with fail
      refine (HSC.out _ (below_drewN (Below.refl _ _) _)).mono ?_
      rintro e w1 ⟨rfl, hb1⟩
      have HB1 : Hid (Below w.heap.size w w1) := (below_drewN (Below.refl w.heap.size w) nq).trans hb1
      clear hb1 hst2 hq8 k8 k1 k2 k4 k5
      go_upto_region 12 with fail
      have HB2 : Hid (Below w.heap.size w (w1.alloc (.cells #[.int .u8 s0, .int .u8 s1, .int .u8 s2, .int .u8 s3, .int .u8 s4, .int .u8 s5, .int .u8 s6, .int .u8 s7] 47))) := HB1.out.alloc HB1.out.size _
      have hcK : ∀ k, (convert 59 9 (.slice (some ⟨w1.heap.size, 0, none⟩) 8 8)).run Tryz.prog ((w1.alloc (.cells #[.int .u8 s0, .int .u8 s1, .int .u8 s2, .int .u8 s3, .int .u8 s4, .int .u8 s5, .int .u8 s6, .int .u8 s7] 47)).drewN k) = .ok (.string (strOfNums [s0, s1, s2, s3, s4, s5, s6, s7])) ((w1.alloc (.cells #[.int .u8 s0, .int .u8 s1, .int .u8 s2, .int .u8 s3, .int .u8 s4, .int .u8 s5, .int .u8 s6, .int .u8 s7] 47)).drewN k) := fun k =>
        conv_nums _ 0 8 8 [s0, s1, s2, s3, s4, s5, s6, s7] _ ((Rd.row (Row.new w1 47 (u8s [s0, s1, s2, s3, s4, s5, s6, s7]))).drewN k) rfl
      have hcD : ∀ k, (convert 59 9 (.slice (some ⟨b, off + q, none⟩) 8 (c - q))).run Tryz.prog ((w1.alloc (.cells #[.int .u8 s0, .int .u8 s1, .int .u8 s2, .int .u8 s3, .int .u8 s4, .int .u8 s5, .int .u8 s6, .int .u8 s7] 47)).drewN k) = .ok (.string (strOfNums (natsI (bs.drop q)))) ((w1.alloc (.cells #[.int .u8 s0, .int .u8 s1, .int .u8 s2, .int .u8 s3, .int .u8 s4, .int .u8 s5, .int .u8 s6, .int .u8 s7] 47)).drewN k) := fun k =>
        conv_nums b (off + q) 8 (c - q) (natsI (bs.drop q)) _ (by rw [← byts_nats]; exact (HRD.out.below HB2.out).drewN k) (by have := HLb.out; simp [natsI]; omega)
      have hcmp : ((strOfNums [s0, s1, s2, s3, s4, s5, s6, s7]).toList == (strOfNums (natsI (bs.drop q))).toList) = sealedB zero8 bs := by
        rw [HSB.out]
        refine Bool.not_inj ?_
        exact seal_cmp _ HSLB.out (bs.drop q) _ _ (strOfNums_data _) (by rw [strOfNums_data]; simp only [natsI, List.map_map]; rw [List.map_congr_left (g := id) (fun b _ => by simp), List.map_id])
      obtain ⟨T, hT⟩ : ∃ T, T = strOfNums [s0, s1, s2, s3, s4, s5, s6, s7] := ⟨_, rfl⟩
      obtain ⟨U, hU⟩ : ∃ U, U = strOfNums (natsI (bs.drop q)) := ⟨_, rfl⟩
      rw [← hT] at hcK hcmp; rw [← hU] at hcD hcmp
      have hsf2 := HF2.out
      clear hT hU HSB HSLB HSC
      cases hsb : sealedB zero8 bs with
      | false =>
        rw [hsb] at hcmp
        have HE : Hid (strE bs = 27) := by unfold Hid; rw [HES.out, hsb]; rfl
        clear hsb HES
        go_quiet (fail)
        go_wp2
        go_ret2
        exact unpP_bad HE.out (by decide) (below_drewN HB2.out _)
      | true =>
        rw [hsb] at hcmp
        have HE : Hid (strE bs = 0) := by unfold Hid; rw [HES.out, hsb]; rfl
        clear hsb HES HRD HF2 HT2
        have hN2 : unpN bs = m := by unfold unpN; rw [← HNN.out]; rfl
        have hE2 : unpE bs = sampsI (upX bs m) := by unfold unpE; rw [if_neg (by rw [HE.out]; simp), hN2]
        have HN2 := Lib.hid hN2; have HE2 := Lib.hid hE2
        clear hN2 hE2
        by_cases hbig : 4096 < m
        · have hb2 : (4096 : Int) < (m : Int) := by omega
          have HE5 : Hid (unpE bs = 5) := by unfold Hid; rw [HE2.out]; unfold sampsI; rw [upX_length, if_pos hbig]
          go_quiet (fail)
          go_wp2
          go_ret2
          exact ⟨.slice none 0 0, by rw [HE5.out]; rfl, fun h => absurd (HE5.out.symm.trans h) (by decide), fun _ => rfl, below_drewN HB2.out _⟩
        · have hb2 : (m : Int) ≤ 4096 := by omega
          have hm6 : 6 + 2 * m = q := Hqm.out.symm
          go_quiet (fail)
          clear hcK hcD hcmp hsf2
          go_wp2
          refine genBw (below_drewN HB2.out _) ?_
          intro W3 hb3
          have HB3 := Lib.hid hb3
          clear hb3 HB2
          go_loopg [7, 8] m (fun g u i wr => ∃ k : Nat, k ≤ m ∧ i = .int .i64 k ∧ g = m - k ∧ Hid (wr.ownsRow w.heap.size 37 1 u k (flts ((upX bs m).take k))) ∧ Hid (∀ x ∈ (upX bs m).take k, sampI x = 0) ∧ Hid (Below w.heap.size w wr))
          case atStart => exact ⟨0, Nat.zero_le _, rfl, rfl, World.ownsRow_nil _ _ _ _, by intro x hx; simp at hx, HB3⟩
          case round =>
            clear HB3
            obtain ⟨k, hk, rfl, hg, HO, HG, HB⟩ := hrel
            by_cases hlt : k < m
            · obtain ⟨b1, o1, hA1, c1⟩ := (HRA.out.below HB.out).byteAt (j := 6 + k) (by have := HLb.out; omega)
              cases hA1
              obtain ⟨b2, o2, hA2, c2⟩ := (HRA.out.below HB.out).byteAt (j := 6 + m + k) (by have := HLb.out; omega)
              cases hA2
              have dx := byteAt_bd bs (6 + k)
              have dy := byteAt_bd bs (6 + m + k)
              have hget := upX_get bs m k (by rw [upX_length]; exact hlt)
              have htake : (upX bs m).take (k + 1) = (upX bs m).take k ++ [(upX bs m)[k]'(by rw [upX_length]; exact hlt)] := by rw [List.take_add_one, List.getElem?_eq_getElem (by rw [upX_length]; exact hlt)]; rfl
              rw [hget] at htake
              obtain ⟨x1, ex⟩ : ∃ x, x = byteAt bs (6 + k) := ⟨_, rfl⟩
              obtain ⟨y1, ey⟩ : ∃ y, y = byteAt bs (6 + m + k) := ⟨_, rfl⟩
              rw [← ex] at c1 dx hget htake; rw [← ey] at c2 dy hget htake
              have hsb := signI_bd dx dy
              have HSG : Hid (∀ W, Calls Tryz.prog 110 #[.int .u8 x1, .int .u8 y1] W fun e w' => e = .returned (.int .i64 (signI x1 y1)) ∧ W = w') := fun W => signedR_any x1 y1 W dx dy
              obtain ⟨sg, hsg⟩ : ∃ sg, sg = signI x1 y1 := ⟨_, rfl⟩
              rw [← hsg] at HSG hsb hget htake
              have hfb := sampI_fb (n := sg) hsb
              have HT := Lib.hid htake; have HFB := Lib.hid hfb; have HGet := Lib.hid hget; have HSBd := Lib.hid hsb
              have i1 : (6 : Int) + (k : Int) < (q : Int) + 8 := by omega
              have i2 : (6 : Int) + (m : Int) + (k : Int) < (q : Int) + 8 := by omega
              have HK1 : Hid (fb sg = fb (signI (byteAt bs (6 + k)) (byteAt bs (6 + m + k)))) := by unfold Hid; rw [hsg, ex, ey]
              clear hsg ex ey dx dy hsb hfb htake hget
              cases hr : rangeB sg (-16384) 16384 with
              | true =>
                have HCU : Hid (∀ W, Calls Tryz.prog 111 #[.int .i64 sg] W fun e w' => e = .returned (.int .i64 3) ∧ W = w') := fun W => by have h := checkUnit_any sg W; rw [hr] at h; exact h
                have HE3 : Hid (unpE bs = 3) := by
                  unfold Hid
                  have hl : k < ((upX bs m).map sampI).length := by rw [List.length_map, upX_length]; exact hlt
                  have hkk : ((upX bs m).map sampI)[k] = 3 := by
                    rw [List.getElem_map, upX_get, ← HK1.out, HFB.out, hr]; rfl
                  rw [HE2.out, sampsI, upX_length, if_neg hbig, firstI_at _ k hl (fun z hz => by rw [← List.map_take] at hz; obtain ⟨x, hx, rfl⟩ := List.mem_map.1 hz; exact HG.out x hx) (by rw [hkk]; decide), hkk]
                clear hr
                go_wp2
                go_quiet ((go_at_call 110; (first | exact quiet_same (HSG.out _) | exact quiet_same2 (HSG.out _))))
                go_wp2_with (go_at_call 111; refine (HCU.out _).mono ?_; rintro e w2 ⟨rfl, rfl⟩)
                go_ret2
                exact ⟨.slice none 0 0, by rw [HE3.out]; rfl, fun h => absurd (HE3.out.symm.trans h) (by decide), fun _ => rfl, below_drewN HB.out _⟩
              | false =>
                have HCU : Hid (∀ W, Calls Tryz.prog 111 #[.int .i64 sg] W fun e w' => e = .returned (.int .i64 0) ∧ W = w') := fun W => by have h := checkUnit_any sg W; rw [hr] at h; exact h
                have HF0 : Hid (sampI (fb sg) = 0) := by unfold Hid; rw [HFB.out, hr]; rfl
                clear hr
                go_wp2
                go_quiet ((go_at_call 110; (first | exact quiet_same (HSG.out _) | exact quiet_same2 (HSG.out _))))
                clear c1 c2 i1 i2
                go_wp2_with fail
                have ho4 := owns_below HO.out (below_drewN (Below.refl wr.heap.size wr) nq)
                have hb4 := below_drewN HB.out nq
                obtain ⟨W4, hW4⟩ : ∃ W, W = wr.drewN nq := ⟨_, rfl⟩
                rw [← hW4] at ho4 hb4 ⊢
                have HO4 := Lib.hid ho4; have HB4 := Lib.hid hb4
                clear hW4
                clear ho4 hb4 HO HB
                refine (HCU.out _).mono ?_
                rintro e w2 ⟨rfl, rfl⟩
                go_wp2_with fail
                refine (sample_any sg _ HSBd.out).mono ?_
                rintro e w3 ⟨rfl, rfl⟩
                go_wp2_with (at_builtin; refine wpList_app rfl _ _ 38 rfl w.heap.size 37 (.float .f32 0) 1 4 Tryz.underlying38 info37 rfl (by decide) _ k (flts ((upX bs m).take k)) rfl (HO4.out.alloc _) (some ⟨W4.heap.size, 0, none⟩) 1 1 [.float .f32 (fb sg)] rfl (fun h => by cases h) (Rd.row (Row.new W4 37 [.float .f32 (fb sg)])) rfl (by simp [Value.oneCell']) ?d2 ?d3 ?d4 ?_)
                case d2 => unfold maxLen; omega
                case d3 => omega
                case d4 => have := HB4.out.size; simp; omega
                intro v5 w5 ho5 hg5
                have HB5 : Hid (Below w.heap.size w w5) := Below.app HB4.out HB4.out.size HO4.out hg5
                have HO5 : Hid (w5.ownsRow w.heap.size 37 1 v5 (k + 1) (flts ((upX bs m).take (k + 1)))) := by
                  unfold Hid; rw [HT.out]; simp only [flts, List.map_append] at ho5 ⊢; exact ho5
                have HG5 : Hid (∀ x ∈ (upX bs m).take (k + 1), sampI x = 0) := by
                  unfold Hid; rw [HT.out]; intro x hx
                  rcases List.mem_append.1 hx with h | h
                  · exact HG.out x h
                  · simp at h; subst h; exact HF0.out
                clear ho5 hg5 HO4 HB4 HG
                go_wp2
                go_roundg (m - (k + 1))
                case measure => omega
                case rel => exact ⟨k + 1, by omega, by go_num, rfl, HO5, HG5, HB5⟩
            · obtain rfl : k = m := by omega
              have HX : Hid (unpE bs = 0) := by
                unfold Hid
                have h := HG.out
                rw [List.take_of_length_le (by rw [upX_length]; exact Nat.le_refl _)] at h
                rw [HE2.out, sampsI, upX_length, if_neg hbig]
                exact firstI_zeros (fun z hz => by obtain ⟨x, hx, rfl⟩ := List.mem_map.1 hz; exact h x hx)
              have HO1 : Hid (wr.ownsRow w.heap.size 37 1 u7 k (flts (upX bs k))) := by
                have h := HO.out
                rwa [List.take_of_length_le (by rw [upX_length]; exact Nat.le_refl _)] at h
              clear HO HG
              go_wp2
              go_ret2
              exact ⟨_, by rw [HX.out]; rfl, fun _ => by rw [HN2.out]; exact HO1.out, fun h => absurd HX.out h, HB.out⟩
    · have h5 : ((bs.length : Int) != 14 + 2 * N) = true := by simpa using h4
      have HE : Hid (strE bs = 2) := by unfold Hid; rw [HE0.out, if_pos h4]
      clear h4 HE0
      go_enter Tryz.func76, Tryz.ntmps76
      go_wp2
      go_quiet ((go_at_call 109; (first | exact quiet_same (HW.out _) | exact quiet_same2 (HW.out _))))
      go_wp2
      go_ret2
      exact unpP_bad HE.out (by decide) (below_drewN (Below.refl _ _) _)
  · have HE : Hid (strE bs = 1) := by unfold Hid strE; rw [if_neg h1, if_neg h2, if_pos h3]
    have hd : decide (bs.take 4 = [71, 76, 83, 49]) = false := by simpa using h3
    have hst : (S.toList == [71, 76, 83, 49]) = false := by have h := HNQ.out; rw [hd] at h; simpa using h
    clear h3 hd
    go_enter Tryz.func76, Tryz.ntmps76
    go_wp2
    go_ret2
    exact unpP_bad HE.out (by decide) (Below.refl _ _)
end Go.Proofs.YtjgofnbfpoephaaGreatDoor
