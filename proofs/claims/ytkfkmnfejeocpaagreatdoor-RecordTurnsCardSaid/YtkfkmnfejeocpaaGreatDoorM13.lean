import Derived.Test.YtkfkmnfejeocpaaGreatDoorM09
import Derived.Test.YtkfkmnfejeocpaaGreatDoorM11
import Derived.Lib.SlBytesConst
import Derived.ArgAppend
import Derived.Test.YtkfkmnfejeocpaaGreatDoorM07
import Derived.Test.YtkfkmnfejeocpaaGreatDoorM14
import Derived.Test.YtkfkmnfejeocpaaGreatDoorM05
import Derived.Deep.DeepCutAuto
import Derived.Laws.BytesArg
import Derived.Test.YtkfkmnfejeocpaaGreatDoorM01
import Derived.Test.YtkfkmnfejeocpaaGreatDoorM06
import Derived.Test.YtkfkmnfejeocpaaGreatDoorM15
import Derived.Maps.Views
import Derived.Test.YtkfkmnfejeocpaaGreatDoorM17
/- Contracts: samples are packed. -/
namespace Go.Proofs.YtkfkmnfejeocpaaGreatDoor
set_option linter.all false
open Go.RowKit Go.Fl
set_option linter.unusedVariables false
set_option linter.unusedSimpArgs false

/-- bytes out of their integers -/
def toB (l : List Int) : List UInt8 := l.map fun x => UInt8.ofNat x.toNat
theorem byts_toB {l : List Int} (h : ∀ x ∈ l, isByte x) : byts (toB l) = u8s l := by
  induction l with
  | nil => rfl
  | cons x l ih =>
    have hx := h x (by simp)
    unfold isByte at hx
    have e : ((UInt8.ofNat x.toNat).toNat : Int) = x := by
      rw [UInt8.toNat_ofNat']
      have : x.toNat % 256 = x.toNat := Nat.mod_eq_of_lt (by omega)
      rw [show (2 ^ 8 : Nat) = 256 from rfl, this]; omega
    have ih := ih fun y hy => h y (by simp [hy])
    simp only [byts, toB, u8s, List.map_cons] at ih ⊢
    rw [ih, e]
theorem toB_length (l : List Int) : (toB l).length = l.length := by simp [toB]
theorem hiI_byte (x : Nat) : isByte (hiI x) := by unfold isByte hiI; omega
theorem loI_byte (x : Nat) : isByte (loI x) := by unfold isByte loI; omega
theorem sealB_bd (j : Nat) (x : Int) (bs : List UInt8) (hx : isByte x) : isByte (sealB j x bs) := by
  unfold sealB
  induction bs generalizing x with
  | nil => exact hx
  | cons b bs ih => exact ih _ (stepX_bd _ _ _)
theorem sealL_byte (key : List Int) (bs : List UInt8) (hk : ∀ x ∈ key, isByte x) : ∀ x ∈ sealL key bs, isByte x := by
  intro x hx
  obtain ⟨i, hi, rfl⟩ := List.getElem_of_mem hx
  unfold sealL at hi ⊢
  rw [sealGo_length] at hi
  rw [sealGo_get _ _ _ _ hi]
  exact sealB_bd _ _ _ (hk _ (List.getElem_mem hi))
def headI (xs : List Nat) : List Int := [71, 76, 83, 49, (xs.length : Int) % 65536 / 256, (xs.length : Int) % 256]
def bodyI (xs : List Nat) : List Int := headI xs ++ xs.map hiI ++ xs.map loI
theorem headI_byte (xs : List Nat) : ∀ x ∈ headI xs, isByte x := by
  intro x hx
  simp only [headI, List.mem_cons, List.not_mem_nil, or_false] at hx
  unfold isByte
  rcases hx with rfl | rfl | rfl | rfl | rfl | rfl <;> omega
theorem bodyI_byte (xs : List Nat) : ∀ x ∈ bodyI xs, isByte x := by
  intro x hx
  simp only [bodyI, List.mem_append, List.mem_map] at hx
  rcases hx with (hx | ⟨y, _, rfl⟩) | ⟨y, _, rfl⟩
  · exact headI_byte xs x hx
  · exact hiI_byte y
  · exact loI_byte y
def zero8 : List Int := [0, 0, 0, 0, 0, 0, 0, 0]
theorem zero8_byte : ∀ j (h : j < 8), isByte ([(0 : Int), 0, 0, 0, 0, 0, 0, 0][j]) := by
  intro j h
  unfold isByte
  have : ([(0 : Int), 0, 0, 0, 0, 0, 0, 0][j]) = 0 := by
    rcases (show j = 0 ∨ j = 1 ∨ j = 2 ∨ j = 3 ∨ j = 4 ∨ j = 5 ∨ j = 6 ∨ j = 7 by omega) with rfl | rfl | rfl | rfl | rfl | rfl | rfl | rfl <;> rfl
  rw [this]; omega
/-- the stream of samples, as integers -/
def packI (xs : List Nat) : List Int := bodyI xs ++ sealL zero8 (toB (bodyI xs))
theorem seal8 (key : List Int) (bs : List UInt8) : (sealL key bs).length = key.length := sealGo_length bs key 0

theorem owns_mono {w : World} {B B' : Nat} {e : TypeId} {s n : Nat} {v : Value} {xs : List Value} (h : w.ownsRow B e s v n xs) (hB : B' ≤ B) : w.ownsRow B' e s v n xs := by
  refine ⟨h.1, ?_⟩
  rcases h.2 with h2 | ⟨g, cap, cur, h1, h2, h3⟩
  · exact .inl h2
  · exact .inr ⟨g, cap, cur, h1, Nat.le_trans hB h2, h3⟩
theorem u8s_one (l : List Int) : ∀ v ∈ u8s l, v.oneCell' = true := by simp [u8s, Value.oneCell']
theorem u8s_app (l m : List Int) : u8s (l ++ m) = u8s l ++ u8s m := by simp [u8s]
theorem u8s_length (l : List Int) : (u8s l).length = l.length := by simp [u8s]
theorem Rd.owned {w : World} {B : Nat} {e : TypeId} {v : Value} {n : Nat} {A : Option Addr} {m c : Nat} {vs : List Value} (h : w.ownsRow B e 1 v n vs) (hv : v = .slice A m c) : Rd w A vs := by
  rcases h.2 with ⟨h1, h2⟩ | ⟨g, cap, cur, h1, h2, h3, h4, h5, h6, h7⟩
  · rw [h1] at hv; cases hv
    have : vs = [] := List.eq_nil_of_length_eq_zero (by rw [h.1, h2])
    subst this
    intro j u hu; cases hu
  · rw [h1] at hv; cases hv
    intro j u hu
    have hj : j < n * 1 := by rw [← h.1]; exact (List.getElem?_eq_some_iff.1 hu).1
    refine ⟨g, 0, rfl, ?_⟩
    rw [Nat.zero_add, cell_of_row w g j cur e (0, 0) h3, ← Array.getElem?_toList]
    rw [← h7, List.getElem?_take, if_pos hj] at hu
    exact hu

theorem add0 (g j : Nat) : (⟨g, 0, none⟩ : Addr).add j = ⟨g, j, none⟩ := by
  by_cases hj : j = 0
  · subst hj; simp [Addr.add]
  · simp [Addr.add, hj]

set_option maxRecDepth 100000 in
set_option maxHeartbeats 2000000 in
theorem pack_ok (A : Option Addr) (n c : Nat) (xs : List Nat) (w : World) (hA : Rd w A (flts xs)) (hn : n = xs.length) (hm : xs.length ≤ 4096) (hs : ∀ x ∈ xs, sampI x = 0) (h0 : sampsI xs = 0) :
    Calls Tryz.prog 14 #[.slice A n c] w fun e w' => ∃ v, e = .returned (.tuple #[v, .int .i64 0]) ∧ w'.ownsRow w.heap.size 5 1 v (packI xs).length (u8s (packI xs)) ∧ Below w.heap.size w w' := by
  subst hn
  have Hs := Lib.hid hs
  have H0 := Lib.hid h0
  have HA := Lib.hid hA
  have hnn : -32768 ≤ (xs.length : Int) ∧ (xs.length : Int) ≤ 65535 := by omega
  obtain ⟨i5, hi0, hi1, hi2, hi3⟩ := info_parts info5
  clear hs h0 hA
  have kc := fun (W : World) (C : Array Value) (n c : Nat) => Lib.run_convert_bytes_const (P := Tryz.prog) W 42 5 C n c Tryz.underlying42 Tryz.underlying5
  go_enter Tryz.func14, Tryz.ntmps14
  go_wp2_with fail
  refine (checkSamples_any _ _ _ xs _ HA.out rfl).mono ?_
  rintro e w1 ⟨rfl, hb1⟩
  rw [H0.out]
  have HA1 := Lib.hid (HA.out.below hb1)
  have HB1 := Lib.hid hb1
  clear hb1
  go_upto_region 6 with (first | (go_at_call 47; refine (halves_any _ _ hnn).mono ?_; rintro e w' ⟨rfl, rfl⟩) | (at_builtin; refine wpList_append_grows _ rfl _ _ 42 rfl 5 i5 (.int .u8 0) 1 1 Tryz.underlying42 hi0 hi1 hi2 hi3 rfl (by decide) (some ⟨w1.heap.size, 0, none⟩) 4 4 (u8s [71, 76, 83, 49]) rfl ?c0 rfl ?c1 ⟨w1.heap.size + 1, 0, none⟩ 2 2 (u8s [(xs.length : Int) % 65536 / 256, (xs.length : Int) % 256]) rfl rfl ?c2 (u8s_one _) ?c3 ?c4 ?c5 ?_))
  case c0 => intro h; cases h
  case c1 =>
    intro b hb j u hu
    cases hb
    rw [add0]
    have h1 : (w1.alloc (.cells (u8s [71, 76, 83, 49]).toArray 5 (4, 5))).cell? ⟨w1.heap.size, j, none⟩ = some u := by rw [cell_of_row _ _ _ _ _ _ (heap_alloc_new w1 _)]; simpa using hu
    exact keepC h1 ((Below.refl _ _).alloc (Nat.le_refl _) _)
  case c2 =>
    intro j u hu
    rw [add0]
    have h1 := (Row.new (w1.alloc (.cells (u8s [71, 76, 83, 49]).toArray 5 (4, 5))) 5 (u8s [(xs.length : Int) % 65536 / 256, (xs.length : Int) % 256])).cell j
    rw [hu, World.size_alloc] at h1
    exact h1
  case c3 => decide
  case c4 => unfold maxLen; decide
  case c5 => decide
  intro v2 w2 ho2 hg2
  have HB2 : Hid (Below w.heap.size w w2) := by
    have h := ((HB1.out.alloc HB1.out.size (.cells (u8s [71, 76, 83, 49]).toArray 5 (4, 5))).alloc (by have := HB1.out.size; simp; omega) (.cells (u8s [(xs.length : Int) % 65536 / 256, (xs.length : Int) % 256]).toArray 5))
    exact h.grown hg2 (by have := HB1.out.size; simp; omega) (fun k hk => by cases hk)
  have HO2 : Hid (w2.ownsRow w.heap.size 5 1 v2 6 (u8s (headI xs))) := owns_mono ho2 (by have := HB1.out.size; simp; omega)
  clear ho2 hg2 kc
  have HA2 := Lib.hid (HA.out.below HB2.out)
  go_upto_region 7 with (go_at_call 48; refine (mappedHi_any _ _ _ xs _ HA2.out rfl hm Hs.out).mono ?_; rintro e w3 ⟨g3, rfl, hr3, hg3, hb3⟩; have HO3 := Lib.hid (owns_below HO2.out hb3); have HR3 := Lib.hid (Rd.row hr3); have HB3 := Lib.hid (HB2.out.trans (hb3.mono HB2.out.size)); clear hr3 hg3 hb3; go_wp2_with (at_builtin; refine wpList_app rfl _ _ 42 rfl w.heap.size 5 (.int .u8 0) 1 1 Tryz.underlying42 info5 rfl (by decide) _ 6 (u8s (headI xs)) rfl HO3.out (some ⟨g3, 0, none⟩) xs.length xs.length (u8s (xs.map hiI)) rfl (fun h => by cases h) HR3.out (by simp [u8s]) (u8s_one _) ?d2 ?d3 ?d4 ?_))
  case d2 => unfold maxLen; omega
  case d3 => omega
  case d4 => exact HB3.out.size
  intro v4 w4 ho4 hg4
  have HB4 : Hid (Below w.heap.size w w4) := HB3.out.grown hg4 HB3.out.size (fun k hk => (HO3.out.lt k hk).1)
  have HO4 : Hid (w4.ownsRow w.heap.size 5 1 v4 (6 + xs.length) (u8s (headI xs ++ xs.map hiI))) := by unfold Hid; rw [u8s_app]; exact ho4
  clear ho4 hg4
  have HA4 := Lib.hid (HA.out.below HB4.out)
  go_upto_region 8 with (go_at_call 48; refine (mappedLo_any _ _ _ xs _ HA4.out rfl hm Hs.out).mono ?_; rintro e w5 ⟨g5, rfl, hr5, hg5, hb5⟩; have HO5 := Lib.hid (owns_below HO4.out hb5); have HR5 := Lib.hid (Rd.row hr5); have HB5 := Lib.hid (HB4.out.trans (hb5.mono HB4.out.size)); clear hr5 hg5 hb5; go_wp2_with (at_builtin; refine wpList_app rfl _ _ 42 rfl w.heap.size 5 (.int .u8 0) 1 1 Tryz.underlying42 info5 rfl (by decide) _ (6 + xs.length) (u8s (headI xs ++ xs.map hiI)) rfl HO5.out (some ⟨g5, 0, none⟩) xs.length xs.length (u8s (xs.map loI)) rfl (fun h => by cases h) HR5.out (by simp [u8s]) (u8s_one _) ?d2 ?d3 ?d4 ?_))
  case d2 => unfold maxLen; omega
  case d3 => omega
  case d4 => exact HB5.out.size
  intro v6 w6 ho6 hg6
  have HB6 : Hid (Below w.heap.size w w6) := HB5.out.grown hg6 HB5.out.size (fun k hk => (HO5.out.lt k hk).1)
  have HO6 : Hid (w6.ownsRow w.heap.size 5 1 v6 (6 + xs.length + xs.length) (u8s (bodyI xs))) := by unfold Hid bodyI; rw [u8s_app]; exact ho6
  clear ho6 hg6
  obtain ⟨g6, c6, hv6, hg6, hl6⟩ := ownsRow.addr HO6.out (by omega)
  subst hv6
  have hlen : (bodyI xs).length = 6 + xs.length + xs.length := by simp [bodyI, headI]; omega
  have Hlen : Hid (6 + xs.length + xs.length = (toB (bodyI xs)).length) := by unfold Hid; rw [toB_length, hlen]
  have HR6 : Hid (Rd w6 (some ⟨g6, 0, none⟩) (byts (toB (bodyI xs)))) := by unfold Hid; rw [byts_toB (bodyI_byte xs)]; exact Rd.owned HO6.out rfl
  obtain ⟨sl, hsl⟩ : ∃ sl, sl = sealL [0, 0, 0, 0, 0, 0, 0, 0] (toB (bodyI xs)) := ⟨_, rfl⟩
  have hsl8 : sl.length = 8 := by rw [hsl, seal8]; rfl
  obtain ⟨s0, s1, s2, s3, s4, s5, s6, s7, hs8⟩ : ∃ s0 s1 s2 s3 s4 s5 s6 s7, sl = [s0, s1, s2, s3, s4, s5, s6, s7] := by
    match sl, hsl8 with
    | [a, b, c, d, e, f, g, h], _ => exact ⟨a, b, c, d, e, f, g, h, rfl⟩
  have HP : Hid (packI xs = bodyI xs ++ [s0, s1, s2, s3, s4, s5, s6, s7]) := by unfold Hid packI zero8; rw [← hsl, hs8]
  have HSC : Hid (Calls Tryz.prog 52 #[.agg #[.int .u8 0, .int .u8 0, .int .u8 0, .int .u8 0, .int .u8 0, .int .u8 0, .int .u8 0, .int .u8 0], .slice (some ⟨g6, 0, none⟩) (6 + xs.length + xs.length) c6] w6 fun e w' => e = .returned (.agg #[.int .u8 s0, .int .u8 s1, .int .u8 s2, .int .u8 s3, .int .u8 s4, .int .u8 s5, .int .u8 s6, .int .u8 s7]) ∧ Below w6.heap.size w6 w') :=
    (sealed_any 0 0 0 0 0 0 0 0 (some ⟨g6, 0, none⟩) (6 + xs.length + xs.length) c6 (toB (bodyI xs)) w6 HR6.out Hlen.out (by rw [← Hlen.out]; omega) zero8_byte).mono fun e w' h => ⟨by rw [h.1, ← hsl, hs8]; rfl, h.2⟩
  clear hs8 hsl8 hsl hlen
  go_wp2_with (go_at_call 52; refine HSC.out.mono ?_; rintro e w7 ⟨rfl, hb7⟩; have HO7 := Lib.hid (owns_below HO6.out hb7); have HB7 := Lib.hid (HB6.out.trans (hb7.mono HB6.out.size)); clear hb7; go_wp2_with (at_builtin; refine wpList_app rfl _ _ 42 rfl w.heap.size 5 (.int .u8 0) 1 1 Tryz.underlying42 info5 rfl (by decide) _ (6 + xs.length + xs.length) (u8s (bodyI xs)) rfl (HO7.out.alloc _) (some ⟨w7.heap.size, 0, none⟩) 8 8 (u8s [s0, s1, s2, s3, s4, s5, s6, s7]) rfl (fun h => by cases h) (Rd.row (Row.new w7 58 _)) (by simp [u8s]) (u8s_one _) ?d2 ?d3 ?d4 ?_))
  case d2 => unfold maxLen; omega
  case d3 => omega
  case d4 => have := HB7.out.size; simp; omega
  intro v8 w8 ho8 hg8
  have HB8 : Hid (Below w.heap.size w w8) := Below.app HB7.out HB7.out.size HO7.out hg8
  have HO8 : Hid (w8.ownsRow w.heap.size 5 1 v8 (packI xs).length (u8s (packI xs))) := by
    unfold Hid; rw [HP.out, u8s_app]
    have e : (bodyI xs ++ [s0, s1, s2, s3, s4, s5, s6, s7]).length = 6 + xs.length + xs.length + 8 := by simp [bodyI, headI]; omega
    rw [e]; exact ho8
  clear ho8 hg8
  go_wp2
  go_ret2
  exact ⟨_, rfl, HO8.out, HB8.out⟩
end Go.Proofs.YtkfkmnfejeocpaaGreatDoor

/- Contracts: a stream is unpacked. -/
namespace Go.Proofs.YtkfkmnfejeocpaaGreatDoor
set_option linter.all false
open Go.RowKit Go.Fl
set_option linter.unusedVariables false
set_option linter.unusedSimpArgs false

/-- the number of samples that the head of a stream tells -/
def strN (bs : List UInt8) : Int := wholeI (byteAt bs 4) (byteAt bs 5)
def strE (bs : List UInt8) : Int :=
  if 400000 < bs.length then 26 else if bs.length < 14 then 28 else if bs.take 4 ≠ [71, 76, 83, 49] then 1
  else if (bs.length : Int) ≠ 14 + 2 * strN bs then 2 else if !sealedB zero8 bs then 27 else 0
theorem wholeI_bd {a b : Int} (ha : 0 ≤ a ∧ a ≤ 255) (hb : 0 ≤ b ∧ b ≤ 255) : 0 ≤ wholeI a b ∧ wholeI a b ≤ 65535 := by unfold wholeI; omega
theorem strN_bd (bs : List UInt8) : 0 ≤ strN bs ∧ strN bs ≤ 65535 := wholeI_bd (byteAt_bd _ _) (byteAt_bd _ _)
theorem Rd.byteAt {w : World} {A : Option Addr} {bs : List UInt8} (h : Rd w A (byts bs)) {j : Nat} (hj : j < bs.length) : ∃ b off, A = some ⟨b, off, none⟩ ∧ w.cell? ⟨b, off + j, none⟩ = some (.int .u8 (byteAt bs j)) := by
  obtain ⟨b, off, h1, h2⟩ := h.byte hj
  refine ⟨b, off, h1, ?_⟩
  rw [h2]; simp [Go.Proofs.YtkfkmnfejeocpaaGreatDoor.byteAt, List.getD, List.getElem?_eq_getElem hj]

set_option maxHeartbeats 400000 in
theorem streamNumber_any (A : Option Addr) (n c : Nat) (bs : List UInt8) (w : World) (hA : Rd w A (byts bs)) (hn : n = bs.length) (h6 : 6 ≤ bs.length) (hm : bs.length ≤ 400000) :
    Calls Tryz.prog 54 #[.slice A n c] w fun e w' => e = .returned (.int .i64 (strN bs)) ∧ ∃ q, w' = w.drewN q := by
  subst hn
  obtain ⟨b, off, rfl, c4⟩ := hA.byteAt (j := 4) (by omega)
  obtain ⟨b', off', hb', c5⟩ := hA.byteAt (j := 5) (by omega)
  cases hb'
  have d4 := byteAt_bd bs 4
  have d5 := byteAt_bd bs 5
  have HN : Hid (strN bs = wholeI (byteAt bs 4) (byteAt bs 5)) := rfl
  obtain ⟨x, hx⟩ : ∃ x, x = byteAt bs 4 := ⟨_, rfl⟩
  obtain ⟨y, hy⟩ : ∃ y, y = byteAt bs 5 := ⟨_, rfl⟩
  rw [← hx] at c4 d4 HN; rw [← hy] at c5 d5 HN
  have D4 := Lib.hid d4; have D5 := Lib.hid d5
  have i4 : 4 < bs.length := by omega
  have i5 : 5 < bs.length := by omega
  have j4 : (4 : Int) < (bs.length : Int) := by omega
  have j5 : (5 : Int) < (bs.length : Int) := by omega
  clear hx hy d4 d5 hA
  go_enter Tryz.func54, Tryz.ntmps54
  go_wp2
  go_quiet ((go_at_call 66; (first | exact quiet_same (whole_any _ _ _ D4.out D5.out) | exact quiet_same2 (whole_any _ _ _ D4.out D5.out))))
  go_wp2
  go_ret
  exact ⟨ret_int HN.out.symm, _, rfl⟩

set_option maxRecDepth 100000 in
set_option maxHeartbeats 400000 in
theorem checkStream_any (A : Option Addr) (n c : Nat) (bs : List UInt8) (w : World) (hA : Rd w A (byts bs)) (hn : n = bs.length) (hc : n ≤ c) (hm : bs.length ≤ 9223372036854775807) :
    Calls Tryz.prog 53 #[.slice A n c] w fun e w' => e = .returned (.int .i64 (strE bs)) ∧ Below w.heap.size w w' := by
  subst hn
  by_cases h1 : 400000 < bs.length
  · have HE : Hid (strE bs = 26) := by unfold Hid strE; rw [if_pos h1]
    go_enter Tryz.func53, Tryz.ntmps53
    go_wp2
    go_ret
    exact ⟨ret_int HE.out.symm, Below.refl _ _⟩
  by_cases h2 : bs.length < 14
  · have HE : Hid (strE bs = 28) := by unfold Hid strE; rw [if_neg h1, if_pos h2]
    go_enter Tryz.func53, Tryz.ntmps53
    go_wp2
    go_ret
    exact ⟨ret_int HE.out.symm, Below.refl _ _⟩
  obtain ⟨b, off, rfl, -⟩ := hA.byteAt (j := 0) (by omega)
  have hsl := fun W => slice_to (P := Tryz.prog) 42 (by kernel_rfl) 1 (fun _ => by kernel_rfl) (some ⟨b, off, none⟩) bs.length c (4 : Int) (by decide) (by omega) W
  have hcv := run_convert_bytes_arg (P := Tryz.prog) w 42 5 Tryz.underlying42 Tryz.underlying5 b off 4 c (natsI (bs.take 4)) (by simp [natsI]; omega) (fun i hi => by
    obtain ⟨b', off', hb', h⟩ := hA.byteAt (j := i) (by omega)
    cases hb'
    rw [h]
    simp [byteAt, natsI, List.getD, List.getElem?_take, hi]
    rw [List.getElem?_eq_getElem (by omega)]; rfl) 9 Tryz.underlying9
  have hS : (strOfNums (natsI (bs.take 4))).data.toList = bs.take 4 := by
    rw [strOfNums_data]; simp only [natsI, List.map_map]; rw [List.map_congr_left (g := id) (fun b _ => by simp), List.map_id]
  obtain ⟨S, hSS⟩ : ∃ S, S = strOfNums (natsI (bs.take 4)) := ⟨_, rfl⟩
  rw [← hSS] at hcv hS
  have hneq : (S.toList == (ByteArray.mk #[71, 76, 83, 49]).toList) = decide (bs.take 4 = [71, 76, 83, 49]) := by
    rw [ByteArray.toList_eq, ByteArray.toList_eq, hS]
    by_cases h : bs.take 4 = [71, 76, 83, 49] <;> simp [h]
  have hsl : ∀ W, (Instr.slice 42 (.slice (some ⟨b, off, none⟩) bs.length c) none (some (.int .i64 4)) none).run Tryz.prog W = .ok (.slice (some ⟨b, off, none⟩) 4 c) W := hsl
  have HA := Lib.hid hA
  have HNQ := Lib.hid hneq
  have HSL := Lib.hid hsl; have HCV := Lib.hid hcv
  clear hA hS hSS hneq hsl hcv
  have hsl := HSL.out; have hcv := HCV.out
  by_cases h3 : bs.take 4 = [71, 76, 83, 49]
  · have hd : decide (bs.take 4 = [71, 76, 83, 49]) = true := by simpa using h3
    have hst : (S.toList == [71, 76, 83, 49]) = true := by have h := HNQ.out; rw [hd] at h; simpa using h
    have hN := strN_bd bs
    have Hmul : Hid (Calls Tryz.prog 54 #[.slice (some ⟨b, off, none⟩) bs.length c] w fun e w' => e = .returned (.int .i64 (strN bs)) ∧ ∃ q, w' = w.drewN q) := streamNumber_any _ _ _ bs w HA.out rfl (by omega) (by omega)
    obtain ⟨N, hNN⟩ : ∃ N, N = strN bs := ⟨_, rfl⟩
    have HE0 : Hid (strE bs = if (bs.length : Int) ≠ 14 + 2 * N then 2 else if !sealedB zero8 bs then 27 else 0) := by
      unfold Hid strE; rw [if_neg h1, if_neg h2, if_neg (by simpa using h3), hNN]
    rw [← hNN] at hN Hmul
    clear h3 hd hNN
    by_cases h4 : (bs.length : Int) = 14 + 2 * N
    · have h5 : ((bs.length : Int) != 14 + 2 * N) = false := by simpa using h4
      have HL := Lib.hid h4
      have Hseal : Hid (∀ W, Below w.heap.size w W → Calls Tryz.prog 65 #[.agg #[.int .u8 0, .int .u8 0, .int .u8 0, .int .u8 0, .int .u8 0, .int .u8 0, .int .u8 0, .int .u8 0], .slice (some ⟨b, off, none⟩) bs.length c] W fun e w' => e = .returned (.bool (sealedB zero8 bs)) ∧ Below W.heap.size W w') := fun W hW =>
        isSealed_any 0 0 0 0 0 0 0 0 _ _ _ bs W (HA.out.below hW) rfl hc (by omega) hm zero8_byte
      have HE : Hid (strE bs = if !sealedB zero8 bs then 27 else 0) := by unfold Hid; rw [HE0.out, if_neg (by simpa using h4)]
      obtain ⟨sb, hsb⟩ : ∃ sb, sb = sealedB zero8 bs := ⟨_, rfl⟩
      rw [← hsb] at Hseal HE
      clear h4 hsb HE0
      cases sb
      all_goals
        go_enter Tryz.func53, Tryz.ntmps53
        go_wp2_with (first
          | (go_at_call 54; refine Hmul.out.mono ?_; rintro e w1 ⟨rfl, q, rfl⟩)
          | (go_at_call 65; refine (Hseal.out _ ?_).mono ?_; (exact below_drewN (Below.refl _ _) _); rintro e w1 ⟨rfl, hb1⟩))
        go_ret
        exact ⟨ret_int HE.out.symm, (below_drewN (Below.refl _ _) _).trans hb1⟩
    · have h5 : ((bs.length : Int) != 14 + 2 * N) = true := by simpa using h4
      have HE : Hid (strE bs = 2) := by unfold Hid; rw [HE0.out, if_pos h4]
      clear h4 HE0
      go_enter Tryz.func53, Tryz.ntmps53
      go_wp2_with (go_at_call 54; refine Hmul.out.mono ?_; rintro e w1 ⟨rfl, q, rfl⟩)
      go_ret
      exact ⟨ret_int HE.out.symm, below_drewN (Below.refl _ _) _⟩
  · have HE : Hid (strE bs = 1) := by unfold Hid strE; rw [if_neg h1, if_neg h2, if_pos h3]
    have hd : decide (bs.take 4 = [71, 76, 83, 49]) = false := by simpa using h3
    have hst : (S.toList == [71, 76, 83, 49]) = false := by have h := HNQ.out; rw [hd] at h; simpa using h
    clear h3 hd
    go_enter Tryz.func53, Tryz.ntmps53
    go_wp2
    go_ret
    exact ⟨ret_int HE.out.symm, Below.refl _ _⟩

/-- the samples of a stream -/
def upX (bs : List UInt8) (N : Nat) : List Nat := (List.range N).map fun i => fb (signI (byteAt bs (6 + i)) (byteAt bs (6 + N + i)))
theorem upX_length (bs : List UInt8) (N : Nat) : (upX bs N).length = N := by simp [upX]
theorem upX_get (bs : List UInt8) (N k : Nat) (h : k < (upX bs N).length) : (upX bs N)[k] = fb (signI (byteAt bs (6 + k)) (byteAt bs (6 + N + k))) := by simp [upX]
def unpN (bs : List UInt8) : Nat := (strN bs).toNat
def unpE (bs : List UInt8) : Int := if strE bs ≠ 0 then strE bs else sampsI (upX bs (unpN bs))
theorem strE_zero {bs : List UInt8} (h : strE bs = 0) : bs.length = 14 + 2 * unpN bs ∧ unpN bs ≤ 65535 ∧ strN bs = (unpN bs : Int) := by
  have hb := strN_bd bs
  unfold strE at h
  split at h
  · simp at h
  · split at h
    · simp at h
    · split at h
      · simp at h
      · split at h
        · simp at h
        · rename_i h4
          have h4 : (bs.length : Int) = 14 + 2 * strN bs := by simpa using h4
          unfold unpN
          omega
theorem byts_part {bs : List UInt8} {f h k : Nat} (hk : k < h - f) (hh : h ≤ bs.length) : ((byts bs).drop f |>.take (h - f))[k]? = some (.int .u8 (byteAt bs (f + k))) := by
  rw [List.getElem?_take, if_pos hk, List.getElem?_drop]
  simp only [byts, List.getElem?_map]
  rw [List.getElem?_eq_getElem (by omega)]
  simp [byteAt, List.getD, List.getElem?_eq_getElem (show f + k < bs.length by omega)]

set_option maxRecDepth 100000 in
set_option maxHeartbeats 1000000 in
theorem unpack_any (A : Option Addr) (n c : Nat) (bs : List UInt8) (w : World) (hA : Rd w A (byts bs)) (hn : n = bs.length) (hc : n ≤ c) (hm : bs.length ≤ 9223372036854775807) :
    Calls Tryz.prog 16 #[.slice A n c] w fun e w' => ∃ v, e = .returned (.tuple #[v, .int .i64 (unpE bs)]) ∧ (unpE bs = 0 → ∃ g, v = .slice (some ⟨g, 0, none⟩) (unpN bs) (unpN bs) ∧ Row w' g 27 (flts (upX bs (unpN bs))) ∧ w.heap.size ≤ g) ∧ (unpE bs ≠ 0 → v = .slice none 0 0) ∧ Below w.heap.size w w' := by
  subst hn
  have Hchk : Hid (Calls Tryz.prog 53 #[.slice A bs.length c] w fun e w' => e = .returned (.int .i64 (strE bs)) ∧ Below w.heap.size w w') := checkStream_any A _ c bs w hA rfl hc hm
  have HA := Lib.hid hA
  clear hA
  by_cases h0 : strE bs = 0
  · obtain ⟨hlen, hN, hsN⟩ := strE_zero h0
    have HE : Hid (unpE bs = sampsI (upX bs (unpN bs))) := by unfold Hid unpE; rw [if_neg (by simp [h0])]
    have HNL : Hid (∀ W, Below w.heap.size w W → Calls Tryz.prog 54 #[.slice A bs.length c] W fun e w' => e = .returned (.int .i64 (unpN bs : Int)) ∧ ∃ q, w' = W.drewN q) := fun W hW => by
      have h := streamNumber_any A bs.length c bs W (HA.out.below hW) rfl (by omega) (by omega)
      rw [hsN] at h; exact h
    obtain ⟨N, hNN⟩ : ∃ N, N = unpN bs := ⟨_, rfl⟩
    rw [← hNN] at HE HNL hN hlen ⊢
    rw [h0] at Hchk
    clear hsN hNN h0
    obtain ⟨b, off, rfl, -⟩ := HA.out.byteAt (j := 0) (by omega)
    obtain ⟨A1, hsl1, hR1, -⟩ := slice_mid (P := Tryz.prog) 42 (by kernel_rfl) (fun _ => by kernel_rfl) (some ⟨b, off, none⟩) bs.length c 6 (6 + N) (by omega) (by omega) hc (fun h => by cases h)
    obtain ⟨A2, hsl2, hR2, -⟩ := slice_mid (P := Tryz.prog) 42 (by kernel_rfl) (fun _ => by kernel_rfl) (some ⟨b, off, none⟩) bs.length c (6 + N) (6 + 2 * N) (by omega) (by omega) hc (fun h => by cases h)
    have k1 : 6 + N - 6 = N := by omega
    have k2 : 6 + 2 * N - (6 + N) = N := by omega
    rw [k1] at hR1; rw [k2] at hR2
    simp only [k1] at hsl1
    simp only [k2] at hsl2
    have hsl1 : ∀ W, (Instr.slice 42 (.slice (some ⟨b, off, none⟩) bs.length c) (some (.int .i64 6)) (some (.int .i64 (6 + (N : Int)))) none).run Tryz.prog W = .ok (.slice A1 N (c - 6)) W := hsl1
    have hsl2 : ∀ W, (Instr.slice 42 (.slice (some ⟨b, off, none⟩) bs.length c) (some (.int .i64 (6 + (N : Int)))) (some (.int .i64 (6 + 2 * (N : Int)))) none).run Tryz.prog W = .ok (.slice A2 N (c - (6 + N))) W := by
      have e : ((6 + 2 * N : Nat) : Int) = 6 + 2 * (N : Int) := by omega
      have e2 : ((6 + N : Nat) : Int) = 6 + (N : Int) := by omega
      rw [e, e2] at hsl2; exact hsl2
    have e1 : IntKind.i64.wrap (6 + (N : Int)) = 6 + (N : Int) := IntWalk.i64_in _ (by omega)
    have e2 : IntKind.i64.wrap (2 * (N : Int)) = 2 * (N : Int) := IntWalk.i64_in _ (by omega)
    have e3 : IntKind.i64.wrap (6 + 2 * (N : Int)) = 6 + 2 * (N : Int) := IntWalk.i64_in _ (by omega)
    have hmk := fun W : World => make1 (P := Tryz.prog) 45 27 (.float .f32 0) 4 Tryz.underlying45 info37 rfl N (by omega) (by omega) W
    have HR1 := Lib.hid hR1; have HR2 := Lib.hid hR2
    have HLEN := Lib.hid hlen
    clear hR1 hR2 k1 k2 hlen
    go_enter Tryz.func16, Tryz.ntmps16
    go_wp2_with fail
    refine Hchk.out.mono ?_
    rintro e w1 ⟨rfl, hb1⟩
    have HB1 := Lib.hid hb1
    clear hb1
    go_wp2_with (go_at_call 54; refine (HNL.out _ HB1.out).mono ?_; rintro e w2 ⟨rfl, q2, rfl⟩)
    go_quiet (fail)
    clear hsl1 hsl2 e1 e2 e3
    go_wp2
    refine genA (w0 := w) w1.heap.size 27 (List.replicate N (.float .f32 0)) (Row.new _ _ _) ((below_drewN HB1.out _).alloc HB1.out.size _) ?_
    intro W R0 RB
    have G0 := Lib.hid R0; have GB := Lib.hid RB
    clear R0 RB hmk
    go_loopw [32] (fun i wr => ∃ k : Nat, k ≤ N ∧ i = .int .i64 k ∧ Hid (Row wr w1.heap.size 27 (flts ((upX bs N).take k) ++ List.replicate (N - k) (.float .f32 0))) ∧ Hid (Below w.heap.size w wr)) (fun i _ => N - (intOf i).toNat)
    case atStart => exact ⟨0, Nat.zero_le _, rfl, by have := G0.out; show Row _ _ _ _; simpa [flts] using this, GB⟩
    case round =>
      obtain ⟨k, hk, rfl, g0, gb⟩ := hrel
      have z1 : Hid (w.heap.size ≤ w1.heap.size) := HB1.out.size
      by_cases hlt : k < N
      · obtain ⟨b1, o1, hA1, cx⟩ := HR1.out wr _ (HA.out.below gb.out) k _ (by have := byts_part (bs := bs) (f := 6) (h := 6 + N) (k := k) (by omega) (by have := HLEN.out; omega); rwa [show 6 + N - 6 = N by omega] at this)
        obtain ⟨b2, o2, hA2, cy⟩ := HR2.out wr _ (HA.out.below gb.out) k _ (by have := byts_part (bs := bs) (f := 6 + N) (h := 6 + N + N) (k := k) (by omega) (by have := HLEN.out; omega); rwa [show 6 + N + N - (6 + N) = N by omega] at this)
        subst hA1; subst hA2
        have hne1 : Hid (w1.heap.size ≠ b1) := by
          intro h; subst h
          obtain ⟨bq, oq, h1, h2⟩ := HR1.out w _ HA.out k _ (by have := byts_part (bs := bs) (f := 6) (h := 6 + N) (k := k) (by omega) (by have := HLEN.out; omega); rwa [show 6 + N - 6 = N by omega] at this)
          cases h1
          have h3 := World.block_lt_of_cell? w _ h2
          have h4 : w1.heap.size < w.heap.size := h3
          have := z1.out; omega
        have hne2 : Hid (w1.heap.size ≠ b2) := by
          intro h; subst h
          obtain ⟨bq, oq, h1, h2⟩ := HR2.out w _ HA.out k _ (by have := byts_part (bs := bs) (f := 6 + N) (h := 6 + N + N) (k := k) (by omega) (by have := HLEN.out; omega); rwa [show 6 + N + N - (6 + N) = N by omega] at this)
          cases h1
          have h3 := World.block_lt_of_cell? w _ h2
          have h4 : w1.heap.size < w.heap.size := h3
          have := z1.out; omega
        have hset := Lib.hid (part_setG (Value.float .f32) (upX bs N) (.float .f32 0) N k (by rw [upX_length]; exact hlt) (upX_length bs N).symm)
        have hget := Lib.hid (upX_get bs N k (by rw [upX_length]; exact hlt))
        have dx := byteAt_bd bs (6 + k)
        have dy := byteAt_bd bs (6 + N + k)
        obtain ⟨x, ex⟩ : ∃ x, x = byteAt bs (6 + k) := ⟨_, rfl⟩
        obtain ⟨y, ey⟩ : ∃ y, y = byteAt bs (6 + N + k) := ⟨_, rfl⟩
        rw [← ex] at cx dx hget; rw [← ey] at cy dy hget
        have Hc1 : Hid (Calls Tryz.prog 56 #[.int .u8 x, .int .u8 y] wr.drew fun e w' => e = .returned (.int .i64 (signI x y)) ∧ wr.drew = w') := signed_any x y wr.drew dx dy
        have hsb := signI_bd dx dy
        have Hc2 : Hid (Calls Tryz.prog 55 #[.int .i64 (signI x y)] wr.drew fun e w' => e = .returned (.float .f32 (fb (signI x y))) ∧ wr.drew = w') := sampleOf_any _ _ hsb
        obtain ⟨v0, hc0⟩ : ∃ v0, wr.cell? ⟨w1.heap.size, k, none⟩ = some v0 := ⟨_, g0.out.cellAt (by simp [flts, upX_length]; omega)⟩
        have hf0 := g0.out.free k
        clear dx dy hsb ex ey
        obtain ⟨sg, hsg⟩ : ∃ sg, sg = signI x y := ⟨_, rfl⟩
        rw [← hsg] at Hc1 Hc2 hget
        clear hsg
        have h15 : (k : Int) < (N : Int) := by omega
        have h16 : (0 : Int) ≤ (k : Int) := by omega
        have S1 : Hid (wr.cell? ⟨b1, o1 + k, none⟩ = some (.int .u8 x) ∧ wr.cell? ⟨b2, o2 + k, none⟩ = some (.int .u8 y)) := ⟨cx, cy⟩
        have hStore : ∀ v, Hid ((wr.drew.setCell ⟨w1.heap.size, k, none⟩ v).cell? ⟨b1, o1 + k, none⟩ = some (.int .u8 x) ∧ (wr.drew.setCell ⟨w1.heap.size, k, none⟩ v).cell? ⟨b2, o2 + k, none⟩ = some (.int .u8 y)) := fun v => ⟨(World.cell?_setCell_far wr.drew _ _ v hne1.out).trans cx, (World.cell?_setCell_far wr.drew _ _ v hne2.out).trans cy⟩
        have HStore := Lib.hid hStore
        clear hStore
        go_wp2
        go_region_held3 (fun w' => w'.cell? ⟨b1, o1 + k, none⟩ = some (.int .u8 x) ∧ w'.cell? ⟨b2, o2 + k, none⟩ = some (.int .u8 y)) (first | assumption | exact S1.out | exact (HStore.out _).out)
          (first | (go_at_call 56; refine Hc1.out.mono ?_; rintro e w' ⟨rfl, rfl⟩) | (go_at_call 55; refine Hc2.out.mono ?_; rintro e w' ⟨rfl, rfl⟩))
        all_goals go_wp2
        all_goals go_roundw
        all_goals first | (exact ⟨k + 1, by omega, by go_num, by have h := g0.out.set k (.float .f32 (fb sg)); rw [← hget.out] at h; simp only [flts] at h ⊢; rw [hset.out] at h; rw [← hget.out]; exact h, (gb.out.setCell z1.out _).drew⟩) | (simp [intOf]; omega)
      · obtain rfl : k = N := by omega
        have hrow : Row wr w1.heap.size 27 (flts (upX bs k)) := by
          have h := g0.out
          rw [Nat.sub_self, List.replicate_zero, List.append_nil, List.take_of_length_le (by rw [upX_length]; exact Nat.le_refl _)] at h
          exact h
        have Hrow := Lib.hid hrow
        have HCS : Hid (Calls Tryz.prog 42 #[.slice (some ⟨w1.heap.size, 0, none⟩) k k] wr fun e w' => e = .returned (.int .i64 (unpE bs)) ∧ Below wr.heap.size wr w') := by
          unfold Hid; rw [HE.out]; exact checkSamples_any _ _ _ (upX bs k) wr (Rd.row hrow) (upX_length bs k).symm
        clear hrow
        obtain ⟨er, her⟩ : ∃ er, er = unpE bs := ⟨_, rfl⟩
        rw [← her] at HCS
        have HER := Lib.hid her
        clear her
        by_cases hz : er = 0
        · subst hz
          go_wp2_with fail
          refine HCS.out.mono ?_
          rintro e w3 ⟨rfl, hb3⟩
          have HR3 := Lib.hid (Hrow.out.old hb3)
          go_wp2
          go_ret2
          exact ⟨.slice (some ⟨w1.heap.size, 0, none⟩) k k, by rw [← HER.out]; exact rfl, fun _ => ⟨_, rfl, HR3.out, z1.out⟩, fun h => absurd HER.out.symm h, gb.out.trans (hb3.mono gb.out.size)⟩
        · have hz2 : (er != 0) = true := by simpa using hz
          have HZ := Lib.hid hz
          clear hz
          go_wp2_with fail
          refine HCS.out.mono ?_
          rintro e w3 ⟨rfl, hb3⟩
          go_wp2
          go_ret2
          exact ⟨.slice none 0 0, by rw [← HER.out]; exact rfl, fun h => absurd (HER.out.trans h) HZ.out, fun _ => rfl, gb.out.trans (hb3.mono gb.out.size)⟩
  · have hz : (strE bs != 0) = true := by simpa using h0
    have HE : Hid (unpE bs = strE bs) := by unfold Hid unpE; rw [if_pos h0]
    have HZ := Lib.hid h0
    obtain ⟨er, her⟩ : ∃ er, er = strE bs := ⟨_, rfl⟩
    rw [← her] at Hchk hz HE HZ
    clear her h0
    go_enter Tryz.func16, Tryz.ntmps16
    go_wp2_with fail
    refine Hchk.out.mono ?_
    rintro e w1 ⟨rfl, hb1⟩
    go_wp2
    go_ret2
    exact ⟨.slice none 0 0, by rw [HE.out]; exact rfl, fun h => absurd (HE.out.symm.trans h) HZ.out, fun _ => rfl, hb1⟩
end Go.Proofs.YtkfkmnfejeocpaaGreatDoor

/- Contracts: two bytes of an integer by the reference; bytes compared. -/
namespace Go.Proofs.YtkfkmnfejeocpaaGreatDoor
set_option linter.all false
open Go.RowKit Go.Fl
set_option linter.unusedVariables false
set_option linter.unusedSimpArgs false

end Go.Proofs.YtkfkmnfejeocpaaGreatDoor

/- Contracts: streams: samples that are refused; equal bytes. -/
namespace Go.Proofs.YtkfkmnfejeocpaaGreatDoor
set_option linter.all false
open Go.RowKit Go.Fl
set_option linter.unusedVariables false
set_option linter.unusedSimpArgs false

end Go.Proofs.YtkfkmnfejeocpaaGreatDoor

/- Checks of both sides. -/
namespace Go.Proofs.YtkfkmnfejeocpaaGreatDoor
set_option linter.all false
open Go.RowKit Go.Fl
set_option linter.unusedVariables false
set_option linter.unusedSimpArgs false

theorem sampI_fb {n : Int} (hn : n.natAbs < 2 ^ 20) : sampI (fb n) = whenI (rangeB n (-16384) 16384) 3 := by
  have hV := V32_of (fb_spec hn).2
  rw [sampI_eq, partI, hV, if_neg (by simp), stepB, hV]
  simp only [cutI_mul, decide_true, Bool.and_true]
  have hp : (n * ((2 ^ 145 : Nat) : Int)).natAbs = n.natAbs * 2 ^ 145 := by rw [Int.natAbs_mul]; rfl
  rw [hp]
  have h0 : 0 < 2 ^ 145 := by decide
  by_cases h : n.natAbs ≤ 16384
  · have h1 : n.natAbs * 2 ^ 145 ≤ 16384 * 2 ^ 145 := Nat.mul_le_mul_right _ h
    have h2 : rangeB n (-16384) 16384 = false := by simp [rangeB]; omega
    rw [decide_eq_true h1, h2]; rfl
  · have h1 : ¬ n.natAbs * 2 ^ 145 ≤ 16384 * 2 ^ 145 := fun hc => h (Nat.le_of_mul_le_mul_right hc h0)
    have h2 : rangeB n (-16384) 16384 = true := by simp [rangeB]; omega
    rw [decide_eq_false h1, h2]; rfl

end Go.Proofs.YtkfkmnfejeocpaaGreatDoor

/- Pure facts for the law of turns (no program). -/
namespace Go.Proofs.YtkfkmnfejeocpaaGreatDoor
set_option linter.all false
open Go.RowKit Go.Fl
set_option linter.unusedVariables false
set_option linter.unusedSimpArgs false

theorem S_fb {n : Int} (h : n.natAbs < 2 ^ 20) : S (fb n) n := (fb_spec h).2
theorem fb_samp {n : Int} (h : n.natAbs ≤ 16384) : sampI (fb n) = 0 := by
  rw [sampI_fb (by omega)]
  unfold whenI rangeB
  rw [if_neg]
  simp; omega
theorem unitI_of {x : Nat} {n : Int} (h : S x n) : unitI x = n := by
  unfold unitI; rw [V32_of h]; exact cutI_mul n
/-- the bits of integers -/
def fbs (a : List Int) : List Nat := a.map fb
theorem fbs_samp {a : List Int} (h : ∀ x ∈ a, x.natAbs ≤ 16384) : ∀ y ∈ fbs a, sampI y = 0 := by
  intro y hy
  obtain ⟨x, hx, rfl⟩ := List.mem_map.1 hy
  exact fb_samp (h x hx)
theorem fbs_samps {a : List Int} (hl : a.length ≤ 4096) (h : ∀ x ∈ a, x.natAbs ≤ 16384) : sampsI (fbs a) = 0 := by
  unfold sampsI
  rw [if_neg (by simp [fbs]; omega)]
  refine firstI_zero ?_
  intro z hz
  obtain ⟨y, hy, rfl⟩ := List.mem_map.1 hz
  exact fbs_samp h y hy

theorem four0 (a b c d : Int) : fourP [a, b, c, d] 0 4 = (a + b + c + d, 0) := by
  simp [fourP, powR, powI]
theorem four1 (a b c d : Int) : fourP [a, b, c, d] 1 4 = (a - c, d - b) := by
  simp [fourP, powR, powI]; omega
theorem four2 (a b c d : Int) : fourP [a, b, c, d] 2 4 = (a - b + c - d, 0) := by
  simp [fourP, powR, powI]; omega
theorem four3 (a b c d : Int) : fourP [a, b, c, d] 3 4 = (a - c, b - d) := by
  simp [fourP, powR, powI]; omega
theorem partI_S {x : Nat} {n : Int} (h : S x n) (hb : n.natAbs ≤ 65536) : partI x 65536 = 0 := by
  unfold partI
  rw [V32_of h, if_neg (by simp), stp_of h hb]
  rfl
/-- the power of a transform -/
theorem power_four (a b c d : Int) : ((a + b + c + d) * (a + b + c + d) + 0 * 0) + ((a - c) * (a - c) + (d - b) * (d - b)) + ((a - b + c - d) * (a - b + c - d) + 0 * 0) + ((a - c) * (a - c) + (b - d) * (b - d)) = 4 * (a * a + b * b + c * c + d * d) := by
  grind
theorem sq_bd {x : Int} {m : Int} (h : x.natAbs ≤ m) : 0 ≤ x * x ∧ x * x ≤ m * m := by
  have h1 : x * x = (x.natAbs : Int) * x.natAbs := (Int.natAbs_mul_self (a := x)).symm
  rw [h1]
  refine ⟨Int.mul_nonneg (by omega) (by omega), Int.mul_le_mul h h (by omega) (by omega)⟩

/-! streams -/
theorem hi_fb {n : Int} (h : n.natAbs ≤ 16384) : hiI (fb n) = n % 65536 / 256 ∧ loI (fb n) = n % 256 := by
  unfold hiI loI
  rw [unitI_of (S_fb (by omega))]
  exact ⟨rfl, rfl⟩
theorem sign_back {n : Int} (h : n.natAbs ≤ 16384) : signI (n % 65536 / 256) (n % 256) = n := by
  unfold signI wholeI
  split <;> omega
def bodyT (a b c d : Int) : List Int := [71, 76, 83, 49, 0, 4, a % 65536 / 256, b % 65536 / 256, c % 65536 / 256, d % 65536 / 256, a % 256, b % 256, c % 256, d % 256]
theorem bodyI_T {a b c d : Int} (ha : a.natAbs ≤ 16384) (hb : b.natAbs ≤ 16384) (hc : c.natAbs ≤ 16384) (hd : d.natAbs ≤ 16384) : bodyI (fbs [a, b, c, d]) = bodyT a b c d := by
  unfold bodyI headI fbs bodyT
  simp only [List.map_cons, List.map_nil, (hi_fb ha).1, (hi_fb hb).1, (hi_fb hc).1, (hi_fb hd).1, (hi_fb ha).2, (hi_fb hb).2, (hi_fb hc).2, (hi_fb hd).2]
  simp
theorem bodyT_byte (a b c d : Int) : ∀ x ∈ bodyT a b c d, isByte x := by
  intro x hx
  simp only [bodyT, List.mem_cons, List.not_mem_nil, or_false] at hx
  unfold isByte
  rcases hx with rfl | rfl | rfl | rfl | rfl | rfl | rfl | rfl | rfl | rfl | rfl | rfl | rfl | rfl <;> omega
theorem natsI_toB {l : List Int} (h : ∀ x ∈ l, isByte x) : natsI (toB l) = l := by
  induction l with
  | nil => rfl
  | cons x l ih =>
    have hx := h x (by simp)
    unfold isByte at hx
    have e : ((UInt8.ofNat x.toNat).toNat : Int) = x := by
      rw [UInt8.toNat_ofNat', Nat.mod_eq_of_lt (by omega)]; omega
    show ((UInt8.ofNat x.toNat).toNat : Int) :: natsI (toB l) = x :: l
    rw [e, ih fun y hy => h y (by simp [hy])]
theorem natsI_inj : ∀ {l m : List UInt8}, natsI l = natsI m → l = m
  | [], [], _ => rfl
  | [], _ :: _, h => by simp [natsI] at h
  | _ :: _, [], h => by simp [natsI] at h
  | x :: l, y :: m, h => by
    have h2 : ((x.toNat : Int) :: natsI l) = (y.toNat : Int) :: natsI m := h
    injection h2 with e1 e2
    rw [natsI_inj e2]
    congr 1
    exact UInt8.toNat_inj.1 (by omega)
theorem byteAt_toB {l : List Int} (h : ∀ x ∈ l, isByte x) {k : Nat} (hk : k < l.length) : byteAt (toB l) k = l.getD k 0 := by
  have e : (natsI (toB l)).getD k 0 = l.getD k 0 := by rw [natsI_toB h]
  rw [← e]
  unfold byteAt natsI
  simp [List.getD_eq_getElem?_getD, List.getElem?_map]
  cases (toB l)[k]? <;> simp

theorem seal_byte (bs : List UInt8) : ∀ x ∈ sealL zero8 bs, isByte x := sealL_byte _ _ (fun z hz => by simp [zero8] at hz; subst hz; unfold isByte; omega)
/-- a stream of four samples -/
def strT (a b c d : Int) : List UInt8 := toB (bodyT a b c d ++ sealL zero8 (toB (bodyT a b c d)))
theorem strT_len (a b c d : Int) : (strT a b c d).length = 22 := by
  unfold strT; rw [toB_length, List.length_append, seal8]; rfl
theorem strT_take (a b c d : Int) : (strT a b c d).take 14 = toB (bodyT a b c d) := by
  unfold strT toB
  rw [List.map_append, List.take_left' (by simp [bodyT])]
theorem strT_drop (a b c d : Int) : (strT a b c d).drop 14 = toB (sealL zero8 (toB (bodyT a b c d))) := by
  unfold strT
  show (toB _).drop 14 = _
  unfold toB
  rw [List.map_append, List.drop_left' (by simp [bodyT])]
theorem strT_at (a b c d : Int) {k : Nat} (hk : k < 14) : byteAt (strT a b c d) k = (bodyT a b c d).getD k 0 := by
  have e : byteAt (strT a b c d) k = byteAt ((strT a b c d).take 14) k := by
    unfold byteAt
    simp [List.getD_eq_getElem?_getD, List.getElem?_take, hk]
  rw [e, strT_take, byteAt_toB (bodyT_byte a b c d) (by simpa [bodyT] using hk)]
theorem strT_sealed (a b c d : Int) : sealedB zero8 (strT a b c d) = true := by
  unfold sealedB
  rw [strT_len, strT_drop, strT_take, natsI_toB (seal_byte _)]
  simp
theorem strT_N (a b c d : Int) : strN (strT a b c d) = 4 := by
  unfold strN
  rw [strT_at _ _ _ _ (by omega), strT_at _ _ _ _ (by omega)]
  rfl
theorem strT_head (a b c d : Int) : (strT a b c d).take 4 = [71, 76, 83, 49] := by
  have e : (strT a b c d).take 4 = ((strT a b c d).take 14).take 4 := by rw [List.take_take]; rfl
  rw [e, strT_take]
  rfl
theorem strT_E (a b c d : Int) : strE (strT a b c d) = 0 := by
  unfold strE
  rw [if_neg (by rw [strT_len]; omega), if_neg (by rw [strT_len]; omega), if_neg (by rw [strT_head]; simp), if_neg (by rw [strT_len, strT_N]; omega), strT_sealed]
  rfl
theorem strT_X {a b c d : Int} (ha : a.natAbs ≤ 16384) (hb : b.natAbs ≤ 16384) (hc : c.natAbs ≤ 16384) (hd : d.natAbs ≤ 16384) : upX (strT a b c d) (unpN (strT a b c d)) = fbs [a, b, c, d] := by
  have hN : unpN (strT a b c d) = 4 := by unfold unpN; rw [strT_N]; rfl
  rw [hN]
  have e : ∀ k, k < 14 → byteAt (strT a b c d) k = (bodyT a b c d).getD k 0 := fun k hk => strT_at a b c d hk
  show [fb (signI (byteAt (strT a b c d) 6) (byteAt (strT a b c d) 10)), fb (signI (byteAt (strT a b c d) 7) (byteAt (strT a b c d) 11)), fb (signI (byteAt (strT a b c d) 8) (byteAt (strT a b c d) 12)), fb (signI (byteAt (strT a b c d) 9) (byteAt (strT a b c d) 13))] = _
  rw [e 6 (by omega), e 7 (by omega), e 8 (by omega), e 9 (by omega), e 10 (by omega), e 11 (by omega), e 12 (by omega), e 13 (by omega)]
  show [fb (signI (a % 65536 / 256) (a % 256)), fb (signI (b % 65536 / 256) (b % 256)), fb (signI (c % 65536 / 256) (c % 256)), fb (signI (d % 65536 / 256) (d % 256))] = _
  rw [sign_back ha, sign_back hb, sign_back hc, sign_back hd]
  rfl
theorem strT_unp {a b c d : Int} (ha : a.natAbs ≤ 16384) (hb : b.natAbs ≤ 16384) (hc : c.natAbs ≤ 16384) (hd : d.natAbs ≤ 16384) : unpE (strT a b c d) = 0 := by
  unfold unpE
  rw [strT_E, if_neg (by simp), strT_X ha hb hc hd]
  refine fbs_samps (by simp) ?_
  intro x hx
  simp only [List.mem_cons, List.not_mem_nil, or_false] at hx
  rcases hx with rfl | rfl | rfl | rfl <;> assumption

/-! a seal tells a byte that is another one -/
theorem step0_inj {x y b : Int} (hx : 0 ≤ x ∧ x ≤ 255) (hy : 0 ≤ y ∧ y ≤ 255) (h : x ≠ y) : stepX 0 x b ≠ stepX 0 y b := by
  unfold stepX; intro e; omega
theorem step0_byte {x b c : Int} (hb : 0 ≤ b ∧ b ≤ 255) (hc : 0 ≤ c ∧ c ≤ 255) (h : b ≠ c) : stepX 0 x b ≠ stepX 0 x c := by
  unfold stepX; intro e; omega
theorem seal0_ne : ∀ (bs : List UInt8) {x y : Int}, (0 ≤ x ∧ x ≤ 255) → (0 ≤ y ∧ y ≤ 255) → x ≠ y → sealB 0 x bs ≠ sealB 0 y bs
  | [], _, _, _, _, h => h
  | b :: bs, x, y, hx, hy, h => seal0_ne bs (stepX_bd 0 x _) (stepX_bd 0 y _) (step0_inj hx hy h)
theorem seal0_set : ∀ (bs : List UInt8) (k : Nat) (hk : k < bs.length) (c : UInt8) (x : Int), c ≠ bs[k] → sealB 0 x (bs.set k c) ≠ sealB 0 x bs
  | b :: bs, 0, _, c, x, h => by
    show sealB 0 (stepX 0 x c.toNat) bs ≠ sealB 0 (stepX 0 x b.toNat) bs
    have h1 := c.toNat_lt; have h2 := b.toNat_lt
    have h' : c ≠ b := h
    refine seal0_ne bs (stepX_bd _ _ _) (stepX_bd _ _ _) (step0_byte (by omega) (by omega) fun e => h' ?_)
    exact UInt8.toNat_inj.1 (by omega)
  | b :: bs, k + 1, hk, c, x, h => by
    show sealB 0 (stepX 0 x b.toNat) (bs.set k c) ≠ sealB 0 (stepX 0 x b.toNat) bs
    exact seal0_set bs k (by simpa using hk) c _ (by simpa using h)
theorem sealL_set (bs : List UInt8) (k : Nat) (hk : k < bs.length) (c : UInt8) (h : c ≠ bs[k]) : sealL zero8 (bs.set k c) ≠ sealL zero8 bs := by
  intro e
  have e2 : (sealL zero8 (bs.set k c)).getD 0 0 = (sealL zero8 bs).getD 0 0 := by rw [e]
  exact seal0_set bs k hk c 0 h e2
/-- a stream with one byte changed is not accepted -/
theorem strT_broken (a b c d : Int) (k : Nat) (hk : k < (strT a b c d).length) (v : UInt8) (hv : v ≠ (strT a b c d)[k]) : unpE ((strT a b c d).set k v) ≠ 0 := by
  have hlen := strT_len a b c d
  have hl2 : ((strT a b c d).set k v).length = 22 := by rw [List.length_set, hlen]
  have hE : strE ((strT a b c d).set k v) ≠ 0 := by
    unfold strE
    rw [if_neg (by rw [hl2]; omega), if_neg (by rw [hl2]; omega)]
    split
    · omega
    rename_i h4
    have h4' : ((strT a b c d).set k v).take 4 = [71, 76, 83, 49] := by
      cases Classical.em (((strT a b c d).set k v).take 4 = [71, 76, 83, 49]) with
      | inl h => exact h
      | inr h => exact absurd h h4
    have hk4 : 4 ≤ k := by
      cases Nat.lt_or_ge k 4 with
      | inr h => exact h
      | inl h =>
        exfalso
        rw [← strT_head a b c d] at h4'
        have e : (((strT a b c d).set k v).take 4)[k]? = ((strT a b c d).take 4)[k]? := by rw [h4']
        rw [List.getElem?_take_of_lt h, List.getElem?_take_of_lt h, List.getElem?_set_self hk, List.getElem?_eq_getElem hk] at e
        exact hv (Option.some.inj e)
    split
    · omega
    rename_i hN
    have hN' : strN ((strT a b c d).set k v) = 4 := by rw [hl2] at hN; omega
    have hk6 : 6 ≤ k := by
      cases Nat.lt_or_ge k 6 with
      | inr h => exact h
      | inl h =>
        exfalso
        have h1 := strT_N a b c d
        unfold strN wholeI at h1 hN'
        have g4 := byteAt_bd (strT a b c d) 4; have g5 := byteAt_bd (strT a b c d) 5
        have g4' := byteAt_bd ((strT a b c d).set k v) 4; have g5' := byteAt_bd ((strT a b c d).set k v) 5
        have e4 : byteAt ((strT a b c d).set k v) 4 = byteAt (strT a b c d) 4 := by omega
        have e5 : byteAt ((strT a b c d).set k v) 5 = byteAt (strT a b c d) 5 := by omega
        have hs : ∀ j, j = k → byteAt ((strT a b c d).set k v) j ≠ byteAt (strT a b c d) j := by
          intro j hj
          subst hj
          unfold byteAt
          rw [List.getD_eq_getElem?_getD, List.getElem?_set_self hk, List.getD_eq_getElem?_getD, List.getElem?_eq_getElem hk]
          intro e
          have e' : (v.toNat : Int) = ((strT a b c d)[j].toNat : Int) := by simpa using e
          exact hv (UInt8.toNat_inj.1 (by omega))
        rcases (show k = 4 ∨ k = 5 by omega) with h5 | h5
        · exact hs 4 h5.symm e4
        · exact hs 5 h5.symm e5
    have hse : sealedB zero8 ((strT a b c d).set k v) = false := by
      have ho := strT_sealed a b c d
      unfold sealedB at ho ⊢
      rw [hl2]
      rw [hlen] at ho
      have ho' : natsI ((strT a b c d).drop 14) = sealL zero8 ((strT a b c d).take 14) := by simpa using ho
      rw [beq_eq_false_iff_ne]
      show natsI (((strT a b c d).set k v).drop 14) ≠ sealL zero8 (((strT a b c d).set k v).take 14)
      cases Nat.lt_or_ge k 14 with
      | inl h =>
        have e1 : ((strT a b c d).set k v).drop 14 = (strT a b c d).drop 14 := List.drop_set_of_lt (by omega)
        have e2 : ((strT a b c d).set k v).take 14 = ((strT a b c d).take 14).set k v := by rw [List.take_set]
        rw [e1, e2, ho']
        have hk2 : k < ((strT a b c d).take 14).length := by rw [List.length_take, hlen]; omega
        refine (sealL_set _ k hk2 v ?_).symm
        rw [List.getElem_take]; exact hv
      | inr h =>
        have e2 : ((strT a b c d).set k v).take 14 = (strT a b c d).take 14 := List.take_set_of_le h
        rw [e2, ← ho']
        intro e
        have e3 := natsI_inj e
        have e4 : (((strT a b c d).set k v).drop 14)[k - 14]? = ((strT a b c d).drop 14)[k - 14]? := by rw [e3]
        rw [List.getElem?_drop, List.getElem?_drop, show 14 + (k - 14) = k by omega, List.getElem?_set_self hk, List.getElem?_eq_getElem hk] at e4
        exact hv (Option.some.inj e4)
    rw [hse]
    simp
  unfold unpE
  rw [if_pos hE]
  exact hE

/-! a permutation has each number once -/
def InjL (l : List Int) (n : Nat) : Prop := l.length = n ∧ (∀ i, i < n → 0 ≤ l.getD i 0 ∧ l.getD i 0 < n) ∧ ∀ i j, i < n → j < n → l.getD i 0 = l.getD j 0 → i = j
theorem swapAt_getD (l : List Int) (i j k : Nat) (hi : i < l.length) (hj : j < l.length) : (swapAt l i j).getD k 0 = if k = j then l.getD i 0 else if k = i then l.getD j 0 else l.getD k 0 := by
  unfold swapAt
  simp only [List.getD_eq_getElem?_getD, List.getElem?_set, List.length_set]
  by_cases h1 : k = j
  · subst h1; simp [hj]
  · have h1' : ¬ j = k := fun e => h1 e.symm
    rw [if_neg h1', if_neg h1]
    by_cases h2 : k = i
    · subst h2; simp [hi]
    · have h2' : ¬ i = k := fun e => h2 e.symm
      rw [if_neg h2', if_neg h2]
theorem InjL.swap {l : List Int} {n i j : Nat} (h : InjL l n) (hi : i < n) (hj : j < n) : InjL (swapAt l i j) n := by
  obtain ⟨h1, h2, h3⟩ := h
  subst h1
  refine ⟨swap_length _ _ _, fun k hk => ?_, fun p q hp hq e => ?_⟩
  · rw [swapAt_getD l i j k hi hj]
    split
    · exact h2 i hi
    · split
      · exact h2 j hj
      · exact h2 k hk
  · rw [swapAt_getD l i j p hi hj, swapAt_getD l i j q hi hj] at e
    have g : ∀ x y, x < l.length → y < l.length → l.getD x 0 = l.getD y 0 → x = y := h3
    split at e <;> split at e <;> (try split at e) <;> (try split at e) <;> first | (have := g _ _ (by assumption) (by assumption) e; omega) | omega
theorem drawGo_inj : ∀ (q : Nat) (l : List Int) (x : Int) (n : Nat), InjL l n → (q < n ∨ q = 0) → InjL (drawGo q l x) n
  | 0, l, x, n, h, _ => h
  | q + 1, l, x, n, h, hq => by
    have hq' : q + 1 < n := by omega
    refine drawGo_inj q _ _ n (h.swap hq' ?_) (by omega)
    have : 0 ≤ nextX x % ((q : Int) + 2) ∧ nextX x % ((q : Int) + 2) < (q : Int) + 2 := ⟨Int.emod_nonneg _ (by omega), Int.emod_lt_of_pos _ (by omega)⟩
    omega
theorem upTo_inj (n : Nat) : InjL (upTo n) n := by
  have hg : ∀ i, i < n → (upTo n).getD i 0 = (i : Int) := fun i hi => by
    unfold upTo; simp [List.getD_eq_getElem?_getD, hi]
  refine ⟨by simp [upTo], fun i hi => by rw [hg i hi]; omega, fun i j hi hj e => by rw [hg i hi, hg j hj] at e; omega⟩
theorem drawL_inj (x : Int) (n : Nat) : InjL (drawL x n) n := drawGo_inj _ _ _ _ (upTo_inj n) (by omega)
/-- what was seen -/
def SeenD (D : DataW Unit) (l : List Int) (k : Nat) : Prop := Maps.IsMap D ∧ ∀ y : Int, D.atKey (.int .i64 y) (.lit (.bool false)) = .lit (.bool (decide (y ∈ l.take k)))
end Go.Proofs.YtkfkmnfejeocpaaGreatDoor

/- Owned rows, equal lists. -/
namespace Go.Proofs.YtkfkmnfejeocpaaGreatDoor
set_option linter.all false
open Go.RowKit Go.Fl
set_option linter.unusedVariables false
set_option linter.unusedSimpArgs false

end Go.Proofs.YtkfkmnfejeocpaaGreatDoor

/- Pure facts for the law of turns: its sums (no program). -/
namespace Go.Proofs.YtkfkmnfejeocpaaGreatDoor
set_option linter.all false
open Go.RowKit Go.Fl
set_option linter.unusedVariables false
set_option linter.unusedSimpArgs false

theorem xT_bd (l : Int) : (l.tmod 2001).natAbs ≤ 2000 := by
  have h1 := Int.natAbs_tmod l 2001
  rw [h1]
  have := Nat.mod_lt l.natAbs (show 0 < 2001 by decide)
  show l.natAbs % 2001 ≤ 2000
  omega
theorem byT_bd (l : Int) : (l.tmod 101).natAbs ≤ 100 := by
  have h1 := Int.natAbs_tmod l 101
  rw [h1]
  have := Nat.mod_lt l.natAbs (show 0 < 101 by decide)
  show l.natAbs % 101 ≤ 100
  omega
def sK (X : List Int) : Nat → Int
  | 0 => 0
  | k + 1 => sK X k + X.getD k 0
def qK (X : List Int) : Nat → Int
  | 0 => 0
  | k + 1 => qK X k + X.getD k 0 * X.getD k 0
theorem sK_bd {X : List Int} (h : ∀ k, (X.getD k 0).natAbs ≤ 2000) (k : Nat) : (sK X k).natAbs ≤ 2000 * k := by
  induction k with
  | zero => simp [sK]
  | succ k ih => have := h k; rw [sK]; omega
theorem qK_bd {X : List Int} (h : ∀ k, (X.getD k 0).natAbs ≤ 2000) (k : Nat) : 0 ≤ qK X k ∧ qK X k ≤ 4000000 * k := by
  induction k with
  | zero => simp [qK]
  | succ k ih => have h2 := sq_bd (x := X.getD k 0) (m := 2000) (by have := h k; omega); rw [qK]; omega
def fA (X : List Int) (k : Nat) : List Value := (List.range 4).map fun j => if j < k then .float .f32 (fb (X.getD j 0)) else .float .f32 0
theorem fA_set (X : List Int) (k : Nat) (hk : k < 4) : (fA X k).set k (.float .f32 (fb (X.getD k 0))) = fA X (k + 1) := by
  rcases (show k = 0 ∨ k = 1 ∨ k = 2 ∨ k = 3 by omega) with rfl | rfl | rfl | rfl <;> rfl
theorem fA_len (X : List Int) (k : Nat) : (fA X k).length = 4 := by simp [fA]
theorem fA_all (a b c d : Int) : fA [a, b, c, d] 4 = flts (fbs [a, b, c, d]) := rfl
/-- the power of the first k parts of a transform -/
def pK (a : List Int) : Nat → Int
  | 0 => 0
  | k + 1 => pK a k + ((fourP a k 4).1 * (fourP a k 4).1 + (fourP a k 4).2 * (fourP a k 4).2)
theorem pK_bd {a : List Int} (h : ∀ j, (a.getD j 0).natAbs ≤ 16384) (k : Nat) : 0 ≤ pK a k ∧ pK a k ≤ 8589934592 * k := by
  induction k with
  | zero => simp [pK]
  | succ k ih =>
    have hb := fourP_bd a k 4 h
    have h1 := sq_bd (x := (fourP a k 4).1) (m := 65536) (by omega)
    have h2 := sq_bd (x := (fourP a k 4).2) (m := 65536) (by omega)
    rw [pK]; omega
theorem pK_all (a b c d : Int) : pK [a, b, c, d] 4 = 4 * (a * a + b * b + c * c + d * d) := by
  have h := power_four a b c d
  simp only [pK, four0, four1, four2, four3]
  omega
theorem four_shift (a b c d m : Int) (k : Nat) (h0 : 0 < k) (hk : k < 4) : fourP [a + m, b + m, c + m, d + m] k 4 = fourP [a, b, c, d] k 4 := by
  rcases (show k = 1 ∨ k = 2 ∨ k = 3 by omega) with rfl | rfl | rfl
  · rw [four1, four1]; refine Prod.ext ?_ ?_ <;> simp <;> omega
  · rw [four2, four2]; refine Prod.ext ?_ ?_ <;> simp <;> omega
  · rw [four3, four3]; refine Prod.ext ?_ ?_ <;> simp <;> omega
end Go.Proofs.YtkfkmnfejeocpaaGreatDoor
