/- Texts that were made one by one: As Ke Pk. -/
import Derived.Test.YtjgofnbfpoephaaGreatDoorM11
import Derived.Test.YtjgofnbfpoephaaGreatDoorM14
import Derived.Test.YtjgofnbfpoephaaGreatDoorM12
import Derived.Test.YtjgofnbfpoephaaGreatDoorM05
import Derived.Test.YtjgofnbfpoephaaGreatDoorM07
import Derived.Lib.SlBytesConst
import Derived.ArgAppend
/- Contracts: the spans in which samples are missing. -/
namespace Go.Proofs.YtjgofnbfpoephaaGreatDoor
set_option linter.all false
open Go.RowKit Go.Fl
set_option linter.unusedVariables false
set_option linter.unusedSimpArgs false

def bools (bs : List Bool) : List Value := bs.map Value.bool
theorem Rd.bool {w : World} {A : Option Addr} {xs : List Bool} (h : Rd w A (bools xs)) {j : Nat} (hj : j < xs.length) : ∃ b off, A = some ⟨b, off, none⟩ ∧ w.cell? ⟨b, off + j, none⟩ = some (.bool xs[j]) := by
  obtain ⟨b, off, h1, h2⟩ := Rd.at h (j := j) (by simpa [bools] using hj)
  exact ⟨b, off, h1, by rw [h2]; simp [bools]⟩
def gapsGo : List Bool → Nat → List (Int × Int) → List (Int × Int)
  | [], _, sp => sp
  | b :: bs, i, sp => gapsGo bs (i + 1) (if b then sp else widL sp i)
def gapsL (bs : List Bool) : List (Int × Int) := gapsGo bs 0 []
theorem gapsGo_drop {bs : List Bool} {k : Nat} (hk : k < bs.length) (sp : List (Int × Int)) : gapsGo (bs.drop k) k sp = gapsGo (bs.drop (k + 1)) (k + 1) (if bs[k] then sp else widL sp k) := by
  rw [List.drop_eq_getElem_cons hk, gapsGo]

set_option maxHeartbeats 400000 in
theorem not_any (b : Bool) (w : World) : Calls Tryz.prog 120 #[.bool b] w fun e w' => e = .returned (.bool (!b)) ∧ w = w' := by
  go_enter Tryz.func120, Tryz.ntmps120
  go_wp2
  go_ret
  exact ⟨rfl, rfl⟩

set_option maxRecDepth 100000 in
set_option maxHeartbeats 1000000 in
theorem spansWhere_any (A : Option Addr) (n c : Nat) (bs : List Bool) (w : World) (hA : Rd w A (bools bs)) (hn : n = bs.length) (hm : bs.length ≤ 4096) :
    Calls Tryz.prog 119 #[.slice A n c, .func (.func 120) #[] #[]] w fun e w' => ∃ v, e = .returned v ∧ w'.ownsRow w.heap.size 94 2 v (gapsL bs).length (spanC (gapsL bs)) ∧ Below w.heap.size w w' := by
  subst hn
  have HA := Lib.hid hA
  clear hA
  go_enter Tryz.func119, Tryz.ntmps119
  go_wp2
  go_loopw [5, 10] (fun v i wr => ∃ (k : Nat) (sp : List (Int × Int)), k ≤ bs.length ∧ i = .int .i64 k ∧ Hid (sp.length ≤ k) ∧ Hid (gapsGo (bs.drop k) k sp = gapsL bs) ∧ Hid (wr.ownsRow w.heap.size 94 2 v sp.length (spanC sp)) ∧ Hid (Below w.heap.size w wr)) (fun _ i _ => bs.length - (intOf i).toNat)
  case atStart => exact ⟨0, [], Nat.zero_le _, rfl, Nat.le_refl _, rfl, World.ownsRow_nil _ _ _ _, Below.refl _ _⟩
  case round =>
    obtain ⟨k, sp, hk, rfl, Hl, Hg, Ho, Hb⟩ := hrel
    by_cases hlt : k < bs.length
    · obtain ⟨b, off, hAb, hc⟩ := Rd.bool (HA.out.below Hb.out) hlt
      subst hAb
      have hgd := gapsGo_drop hlt sp
      rw [Hg.out] at hgd
      obtain ⟨x, hx⟩ : ∃ x, x = bs[k] := ⟨_, rfl⟩
      rw [← hx] at hc hgd
      have Hgd := Lib.hid hgd
      clear hgd hx
      cases x
      · have hl6 : Hid (sp.length ≤ 1000000) := by unfold Hid; have := Hl.out; omega
        have hi9 : Hid (0 ≤ (k : Int) ∧ (k : Int) ≤ 1000000000) := by unfold Hid; omega
        go_wp2_with (first
          | (go_at_call 120; refine (not_any _ _).mono ?_; rintro e w1 ⟨rfl, rfl⟩)
          | (go_at_call 114; refine (widened_any w.heap.size _ sp (k : Int) _ Ho.out Hb.out.size hl6.out hi9.out).mono ?_; rintro e w2 ⟨v', rfl, ho2, hst2⟩; have Hb2 := Lib.hid (Hb.out.trans (hst2.below Ho.out Hb.out.size)); have Ho2 := Lib.hid ho2; clear ho2 hst2))
        go_roundw
        case rel => exact ⟨k + 1, widL sp k, by omega, by go_num, by have := widL_le sp k; have := Hl.out; show _ ≤ _; omega, by show _ = _; rw [Hgd.out]; rfl, Ho2, Hb2⟩
        case measure => simp [intOf]; omega
      · go_wp2_with (go_at_call 120; refine (not_any _ _).mono ?_; rintro e w1 ⟨rfl, rfl⟩)
        go_roundw
        case rel => exact ⟨k + 1, sp, by omega, by go_num, by have := Hl.out; show _ ≤ _; omega, by show _ = _; rw [Hgd.out]; rfl, Ho, Hb⟩
        case measure => simp [intOf]; omega
    · obtain rfl : k = bs.length := by omega
      have hg : sp = gapsL bs := by have h := Hg.out; rwa [List.drop_of_length_le (Nat.le_refl _)] at h
      have Hgl := Lib.hid hg
      clear hg
      go_wp2
      go_ret
      exact ⟨_, rfl, by rw [← Hgl.out]; exact Ho.out, Hb.out⟩
end Go.Proofs.YtjgofnbfpoephaaGreatDoor

/- Contracts: words are keyed. -/
namespace Go.Proofs.YtjgofnbfpoephaaGreatDoor
set_option linter.all false
open Go.RowKit Go.Fl
set_option linter.unusedVariables false
set_option linter.unusedSimpArgs false

/-- the error of a word -/
def wordI (l : List UInt8) : Int := if firstI [whenI l.isEmpty 12, whenI (decide (4 < l.length)) 26] ≠ 0 then firstI [whenI l.isEmpty 12, whenI (decide (4 < l.length)) 26] else if l.all (fun c => capB (u8I c)) then 0 else 1

theorem wordI_empty : wordI [] = 12 := by decide
theorem wordI_long {l : List UInt8} (h : 4 < l.length) : wordI l = 26 := by
  have he : l.isEmpty = false := by cases l with | nil => simp at h | cons a l => rfl
  unfold wordI; rw [he]; simp [h, firstI, whenI]
theorem wordI_short {l : List UInt8} (h0 : l.isEmpty = false) (h : l.length ≤ 4) : wordI l = if l.all (fun c => capB (u8I c)) then 0 else 1 := by
  have h4 : decide (4 < l.length) = false := by simp; omega
  unfold wordI; rw [h0, h4]; rfl
set_option maxRecDepth 100000 in
set_option maxHeartbeats 1000000 in
theorem checkWord_any (s : ByteArray) (w : World) : Calls Tryz.prog 134 #[.string s] w fun e w' => e = .returned (.int .i64 (wordI s.data.toList)) ∧ Below w.heap.size w w' := by
  have hl : s.data.toList.length = s.size := by simp
  by_cases h0 : s.size = 0
  · have he : s = ByteArray.empty := by
      obtain ⟨⟨l⟩⟩ := s
      cases l with
      | nil => rfl
      | cons a l => simp [ByteArray.size] at h0
    subst he
    clear h0 hl
    go_enter Tryz.func134, Tryz.ntmps134
    go_wp2_with (first | (go_at_call 91; refine (failed_any _ _ _).mono ?_; rintro e w1 ⟨rfl, rfl⟩) | (go_at_call 87; refine (firstV_any _ _ _ [whenI true 12, whenI false 26] _ ?_ rfl (by simp)).mono ?_; (exact Rd.new _ _ _ _ (by simp)); rintro e w1 ⟨rfl, rfl⟩) | (go_at_call 168; refine (isCapital_any _ _).mono ?_; rintro e w1 ⟨rfl, rfl⟩))
    go_ret
    exact ⟨rfl, (Below.refl _ _).alloc (Nat.le_refl _) _⟩
  · have hp : 0 < s.size := by omega
    have hne := isEmpty_eq s hp
    have hne2 : s.toList.isEmpty = false := by rw [ByteArray.toList_eq]; exact hne
    by_cases h1 : 4 < s.size
    · have HW := Lib.hid (wordI_long (l := s.data.toList) (by rw [hl]; exact h1))
      have h1b : decide ((4 : Int) < (s.size : Int)) = true := by simp; omega
      clear hl hne h0 hp
      go_enter Tryz.func134, Tryz.ntmps134
      go_wp2_with (first | (go_at_call 91; refine (failed_any _ _ _).mono ?_; rintro e w1 ⟨rfl, rfl⟩) | (go_at_call 87; refine (firstV_any _ _ _ [whenI false 12, whenI true 26] _ ?_ rfl (by simp)).mono ?_; (exact Rd.new _ _ _ _ (by simp)); rintro e w1 ⟨rfl, rfl⟩) | (go_at_call 168; refine (isCapital_any _ _).mono ?_; rintro e w1 ⟨rfl, rfl⟩))
      go_ret
      exact ⟨ret_int (by rw [HW.out]; rfl), (Below.refl _ _).alloc (Nat.le_refl _) _⟩
    · have h2 : s.size ≤ 4 := by omega
      have HW := Lib.hid (wordI_short hne (by rw [hl]; exact h2))
      have h1b : decide ((4 : Int) < (s.size : Int)) = false := by simp; omega
      clear h1 hne hl
      go_enter Tryz.func134, Tryz.ntmps134
      go_wp2_with (first | (go_at_call 91; refine (failed_any _ _ _).mono ?_; rintro e w1 ⟨rfl, rfl⟩) | (go_at_call 87; refine (firstV_any _ _ _ [whenI false 12, whenI false 26] _ ?_ rfl (by simp)).mono ?_; (exact Rd.new _ _ _ _ (by simp)); rintro e w1 ⟨rfl, rfl⟩) | (go_at_call 168; refine (isCapital_any _ _).mono ?_; rintro e w1 ⟨rfl, rfl⟩))
      go_loopg [19] s.size (fun g i wr => ∃ k : Nat, k ≤ s.size ∧ i = .int .i64 k ∧ g = s.size - k ∧ Hid ((s.data.toList.take k).all (fun c => capB (u8I c)) = true) ∧ Hid (Below w.heap.size w wr))
      case atStart => exact ⟨0, Nat.zero_le _, rfl, rfl, rfl, (Below.refl _ _).alloc (Nat.le_refl _) _⟩
      case round =>
        obtain ⟨k, hk, rfl, hg, H, HB⟩ := hrel
        subst hg
        by_cases hlt : k < s.size
        · have hall := Lib.hid (take_all_succ s k hlt (fun c => capB (u8I c)))
          have hbad := Lib.hid (all_false_of s k hlt (fun c => capB (u8I c)))
          cases hcap : capB (s[k].toNat : Int)
          · have Hc := Lib.hid hcap; clear hcap
            go_wp2_with (go_at_call 168; refine (isCapital_any _ _).mono ?_; rintro e w1 ⟨rfl, rfl⟩; rw [Hc.out])
            go_ret
            exact ⟨ret_int (by rw [HW.out, hbad.out (by unfold u8I; exact Hc.out)]; rfl), HB.out⟩
          · have Hc := Lib.hid hcap; clear hcap
            go_wp2_with (go_at_call 168; refine (isCapital_any _ _).mono ?_; rintro e w1 ⟨rfl, rfl⟩; rw [Hc.out])
            go_roundg (s.size - (k + 1))
            case measure => omega
            case rel => exact ⟨k + 1, by omega, by go_num, rfl, by show _ = true; rw [hall.out, H.out]; unfold u8I; rw [Hc.out]; rfl, HB⟩
        · go_wp2
          go_ret
          exact ⟨ret_int (by have := H.out; rw [List.take_of_length_le (by simp; omega)] at this; rw [HW.out, this]; rfl), HB.out⟩

/-- the samples of a letter by its code, so many for a dot -/
def one32 : Nat := 1065353216
def letK (dot : Nat) : Nat → List UInt8 → List Nat
  | _, [] => []
  | i, c :: l => (if 0 < i then List.replicate dot 0 else []) ++ List.replicate ((if c = 49 then 3 else 1) * dot) one32 ++ letK dot (i + 1) l
end Go.Proofs.YtjgofnbfpoephaaGreatDoor

/- Contracts: samples are packed. -/
namespace Go.Proofs.YtjgofnbfpoephaaGreatDoor
set_option linter.all false
open Go.RowKit Go.Fl
set_option linter.unusedVariables false
set_option linter.unusedSimpArgs false

/-- bytes out of their integers -/
def toB (l : List Int) : List UInt8 := l.map fun x => UInt8.ofNat x.toNat
theorem byts_toB {l : List Int} (h : ∀ x ∈ l, isByte x) : byts (toB l) = u8s l := by
  induction l with
  | nil => rfl
  | cons x l ih =>
    have hx := h x (by simp)
    unfold isByte at hx
    have e : ((UInt8.ofNat x.toNat).toNat : Int) = x := by
      rw [UInt8.toNat_ofNat']
      have : x.toNat % 256 = x.toNat := Nat.mod_eq_of_lt (by omega)
      rw [show (2 ^ 8 : Nat) = 256 from rfl, this]; omega
    have ih := ih fun y hy => h y (by simp [hy])
    simp only [byts, toB, u8s, List.map_cons] at ih ⊢
    rw [ih, e]
theorem toB_length (l : List Int) : (toB l).length = l.length := by simp [toB]
theorem hiI_byte (x : Nat) : isByte (hiI x) := by unfold isByte hiI; omega
theorem loI_byte (x : Nat) : isByte (loI x) := by unfold isByte loI; omega
theorem sealB_bd (j : Nat) (x : Int) (bs : List UInt8) (hx : isByte x) : isByte (sealB j x bs) := by
  unfold sealB
  induction bs generalizing x with
  | nil => exact hx
  | cons b bs ih => exact ih _ (stepX_bd _ _ _)
theorem sealL_byte (key : List Int) (bs : List UInt8) (hk : ∀ x ∈ key, isByte x) : ∀ x ∈ sealL key bs, isByte x := by
  intro x hx
  obtain ⟨i, hi, rfl⟩ := List.getElem_of_mem hx
  unfold sealL at hi ⊢
  rw [sealGo_length] at hi
  rw [sealGo_get _ _ _ _ hi]
  exact sealB_bd _ _ _ (hk _ (List.getElem_mem hi))
def headI (xs : List Nat) : List Int := [71, 76, 83, 49, (xs.length : Int) % 65536 / 256, (xs.length : Int) % 256]
def bodyI (xs : List Nat) : List Int := headI xs ++ xs.map hiI ++ xs.map loI
theorem headI_byte (xs : List Nat) : ∀ x ∈ headI xs, isByte x := by
  intro x hx
  simp only [headI, List.mem_cons, List.not_mem_nil, or_false] at hx
  unfold isByte
  rcases hx with rfl | rfl | rfl | rfl | rfl | rfl <;> omega
theorem bodyI_byte (xs : List Nat) : ∀ x ∈ bodyI xs, isByte x := by
  intro x hx
  simp only [bodyI, List.mem_append, List.mem_map] at hx
  rcases hx with (hx | ⟨y, _, rfl⟩) | ⟨y, _, rfl⟩
  · exact headI_byte xs x hx
  · exact hiI_byte y
  · exact loI_byte y
def zero8 : List Int := [0, 0, 0, 0, 0, 0, 0, 0]
theorem zero8_byte : ∀ j (h : j < 8), isByte ([(0 : Int), 0, 0, 0, 0, 0, 0, 0][j]) := by
  intro j h
  unfold isByte
  have : ([(0 : Int), 0, 0, 0, 0, 0, 0, 0][j]) = 0 := by
    rcases (show j = 0 ∨ j = 1 ∨ j = 2 ∨ j = 3 ∨ j = 4 ∨ j = 5 ∨ j = 6 ∨ j = 7 by omega) with rfl | rfl | rfl | rfl | rfl | rfl | rfl | rfl <;> rfl
  rw [this]; omega
/-- the stream of samples, as integers -/
def packI (xs : List Nat) : List Int := bodyI xs ++ sealL zero8 (toB (bodyI xs))
theorem seal8 (key : List Int) (bs : List UInt8) : (sealL key bs).length = key.length := sealGo_length bs key 0

theorem owns_mono {w : World} {B B' : Nat} {e : TypeId} {s n : Nat} {v : Value} {xs : List Value} (h : w.ownsRow B e s v n xs) (hB : B' ≤ B) : w.ownsRow B' e s v n xs := by
  refine ⟨h.1, ?_⟩
  rcases h.2 with h2 | ⟨g, cap, cur, h1, h2, h3⟩
  · exact .inl h2
  · exact .inr ⟨g, cap, cur, h1, Nat.le_trans hB h2, h3⟩
theorem u8s_one (l : List Int) : ∀ v ∈ u8s l, v.oneCell' = true := by simp [u8s, Value.oneCell']
theorem u8s_app (l m : List Int) : u8s (l ++ m) = u8s l ++ u8s m := by simp [u8s]
theorem u8s_length (l : List Int) : (u8s l).length = l.length := by simp [u8s]
theorem Rd.owned {w : World} {B : Nat} {e : TypeId} {v : Value} {n : Nat} {A : Option Addr} {m c : Nat} {vs : List Value} (h : w.ownsRow B e 1 v n vs) (hv : v = .slice A m c) : Rd w A vs := by
  rcases h.2 with ⟨h1, h2⟩ | ⟨g, cap, cur, h1, h2, h3, h4, h5, h6, h7⟩
  · rw [h1] at hv; cases hv
    have : vs = [] := List.eq_nil_of_length_eq_zero (by rw [h.1, h2])
    subst this
    intro j u hu; cases hu
  · rw [h1] at hv; cases hv
    intro j u hu
    have hj : j < n * 1 := by rw [← h.1]; exact (List.getElem?_eq_some_iff.1 hu).1
    refine ⟨g, 0, rfl, ?_⟩
    rw [Nat.zero_add, cell_of_row w g j cur e (0, 0) h3, ← Array.getElem?_toList]
    rw [← h7, List.getElem?_take, if_pos hj] at hu
    exact hu

theorem add0 (g j : Nat) : (⟨g, 0, none⟩ : Addr).add j = ⟨g, j, none⟩ := by
  by_cases hj : j = 0
  · subst hj; simp [Addr.add]
  · simp [Addr.add, hj]

set_option maxRecDepth 100000 in
set_option maxHeartbeats 2000000 in
theorem pack_ok (A : Option Addr) (n c : Nat) (xs : List Nat) (w : World) (hA : Rd w A (flts xs)) (hn : n = xs.length) (hm : xs.length ≤ 4096) (hs : ∀ x ∈ xs, sampI x = 0) (h0 : sampsI xs = 0) :
    Calls Tryz.prog 73 #[.slice A n c] w fun e w' => ∃ v, e = .returned (.tuple #[v, .int .i64 0]) ∧ w'.ownsRow w.heap.size 5 1 v (packI xs).length (u8s (packI xs)) ∧ Below w.heap.size w w' := by
  subst hn
  have Hs := Lib.hid hs
  have H0 := Lib.hid h0
  have HA := Lib.hid hA
  have hnn : -32768 ≤ (xs.length : Int) ∧ (xs.length : Int) ≤ 65535 := by omega
  obtain ⟨i5, hi0, hi1, hi2, hi3⟩ := info_parts info5
  clear hs h0 hA
  have kc := fun (W : World) (C : Array Value) (n c : Nat) => Lib.run_convert_bytes_const (P := Tryz.prog) W 59 5 C n c Tryz.underlying59 Tryz.underlying5
  go_enter Tryz.func73, Tryz.ntmps73
  go_wp2_with fail
  refine (checkSamples_any _ _ _ xs _ HA.out rfl).mono ?_
  rintro e w1 ⟨rfl, hb1⟩
  rw [H0.out]
  have HA1 := Lib.hid (HA.out.below hb1)
  have HB1 := Lib.hid hb1
  clear hb1
  go_upto_region 6 with (first | (go_at_call 147; refine (halves_any _ _ hnn).mono ?_; rintro e w' ⟨rfl, rfl⟩) | (at_builtin; refine wpList_append_grows _ rfl _ _ 59 rfl 5 i5 (.int .u8 0) 1 1 Tryz.underlying59 hi0 hi1 hi2 hi3 rfl (by decide) (some ⟨w1.heap.size, 0, none⟩) 4 4 (u8s [71, 76, 83, 49]) rfl ?c0 rfl ?c1 ⟨w1.heap.size + 1, 0, none⟩ 2 2 (u8s [(xs.length : Int) % 65536 / 256, (xs.length : Int) % 256]) rfl rfl ?c2 (u8s_one _) ?c3 ?c4 ?c5 ?_))
  case c0 => intro h; cases h
  case c1 =>
    intro b hb j u hu
    cases hb
    rw [add0]
    have h1 : (w1.alloc (.cells (u8s [71, 76, 83, 49]).toArray 5 (4, 5))).cell? ⟨w1.heap.size, j, none⟩ = some u := by rw [cell_of_row _ _ _ _ _ _ (heap_alloc_new w1 _)]; simpa using hu
    exact keepC h1 ((Below.refl _ _).alloc (Nat.le_refl _) _)
  case c2 =>
    intro j u hu
    rw [add0]
    have h1 := (Row.new (w1.alloc (.cells (u8s [71, 76, 83, 49]).toArray 5 (4, 5))) 5 (u8s [(xs.length : Int) % 65536 / 256, (xs.length : Int) % 256])).cell j
    rw [hu, World.size_alloc] at h1
    exact h1
  case c3 => decide
  case c4 => unfold maxLen; decide
  case c5 => decide
  intro v2 w2 ho2 hg2
  have HB2 : Hid (Below w.heap.size w w2) := by
    have h := ((HB1.out.alloc HB1.out.size (.cells (u8s [71, 76, 83, 49]).toArray 5 (4, 5))).alloc (by have := HB1.out.size; simp; omega) (.cells (u8s [(xs.length : Int) % 65536 / 256, (xs.length : Int) % 256]).toArray 5))
    exact h.grown hg2 (by have := HB1.out.size; simp; omega) (fun k hk => by cases hk)
  have HO2 : Hid (w2.ownsRow w.heap.size 5 1 v2 6 (u8s (headI xs))) := owns_mono ho2 (by have := HB1.out.size; simp; omega)
  clear ho2 hg2 kc
  have HA2 := Lib.hid (HA.out.below HB2.out)
  go_upto_region 7 with (go_at_call 148; refine (mappedHi_any _ _ _ xs _ HA2.out rfl hm Hs.out).mono ?_; rintro e w3 ⟨g3, rfl, hr3, hg3, hb3⟩; have HO3 := Lib.hid (owns_below HO2.out hb3); have HR3 := Lib.hid (Rd.row hr3); have HB3 := Lib.hid (HB2.out.trans (hb3.mono HB2.out.size)); clear hr3 hg3 hb3; go_wp2_with (at_builtin; refine wpList_app rfl _ _ 59 rfl w.heap.size 5 (.int .u8 0) 1 1 Tryz.underlying59 info5 rfl (by decide) _ 6 (u8s (headI xs)) rfl HO3.out (some ⟨g3, 0, none⟩) xs.length xs.length (u8s (xs.map hiI)) rfl (fun h => by cases h) HR3.out (by simp [u8s]) (u8s_one _) ?d2 ?d3 ?d4 ?_))
  case d2 => unfold maxLen; omega
  case d3 => omega
  case d4 => exact HB3.out.size
  intro v4 w4 ho4 hg4
  have HB4 : Hid (Below w.heap.size w w4) := HB3.out.grown hg4 HB3.out.size (fun k hk => (HO3.out.lt k hk).1)
  have HO4 : Hid (w4.ownsRow w.heap.size 5 1 v4 (6 + xs.length) (u8s (headI xs ++ xs.map hiI))) := by unfold Hid; rw [u8s_app]; exact ho4
  clear ho4 hg4
  have HA4 := Lib.hid (HA.out.below HB4.out)
  go_upto_region 8 with (go_at_call 148; refine (mappedLo_any _ _ _ xs _ HA4.out rfl hm Hs.out).mono ?_; rintro e w5 ⟨g5, rfl, hr5, hg5, hb5⟩; have HO5 := Lib.hid (owns_below HO4.out hb5); have HR5 := Lib.hid (Rd.row hr5); have HB5 := Lib.hid (HB4.out.trans (hb5.mono HB4.out.size)); clear hr5 hg5 hb5; go_wp2_with (at_builtin; refine wpList_app rfl _ _ 59 rfl w.heap.size 5 (.int .u8 0) 1 1 Tryz.underlying59 info5 rfl (by decide) _ (6 + xs.length) (u8s (headI xs ++ xs.map hiI)) rfl HO5.out (some ⟨g5, 0, none⟩) xs.length xs.length (u8s (xs.map loI)) rfl (fun h => by cases h) HR5.out (by simp [u8s]) (u8s_one _) ?d2 ?d3 ?d4 ?_))
  case d2 => unfold maxLen; omega
  case d3 => omega
  case d4 => exact HB5.out.size
  intro v6 w6 ho6 hg6
  have HB6 : Hid (Below w.heap.size w w6) := HB5.out.grown hg6 HB5.out.size (fun k hk => (HO5.out.lt k hk).1)
  have HO6 : Hid (w6.ownsRow w.heap.size 5 1 v6 (6 + xs.length + xs.length) (u8s (bodyI xs))) := by unfold Hid bodyI; rw [u8s_app]; exact ho6
  clear ho6 hg6
  obtain ⟨g6, c6, hv6, hg6, hl6⟩ := ownsRow.addr HO6.out (by omega)
  subst hv6
  have hlen : (bodyI xs).length = 6 + xs.length + xs.length := by simp [bodyI, headI]; omega
  have Hlen : Hid (6 + xs.length + xs.length = (toB (bodyI xs)).length) := by unfold Hid; rw [toB_length, hlen]
  have HR6 : Hid (Rd w6 (some ⟨g6, 0, none⟩) (byts (toB (bodyI xs)))) := by unfold Hid; rw [byts_toB (bodyI_byte xs)]; exact Rd.owned HO6.out rfl
  obtain ⟨sl, hsl⟩ : ∃ sl, sl = sealL [0, 0, 0, 0, 0, 0, 0, 0] (toB (bodyI xs)) := ⟨_, rfl⟩
  have hsl8 : sl.length = 8 := by rw [hsl, seal8]; rfl
  obtain ⟨s0, s1, s2, s3, s4, s5, s6, s7, hs8⟩ : ∃ s0 s1 s2 s3 s4 s5 s6 s7, sl = [s0, s1, s2, s3, s4, s5, s6, s7] := by
    match sl, hsl8 with
    | [a, b, c, d, e, f, g, h], _ => exact ⟨a, b, c, d, e, f, g, h, rfl⟩
  have HP : Hid (packI xs = bodyI xs ++ [s0, s1, s2, s3, s4, s5, s6, s7]) := by unfold Hid packI zero8; rw [← hsl, hs8]
  have HSC : Hid (Calls Tryz.prog 101 #[.agg #[.int .u8 0, .int .u8 0, .int .u8 0, .int .u8 0, .int .u8 0, .int .u8 0, .int .u8 0, .int .u8 0], .slice (some ⟨g6, 0, none⟩) (6 + xs.length + xs.length) c6] w6 fun e w' => e = .returned (.agg #[.int .u8 s0, .int .u8 s1, .int .u8 s2, .int .u8 s3, .int .u8 s4, .int .u8 s5, .int .u8 s6, .int .u8 s7]) ∧ Below w6.heap.size w6 w') :=
    (sealed_any 0 0 0 0 0 0 0 0 (some ⟨g6, 0, none⟩) (6 + xs.length + xs.length) c6 (toB (bodyI xs)) w6 HR6.out Hlen.out (by rw [← Hlen.out]; omega) zero8_byte).mono fun e w' h => ⟨by rw [h.1, ← hsl, hs8]; rfl, h.2⟩
  clear hs8 hsl8 hsl hlen
  go_wp2_with (go_at_call 101; refine HSC.out.mono ?_; rintro e w7 ⟨rfl, hb7⟩; have HO7 := Lib.hid (owns_below HO6.out hb7); have HB7 := Lib.hid (HB6.out.trans (hb7.mono HB6.out.size)); clear hb7; go_wp2_with (at_builtin; refine wpList_app rfl _ _ 59 rfl w.heap.size 5 (.int .u8 0) 1 1 Tryz.underlying59 info5 rfl (by decide) _ (6 + xs.length + xs.length) (u8s (bodyI xs)) rfl (HO7.out.alloc _) (some ⟨w7.heap.size, 0, none⟩) 8 8 (u8s [s0, s1, s2, s3, s4, s5, s6, s7]) rfl (fun h => by cases h) (Rd.row (Row.new w7 47 _)) (by simp [u8s]) (u8s_one _) ?d2 ?d3 ?d4 ?_))
  case d2 => unfold maxLen; omega
  case d3 => omega
  case d4 => have := HB7.out.size; simp; omega
  intro v8 w8 ho8 hg8
  have HB8 : Hid (Below w.heap.size w w8) := Below.app HB7.out HB7.out.size HO7.out hg8
  have HO8 : Hid (w8.ownsRow w.heap.size 5 1 v8 (packI xs).length (u8s (packI xs))) := by
    unfold Hid; rw [HP.out, u8s_app]
    have e : (bodyI xs ++ [s0, s1, s2, s3, s4, s5, s6, s7]).length = 6 + xs.length + xs.length + 8 := by simp [bodyI, headI]; omega
    rw [e]; exact ho8
  clear ho8 hg8
  go_wp2
  go_ret2
  exact ⟨_, rfl, HO8.out, HB8.out⟩
end Go.Proofs.YtjgofnbfpoephaaGreatDoor
