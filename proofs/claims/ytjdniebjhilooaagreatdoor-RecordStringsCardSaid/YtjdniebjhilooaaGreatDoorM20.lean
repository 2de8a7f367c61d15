import Derived.Lib.SlBytesConst
import Derived.ArgAppend
import Derived.Test.YtjdniebjhilooaaGreatDoorM19
import Derived.Deep.DeepCutAuto
import Derived.Laws.BytesArg
import Derived.Test.YtjdniebjhilooaaGreatDoorM25
import Derived.Maps.Views
namespace Go.Proofs.YtjdniebjhilooaaGreatDoor
set_option linter.all false
open Go.RowKit Go.Fl
def toB (l : List Int) : List UInt8 := l.map fun x => UInt8.ofNat x.toNat
theorem byts_toB {l : List Int} (h : ∀ x ∈ l, isByte x) : byts (toB l) = u8s l := by
 induction l with
 | nil => rfl
 | cons x l ih =>
   have hx := h x (by simp)
   unfold isByte at hx
   have e : ((UInt8.ofNat x.toNat).toNat : Int) = x := by
    rw [UInt8.toNat_ofNat']
    have : x.toNat % 256 = x.toNat := Nat.mod_eq_of_lt (by omega)
    rw [show (2 ^ 8 : Nat) = 256 from rfl, this]; omega
   have ih := ih fun y hy => h y (by simp [hy])
   simp only [byts, toB, u8s, List.map_cons] at ih ⊢
   rw [ih, e]
theorem toB_length (l : List Int) : (toB l).length = l.length := by simp [toB]
theorem hiI_byte (x : Nat) : isByte (hiI x) := by unfold isByte hiI; omega
theorem loI_byte (x : Nat) : isByte (loI x) := by unfold isByte loI; omega
def headI (xs : List Nat) : List Int := [71, 76, 83, 49, (xs.length : Int) % 65536 / 256, (xs.length : Int) % 256]
def bodyI (xs : List Nat) : List Int := headI xs ++ xs.map hiI ++ xs.map loI
theorem headI_byte (xs : List Nat) : ∀ x ∈ headI xs, isByte x := by
 intro x hx
 simp only [headI, List.mem_cons, List.not_mem_nil, or_false] at hx
 unfold isByte
 rcases hx with rfl | rfl | rfl | rfl | rfl | rfl <;> omega
theorem bodyI_byte (xs : List Nat) : ∀ x ∈ bodyI xs, isByte x := by
 intro x hx
 simp only [bodyI, List.mem_append, List.mem_map] at hx
 rcases hx with (hx | ⟨y, _, rfl⟩) | ⟨y, _, rfl⟩
 · exact headI_byte xs x hx
 · exact hiI_byte y
 · exact loI_byte y
def zero8 : List Int := [0, 0, 0, 0, 0, 0, 0, 0]
theorem zero8_byte : ∀ j (h : j < 8), isByte ([(0 : Int), 0, 0, 0, 0, 0, 0, 0][j]) := by
 intro j h
 unfold isByte
 have : ([(0 : Int), 0, 0, 0, 0, 0, 0, 0][j]) = 0 := by
  rcases (show j = 0 ∨ j = 1 ∨ j = 2 ∨ j = 3 ∨ j = 4 ∨ j = 5 ∨ j = 6 ∨ j = 7 by omega) with rfl | rfl | rfl | rfl | rfl | rfl | rfl | rfl <;> rfl
 rw [this]; omega
def packI (xs : List Nat) : List Int := bodyI xs ++ sealL zero8 (toB (bodyI xs))
theorem seal8 (key : List Int) (bs : List UInt8) : (sealL key bs).length = key.length := sealGo_length bs key 0
theorem owns_mono {w : World} {B B' : Nat} {e : TypeId} {s n : Nat} {v : Value} {xs : List Value} (h : w.ownsRow B e s v n xs) (hB : B' ≤ B) : w.ownsRow B' e s v n xs := by
 refine ⟨h.1, ?_⟩
 rcases h.2 with h2 | ⟨g, cap, cur, h1, h2, h3⟩
 · exact .inl h2
 · exact .inr ⟨g, cap, cur, h1, Nat.le_trans hB h2, h3⟩
theorem u8s_one (l : List Int) : ∀ v ∈ u8s l, v.oneCell' = true := by simp [u8s, Value.oneCell']
theorem u8s_app (l m : List Int) : u8s (l ++ m) = u8s l ++ u8s m := by simp [u8s]
theorem u8s_length (l : List Int) : (u8s l).length = l.length := by simp [u8s]
theorem Rd.owned {w : World} {B : Nat} {e : TypeId} {v : Value} {n : Nat} {A : Option Addr} {m c : Nat} {vs : List Value} (h : w.ownsRow B e 1 v n vs) (hv : v = .slice A m c) : Rd w A vs := by
 rcases h.2 with ⟨h1, h2⟩ | ⟨g, cap, cur, h1, h2, h3, h4, h5, h6, h7⟩
 · rw [h1] at hv; cases hv
   have : vs = [] := List.eq_nil_of_length_eq_zero (by rw [h.1, h2])
   subst this
   intro j u hu; cases hu
 · rw [h1] at hv; cases hv
   intro j u hu
   have hj : j < n * 1 := by rw [← h.1]; exact (List.getElem?_eq_some_iff.1 hu).1
   refine ⟨g, 0, rfl, ?_⟩
   rw [Nat.zero_add, cell_of_row w g j cur e (0, 0) h3, ← Array.getElem?_toList]
   rw [← h7, List.getElem?_take, if_pos hj] at hu
   exact hu
theorem add0 (g j : Nat) : (⟨g, 0, none⟩ : Addr).add j = ⟨g, j, none⟩ := by
 by_cases hj : j = 0
 · subst hj; simp [Addr.add]
 · simp [Addr.add, hj]
set_option maxRecDepth 100000 in
set_option maxHeartbeats 2000000 in
theorem pack_ok (A : Option Addr) (n c : Nat) (xs : List Nat) (w : World) (hA : Rd w A (flts xs)) (hn : n = xs.length) (hm : xs.length ≤ 4096) (hs : ∀ x ∈ xs, sampI x = 0) (h0 : sampsI xs = 0) :
 Calls Tryz.prog 42 #[.slice A n c] w fun e w' => ∃ v, e = .returned (.tuple #[v, .int .i64 0]) ∧ w'.ownsRow w.heap.size 5 1 v (packI xs).length (u8s (packI xs)) ∧ Below w.heap.size w w' := by
 subst hn
 have Hs := Lib.hid hs
 have H0 := Lib.hid h0
 have HA := Lib.hid hA
 have hnn : -32768 ≤ (xs.length : Int) ∧ (xs.length : Int) ≤ 65535 := by omega
 obtain ⟨i5, hi0, hi1, hi2, hi3⟩ := info_parts info5
 clear hs h0 hA
 have kc := fun (W : World) (C : Array Value) (n c : Nat) => Lib.run_convert_bytes_const (P := Tryz.prog) W 48 5 C n c Tryz.underlying48 Tryz.underlying5
 go_enter Tryz.func42, Tryz.ntmps42
 go_wp2_with fail
 refine (checkSamples_any _ _ _ xs _ HA.out rfl).mono ?_
 rintro e w1 ⟨rfl, hb1⟩
 rw [H0.out]
 have HA1 := Lib.hid (HA.out.below hb1)
 have HB1 := Lib.hid hb1
 clear hb1
 go_upto_region 6 with (first | (go_at_call 102; refine (halves_any _ _ hnn).mono ?_; rintro e w' ⟨rfl, rfl⟩) | (at_builtin; refine wpList_append_grows _ rfl _ _ 48 rfl 5 i5 (.int .u8 0) 1 1 Tryz.underlying48 hi0 hi1 hi2 hi3 rfl (by decide) (some ⟨w1.heap.size, 0, none⟩) 4 4 (u8s [71, 76, 83, 49]) rfl ?c0 rfl ?c1 ⟨w1.heap.size + 1, 0, none⟩ 2 2 (u8s [(xs.length : Int) % 65536 / 256, (xs.length : Int) % 256]) rfl rfl ?c2 (u8s_one _) ?c3 ?c4 ?c5 ?_))
 case c0 => intro h; cases h
 case c1 =>
  intro b hb j u hu
  cases hb
  rw [add0]
  have h1 : (w1.alloc (.cells (u8s [71, 76, 83, 49]).toArray 5 (4, 5))).cell? ⟨w1.heap.size, j, none⟩ = some u := by rw [cell_of_row _ _ _ _ _ _ (heap_alloc_new w1 _)]; simpa using hu
  exact keepC h1 ((Below.refl _ _).alloc (Nat.le_refl _) _)
 case c2 =>
  intro j u hu
  rw [add0]
  have h1 := (Row.new (w1.alloc (.cells (u8s [71, 76, 83, 49]).toArray 5 (4, 5))) 5 (u8s [(xs.length : Int) % 65536 / 256, (xs.length : Int) % 256])).cell j
  rw [hu, World.size_alloc] at h1
  exact h1
 case c3 => decide
 case c4 => unfold maxLen; decide
 case c5 => decide
 intro v2 w2 ho2 hg2
 have HB2 : Hid (Below w.heap.size w w2) := by
  have h := ((HB1.out.alloc HB1.out.size (.cells (u8s [71, 76, 83, 49]).toArray 5 (4, 5))).alloc (by have := HB1.out.size; simp; omega) (.cells (u8s [(xs.length : Int) % 65536 / 256, (xs.length : Int) % 256]).toArray 5))
  exact h.grown hg2 (by have := HB1.out.size; simp; omega) (fun k hk => by cases hk)
 have HO2 : Hid (w2.ownsRow w.heap.size 5 1 v2 6 (u8s (headI xs))) := owns_mono ho2 (by have := HB1.out.size; simp; omega)
 clear ho2 hg2 kc
 have HA2 := Lib.hid (HA.out.below HB2.out)
 go_upto_region 7 with (go_at_call 103; refine (mappedHi_any _ _ _ xs _ HA2.out rfl hm Hs.out).mono ?_; rintro e w3 ⟨g3, rfl, hr3, hg3, hb3⟩; have HO3 := Lib.hid (owns_below HO2.out hb3); have HR3 := Lib.hid (Rd.row hr3); have HB3 := Lib.hid (HB2.out.trans (hb3.mono HB2.out.size)); clear hr3 hg3 hb3; go_wp2_with (at_builtin; refine wpList_app rfl _ _ 48 rfl w.heap.size 5 (.int .u8 0) 1 1 Tryz.underlying48 info5 rfl (by decide) _ 6 (u8s (headI xs)) rfl HO3.out (some ⟨g3, 0, none⟩) xs.length xs.length (u8s (xs.map hiI)) rfl (fun h => by cases h) HR3.out (by simp [u8s]) (u8s_one _) ?d2 ?d3 ?d4 ?_))
 case d2 => unfold maxLen; omega
 case d3 => omega
 case d4 => exact HB3.out.size
 intro v4 w4 ho4 hg4
 have HB4 : Hid (Below w.heap.size w w4) := HB3.out.grown hg4 HB3.out.size (fun k hk => (HO3.out.lt k hk).1)
 have HO4 : Hid (w4.ownsRow w.heap.size 5 1 v4 (6 + xs.length) (u8s (headI xs ++ xs.map hiI))) := by unfold Hid; rw [u8s_app]; exact ho4
 clear ho4 hg4
 have HA4 := Lib.hid (HA.out.below HB4.out)
 go_upto_region 8 with (go_at_call 103; refine (mappedLo_any _ _ _ xs _ HA4.out rfl hm Hs.out).mono ?_; rintro e w5 ⟨g5, rfl, hr5, hg5, hb5⟩; have HO5 := Lib.hid (owns_below HO4.out hb5); have HR5 := Lib.hid (Rd.row hr5); have HB5 := Lib.hid (HB4.out.trans (hb5.mono HB4.out.size)); clear hr5 hg5 hb5; go_wp2_with (at_builtin; refine wpList_app rfl _ _ 48 rfl w.heap.size 5 (.int .u8 0) 1 1 Tryz.underlying48 info5 rfl (by decide) _ (6 + xs.length) (u8s (headI xs ++ xs.map hiI)) rfl HO5.out (some ⟨g5, 0, none⟩) xs.length xs.length (u8s (xs.map loI)) rfl (fun h => by cases h) HR5.out (by simp [u8s]) (u8s_one _) ?d2 ?d3 ?d4 ?_))
 case d2 => unfold maxLen; omega
 case d3 => omega
 case d4 => exact HB5.out.size
 intro v6 w6 ho6 hg6
 have HB6 : Hid (Below w.heap.size w w6) := HB5.out.grown hg6 HB5.out.size (fun k hk => (HO5.out.lt k hk).1)
 have HO6 : Hid (w6.ownsRow w.heap.size 5 1 v6 (6 + xs.length + xs.length) (u8s (bodyI xs))) := by unfold Hid bodyI; rw [u8s_app]; exact ho6
 clear ho6 hg6
 obtain ⟨g6, c6, hv6, hg6, hl6⟩ := ownsRow.addr HO6.out (by omega)
 subst hv6
 have hlen : (bodyI xs).length = 6 + xs.length + xs.length := by simp [bodyI, headI]; omega
 have Hlen : Hid (6 + xs.length + xs.length = (toB (bodyI xs)).length) := by unfold Hid; rw [toB_length, hlen]
 have HR6 : Hid (Rd w6 (some ⟨g6, 0, none⟩) (byts (toB (bodyI xs)))) := by unfold Hid; rw [byts_toB (bodyI_byte xs)]; exact Rd.owned HO6.out rfl
 obtain ⟨sl, hsl⟩ : ∃ sl, sl = sealL [0, 0, 0, 0, 0, 0, 0, 0] (toB (bodyI xs)) := ⟨_, rfl⟩
 have hsl8 : sl.length = 8 := by rw [hsl, seal8]; rfl
 obtain ⟨s0, s1, s2, s3, s4, s5, s6, s7, hs8⟩ : ∃ s0 s1 s2 s3 s4 s5 s6 s7, sl = [s0, s1, s2, s3, s4, s5, s6, s7] := by
  match sl, hsl8 with
  | [a, b, c, d, e, f, g, h], _ => exact ⟨a, b, c, d, e, f, g, h, rfl⟩
 have HP : Hid (packI xs = bodyI xs ++ [s0, s1, s2, s3, s4, s5, s6, s7]) := by unfold Hid packI zero8; rw [← hsl, hs8]
 have HSC : Hid (Calls Tryz.prog 69 #[.agg #[.int .u8 0, .int .u8 0, .int .u8 0, .int .u8 0, .int .u8 0, .int .u8 0, .int .u8 0, .int .u8 0], .slice (some ⟨g6, 0, none⟩) (6 + xs.length + xs.length) c6] w6 fun e w' => e = .returned (.agg #[.int .u8 s0, .int .u8 s1, .int .u8 s2, .int .u8 s3, .int .u8 s4, .int .u8 s5, .int .u8 s6, .int .u8 s7]) ∧ Below w6.heap.size w6 w') :=
  (sealed_any 0 0 0 0 0 0 0 0 (some ⟨g6, 0, none⟩) (6 + xs.length + xs.length) c6 (toB (bodyI xs)) w6 HR6.out Hlen.out (by rw [← Hlen.out]; omega) zero8_byte).mono fun e w' h => ⟨by rw [h.1, ← hsl, hs8]; rfl, h.2⟩
 clear hs8 hsl8 hsl hlen
 go_wp2_with (go_at_call 69; refine HSC.out.mono ?_; rintro e w7 ⟨rfl, hb7⟩; have HO7 := Lib.hid (owns_below HO6.out hb7); have HB7 := Lib.hid (HB6.out.trans (hb7.mono HB6.out.size)); clear hb7; go_wp2_with (at_builtin; refine wpList_app rfl _ _ 48 rfl w.heap.size 5 (.int .u8 0) 1 1 Tryz.underlying48 info5 rfl (by decide) _ (6 + xs.length + xs.length) (u8s (bodyI xs)) rfl (HO7.out.alloc _) (some ⟨w7.heap.size, 0, none⟩) 8 8 (u8s [s0, s1, s2, s3, s4, s5, s6, s7]) rfl (fun h => by cases h) (Rd.row (Row.new w7 46 _)) (by simp [u8s]) (u8s_one _) ?d2 ?d3 ?d4 ?_))
 case d2 => unfold maxLen; omega
 case d3 => omega
 case d4 => have := HB7.out.size; simp; omega
 intro v8 w8 ho8 hg8
 have HB8 : Hid (Below w.heap.size w w8) := Below.app HB7.out HB7.out.size HO7.out hg8
 have HO8 : Hid (w8.ownsRow w.heap.size 5 1 v8 (packI xs).length (u8s (packI xs))) := by
  unfold Hid; rw [HP.out, u8s_app]
  have e : (bodyI xs ++ [s0, s1, s2, s3, s4, s5, s6, s7]).length = 6 + xs.length + xs.length + 8 := by simp [bodyI, headI]; omega
  rw [e]; exact ho8
 clear ho8 hg8
 go_wp2
 go_ret2
 exact ⟨_, rfl, HO8.out, HB8.out⟩
abbrev AsT := List Nat × List Bool
def put1 (s : AsT) (j : Nat) (x : Nat) : AsT := if s.2.getD j true then s else (s.1.set j x, s.2.set j true)
def putGo (s : AsT) (a : Nat) (xs : List Nat) (m : Nat) : AsT := (List.range m).foldl (fun s i => put1 s (a + i) (xs.getD i 0)) s
theorem putGo_succ (s : AsT) (a : Nat) (xs : List Nat) (m : Nat) : putGo s a xs (m + 1) = put1 (putGo s a xs m) (a + m) (xs.getD m 0) := by
 unfold putGo; rw [List.range_succ, List.foldl_append]; rfl
theorem put1_len (s : AsT) (j x : Nat) : (put1 s j x).1.length = s.1.length ∧ (put1 s j x).2.length = s.2.length := by
 unfold put1; split <;> simp
theorem putGo_len (s : AsT) (a : Nat) (xs : List Nat) (m : Nat) : (putGo s a xs m).1.length = s.1.length ∧ (putGo s a xs m).2.length = s.2.length := by
 induction m with
 | zero => exact ⟨rfl, rfl⟩
 | succ m ih => rw [putGo_succ]; exact ⟨(put1_len _ _ _).1.trans ih.1, (put1_len _ _ _).2.trans ih.2⟩
def asm1 (station n : Int) (s : AsT) (p : PkT) : AsT := if p.1 = station then putGo s (8 * p.2.1).toNat p.2.2.2 (min p.2.2.1 (n - 8 * p.2.1)).toNat else s
def asmL (station n : Int) (ps : List PkT) : AsT := ps.foldl (asm1 station n) (List.replicate n.toNat 0, List.replicate n.toNat false)
def asmK (station n : Int) (ps : List PkT) (k : Nat) : AsT := asmL station n (ps.take k)
theorem asmK_succ (station n : Int) (ps : List PkT) (k : Nat) (hk : k < ps.length) : asmK station n ps (k + 1) = asm1 station n (asmK station n ps k) ps[k] := by
 unfold asmK asmL; rw [List.take_succ_eq_append_getElem hk, List.foldl_append]; rfl
theorem asm1_len (station n : Int) (s : AsT) (p : PkT) : (asm1 station n s p).1.length = s.1.length ∧ (asm1 station n s p).2.length = s.2.length := by
 unfold asm1; split
 · exact putGo_len _ _ _ _
 · exact ⟨rfl, rfl⟩
theorem asmL_len (station n : Int) (ps : List PkT) : (asmL station n ps).1.length = n.toNat ∧ (asmL station n ps).2.length = n.toNat := by
 have h : ∀ (ps : List PkT) (s : AsT), (ps.foldl (asm1 station n) s).1.length = s.1.length ∧ (ps.foldl (asm1 station n) s).2.length = s.2.length := by
  intro ps
  induction ps with
  | nil => intro s; exact ⟨rfl, rfl⟩
  | cons p ps ih => intro s; rw [List.foldl_cons]; exact ⟨(ih _).1.trans (asm1_len _ _ _ _).1, (ih _).2.trans (asm1_len _ _ _ _).2⟩
 have := h ps (List.replicate n.toNat 0, List.replicate n.toNat false)
 simpa [asmL] using this
def asmE (ps : List PkT) (station n : Int) : Int := firstI [pksI ps, whenI (rangeB station 0 255) 3, whenI (rangeB n 0 4096) 3]
theorem firstI_all {zs : List Int} (h : firstI zs = 0) : ∀ z ∈ zs, z = 0 := by
 induction zs with
 | nil => intro z hz; cases hz
 | cons z zs ih =>
   rw [firstI] at h
   split at h
   · rename_i h0
     intro y hy
     rcases List.mem_cons.1 hy with rfl | hy
     · exact h0
     · exact ih h y hy
   · rename_i h0; exact absurd h h0
theorem when_zero {b : Bool} {n : Int} (h : whenI b n = 0) (hn : n ≠ 0) : b = false := by
 cases b
 · rfl
 · exact absurd h hn
theorem range_of {n low high : Int} (h : rangeB n low high = false) : low ≤ n ∧ n ≤ high := by
 unfold rangeB at h
 simp only [Bool.or_eq_false_iff, decide_eq_false_iff_not] at h
 omega
theorem pkE_ok {p : PkT} (h : pkE p = 0) : (0 ≤ p.1 ∧ p.1 ≤ 255) ∧ (0 ≤ p.2.1 ∧ p.2.1 ≤ 65535) ∧ (0 ≤ p.2.2.1 ∧ p.2.2.1 ≤ 8) := by
 have ha := firstI_all h
 exact ⟨range_of (when_zero (ha (whenI (rangeB p.1 0 255) 3) (by simp)) (by decide)), range_of (when_zero (ha (whenI (rangeB p.2.1 0 65535) 3) (by simp)) (by decide)), range_of (when_zero (ha (whenI (rangeB p.2.2.1 0 8) 3) (by simp)) (by decide))⟩
theorem asmE_ok {ps : List PkT} {station n : Int} (h : asmE ps station n = 0) : ps.length ≤ 1024 ∧ (∀ p ∈ ps, pkE p = 0) ∧ (0 ≤ station ∧ station ≤ 255) ∧ 0 ≤ n ∧ n ≤ 4096 := by
 have ha := firstI_all h
 have h1 : pksI ps = 0 := ha _ (by simp)
 have hl : ¬ 1024 < ps.length := by intro hl; rw [pksI, if_pos hl] at h1; cases h1
 rw [pksI, if_neg hl] at h1
 exact ⟨by omega, fun p hp => firstI_all h1 _ (List.mem_map_of_mem hp), range_of (when_zero (ha (whenI (rangeB station 0 255) 3) (by simp)) (by decide)), range_of (when_zero (ha (whenI (rangeB n 0 4096) 3) (by simp)) (by decide))⟩
set_option maxRecDepth 100000 in
set_option maxHeartbeats 2000000 in
theorem assembled_ok (A : Option Addr) (m c : Nat) (ps : List PkT) (station : Int) (N : Nat) (w : World) (hA : Rd w A (pksC ps)) (h8 : pks8 ps) (hn : m = ps.length) (he : asmE ps station N = 0) :
 Calls Tryz.prog 23 #[.slice A m c, .int .i64 station, .int .i64 (N : Int)] w fun e w' => ∃ gS v, e = .returned (.tuple #[.slice (some ⟨gS, 0, none⟩) N N, v, .int .i64 0]) ∧ Row w' gS 56 (flts (asmL station N ps).1) ∧ w'.ownsRow w.heap.size 70 2 v (gapsL (asmL station N ps).2).length (spanC (gapsL (asmL station N ps).2)) ∧ w.heap.size ≤ gS ∧ Below w.heap.size w w' := by
 subst hn
 obtain ⟨hl, hpk, hst, -, hN0⟩ := asmE_ok he
 have HC : Hid (Calls Tryz.prog 77 #[.slice A ps.length c, .int .i64 1024, .func (.func 67) #[] #[]] w fun e w' => e = .returned (.int .i64 (pksI ps)) ∧ Below w.heap.size w w') := checkListPk_any A _ c ps w hA h8 rfl
 have HER : Hid (firstI [pksI ps, whenI (rangeB station 0 255) 3, whenI (rangeB (N : Int) 0 4096) 3] = 0) := he
 have HM : Hid (∀ W, Below w.heap.size w W → Calls Tryz.prog 79 #[.slice A ps.length c, .func (.func 80) #[] #[]] W fun e w' => ∃ g, e = .returned (.slice (some ⟨g, 0, none⟩) ps.length ps.length) ∧ Row w' g 164 (plC ps) ∧ W.heap.size ≤ g ∧ Below W.heap.size W w') := fun W hW =>
  mappedPl_any A _ c ps W (hA.below hW) h8 (fun p hp => (pkE_ok (hpk p hp)).2.1) rfl hl
 have HPK := Lib.hid hpk; have H8 := Lib.hid h8
 have hN : N ≤ 4096 := by omega
 have hmk1 := fun W : World => make1 (P := Tryz.prog) 22 56 (.float .f32 0) 4 Tryz.underlying22 info37 rfl N (by omega) (by omega) W
 have hmk2 := fun W : World => make1 (P := Tryz.prog) 160 4 (.bool false) 1 Tryz.underlying160 (by kernel_rfl) rfl N (by omega) (by omega) W
 clear hA h8 he hpk hN0
 go_enter Tryz.func23, Tryz.ntmps23
 go_wp2_with (first
  | (go_at_call 77; refine HC.out.mono ?_; rintro e w1 ⟨rfl, hb1⟩; have HB1 := Lib.hid hb1; clear hb1)
  | (go_at_call 78; refine (between_any _ _ _ _).mono ?_; rintro e w3 ⟨rfl, rfl⟩)
  | (go_at_call 76; refine (firstV_any _ _ _ [pksI ps, whenI (rangeB station 0 255) 3, whenI (rangeB (N : Int) 0 4096) 3] _ (Rd.new _ _ _ _ rfl) rfl (by simp)).mono ?_; rintro e w3 ⟨rfl, rfl⟩; rw [HER.out]))
 obtain ⟨gS, hgS⟩ : ∃ gS, gS = w1.heap.size + 1 := ⟨_, rfl⟩
 obtain ⟨gT, hgT⟩ : ∃ gT, gT = w1.heap.size + 1 + 1 := ⟨_, rfl⟩
 have hzw := HB1.out.size
 have hW1 : Below w.heap.size w (((w1.alloc (.cells #[.int .i64 (pksI ps), .int .i64 (whenI (rangeB station 0 255) 3), .int .i64 (whenI (rangeB (N : Int) 0 4096) 3)] 28)).alloc (.cells (List.replicate N (Value.float .f32 0)).toArray 56)).alloc (.cells (List.replicate N (Value.bool false)).toArray 4)) :=
  ((HB1.out.alloc HB1.out.size _).alloc (by simp; omega) _).alloc (by simp; omega) _
 have hS1 : Row (((w1.alloc (.cells #[.int .i64 (pksI ps), .int .i64 (whenI (rangeB station 0 255) 3), .int .i64 (whenI (rangeB (N : Int) 0 4096) 3)] 28)).alloc (.cells (List.replicate N (Value.float .f32 0)).toArray 56)).alloc (.cells (List.replicate N (Value.bool false)).toArray 4)) gS 56 (List.replicate N (Value.float .f32 0)) := by
  have h := (Row.new (w1.alloc (.cells #[.int .i64 (pksI ps), .int .i64 (whenI (rangeB station 0 255) 3), .int .i64 (whenI (rangeB (N : Int) 0 4096) 3)] 28)) 56 (List.replicate N (Value.float .f32 0))).alloc (.cells (List.replicate N (Value.bool false)).toArray 4)
  rw [World.size_alloc] at h; rw [hgS]; exact h
 have hT1 : Row (((w1.alloc (.cells #[.int .i64 (pksI ps), .int .i64 (whenI (rangeB station 0 255) 3), .int .i64 (whenI (rangeB (N : Int) 0 4096) 3)] 28)).alloc (.cells (List.replicate N (Value.float .f32 0)).toArray 56)).alloc (.cells (List.replicate N (Value.bool false)).toArray 4)) gT 4 (List.replicate N (Value.bool false)) := by
  have h := Row.new ((w1.alloc (.cells #[.int .i64 (pksI ps), .int .i64 (whenI (rangeB station 0 255) 3), .int .i64 (whenI (rangeB (N : Int) 0 4096) 3)] 28)).alloc (.cells (List.replicate N (Value.float .f32 0)).toArray 56)) 4 (List.replicate N (Value.bool false))
  rw [World.size_alloc, World.size_alloc] at h; rw [hgT]; exact h
 have HW1 := Lib.hid hW1; have HS1 := Lib.hid hS1; have HT1 := Lib.hid hT1
 have hz1 : Hid (w.heap.size ≤ gS ∧ gS < gT) := by unfold Hid; omega
 clear hW1 hS1 hT1 hzw
 refine (HM.out _ HW1.out).mono ?_
 rintro e w2 ⟨gP, rfl, hrP, hgP, hb2⟩
 have HP2 := Lib.hid hrP
 have HS2 := Lib.hid (HS1.out.old hb2)
 have HT2 := Lib.hid (HT1.out.old hb2)
 have HB2 := Lib.hid (HW1.out.trans (hb2.mono HW1.out.size))
 have hz2 : Hid (gT < gP) := by unfold Hid; simp at hgP; omega
 clear hrP hgP hb2 HW1 HS1 HT1 HB1 hmk1 hmk2 HC HM HER
 rw [← hgT, ← hgS]
 clear hgS hgT
 go_wp2
 go_loopw [34] (fun i wr => ∃ k : Nat, k ≤ ps.length ∧ i = .int .i64 k ∧ Hid (Row wr gS 56 (flts (asmK station N ps k).1)) ∧ Hid (Row wr gT 4 (bools (asmK station N ps k).2)) ∧ Hid (Row wr gP 164 (plC ps)) ∧ Hid (Below w.heap.size w wr)) (fun i _ => ps.length - (intOf i).toNat)
 case atStart => exact ⟨0, Nat.zero_le _, rfl, by have h := HS2.out; show Row _ _ _ _; simpa [asmK, asmL, flts] using h, by have h := HT2.out; show Row _ _ _ _; simpa [asmK, asmL, bools] using h, HP2, HB2⟩
 case round =>
  obtain ⟨k, hk, rfl, HS, HT, HP, HB⟩ := hrel
  obtain ⟨wo, rfl⟩ : ∃ wo : World, wo = wr := ⟨_, rfl⟩
  by_cases hlt : k < ps.length
  · obtain ⟨st, ct, ln, x0, x1, x2, x3, x4, x5, x6, x7, hp⟩ := pk_form (H8.out _ (List.getElem_mem hlt))
    have hok := pkE_ok (HPK.out _ (List.getElem_mem hlt))
    have hsucc := asmK_succ station N ps k hlt
    have hcell : ∀ j v, (plV ps[k])[j]? = some v → wo.cell? ⟨gP, k * 12 + j, none⟩ = some v := fun j v hv => by
     have h12 := plV_length (H8.out _ (List.getElem_mem hlt))
     rw [HP.out.cell, plC, flat_get plV 12 ps (fun p hp => plV_length (H8.out p hp)) k hlt j (by have := (List.getElem?_eq_some_iff.1 hv).1; omega)]; exact hv
    rw [hp] at hok hsucc hcell
    have hok : (0 ≤ st ∧ st ≤ 255) ∧ (0 ≤ ct ∧ ct ≤ 65535) ∧ (0 ≤ ln ∧ ln ≤ 8) := hok
    obtain ⟨aa, haa⟩ : ∃ aa : Nat, 8 * ct = (aa : Int) := ⟨(8 * ct).toNat, by omega⟩
    have c0 := hcell 0 _ rfl
    have c1 := hcell 1 _ rfl
    have c2 := hcell 2 _ rfl
    have c3 := hcell 3 _ rfl
    have c4 := hcell 4 _ rfl
    have c5 := hcell 5 _ rfl
    have c6 := hcell 6 _ rfl
    have c7 := hcell 7 _ rfl
    have c8 := hcell 8 _ rfl
    have c9 := hcell 9 _ rfl
    have c10 := hcell 10 _ rfl
    have c11a := hcell 11 _ rfl
    rw [Nat.add_zero] at c0
    have c11 : wo.cell? ⟨gP, k * 12 + 11, none⟩ = some (.int .i64 (aa : Int)) := by rw [← haa]; exact c11a
    clear c11a
    have hl1a := asmL_len station N (ps.take k)
    have hl1 : (asmK station N ps k).1.length = N ∧ (asmK station N ps k).2.length = N := by simpa [asmK] using hl1a
    clear hl1a
    obtain ⟨s, hs⟩ : ∃ s, s = asmK station N ps k := ⟨_, rfl⟩
    rw [← hs] at HS HT hsucc hl1
    have hB1 := HB.out.size
    have HNB := Lib.hid (HB.out.alloc HB.out.size (.cells #[.int .i64 st, .int .i64 ct, .int .i64 ln, .float .f32 x0, .float .f32 x1, .float .f32 x2, .float .f32 x3, .float .f32 x4, .float .f32 x5, .float .f32 x6, .float .f32 x7, .int .i64 (aa : Int)] 164))
    have HNS := Lib.hid (HS.out.alloc (.cells #[.int .i64 st, .int .i64 ct, .int .i64 ln, .float .f32 x0, .float .f32 x1, .float .f32 x2, .float .f32 x3, .float .f32 x4, .float .f32 x5, .float .f32 x6, .float .f32 x7, .int .i64 (aa : Int)] 164))
    have HNT := Lib.hid (HT.out.alloc (.cells #[.int .i64 st, .int .i64 ct, .int .i64 ln, .float .f32 x0, .float .f32 x1, .float .f32 x2, .float .f32 x3, .float .f32 x4, .float .f32 x5, .float .f32 x6, .float .f32 x7, .int .i64 (aa : Int)] 164))
    have HNP := Lib.hid (HP.out.alloc (.cells #[.int .i64 st, .int .i64 ct, .int .i64 ln, .float .f32 x0, .float .f32 x1, .float .f32 x2, .float .f32 x3, .float .f32 x4, .float .f32 x5, .float .f32 x6, .float .f32 x7, .int .i64 (aa : Int)] 164))
    have hz4 : Hid (gP < wo.heap.size) := HP.out.lt
    clear hcell hp hs hB1
    by_cases hstn : st = station
    · subst hstn
      have e1 : IntKind.i64.wrap ((N : Int) - (aa : Int)) = (N : Int) - (aa : Int) := IntWalk.i64_in _ (by omega)
      have hat : (8 * ct).toNat = aa := by rw [haa]; rfl
      by_cases hlt0 : (N : Int) - (aa : Int) < ln
      · have hmt : (min ln ((N : Int) - 8 * ct)).toNat = N - aa := by rw [haa]; omega
        have HSU : Hid (asmK st N ps (k + 1) = putGo s aa [x0, x1, x2, x3, x4, x5, x6, x7] (N - aa)) := by
         unfold Hid; rw [hsucc, asm1, if_pos rfl]; show putGo s (8 * ct).toNat _ (min ln ((N : Int) - 8 * ct)).toNat = _; rw [hmt, hat]
        have HL1 := Lib.hid hl1
        clear hsucc hmt hat haa hl1
        go_wp2
        go_loopw [51] (fun i wr => ∃ j : Nat, j ≤ (N - aa) ∧ i = .int .i64 j ∧ Hid (Row wr gS 56 (flts (putGo s aa [x0, x1, x2, x3, x4, x5, x6, x7] j).1)) ∧ Hid (Row wr gT 4 (bools (putGo s aa [x0, x1, x2, x3, x4, x5, x6, x7] j).2)) ∧ Hid (Row wr gP 164 (plC ps)) ∧ Hid (Row wr wo.heap.size 164 [.int .i64 st, .int .i64 ct, .int .i64 ln, .float .f32 x0, .float .f32 x1, .float .f32 x2, .float .f32 x3, .float .f32 x4, .float .f32 x5, .float .f32 x6, .float .f32 x7, .int .i64 (aa : Int)]) ∧ Hid (Below w.heap.size w wr)) (fun i _ => (N - aa) - (intOf i).toNat)
        case atStart => exact ⟨0, Nat.zero_le _, rfl, HNS, HNT, HNP, Row.new wo _ [.int .i64 st, .int .i64 ct, .int .i64 ln, .float .f32 x0, .float .f32 x1, .float .f32 x2, .float .f32 x3, .float .f32 x4, .float .f32 x5, .float .f32 x6, .float .f32 x7, .int .i64 (aa : Int)], HNB⟩
        case round =>
         obtain ⟨j, hj, rfl, IS, IT, IP, IG, IB⟩ := hrel
         by_cases hjl : j < (N - aa)
         · have hj8 : j < 8 := by omega
           have haj : aa + j < N := by omega
           have hle := putGo_len s aa [x0, x1, x2, x3, x4, x5, x6, x7] j
           have hsu := putGo_succ s aa [x0, x1, x2, x3, x4, x5, x6, x7] j
           obtain ⟨y, hy⟩ : ∃ y, y = [x0, x1, x2, x3, x4, x5, x6, x7].getD j 0 := ⟨_, rfl⟩
           have cy : wr.cell? ⟨wo.heap.size, 3 + j, none⟩ = some (.float .f32 y) := by
            rw [IG.out.cell, hy]
            rcases (show j = 0 ∨ j = 1 ∨ j = 2 ∨ j = 3 ∨ j = 4 ∨ j = 5 ∨ j = 6 ∨ j = 7 by omega) with rfl | rfl | rfl | rfl | rfl | rfl | rfl | rfl <;> rfl
           have ca : wr.cell? ⟨wo.heap.size, 11, none⟩ = some (.int .i64 (aa : Int)) := by rw [IG.out.cell]; rfl
           rw [← hy] at hsu
           clear hy
           obtain ⟨S, hS⟩ : ∃ S, S = putGo s aa [x0, x1, x2, x3, x4, x5, x6, x7] j := ⟨_, rfl⟩
           rw [← hS] at IS IT hle hsu
           clear hS
           have hLS : S.1.length = N := hle.1.trans HL1.out.1
           have hLT : S.2.length = N := hle.2.trans HL1.out.2
           obtain ⟨bv, hbv⟩ : ∃ bv, bv = S.2[aa + j]'(by omega) := ⟨_, rfl⟩
           have cT : wr.cell? ⟨gT, aa + j, none⟩ = some (.bool bv) := by
            rw [IT.out.cell, hbv]; simp [bools, List.getElem?_eq_getElem (show aa + j < S.2.length by omega)]
           obtain ⟨vS, cS⟩ : ∃ v, wr.cell? ⟨gS, aa + j, none⟩ = some v := ⟨_, IS.out.cellAt (by simp [flts]; omega)⟩
           have fS := IS.out.free (aa + j)
           have fT := IT.out.free (aa + j)
           have hgd : S.2.getD (aa + j) true = bv := by rw [hbv]; simp [List.getD, List.getElem?_eq_getElem (show aa + j < S.2.length by omega)]
           have hI1 : IntKind.i64.wrap ((aa : Int) + (j : Int)) = (aa : Int) + (j : Int) := IntWalk.i64_in _ (by omega)
           have hI2 : ((aa : Int) + (j : Int)).toNat = aa + j := by omega
           have hI3 : 0 ≤ (aa : Int) + (j : Int) := by omega
           have hI4 : (aa : Int) + (j : Int) < (N : Int) := by omega
           have hI5 : (j : Int) < 8 := by omega
           have hI6 : (0 : Int) ≤ (j : Int) := by omega
           have Hsu := Lib.hid hsu; have Hgd := Lib.hid hgd
           clear hle hsu hLS hLT hbv hgd
           cases bv
           · have Hs2 : Hid (putGo s aa [x0, x1, x2, x3, x4, x5, x6, x7] (j + 1) = (S.1.set (aa + j) y, S.2.set (aa + j) true)) := by unfold Hid; rw [Hsu.out, put1, if_neg (by rw [Hgd.out]; decide)]
             have hn1 : Hid (gS ≠ wo.heap.size ∧ gT ≠ wo.heap.size ∧ gS ≠ gT) := by unfold Hid; have := hz1.out; have := hz2.out; have := hz4.out; omega
             have n1 : ¬ gS = gT := hn1.out.2.2
             have n2 : ¬ gT = gS := fun h => hn1.out.2.2 h.symm
             have hnp : Hid (gP ≠ gS ∧ gP ≠ gT) := by unfold Hid; have := hz1.out; have := hz2.out; omega
             have S1 : Hid (wr.cell? ⟨wo.heap.size, 11, none⟩ = some (.int .i64 (aa : Int)) ∧ wr.cell? ⟨wo.heap.size, 3 + j, none⟩ = some (.float .f32 y)) := ⟨ca, cy⟩
             have hK : ∀ (W : World) v, (W.cell? ⟨wo.heap.size, 11, none⟩ = some (.int .i64 (aa : Int)) ∧ W.cell? ⟨wo.heap.size, 3 + j, none⟩ = some (.float .f32 y)) → ((W.setCell ⟨gS, aa + j, none⟩ v).cell? ⟨wo.heap.size, 11, none⟩ = some (.int .i64 (aa : Int)) ∧ (W.setCell ⟨gS, aa + j, none⟩ v).cell? ⟨wo.heap.size, 3 + j, none⟩ = some (.float .f32 y)) := fun W v h => ⟨(World.cell?_setCell_far W _ _ v hn1.out.1).trans h.1, (World.cell?_setCell_far W _ _ v hn1.out.1).trans h.2⟩
             have hK2 : ∀ (W : World) v, (W.cell? ⟨wo.heap.size, 11, none⟩ = some (.int .i64 (aa : Int)) ∧ W.cell? ⟨wo.heap.size, 3 + j, none⟩ = some (.float .f32 y)) → ((W.setCell ⟨gT, aa + j, none⟩ v).cell? ⟨wo.heap.size, 11, none⟩ = some (.int .i64 (aa : Int)) ∧ (W.setCell ⟨gT, aa + j, none⟩ v).cell? ⟨wo.heap.size, 3 + j, none⟩ = some (.float .f32 y)) := fun W v h => ⟨(World.cell?_setCell_far W _ _ v hn1.out.2.1).trans h.1, (World.cell?_setCell_far W _ _ v hn1.out.2.1).trans h.2⟩
             have HK := Lib.hid hK; have HK2 := Lib.hid hK2
             clear hK hK2
             go_wp2
             go_region_held3 (fun w' => w'.cell? ⟨wo.heap.size, 11, none⟩ = some (.int .i64 (aa : Int)) ∧ w'.cell? ⟨wo.heap.size, 3 + j, none⟩ = some (.float .f32 y)) (first | assumption | exact S1.out | exact HK.out _ _ (by assumption) | exact HK2.out _ _ (by assumption) | exact HK.out _ _ S1.out | exact HK2.out _ _ S1.out) (fail)
             all_goals go_wp2
             all_goals go_roundw
             all_goals first
              | (exact ⟨j + 1, by omega, by go_num, by rw [Hs2.out]; show Row _ _ _ _; simp only [flts, List.map_set]; exact ((IS.out.set (aa + j) (.float .f32 y)).far hn1.out.2.2 (.bool true)), by rw [Hs2.out]; show Row _ _ _ _; simp only [bools, List.map_set]; exact ((IT.out.far (Ne.symm hn1.out.2.2) (.float .f32 y)).set (aa + j) (.bool true)), (IP.out.far hnp.out.1 _).far hnp.out.2 _, (IG.out.far (Ne.symm hn1.out.1) _).far (Ne.symm hn1.out.2.1) _, ((IB.out.drew.setCell hz1.out.1 _).setCell (by have := hz1.out; simp; omega) _)⟩)
              | (exact ⟨j + 1, by omega, by go_num, by rw [Hs2.out]; show Row _ _ _ _; simp only [flts, List.map_set]; exact ((IS.out.far hn1.out.2.2 (.bool true)).set (aa + j) (.float .f32 y)), by rw [Hs2.out]; show Row _ _ _ _; simp only [bools, List.map_set]; exact ((IT.out.set (aa + j) (.bool true)).far (Ne.symm hn1.out.2.2) (.float .f32 y)), (IP.out.far hnp.out.2 _).far hnp.out.1 _, (IG.out.far (Ne.symm hn1.out.2.1) _).far (Ne.symm hn1.out.1) _, ((IB.out.drew.setCell (by have := hz1.out; simp; omega) _).setCell hz1.out.1 _)⟩)
              | (simp [intOf]; omega)
           · have Hs2 : Hid (putGo s aa [x0, x1, x2, x3, x4, x5, x6, x7] (j + 1) = S) := by unfold Hid; rw [Hsu.out, put1, if_pos Hgd.out]
             go_wp2
             go_roundw
             case rel => exact ⟨j + 1, by omega, by go_num, by rw [Hs2.out]; exact IS, by rw [Hs2.out]; exact IT, IP, IG, IB⟩
             case measure => simp [intOf]; omega
         · obtain rfl : j = (N - aa) := by omega
           go_wp2
           go_roundw
           case rel => exact ⟨k + 1, by omega, by go_num, by rw [HSU.out]; exact IS, by rw [HSU.out]; exact IT, IP, IB⟩
           case measure => simp [intOf]; omega
      · obtain ⟨lm, rfl⟩ : ∃ lm : Nat, ln = (lm : Int) := ⟨ln.toNat, by omega⟩
        have hmt : (min (lm : Int) ((N : Int) - 8 * ct)).toNat = lm := by rw [haa]; omega
        have HSU : Hid (asmK st N ps (k + 1) = putGo s aa [x0, x1, x2, x3, x4, x5, x6, x7] lm) := by
         unfold Hid; rw [hsucc, asm1, if_pos rfl]; show putGo s (8 * ct).toNat _ (min (lm : Int) ((N : Int) - 8 * ct)).toNat = _; rw [hmt, hat]
        have HL1 := Lib.hid hl1
        clear hsucc hmt hat haa hl1
        go_wp2
        go_loopw [51] (fun i wr => ∃ j : Nat, j ≤ lm ∧ i = .int .i64 j ∧ Hid (Row wr gS 56 (flts (putGo s aa [x0, x1, x2, x3, x4, x5, x6, x7] j).1)) ∧ Hid (Row wr gT 4 (bools (putGo s aa [x0, x1, x2, x3, x4, x5, x6, x7] j).2)) ∧ Hid (Row wr gP 164 (plC ps)) ∧ Hid (Row wr wo.heap.size 164 [.int .i64 st, .int .i64 ct, .int .i64 (lm : Int), .float .f32 x0, .float .f32 x1, .float .f32 x2, .float .f32 x3, .float .f32 x4, .float .f32 x5, .float .f32 x6, .float .f32 x7, .int .i64 (aa : Int)]) ∧ Hid (Below w.heap.size w wr)) (fun i _ => lm - (intOf i).toNat)
        case atStart => exact ⟨0, Nat.zero_le _, rfl, HNS, HNT, HNP, Row.new wo _ [.int .i64 st, .int .i64 ct, .int .i64 (lm : Int), .float .f32 x0, .float .f32 x1, .float .f32 x2, .float .f32 x3, .float .f32 x4, .float .f32 x5, .float .f32 x6, .float .f32 x7, .int .i64 (aa : Int)], HNB⟩
        case round =>
         obtain ⟨j, hj, rfl, IS, IT, IP, IG, IB⟩ := hrel
         by_cases hjl : j < lm
         · have hj8 : j < 8 := by omega
           have haj : aa + j < N := by omega
           have hle := putGo_len s aa [x0, x1, x2, x3, x4, x5, x6, x7] j
           have hsu := putGo_succ s aa [x0, x1, x2, x3, x4, x5, x6, x7] j
           obtain ⟨y, hy⟩ : ∃ y, y = [x0, x1, x2, x3, x4, x5, x6, x7].getD j 0 := ⟨_, rfl⟩
           have cy : wr.cell? ⟨wo.heap.size, 3 + j, none⟩ = some (.float .f32 y) := by
            rw [IG.out.cell, hy]
            rcases (show j = 0 ∨ j = 1 ∨ j = 2 ∨ j = 3 ∨ j = 4 ∨ j = 5 ∨ j = 6 ∨ j = 7 by omega) with rfl | rfl | rfl | rfl | rfl | rfl | rfl | rfl <;> rfl
           have ca : wr.cell? ⟨wo.heap.size, 11, none⟩ = some (.int .i64 (aa : Int)) := by rw [IG.out.cell]; rfl
           rw [← hy] at hsu
           clear hy
           obtain ⟨S, hS⟩ : ∃ S, S = putGo s aa [x0, x1, x2, x3, x4, x5, x6, x7] j := ⟨_, rfl⟩
           rw [← hS] at IS IT hle hsu
           clear hS
           have hLS : S.1.length = N := hle.1.trans HL1.out.1
           have hLT : S.2.length = N := hle.2.trans HL1.out.2
           obtain ⟨bv, hbv⟩ : ∃ bv, bv = S.2[aa + j]'(by omega) := ⟨_, rfl⟩
           have cT : wr.cell? ⟨gT, aa + j, none⟩ = some (.bool bv) := by
            rw [IT.out.cell, hbv]; simp [bools, List.getElem?_eq_getElem (show aa + j < S.2.length by omega)]
           obtain ⟨vS, cS⟩ : ∃ v, wr.cell? ⟨gS, aa + j, none⟩ = some v := ⟨_, IS.out.cellAt (by simp [flts]; omega)⟩
           have fS := IS.out.free (aa + j)
           have fT := IT.out.free (aa + j)
           have hgd : S.2.getD (aa + j) true = bv := by rw [hbv]; simp [List.getD, List.getElem?_eq_getElem (show aa + j < S.2.length by omega)]
           have hI1 : IntKind.i64.wrap ((aa : Int) + (j : Int)) = (aa : Int) + (j : Int) := IntWalk.i64_in _ (by omega)
           have hI2 : ((aa : Int) + (j : Int)).toNat = aa + j := by omega
           have hI3 : 0 ≤ (aa : Int) + (j : Int) := by omega
           have hI4 : (aa : Int) + (j : Int) < (N : Int) := by omega
           have hI5 : (j : Int) < 8 := by omega
           have hI6 : (0 : Int) ≤ (j : Int) := by omega
           have Hsu := Lib.hid hsu; have Hgd := Lib.hid hgd
           clear hle hsu hLS hLT hbv hgd
           cases bv
           · have Hs2 : Hid (putGo s aa [x0, x1, x2, x3, x4, x5, x6, x7] (j + 1) = (S.1.set (aa + j) y, S.2.set (aa + j) true)) := by unfold Hid; rw [Hsu.out, put1, if_neg (by rw [Hgd.out]; decide)]
             have hn1 : Hid (gS ≠ wo.heap.size ∧ gT ≠ wo.heap.size ∧ gS ≠ gT) := by unfold Hid; have := hz1.out; have := hz2.out; have := hz4.out; omega
             have n1 : ¬ gS = gT := hn1.out.2.2
             have n2 : ¬ gT = gS := fun h => hn1.out.2.2 h.symm
             have hnp : Hid (gP ≠ gS ∧ gP ≠ gT) := by unfold Hid; have := hz1.out; have := hz2.out; omega
             have S1 : Hid (wr.cell? ⟨wo.heap.size, 11, none⟩ = some (.int .i64 (aa : Int)) ∧ wr.cell? ⟨wo.heap.size, 3 + j, none⟩ = some (.float .f32 y)) := ⟨ca, cy⟩
             have hK : ∀ (W : World) v, (W.cell? ⟨wo.heap.size, 11, none⟩ = some (.int .i64 (aa : Int)) ∧ W.cell? ⟨wo.heap.size, 3 + j, none⟩ = some (.float .f32 y)) → ((W.setCell ⟨gS, aa + j, none⟩ v).cell? ⟨wo.heap.size, 11, none⟩ = some (.int .i64 (aa : Int)) ∧ (W.setCell ⟨gS, aa + j, none⟩ v).cell? ⟨wo.heap.size, 3 + j, none⟩ = some (.float .f32 y)) := fun W v h => ⟨(World.cell?_setCell_far W _ _ v hn1.out.1).trans h.1, (World.cell?_setCell_far W _ _ v hn1.out.1).trans h.2⟩
             have hK2 : ∀ (W : World) v, (W.cell? ⟨wo.heap.size, 11, none⟩ = some (.int .i64 (aa : Int)) ∧ W.cell? ⟨wo.heap.size, 3 + j, none⟩ = some (.float .f32 y)) → ((W.setCell ⟨gT, aa + j, none⟩ v).cell? ⟨wo.heap.size, 11, none⟩ = some (.int .i64 (aa : Int)) ∧ (W.setCell ⟨gT, aa + j, none⟩ v).cell? ⟨wo.heap.size, 3 + j, none⟩ = some (.float .f32 y)) := fun W v h => ⟨(World.cell?_setCell_far W _ _ v hn1.out.2.1).trans h.1, (World.cell?_setCell_far W _ _ v hn1.out.2.1).trans h.2⟩
             have HK := Lib.hid hK; have HK2 := Lib.hid hK2
             clear hK hK2
             go_wp2
             go_region_held3 (fun w' => w'.cell? ⟨wo.heap.size, 11, none⟩ = some (.int .i64 (aa : Int)) ∧ w'.cell? ⟨wo.heap.size, 3 + j, none⟩ = some (.float .f32 y)) (first | assumption | exact S1.out | exact HK.out _ _ (by assumption) | exact HK2.out _ _ (by assumption) | exact HK.out _ _ S1.out | exact HK2.out _ _ S1.out) (fail)
             all_goals go_wp2
             all_goals go_roundw
             all_goals first
              | (exact ⟨j + 1, by omega, by go_num, by rw [Hs2.out]; show Row _ _ _ _; simp only [flts, List.map_set]; exact ((IS.out.set (aa + j) (.float .f32 y)).far hn1.out.2.2 (.bool true)), by rw [Hs2.out]; show Row _ _ _ _; simp only [bools, List.map_set]; exact ((IT.out.far (Ne.symm hn1.out.2.2) (.float .f32 y)).set (aa + j) (.bool true)), (IP.out.far hnp.out.1 _).far hnp.out.2 _, (IG.out.far (Ne.symm hn1.out.1) _).far (Ne.symm hn1.out.2.1) _, ((IB.out.drew.setCell hz1.out.1 _).setCell (by have := hz1.out; simp; omega) _)⟩)
              | (exact ⟨j + 1, by omega, by go_num, by rw [Hs2.out]; show Row _ _ _ _; simp only [flts, List.map_set]; exact ((IS.out.far hn1.out.2.2 (.bool true)).set (aa + j) (.float .f32 y)), by rw [Hs2.out]; show Row _ _ _ _; simp only [bools, List.map_set]; exact ((IT.out.set (aa + j) (.bool true)).far (Ne.symm hn1.out.2.2) (.float .f32 y)), (IP.out.far hnp.out.2 _).far hnp.out.1 _, (IG.out.far (Ne.symm hn1.out.2.1) _).far (Ne.symm hn1.out.1) _, ((IB.out.drew.setCell (by have := hz1.out; simp; omega) _).setCell hz1.out.1 _)⟩)
              | (simp [intOf]; omega)
           · have Hs2 : Hid (putGo s aa [x0, x1, x2, x3, x4, x5, x6, x7] (j + 1) = S) := by unfold Hid; rw [Hsu.out, put1, if_pos Hgd.out]
             go_wp2
             go_roundw
             case rel => exact ⟨j + 1, by omega, by go_num, by rw [Hs2.out]; exact IS, by rw [Hs2.out]; exact IT, IP, IG, IB⟩
             case measure => simp [intOf]; omega
         · obtain rfl : j = lm := by omega
           go_wp2
           go_roundw
           case rel => exact ⟨k + 1, by omega, by go_num, by rw [HSU.out]; exact IS, by rw [HSU.out]; exact IT, IP, IB⟩
           case measure => simp [intOf]; omega
    · have hne : (st != station) = true := by simpa using hstn
      have HSU : Hid (asmK station N ps (k + 1) = s) := by unfold Hid; rw [hsucc, asm1, if_neg (by simpa using hstn)]
      clear hsucc hstn haa hok hl1
      go_wp2
      go_roundw
      case rel => exact ⟨k + 1, by omega, by go_num, by rw [HSU.out]; exact HNS, by rw [HSU.out]; exact HNT, HNP, HNB⟩
      case measure => simp [intOf]; omega
  · obtain rfl : k = ps.length := by omega
    have hfin : asmK station N ps ps.length = asmL station N ps := by unfold asmK; rw [List.take_length]
    rw [hfin] at HS HT
    have hlT := (asmL_len station N ps).2
    have hlT : N = (asmL station N ps).2.length := by simpa using hlT.symm
    have HLT := Lib.hid hlT
    have HSW := Lib.hid (spansWhere_any (some ⟨gT, 0, none⟩) N N (asmL station N ps).2 wo (Rd.row HT.out) hlT (by rw [← hlT]; exact hN))
    clear hfin hlT
    go_wp2_with fail
    refine HSW.out.mono ?_
    rintro e w5 ⟨v, rfl, ho5, hb5⟩
    have HS5 := Lib.hid (HS.out.old hb5)
    have HO5 := Lib.hid (owns_mono ho5 HB.out.size)
    have HB5 := Lib.hid (HB.out.trans (hb5.mono HB.out.size))
    clear ho5 hb5
    go_wp2
    go_ret3
    exact ⟨gS, v, rfl, HS5.out, HO5.out, hz1.out.1, HB5.out⟩
def strN (bs : List UInt8) : Int := wholeI (byteAt bs 4) (byteAt bs 5)
def strE (bs : List UInt8) : Int :=
 if 400000 < bs.length then 26 else if bs.length < 14 then 28 else if bs.take 4 ≠ [71, 76, 83, 49] then 1
 else if (bs.length : Int) ≠ 14 + 2 * strN bs then 2 else if !sealedB zero8 bs then 27 else 0
theorem wholeI_bd {a b : Int} (ha : 0 ≤ a ∧ a ≤ 255) (hb : 0 ≤ b ∧ b ≤ 255) : 0 ≤ wholeI a b ∧ wholeI a b ≤ 65535 := by unfold wholeI; omega
theorem strN_bd (bs : List UInt8) : 0 ≤ strN bs ∧ strN bs ≤ 65535 := wholeI_bd (byteAt_bd _ _) (byteAt_bd _ _)
theorem Rd.byteAt {w : World} {A : Option Addr} {bs : List UInt8} (h : Rd w A (byts bs)) {j : Nat} (hj : j < bs.length) : ∃ b off, A = some ⟨b, off, none⟩ ∧ w.cell? ⟨b, off + j, none⟩ = some (.int .u8 (byteAt bs j)) := by
 obtain ⟨b, off, h1, h2⟩ := h.byte hj
 refine ⟨b, off, h1, ?_⟩
 rw [h2]; simp [Go.Proofs.YtjdniebjhilooaaGreatDoor.byteAt, List.getD, List.getElem?_eq_getElem hj]
set_option maxHeartbeats 400000 in
theorem streamNumber_any (A : Option Addr) (n c : Nat) (bs : List UInt8) (w : World) (hA : Rd w A (byts bs)) (hn : n = bs.length) (h6 : 6 ≤ bs.length) (hm : bs.length ≤ 400000) :
 Calls Tryz.prog 107 #[.slice A n c] w fun e w' => e = .returned (.int .i64 (strN bs)) ∧ ∃ q, w' = w.drewN q := by
 subst hn
 obtain ⟨b, off, rfl, c4⟩ := hA.byteAt (j := 4) (by omega)
 obtain ⟨b', off', hb', c5⟩ := hA.byteAt (j := 5) (by omega)
 cases hb'
 have d4 := byteAt_bd bs 4
 have d5 := byteAt_bd bs 5
 have HN : Hid (strN bs = wholeI (byteAt bs 4) (byteAt bs 5)) := rfl
 obtain ⟨x, hx⟩ : ∃ x, x = byteAt bs 4 := ⟨_, rfl⟩
 obtain ⟨y, hy⟩ : ∃ y, y = byteAt bs 5 := ⟨_, rfl⟩
 rw [← hx] at c4 d4 HN; rw [← hy] at c5 d5 HN
 have D4 := Lib.hid d4; have D5 := Lib.hid d5
 have i4 : 4 < bs.length := by omega
 have i5 : 5 < bs.length := by omega
 have j4 : (4 : Int) < (bs.length : Int) := by omega
 have j5 : (5 : Int) < (bs.length : Int) := by omega
 clear hx hy d4 d5 hA
 go_enter Tryz.func107, Tryz.ntmps107
 go_wp2
 go_quiet ((go_at_call 71; (first | exact quiet_same (whole_any _ _ _ D4.out D5.out) | exact quiet_same2 (whole_any _ _ _ D4.out D5.out))))
 go_wp2
 go_ret
 exact ⟨ret_int HN.out.symm, _, rfl⟩
set_option maxRecDepth 100000 in
set_option maxHeartbeats 400000 in
theorem checkStream_any (A : Option Addr) (n c : Nat) (bs : List UInt8) (w : World) (hA : Rd w A (byts bs)) (hn : n = bs.length) (hc : n ≤ c) (hm : bs.length ≤ 9223372036854775807) :
 Calls Tryz.prog 106 #[.slice A n c] w fun e w' => e = .returned (.int .i64 (strE bs)) ∧ Below w.heap.size w w' := by
 subst hn
 by_cases h1 : 400000 < bs.length
 · have HE : Hid (strE bs = 26) := by unfold Hid strE; rw [if_pos h1]
   go_enter Tryz.func106, Tryz.ntmps106
   go_wp2
   go_ret
   exact ⟨ret_int HE.out.symm, Below.refl _ _⟩
 by_cases h2 : bs.length < 14
 · have HE : Hid (strE bs = 28) := by unfold Hid strE; rw [if_neg h1, if_pos h2]
   go_enter Tryz.func106, Tryz.ntmps106
   go_wp2
   go_ret
   exact ⟨ret_int HE.out.symm, Below.refl _ _⟩
 obtain ⟨b, off, rfl, -⟩ := hA.byteAt (j := 0) (by omega)
 have hsl := fun W => slice_to (P := Tryz.prog) 48 (by kernel_rfl) 1 (fun _ => by kernel_rfl) (some ⟨b, off, none⟩) bs.length c (4 : Int) (by decide) (by omega) W
 have hcv := run_convert_bytes_arg (P := Tryz.prog) w 48 5 Tryz.underlying48 Tryz.underlying5 b off 4 c (natsI (bs.take 4)) (by simp [natsI]; omega) (fun i hi => by
  obtain ⟨b', off', hb', h⟩ := hA.byteAt (j := i) (by omega)
  cases hb'
  rw [h]
  simp [byteAt, natsI, List.getD, List.getElem?_take, hi]
  rw [List.getElem?_eq_getElem (by omega)]; rfl) 9 Tryz.underlying9
 have hS : (strOfNums (natsI (bs.take 4))).data.toList = bs.take 4 := by
  rw [strOfNums_data]; simp only [natsI, List.map_map]; rw [List.map_congr_left (g := id) (fun b _ => by simp), List.map_id]
 obtain ⟨S, hSS⟩ : ∃ S, S = strOfNums (natsI (bs.take 4)) := ⟨_, rfl⟩
 rw [← hSS] at hcv hS
 have hneq : (S.toList == (ByteArray.mk #[71, 76, 83, 49]).toList) = decide (bs.take 4 = [71, 76, 83, 49]) := by
  rw [ByteArray.toList_eq, ByteArray.toList_eq, hS]
  by_cases h : bs.take 4 = [71, 76, 83, 49] <;> simp [h]
 have hsl : ∀ W, (Instr.slice 48 (.slice (some ⟨b, off, none⟩) bs.length c) none (some (.int .i64 4)) none).run Tryz.prog W = .ok (.slice (some ⟨b, off, none⟩) 4 c) W := hsl
 have HA := Lib.hid hA
 have HNQ := Lib.hid hneq
 have HSL := Lib.hid hsl; have HCV := Lib.hid hcv
 clear hA hS hSS hneq hsl hcv
 have hsl := HSL.out; have hcv := HCV.out
 by_cases h3 : bs.take 4 = [71, 76, 83, 49]
 · have hd : decide (bs.take 4 = [71, 76, 83, 49]) = true := by simpa using h3
   have hst : (S.toList == [71, 76, 83, 49]) = true := by have h := HNQ.out; rw [hd] at h; simpa using h
   have hN := strN_bd bs
   have Hmul : Hid (Calls Tryz.prog 107 #[.slice (some ⟨b, off, none⟩) bs.length c] w fun e w' => e = .returned (.int .i64 (strN bs)) ∧ ∃ q, w' = w.drewN q) := streamNumber_any _ _ _ bs w HA.out rfl (by omega) (by omega)
   obtain ⟨N, hNN⟩ : ∃ N, N = strN bs := ⟨_, rfl⟩
   have HE0 : Hid (strE bs = if (bs.length : Int) ≠ 14 + 2 * N then 2 else if !sealedB zero8 bs then 27 else 0) := by
    unfold Hid strE; rw [if_neg h1, if_neg h2, if_neg (by simpa using h3), hNN]
   rw [← hNN] at hN Hmul
   clear h3 hd hNN
   by_cases h4 : (bs.length : Int) = 14 + 2 * N
   · have h5 : ((bs.length : Int) != 14 + 2 * N) = false := by simpa using h4
     have HL := Lib.hid h4
     have Hseal : Hid (∀ W, Below w.heap.size w W → Calls Tryz.prog 70 #[.agg #[.int .u8 0, .int .u8 0, .int .u8 0, .int .u8 0, .int .u8 0, .int .u8 0, .int .u8 0, .int .u8 0], .slice (some ⟨b, off, none⟩) bs.length c] W fun e w' => e = .returned (.bool (sealedB zero8 bs)) ∧ Below W.heap.size W w') := fun W hW =>
      isSealed_any 0 0 0 0 0 0 0 0 _ _ _ bs W (HA.out.below hW) rfl hc (by omega) hm zero8_byte
     have HE : Hid (strE bs = if !sealedB zero8 bs then 27 else 0) := by unfold Hid; rw [HE0.out, if_neg (by simpa using h4)]
     obtain ⟨sb, hsb⟩ : ∃ sb, sb = sealedB zero8 bs := ⟨_, rfl⟩
     rw [← hsb] at Hseal HE
     clear h4 hsb HE0
     cases sb
     all_goals
      go_enter Tryz.func106, Tryz.ntmps106
      go_wp2_with (first
       | (go_at_call 107; refine Hmul.out.mono ?_; rintro e w1 ⟨rfl, q, rfl⟩)
       | (go_at_call 70; refine (Hseal.out _ ?_).mono ?_; (exact below_drewN (Below.refl _ _) _); rintro e w1 ⟨rfl, hb1⟩))
      go_ret
      exact ⟨ret_int HE.out.symm, (below_drewN (Below.refl _ _) _).trans hb1⟩
   · have h5 : ((bs.length : Int) != 14 + 2 * N) = true := by simpa using h4
     have HE : Hid (strE bs = 2) := by unfold Hid; rw [HE0.out, if_pos h4]
     clear h4 HE0
     go_enter Tryz.func106, Tryz.ntmps106
     go_wp2_with (go_at_call 107; refine Hmul.out.mono ?_; rintro e w1 ⟨rfl, q, rfl⟩)
     go_ret
     exact ⟨ret_int HE.out.symm, below_drewN (Below.refl _ _) _⟩
 · have HE : Hid (strE bs = 1) := by unfold Hid strE; rw [if_neg h1, if_neg h2, if_pos h3]
   have hd : decide (bs.take 4 = [71, 76, 83, 49]) = false := by simpa using h3
   have hst : (S.toList == [71, 76, 83, 49]) = false := by have h := HNQ.out; rw [hd] at h; simpa using h
   clear h3 hd
   go_enter Tryz.func106, Tryz.ntmps106
   go_wp2
   go_ret
   exact ⟨ret_int HE.out.symm, Below.refl _ _⟩
def upX (bs : List UInt8) (N : Nat) : List Nat := (List.range N).map fun i => fb (signI (byteAt bs (6 + i)) (byteAt bs (6 + N + i)))
theorem upX_length (bs : List UInt8) (N : Nat) : (upX bs N).length = N := by simp [upX]
theorem upX_get (bs : List UInt8) (N k : Nat) (h : k < (upX bs N).length) : (upX bs N)[k] = fb (signI (byteAt bs (6 + k)) (byteAt bs (6 + N + k))) := by simp [upX]
def unpN (bs : List UInt8) : Nat := (strN bs).toNat
def unpE (bs : List UInt8) : Int := if strE bs ≠ 0 then strE bs else sampsI (upX bs (unpN bs))
theorem strE_zero {bs : List UInt8} (h : strE bs = 0) : bs.length = 14 + 2 * unpN bs ∧ unpN bs ≤ 65535 ∧ strN bs = (unpN bs : Int) := by
 have hb := strN_bd bs
 unfold strE at h
 split at h
 · simp at h
 · split at h
   · simp at h
   · split at h
     · simp at h
     · split at h
       · simp at h
       · rename_i h4
         have h4 : (bs.length : Int) = 14 + 2 * strN bs := by simpa using h4
         unfold unpN
         omega
theorem byts_part {bs : List UInt8} {f h k : Nat} (hk : k < h - f) (hh : h ≤ bs.length) : ((byts bs).drop f |>.take (h - f))[k]? = some (.int .u8 (byteAt bs (f + k))) := by
 rw [List.getElem?_take, if_pos hk, List.getElem?_drop]
 simp only [byts, List.getElem?_map]
 rw [List.getElem?_eq_getElem (by omega)]
 simp [byteAt, List.getD, List.getElem?_eq_getElem (show f + k < bs.length by omega)]
set_option maxRecDepth 100000 in
set_option maxHeartbeats 1000000 in
theorem unpack_any (A : Option Addr) (n c : Nat) (bs : List UInt8) (w : World) (hA : Rd w A (byts bs)) (hn : n = bs.length) (hc : n ≤ c) (hm : bs.length ≤ 9223372036854775807) :
 Calls Tryz.prog 43 #[.slice A n c] w fun e w' => ∃ v, e = .returned (.tuple #[v, .int .i64 (unpE bs)]) ∧ (unpE bs = 0 → ∃ g, v = .slice (some ⟨g, 0, none⟩) (unpN bs) (unpN bs) ∧ Row w' g 56 (flts (upX bs (unpN bs))) ∧ w.heap.size ≤ g) ∧ (unpE bs ≠ 0 → v = .slice none 0 0) ∧ Below w.heap.size w w' := by
 subst hn
 have Hchk : Hid (Calls Tryz.prog 106 #[.slice A bs.length c] w fun e w' => e = .returned (.int .i64 (strE bs)) ∧ Below w.heap.size w w') := checkStream_any A _ c bs w hA rfl hc hm
 have HA := Lib.hid hA
 clear hA
 by_cases h0 : strE bs = 0
 · obtain ⟨hlen, hN, hsN⟩ := strE_zero h0
   have HE : Hid (unpE bs = sampsI (upX bs (unpN bs))) := by unfold Hid unpE; rw [if_neg (by simp [h0])]
   have HNL : Hid (∀ W, Below w.heap.size w W → Calls Tryz.prog 107 #[.slice A bs.length c] W fun e w' => e = .returned (.int .i64 (unpN bs : Int)) ∧ ∃ q, w' = W.drewN q) := fun W hW => by
    have h := streamNumber_any A bs.length c bs W (HA.out.below hW) rfl (by omega) (by omega)
    rw [hsN] at h; exact h
   obtain ⟨N, hNN⟩ : ∃ N, N = unpN bs := ⟨_, rfl⟩
   rw [← hNN] at HE HNL hN hlen ⊢
   rw [h0] at Hchk
   clear hsN hNN h0
   obtain ⟨b, off, rfl, -⟩ := HA.out.byteAt (j := 0) (by omega)
   obtain ⟨A1, hsl1, hR1, -⟩ := slice_mid (P := Tryz.prog) 48 (by kernel_rfl) (fun _ => by kernel_rfl) (some ⟨b, off, none⟩) bs.length c 6 (6 + N) (by omega) (by omega) hc (fun h => by cases h)
   obtain ⟨A2, hsl2, hR2, -⟩ := slice_mid (P := Tryz.prog) 48 (by kernel_rfl) (fun _ => by kernel_rfl) (some ⟨b, off, none⟩) bs.length c (6 + N) (6 + 2 * N) (by omega) (by omega) hc (fun h => by cases h)
   have k1 : 6 + N - 6 = N := by omega
   have k2 : 6 + 2 * N - (6 + N) = N := by omega
   rw [k1] at hR1; rw [k2] at hR2
   simp only [k1] at hsl1
   simp only [k2] at hsl2
   have hsl1 : ∀ W, (Instr.slice 48 (.slice (some ⟨b, off, none⟩) bs.length c) (some (.int .i64 6)) (some (.int .i64 (6 + (N : Int)))) none).run Tryz.prog W = .ok (.slice A1 N (c - 6)) W := hsl1
   have hsl2 : ∀ W, (Instr.slice 48 (.slice (some ⟨b, off, none⟩) bs.length c) (some (.int .i64 (6 + (N : Int)))) (some (.int .i64 (6 + 2 * (N : Int)))) none).run Tryz.prog W = .ok (.slice A2 N (c - (6 + N))) W := by
    have e : ((6 + 2 * N : Nat) : Int) = 6 + 2 * (N : Int) := by omega
    have e2 : ((6 + N : Nat) : Int) = 6 + (N : Int) := by omega
    rw [e, e2] at hsl2; exact hsl2
   have e1 : IntKind.i64.wrap (6 + (N : Int)) = 6 + (N : Int) := IntWalk.i64_in _ (by omega)
   have e2 : IntKind.i64.wrap (2 * (N : Int)) = 2 * (N : Int) := IntWalk.i64_in _ (by omega)
   have e3 : IntKind.i64.wrap (6 + 2 * (N : Int)) = 6 + 2 * (N : Int) := IntWalk.i64_in _ (by omega)
   have hmk := fun W : World => make1 (P := Tryz.prog) 22 56 (.float .f32 0) 4 Tryz.underlying22 info37 rfl N (by omega) (by omega) W
   have HR1 := Lib.hid hR1; have HR2 := Lib.hid hR2
   have HLEN := Lib.hid hlen
   clear hR1 hR2 k1 k2 hlen
   go_enter Tryz.func43, Tryz.ntmps43
   go_wp2_with fail
   refine Hchk.out.mono ?_
   rintro e w1 ⟨rfl, hb1⟩
   have HB1 := Lib.hid hb1
   clear hb1
   go_wp2_with (go_at_call 107; refine (HNL.out _ HB1.out).mono ?_; rintro e w2 ⟨rfl, q2, rfl⟩)
   go_quiet (fail)
   clear hsl1 hsl2 e1 e2 e3
   go_wp2
   refine genA (w0 := w) w1.heap.size 56 (List.replicate N (.float .f32 0)) (Row.new _ _ _) ((below_drewN HB1.out _).alloc HB1.out.size _) ?_
   intro W R0 RB
   have G0 := Lib.hid R0; have GB := Lib.hid RB
   clear R0 RB hmk
   go_loopw [32] (fun i wr => ∃ k : Nat, k ≤ N ∧ i = .int .i64 k ∧ Hid (Row wr w1.heap.size 56 (flts ((upX bs N).take k) ++ List.replicate (N - k) (.float .f32 0))) ∧ Hid (Below w.heap.size w wr)) (fun i _ => N - (intOf i).toNat)
   case atStart => exact ⟨0, Nat.zero_le _, rfl, by have := G0.out; show Row _ _ _ _; simpa [flts] using this, GB⟩
   case round =>
    obtain ⟨k, hk, rfl, g0, gb⟩ := hrel
    have z1 : Hid (w.heap.size ≤ w1.heap.size) := HB1.out.size
    by_cases hlt : k < N
    · obtain ⟨b1, o1, hA1, cx⟩ := HR1.out wr _ (HA.out.below gb.out) k _ (by have := byts_part (bs := bs) (f := 6) (h := 6 + N) (k := k) (by omega) (by have := HLEN.out; omega); rwa [show 6 + N - 6 = N by omega] at this)
      obtain ⟨b2, o2, hA2, cy⟩ := HR2.out wr _ (HA.out.below gb.out) k _ (by have := byts_part (bs := bs) (f := 6 + N) (h := 6 + N + N) (k := k) (by omega) (by have := HLEN.out; omega); rwa [show 6 + N + N - (6 + N) = N by omega] at this)
      subst hA1; subst hA2
      have hne1 : Hid (w1.heap.size ≠ b1) := by
       intro h; subst h
       obtain ⟨bq, oq, h1, h2⟩ := HR1.out w _ HA.out k _ (by have := byts_part (bs := bs) (f := 6) (h := 6 + N) (k := k) (by omega) (by have := HLEN.out; omega); rwa [show 6 + N - 6 = N by omega] at this)
       cases h1
       have h3 := World.block_lt_of_cell? w _ h2
       have h4 : w1.heap.size < w.heap.size := h3
       have := z1.out; omega
      have hne2 : Hid (w1.heap.size ≠ b2) := by
       intro h; subst h
       obtain ⟨bq, oq, h1, h2⟩ := HR2.out w _ HA.out k _ (by have := byts_part (bs := bs) (f := 6 + N) (h := 6 + N + N) (k := k) (by omega) (by have := HLEN.out; omega); rwa [show 6 + N + N - (6 + N) = N by omega] at this)
       cases h1
       have h3 := World.block_lt_of_cell? w _ h2
       have h4 : w1.heap.size < w.heap.size := h3
       have := z1.out; omega
      have hset := Lib.hid (part_setG (Value.float .f32) (upX bs N) (.float .f32 0) N k (by rw [upX_length]; exact hlt) (upX_length bs N).symm)
      have hget := Lib.hid (upX_get bs N k (by rw [upX_length]; exact hlt))
      have dx := byteAt_bd bs (6 + k)
      have dy := byteAt_bd bs (6 + N + k)
      obtain ⟨x, ex⟩ : ∃ x, x = byteAt bs (6 + k) := ⟨_, rfl⟩
      obtain ⟨y, ey⟩ : ∃ y, y = byteAt bs (6 + N + k) := ⟨_, rfl⟩
      rw [← ex] at cx dx hget; rw [← ey] at cy dy hget
      have Hc1 : Hid (Calls Tryz.prog 73 #[.int .u8 x, .int .u8 y] wr.drew fun e w' => e = .returned (.int .i64 (signI x y)) ∧ wr.drew = w') := signed_any x y wr.drew dx dy
      have hsb := signI_bd dx dy
      have Hc2 : Hid (Calls Tryz.prog 72 #[.int .i64 (signI x y)] wr.drew fun e w' => e = .returned (.float .f32 (fb (signI x y))) ∧ wr.drew = w') := sampleOf_any _ _ hsb
      obtain ⟨v0, hc0⟩ : ∃ v0, wr.cell? ⟨w1.heap.size, k, none⟩ = some v0 := ⟨_, g0.out.cellAt (by simp [flts, upX_length]; omega)⟩
      have hf0 := g0.out.free k
      clear dx dy hsb ex ey
      obtain ⟨sg, hsg⟩ : ∃ sg, sg = signI x y := ⟨_, rfl⟩
      rw [← hsg] at Hc1 Hc2 hget
      clear hsg
      have h15 : (k : Int) < (N : Int) := by omega
      have h16 : (0 : Int) ≤ (k : Int) := by omega
      have S1 : Hid (wr.cell? ⟨b1, o1 + k, none⟩ = some (.int .u8 x) ∧ wr.cell? ⟨b2, o2 + k, none⟩ = some (.int .u8 y)) := ⟨cx, cy⟩
      have hStore : ∀ v, Hid ((wr.drew.setCell ⟨w1.heap.size, k, none⟩ v).cell? ⟨b1, o1 + k, none⟩ = some (.int .u8 x) ∧ (wr.drew.setCell ⟨w1.heap.size, k, none⟩ v).cell? ⟨b2, o2 + k, none⟩ = some (.int .u8 y)) := fun v => ⟨(World.cell?_setCell_far wr.drew _ _ v hne1.out).trans cx, (World.cell?_setCell_far wr.drew _ _ v hne2.out).trans cy⟩
      have HStore := Lib.hid hStore
      clear hStore
      go_wp2
      go_region_held3 (fun w' => w'.cell? ⟨b1, o1 + k, none⟩ = some (.int .u8 x) ∧ w'.cell? ⟨b2, o2 + k, none⟩ = some (.int .u8 y)) (first | assumption | exact S1.out | exact (HStore.out _).out)
       (first | (go_at_call 73; refine Hc1.out.mono ?_; rintro e w' ⟨rfl, rfl⟩) | (go_at_call 72; refine Hc2.out.mono ?_; rintro e w' ⟨rfl, rfl⟩))
      all_goals go_wp2
      all_goals go_roundw
      all_goals first | (exact ⟨k + 1, by omega, by go_num, by have h := g0.out.set k (.float .f32 (fb sg)); rw [← hget.out] at h; simp only [flts] at h ⊢; rw [hset.out] at h; rw [← hget.out]; exact h, (gb.out.setCell z1.out _).drew⟩) | (simp [intOf]; omega)
    · obtain rfl : k = N := by omega
      have hrow : Row wr w1.heap.size 56 (flts (upX bs k)) := by
       have h := g0.out
       rw [Nat.sub_self, List.replicate_zero, List.append_nil, List.take_of_length_le (by rw [upX_length]; exact Nat.le_refl _)] at h
       exact h
      have Hrow := Lib.hid hrow
      have HCS : Hid (Calls Tryz.prog 87 #[.slice (some ⟨w1.heap.size, 0, none⟩) k k] wr fun e w' => e = .returned (.int .i64 (unpE bs)) ∧ Below wr.heap.size wr w') := by
       unfold Hid; rw [HE.out]; exact checkSamples_any _ _ _ (upX bs k) wr (Rd.row hrow) (upX_length bs k).symm
      clear hrow
      obtain ⟨er, her⟩ : ∃ er, er = unpE bs := ⟨_, rfl⟩
      rw [← her] at HCS
      have HER := Lib.hid her
      clear her
      by_cases hz : er = 0
      · subst hz
        go_wp2_with fail
        refine HCS.out.mono ?_
        rintro e w3 ⟨rfl, hb3⟩
        have HR3 := Lib.hid (Hrow.out.old hb3)
        go_wp2
        go_ret2
        exact ⟨.slice (some ⟨w1.heap.size, 0, none⟩) k k, by rw [← HER.out]; exact rfl, fun _ => ⟨_, rfl, HR3.out, z1.out⟩, fun h => absurd HER.out.symm h, gb.out.trans (hb3.mono gb.out.size)⟩
      · have hz2 : (er != 0) = true := by simpa using hz
        have HZ := Lib.hid hz
        clear hz
        go_wp2_with fail
        refine HCS.out.mono ?_
        rintro e w3 ⟨rfl, hb3⟩
        go_wp2
        go_ret2
        exact ⟨.slice none 0 0, by rw [← HER.out]; exact rfl, fun h => absurd (HER.out.trans h) HZ.out, fun _ => rfl, gb.out.trans (hb3.mono gb.out.size)⟩
 · have hz : (strE bs != 0) = true := by simpa using h0
   have HE : Hid (unpE bs = strE bs) := by unfold Hid unpE; rw [if_pos h0]
   have HZ := Lib.hid h0
   obtain ⟨er, her⟩ : ∃ er, er = strE bs := ⟨_, rfl⟩
   rw [← her] at Hchk hz HE HZ
   clear her h0
   go_enter Tryz.func43, Tryz.ntmps43
   go_wp2_with fail
   refine Hchk.out.mono ?_
   rintro e w1 ⟨rfl, hb1⟩
   go_wp2
   go_ret2
   exact ⟨.slice none 0 0, by rw [HE.out]; exact rfl, fun h => absurd (HE.out.symm.trans h) HZ.out, fun _ => rfl, hb1⟩

theorem firstI_allz {zs : List Int} (h : firstI zs = 0) : ∀ z ∈ zs, z = 0 := by
 induction zs with
 | nil => intro z hz; cases hz
 | cons a l ih =>
   unfold firstI at h
   by_cases ha : a = 0
   · subst ha
     simp at h
     intro z hz
     rcases List.mem_cons.1 hz with rfl | hz
     · rfl
     · exact ih h z hz
   · simp [ha] at h
theorem samps_zero {xs : List Nat} (h : sampsI xs = 0) : xs.length ≤ 4096 ∧ ∀ x ∈ xs, sampI x = 0 := by
 unfold sampsI at h
 split at h
 · simp at h
 · exact ⟨by omega, fun x hx => firstI_allz h _ (List.mem_map_of_mem hx)⟩
theorem checkUnit_any (n : Int) (w : World) : Calls Tryz.prog 66 #[.int .i64 n] w fun e w' => e = .returned (.int .i64 (whenI (rangeB n (-16384) 16384) 3)) ∧ w = w' := by
 go_enter Tryz.func66, Tryz.ntmps66
 go_wp2_with (go_at_call 58; refine (checkRange_any _ _ _ _).mono ?_; rintro e w' ⟨rfl, rfl⟩)
 go_ret
 exact ⟨rfl, rfl⟩
theorem partI_S {x : Nat} {n : Int} (h : S x n) (hb : n.natAbs ≤ 65536) : partI x 65536 = 0 := by
 unfold partI
 rw [V32_of h, if_neg (by simp), stp_of h hb]
 rfl

end Go.Proofs.YtjdniebjhilooaaGreatDoor
