import Derived.Test.YtoclnlimnjnbkaaGreatDoorM38
import Derived.Test.YtoclnlimnjnbkaaGreatDoorM29
namespace Go.Proofs.YtoclnlimnjnbkaaGreatDoor
set_option linter.all false
open Go.RowKit Go.Fl
def pkVal (i : Nat) (a b c : Int) : Value := .agg #[.int .i64 9, .int .i64 (i : Int), .int .i64 8, .float .f32 (fb a), .float .f32 (fb b), .float .f32 (fb c), .float .f32 0, .float .f32 0, .float .f32 0, .float .f32 0, .float .f32 0]
theorem pkX_list (a b c : Int) : pkX a b c = [fb a, fb b, fb c, 0, 0, 0, 0, 0] := by
  unfold pkX fbs
  simp only [List.map_cons, List.map_nil, fb0]
theorem pkC_list (i : Nat) (a b c : Int) : pkC 9 (i : Int) 8 (pkX a b c) = [.int .i64 9, .int .i64 (i : Int), .int .i64 8, .float .f32 (fb a), .float .f32 (fb b), .float .f32 (fb c), .float .f32 0, .float .f32 0, .float .f32 0, .float .f32 0, .float .f32 0] := by
  rw [pkX_list]; rfl
theorem enF_enc {key : List Int} (hk : ∀ z ∈ key, isByte z) {i : Nat} {a b c : Int} (ha : a.natAbs ≤ 16384) (hb : b.natAbs ≤ 16384) (hc : c.natAbs ≤ 16384) : u8s (encB key 9 (i : Int) 8 (pkX a b c)) = byts (enF key i a b c) := by
  have hbd := bdF_byte i a b c
  unfold encB
  rw [bodyB_F ha hb hc]
  unfold enF
  rw [byts_toB]
  intro x hx
  rcases List.mem_append.1 hx with h | h
  · exact hbd x h
  · exact sealL_byte _ _ hk x h
section
variable (k0 k1 k2 k3 k4 k5 k6 k7 : Int) (hkeys : ∀ j (h : j < 8), isByte ([k0, k1, k2, k3, k4, k5, k6, k7][j]))
include hkeys
theorem keys_mem : ∀ z ∈ [k0, k1, k2, k3, k4, k5, k6, k7], isByte z := by
  intro z hz
  obtain ⟨j, hj, rfl⟩ := List.mem_iff_getElem.1 hz
  exact hkeys j hj
theorem enc_law {i : Nat} (hi : i < 65536) {a b c : Int} (ha : a.natAbs ≤ 16384) (hb : b.natAbs ≤ 16384) (hc : c.natAbs ≤ 16384) (w : World) :
    Calls Tryz.prog 19 #[.agg #[.int .u8 k0, .int .u8 k1, .int .u8 k2, .int .u8 k3, .int .u8 k4, .int .u8 k5, .int .u8 k6, .int .u8 k7], pkVal i a b c] w fun e w' => e = .returned (.tuple #[.agg (byts (enF [k0, k1, k2, k3, k4, k5, k6, k7] i a b c)).toArray, .int .i64 0]) ∧ Below w.heap.size w w' := by
  have h := encode_ok k0 k1 k2 k3 k4 k5 k6 k7 9 (i : Int) 8 (fb a) (fb b) (fb c) 0 0 0 0 0 w (by rw [← pkX_list]; exact pkI_F hi ha hb hc) (by rw [← pkX_list]; exact pkX_samp ha hb hc) (by omega) (by omega) (by omega) hkeys
  rw [← pkX_list, enF_enc (keys_mem k0 k1 k2 k3 k4 k5 k6 k7 hkeys) ha hb hc] at h
  exact h
theorem dec_law {i : Nat} (hi : i < 65536) {a b c : Int} (ha : a.natAbs ≤ 16384) (hb : b.natAbs ≤ 16384) (hc : c.natAbs ≤ 16384) (w : World) :
    Calls Tryz.prog 20 #[.agg #[.int .u8 k0, .int .u8 k1, .int .u8 k2, .int .u8 k3, .int .u8 k4, .int .u8 k5, .int .u8 k6, .int .u8 k7], .agg (byts (enF [k0, k1, k2, k3, k4, k5, k6, k7] i a b c)).toArray] w fun e w' => e = .returned (.tuple #[pkVal i a b c, .int .i64 0]) ∧ Below w.heap.size w w' := by
  have hk := keys_mem k0 k1 k2 k3 k4 k5 k6 k7 hkeys
  have h := decode_any k0 k1 k2 k3 k4 k5 k6 k7 (enF [k0, k1, k2, k3, k4, k5, k6, k7] i a b c) w (enF_len rfl i a b c) hkeys
  rw [decE_F rfl hk hi ha hb hc, decC_F rfl hk hi ha hb hc, pkC_list] at h
  exact h
theorem dec_bad (bs : List UInt8) (hl : bs.length = 29) {E : Int} (hE : decE [k0, k1, k2, k3, k4, k5, k6, k7] bs = E) (h0 : E ≠ 0) (w : World) :
    Calls Tryz.prog 20 #[.agg #[.int .u8 k0, .int .u8 k1, .int .u8 k2, .int .u8 k3, .int .u8 k4, .int .u8 k5, .int .u8 k6, .int .u8 k7], .agg (byts bs).toArray] w fun e w' => e = .returned (.tuple #[.agg zero11.toArray, .int .i64 E]) ∧ Below w.heap.size w w' := by
  have h := decode_any k0 k1 k2 k3 k4 k5 k6 k7 bs w hl hkeys
  have hz : decC [k0, k1, k2, k3, k4, k5, k6, k7] bs = zero11 := by unfold decC; rw [if_neg (by rw [hE]; exact h0)]
  rw [hz, hE] at h
  exact h
theorem recv_law (ot : List UInt8) (ho : ∀ b ∈ ot, b.toNat ≠ 201) (ho20 : ot.length ≤ 20) (l : List Tri) (hl5 : l.length ≤ 5) (hl : ∀ p ∈ l, okTri p) (A : Option Addr) (n c : Nat) (w : World) (hA : Rd w A (byts (ot ++ enAll [k0, k1, k2, k3, k4, k5, k6, k7] l))) (hn : n = (ot ++ enAll [k0, k1, k2, k3, k4, k5, k6, k7] l).length) (hc : n ≤ c) :
    Calls Tryz.prog 21 #[.agg #[.int .u8 k0, .int .u8 k1, .int .u8 k2, .int .u8 k3, .int .u8 k4, .int .u8 k5, .int .u8 k6, .int .u8 k7], .slice A n c] w
      fun e w' => ∃ PA pc SA sc, e = .returned (.tuple #[.slice PA l.length pc, .slice SA (if ot.length = 0 then 0 else 1) sc, .int .i64 0]) ∧ Rd w' PA (pksC (l.map toP)) ∧ Rd w' SA (spanC (if ot.length = 0 then [] else [(0, (ot.length : Int))])) ∧ Below w.heap.size w w' := by
  have hk := keys_mem k0 k1 k2 k3 k4 k5 k6 k7 hkeys
  have hel : (enAll [k0, k1, k2, k3, k4, k5, k6, k7] l).length = 29 * l.length := by
    clear hA hn hl hl5
    induction l with
    | nil => rfl
    | cons p l ih => 
      have e : enAll [k0, k1, k2, k3, k4, k5, k6, k7] (p :: l) = enF [k0, k1, k2, k3, k4, k5, k6, k7] p.1 p.2.1 p.2.2.1 p.2.2.2 ++ enAll [k0, k1, k2, k3, k4, k5, k6, k7] l := rfl
      rw [e, List.length_append, ih, enF_len rfl, List.length_cons]; omega
  refine (received_ok k0 k1 k2 k3 k4 k5 k6 k7 A n c _ w hA hn hc (by rw [List.length_append, hel]; omega) hkeys).mono ?_
  rintro e w' ⟨v, u, rfl, h1, h2, hb⟩
  rw [recv_all rfl hk ot ho l hl] at h1 h2
  obtain ⟨PA, pc, rfl, hp⟩ := owned_slice h1
  obtain ⟨SA, sc, rfl, hs⟩ := owned_slice h2
  refine ⟨PA, pc, SA, sc, ?_, by rw [pksC_T]; exact hp, hs, hb⟩
  by_cases h0 : ot.length = 0
  · simp [h0]
  · simp [h0]
end
def raC (t : Ra) : List Value := [.int .i16 t.1, .int .i16 t.2.1, .int .i16 t.2.2]
theorem ra_get : ∀ (l : List Ra) (i : Nat) (hi : i < l.length), (l.flatMap raC)[i * 3]? = some (.int .i16 l[i].1) ∧ (l.flatMap raC)[i * 3 + 1]? = some (.int .i16 l[i].2.1) ∧ (l.flatMap raC)[i * 3 + 2]? = some (.int .i16 l[i].2.2) := by
  intro l i hi
  have h := fun j hj => flat_get raC 3 l (fun p _ => rfl) i hi j hj
  exact ⟨h 0 (by omega), h 1 (by omega), h 2 (by omega)⟩
def FoS (w : World) (Kv Nv : List Value) (A : Option Addr) (LL : List Ra) (B : Option Addr) (ot0 : List UInt8) (W : World) : Prop := Row W w.heap.size 46 Kv ∧ Row W (w.heap.size + 1) 50 Nv ∧ Rd W A (LL.flatMap raC) ∧ Rd W B (byts ot0) ∧ Aw W ∧ Below w.heap.size w W
theorem FoS.keep {w W W' : World} {Kv Nv : List Value} {A : Option Addr} {LL : List Ra} {B : Option Addr} {ot0 : List UInt8} (h : FoS w Kv Nv A LL B ot0 W) (hb : Below W.heap.size W W') : FoS w Kv Nv A LL B ot0 W' :=
  ⟨h.1.old hb, h.2.1.old hb, h.2.2.1.below hb, h.2.2.2.1.below hb, h.2.2.2.2.1.old hb, h.2.2.2.2.2.trans (hb.mono h.2.2.2.2.2.size)⟩
theorem FoS.new {w : World} {Kv Nv : List Value} {A : Option Addr} {LL : List Ra} {B : Option Addr} {ot0 : List UInt8} (hW : Aw w) (hA : Rd w A (LL.flatMap raC)) (hB : Rd w B (byts ot0)) : FoS w Kv Nv A LL B ot0 ((w.alloc (.cells Kv.toArray 46)).alloc (.cells Nv.toArray 50)) := by
  have hb : Below w.heap.size w ((w.alloc (.cells Kv.toArray 46)).alloc (.cells Nv.toArray 50)) := ((Below.refl _ _).alloc (Nat.le_refl _) _).alloc (by simp) _
  have r1 := Row.new (w.alloc (.cells Kv.toArray 46)) 50 Nv
  rw [World.size_alloc] at r1
  exact ⟨(Row.new w 46 Kv).alloc _, r1, hA.below hb, hB.below hb, hW.old hb, hb⟩
set_option maxRecDepth 100000 in
set_option maxHeartbeats 1000000 in
theorem found_far1 (haw : AwakeOk) (k0 k1 k2 k3 k4 k5 k6 k7 : Int) (A : Option Addr) (lc : Nat) (LL : List Ra) (B : Option Addr) (mc : Nat) (ot0 : List UInt8) (wh8 at8 by8 : Nat) (w : World) (haW : Aw w) (hA : Rd w A (LL.flatMap raC)) (hB : Rd w B (byts ot0)) (hlb : LL.length ≤ 9223372036854775807) (hob : ot0.length ≤ 9223372036854775807) (h : LL.length < 1) : Calls Tryz.prog 4 #[.agg #[.int .u8 k0, .int .u8 k1, .int .u8 k2, .int .u8 k3, .int .u8 k4, .int .u8 k5, .int .u8 k6, .int .u8 k7], .slice A LL.length lc, .agg #[.slice B ot0.length mc, .int .u8 (wh8 : Int), .int .u8 (at8 : Int), .int .u8 (by8 : Int)]] w fun e w' => e = .returned (.bool true) ∧ Below w.heap.size w w' := by
  have HS0 := Lib.hid (FoS.new (Kv := [.int .u8 k0, .int .u8 k1, .int .u8 k2, .int .u8 k3, .int .u8 k4, .int .u8 k5, .int .u8 k6, .int .u8 k7]) (Nv := [.slice B ot0.length mc, .int .u8 (wh8 : Int), .int .u8 (at8 : Int), .int .u8 (by8 : Int)]) haW hA hB)
  have e1 : decide ((LL.length : Int) < 1) = true := decide_eq_true (by omega)
  clear haW hA hB
  go_enter Tryz.func4, Tryz.ntmps4
  go_upto_region 1 with fail
  refine genR (FoS w [.int .u8 k0, .int .u8 k1, .int .u8 k2, .int .u8 k3, .int .u8 k4, .int .u8 k5, .int .u8 k6, .int .u8 k7] [.slice B ot0.length mc, .int .u8 (wh8 : Int), .int .u8 (at8 : Int), .int .u8 (by8 : Int)] A LL B ot0) HS0.out ?_
  clear HS0
  intro W1 s1
  have HS1 := Lib.hid s1
  clear s1
  have c0 := HS1.out.2.1.cell 0
  simp only [List.getElem?_cons_zero] at c0
  go_cut [65] from 52 to 66 (fun s65 wx => s65 = .bool true ∧ wx = W1)
  case first => as_aux_lemma =>
    go_wp2_with fail
    go_meet
    exact ⟨rfl, rfl⟩
  case rest =>
  obtain ⟨rfl, rfl⟩ := hcut
  go_wp2_with (go_at_call 8; refine (haw _ HS1.out.2.2.2.2.1).mono ?_; rintro e w5 ⟨rfl, hb5⟩; have HS4 := Lib.hid (HS1.out.keep hb5); clear hb5)
  go_ret
  exact ⟨rfl, HS4.out.2.2.2.2.2⟩
set_option maxRecDepth 100000 in
set_option maxHeartbeats 1000000 in
theorem found_far2 (haw : AwakeOk) (k0 k1 k2 k3 k4 k5 k6 k7 : Int) (A : Option Addr) (lc : Nat) (LL : List Ra) (B : Option Addr) (mc : Nat) (ot0 : List UInt8) (wh8 at8 by8 : Nat) (w : World) (haW : Aw w) (hA : Rd w A (LL.flatMap raC)) (hB : Rd w B (byts ot0)) (hlb : LL.length ≤ 9223372036854775807) (hob : ot0.length ≤ 9223372036854775807) (h : 5 < LL.length) : Calls Tryz.prog 4 #[.agg #[.int .u8 k0, .int .u8 k1, .int .u8 k2, .int .u8 k3, .int .u8 k4, .int .u8 k5, .int .u8 k6, .int .u8 k7], .slice A LL.length lc, .agg #[.slice B ot0.length mc, .int .u8 (wh8 : Int), .int .u8 (at8 : Int), .int .u8 (by8 : Int)]] w fun e w' => e = .returned (.bool true) ∧ Below w.heap.size w w' := by
  have HS0 := Lib.hid (FoS.new (Kv := [.int .u8 k0, .int .u8 k1, .int .u8 k2, .int .u8 k3, .int .u8 k4, .int .u8 k5, .int .u8 k6, .int .u8 k7]) (Nv := [.slice B ot0.length mc, .int .u8 (wh8 : Int), .int .u8 (at8 : Int), .int .u8 (by8 : Int)]) haW hA hB)
  have e1 : decide ((LL.length : Int) < 1) = false := decide_eq_false (by omega)
  have e2 : decide ((5 : Int) < (LL.length : Int)) = true := decide_eq_true (by omega)
  clear haW hA hB
  go_enter Tryz.func4, Tryz.ntmps4
  go_upto_region 1 with fail
  refine genR (FoS w [.int .u8 k0, .int .u8 k1, .int .u8 k2, .int .u8 k3, .int .u8 k4, .int .u8 k5, .int .u8 k6, .int .u8 k7] [.slice B ot0.length mc, .int .u8 (wh8 : Int), .int .u8 (at8 : Int), .int .u8 (by8 : Int)] A LL B ot0) HS0.out ?_
  clear HS0
  intro W1 s1
  have HS1 := Lib.hid s1
  clear s1
  have c0 := HS1.out.2.1.cell 0
  simp only [List.getElem?_cons_zero] at c0
  go_cut [65] from 52 to 66 (fun s65 wx => s65 = .bool true ∧ wx = W1)
  case first => as_aux_lemma =>
    go_wp2_with fail
    go_meet
    exact ⟨rfl, rfl⟩
  case rest =>
  obtain ⟨rfl, rfl⟩ := hcut
  go_wp2_with (go_at_call 8; refine (haw _ HS1.out.2.2.2.2.1).mono ?_; rintro e w5 ⟨rfl, hb5⟩; have HS4 := Lib.hid (HS1.out.keep hb5); clear hb5)
  go_ret
  exact ⟨rfl, HS4.out.2.2.2.2.2⟩
set_option maxRecDepth 100000 in
set_option maxHeartbeats 1000000 in
theorem found_far3 (haw : AwakeOk) (k0 k1 k2 k3 k4 k5 k6 k7 : Int) (A : Option Addr) (lc : Nat) (LL : List Ra) (B : Option Addr) (mc : Nat) (ot0 : List UInt8) (wh8 at8 by8 : Nat) (w : World) (haW : Aw w) (hA : Rd w A (LL.flatMap raC)) (hB : Rd w B (byts ot0)) (hlb : LL.length ≤ 9223372036854775807) (hob : ot0.length ≤ 9223372036854775807) (h1 : 1 ≤ LL.length) (h5 : LL.length ≤ 5) (h : 20 < ot0.length) : Calls Tryz.prog 4 #[.agg #[.int .u8 k0, .int .u8 k1, .int .u8 k2, .int .u8 k3, .int .u8 k4, .int .u8 k5, .int .u8 k6, .int .u8 k7], .slice A LL.length lc, .agg #[.slice B ot0.length mc, .int .u8 (wh8 : Int), .int .u8 (at8 : Int), .int .u8 (by8 : Int)]] w fun e w' => e = .returned (.bool true) ∧ Below w.heap.size w w' := by
  have HS0 := Lib.hid (FoS.new (Kv := [.int .u8 k0, .int .u8 k1, .int .u8 k2, .int .u8 k3, .int .u8 k4, .int .u8 k5, .int .u8 k6, .int .u8 k7]) (Nv := [.slice B ot0.length mc, .int .u8 (wh8 : Int), .int .u8 (at8 : Int), .int .u8 (by8 : Int)]) haW hA hB)
  have e1 : decide ((LL.length : Int) < 1) = false := decide_eq_false (by omega)
  have e2 : decide ((5 : Int) < (LL.length : Int)) = false := decide_eq_false (by omega)
  have e3 : decide ((20 : Int) < (ot0.length : Int)) = true := decide_eq_true (by omega)
  clear haW hA hB
  go_enter Tryz.func4, Tryz.ntmps4
  go_upto_region 1 with fail
  refine genR (FoS w [.int .u8 k0, .int .u8 k1, .int .u8 k2, .int .u8 k3, .int .u8 k4, .int .u8 k5, .int .u8 k6, .int .u8 k7] [.slice B ot0.length mc, .int .u8 (wh8 : Int), .int .u8 (at8 : Int), .int .u8 (by8 : Int)] A LL B ot0) HS0.out ?_
  clear HS0
  intro W1 s1
  have HS1 := Lib.hid s1
  clear s1
  have c0 := HS1.out.2.1.cell 0
  simp only [List.getElem?_cons_zero] at c0
  go_cut [65] from 52 to 66 (fun s65 wx => s65 = .bool true ∧ wx = W1)
  case first => as_aux_lemma =>
    go_wp2_with fail
    go_meet
    exact ⟨rfl, rfl⟩
  case rest =>
  obtain ⟨rfl, rfl⟩ := hcut
  go_wp2_with (go_at_call 8; refine (haw _ HS1.out.2.2.2.2.1).mono ?_; rintro e w5 ⟨rfl, hb5⟩; have HS4 := Lib.hid (HS1.out.keep hb5); clear hb5)
  go_ret
  exact ⟨rfl, HS4.out.2.2.2.2.2⟩
def Sep (v u : Value) : Prop := v.ownBlock = none ∨ v.ownBlock ≠ u.ownBlock
theorem Sep.symm {v u : Value} (h : Sep v u) : Sep u v := by
  unfold Sep at *
  cases hu : u.ownBlock with
  | none => exact .inl rfl
  | some k =>
    right
    rcases h with h | h
    · rw [h]; simp
    · rw [hu] at h; exact fun e => h e.symm
def FoL (M1 g14 : Nat) (w1 : World) (b7 b12 : List UInt8) (ps : List Tri) (f14 : List UInt8) (s7 s12 s13 : Value) (W : World) : Prop :=
  W.ownsRow M1 5 1 s7 b7.length (byts b7) ∧ W.ownsRow M1 5 1 s12 b12.length (byts b12) ∧ Sep s7 s12 ∧ W.ownsRow M1 59 11 s13 ps.length (pksC (ps.map toP)) ∧ Row W g14 53 (byts f14) ∧ M1 ≤ g14 ∧ Below M1 w1 W
section
variable {M1 g14 : Nat} {w1 : World} {b7 b12 : List UInt8} {ps : List Tri} {f14 : List UInt8} {s7 s12 s13 : Value} {W W' : World}
theorem FoL.keep (h : FoL M1 g14 w1 b7 b12 ps f14 s7 s12 s13 W) (hm : M1 ≤ W.heap.size) (hb : Below W.heap.size W W') : FoL M1 g14 w1 b7 b12 ps f14 s7 s12 s13 W' :=
  ⟨owns_below h.1 hb, owns_below h.2.1 hb, h.2.2.1, owns_below h.2.2.2.1 hb, h.2.2.2.2.1.old hb, h.2.2.2.2.2.1, h.2.2.2.2.2.2.trans (hb.mono hm)⟩
theorem sep_new {v u v' : Value} {B s n : Nat} {e : TypeId} {xs : List Value} (h : Sep v u) (hu : W.ownsRow B e s u n xs) (hat : v'.ownBlock = v.ownBlock ∨ v'.ownBlock = some W.heap.size) : Sep v' u := by
  rcases hat with h1 | h1
  · unfold Sep at *; rw [h1]; exact h
  · right
    rw [h1]
    intro e
    have := (hu.lt _ e.symm).2
    omega
theorem FoL.app13 (h : FoL M1 g14 w1 b7 b12 ps f14 s7 s12 s13 W) (hm : M1 ≤ W.heap.size) {o : Obj} {v' : Value} {p : Tri} (ho : W'.ownsRow M1 59 11 v' (ps.length + 1) (pksC (ps.map toP) ++ triC p)) (hg : (W.alloc o).grownBy W' s13.ownBlock) :
    FoL M1 g14 w1 b7 b12 (ps ++ [p]) f14 s7 s12 v' W' := by
  obtain ⟨h1, h2, h3, h4, h5, h6, h7⟩ := h
  refine ⟨grew_own h1 h4 hg (by decide), grew_own h2 h4 hg (by decide), h3, ?_, grew_row h5 h4 hg (by decide), h6, Below.app h7 hm h4 hg⟩
  have e : pksC ((ps ++ [p]).map toP) = pksC (ps.map toP) ++ triC p := by
    unfold pksC
    rw [List.map_append, List.flatMap_append]
    congr 1
  rw [e, List.length_append]
  exact ho
theorem FoL.app7 (h : FoL M1 g14 w1 b7 b12 ps f14 s7 s12 s13 W) (hm : M1 ≤ W.heap.size) {v' : Value} {bs : List UInt8} (ho : W'.ownsRow M1 5 1 v' (b7.length + bs.length) (byts b7 ++ byts bs)) (hg : W.grownBy W' s7.ownBlock) (hat : v'.ownBlock = s7.ownBlock ∨ v'.ownBlock = some W.heap.size) :
    FoL M1 g14 w1 (b7 ++ bs) b12 ps f14 v' s12 s13 W' := by
  obtain ⟨h1, h2, h3, h4, h5, h6, h7⟩ := h
  refine ⟨?_, h2.kept hg h3.symm, sep_new h3 h2 hat, h4.kept hg (own_own h4 h1 (by decide)), ?_, h6, ?_⟩
  · rw [List.length_append]
    have e : byts (b7 ++ bs) = byts b7 ++ byts bs := by unfold byts; rw [List.map_append]
    rw [e]; exact ho
  · refine h5.grown hg ?_
    rcases own_ne h5 h1 (by decide) with h8 | h8
    · rw [h8]; simp
    · exact fun e => h8 e.symm
  · exact h7.grown hg hm (fun k hk => (h1.lt k hk).1)
theorem FoL.app12 (h : FoL M1 g14 w1 b7 b12 ps f14 s7 s12 s13 W) (hm : M1 ≤ W.heap.size) {v' : Value} {bs : List UInt8} (ho : W'.ownsRow M1 5 1 v' (b12.length + bs.length) (byts b12 ++ byts bs)) (hg : W.grownBy W' s12.ownBlock) (hat : v'.ownBlock = s12.ownBlock ∨ v'.ownBlock = some W.heap.size) :
    FoL M1 g14 w1 b7 (b12 ++ bs) ps f14 s7 v' s13 W' := by
  obtain ⟨h1, h2, h3, h4, h5, h6, h7⟩ := h
  refine ⟨h1.kept hg h3, ?_, (sep_new h3.symm h1 hat).symm, h4.kept hg (own_own h4 h2 (by decide)), ?_, h6, ?_⟩
  · rw [List.length_append]
    have e : byts (b12 ++ bs) = byts b12 ++ byts bs := by unfold byts; rw [List.map_append]
    rw [e]; exact ho
  · refine h5.grown hg ?_
    rcases own_ne h5 h2 (by decide) with h8 | h8
    · rw [h8]; simp
    · exact fun e => h8 e.symm
  · exact h7.grown hg hm (fun k hk => (h2.lt k hk).1)
theorem FoL.set14 (h : FoL M1 g14 w1 b7 b12 ps f14 s7 s12 s13 W) (bs : List UInt8) : FoL M1 g14 w1 b7 b12 ps bs s7 s12 s13 (W.setRow g14 (byts bs).toArray) := by
  obtain ⟨h1, h2, h3, h4, h5, h6, h7⟩ := h
  have ho : ∀ {e : TypeId} {s n : Nat} {v : Value} {xs : List Value}, W.ownsRow M1 e s v n xs → 53 ≠ e → (W.setRow g14 (byts bs).toArray).ownsRow M1 e s v n xs := fun h hne => by
    refine owns_other g14 h (fun j hj hne => setRow_other _ _ _ _ hne) (fun e => ?_)
    rcases own_ne h5 h hne with h8 | h8
    · rw [h8] at e; cases e
    · exact h8 e
  exact ⟨ho h1 (by decide), ho h2 (by decide), h3, ho h4 (by decide), h5.setRow _, h6, Below.setRow h7 h6 _⟩
end
def z29B : List UInt8 := List.replicate 29 0
def pkF (i : Nat) (X : List Int) (k : Nat) : List Value := .int .i64 9 :: .int .i64 (i : Int) :: .int .i64 8 :: (List.range 8).map fun j => if j < k then .float .f32 (fb (X.getD j 0)) else .float .f32 0
theorem pkF_set (i : Nat) (X : List Int) (k : Nat) (hk : k < 3) : (pkF i X k).set (3 + k) (.float .f32 (fb (X.getD k 0))) = pkF i X (k + 1) := by
  rcases (show k = 0 ∨ k = 1 ∨ k = 2 by omega) with rfl | rfl | rfl <;> rfl
theorem pkF_len (i : Nat) (X : List Int) (k : Nat) : (pkF i X k).length = 11 := by simp [pkF]
def pkL (i : Nat) (a b c : Int) : List Value := [.int .i64 9, .int .i64 (i : Int), .int .i64 8, .float .f32 (fb a), .float .f32 (fb b), .float .f32 (fb c), .float .f32 0, .float .f32 0, .float .f32 0, .float .f32 0, .float .f32 0]
theorem pkL_F (i : Nat) (a b c : Int) : pkF i [a, b, c] 3 = pkL i a b c := rfl
theorem pkL_C (i : Nat) (a b c : Int) : pkL i a b c = triC (i, a, b, c) := (pkC_list i a b c).symm
theorem neqP {i : Nat} {a b c : Int} (ha : a.natAbs ≤ 16384) (hb : b.natAbs ≤ 16384) (hc : c.natAbs ≤ 16384) (w : World) : (binOp .neq 59 (.agg (pkL i a b c).toArray) (.agg (pkL i a b c).toArray)).run Tryz.prog w = .ok (.bool false) w := by
  have h := neqPk54 9 (i : Int) 8 (pkX a b c) 9 (i : Int) 8 (pkX a b c) (by simp [pkX, fbs]) (by simp [pkX, fbs]) w
  rw [samePk_self (pkX_samp ha hb hc) (by simp [pkX, fbs]), pkC_list] at h
  exact h
theorem eqP {i : Nat} {a b c : Int} (ha : a.natAbs ≤ 16384) (hb : b.natAbs ≤ 16384) (hc : c.natAbs ≤ 16384) (w : World) : (Op.equalIn 10000 59 (.agg (pkL i a b c).toArray) (.agg (pkL i a b c).toArray)).run Tryz.prog w = .ok true w := by
  have h := eqPk 9 (i : Int) 8 (pkX a b c) 9 (i : Int) 8 (pkX a b c) (by simp [pkX, fbs]) (by simp [pkX, fbs]) w
  rw [samePk_self (pkX_samp ha hb hc) (by simp [pkX, fbs]), pkC_list] at h
  rw [run_eqStruct w 9999 _ _ _ _ (by kernel_rfl) (by kernel_rfl) fields54]
  exact h
theorem row_news {w : World} {g : Nat} {t : TypeId} {vs : List Value} (h : Row w g t vs) : ∀ j u, vs[j]? = some u → w.cell? ((⟨g, 0, none⟩ : Addr).add j) = some u := by
  intro j u hu
  by_cases hj : j = 0
  · subst hj; simpa [Addr.add, h.cell] using hu
  · simp [Addr.add, hj, h.cell, hu]
theorem byts_one (bs : List UInt8) : ∀ u ∈ byts bs, u.oneCell' = true := by
  intro u hu
  obtain ⟨x, _, rfl⟩ := List.mem_map.1 hu
  rfl
theorem enAll_len {key : List Int} (l : List Tri) (h8 : key.length = 8) : (enAll key l).length = 29 * l.length := by
  induction l with
  | nil => rfl
  | cons p l ih =>
    have e : enAll key (p :: l) = enF key p.1 p.2.1 p.2.2.1 p.2.2.2 ++ enAll key l := rfl
    rw [e, List.length_append, ih, enF_len h8, List.length_cons]; omega
theorem enAll_snoc (key : List Int) (l : List Tri) (p : Tri) : enAll key (l ++ [p]) = enAll key l ++ enF key p.1 p.2.1 p.2.2.1 p.2.2.2 := by
  unfold enAll
  rw [List.flatMap_append]
  simp
theorem tri_cells {w : World} {A : Option Addr} {l : List Tri} (h : Rd w A (pksC (l.map toP))) {k : Nat} {i : Nat} {a b c : Int} (hk : l[k]? = some (i, a, b, c)) :
    ∃ g off, A = some ⟨g, off, none⟩ ∧ ∀ V, Below w.heap.size w V → ∀ j v, (pkL i a b c)[j]? = some v → V.cell? ⟨g, off + k * 11 + j, none⟩ = some v := by
  obtain ⟨hlt, e⟩ := List.getElem?_eq_some_iff.1 hk
  have hlt' : k < (l.map toP).length := by simpa using hlt
  obtain ⟨g, off, hA, hc⟩ := Rd.flat h (fun p hp => pkV_length (pks8_T l p hp)) (by decide) hlt'
  refine ⟨g, off, hA, fun V hV j v hv => ?_⟩
  obtain ⟨g', off', hA', hc'⟩ := Rd.flat (h.below hV) (fun p hp => pkV_length (pks8_T l p hp)) (by decide) hlt'
  rw [hA] at hA'
  cases hA'
  refine hc' j v ?_
  rw [List.getElem_map, e, toP_C, ← pkL_C]
  exact hv
theorem ex_pk {o : Oper} {a : Act} {w : World} {i : Nat} {xa xb xc : Int} (x : Operand) (ho : o.op = .load 59 x) (g off : Nat) (hx : a.eval x = .pointer (some ⟨g, off, none⟩))
    (h : ∀ j v, (pkL i xa xb xc)[j]? = some v → w.cell? ⟨g, off + j, none⟩ = some v) : (execOp a.eval o).run Tryz.prog w = .ok (.value (.agg (pkL i xa xb xc).toArray)) w := by
  unfold pkL at h
  have c0 := h 0 _ rfl; have c1 := h 1 _ rfl; have c2 := h 2 _ rfl; have c3 := h 3 _ rfl; have c4 := h 4 _ rfl; have c5 := h 5 _ rfl; have c6 := h 6 _ rfl; have c7 := h 7 _ rfl; have c8 := h 8 _ rfl; have c9 := h 9 _ rfl; have c10 := h 10 _ rfl
  rw [Nat.add_zero] at c0
  clear h
  unfold execOp pkL
  simp only [ho, hx]
  go_simp
theorem ex_neqP {o : Oper} {a : Act} {w : World} {i : Nat} {xa xb xc : Int} (x y : Operand) (ho : o.op = .binOp .neq 59 x y 59) (hx : a.eval x = .agg (pkL i xa xb xc).toArray) (hy : a.eval y = .agg (pkL i xa xb xc).toArray)
    (ha : xa.natAbs ≤ 16384) (hb : xb.natAbs ≤ 16384) (hc : xc.natAbs ≤ 16384) : (execOp a.eval o).run Tryz.prog w = .ok (.value (.bool false)) w := by
  have hg : Tryz.prog.eqGuardType Tryz.prog.depth 59 = false := by kernel_rfl
  have h := neqP (i := i) ha hb hc w
  unfold execOp
  simp [ho, hx, hy, eqGuard, hg, h, Sem.run_bind, Sem.run_pure, Result.andThen_ok]
theorem pkL_samp (i : Nat) (a b c : Int) {m : Nat} (hm : m < 8) : (pkL i a b c)[3 + m]? = some (.float .f32 ((pkX a b c).getD m 0)) := by
  rw [pkX_list]
  rcases (show m = 0 ∨ m = 1 ∨ m = 2 ∨ m = 3 ∨ m = 4 ∨ m = 5 ∨ m = 6 ∨ m = 7 by omega) with rfl | rfl | rfl | rfl | rfl | rfl | rfl | rfl <;> rfl
theorem whS_samp (L : List Ra) (i : Nat) : sampI (whS L i) = 0 := by
  unfold whS
  obtain ⟨xa, xb, xc, e, ha, hb, hc⟩ : ∃ xa xb xc, mkT L (i / 8) = (i / 8, xa, xb, xc) ∧ xa.natAbs ≤ 16384 ∧ xb.natAbs ≤ 16384 ∧ xc.natAbs ≤ 16384 := ⟨_, _, _, rfl, bd_mod _, bd_mod _, bd_mod _⟩
  rw [e]
  have hl : (pkX xa xb xc).length = 8 := by rw [pkX_list]; rfl
  have hi : i % 8 < (pkX xa xb xc).length := by omega
  show sampI ((pkX xa xb xc).getD (i % 8) 0) = 0
  rw [List.getD_eq_getElem?_getD, List.getElem?_eq_getElem hi]
  exact pkX_samp ha hb hc _ (List.getElem_mem hi)
theorem asmA_law (L : List Ra) (n : Nat) (h1 : 1 ≤ n) (h5 : n ≤ 5) (n8 : Nat) (h8 : n8 = 8 * n) (N8 : Int) (hN : N8 = (n8 : Int)) (A : Option Addr) (c : Nat) (w : World) (hA : Rd w A (pksC ((tT L n).map toP))) :
    Calls Tryz.prog 23 #[.slice A n c, .int .i64 9, .int .i64 N8] w fun e w' => ∃ gS GA gc, e = .returned (.tuple #[.slice (some ⟨gS, 0, none⟩) n8 n8, .slice GA 0 gc, .int .i64 0]) ∧ Row w' gS 56 (flts ((List.range n8).map (whS L))) ∧ Below w.heap.size w w' := by
  subst hN; subst h8
  have ha := asm_all L h1 h5
  refine (assembled_ok A n c _ 9 (8 * n) w hA (pks8_T _) (by simp [tT]) (asmE_T (by rw [tT_len]; exact h5) (tT_ok L (by omega)) (8 * n) (by omega))).mono ?_
  rintro e w' ⟨gS, v, rfl, hr, ho, -, hb⟩
  rw [ha.2] at ho
  rw [ha.1] at hr
  obtain ⟨GA, gc, rfl, -⟩ := owned_slice ho
  exact ⟨gS, GA, gc, rfl, hr, hb⟩
theorem asmB_law (L : List Ra) (n wh m : Nat) (hw : wh < n) (hm : m = n - 1) (h5 : n ≤ 5) (n8 : Nat) (h8 : n8 = 8 * n) (N8 : Int) (hN : N8 = (n8 : Int)) (A : Option Addr) (c : Nat) (w : World) (hA : Rd w A (pksC ((uT L wh n).map toP))) :
    Calls Tryz.prog 23 #[.slice A m c, .int .i64 9, .int .i64 N8] w fun e w' => ∃ gS GA gc, e = .returned (.tuple #[.slice (some ⟨gS, 0, none⟩) n8 n8, .slice GA 1 gc, .int .i64 0]) ∧ Row w' gS 56 (flts ((List.range n8).map (paS L wh))) ∧ Rd w' GA (spanC [(8 * (wh : Int), 8 * (wh : Int) + 8)]) ∧ Below w.heap.size w w' := by
  subst hN; subst h8
  have ha := asm_some L hw h5
  have hl := uT_len L hw
  refine (assembled_ok A m c _ 9 (8 * n) w hA (pks8_T _) (by rw [List.length_map, hl]; exact hm) (asmE_T (by rw [hl]; omega) (uT_ok L (by omega)) (8 * n) (by omega))).mono ?_
  rintro e w' ⟨gS, v, rfl, hr, ho, -, hb⟩
  rw [ha.2] at ho
  rw [ha.1] at hr
  obtain ⟨GA, gc, rfl, hs⟩ := owned_slice ho
  refine ⟨gS, GA, gc, rfl, hr, ?_, hb⟩
  have e1 : ((8 * wh : Nat) : Int) = 8 * (wh : Int) := by omega
  have e2 : ((8 * wh + 8 : Nat) : Int) = 8 * (wh : Int) + 8 := by omega
  rw [e1, e2] at hs
  exact hs
section
variable (k0 k1 k2 k3 k4 k5 k6 k7 : Int) (hkeys : ∀ j (h : j < 8), isByte ([k0, k1, k2, k3, k4, k5, k6, k7][j]))
include hkeys
theorem decB_law (i : Nat) (a b c : Int) {k : Nat} (hk : k < 29) {v : UInt8} (hv : (v.toNat : Int) ≠ byteAt (enF [k0, k1, k2, k3, k4, k5, k6, k7] i a b c) k) (w : World) :
    Calls Tryz.prog 20 #[.agg #[.int .u8 k0, .int .u8 k1, .int .u8 k2, .int .u8 k3, .int .u8 k4, .int .u8 k5, .int .u8 k6, .int .u8 k7], .agg (byts ((enF [k0, k1, k2, k3, k4, k5, k6, k7] i a b c).set k v)).toArray] w fun e w' => e = .returned (.tuple #[.agg zero11.toArray, .int .i64 (if k = 0 then 1 else 27)]) ∧ Below w.heap.size w w' := by
  have hl : (enF [k0, k1, k2, k3, k4, k5, k6, k7] i a b c).length = 29 := enF_len rfl _ _ _ _
  have hk2 : k < (enF [k0, k1, k2, k3, k4, k5, k6, k7] i a b c).length := by omega
  have hv2 : v ≠ (enF [k0, k1, k2, k3, k4, k5, k6, k7] i a b c)[k] := by
    intro e
    apply hv
    unfold byteAt
    rw [List.getD_eq_getElem?_getD, List.getElem?_eq_getElem hk2, e]; rfl
  exact dec_bad k0 k1 k2 k3 k4 k5 k6 k7 hkeys _ (by rw [List.length_set]; exact hl) (decE_broken rfl (keys_mem k0 k1 k2 k3 k4 k5 k6 k7 hkeys) i a b c hk2 hv2) (by split <;> omega) w
theorem decO_law (i : Nat) (a b c : Int) (e0 e1 e2 e3 e4 e5 e6 e7 : Int) (hkey2 : ∀ j (h : j < 8), isByte ([e0, e1, e2, e3, e4, e5, e6, e7][j])) {j : Nat} (hj : j < 8) (hne : [k0, k1, k2, k3, k4, k5, k6, k7].getD j 0 ≠ [e0, e1, e2, e3, e4, e5, e6, e7].getD j 0) (w : World) :
    Calls Tryz.prog 20 #[.agg #[.int .u8 e0, .int .u8 e1, .int .u8 e2, .int .u8 e3, .int .u8 e4, .int .u8 e5, .int .u8 e6, .int .u8 e7], .agg (byts (enF [k0, k1, k2, k3, k4, k5, k6, k7] i a b c)).toArray] w fun e w' => e = .returned (.tuple #[.agg zero11.toArray, .int .i64 27]) ∧ Below w.heap.size w w' := by
  have hb : ∀ (z : List Int) (hz : z.length = 8), (∀ j (h : j < z.length), isByte z[j]) → isByte (z.getD j 0) := fun z hz h => by
    rw [List.getD_eq_getElem?_getD, List.getElem?_eq_getElem (show j < z.length by omega)]; exact h j (by omega)
  exact dec_bad e0 e1 e2 e3 e4 e5 e6 e7 hkey2 _ (enF_len rfl _ _ _ _) (decE_other rfl rfl (keys_mem k0 k1 k2 k3 k4 k5 k6 k7 hkeys) i a b c hj (hb _ rfl hkeys) (hb _ rfl hkey2) hne) (by omega) w
end
theorem list8 {l : List Int} (h : l.length = 8) : ∃ e0 e1 e2 e3 e4 e5 e6 e7, l = [e0, e1, e2, e3, e4, e5, e6, e7] := by
  match l, h with
  | [a, b, c, d, e, f, g, h], _ => exact ⟨_, _, _, _, _, _, _, _, rfl⟩
theorem key2 {K : List Int} (hl : K.length = 8) (hK : ∀ z ∈ K, isByte z) {j : Nat} {z : Int} (hj : j < 8) (hz : isByte z) (hne : K.getD j 0 ≠ z) :
    ∃ e0 e1 e2 e3 e4 e5 e6 e7, K.set j z = [e0, e1, e2, e3, e4, e5, e6, e7] ∧ (∀ j (h : j < 8), isByte ([e0, e1, e2, e3, e4, e5, e6, e7][j])) ∧ K.getD j 0 ≠ [e0, e1, e2, e3, e4, e5, e6, e7].getD j 0 := by
  obtain ⟨e0, e1, e2, e3, e4, e5, e6, e7, he⟩ := list8 (l := K.set j z) (by rw [List.length_set]; exact hl)
  refine ⟨e0, e1, e2, e3, e4, e5, e6, e7, he, fun i hi => ?_, ?_⟩
  · have hm : [e0, e1, e2, e3, e4, e5, e6, e7][i] ∈ K.set j z := by rw [he]; exact List.getElem_mem _
    rcases List.mem_or_eq_of_mem_set hm with h | h
    · exact hK _ h
    · rw [h]; exact hz
  · rw [← he, List.getD_eq_getElem?_getD (l := K.set j z), List.getElem?_set_self (by omega)]
    exact hne
theorem byts_set (bs : List UInt8) (k : Nat) (v : UInt8) : (byts bs).set k (.int .u8 (v.toNat : Int)) = byts (bs.set k v) := by
  unfold byts
  rw [List.map_set]
theorem byts_at {bs : List UInt8} {k : Nat} (h : k < bs.length) : (byts bs)[k]? = some (.int .u8 (byteAt bs k)) := by
  unfold byts byteAt
  rw [List.getElem?_map, List.getElem?_eq_getElem h, List.getD_eq_getElem?_getD, List.getElem?_eq_getElem h]; rfl
theorem rd_take {w : World} {A : Option Addr} {bs : List UInt8} (h : Rd w A (byts bs)) (n : Nat) : Rd w A (byts (bs.take n)) := by
  intro j u hu
  refine h j u ?_
  have hj : j < (bs.take n).length := by
    have := (List.getElem?_eq_some_iff.1 hu).1
    simpa [byts] using this
  unfold byts at hu ⊢
  rw [List.getElem?_map] at hu ⊢
  rw [← hu, List.getElem?_take_of_lt (by rw [List.length_take] at hj; omega)]
theorem u8s_at {xs : List Int} {i : Nat} (h : i < xs.length) : (u8s xs)[i]? = some (.int .u8 (xs.getD i 0)) := by
  unfold u8s
  rw [List.getElem?_map, List.getElem?_eq_getElem h, List.getD_eq_getElem?_getD, List.getElem?_eq_getElem h]; rfl
theorem u8_nat {z : Nat} (h : z < 256) : (((UInt8.ofNat z).toNat : Nat) : Int) = (z : Int) := by
  rw [UInt8.toNat_ofNat_of_lt' h]
def FoQ (w : World) (Kv Nv : List Value) (A : Option Addr) (LL : List Ra) (B : Option Addr) (ot0 : List UInt8) (g14 : Nat) (f14 : List UInt8) (W : World) : Prop := FoS w Kv Nv A LL B ot0 W ∧ Row W g14 53 (byts f14)
theorem FoQ.keep {w W W' : World} {Kv Nv : List Value} {A : Option Addr} {LL : List Ra} {B : Option Addr} {ot0 : List UInt8} {g14 : Nat} {f14 : List UInt8} (h : FoQ w Kv Nv A LL B ot0 g14 f14 W) (hb : Below W.heap.size W W') : FoQ w Kv Nv A LL B ot0 g14 f14 W' :=
  ⟨h.1.keep hb, h.2.old hb⟩
end Go.Proofs.YtoclnlimnjnbkaaGreatDoor
