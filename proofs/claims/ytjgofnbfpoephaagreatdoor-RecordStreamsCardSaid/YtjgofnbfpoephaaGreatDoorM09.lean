/- Texts that were made one by one: Sm X Ap Pa Sw. -/
import Derived.Test.YtjgofnbfpoephaaGreatDoorM07
import Derived.Test.YtjgofnbfpoephaaGreatDoorM08
import Derived.Test.YtjgofnbfpoephaaGreatDoorM04
/- Contracts: spans, words and marks are compared; samples are made. -/
namespace Go.Proofs.YtjgofnbfpoephaaGreatDoor
set_option linter.all false
open Go.RowKit Go.Fl
set_option linter.unusedVariables false
set_option linter.unusedSimpArgs false

theorem spanC_get (l : List (Int × Int)) (k : Nat) (hk : k < l.length) : (spanC l)[k * 2]? = some (.int .i64 l[k].1) ∧ (spanC l)[k * 2 + 1]? = some (.int .i64 l[k].2) := by
  induction l generalizing k with
  | nil => simp at hk
  | cons p l ih =>
    match k, hk with
    | 0, _ => exact ⟨rfl, rfl⟩
    | k + 1, hk =>
      have h := ih k (by simpa using hk)
      have e1 : (k + 1) * 2 = k * 2 + 2 := by omega
      have e2 : (k + 1) * 2 + 1 = k * 2 + 1 + 2 := by omega
      rw [e1, show k * 2 + 2 + 1 = k * 2 + 1 + 2 by omega]
      exact ⟨by simpa [spanC] using h.1, by simpa [spanC] using h.2⟩
theorem Rd.span {w : World} {A : Option Addr} {l : List (Int × Int)} (h : Rd w A (spanC l)) {k : Nat} (hk : k < l.length) : ∃ b off, A = some ⟨b, off, none⟩ ∧ w.cell? ⟨b, off + k * 2, none⟩ = some (.int .i64 l[k].1) ∧ w.cell? ⟨b, off + k * 2 + 1, none⟩ = some (.int .i64 l[k].2) := by
  obtain ⟨h1, h2⟩ := spanC_get l k hk
  obtain ⟨b, off, hA, hc1⟩ := h _ _ h1
  obtain ⟨b', off', hA', hc2⟩ := h _ _ h2
  rw [hA] at hA'
  cases hA'
  exact ⟨b, off, hA, hc1, by rw [Nat.add_assoc]; exact hc2⟩

def sameSp : List (Int × Int) → List (Int × Int) → Bool
  | [], [] => true
  | p :: l, q :: m => (p.1 == q.1 && p.2 == q.2) && sameSp l m
  | _, _ => false
theorem sameSp_length {l m : List (Int × Int)} (h : l.length ≠ m.length) : sameSp l m = false := by
  induction l generalizing m with
  | nil => cases m with
    | nil => exact absurd rfl h
    | cons q m => rfl
  | cons p l ih => cases m with
    | nil => rfl
    | cons q m => rw [sameSp, ih (by simpa using h), Bool.and_false]
theorem sameSp_drop {l m : List (Int × Int)} {k : Nat} (hx : k < l.length) (hy : k < m.length) : sameSp (l.drop k) (m.drop k) = ((l[k].1 == m[k].1 && l[k].2 == m[k].2) && sameSp (l.drop (k + 1)) (m.drop (k + 1))) := by
  rw [List.drop_eq_getElem_cons hx, List.drop_eq_getElem_cons hy, sameSp]
theorem sameSp_refl (l : List (Int × Int)) : sameSp l l = true := by
  induction l with
  | nil => rfl
  | cons p l ih => simp [sameSp, ih]
theorem sameSp_eq {l m : List (Int × Int)} : sameSp l m = decide (l = m) := by
  induction l generalizing m with
  | nil => cases m <;> simp [sameSp]
  | cons p l ih => cases m with
    | nil => simp [sameSp]
    | cons q m =>
      rw [sameSp, ih]
      rcases p with ⟨a, b⟩; rcases q with ⟨c, d⟩
      by_cases h1 : a = c <;> by_cases h2 : b = d <;> by_cases h3 : l = m <;> simp [h1, h2, h3]

theorem fields94 : ((Tryz.prog.fieldsOf 94).toList.map fun f => (f.name, f.type, f.offset)) = [("From", 3, 0), ("To", 3, 1)] := by kernel_rfl
theorem neqSpan (a b c d : Int) (w : World) : (binOp .neq 94 (.agg #[.int .i64 a, .int .i64 b]) (.agg #[.int .i64 c, .int .i64 d])).run Tryz.prog w = .ok (.bool (!(a == c && b == d))) w := by
  have i3 := Tryz.underlying3
  have e1 : ∀ a b : Int, (part 3 #[.int .i64 a, .int .i64 b] 0).run Tryz.prog w = .ok (.int .i64 a) w := fun a b => part_int _ _ _ rfl w
  have e2 : ∀ a b : Int, (part 3 #[.int .i64 a, .int .i64 b] 1).run Tryz.prog w = .ok (.int .i64 b) w := fun a b => part_int _ _ _ rfl w
  have e4 := fun (a b : Int) => run_equalIn_int (P := Tryz.prog) w 9998 3 .i64 .i64 a b i3
  have n1 : ("From" : String) ≠ "_" := by decide
  have n2 : ("To" : String) ≠ "_" := by decide
  rw [run_neq_struct, run_eqStruct w 9999 _ _ _ _ (by kernel_rfl) (by kernel_rfl) fields94]
  simp only [eqTriples, if_pos n1, if_pos n2, Sem.run_bind, e1, e2, e4, Result.andThen_ok, Sem.run_ite, Sem.run_pure]
  cases a == c <;> cases b == d <;> simp [e1, e2, e4]

set_option maxHeartbeats 400000 in
theorem sameSpans_any (A B : Option Addr) (n m c d : Nat) (xs ys : List (Int × Int)) (w : World) (hA : Rd w A (spanC xs)) (hB : Rd w B (spanC ys)) (hn : n = xs.length) (hm : m = ys.length) (hx : xs.length ≤ 4611686018427387903) :
    Calls Tryz.prog 42 #[.slice A n c, .slice B m d] w fun e w' => e = .returned (.bool (sameSp xs ys)) ∧ ∃ q, w' = w.drewN q := by
  subst hn; subst hm
  by_cases hl : xs.length = ys.length
  · have hl1 : ((xs.length : Int) != (ys.length : Int)) = false := by rw [bne_eq_false_iff_eq]; omega
    have HL := Lib.hid hl; clear hl
    go_enter Tryz.func42, Tryz.ntmps42
    go_wp2
    go_loopw [5] (fun i wr => ∃ k : Nat, k ≤ xs.length ∧ i = .int .i64 k ∧ Hid (sameSp (xs.drop k) (ys.drop k) = sameSp xs ys) ∧ ∃ q, wr = w.drewN q) (fun i _ => xs.length - (intOf i).toNat)
    case atStart => exact ⟨0, Nat.zero_le _, rfl, rfl, 0, rfl⟩
    case round =>
      obtain ⟨k, hk, rfl, H, q, rfl⟩ := hrel
      by_cases hlt : k < xs.length
      · have hlt2 : k < ys.length := by rw [← HL.out]; exact hlt
        obtain ⟨b, off, rfl, hc1, hc2⟩ := Rd.span hA hlt
        obtain ⟨b', off', rfl, hc1', hc2'⟩ := Rd.span hB hlt2
        have i1 : (k : Int) < (xs.length : Int) := by omega
        have i2 : (k : Int) < (ys.length : Int) := by omega
        have HS := Lib.hid (sameSp_drop hlt hlt2)
        have hneq := neqSpan xs[k].1 xs[k].2 ys[k].1 ys[k].2
        cases ho : (xs[k].1 == ys[k].1 && xs[k].2 == ys[k].2)
        · have Ho := Lib.hid ho
          rw [ho] at hneq
          clear ho
          go_wp2
          go_quiet (fail)
          go_wp2
          go_ret
          exact ⟨ret_bool (by rw [← H.out, HS.out, Ho.out]; rfl), q + _, by rw [World.drewN_drewN]⟩
        · have Ho := Lib.hid ho
          rw [ho] at hneq
          clear ho
          go_wp2
          go_quiet (fail)
          go_wp2
          go_roundw
          case rel => exact ⟨k + 1, by omega, by go_num, by show _ = _; rw [← H.out, HS.out, Ho.out]; rfl, _, rfl⟩
          case measure => simp [intOf]; omega
      · go_wp2
        go_ret
        exact ⟨ret_bool (by rw [← H.out, List.drop_of_length_le (by omega), List.drop_of_length_le (by rw [← HL.out]; omega)]; rfl), q, rfl⟩
  · have hl1 : ((xs.length : Int) != (ys.length : Int)) = true := by rw [bne_iff_ne]; omega
    have HL := Lib.hid hl; clear hl
    go_enter Tryz.func42, Tryz.ntmps42
    go_wp2
    go_ret
    exact ⟨ret_bool (sameSp_length HL.out).symm, 0, rfl⟩
end Go.Proofs.YtjgofnbfpoephaaGreatDoor

/- Contracts: the error of a packet. -/
namespace Go.Proofs.YtjgofnbfpoephaaGreatDoor
set_option linter.all false
open Go.RowKit Go.Fl
set_option linter.unusedVariables false
set_option linter.unusedSimpArgs false

def pkI (st ct ln : Int) (xs : List Nat) : Int := firstI [whenI (rangeB st 0 255) 3, whenI (rangeB ct 0 65535) 3, whenI (rangeB ln 0 8) 3, sampsI xs, whenI (!samePk st ct ln xs st ct ln (trimL ln xs)) 1]

theorem rd8 {w : World} {g o : Nat} {x0 x1 x2 x3 x4 x5 x6 x7 : Nat} (h0 : w.cell? ⟨g, o, none⟩ = some (.float .f32 x0)) (h1 : w.cell? ⟨g, o + 1, none⟩ = some (.float .f32 x1)) (h2 : w.cell? ⟨g, o + 2, none⟩ = some (.float .f32 x2)) (h3 : w.cell? ⟨g, o + 3, none⟩ = some (.float .f32 x3))
    (h4 : w.cell? ⟨g, o + 4, none⟩ = some (.float .f32 x4)) (h5 : w.cell? ⟨g, o + 5, none⟩ = some (.float .f32 x5)) (h6 : w.cell? ⟨g, o + 6, none⟩ = some (.float .f32 x6)) (h7 : w.cell? ⟨g, o + 7, none⟩ = some (.float .f32 x7)) : Rd w (some ⟨g, o, none⟩) (flts [x0, x1, x2, x3, x4, x5, x6, x7]) := by
  intro j v hv
  have hj : j < 8 := (List.getElem?_eq_some_iff.1 hv).1
  refine ⟨g, o, rfl, ?_⟩
  rcases (show j = 0 ∨ j = 1 ∨ j = 2 ∨ j = 3 ∨ j = 4 ∨ j = 5 ∨ j = 6 ∨ j = 7 by omega) with rfl | rfl | rfl | rfl | rfl | rfl | rfl | rfl
  all_goals (simp [flts] at hv; subst hv; assumption)

theorem keepPk {w W W' : World} {st ct ln : Int} {x0 x1 x2 x3 x4 x5 x6 x7 : Nat} (h : W.cell? ⟨w.heap.size, 0, none⟩ = some (.int .i64 st) ∧ W.cell? ⟨w.heap.size, 1, none⟩ = some (.int .i64 ct) ∧ W.cell? ⟨w.heap.size, 2, none⟩ = some (.int .i64 ln) ∧ W.cell? ⟨w.heap.size, 3, none⟩ = some (.float .f32 x0) ∧ W.cell? ⟨w.heap.size, 4, none⟩ = some (.float .f32 x1) ∧ W.cell? ⟨w.heap.size, 5, none⟩ = some (.float .f32 x2) ∧ W.cell? ⟨w.heap.size, 6, none⟩ = some (.float .f32 x3) ∧ W.cell? ⟨w.heap.size, 7, none⟩ = some (.float .f32 x4) ∧ W.cell? ⟨w.heap.size, 8, none⟩ = some (.float .f32 x5) ∧ W.cell? ⟨w.heap.size, 9, none⟩ = some (.float .f32 x6) ∧ W.cell? ⟨w.heap.size, 10, none⟩ = some (.float .f32 x7) ∧ Below w.heap.size w W ∧ w.heap.size < W.heap.size) (hb : Below W.heap.size W W') : W'.cell? ⟨w.heap.size, 0, none⟩ = some (.int .i64 st) ∧ W'.cell? ⟨w.heap.size, 1, none⟩ = some (.int .i64 ct) ∧ W'.cell? ⟨w.heap.size, 2, none⟩ = some (.int .i64 ln) ∧ W'.cell? ⟨w.heap.size, 3, none⟩ = some (.float .f32 x0) ∧ W'.cell? ⟨w.heap.size, 4, none⟩ = some (.float .f32 x1) ∧ W'.cell? ⟨w.heap.size, 5, none⟩ = some (.float .f32 x2) ∧ W'.cell? ⟨w.heap.size, 6, none⟩ = some (.float .f32 x3) ∧ W'.cell? ⟨w.heap.size, 7, none⟩ = some (.float .f32 x4) ∧ W'.cell? ⟨w.heap.size, 8, none⟩ = some (.float .f32 x5) ∧ W'.cell? ⟨w.heap.size, 9, none⟩ = some (.float .f32 x6) ∧ W'.cell? ⟨w.heap.size, 10, none⟩ = some (.float .f32 x7) ∧ Below w.heap.size w W' ∧ w.heap.size < W'.heap.size := by
  obtain ⟨c0, c1, c2, c3, c4, c5, c6, c7, c8, c9, c10, b, l⟩ := h
  have hc : ∀ o v, W.cell? ⟨w.heap.size, o, none⟩ = some v → W'.cell? ⟨w.heap.size, o, none⟩ = some v := fun o v hv => (hb.cell (p := ⟨w.heap.size, o, none⟩) l).trans hv
  exact ⟨hc _ _ c0, hc _ _ c1, hc _ _ c2, hc _ _ c3, hc _ _ c4, hc _ _ c5, hc _ _ c6, hc _ _ c7, hc _ _ c8, hc _ _ c9, hc _ _ c10, b.trans (hb.mono b.size), Nat.lt_of_lt_of_le l hb.size⟩
theorem belowPk {w W : World} {st ct ln : Int} {x0 x1 x2 x3 x4 x5 x6 x7 : Nat} (h : W.cell? ⟨w.heap.size, 0, none⟩ = some (.int .i64 st) ∧ W.cell? ⟨w.heap.size, 1, none⟩ = some (.int .i64 ct) ∧ W.cell? ⟨w.heap.size, 2, none⟩ = some (.int .i64 ln) ∧ W.cell? ⟨w.heap.size, 3, none⟩ = some (.float .f32 x0) ∧ W.cell? ⟨w.heap.size, 4, none⟩ = some (.float .f32 x1) ∧ W.cell? ⟨w.heap.size, 5, none⟩ = some (.float .f32 x2) ∧ W.cell? ⟨w.heap.size, 6, none⟩ = some (.float .f32 x3) ∧ W.cell? ⟨w.heap.size, 7, none⟩ = some (.float .f32 x4) ∧ W.cell? ⟨w.heap.size, 8, none⟩ = some (.float .f32 x5) ∧ W.cell? ⟨w.heap.size, 9, none⟩ = some (.float .f32 x6) ∧ W.cell? ⟨w.heap.size, 10, none⟩ = some (.float .f32 x7) ∧ Below w.heap.size w W ∧ w.heap.size < W.heap.size) : Below w.heap.size w W := by
  obtain ⟨c0, c1, c2, c3, c4, c5, c6, c7, c8, c9, c10, b, l⟩ := h
  exact b
theorem rdPk {w W : World} {st ct ln : Int} {x0 x1 x2 x3 x4 x5 x6 x7 : Nat} (h : W.cell? ⟨w.heap.size, 0, none⟩ = some (.int .i64 st) ∧ W.cell? ⟨w.heap.size, 1, none⟩ = some (.int .i64 ct) ∧ W.cell? ⟨w.heap.size, 2, none⟩ = some (.int .i64 ln) ∧ W.cell? ⟨w.heap.size, 3, none⟩ = some (.float .f32 x0) ∧ W.cell? ⟨w.heap.size, 4, none⟩ = some (.float .f32 x1) ∧ W.cell? ⟨w.heap.size, 5, none⟩ = some (.float .f32 x2) ∧ W.cell? ⟨w.heap.size, 6, none⟩ = some (.float .f32 x3) ∧ W.cell? ⟨w.heap.size, 7, none⟩ = some (.float .f32 x4) ∧ W.cell? ⟨w.heap.size, 8, none⟩ = some (.float .f32 x5) ∧ W.cell? ⟨w.heap.size, 9, none⟩ = some (.float .f32 x6) ∧ W.cell? ⟨w.heap.size, 10, none⟩ = some (.float .f32 x7) ∧ Below w.heap.size w W ∧ w.heap.size < W.heap.size) : Rd W (some ⟨w.heap.size, 3, none⟩) (flts [x0, x1, x2, x3, x4, x5, x6, x7]) := by
  obtain ⟨c0, c1, c2, c3, c4, c5, c6, c7, c8, c9, c10, b, l⟩ := h
  exact rd8 c3 c4 c5 c6 c7 c8 c9 c10

set_option maxRecDepth 100000 in
set_option maxHeartbeats 2000000 in
theorem checkPacket_any (st ct ln : Int) (x0 x1 x2 x3 x4 x5 x6 x7 : Nat) (w : World) :
    Calls Tryz.prog 99 #[.agg #[.int .i64 st, .int .i64 ct, .int .i64 ln, .float .f32 x0, .float .f32 x1, .float .f32 x2, .float .f32 x3, .float .f32 x4, .float .f32 x5, .float .f32 x6, .float .f32 x7]] w
      fun e w' => e = .returned (.int .i64 (pkI st ct ln [x0, x1, x2, x3, x4, x5, x6, x7])) ∧ Below w.heap.size w w' := by
  have heq := fun W => neqPk54 st ct ln [x0, x1, x2, x3, x4, x5, x6, x7] st ct ln (trimL ln [x0, x1, x2, x3, x4, x5, x6, x7]) rfl rfl W
  obtain ⟨tv, htv⟩ : ∃ tv, tv = (pkC st ct ln (trimL ln [x0, x1, x2, x3, x4, x5, x6, x7])).toArray := ⟨_, rfl⟩
  rw [← htv] at heq
  have HT := Lib.hid htv
  clear htv
  have heq2 : ∀ W, (binOp .neq 54 (.agg #[.int .i64 st, .int .i64 ct, .int .i64 ln, .float .f32 x0, .float .f32 x1, .float .f32 x2, .float .f32 x3, .float .f32 x4, .float .f32 x5, .float .f32 x6, .float .f32 x7]) (.agg tv)).run Tryz.prog W = .ok (.bool (!samePk st ct ln [x0, x1, x2, x3, x4, x5, x6, x7] st ct ln (trimL ln [x0, x1, x2, x3, x4, x5, x6, x7]))) W := heq
  clear heq
  go_enter Tryz.func99, Tryz.ntmps99
  go_wp2
  have hS0 : (fun w' : World => w'.cell? ⟨w.heap.size, 0, none⟩ = some (.int .i64 st) ∧ w'.cell? ⟨w.heap.size, 1, none⟩ = some (.int .i64 ct) ∧ w'.cell? ⟨w.heap.size, 2, none⟩ = some (.int .i64 ln) ∧ w'.cell? ⟨w.heap.size, 3, none⟩ = some (.float .f32 x0) ∧ w'.cell? ⟨w.heap.size, 4, none⟩ = some (.float .f32 x1) ∧ w'.cell? ⟨w.heap.size, 5, none⟩ = some (.float .f32 x2) ∧ w'.cell? ⟨w.heap.size, 6, none⟩ = some (.float .f32 x3) ∧ w'.cell? ⟨w.heap.size, 7, none⟩ = some (.float .f32 x4) ∧ w'.cell? ⟨w.heap.size, 8, none⟩ = some (.float .f32 x5) ∧ w'.cell? ⟨w.heap.size, 9, none⟩ = some (.float .f32 x6) ∧ w'.cell? ⟨w.heap.size, 10, none⟩ = some (.float .f32 x7) ∧ Below w.heap.size w w' ∧ w.heap.size < w'.heap.size) (w.alloc (.cells #[.int .i64 st, .int .i64 ct, .int .i64 ln, .float .f32 x0, .float .f32 x1, .float .f32 x2, .float .f32 x3, .float .f32 x4, .float .f32 x5, .float .f32 x6, .float .f32 x7] 54)) := by
    refine ⟨?_, ?_, ?_, ?_, ?_, ?_, ?_, ?_, ?_, ?_, ?_, (Below.refl _ _).alloc (Nat.le_refl _) _, by simp⟩
    all_goals simp
  go_region_held3 (fun w' => w'.cell? ⟨w.heap.size, 0, none⟩ = some (.int .i64 st) ∧ w'.cell? ⟨w.heap.size, 1, none⟩ = some (.int .i64 ct) ∧ w'.cell? ⟨w.heap.size, 2, none⟩ = some (.int .i64 ln) ∧ w'.cell? ⟨w.heap.size, 3, none⟩ = some (.float .f32 x0) ∧ w'.cell? ⟨w.heap.size, 4, none⟩ = some (.float .f32 x1) ∧ w'.cell? ⟨w.heap.size, 5, none⟩ = some (.float .f32 x2) ∧ w'.cell? ⟨w.heap.size, 6, none⟩ = some (.float .f32 x3) ∧ w'.cell? ⟨w.heap.size, 7, none⟩ = some (.float .f32 x4) ∧ w'.cell? ⟨w.heap.size, 8, none⟩ = some (.float .f32 x5) ∧ w'.cell? ⟨w.heap.size, 9, none⟩ = some (.float .f32 x6) ∧ w'.cell? ⟨w.heap.size, 10, none⟩ = some (.float .f32 x7) ∧ Below w.heap.size w w' ∧ w.heap.size < w'.heap.size) (first | assumption | exact keepPk hS0 (Below.drew (Below.refl _ _)) | exact keepPk (by assumption) (Below.drew (Below.refl _ _)) | exact keepPk (by assumption) (below_drewN (Below.refl _ _) _) | exact keepPk (by assumption) (by assumption) | exact keepPk (by assumption) ((Below.refl _ _).alloc (Nat.le_refl _) _))
    (first | (go_at_call 88; refine (between_any _ _ _ _).mono ?_; rintro e w' ⟨rfl, rfl⟩) | (go_at_call 26; refine (checkSamples_any _ _ _ [x0, x1, x2, x3, x4, x5, x6, x7] _ ?_ rfl).mono ?_; (exact rdPk (by assumption)); (rintro e w1 ⟨rfl, hb1⟩)) | (go_at_call 172; refine (trimmed_any _ _ _ _ _ _ _ _ _ _ _ _).mono ?_; (rintro e w1 ⟨rfl, hb1⟩); rw [← HT.out]) | (go_at_call 91; refine (failed_any _ _ _).mono ?_; rintro e w' ⟨rfl, rfl⟩) | (go_at_call 87; refine (firstV_any _ _ _ [whenI (rangeB st 0 255) 3, whenI (rangeB ct 0 65535) 3, whenI (rangeB ln 0 8) 3, sampsI [x0, x1, x2, x3, x4, x5, x6, x7], whenI (!samePk st ct ln [x0, x1, x2, x3, x4, x5, x6, x7] st ct ln (trimL ln [x0, x1, x2, x3, x4, x5, x6, x7])) 1] _ ?_ rfl ?_).mono ?_; (first | exact Rd.new _ _ _ _ (by simp) | exact Rd.drew (Rd.new _ _ _ _ (by simp)) | exact Rd.drewN (Rd.new _ _ _ _ (by simp)) _); (simp); rintro e w' ⟨rfl, rfl⟩))
  all_goals go_wp2
  all_goals go_ret
  all_goals exact ⟨rfl, belowPk (by assumption)⟩
end Go.Proofs.YtjgofnbfpoephaaGreatDoor

/- Contracts: lists of packets, and their errors. -/
namespace Go.Proofs.YtjgofnbfpoephaaGreatDoor
set_option linter.all false
open Go.RowKit Go.Fl
set_option linter.unusedVariables false
set_option linter.unusedSimpArgs false

/-- a packet: station, counter, length, samples -/
abbrev PkT := Int × Int × Int × List Nat
def pkV (p : PkT) : List Value := pkC p.1 p.2.1 p.2.2.1 p.2.2.2
def pkE (p : PkT) : Int := pkI p.1 p.2.1 p.2.2.1 p.2.2.2
def pksC (l : List PkT) : List Value := l.flatMap pkV
def pks8 (l : List PkT) : Prop := ∀ p ∈ l, p.2.2.2.length = 8
def pksI (l : List PkT) : Int := if 1024 < l.length then 5 else firstI (l.map pkE)

theorem flat_get {α : Type} (f : α → List Value) (s : Nat) : ∀ (l : List α) (hs : ∀ p ∈ l, (f p).length = s) (k : Nat) (hk : k < l.length) (j : Nat) (hj : j < s), (l.flatMap f)[k * s + j]? = (f l[k])[j]?
  | p :: l, hs, 0, hk, j, hj => by
    have := hs p (by simp)
    simp only [List.flatMap_cons, Nat.zero_mul, Nat.zero_add, List.getElem_cons_zero]
    rw [List.getElem?_append_left (by omega)]
  | p :: l, hs, k + 1, hk, j, hj => by
    have h1 := hs p (by simp)
    have ih := flat_get f s l (fun q hq => hs q (by simp [hq])) k (by simpa using hk) j hj
    simp only [List.flatMap_cons, List.getElem_cons_succ]
    rw [List.getElem?_append_right (by rw [h1, Nat.succ_mul]; omega), h1, ← ih]
    congr 1
    rw [Nat.succ_mul]; omega
theorem flat_length {α : Type} (f : α → List Value) (s : Nat) : ∀ (l : List α) (hs : ∀ p ∈ l, (f p).length = s), (l.flatMap f).length = l.length * s
  | [], _ => by simp
  | p :: l, hs => by
    have h1 := hs p (by simp)
    have ih := flat_length f s l (fun q hq => hs q (by simp [hq]))
    rw [List.flatMap_cons, List.length_append, ih, h1, List.length_cons, Nat.succ_mul]; omega
theorem Rd.flat {α : Type} {f : α → List Value} {s : Nat} {w : World} {A : Option Addr} {l : List α} (h : Rd w A (l.flatMap f)) (hs : ∀ p ∈ l, (f p).length = s) (h0 : 0 < s) {k : Nat} (hk : k < l.length) :
    ∃ b off, A = some ⟨b, off, none⟩ ∧ ∀ j v, (f l[k])[j]? = some v → w.cell? ⟨b, off + k * s + j, none⟩ = some v := by
  have hl := hs _ (List.getElem_mem hk)
  obtain ⟨v0, hv0⟩ : ∃ v, (f l[k])[0]? = some v := ⟨(f l[k])[0]'(by omega), List.getElem?_eq_getElem (by omega)⟩
  obtain ⟨b, off, hA, _⟩ := h (k * s + 0) v0 ((flat_get f s l hs k hk 0 h0).trans hv0)
  refine ⟨b, off, hA, fun j v hv => ?_⟩
  have hj : j < s := by have := (List.getElem?_eq_some_iff.1 hv).1; omega
  obtain ⟨b', off', hA', hc⟩ := h (k * s + j) v ((flat_get f s l hs k hk j hj).trans hv)
  rw [hA] at hA'; cases hA'
  rw [Nat.add_assoc]; exact hc
theorem pkV_length {p : PkT} (h : p.2.2.2.length = 8) : (pkV p).length = 11 := by simp [pkV, pkC_length, h]
theorem pk_form {p : PkT} (h : p.2.2.2.length = 8) : ∃ (st ct ln : Int) (x0 x1 x2 x3 x4 x5 x6 x7 : Nat), p = (st, ct, ln, [x0, x1, x2, x3, x4, x5, x6, x7]) := by
  obtain ⟨st, ct, ln, xs⟩ := p
  match xs, h with
  | [a, b, c, d, e, f, g, h], _ => exact ⟨st, ct, ln, a, b, c, d, e, f, g, h, rfl⟩

set_option maxRecDepth 100000 in
set_option maxHeartbeats 1000000 in
theorem mappedPkE_any (A : Option Addr) (n c : Nat) (ps : List PkT) (w : World) (hA : Rd w A (pksC ps)) (h8 : pks8 ps) (hn : n = ps.length) (hm : ps.length ≤ 1024) :
    Calls Tryz.prog 174 #[.slice A n c, .func (.func 99) #[] #[]] w fun e w' => ∃ g, e = .returned (.slice (some ⟨g, 0, none⟩) n n) ∧ Row w' g 27 (ints (ps.map pkE)) ∧ w.heap.size ≤ g ∧ Below w.heap.size w w' := by
  subst hn
  have hmk := fun W : World => make1 (P := Tryz.prog) 236 27 (.int .i64 0) 8 Tryz.underlying236 info27 rfl ps.length (by omega) (by omega) W
  have HA := Lib.hid hA; have H8 := Lib.hid h8
  clear hA h8
  go_enter Tryz.func174, Tryz.ntmps174
  go_wp2
  go_loopw [13] (fun i wr => ∃ k : Nat, k ≤ ps.length ∧ i = .int .i64 k ∧ Hid (Row wr w.heap.size 27 (ints ((ps.map pkE).take k) ++ List.replicate (ps.length - k) (.int .i64 0))) ∧ Hid (Below w.heap.size w wr)) (fun i _ => ps.length - (intOf i).toNat)
  case atStart => exact ⟨0, Nat.zero_le _, rfl, by have := Row.new w 27 (List.replicate ps.length (.int .i64 0)); show Row _ _ _ _; simpa [ints] using this, (Below.refl _ _).alloc (Nat.le_refl _) _⟩
  case round =>
    obtain ⟨k, hk, rfl, Hrow, Hb⟩ := hrel
    by_cases hlt : k < ps.length
    · obtain ⟨b, off, hAb, hc⟩ := Rd.flat (HA.out.below Hb.out) (fun p hp => pkV_length (H8.out p hp)) (by decide) hlt
      subst hAb
      obtain ⟨st, ct, ln, x0, x1, x2, x3, x4, x5, x6, x7, hp⟩ := pk_form (H8.out _ (List.getElem_mem hlt))
      rw [hp] at hc
      have c0 := hc 0 _ rfl
      have c1 := hc 1 _ rfl
      have c2 := hc 2 _ rfl
      have c3 := hc 3 _ rfl
      have c4 := hc 4 _ rfl
      have c5 := hc 5 _ rfl
      have c6 := hc 6 _ rfl
      have c7 := hc 7 _ rfl
      have c8 := hc 8 _ rfl
      have c9 := hc 9 _ rfl
      have c10 := hc 10 _ rfl
      rw [Nat.add_zero] at c0
      have hset := Lib.hid (part_set (ps.map pkE) ps.length k (by simpa using hlt) (by simp))
      have hfk : Hid ((ps.map pkE)[k]'(by simpa using hlt) = pkI st ct ln [x0, x1, x2, x3, x4, x5, x6, x7]) := by unfold Hid; rw [List.getElem_map, hp]; rfl
      clear hc hp
      go_wp2_with fail
      refine (checkPacket_any st ct ln x0 x1 x2 x3 x4 x5 x6 x7 _).mono ?_
      rintro e w1 ⟨rfl, hb1⟩
      have Hb1 : Hid (Below w.heap.size w w1) := (Hb.out.alloc Hb.out.size _).trans (hb1.mono (by have := Hb.out.size; simp; omega))
      have Hrow1 := Lib.hid ((Hrow.out.alloc _).old hb1)
      have hc1 : w1.cell? ⟨w.heap.size, k, none⟩ = some (.int .i64 0) := by
        rw [Hrow1.out.cell]
        exact mid_get _ _ _ _ (by simp [ints]; omega) hlt
      have hf1 := Hrow1.out.free k
      clear hb1
      go_wp2
      go_roundw
      case rel => exact ⟨k + 1, by omega, by go_num, by show Row _ _ _ _; rw [← hset.out, hfk.out]; exact Hrow1.out.set k _, Hb1.out.setCell (by simp) _⟩
      case measure => simp [intOf]; omega
    · obtain rfl : k = ps.length := by omega
      go_wp2
      go_ret
      exact ⟨_, rfl, by have h := Hrow.out; rw [Nat.sub_self, List.replicate_zero, List.append_nil, List.take_of_length_le (by simp)] at h; exact h, Nat.le_refl _, Hb.out⟩

set_option maxRecDepth 100000 in
set_option maxHeartbeats 400000 in
theorem checkListPk_any (A : Option Addr) (n c : Nat) (ps : List PkT) (w : World) (hA : Rd w A (pksC ps)) (h8 : pks8 ps) (hn : n = ps.length) :
    Calls Tryz.prog 116 #[.slice A n c, .int .i64 1024, .func (.func 99) #[] #[]] w fun e w' => e = .returned (.int .i64 (pksI ps)) ∧ Below w.heap.size w w' := by
  subst hn
  by_cases hl : 1024 < ps.length
  · go_enter Tryz.func116, Tryz.ntmps116
    go_wp2
    go_ret
    exact ⟨ret_int (by rw [pksI, if_pos hl]), Below.refl _ _⟩
  · have hm : ps.length ≤ 1024 := by omega
    go_enter Tryz.func116, Tryz.ntmps116
    go_wp2_with fail
    refine (mappedPkE_any _ _ _ ps _ hA h8 rfl hm).mono ?_
    rintro e w1 ⟨g, rfl, hrow, hg, hb⟩
    go_wp2_with fail
    refine (firstV_any _ _ _ (ps.map pkE) _ (Rd.row hrow) (by simp) (by simp; omega)).mono ?_
    rintro e w2 ⟨rfl, rfl⟩
    go_wp2
    go_ret
    exact ⟨ret_int (by rw [pksI, if_neg hl]), hb⟩
end Go.Proofs.YtjgofnbfpoephaaGreatDoor

/- Contracts: the errors of a panel. -/
namespace Go.Proofs.YtjgofnbfpoephaaGreatDoor
set_option linter.all false
open Go.RowKit Go.Fl
set_option linter.unusedVariables false
set_option linter.unusedSimpArgs false

theorem Rd.cx {w : World} {A : Option Addr} {ps : List (Nat × Nat)} (h : Rd w A (cxs ps)) {j : Nat} (hj : j < ps.length) : ∃ b off, A = some ⟨b, off, none⟩ ∧ w.cell? ⟨b, off + j, none⟩ = some (.complex .f32 ps[j].1 ps[j].2) := by
  obtain ⟨b, off, h1, h2⟩ := Rd.at h (j := j) (by simpa [cxs] using hj)
  exact ⟨b, off, h1, by rw [h2]; simp [cxs]⟩

/-- the two errors of a part of a panel -/
def finE (r i : Nat) : Int := whenI (!finB r || !finB i) 1
def stpE (r i : Nat) : Int := whenI (!stepB r 65536 || !stepB i 65536) 3
set_option maxHeartbeats 400000 in
theorem panel1_any (r i : Nat) (w : World) : Calls Tryz.prog 191 #[.complex .f32 r i] w fun e w' => e = .returned (.int .i64 (finE r i)) ∧ Below w.heap.size w w' := by
  cases hr : finB r
  all_goals
    have Hr := Lib.hid hr; clear hr
    go_enter Tryz.func191, Tryz.ntmps191
    go_wp2_with (first | (go_at_call 94; refine (isFinite_any _ _).mono ?_; rintro e w' ⟨rfl, n, rfl⟩; try rw [Hr.out]) | (go_at_call 91; refine (failed_any _ _ _).mono ?_; rintro e w' ⟨rfl, rfl⟩))
    all_goals go_ret
    all_goals exact ⟨ret_int (by simp [finE, Hr.out]), by repeat (first | exact Below.refl _ _ | refine below_drewN ?_ _ | refine Below.drew ?_ | refine Below.alloc ?_ (by simp) _)⟩
set_option maxHeartbeats 400000 in
theorem panel2_any (r i : Nat) (w : World) : Calls Tryz.prog 192 #[.complex .f32 r i] w fun e w' => e = .returned (.int .i64 (stpE r i)) ∧ Below w.heap.size w w' := by
  cases hr : stepB r 65536
  all_goals
    have Hr := Lib.hid hr; clear hr
    go_enter Tryz.func192, Tryz.ntmps192
    go_wp2_with (first | (go_at_call 95; refine (isStepped_panel _ _).mono ?_; rintro e w' ⟨rfl, rfl⟩; try rw [Hr.out]) | (go_at_call 91; refine (failed_any _ _ _).mono ?_; rintro e w' ⟨rfl, rfl⟩))
    all_goals go_ret
    all_goals exact ⟨ret_int (by simp [stpE, Hr.out]), by repeat (first | exact Below.refl _ _ | refine below_drewN ?_ _ | refine Below.drew ?_ | refine Below.alloc ?_ (by simp) _)⟩
set_option maxRecDepth 100000 in
set_option maxHeartbeats 1000000 in
theorem mappedCx1_any (A : Option Addr) (n c : Nat) (ps : List (Nat × Nat)) (w : World) (hA : Rd w A (cxs ps)) (hn : n = ps.length) (hm : ps.length ≤ 4096) :
    Calls Tryz.prog 190 #[.slice A n c, .func (.func 191) #[] #[]] w fun e w' => ∃ g, e = .returned (.slice (some ⟨g, 0, none⟩) n n) ∧ Row w' g 27 (ints (ps.map fun p => finE p.1 p.2)) ∧ w.heap.size ≤ g ∧ Below w.heap.size w w' := by
  subst hn
  have hmk := fun W : World => make1 (P := Tryz.prog) 236 27 (.int .i64 0) 8 Tryz.underlying236 info27 rfl ps.length (by omega) (by omega) W
  obtain ⟨zs, hzs⟩ : ∃ zs, zs = ps.map fun p => finE p.1 p.2 := ⟨_, rfl⟩
  have hzl : zs.length = ps.length := by rw [hzs]; simp
  have HZ := Lib.hid hzs
  rw [← hzs]
  clear hzs
  go_enter Tryz.func190, Tryz.ntmps190
  go_wp2
  go_loopw [13] (fun i wr => ∃ k : Nat, k ≤ ps.length ∧ i = .int .i64 k ∧ Row wr w.heap.size 27 (ints (zs.take k) ++ List.replicate (ps.length - k) (.int .i64 0)) ∧ Below w.heap.size w wr) (fun i _ => ps.length - (intOf i).toNat)
  case atStart => exact ⟨0, Nat.zero_le _, rfl, by have := Row.new w 27 (List.replicate ps.length (.int .i64 0)); simpa [ints] using this, (Below.refl _ _).alloc (Nat.le_refl _) _⟩
  case round =>
    obtain ⟨k, hk, rfl, hrow, hb⟩ := hrel
    by_cases hlt : k < ps.length
    · obtain ⟨b, off, rfl, hc⟩ := Rd.cx (hA.below hb) hlt
      have hset := Lib.hid (part_set zs ps.length k (by omega) hzl.symm)
      have hfk : Hid (zs[k]'(by omega) = finE ps[k].1 ps[k].2) := by unfold Hid; simp [HZ.out]
      have Hrow := Lib.hid hrow
      have Hb := Lib.hid hb
      clear hrow hb
      go_wp2_with fail
      refine (panel1_any _ _ _).mono ?_
      rintro e w1 ⟨rfl, hb1⟩
      have Hrow1 := Lib.hid (Hrow.out.old hb1)
      have hc1 : w1.cell? ⟨w.heap.size, k, none⟩ = some (.int .i64 0) := by
        rw [Hrow1.out.cell]
        exact mid_get _ _ _ _ (by simp [ints]; omega) hlt
      have hf1 := Hrow1.out.free k
      have Hb1 := Lib.hid (Hb.out.trans (hb1.mono Hb.out.size))
      clear hb1
      go_wp2
      go_roundw
      case rel => exact ⟨k + 1, by omega, by go_num, by rw [← hset.out, hfk.out]; exact Hrow1.out.set k _, Hb1.out.setCell (by simp) _⟩
      case measure => simp [intOf]; omega
    · obtain rfl : k = ps.length := by omega
      go_wp2
      go_ret
      exact ⟨_, rfl, by rw [Nat.sub_self, List.replicate_zero, List.append_nil, List.take_of_length_le (by omega)] at hrow; exact hrow, Nat.le_refl _, hb⟩

set_option maxRecDepth 100000 in
set_option maxHeartbeats 1000000 in
theorem mappedCx2_any (A : Option Addr) (n c : Nat) (ps : List (Nat × Nat)) (w : World) (hA : Rd w A (cxs ps)) (hn : n = ps.length) (hm : ps.length ≤ 4096) :
    Calls Tryz.prog 190 #[.slice A n c, .func (.func 192) #[] #[]] w fun e w' => ∃ g, e = .returned (.slice (some ⟨g, 0, none⟩) n n) ∧ Row w' g 27 (ints (ps.map fun p => stpE p.1 p.2)) ∧ w.heap.size ≤ g ∧ Below w.heap.size w w' := by
  subst hn
  have hmk := fun W : World => make1 (P := Tryz.prog) 236 27 (.int .i64 0) 8 Tryz.underlying236 info27 rfl ps.length (by omega) (by omega) W
  obtain ⟨zs, hzs⟩ : ∃ zs, zs = ps.map fun p => stpE p.1 p.2 := ⟨_, rfl⟩
  have hzl : zs.length = ps.length := by rw [hzs]; simp
  have HZ := Lib.hid hzs
  rw [← hzs]
  clear hzs
  go_enter Tryz.func190, Tryz.ntmps190
  go_wp2
  go_loopw [13] (fun i wr => ∃ k : Nat, k ≤ ps.length ∧ i = .int .i64 k ∧ Row wr w.heap.size 27 (ints (zs.take k) ++ List.replicate (ps.length - k) (.int .i64 0)) ∧ Below w.heap.size w wr) (fun i _ => ps.length - (intOf i).toNat)
  case atStart => exact ⟨0, Nat.zero_le _, rfl, by have := Row.new w 27 (List.replicate ps.length (.int .i64 0)); simpa [ints] using this, (Below.refl _ _).alloc (Nat.le_refl _) _⟩
  case round =>
    obtain ⟨k, hk, rfl, hrow, hb⟩ := hrel
    by_cases hlt : k < ps.length
    · obtain ⟨b, off, rfl, hc⟩ := Rd.cx (hA.below hb) hlt
      have hset := Lib.hid (part_set zs ps.length k (by omega) hzl.symm)
      have hfk : Hid (zs[k]'(by omega) = stpE ps[k].1 ps[k].2) := by unfold Hid; simp [HZ.out]
      have Hrow := Lib.hid hrow
      have Hb := Lib.hid hb
      clear hrow hb
      go_wp2_with fail
      refine (panel2_any _ _ _).mono ?_
      rintro e w1 ⟨rfl, hb1⟩
      have Hrow1 := Lib.hid (Hrow.out.old hb1)
      have hc1 : w1.cell? ⟨w.heap.size, k, none⟩ = some (.int .i64 0) := by
        rw [Hrow1.out.cell]
        exact mid_get _ _ _ _ (by simp [ints]; omega) hlt
      have hf1 := Hrow1.out.free k
      have Hb1 := Lib.hid (Hb.out.trans (hb1.mono Hb.out.size))
      clear hb1
      go_wp2
      go_roundw
      case rel => exact ⟨k + 1, by omega, by go_num, by rw [← hset.out, hfk.out]; exact Hrow1.out.set k _, Hb1.out.setCell (by simp) _⟩
      case measure => simp [intOf]; omega
    · obtain rfl : k = ps.length := by omega
      go_wp2
      go_ret
      exact ⟨_, rfl, by rw [Nat.sub_self, List.replicate_zero, List.append_nil, List.take_of_length_le (by omega)] at hrow; exact hrow, Nat.le_refl _, hb⟩

/-- a panel without an error: finite parts, each a sixteenth of an integer up to 65536 -/
def okCx (ps : List (Nat × Nat)) : Prop := ∀ p ∈ ps, ∃ a b : Int, S p.1 a ∧ S p.2 b ∧ a.natAbs ≤ 65536 ∧ b.natAbs ≤ 65536
theorem fin_of {x : Nat} {a : Int} (h : S x a) : finB x = true := by
  unfold finB; rw [V32_of h]; rfl
theorem stp_of {x : Nat} {a : Int} {M : Nat} (h : S x a) (hb : a.natAbs ≤ M) : stepB x M = true := by
  unfold stepB
  rw [V32_of h]
  have h1 : (a * (2 ^ 145 : Nat)).natAbs ≤ M * 2 ^ 145 := by
    rw [natAbs_mul_pow]; exact Nat.mul_le_mul_right _ hb
  simp only [cutI_mul, decide_true, Bool.and_true, decide_eq_true_eq]
  exact h1
theorem firstI_zero {zs : List Int} (h : ∀ z ∈ zs, z = 0) : firstI zs = 0 := by
  induction zs with
  | nil => rfl
  | cons z zs ih => rw [firstI, if_pos (h z (by simp))]; exact ih fun y hy => h y (by simp [hy])
theorem okCx_fin {ps : List (Nat × Nat)} (h : okCx ps) : firstI (ps.map fun p => finE p.1 p.2) = 0 := firstI_zero (by
  intro z hz
  simp only [List.mem_map] at hz
  obtain ⟨p, hp, rfl⟩ := hz
  obtain ⟨a, b, h1, h2, _, _⟩ := h p hp
  unfold finE; rw [fin_of h1, fin_of h2]; rfl)
theorem okCx_stp {ps : List (Nat × Nat)} (h : okCx ps) : firstI (ps.map fun p => stpE p.1 p.2) = 0 := firstI_zero (by
  intro z hz
  simp only [List.mem_map] at hz
  obtain ⟨p, hp, rfl⟩ := hz
  obtain ⟨a, b, h1, h2, h3, h4⟩ := h p hp
  unfold stpE; rw [stp_of h1 h3, stp_of h2 h4]; rfl)

set_option maxRecDepth 100000 in
set_option maxHeartbeats 1000000 in
theorem checkPanel_ok (r0 i0 r1 i1 r2 i2 r3 i3 : Nat) (w : World) (h : okCx [(r0, i0), (r1, i1), (r2, i2), (r3, i3)]) :
    Calls Tryz.prog 167 #[.agg #[.complex .f32 r0 i0, .complex .f32 r1 i1, .complex .f32 r2 i2, .complex .f32 r3 i3]] w fun e w' => e = .returned (.int .i64 0) ∧ Below w.heap.size w w' := by
  have H := Lib.hid h
  clear h
  have H1 := Lib.hid (okCx_fin H.out)
  have H2 := Lib.hid (okCx_stp H.out)
  go_enter Tryz.func167, Tryz.ntmps167
  have hr0 : Row (w.alloc (.cells #[.complex .f32 r0 i0, .complex .f32 r1 i1, .complex .f32 r2 i2, .complex .f32 r3 i3] 147)) w.heap.size 147 (cxs [(r0, i0), (r1, i1), (r2, i2), (r3, i3)]) := Row.new w 147 (cxs [(r0, i0), (r1, i1), (r2, i2), (r3, i3)])
  have Hr0 := Lib.hid hr0
  clear hr0
  go_wp2_with fail
  refine (mappedCx1_any _ _ _ [(r0, i0), (r1, i1), (r2, i2), (r3, i3)] _ (Rd.row Hr0.out) rfl (by simp)).mono ?_
  rintro e w1 ⟨g1, rfl, hrow1, hg1, hb1⟩
  have Hr1 := Lib.hid (Hr0.out.old hb1)
  have Hrow1 := Lib.hid hrow1
  have Hb1 := Lib.hid hb1
  clear hrow1 hb1
  go_wp2_with fail
  refine (mappedCx2_any _ _ _ [(r0, i0), (r1, i1), (r2, i2), (r3, i3)] _ (Rd.row Hr1.out) rfl (by simp)).mono ?_
  rintro e w2 ⟨g2, rfl, hrow2, hg2, hb2⟩
  have Hq1 := Lib.hid (Rd.row (Hrow1.out.old hb2))
  have Hq2 := Lib.hid (Rd.row hrow2)
  have Hb2 : Hid (Below w.heap.size w w2) := ((Below.refl w.heap.size w).alloc (Nat.le_refl _) _).trans ((Hb1.out.mono (by simp)).trans (hb2.mono (by have := Hb1.out.size; simp at this; omega)))
  clear hrow2 hb2
  go_wp2_with fail
  refine (firstV_any (some ⟨g1, 0, none⟩) _ _ (List.map (fun p => finE p.1 p.2) [(r0, i0), (r1, i1), (r2, i2), (r3, i3)]) _ Hq1.out rfl (by simp)).mono ?_
  rintro e w' ⟨rfl, rfl⟩
  rw [H1.out]
  go_wp2_with fail
  refine (firstV_any (some ⟨g2, 0, none⟩) _ _ (List.map (fun p => stpE p.1 p.2) [(r0, i0), (r1, i1), (r2, i2), (r3, i3)]) _ Hq2.out rfl (by simp)).mono ?_
  rintro e w' ⟨rfl, rfl⟩
  rw [H2.out]
  go_wp2_with fail
  refine (firstV_any _ _ _ [0, 0] _ (Rd.new _ _ _ _ rfl) rfl (by simp)).mono ?_
  rintro e w' ⟨rfl, rfl⟩
  go_wp2
  go_ret
  exact ⟨rfl, Below.alloc Hb2.out (by have := Hb2.out.size; omega) _⟩
end Go.Proofs.YtjgofnbfpoephaaGreatDoor

/- Contracts: words are compared; samples are made of integers. -/
namespace Go.Proofs.YtjgofnbfpoephaaGreatDoor
set_option linter.all false
open Go.RowKit Go.Fl
set_option linter.unusedVariables false
set_option linter.unusedSimpArgs false

def strs (l : List ByteArray) : List Value := l.map Value.string
theorem Rd.str {w : World} {A : Option Addr} {xs : List ByteArray} (h : Rd w A (strs xs)) {j : Nat} (hj : j < xs.length) : ∃ b off, A = some ⟨b, off, none⟩ ∧ w.cell? ⟨b, off + j, none⟩ = some (.string xs[j]) := by
  obtain ⟨b, off, h1, h2⟩ := Rd.at h (j := j) (by simpa [strs] using hj)
  exact ⟨b, off, h1, by rw [h2]; simp [strs]⟩
def sameW : List ByteArray → List ByteArray → Bool
  | [], [] => true
  | p :: l, q :: m => (p.toList == q.toList) && sameW l m
  | _, _ => false
theorem sameW_length {l m : List ByteArray} (h : l.length ≠ m.length) : sameW l m = false := by
  induction l generalizing m with
  | nil => cases m with
    | nil => exact absurd rfl h
    | cons q m => rfl
  | cons p l ih => cases m with
    | nil => rfl
    | cons q m => rw [sameW, ih (by simpa using h), Bool.and_false]
theorem sameW_drop {l m : List ByteArray} {k : Nat} (hx : k < l.length) (hy : k < m.length) : sameW (l.drop k) (m.drop k) = ((l[k].toList == m[k].toList) && sameW (l.drop (k + 1)) (m.drop (k + 1))) := by
  rw [List.drop_eq_getElem_cons hx, List.drop_eq_getElem_cons hy, sameW]
theorem sameW_refl (l : List ByteArray) : sameW l l = true := by
  induction l with
  | nil => rfl
  | cons p l ih => simp [sameW, ih]
theorem sameW_eq {l m : List ByteArray} : sameW l m = decide (l = m) := by
  induction l generalizing m with
  | nil => cases m <;> simp [sameW]
  | cons p l ih => cases m with
    | nil => simp [sameW]
    | cons q m =>
      rw [sameW, ih]
      by_cases h1 : p = q
      · subst h1; by_cases h3 : l = m <;> simp [h3]
      · have h2 : (p.toList == q.toList) = false := by
          rw [Bool.eq_false_iff]; intro h; rw [beq_iff_eq, ByteArray.toList_eq, ByteArray.toList_eq] at h
          exact h1 (by rcases p with ⟨p⟩; rcases q with ⟨q⟩; simpa using h)
        simp [h1, h2]

set_option maxHeartbeats 400000 in
theorem sameWords_any (A B : Option Addr) (n m c d : Nat) (xs ys : List ByteArray) (w : World) (hA : Rd w A (strs xs)) (hB : Rd w B (strs ys)) (hn : n = xs.length) (hm : m = ys.length) (hx : xs.length ≤ 9223372036854775807) :
    Calls Tryz.prog 72 #[.slice A n c, .slice B m d] w fun e w' => e = .returned (.bool (sameW xs ys)) ∧ ∃ q, w' = w.drewN q := by
  subst hn; subst hm
  by_cases hl : xs.length = ys.length
  · have hl1 : ((xs.length : Int) != (ys.length : Int)) = false := by rw [bne_eq_false_iff_eq]; omega
    have HL := Lib.hid hl; clear hl
    go_enter Tryz.func72, Tryz.ntmps72
    go_wp2
    go_loopw [5] (fun i wr => ∃ k : Nat, k ≤ xs.length ∧ i = .int .i64 k ∧ Hid (sameW (xs.drop k) (ys.drop k) = sameW xs ys) ∧ ∃ q, wr = w.drewN q) (fun i _ => xs.length - (intOf i).toNat)
    case atStart => exact ⟨0, Nat.zero_le _, rfl, rfl, 0, rfl⟩
    case round =>
      obtain ⟨k, hk, rfl, H, q, rfl⟩ := hrel
      by_cases hlt : k < xs.length
      · have hlt2 : k < ys.length := by rw [← HL.out]; exact hlt
        obtain ⟨b, off, rfl, hc⟩ := Rd.str hA hlt
        obtain ⟨b', off', rfl, hc'⟩ := Rd.str hB hlt2
        have i1 : (k : Int) < (xs.length : Int) := by omega
        have i2 : (k : Int) < (ys.length : Int) := by omega
        have HS := Lib.hid (sameW_drop hlt hlt2)
        obtain ⟨x, hx1⟩ : ∃ x, x = xs[k] := ⟨_, rfl⟩
        obtain ⟨y, hy1⟩ : ∃ y, y = ys[k] := ⟨_, rfl⟩
        rw [← hx1] at hc HS; rw [← hy1] at hc' HS
        clear hx1 hy1
        cases ho : (x.toList == y.toList)
        · have Ho := Lib.hid ho
          go_wp2
          go_quiet (fail)
          go_wp2
          go_ret
          exact ⟨ret_bool (by rw [← H.out, HS.out, Ho.out]; rfl), q + _, by rw [World.drewN_drewN]⟩
        · have Ho := Lib.hid ho
          go_wp2
          go_quiet (fail)
          go_wp2
          go_roundw
          case rel => exact ⟨k + 1, by omega, by go_num, by show _ = _; rw [← H.out, HS.out, Ho.out]; rfl, _, rfl⟩
          case measure => simp [intOf]; omega
      · go_wp2
        go_ret
        exact ⟨ret_bool (by rw [← H.out, List.drop_of_length_le (by omega), List.drop_of_length_le (by rw [← HL.out]; omega)]; rfl), q, rfl⟩
  · have hl1 : ((xs.length : Int) != (ys.length : Int)) = true := by rw [bne_iff_ne]; omega
    have HL := Lib.hid hl; clear hl
    go_enter Tryz.func72, Tryz.ntmps72
    go_wp2
    go_ret
    exact ⟨ret_bool (sameW_length HL.out).symm, 0, rfl⟩

theorem fltsMap_snoc (l : List Int) (k : Nat) (hk : k < l.length) : flts ((l.map fb).take (k + 1)) = flts ((l.map fb).take k) ++ [.float .f32 (fb l[k])] := by
  rw [List.take_succ_eq_append_getElem (by simpa using hk)]; simp [flts]
set_option maxRecDepth 100000 in
set_option maxHeartbeats 1000000 in
theorem made_any (A : Option Addr) (n c : Nat) (l : List Int) (w : World) (hA : Rd w A (ints l)) (hn : n = l.length) (hm : l.length ≤ 1000000) (hb : ∀ x ∈ l, x.natAbs < 2 ^ 20) :
    Calls Tryz.prog 86 #[.slice A n c] w fun e w' => ∃ v, e = .returned v ∧ w'.ownsRow w.heap.size 37 1 v l.length (flts (l.map fb)) ∧ Below w.heap.size w w' := by
  subst hn
  have HB0 := Lib.hid hb
  clear hb
  obtain ⟨i0, hi, hz0, hz1, hz2⟩ := info_parts info37
  go_enter Tryz.func86, Tryz.ntmps86
  go_wp2
  go_loopw [3, 4] (fun u i wr => ∃ k : Nat, k ≤ l.length ∧ i = .int .i64 k ∧ wr.ownsRow w.heap.size 37 1 u k (flts ((l.map fb).take k)) ∧ Below w.heap.size w wr) (fun _ i _ => l.length - (intOf i).toNat)
  case atStart => exact ⟨0, Nat.zero_le _, rfl, World.ownsRow_nil _ _ _ _, Below.refl _ _⟩
  case round =>
    obtain ⟨k, hk, rfl, hown, hb⟩ := hrel
    have hsz := hb.size
    by_cases hlt : k < l.length
    · obtain ⟨b, off, rfl, hc⟩ := Rd.int (hA.below hb) hlt
      have hx := Lib.hid (HB0.out l[k] (List.getElem_mem hlt))
      have hu := Lib.hid (fltsMap_snoc l k hlt)
      go_wp2_with (first | (go_at_call 112; refine (sample_any _ _ hx.out).mono ?_; rintro e w1 ⟨rfl, rfl⟩) | (at_builtin; refine wpList_append_own _ rfl _ _ 38 rfl w.heap.size 37 i0 (.float .f32 0) 1 4 Tryz.underlying38 hi hz0 hz1 hz2 rfl (by decide) _ _ _ rfl (hown.alloc _) ⟨wr.heap.size, 0, none⟩ 1 1 [.float .f32 (fb l[k])] rfl rfl (news1 _ _ _ _ rfl) ?c2 ?c3 ?c4 ?c5 ?_))
      case c2 => simp [Value.oneCell']
      case c3 => unfold maxLen; omega
      case c4 => omega
      case c5 => simp; omega
      intro v' w1 hown' hgrow _
      have hb1 := Lib.hid (Below.app hb (by omega) hown hgrow)
      have ho1 := Lib.hid hown'
      clear hown' hgrow hown hb
      go_wp2
      go_roundw
      case rel => exact ⟨k + 1, by omega, by go_num, by rw [hu.out]; exact ho1.out, hb1.out⟩
      case measure => simp [intOf]; omega
    · obtain rfl : k = l.length := by omega
      go_wp2
      go_ret
      exact ⟨_, rfl, by rw [List.take_of_length_le (by simp)] at hown; exact hown, hb⟩
end Go.Proofs.YtjgofnbfpoephaaGreatDoor
