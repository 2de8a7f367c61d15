import Derived.Test.YtkfkmnfejeocpaaGreatDoorM07
import Derived.Test.YtkfkmnfejeocpaaGreatDoorM27
import Derived.IntWalk
namespace Go.Proofs.YtkfkmnfejeocpaaGreatDoor
set_option linter.all false
open Go.RowKit Go.Fl
def pkI (st ct ln : Int) (xs : List Nat) : Int := firstI [whenI (rangeB st 0 255) 3, whenI (rangeB ct 0 65535) 3, whenI (rangeB ln 0 8) 3, sampsI xs, whenI (!samePk st ct ln xs st ct ln (trimL ln xs)) 1]
theorem rd8 {w : World} {g o : Nat} {x0 x1 x2 x3 x4 x5 x6 x7 : Nat} (h0 : w.cell? ⟨g, o, none⟩ = some (.float .f32 x0)) (h1 : w.cell? ⟨g, o + 1, none⟩ = some (.float .f32 x1)) (h2 : w.cell? ⟨g, o + 2, none⟩ = some (.float .f32 x2)) (h3 : w.cell? ⟨g, o + 3, none⟩ = some (.float .f32 x3))
 (h4 : w.cell? ⟨g, o + 4, none⟩ = some (.float .f32 x4)) (h5 : w.cell? ⟨g, o + 5, none⟩ = some (.float .f32 x5)) (h6 : w.cell? ⟨g, o + 6, none⟩ = some (.float .f32 x6)) (h7 : w.cell? ⟨g, o + 7, none⟩ = some (.float .f32 x7)) : Rd w (some ⟨g, o, none⟩) (flts [x0, x1, x2, x3, x4, x5, x6, x7]) := by
 intro j v hv
 have hj : j < 8 := (List.getElem?_eq_some_iff.1 hv).1
 refine ⟨g, o, rfl, ?_⟩
 rcases (show j = 0 ∨ j = 1 ∨ j = 2 ∨ j = 3 ∨ j = 4 ∨ j = 5 ∨ j = 6 ∨ j = 7 by omega) with rfl | rfl | rfl | rfl | rfl | rfl | rfl | rfl
 all_goals (simp [flts] at hv; subst hv; assumption)
theorem keepPk {w W W' : World} {st ct ln : Int} {x0 x1 x2 x3 x4 x5 x6 x7 : Nat} (h : W.cell? ⟨w.heap.size, 0, none⟩ = some (.int .i64 st) ∧ W.cell? ⟨w.heap.size, 1, none⟩ = some (.int .i64 ct) ∧ W.cell? ⟨w.heap.size, 2, none⟩ = some (.int .i64 ln) ∧ W.cell? ⟨w.heap.size, 3, none⟩ = some (.float .f32 x0) ∧ W.cell? ⟨w.heap.size, 4, none⟩ = some (.float .f32 x1) ∧ W.cell? ⟨w.heap.size, 5, none⟩ = some (.float .f32 x2) ∧ W.cell? ⟨w.heap.size, 6, none⟩ = some (.float .f32 x3) ∧ W.cell? ⟨w.heap.size, 7, none⟩ = some (.float .f32 x4) ∧ W.cell? ⟨w.heap.size, 8, none⟩ = some (.float .f32 x5) ∧ W.cell? ⟨w.heap.size, 9, none⟩ = some (.float .f32 x6) ∧ W.cell? ⟨w.heap.size, 10, none⟩ = some (.float .f32 x7) ∧ Below w.heap.size w W ∧ w.heap.size < W.heap.size) (hb : Below W.heap.size W W') : W'.cell? ⟨w.heap.size, 0, none⟩ = some (.int .i64 st) ∧ W'.cell? ⟨w.heap.size, 1, none⟩ = some (.int .i64 ct) ∧ W'.cell? ⟨w.heap.size, 2, none⟩ = some (.int .i64 ln) ∧ W'.cell? ⟨w.heap.size, 3, none⟩ = some (.float .f32 x0) ∧ W'.cell? ⟨w.heap.size, 4, none⟩ = some (.float .f32 x1) ∧ W'.cell? ⟨w.heap.size, 5, none⟩ = some (.float .f32 x2) ∧ W'.cell? ⟨w.heap.size, 6, none⟩ = some (.float .f32 x3) ∧ W'.cell? ⟨w.heap.size, 7, none⟩ = some (.float .f32 x4) ∧ W'.cell? ⟨w.heap.size, 8, none⟩ = some (.float .f32 x5) ∧ W'.cell? ⟨w.heap.size, 9, none⟩ = some (.float .f32 x6) ∧ W'.cell? ⟨w.heap.size, 10, none⟩ = some (.float .f32 x7) ∧ Below w.heap.size w W' ∧ w.heap.size < W'.heap.size := by
 obtain ⟨c0, c1, c2, c3, c4, c5, c6, c7, c8, c9, c10, b, l⟩ := h
 have hc : ∀ o v, W.cell? ⟨w.heap.size, o, none⟩ = some v → W'.cell? ⟨w.heap.size, o, none⟩ = some v := fun o v hv => (hb.cell (p := ⟨w.heap.size, o, none⟩) l).trans hv
 exact ⟨hc _ _ c0, hc _ _ c1, hc _ _ c2, hc _ _ c3, hc _ _ c4, hc _ _ c5, hc _ _ c6, hc _ _ c7, hc _ _ c8, hc _ _ c9, hc _ _ c10, b.trans (hb.mono b.size), Nat.lt_of_lt_of_le l hb.size⟩
theorem belowPk {w W : World} {st ct ln : Int} {x0 x1 x2 x3 x4 x5 x6 x7 : Nat} (h : W.cell? ⟨w.heap.size, 0, none⟩ = some (.int .i64 st) ∧ W.cell? ⟨w.heap.size, 1, none⟩ = some (.int .i64 ct) ∧ W.cell? ⟨w.heap.size, 2, none⟩ = some (.int .i64 ln) ∧ W.cell? ⟨w.heap.size, 3, none⟩ = some (.float .f32 x0) ∧ W.cell? ⟨w.heap.size, 4, none⟩ = some (.float .f32 x1) ∧ W.cell? ⟨w.heap.size, 5, none⟩ = some (.float .f32 x2) ∧ W.cell? ⟨w.heap.size, 6, none⟩ = some (.float .f32 x3) ∧ W.cell? ⟨w.heap.size, 7, none⟩ = some (.float .f32 x4) ∧ W.cell? ⟨w.heap.size, 8, none⟩ = some (.float .f32 x5) ∧ W.cell? ⟨w.heap.size, 9, none⟩ = some (.float .f32 x6) ∧ W.cell? ⟨w.heap.size, 10, none⟩ = some (.float .f32 x7) ∧ Below w.heap.size w W ∧ w.heap.size < W.heap.size) : Below w.heap.size w W := by
 obtain ⟨c0, c1, c2, c3, c4, c5, c6, c7, c8, c9, c10, b, l⟩ := h
 exact b
theorem rdPk {w W : World} {st ct ln : Int} {x0 x1 x2 x3 x4 x5 x6 x7 : Nat} (h : W.cell? ⟨w.heap.size, 0, none⟩ = some (.int .i64 st) ∧ W.cell? ⟨w.heap.size, 1, none⟩ = some (.int .i64 ct) ∧ W.cell? ⟨w.heap.size, 2, none⟩ = some (.int .i64 ln) ∧ W.cell? ⟨w.heap.size, 3, none⟩ = some (.float .f32 x0) ∧ W.cell? ⟨w.heap.size, 4, none⟩ = some (.float .f32 x1) ∧ W.cell? ⟨w.heap.size, 5, none⟩ = some (.float .f32 x2) ∧ W.cell? ⟨w.heap.size, 6, none⟩ = some (.float .f32 x3) ∧ W.cell? ⟨w.heap.size, 7, none⟩ = some (.float .f32 x4) ∧ W.cell? ⟨w.heap.size, 8, none⟩ = some (.float .f32 x5) ∧ W.cell? ⟨w.heap.size, 9, none⟩ = some (.float .f32 x6) ∧ W.cell? ⟨w.heap.size, 10, none⟩ = some (.float .f32 x7) ∧ Below w.heap.size w W ∧ w.heap.size < W.heap.size) : Rd W (some ⟨w.heap.size, 3, none⟩) (flts [x0, x1, x2, x3, x4, x5, x6, x7]) := by
 obtain ⟨c0, c1, c2, c3, c4, c5, c6, c7, c8, c9, c10, b, l⟩ := h
 exact rd8 c3 c4 c5 c6 c7 c8 c9 c10
set_option maxRecDepth 100000 in
set_option maxHeartbeats 2000000 in
theorem checkPacket_any (st ct ln : Int) (x0 x1 x2 x3 x4 x5 x6 x7 : Nat) (w : World) :
 Calls Tryz.prog 63 #[.agg #[.int .i64 st, .int .i64 ct, .int .i64 ln, .float .f32 x0, .float .f32 x1, .float .f32 x2, .float .f32 x3, .float .f32 x4, .float .f32 x5, .float .f32 x6, .float .f32 x7]] w
  fun e w' => e = .returned (.int .i64 (pkI st ct ln [x0, x1, x2, x3, x4, x5, x6, x7])) ∧ Below w.heap.size w w' := by
 have heq := fun W => neqPk54 st ct ln [x0, x1, x2, x3, x4, x5, x6, x7] st ct ln (trimL ln [x0, x1, x2, x3, x4, x5, x6, x7]) rfl rfl W
 obtain ⟨tv, htv⟩ : ∃ tv, tv = (pkC st ct ln (trimL ln [x0, x1, x2, x3, x4, x5, x6, x7])).toArray := ⟨_, rfl⟩
 rw [← htv] at heq
 have HT := Lib.hid htv
 clear htv
 have heq2 : ∀ W, (binOp .neq 67 (.agg #[.int .i64 st, .int .i64 ct, .int .i64 ln, .float .f32 x0, .float .f32 x1, .float .f32 x2, .float .f32 x3, .float .f32 x4, .float .f32 x5, .float .f32 x6, .float .f32 x7]) (.agg tv)).run Tryz.prog W = .ok (.bool (!samePk st ct ln [x0, x1, x2, x3, x4, x5, x6, x7] st ct ln (trimL ln [x0, x1, x2, x3, x4, x5, x6, x7]))) W := heq
 clear heq
 go_enter Tryz.func63, Tryz.ntmps63
 go_wp2
 have hS0 : (fun w' : World => w'.cell? ⟨w.heap.size, 0, none⟩ = some (.int .i64 st) ∧ w'.cell? ⟨w.heap.size, 1, none⟩ = some (.int .i64 ct) ∧ w'.cell? ⟨w.heap.size, 2, none⟩ = some (.int .i64 ln) ∧ w'.cell? ⟨w.heap.size, 3, none⟩ = some (.float .f32 x0) ∧ w'.cell? ⟨w.heap.size, 4, none⟩ = some (.float .f32 x1) ∧ w'.cell? ⟨w.heap.size, 5, none⟩ = some (.float .f32 x2) ∧ w'.cell? ⟨w.heap.size, 6, none⟩ = some (.float .f32 x3) ∧ w'.cell? ⟨w.heap.size, 7, none⟩ = some (.float .f32 x4) ∧ w'.cell? ⟨w.heap.size, 8, none⟩ = some (.float .f32 x5) ∧ w'.cell? ⟨w.heap.size, 9, none⟩ = some (.float .f32 x6) ∧ w'.cell? ⟨w.heap.size, 10, none⟩ = some (.float .f32 x7) ∧ Below w.heap.size w w' ∧ w.heap.size < w'.heap.size) (w.alloc (.cells #[.int .i64 st, .int .i64 ct, .int .i64 ln, .float .f32 x0, .float .f32 x1, .float .f32 x2, .float .f32 x3, .float .f32 x4, .float .f32 x5, .float .f32 x6, .float .f32 x7] 67)) := by
  refine ⟨?_, ?_, ?_, ?_, ?_, ?_, ?_, ?_, ?_, ?_, ?_, (Below.refl _ _).alloc (Nat.le_refl _) _, by simp⟩
  all_goals simp
 go_region_held3 (fun w' => w'.cell? ⟨w.heap.size, 0, none⟩ = some (.int .i64 st) ∧ w'.cell? ⟨w.heap.size, 1, none⟩ = some (.int .i64 ct) ∧ w'.cell? ⟨w.heap.size, 2, none⟩ = some (.int .i64 ln) ∧ w'.cell? ⟨w.heap.size, 3, none⟩ = some (.float .f32 x0) ∧ w'.cell? ⟨w.heap.size, 4, none⟩ = some (.float .f32 x1) ∧ w'.cell? ⟨w.heap.size, 5, none⟩ = some (.float .f32 x2) ∧ w'.cell? ⟨w.heap.size, 6, none⟩ = some (.float .f32 x3) ∧ w'.cell? ⟨w.heap.size, 7, none⟩ = some (.float .f32 x4) ∧ w'.cell? ⟨w.heap.size, 8, none⟩ = some (.float .f32 x5) ∧ w'.cell? ⟨w.heap.size, 9, none⟩ = some (.float .f32 x6) ∧ w'.cell? ⟨w.heap.size, 10, none⟩ = some (.float .f32 x7) ∧ Below w.heap.size w w' ∧ w.heap.size < w'.heap.size) (first | assumption | exact keepPk hS0 (Below.drew (Below.refl _ _)) | exact keepPk (by assumption) (Below.drew (Below.refl _ _)) | exact keepPk (by assumption) (below_drewN (Below.refl _ _) _) | exact keepPk (by assumption) (by assumption) | exact keepPk (by assumption) ((Below.refl _ _).alloc (Nat.le_refl _) _))
  (first | (go_at_call 58; refine (between_any _ _ _ _).mono ?_; rintro e w' ⟨rfl, rfl⟩) | (go_at_call 42; refine (checkSamples_any _ _ _ [x0, x1, x2, x3, x4, x5, x6, x7] _ ?_ rfl).mono ?_; (exact rdPk (by assumption)); (rintro e w1 ⟨rfl, hb1⟩)) | (go_at_call 115; refine (trimmed_any _ _ _ _ _ _ _ _ _ _ _ _).mono ?_; (rintro e w1 ⟨rfl, hb1⟩); rw [← HT.out]) | (go_at_call 81; refine (failed_any _ _ _).mono ?_; rintro e w' ⟨rfl, rfl⟩) | (go_at_call 57; refine (firstV_any _ _ _ [whenI (rangeB st 0 255) 3, whenI (rangeB ct 0 65535) 3, whenI (rangeB ln 0 8) 3, sampsI [x0, x1, x2, x3, x4, x5, x6, x7], whenI (!samePk st ct ln [x0, x1, x2, x3, x4, x5, x6, x7] st ct ln (trimL ln [x0, x1, x2, x3, x4, x5, x6, x7])) 1] _ ?_ rfl ?_).mono ?_; (first | exact Rd.new _ _ _ _ (by simp) | exact Rd.drew (Rd.new _ _ _ _ (by simp)) | exact Rd.drewN (Rd.new _ _ _ _ (by simp)) _); (simp); rintro e w' ⟨rfl, rfl⟩))
 all_goals go_wp2
 all_goals go_ret
 all_goals exact ⟨rfl, belowPk (by assumption)⟩
theorem results_row_tmp {P : Program} {fn : Func} {p t : Tmp} {ty : TypeId} (h : fn.results = #[.cell p ty, .tmp t]) (tmps : Array Value) (w : World) (g : Nat) (e : TypeId) (cs : Array Value) (fr : Nat × Nat) (d : TypeDesc)
 (hp : tmps.getD p undef = .pointer (some ⟨g, 0, none⟩)) (hg : w.heap[g]? = some (.cells cs e fr))
 (hu : P.underlying ty = some d) (hd : (match d with | .struct _ | .array _ _ => true | _ => false) = true) (hi : (P.info? ty).map (·.size) = some cs.size) :
 (results fn tmps).run P w = .ok (.tuple #[.agg cs, tmps.getD t undef]) w := by
 have hp' : tmps[p]?.getD undef = .pointer (some ⟨g, 0, none⟩) := by simpa using hp
 simp [results, h, hp', asAddr, run_loadVar_row w g e ty cs fr d hg hu hd hi]
set_option maxRecDepth 100000 in
set_option maxHeartbeats 400000 in
theorem seal_any (k0 k1 k2 k3 k4 k5 k6 k7 : Int) (A : Option Addr) (n c : Nat) (bs : List UInt8) (w : World) (hA : Rd w A (byts bs)) (hn : n = bs.length) (hm : bs.length ≤ 400000) (hkeys : ∀ j (h : j < 8), isByte ([k0, k1, k2, k3, k4, k5, k6, k7][j])) :
 Calls Tryz.prog 26 #[.agg #[.int .u8 k0, .int .u8 k1, .int .u8 k2, .int .u8 k3, .int .u8 k4, .int .u8 k5, .int .u8 k6, .int .u8 k7], .slice A n c] w fun e w' => e = .returned (.tuple #[keyV (sealL [k0, k1, k2, k3, k4, k5, k6, k7] bs), .int .i64 0]) ∧ Below w.heap.size w w' := by
 subst hn
 have Hk := Lib.hid hkeys; clear hkeys
 go_enter Tryz.func26, Tryz.ntmps26
 go_wp2_with fail
 refine (sealed_any k0 k1 k2 k3 k4 k5 k6 k7 A _ c bs _ (hA.below (by repeat (first | exact Below.refl _ _ | refine Below.alloc ?_ (by simp) _))) rfl (by omega) Hk.out).mono ?_
 rintro e w1 ⟨rfl, hb⟩
 have hres : Row w1 (w.heap.size + 1) 58 (u8s [0, 0, 0, 0, 0, 0, 0, 0]) := by
  have h2 := Row.new (w.alloc (.cells (u8s [k0, k1, k2, k3, k4, k5, k6, k7]).toArray 58)) 58 (u8s [0, 0, 0, 0, 0, 0, 0, 0])
  rw [World.size_alloc] at h2
  exact h2.old hb
 have hb0 : Below w.heap.size w w1 := (((Below.refl w.heap.size w).alloc (Nat.le_refl _) _).alloc (by simp) _).trans (hb.mono (by simp; omega))
 obtain ⟨l, hl⟩ : ∃ l, l = sealL [k0, k1, k2, k3, k4, k5, k6, k7] bs := ⟨_, rfl⟩
 have hlen : l.length = 8 := by rw [hl]; simp [sealL, sealGo_length]
 rw [← hl]
 have He := Lib.hid hl
 have Hlen := Lib.hid hlen
 have Hres := Lib.hid hres
 have Hb0 := Lib.hid hb0
 clear hl hlen hres hb hb0
 unfold keyV
 go_wp2_with (refine wpList_store_row rfl 58 _ _ rfl (w.heap.size + 1) (u8s l).toArray rfl rfl 58 _ Hres.out ?_ ?_ ?_ ?_; (rw [info47]; simp [u8s, Hlen.out]); (simp [u8s, Hlen.out]); (simp [u8s, Value.oneCell']))
 refine bodyPost_ret (results_row_tmp rfl _ _ (w.heap.size + 1) 58 (u8s l).toArray (0, 0) _ rfl (Hres.out.setRow (u8s l)) Tryz.underlying58 rfl ?_) rfl ?_
 · rw [info47]; simp [u8s, Hlen.out]
 · exact ⟨by rw [← He.out]; rfl, Below.setRow Hb0.out (by simp) _⟩
set_option maxHeartbeats 400000 in
theorem to_any (a b : Int) (w : World) : Calls Tryz.prog 31 #[.int .i64 a, .int .i64 b] w fun e w' => e = .returned (.agg #[.int .i64 a, .int .i64 b]) ∧ w' = w.alloc (.cells #[.int .i64 a, .int .i64 b] 77) := by
 go_enter Tryz.func31, Tryz.ntmps31
 go_wp2
 exact bodyPost_ret (v := .agg #[.int .i64 a, .int .i64 b]) (by simp [results, Tryz.results31, go_sem]) rfl ⟨rfl, rfl⟩
set_option maxHeartbeats 400000 in
theorem isLess_any (a b c d : Int) (w : World) (h1 : -4611686018427387904 ≤ a * d) (h2 : a * d ≤ 4611686018427387904) (h3 : -4611686018427387904 ≤ c * b) (h4 : c * b ≤ 4611686018427387904) : Calls Tryz.prog 86 #[.agg #[.int .i64 a, .int .i64 b], .agg #[.int .i64 c, .int .i64 d]] w fun e w' => e = .returned (.bool (decide (a * d < c * b))) ∧ Below w.heap.size w w' := by
 go_enter Tryz.func86, Tryz.ntmps86
 go_wp2
 go_ret
 exact ⟨rfl, ((Below.refl _ _).alloc (Nat.le_refl _) _).alloc (by simp) _⟩
theorem flts_snoc (xs : List Nat) (b k : Nat) : flts (xs ++ List.replicate (k + 1) b) = flts (xs ++ List.replicate k b) ++ [.float .f32 b] := by
 rw [List.replicate_succ', ← List.append_assoc]; simp [flts]
def onB (x : Nat) : Bool := FloatKind.f32.format.order x 1056964608 == some .gt || FloatKind.f32.format.order x 1056964608 == some .eq
set_option maxHeartbeats 400000 in
theorem isOn_any (x : Nat) (w : World) : Calls Tryz.prog 93 #[.float .f32 x] w fun e w' => e = .returned (.bool (onB x)) ∧ w = w' := by
 go_enter Tryz.func93, Tryz.ntmps93
 go_wp2
 go_ret
 exact ⟨rfl, rfl⟩
def runL (on : Bool) : List Nat → Nat
 | [] => 0
 | x :: xs => if onB x = on then runL on xs + 1 else 0
def spanEndL (xs : List Nat) (i : Nat) : Nat := i + 1 + runL (onB (xs.getD i 0)) (xs.drop (i + 1))
theorem runL_drop (on : Bool) (xs : List Nat) (k : Nat) (hk : k < xs.length) : runL on (xs.drop k) = if onB xs[k] = on then runL on (xs.drop (k + 1)) + 1 else 0 := by
 rw [List.drop_eq_getElem_cons hk, runL]
theorem runL_le (on : Bool) (xs : List Nat) : runL on xs ≤ xs.length := by
 induction xs with
 | nil => simp [runL]
 | cons x xs ih => rw [runL]; split <;> simp <;> omega
theorem quiet_same {P : Program} {f : FuncId} {args : Array Value} {w : World} {v : Value} {n : Nat} (h : Calls P f args (w.drewN n) fun e w' => e = .returned v ∧ w.drewN n = w') : Calls P f args (w.drewN n) fun e w'' => e = .returned v ∧ ∃ m, w'' = w.drewN m :=
 h.mono fun _ _ ⟨he, hm⟩ => ⟨he, n, hm.symm⟩
theorem quiet_same2 {P : Program} {f : FuncId} {args : Array Value} {w : World} {v : Value} {a n : Nat} (h : Calls P f args (w.drewN (a + n)) fun e w' => e = .returned v ∧ w.drewN (a + n) = w') : Calls P f args (w.drewN (a + n)) fun e w'' => e = .returned v ∧ ∃ m, w'' = w.drewN (a + m) :=
 h.mono fun _ _ ⟨he, hm⟩ => ⟨he, n, hm.symm⟩
set_option maxRecDepth 100000 in
set_option maxHeartbeats 1000000 in
theorem spanEnd_any (A : Option Addr) (n c : Nat) (xs : List Nat) (i : Nat) (w : World) (hA : Rd w A (flts xs)) (hn : n = xs.length) (hi : i < xs.length) (hm : xs.length ≤ 9223372036854775806) :
 Calls Tryz.prog 92 #[.slice A n c, .int .i64 i] w fun e w' => e = .returned (.int .i64 (spanEndL xs i : Nat)) ∧ ∃ q, w' = w.drewN q := by
 subst hn
 obtain ⟨b, off, rfl, hci⟩ := Rd.flt hA hi
 have hgi := Lib.hid (show xs.getD i 0 = xs[i] by simp [hi])
 go_enter Tryz.func92, Tryz.ntmps92
 go_wp2
 go_loopw [5] (fun t wr => ∃ k : Nat, i + 1 ≤ k ∧ k ≤ xs.length ∧ t = .int .i64 k ∧ Hid (k + runL (onB xs[i]) (xs.drop k) = spanEndL xs i) ∧ ∃ q, wr = w.drewN q) (fun t _ => xs.length - (intOf t).toNat)
 case atStart => exact ⟨i + 1, Nat.le_refl _, hi, by go_num, by show _ = _; rw [spanEndL, hgi.out], 0, rfl⟩
 case round =>
  obtain ⟨k, hk1, hk, rfl, H, q, rfl⟩ := hrel
  by_cases hlt : k < xs.length
  · obtain ⟨b', off', hab, hck⟩ := Rd.flt hA hlt
    cases hab
    have hr := Lib.hid (runL_drop (onB xs[i]) xs k hlt)
    have i1 : (k : Int) < (xs.length : Int) := by omega
    have i2 : (i : Int) < (xs.length : Int) := by omega
    cases hon : (onB xs[k] == onB xs[i])
    · have Hon := Lib.hid (show onB xs[k] ≠ onB xs[i] by simpa using hon)
      go_wp2
      go_quiet ((go_at_call 93; exact quiet_same2 (isOn_any _ _)))
      go_wp2
      go_ret
      exact ⟨ret_int (by rw [← H.out, hr.out, if_neg Hon.out]; rfl), q + _, by rw [World.drewN_drewN]⟩
    · have Hon := Lib.hid (show onB xs[k] = onB xs[i] by simpa using hon)
      go_wp2
      go_quiet ((go_at_call 93; exact quiet_same2 (isOn_any _ _)))
      go_wp2
      go_roundw
      case rel => exact ⟨k + 1, by omega, by omega, by go_num, by show _ = _; rw [← H.out, hr.out, if_pos Hon.out]; omega, _, rfl⟩
      case measure => simp [intOf]; omega
  · have hd : decide ((k : Int) < (xs.length : Int)) = false := by simp; omega
    go_wp2
    go_quiet (fail)
    go_wp2
    go_ret
    exact ⟨ret_int (by rw [← H.out, List.drop_of_length_le (by omega)]; rfl), q + _, by rw [World.drewN_drewN]⟩
def Pw (w : World) : Prop := ∀ j v, [(1 : Int), 0, 0, -1, -1, 0, 0, 1][j]? = some v → w.cell? ⟨0, j, none⟩ = some (.int .i64 v)
theorem Pw.at {w : World} (h : Pw w) (j : Nat) (v : Int) (hv : [(1 : Int), 0, 0, -1, -1, 0, 0, 1][j]? = some v) : w.cell? ⟨0, j, none⟩ = some (.int .i64 v) := h j v hv
theorem Pw.old {w w' : World} (h : Pw w) (hb : Below w.heap.size w w') : Pw w' := fun j v hv => (hb.cell (World.block_lt_of_cell? w _ (h j v hv))).trans (h j v hv)
def powR (n : Nat) : Int := if n % 4 = 0 then 1 else if n % 4 = 2 then -1 else 0
def powI (n : Nat) : Int := if n % 4 = 1 then -1 else if n % 4 = 3 then 1 else 0
def pb (n : Int) : Nat := if n = 1 then 1065353216 else if n = -1 then 3212836864 else 0
theorem pb_spec (n : Int) (h : n = 1 ∨ n = -1 ∨ n = 0) : S (pb n) (16 * n) := by
 rcases h with rfl | rfl | rfl
 · exact S.one
 · exact S.minus
 · exact S.zero
theorem powR_or (n : Nat) : powR n = 1 ∨ powR n = -1 ∨ powR n = 0 := by
 unfold powR
 by_cases h0 : n % 4 = 0
 · simp [h0]
 · by_cases h2 : n % 4 = 2 <;> simp [h0, h2]
theorem powI_or (n : Nat) : powI n = 1 ∨ powI n = -1 ∨ powI n = 0 := by
 unfold powI
 by_cases h0 : n % 4 = 1
 · simp [h0]
 · by_cases h2 : n % 4 = 3 <;> simp [h0, h2]
theorem ret_cx {a b c d : Nat} (h1 : a = c) (h2 : b = d) : Ending.returned (.complex .f32 a b) = .returned (.complex .f32 c d) := by rw [h1, h2]
theorem c0 : floatOfInt .f32 0 = 0 := by decide +kernel
theorem c1 : floatOfInt .f32 1 = 1065353216 := by decide +kernel
theorem cm : floatOfInt .f32 (-1) = 3212836864 := by decide +kernel
set_option maxHeartbeats 400000 in
theorem power_any (n : Nat) (w : World) (hw : Pw w) (hn : n < 1000000) : Calls Tryz.prog 43 #[.int .i64 n] w fun e w' => e = .returned (.complex .f32 (pb (powR n)) (pb (powI n))) ∧ Below w.heap.size w w' := by
 have hm : n % 4 = 0 ∨ n % 4 = 1 ∨ n % 4 = 2 ∨ n % 4 = 3 := by omega
 have H0 := hw.at 0 1 rfl
 have H1 := hw.at 1 0 rfl
 have H2 := hw.at 2 0 rfl
 have H3 := hw.at 3 (-1) rfl
 have H4 := hw.at 4 (-1) rfl
 have H5 := hw.at 5 0 rfl
 have H6 := hw.at 6 0 rfl
 have H7 := hw.at 7 1 rfl
 have hlt := World.block_lt_of_cell? w _ H0
 rcases hm with h | h | h | h
 · have hp : Hid (pb (powR n) = 1065353216 ∧ pb (powI n) = 0) := by unfold Hid powR powI; simp [h]; decide
   have hi : (n : Int) % 4 = 0 := by omega
   clear h hw H2 H3 H4 H5 H6 H7
   go_enter Tryz.func43, Tryz.ntmps43
   go_wp2
   go_ret
   exact ⟨ret_cx (by rw [hp.out.1]; exact c1) (by rw [hp.out.2]; exact c0), by repeat (first | exact Below.refl _ _ | refine below_drewN ?_ _ | refine Below.drew ?_ | refine Below.alloc ?_ (by simp) _)⟩
 · have hp : Hid (pb (powR n) = 0 ∧ pb (powI n) = 3212836864) := by unfold Hid powR powI; simp [h]; decide
   have hi : (n : Int) % 4 = 1 := by omega
   clear h hw H0 H1 H4 H5 H6 H7
   go_enter Tryz.func43, Tryz.ntmps43
   go_wp2
   go_ret
   exact ⟨ret_cx (by rw [hp.out.1]; exact c0) (by rw [hp.out.2]; exact cm), by repeat (first | exact Below.refl _ _ | refine below_drewN ?_ _ | refine Below.drew ?_ | refine Below.alloc ?_ (by simp) _)⟩
 · have hp : Hid (pb (powR n) = 3212836864 ∧ pb (powI n) = 0) := by unfold Hid powR powI; simp [h]; decide
   have hi : (n : Int) % 4 = 2 := by omega
   clear h hw H0 H1 H2 H3 H6 H7
   go_enter Tryz.func43, Tryz.ntmps43
   go_wp2
   go_ret
   exact ⟨ret_cx (by rw [hp.out.1]; exact cm) (by rw [hp.out.2]; exact c0), by repeat (first | exact Below.refl _ _ | refine below_drewN ?_ _ | refine Below.drew ?_ | refine Below.alloc ?_ (by simp) _)⟩
 · have hp : Hid (pb (powR n) = 0 ∧ pb (powI n) = 1065353216) := by unfold Hid powR powI; simp [h]; decide
   have hi : (n : Int) % 4 = 3 := by omega
   clear h hw H0 H1 H2 H3 H4 H5
   go_enter Tryz.func43, Tryz.ntmps43
   go_wp2
   go_ret
   exact ⟨ret_cx (by rw [hp.out.1]; exact c0) (by rw [hp.out.2]; exact c1), by repeat (first | exact Below.refl _ _ | refine below_drewN ?_ _ | refine Below.drew ?_ | refine Below.alloc ?_ (by simp) _)⟩
def fourP (a : List Int) (k : Nat) : Nat → Int × Int
 | 0 => (0, 0)
 | n + 1 => ((fourP a k n).1 + a.getD n 0 * powR (k * n), (fourP a k n).2 + a.getD n 0 * powI (k * n))
theorem mul_small {x : Int} {M : Nat} (hx : x.natAbs ≤ M) {p : Int} (hp : p = 1 ∨ p = -1 ∨ p = 0) : (x * p).natAbs ≤ M := by
 rcases hp with rfl | rfl | rfl
 · simpa using hx
 · simpa using hx
 · simp
theorem fourP_bd (a : List Int) (k n : Nat) (ha : ∀ j, (a.getD j 0).natAbs ≤ 16384) : (fourP a k n).1.natAbs ≤ 16384 * n ∧ (fourP a k n).2.natAbs ≤ 16384 * n := by
 induction n with
 | zero => simp [fourP]
 | succ n ih =>
   have h1 := mul_small (ha n) (powR_or (k * n))
   have h2 := mul_small (ha n) (powI_or (k * n))
   simp only [fourP]
   omega
def cxs (ps : List (Nat × Nat)) : List Value := ps.map fun p => .complex .f32 p.1 p.2
theorem cxs_length (ps : List (Nat × Nat)) : (cxs ps).length = ps.length := by simp [cxs]
theorem cxs_set (ps : List (Nat × Nat)) (k r i : Nat) : (cxs ps).set k (.complex .f32 r i) = cxs (ps.set k (r, i)) := by simp [cxs, List.map_set]
theorem cxs_one (ps : List (Nat × Nat)) : ∀ v ∈ cxs ps, v.oneCell' = true := by
 intro v hv
 simp [cxs] at hv
 obtain ⟨x, y, _, rfl⟩ := hv
 rfl
def PaN (a : List Int) (k n j : Nat) : Int × Int := if j < k then fourP a j 4 else if j = k then fourP a k n else (0, 0)
def Pa (a : List Int) (k n : Nat) (ps : List (Nat × Nat)) : Prop := ps.length = 4 ∧ ∀ j (h : j < ps.length), S ps[j].1 (PaN a k n j).1 ∧ S ps[j].2 (PaN a k n j).2
theorem Pa.start (a : List Int) : Pa a 0 0 [(0, 0), (0, 0), (0, 0), (0, 0)] := by
 refine ⟨rfl, fun j h => ?_⟩
 have hz : PaN a 0 0 j = (0, 0) := by unfold PaN fourP; simp
 rw [hz]
 have : [((0 : Nat), (0 : Nat)), (0, 0), (0, 0), (0, 0)][j] = (0, 0) := by
  have h4 : j < 4 := h
  match j, h4 with
  | 0, _ => rfl
  | 1, _ => rfl
  | 2, _ => rfl
  | 3, _ => rfl
 rw [this]; exact ⟨S.zero, S.zero⟩
theorem Pa.next {a : List Int} {k : Nat} {ps : List (Nat × Nat)} (h : Pa a k 4 ps) : Pa a (k + 1) 0 ps := by
 refine ⟨h.1, fun j hj => ?_⟩
 have e : PaN a (k + 1) 0 j = PaN a k 4 j := by
  unfold PaN
  by_cases h1 : j < k
  · have : j < k + 1 := by omega
    simp [h1, this]
  · by_cases h2 : j = k
    · subst h2; simp
    · have h3 : ¬ j < k + 1 := by omega
      simp only [h1, h2, h3, if_false]
      by_cases h4 : j = k + 1 <;> simp [h4, fourP]
 rw [e]; exact h.2 j hj
theorem Pa.at {a : List Int} {k n : Nat} {ps : List (Nat × Nat)} (h : Pa a k n ps) (hk : k < 4) : ∃ r i, (cxs ps)[k]? = some (.complex .f32 r i) ∧ S r (fourP a k n).1 ∧ S i (fourP a k n).2 := by
 have hk' : k < ps.length := by rw [h.1]; exact hk
 obtain ⟨h1, h2⟩ := h.2 k hk'
 have e : PaN a k n k = fourP a k n := by unfold PaN; simp
 rw [e] at h1 h2
 exact ⟨ps[k].1, ps[k].2, by simp [cxs, hk'], h1, h2⟩
theorem Pa.step {a : List Int} {k n : Nat} {ps : List (Nat × Nat)} (h : Pa a k n ps) (hk : k < 4) {r i : Nat} (h1 : S r (fourP a k (n + 1)).1) (h2 : S i (fourP a k (n + 1)).2) : Pa a k (n + 1) (ps.set k (r, i)) := by
 refine ⟨by simpa using h.1, fun j hj => ?_⟩
 rw [List.getElem_set]
 by_cases hjk : k = j
 · subst hjk
   have e : PaN a k (n + 1) k = fourP a k (n + 1) := by unfold PaN; simp
   rw [if_pos rfl, e]; exact ⟨h1, h2⟩
 · rw [if_neg hjk]
   have e : PaN a k (n + 1) j = PaN a k n j := by unfold PaN; have : ¬ j = k := fun x => hjk x.symm; simp [this]
   rw [e]; exact h.2 j (by simpa using hj)
theorem info147 : (Tryz.prog.info? 31).map (·.size) = some 4 := by kernel_rfl
theorem info150 : (Tryz.prog.info? 28).map (·.size) = some 4 := by kernel_rfl
theorem Pw.set {w : World} (h : Pw w) {p : Addr} (hp : p.block ≠ 0) (u : Value) : Pw (w.setCell p u) := fun j v hv => (World.cell?_setCell_other w p _ u (fun e => hp (by rw [e]))).trans (h j v hv)
theorem keepF {wr w1 w2 : World} {p k : Nat} {t : TypeId} {vs : List Value} {v : Value} (hv : vs[k]? = some v)
 (h : w1.cell? ⟨p, k, none⟩ = some v ∧ w1.frozen? ⟨p, k, none⟩ = false ∧ Row w1 p t vs ∧ Below wr.heap.size wr w1 ∧ Pw w1) (hb : Below w1.heap.size w1 w2) :
 w2.cell? ⟨p, k, none⟩ = some v ∧ w2.frozen? ⟨p, k, none⟩ = false ∧ Row w2 p t vs ∧ Below wr.heap.size wr w2 ∧ Pw w2 := by
 obtain ⟨_, _, hr, hbb, hp⟩ := h
 have hr2 := hr.old hb
 exact ⟨by rw [hr2.cell]; exact hv, hr2.free k, hr2, hbb.trans (hb.mono hbb.size), hp.old hb⟩
theorem toF {wr : World} {p k : Nat} {t : TypeId} {vs : List Value} {v : Value} (hv : vs[k]? = some v) (hr : Row wr p t vs) (hp : Pw wr) :
 wr.cell? ⟨p, k, none⟩ = some v ∧ wr.frozen? ⟨p, k, none⟩ = false ∧ Row wr p t vs ∧ Below wr.heap.size wr wr ∧ Pw wr :=
 ⟨by rw [hr.cell]; exact hv, hr.free k, hr, Below.refl _ _, hp⟩
theorem index_four (x0 x1 x2 x3 : Nat) (n x : Nat) (hn : n < 4) (hx : [x0, x1, x2, x3][n]? = some x) (w : World) :
 (Instr.index 28 (.agg #[.float .f32 x0, .float .f32 x1, .float .f32 x2, .float .f32 x3]) (.int .i64 (n : Int))).run Tryz.prog w = .ok (.float .f32 x) w := by
 rcases (show n = 0 ∨ n = 1 ∨ n = 2 ∨ n = 3 by omega) with rfl | rfl | rfl | rfl
 all_goals (simp at hx; subst hx; kernel_rfl)
theorem four_run (a : List Int) (k n : Nat) (x r i : Nat) (ha : ∀ j, (a.getD j 0).natAbs ≤ 16384) (hn : n < 4) (hx : S x (a.getD n 0)) (hr : S r (fourP a k n).1) (hi : S i (fourP a k n).2) :
 ∃ r1 i1 r2 i2, (∀ w, (binOp .mul 30 (.complex .f32 x 0) (.complex .f32 (pb (powR (k * n))) (pb (powI (k * n))))).run Tryz.prog w = .ok (.complex .f32 r1 i1) w) ∧
   (∀ w, (binOp .add 30 (.complex .f32 r i) (.complex .f32 r1 i1)).run Tryz.prog w = .ok (.complex .f32 r2 i2) w) ∧ S r2 (fourP a k (n + 1)).1 ∧ S i2 (fourP a k (n + 1)).2 := by
 have p1 := powR_or (k * n)
 have p2 := powI_or (k * n)
 have b1 := mul_small (ha n) p1
 have b2 := mul_small (ha n) p2
 obtain ⟨r1, i1, s1, s2, hm⟩ := cmul (P := Tryz.prog) 30 hx S.zero (pb_spec _ p1) (pb_spec _ p2) (by omega) (by simp) (by omega) (by simp)
 have bd := fourP_bd a k (n + 1) ha
 have e1 : (fourP a k n).1 + (a.getD n 0 * powR (k * n) - 0 * powI (k * n)) = (fourP a k (n + 1)).1 := by simp [fourP]
 have e2 : (fourP a k n).2 + (a.getD n 0 * powI (k * n) + 0 * powR (k * n)) = (fourP a k (n + 1)).2 := by simp [fourP]
 obtain ⟨r2, i2, t1, t2, hs⟩ := cadd (P := Tryz.prog) 30 hr hi s1 s2 (by rw [e1]; omega) (by rw [e2]; omega)
 rw [e1] at t1; rw [e2] at t2
 exact ⟨r1, i1, r2, i2, hm, hs, t1, t2⟩
set_option maxRecDepth 100000 in
set_option maxHeartbeats 4000000 in
theorem four_ok (x0 x1 x2 x3 : Nat) (a : List Int) (w : World) (hw : Pw w) (ha : ∀ j, (a.getD j 0).natAbs ≤ 16384) (hS : ∀ j (h : j < [x0, x1, x2, x3].length), S [x0, x1, x2, x3][j] (a.getD j 0)) (h0 : sampsI [x0, x1, x2, x3] = 0) :
 Calls Tryz.prog 9 #[.agg #[.float .f32 x0, .float .f32 x1, .float .f32 x2, .float .f32 x3]] w fun e w' => ∃ ps, e = .returned (.tuple #[.agg (cxs ps).toArray, .int .i64 0]) ∧ Pa a 4 0 ps ∧ Below w.heap.size w w' := by
 have hg : 0 < w.heap.size := World.block_lt_of_cell? w _ (hw.at 0 1 rfl)
 have Hg := Lib.hid hg; clear hg
 have Hw := Lib.hid hw; have Ha := Lib.hid ha; have HS := Lib.hid hS; have H0 := Lib.hid h0
 clear hw ha hS h0
 go_enter Tryz.func9, Tryz.ntmps9
 go_wp2_with fail
 refine (checkSamples_any _ _ _ [x0, x1, x2, x3] _ ?_ rfl).mono ?_
 · exact Rd.below (Rd.new w (flts [x0, x1, x2, x3]).toArray 28 _ rfl) ((Below.refl _ _).alloc (Nat.le_refl _) _)
 rintro e w1 ⟨rfl, hb1⟩
 rw [H0.out]
 have hl : Row w1 w.heap.size 28 (flts [x0, x1, x2, x3]) := Row.old ((Row.new w 28 (flts [x0, x1, x2, x3])).alloc _) hb1
 have hres : Row w1 (w.heap.size + 1) 31 (cxs [(0, 0), (0, 0), (0, 0), (0, 0)]) := by
  have h := Row.new (w.alloc (.cells (flts [x0, x1, x2, x3]).toArray 28)) 31 (cxs [(0, 0), (0, 0), (0, 0), (0, 0)])
  rw [World.size_alloc] at h
  exact h.old hb1
 have hb0 : Below w.heap.size w w1 := (((Below.refl w.heap.size w).alloc (Nat.le_refl _) _).alloc (by simp) _).trans (hb1.mono (by simp; omega))
 have hp1 : Pw w1 := Hw.out.old hb0
 have hs1 : w.heap.size + 2 ≤ w1.heap.size := by have := hb1.size; simp at this; omega
 have Hl := Lib.hid hl; have Hres := Lib.hid hres; have Hb0 := Lib.hid hb0; have Hp1 := Lib.hid hp1
 clear hl hres hb0 hp1 hb1
 go_wp2
 go_loopw [15] (fun i wr => ∃ (k : Nat) (ps : List (Nat × Nat)), k ≤ 4 ∧ i = .int .i64 k ∧ Hid (Pa a k 0 ps) ∧ Row wr w1.heap.size 31 (cxs ps) ∧ Hid (Row wr w.heap.size 28 (flts [x0, x1, x2, x3])) ∧ Hid (Row wr (w.heap.size + 1) 31 (cxs [(0, 0), (0, 0), (0, 0), (0, 0)])) ∧ Hid (Pw wr) ∧ Hid (Below w.heap.size w wr)) (fun i _ => 4 - (intOf i).toNat)
 case atStart => exact ⟨0, _, Nat.zero_le _, rfl, Pa.start a, Row.new w1 31 (cxs [(0, 0), (0, 0), (0, 0), (0, 0)]), Hl.out.alloc _, Hres.out.alloc _, Hp1.out.old ((Below.refl _ _).alloc (Nat.le_refl _) _), Hb0.out.alloc (by omega) _⟩
 case round =>
  obtain ⟨k, ps, hk, rfl, hpa, hrow, hl, hres, hp, hb⟩ := hrel
  by_cases hlt : k < 4
  · have hl4 : Hid (wr.heap[w.heap.size]? = some (.cells #[.float .f32 x0, .float .f32 x1, .float .f32 x2, .float .f32 x3] 28 (0, 0))) := hl.out
    have Hrow := Lib.hid hrow
    clear hrow
    go_wp2_with (refine wpList_load_row rfl 28 _ rfl w.heap.size rfl 28 #[.float .f32 x0, .float .f32 x1, .float .f32 x2, .float .f32 x3] (0, 0) _ hl4.out Tryz.underlying28 rfl ?_ ?_; (rw [info150]; rfl))
    go_loopw [19] (fun i wn => ∃ (n : Nat) (qs : List (Nat × Nat)), n ≤ 4 ∧ i = .int .i64 n ∧ Hid (Pa a k n qs) ∧ Row wn w1.heap.size 31 (cxs qs) ∧ Hid (Row wn w.heap.size 28 (flts [x0, x1, x2, x3])) ∧ Hid (Row wn (w.heap.size + 1) 31 (cxs [(0, 0), (0, 0), (0, 0), (0, 0)])) ∧ Hid (Pw wn) ∧ Hid (Below w.heap.size w wn)) (fun i _ => 4 - (intOf i).toNat)
    case atStart => exact ⟨0, ps, Nat.zero_le _, rfl, hpa, Hrow.out, hl, hres, hp, hb⟩
    case round =>
     clear hl hres hp hb hpa Hrow hl4
     obtain ⟨n, qs, hn, rfl, hpa, hrow, hl, hres, hp, hb⟩ := hrel
     by_cases hlt2 : n < 4
     · obtain ⟨r, i, hv, sr, si⟩ := hpa.out.at hlt
       obtain ⟨z, hz⟩ : ∃ z, z = k * n := ⟨_, rfl⟩
       have hzi : (k : Int) * (n : Int) = (z : Int) := by rw [hz, Int.natCast_mul]
       have hzb : z < 1000000 := by
        have := Nat.mul_le_mul (show k ≤ 4 by omega) (show n ≤ 4 by omega); omega
       obtain ⟨x, hx, hxs⟩ : ∃ x, [x0, x1, x2, x3][n]? = some x ∧ S x (a.getD n 0) := by
        have h4 : n < [x0, x1, x2, x3].length := hlt2
        exact ⟨_, List.getElem?_eq_getElem h4, HS.out n h4⟩
       obtain ⟨r1, i1, r2, i2, hm, hs, s1, s2⟩ := four_run a k n x r i Ha.out hlt2 hxs sr si
       rw [← hz] at hm
       have hwr : IntKind.i64.wrap ((k : Int) * (n : Int)) = (z : Int) := by rw [hzi]; exact IntWalk.i64_in _ (by omega)
       clear hzi
       have Hzb := Lib.hid hzb
       clear hzb
       have hix := fun W => index_four x0 x1 x2 x3 n x hlt2 hx W
       have Hst := Lib.hid (hpa.out.step hlt s1 s2)
       have hset := Lib.hid (cxs_set qs k r2 i2)
       have Hv := Lib.hid hv
       clear sr si hxs s1 s2 hz hx hv
       have hS0 := toF (k := k) Hv.out hrow hp.out
       have hc := hS0.1
       have hf := hS0.2.1
       have Hrow := Lib.hid hrow
       have Hcall : Hid (Calls Tryz.prog 43 #[.int .i64 z] wr.drew fun e w' => e = .returned (.complex .f32 (pb (powR z)) (pb (powI z))) ∧ w'.cell? ⟨w1.heap.size, k, none⟩ = some (.complex .f32 r i) ∧ w'.frozen? ⟨w1.heap.size, k, none⟩ = false ∧ Hid (Row w' w1.heap.size 31 (cxs qs)) ∧ Hid (Below wr.heap.size wr w')) := by
        refine (power_any z wr.drew hp.out Hzb.out).mono ?_
        rintro e w' ⟨rfl, hb1⟩
        have h2 := keepF Hv.out hS0 ((Below.refl _ wr).drew.trans hb1)
        exact ⟨rfl, h2.1, h2.2.1, h2.2.2.1, h2.2.2.2.1⟩
       clear hrow hS0
       go_wp2
       go_region_with ((go_at_call 43; refine Hcall.out.mono ?_; rintro e w' ⟨rfl, hc', hf', hr', hb'⟩))
       all_goals go_wp2
       all_goals go_roundw
       all_goals first | (exact ⟨n + 1, qs.set k (r2, i2), by omega, by go_num, Hst.out, by rw [← hset.out]; exact hr'.out.set k _, (hl.out.old hb'.out).far (by simp; omega) _, (hres.out.old hb'.out).far (by simp; omega) _, (hp.out.old hb'.out).set (Nat.ne_of_gt (by have := Hg.out; show _ < w1.heap.size; omega)) _, (hb.out.trans (hb'.out.mono hb.out.size)).setCell (by simp; omega) _⟩) | (simp [intOf]; omega)
     · obtain rfl : n = 4 := by omega
       have Hrow := Lib.hid hrow
       clear hrow
       go_wp2
       go_roundw
       case rel => exact ⟨k + 1, qs, by omega, by go_num, hpa.out.next, Hrow.out, hl, hres, hp, hb⟩
       case measure => simp [intOf]; omega
  · obtain rfl : k = 4 := by omega
    have hlen : ps.length = 4 := hpa.out.1
    obtain ⟨vs, hvs⟩ : ∃ vs, vs = cxs ps := ⟨_, rfl⟩
    have h1 : ∀ v ∈ vs, v.oneCell' = true := by rw [hvs]; exact cxs_one ps
    have hvl : vs.length = 4 := by rw [hvs, cxs_length, hlen]
    rw [← hvs] at hrow
    have Hrow := Lib.hid hrow; have H1 := Lib.hid h1; have Hvl := Lib.hid hvl; have Hvs := Lib.hid hvs
    clear hrow h1 hvl hlen hvs
    go_wp2_with (first | (refine wpList_load_row rfl 31 _ rfl w1.heap.size rfl 31 vs.toArray (0, 0) _ Hrow.out Tryz.underlying31 rfl ?_ ?_; (rw [info147]; simp [Hvl.out])) | (refine wpList_store_row rfl 31 _ _ rfl (w.heap.size + 1) vs.toArray rfl rfl 31 _ hres.out ?_ ?_ ?_ ?_; (rw [info147]; simp [Hvl.out]); (simp [Hvl.out, cxs]); (simpa using H1.out)))
    refine bodyPost_ret (results_row_tmp rfl _ _ (w.heap.size + 1) 31 vs.toArray (0, 0) _ rfl (hres.out.setRow vs) Tryz.underlying31 rfl ?_) rfl ?_
    · rw [info147]; simp [Hvl.out]
    · exact ⟨ps, by rw [← Hvs.out]; rfl, hpa.out, Below.setRow hb.out (by simp) _⟩
theorem Rd.cx {w : World} {A : Option Addr} {ps : List (Nat × Nat)} (h : Rd w A (cxs ps)) {j : Nat} (hj : j < ps.length) : ∃ b off, A = some ⟨b, off, none⟩ ∧ w.cell? ⟨b, off + j, none⟩ = some (.complex .f32 ps[j].1 ps[j].2) := by
 obtain ⟨b, off, h1, h2⟩ := Rd.at h (j := j) (by simpa [cxs] using hj)
 exact ⟨b, off, h1, by rw [h2]; simp [cxs]⟩
def finE (r i : Nat) : Int := whenI (!finB r || !finB i) 1
def stpE (r i : Nat) : Int := whenI (!stepB r 65536 || !stepB i 65536) 3
set_option maxHeartbeats 400000 in
theorem panel1_any (r i : Nat) (w : World) : Calls Tryz.prog 109 #[.complex .f32 r i] w fun e w' => e = .returned (.int .i64 (finE r i)) ∧ Below w.heap.size w w' := by
 cases hr : finB r
 all_goals
  have Hr := Lib.hid hr; clear hr
  go_enter Tryz.func109, Tryz.ntmps109
  go_wp2_with (first | (go_at_call 110; refine (isFinite_any _ _).mono ?_; rintro e w' ⟨rfl, n, rfl⟩; try rw [Hr.out]) | (go_at_call 81; refine (failed_any _ _ _).mono ?_; rintro e w' ⟨rfl, rfl⟩))
  all_goals go_ret
  all_goals exact ⟨ret_int (by simp [finE, Hr.out]), by repeat (first | exact Below.refl _ _ | refine below_drewN ?_ _ | refine Below.drew ?_ | refine Below.alloc ?_ (by simp) _)⟩
set_option maxHeartbeats 400000 in
theorem panel2_any (r i : Nat) (w : World) : Calls Tryz.prog 111 #[.complex .f32 r i] w fun e w' => e = .returned (.int .i64 (stpE r i)) ∧ Below w.heap.size w w' := by
 cases hr : stepB r 65536
 all_goals
  have Hr := Lib.hid hr; clear hr
  go_enter Tryz.func111, Tryz.ntmps111
  go_wp2_with (first | (go_at_call 112; refine (isStepped_panel _ _).mono ?_; rintro e w' ⟨rfl, rfl⟩; try rw [Hr.out]) | (go_at_call 81; refine (failed_any _ _ _).mono ?_; rintro e w' ⟨rfl, rfl⟩))
  all_goals go_ret
  all_goals exact ⟨ret_int (by simp [stpE, Hr.out]), by repeat (first | exact Below.refl _ _ | refine below_drewN ?_ _ | refine Below.drew ?_ | refine Below.alloc ?_ (by simp) _)⟩
set_option maxRecDepth 100000 in
set_option maxHeartbeats 1000000 in
theorem mappedCx1_any (A : Option Addr) (n c : Nat) (ps : List (Nat × Nat)) (w : World) (hA : Rd w A (cxs ps)) (hn : n = ps.length) (hm : ps.length ≤ 4096) :
 Calls Tryz.prog 108 #[.slice A n c, .func (.func 109) #[] #[]] w fun e w' => ∃ g, e = .returned (.slice (some ⟨g, 0, none⟩) n n) ∧ Row w' g 32 (ints (ps.map fun p => finE p.1 p.2)) ∧ w.heap.size ≤ g ∧ Below w.heap.size w w' := by
 subst hn
 have hmk := fun W : World => make1 (P := Tryz.prog) 202 32 (.int .i64 0) 8 Tryz.underlying202 info27 rfl ps.length (by omega) (by omega) W
 obtain ⟨zs, hzs⟩ : ∃ zs, zs = ps.map fun p => finE p.1 p.2 := ⟨_, rfl⟩
 have hzl : zs.length = ps.length := by rw [hzs]; simp
 have HZ := Lib.hid hzs
 rw [← hzs]
 clear hzs
 go_enter Tryz.func108, Tryz.ntmps108
 go_wp2
 go_loopw [13] (fun i wr => ∃ k : Nat, k ≤ ps.length ∧ i = .int .i64 k ∧ Row wr w.heap.size 32 (ints (zs.take k) ++ List.replicate (ps.length - k) (.int .i64 0)) ∧ Below w.heap.size w wr) (fun i _ => ps.length - (intOf i).toNat)
 case atStart => exact ⟨0, Nat.zero_le _, rfl, by have := Row.new w 32 (List.replicate ps.length (.int .i64 0)); simpa [ints] using this, (Below.refl _ _).alloc (Nat.le_refl _) _⟩
 case round =>
  obtain ⟨k, hk, rfl, hrow, hb⟩ := hrel
  by_cases hlt : k < ps.length
  · obtain ⟨b, off, rfl, hc⟩ := Rd.cx (hA.below hb) hlt
    have hset := Lib.hid (part_set zs ps.length k (by omega) hzl.symm)
    have hfk : Hid (zs[k]'(by omega) = finE ps[k].1 ps[k].2) := by unfold Hid; simp [HZ.out]
    have Hrow := Lib.hid hrow
    have Hb := Lib.hid hb
    clear hrow hb
    go_wp2_with fail
    refine (panel1_any _ _ _).mono ?_
    rintro e w1 ⟨rfl, hb1⟩
    have Hrow1 := Lib.hid (Hrow.out.old hb1)
    have hc1 : w1.cell? ⟨w.heap.size, k, none⟩ = some (.int .i64 0) := by
     rw [Hrow1.out.cell]
     exact mid_get _ _ _ _ (by simp [ints]; omega) hlt
    have hf1 := Hrow1.out.free k
    have Hb1 := Lib.hid (Hb.out.trans (hb1.mono Hb.out.size))
    clear hb1
    go_wp2
    go_roundw
    case rel => exact ⟨k + 1, by omega, by go_num, by rw [← hset.out, hfk.out]; exact Hrow1.out.set k _, Hb1.out.setCell (by simp) _⟩
    case measure => simp [intOf]; omega
  · obtain rfl : k = ps.length := by omega
    go_wp2
    go_ret
    exact ⟨_, rfl, by rw [Nat.sub_self, List.replicate_zero, List.append_nil, List.take_of_length_le (by omega)] at hrow; exact hrow, Nat.le_refl _, hb⟩
set_option maxRecDepth 100000 in
set_option maxHeartbeats 1000000 in
theorem mappedCx2_any (A : Option Addr) (n c : Nat) (ps : List (Nat × Nat)) (w : World) (hA : Rd w A (cxs ps)) (hn : n = ps.length) (hm : ps.length ≤ 4096) :
 Calls Tryz.prog 108 #[.slice A n c, .func (.func 111) #[] #[]] w fun e w' => ∃ g, e = .returned (.slice (some ⟨g, 0, none⟩) n n) ∧ Row w' g 32 (ints (ps.map fun p => stpE p.1 p.2)) ∧ w.heap.size ≤ g ∧ Below w.heap.size w w' := by
 subst hn
 have hmk := fun W : World => make1 (P := Tryz.prog) 202 32 (.int .i64 0) 8 Tryz.underlying202 info27 rfl ps.length (by omega) (by omega) W
 obtain ⟨zs, hzs⟩ : ∃ zs, zs = ps.map fun p => stpE p.1 p.2 := ⟨_, rfl⟩
 have hzl : zs.length = ps.length := by rw [hzs]; simp
 have HZ := Lib.hid hzs
 rw [← hzs]
 clear hzs
 go_enter Tryz.func108, Tryz.ntmps108
 go_wp2
 go_loopw [13] (fun i wr => ∃ k : Nat, k ≤ ps.length ∧ i = .int .i64 k ∧ Row wr w.heap.size 32 (ints (zs.take k) ++ List.replicate (ps.length - k) (.int .i64 0)) ∧ Below w.heap.size w wr) (fun i _ => ps.length - (intOf i).toNat)
 case atStart => exact ⟨0, Nat.zero_le _, rfl, by have := Row.new w 32 (List.replicate ps.length (.int .i64 0)); simpa [ints] using this, (Below.refl _ _).alloc (Nat.le_refl _) _⟩
 case round =>
  obtain ⟨k, hk, rfl, hrow, hb⟩ := hrel
  by_cases hlt : k < ps.length
  · obtain ⟨b, off, rfl, hc⟩ := Rd.cx (hA.below hb) hlt
    have hset := Lib.hid (part_set zs ps.length k (by omega) hzl.symm)
    have hfk : Hid (zs[k]'(by omega) = stpE ps[k].1 ps[k].2) := by unfold Hid; simp [HZ.out]
    have Hrow := Lib.hid hrow
    have Hb := Lib.hid hb
    clear hrow hb
    go_wp2_with fail
    refine (panel2_any _ _ _).mono ?_
    rintro e w1 ⟨rfl, hb1⟩
    have Hrow1 := Lib.hid (Hrow.out.old hb1)
    have hc1 : w1.cell? ⟨w.heap.size, k, none⟩ = some (.int .i64 0) := by
     rw [Hrow1.out.cell]
     exact mid_get _ _ _ _ (by simp [ints]; omega) hlt
    have hf1 := Hrow1.out.free k
    have Hb1 := Lib.hid (Hb.out.trans (hb1.mono Hb.out.size))
    clear hb1
    go_wp2
    go_roundw
    case rel => exact ⟨k + 1, by omega, by go_num, by rw [← hset.out, hfk.out]; exact Hrow1.out.set k _, Hb1.out.setCell (by simp) _⟩
    case measure => simp [intOf]; omega
  · obtain rfl : k = ps.length := by omega
    go_wp2
    go_ret
    exact ⟨_, rfl, by rw [Nat.sub_self, List.replicate_zero, List.append_nil, List.take_of_length_le (by omega)] at hrow; exact hrow, Nat.le_refl _, hb⟩
def okCx (ps : List (Nat × Nat)) : Prop := ∀ p ∈ ps, ∃ a b : Int, S p.1 a ∧ S p.2 b ∧ a.natAbs ≤ 65536 ∧ b.natAbs ≤ 65536
theorem fin_of {x : Nat} {a : Int} (h : S x a) : finB x = true := by
 unfold finB; rw [V32_of h]; rfl
theorem stp_of {x : Nat} {a : Int} {M : Nat} (h : S x a) (hb : a.natAbs ≤ M) : stepB x M = true := by
 unfold stepB
 rw [V32_of h]
 have h1 : (a * (2 ^ 145 : Nat)).natAbs ≤ M * 2 ^ 145 := by
  rw [natAbs_mul_pow]; exact Nat.mul_le_mul_right _ hb
 simp only [cutI_mul, decide_true, Bool.and_true, decide_eq_true_eq]
 exact h1
theorem firstI_zero {zs : List Int} (h : ∀ z ∈ zs, z = 0) : firstI zs = 0 := by
 induction zs with
 | nil => rfl
 | cons z zs ih => rw [firstI, if_pos (h z (by simp))]; exact ih fun y hy => h y (by simp [hy])
theorem okCx_fin {ps : List (Nat × Nat)} (h : okCx ps) : firstI (ps.map fun p => finE p.1 p.2) = 0 := firstI_zero (by
 intro z hz
 simp only [List.mem_map] at hz
 obtain ⟨p, hp, rfl⟩ := hz
 obtain ⟨a, b, h1, h2, _, _⟩ := h p hp
 unfold finE; rw [fin_of h1, fin_of h2]; rfl)
theorem okCx_stp {ps : List (Nat × Nat)} (h : okCx ps) : firstI (ps.map fun p => stpE p.1 p.2) = 0 := firstI_zero (by
 intro z hz
 simp only [List.mem_map] at hz
 obtain ⟨p, hp, rfl⟩ := hz
 obtain ⟨a, b, h1, h2, h3, h4⟩ := h p hp
 unfold stpE; rw [stp_of h1 h3, stp_of h2 h4]; rfl)
set_option maxRecDepth 100000 in
set_option maxHeartbeats 1000000 in
theorem checkPanel_ok (r0 i0 r1 i1 r2 i2 r3 i3 : Nat) (w : World) (h : okCx [(r0, i0), (r1, i1), (r2, i2), (r3, i3)]) :
 Calls Tryz.prog 46 #[.agg #[.complex .f32 r0 i0, .complex .f32 r1 i1, .complex .f32 r2 i2, .complex .f32 r3 i3]] w fun e w' => e = .returned (.int .i64 0) ∧ Below w.heap.size w w' := by
 have H := Lib.hid h
 clear h
 have H1 := Lib.hid (okCx_fin H.out)
 have H2 := Lib.hid (okCx_stp H.out)
 go_enter Tryz.func46, Tryz.ntmps46
 have hr0 : Row (w.alloc (.cells #[.complex .f32 r0 i0, .complex .f32 r1 i1, .complex .f32 r2 i2, .complex .f32 r3 i3] 31)) w.heap.size 31 (cxs [(r0, i0), (r1, i1), (r2, i2), (r3, i3)]) := Row.new w 31 (cxs [(r0, i0), (r1, i1), (r2, i2), (r3, i3)])
 have Hr0 := Lib.hid hr0
 clear hr0
 go_wp2_with fail
 refine (mappedCx1_any _ _ _ [(r0, i0), (r1, i1), (r2, i2), (r3, i3)] _ (Rd.row Hr0.out) rfl (by simp)).mono ?_
 rintro e w1 ⟨g1, rfl, hrow1, hg1, hb1⟩
 have Hr1 := Lib.hid (Hr0.out.old hb1)
 have Hrow1 := Lib.hid hrow1
 have Hb1 := Lib.hid hb1
 clear hrow1 hb1
 go_wp2_with fail
 refine (mappedCx2_any _ _ _ [(r0, i0), (r1, i1), (r2, i2), (r3, i3)] _ (Rd.row Hr1.out) rfl (by simp)).mono ?_
 rintro e w2 ⟨g2, rfl, hrow2, hg2, hb2⟩
 have Hq1 := Lib.hid (Rd.row (Hrow1.out.old hb2))
 have Hq2 := Lib.hid (Rd.row hrow2)
 have Hb2 : Hid (Below w.heap.size w w2) := ((Below.refl w.heap.size w).alloc (Nat.le_refl _) _).trans ((Hb1.out.mono (by simp)).trans (hb2.mono (by have := Hb1.out.size; simp at this; omega)))
 clear hrow2 hb2
 go_wp2_with fail
 refine (firstV_any (some ⟨g1, 0, none⟩) _ _ (List.map (fun p => finE p.1 p.2) [(r0, i0), (r1, i1), (r2, i2), (r3, i3)]) _ Hq1.out rfl (by simp)).mono ?_
 rintro e w' ⟨rfl, rfl⟩
 rw [H1.out]
 go_wp2_with fail
 refine (firstV_any (some ⟨g2, 0, none⟩) _ _ (List.map (fun p => stpE p.1 p.2) [(r0, i0), (r1, i1), (r2, i2), (r3, i3)]) _ Hq2.out rfl (by simp)).mono ?_
 rintro e w' ⟨rfl, rfl⟩
 rw [H2.out]
 go_wp2_with fail
 refine (firstV_any _ _ _ [0, 0] _ (Rd.new _ _ _ _ rfl) rfl (by simp)).mono ?_
 rintro e w' ⟨rfl, rfl⟩
 go_wp2
 go_ret
 exact ⟨rfl, Below.alloc Hb2.out (by have := Hb2.out.size; omega) _⟩
def unP (a : List Int) (n : Nat) : Nat → Int × Int
 | 0 => (0, 0)
 | k + 1 => ((unP a n k).1 + ((fourP a k 4).1 * powR (3 * k * n) - (fourP a k 4).2 * powI (3 * k * n)), (unP a n k).2 + ((fourP a k 4).1 * powI (3 * k * n) + (fourP a k 4).2 * powR (3 * k * n)))
theorem unP_bd (a : List Int) (n k : Nat) (ha : ∀ j, (a.getD j 0).natAbs ≤ 16384) : (unP a n k).1.natAbs ≤ 131072 * k ∧ (unP a n k).2.natAbs ≤ 131072 * k := by
 induction k with
 | zero => simp [unP]
 | succ k ih =>
   have hb := fourP_bd a k 4 ha
   have h1 := mul_small (M := 65536) (by omega) (p := powR (3 * k * n)) (powR_or _) (x := (fourP a k 4).1)
   have h2 := mul_small (M := 65536) (by omega) (p := powI (3 * k * n)) (powI_or _) (x := (fourP a k 4).2)
   have h3 := mul_small (M := 65536) (by omega) (p := powI (3 * k * n)) (powI_or _) (x := (fourP a k 4).1)
   have h4 := mul_small (M := 65536) (by omega) (p := powR (3 * k * n)) (powR_or _) (x := (fourP a k 4).2)
   simp only [unP]
   omega
theorem unP_all (a : List Int) (n : Nat) (hn : n < 4) : (unP a n 4).1 = 4 * a.getD n 0 := by
 rcases (show n = 0 ∨ n = 1 ∨ n = 2 ∨ n = 3 by omega) with rfl | rfl | rfl | rfl
 all_goals
  simp [unP, fourP, powR, powI]
  omega
theorem index_panel (r0 i0 r1 i1 r2 i2 r3 i3 : Nat) (k r i : Nat) (hk : k < 4) (hx : [(r0, i0), (r1, i1), (r2, i2), (r3, i3)][k]? = some (r, i)) (w : World) :
 (Instr.index 31 (.agg #[.complex .f32 r0 i0, .complex .f32 r1 i1, .complex .f32 r2 i2, .complex .f32 r3 i3]) (.int .i64 (k : Int))).run Tryz.prog w = .ok (.complex .f32 r i) w := by
 rcases (show k = 0 ∨ k = 1 ∨ k = 2 ∨ k = 3 by omega) with rfl | rfl | rfl | rfl
 all_goals (simp at hx; obtain ⟨rfl, rfl⟩ := hx; kernel_rfl)
theorem unfour_run (a : List Int) (n k r i sr si z : Nat) (hz : z = 3 * k * n) (ha : ∀ j, (a.getD j 0).natAbs ≤ 16384) (hk : k < 4) (hr : S r (fourP a k 4).1) (hi : S i (fourP a k 4).2) (h1 : S sr (unP a n k).1) (h2 : S si (unP a n k).2) :
 ∃ r1 i1 r2 i2, (∀ w, (binOp .mul 30 (.complex .f32 r i) (.complex .f32 (pb (powR z)) (pb (powI z)))).run Tryz.prog w = .ok (.complex .f32 r1 i1) w) ∧
   (∀ w, (binOp .add 30 (.complex .f32 sr si) (.complex .f32 r1 i1)).run Tryz.prog w = .ok (.complex .f32 r2 i2) w) ∧ S r2 (unP a n (k + 1)).1 ∧ S i2 (unP a n (k + 1)).2 := by
 subst hz
 have p1 := powR_or (3 * k * n)
 have p2 := powI_or (3 * k * n)
 have hb := fourP_bd a k 4 ha
 have b1 := mul_small (M := 65536) (by omega) p1 (x := (fourP a k 4).1)
 have b2 := mul_small (M := 65536) (by omega) p2 (x := (fourP a k 4).2)
 have b3 := mul_small (M := 65536) (by omega) p2 (x := (fourP a k 4).1)
 have b4 := mul_small (M := 65536) (by omega) p1 (x := (fourP a k 4).2)
 obtain ⟨r1, i1, s1, s2, hm⟩ := cmul (P := Tryz.prog) 30 hr hi (pb_spec _ p1) (pb_spec _ p2) (by omega) (by omega) (by omega) (by omega)
 have bd := unP_bd a n (k + 1) ha
 obtain ⟨r2, i2, t1, t2, hs⟩ := cadd (P := Tryz.prog) 30 h1 h2 s1 s2 (by have := bd.1; simp only [unP] at this; omega) (by have := bd.2; simp only [unP] at this; omega)
 exact ⟨r1, i1, r2, i2, hm, hs, t1, t2⟩
def UnQ (a : List Int) (n : Nat) (ys : List Nat) : Prop := ys.length = 4 ∧ ∀ j (h : j < ys.length), S ys[j] (if j < n then a.getD j 0 else 0)
theorem UnQ.start (a : List Int) : UnQ a 0 [0, 0, 0, 0] := by
 refine ⟨rfl, fun j h => ?_⟩
 have h4 : j < 4 := h
 have : [0, 0, 0, 0][j] = 0 := by
  rcases (show j = 0 ∨ j = 1 ∨ j = 2 ∨ j = 3 by omega) with rfl | rfl | rfl | rfl <;> rfl
 rw [this]; simpa using S.zero
theorem UnQ.step {a : List Int} {n : Nat} {ys : List Nat} (h : UnQ a n ys) {y : Nat} (hy : S y (a.getD n 0)) : UnQ a (n + 1) (ys.set n y) := by
 refine ⟨by simpa using h.1, fun j hj => ?_⟩
 rw [List.getElem_set]
 by_cases hjn : n = j
 · subst hjn; simpa using hy
 · rw [if_neg hjn]
   have e : (j < n + 1) = (j < n) := by apply propext; omega
   simp only [e]
   exact h.2 j (by simpa using hj)
theorem flts_set (ys : List Nat) (n y : Nat) : (flts ys).set n (.float .f32 y) = flts (ys.set n y) := by simp [flts, List.map_set]
def cEq : Value → Value → Bool
 | .complex _ a b, .complex _ c d => (FloatKind.f32.format.order a c == some .eq) && (FloatKind.f32.format.order b d == some .eq)
 | _, _ => false
theorem isAgg146 (w : World) : (isAgg 30).run Tryz.prog w = .ok false w := by kernel_rfl
theorem info146 : (Tryz.prog.info? 30).map (fun i => (i.zero, i.size, i.bytes)) = some (some (.complex .f32 0 0), 1, 8) := by kernel_rfl
theorem all2_cEq : ∀ (ps qs : List (Nat × Nat)), ps.length = qs.length → (∀ j (h : j < ps.length) (h2 : j < qs.length), (∃ n m, S ps[j].1 n ∧ S qs[j].1 n ∧ S ps[j].2 m ∧ S qs[j].2 m)) → all2 cEq (cxs ps) (cxs qs) = true
 | [], [], _, _ => rfl
 | p :: ps, q :: qs, hl, h => by
   have ih := all2_cEq ps qs (by simpa using hl) (fun j h1 h2 => h (j + 1) (by simpa using h1) (by simpa using h2))
   obtain ⟨n, m, h1, h2, h3, h4⟩ := h 0 (by simp) (by simp)
   simp only [List.getElem_cons_zero] at h1 h2 h3 h4
   simp only [cxs, List.map_cons, all2, cEq] at ih ⊢
   rw [ih]
   have e1 : (FloatKind.f32.format.order p.1 q.1 == some .eq) = true := (order_eq_iff h1 h2).trans (by simp)
   have e2 : (FloatKind.f32.format.order p.2 q.2 == some .eq) = true := (order_eq_iff h3 h4).trans (by simp)
   rw [e1, e2]; rfl
theorem cxs_getD (ps : List (Nat × Nat)) (i : Nat) (h : i < (cxs ps).length) : (cxs ps).getD i undef = .complex .f32 (ps.getD i (0, 0)).1 (ps.getD i (0, 0)).2 := by
 have h2 : i < ps.length := by simpa [cxs] using h
 simp [cxs, h2]
theorem neqCx (ps qs : List (Nat × Nat)) (hp : ps.length = 4) (hq : qs.length = 4) (h : all2 cEq (cxs ps) (cxs qs) = true) (w : World) :
 (binOp .neq 31 (.agg (cxs ps).toArray) (.agg (cxs qs).toArray)).run Tryz.prog w = .ok (.bool false) w := by
 obtain ⟨i, hi, _⟩ := info_parts info146
 have hE : (Op.equalIn (9998 + 2) 31 (.agg (cxs ps).toArray) (.agg (cxs qs).toArray)).run Tryz.prog w = .ok true w := by
  rw [run_eqArray w 9999 31 30 4 i cEq (cxs ps) (cxs qs) Tryz.underlying31 hi (by kernel_rfl) (part_scalar w _ isAgg146) ?_ (by simpa [cxs] using hp) (by simpa [cxs] using hq), h]
  intro j hj
  have hj2 : j < (cxs qs).length := by simp [cxs] at hj ⊢; omega
  rw [cxs_getD ps j hj, cxs_getD qs j hj2, run_equalIn_complex w 9998 _ .f32 .f32 _ _ _ _ Tryz.underlying30]
  rfl
 have h2 : (Op.equal 31 (.agg (cxs ps).toArray) (.agg (cxs qs).toArray)).run Tryz.prog w = .ok true w := hE
 simp only [binOp]
 simp [h2]
theorem quarter_run (x y : Nat) (h : Ieee.single.div x b4 = some y) (w : World) : (binOp .quo 27 (.float .f32 x) (.float .f32 1082130432)).run Tryz.prog w = .ok (.float .f32 y) w :=
 run_float_arith w .quo _ .f32 _ _ _ h
theorem sampsI_ok {ys : List Nat} {a : List Int} (hl : ys.length ≤ 4096) (h : ∀ j (hj : j < ys.length), S ys[j] (a.getD j 0)) (ha : ∀ j, (a.getD j 0).natAbs ≤ 16384) : sampsI ys = 0 := by
 unfold sampsI
 rw [if_neg (by omega)]
 refine firstI_zero ?_
 intro z hz
 simp only [List.mem_map] at hz
 obtain ⟨y, hy, rfl⟩ := hz
 obtain ⟨j, hj, rfl⟩ := List.getElem_of_mem hy
 unfold sampI gradeB
 rw [fin_of (h j hj), stp_of (h j hj) (ha j)]; rfl
theorem gen_world {p : World → Prop} {w0 w : World} (g0 g1 g2 g3 : Nat) (t s : TypeId) (us vs zs ys : List Value) (h0 : Row w g0 t us) (h1 : Row w g1 t vs) (h2 : Row w g2 s zs) (h3 : Row w g3 s ys) (hb : Below w0.heap.size w0 w)
 (h : ∀ w3, Row w3 g0 t us → Row w3 g1 t vs → Row w3 g2 s zs → Row w3 g3 s ys → Below w0.heap.size w0 w3 → p w3) : p w := h w h0 h1 h2 h3 hb
set_option maxRecDepth 100000 in
set_option maxHeartbeats 1000000 in
theorem unfour_ok (r0 i0 r1 i1 r2 i2 r3 i3 : Nat) (a : List Int) (w : World) (hw : Pw w) (ha : ∀ j, (a.getD j 0).natAbs ≤ 16384)
 (hS : ∀ j (h : j < [(r0, i0), (r1, i1), (r2, i2), (r3, i3)].length), S [(r0, i0), (r1, i1), (r2, i2), (r3, i3)][j].1 (fourP a j 4).1 ∧ S [(r0, i0), (r1, i1), (r2, i2), (r3, i3)][j].2 (fourP a j 4).2) :
 Calls Tryz.prog 11 #[.agg #[.complex .f32 r0 i0, .complex .f32 r1 i1, .complex .f32 r2 i2, .complex .f32 r3 i3]] w fun e w' => ∃ ys, e = .returned (.tuple #[.agg (flts ys).toArray, .int .i64 0]) ∧ UnQ a 4 ys ∧ Below w.heap.size w w' := by
 have hg : 0 < w.heap.size := World.block_lt_of_cell? w _ (hw.at 0 1 rfl)
 have Hg := Lib.hid hg; clear hg
 have Hw := Lib.hid hw; have Ha := Lib.hid ha; have HS := Lib.hid hS
 clear hw ha hS
 have Hok : Hid (okCx [(r0, i0), (r1, i1), (r2, i2), (r3, i3)]) := by
  intro p hp
  obtain ⟨j, hj, rfl⟩ := List.getElem_of_mem hp
  obtain ⟨h1, h2⟩ := HS.out j hj
  have hb := fourP_bd a j 4 Ha.out
  exact ⟨_, _, h1, h2, by omega, by omega⟩
 go_enter Tryz.func11, Tryz.ntmps11
 have hr0 : Row (w.alloc (.cells #[.complex .f32 r0 i0, .complex .f32 r1 i1, .complex .f32 r2 i2, .complex .f32 r3 i3] 31)) w.heap.size 31 (cxs [(r0, i0), (r1, i1), (r2, i2), (r3, i3)]) := Row.new w 31 (cxs [(r0, i0), (r1, i1), (r2, i2), (r3, i3)])
 have Hr0 := Lib.hid hr0
 clear hr0
 go_wp2_with (first | (go_at_call 46; refine (checkPanel_ok _ _ _ _ _ _ _ _ _ Hok.out).mono ?_; rintro e w1 ⟨rfl, hb1⟩))
 have hr1 : Row w1 w.heap.size 31 (cxs [(r0, i0), (r1, i1), (r2, i2), (r3, i3)]) := (Hr0.out.alloc _).old hb1
 have hres : Row w1 (w.heap.size + 1) 28 (flts [0, 0, 0, 0]) := by
  have h := Row.new (w.alloc (.cells (cxs [(r0, i0), (r1, i1), (r2, i2), (r3, i3)]).toArray 31)) 28 (flts [0, 0, 0, 0])
  rw [World.size_alloc] at h
  exact h.old hb1
 have hb0 : Below w.heap.size w w1 := (((Below.refl w.heap.size w).alloc (Nat.le_refl _) _).alloc (by simp) _).trans (hb1.mono (by simp; omega))
 have hp1 : Pw w1 := Hw.out.old hb0
 have hs1 : w.heap.size + 2 ≤ w1.heap.size := by have := hb1.size; simp at this; omega
 have Hl := Lib.hid hr1; have Hres := Lib.hid hres; have Hb0 := Lib.hid hb0; have Hp1 := Lib.hid hp1
 clear hr1 hres hb0 hp1 hb1 Hr0
 go_loopw [18] (fun i wr => ∃ (n : Nat) (ys : List Nat), n ≤ 4 ∧ i = .int .i64 n ∧ Hid (UnQ a n ys) ∧ Hid (Row wr w1.heap.size 28 (flts ys)) ∧ Hid (Row wr w.heap.size 31 (cxs [(r0, i0), (r1, i1), (r2, i2), (r3, i3)])) ∧ Hid (Row wr (w.heap.size + 1) 28 (flts [0, 0, 0, 0])) ∧ Hid (Pw wr) ∧ Hid (Below w.heap.size w wr)) (fun i _ => 4 - (intOf i).toNat)
 case atStart => exact ⟨0, _, Nat.zero_le _, rfl, UnQ.start a, Row.new w1 28 (flts [0, 0, 0, 0]), Hl.out.alloc _, Hres.out.alloc _, Hp1.out.old ((Below.refl _ _).alloc (Nat.le_refl _) _), Hb0.out.alloc (by omega) _⟩
 case round =>
  obtain ⟨n, ys, hn, rfl, hq, hrow, hl, hres, hp, hb⟩ := hrel
  by_cases hlt : n < 4
  · have hl4 : Hid (wr.heap[w.heap.size]? = some (.cells #[.complex .f32 r0 i0, .complex .f32 r1 i1, .complex .f32 r2 i2, .complex .f32 r3 i3] 31 (0, 0))) := hl.out
    go_wp2_with (refine wpList_load_row rfl 31 _ rfl w.heap.size rfl 31 #[.complex .f32 r0 i0, .complex .f32 r1 i1, .complex .f32 r2 i2, .complex .f32 r3 i3] (0, 0) _ hl4.out Tryz.underlying31 rfl ?_ ?_; (rw [info147]; rfl))
    clear hl4
    go_loopw [22, 7] (fun i s wn => ∃ (k sr si : Nat), k ≤ 4 ∧ i = .int .i64 k ∧ s = .complex .f32 sr si ∧ Hid (S sr (unP a n k).1) ∧ Hid (S si (unP a n k).2) ∧ Hid (Row wn w1.heap.size 28 (flts ys)) ∧ Hid (Row wn w.heap.size 31 (cxs [(r0, i0), (r1, i1), (r2, i2), (r3, i3)])) ∧ Hid (Row wn (w.heap.size + 1) 28 (flts [0, 0, 0, 0])) ∧ Hid (Pw wn) ∧ Hid (Below w.heap.size w wn)) (fun i _ _ => 4 - (intOf i).toNat)
    case atStart => exact ⟨0, 0, 0, Nat.zero_le _, rfl, rfl, S.zero, S.zero, hrow, hl, hres, hp, hb⟩
    case round =>
     clear hl hres hp hb hrow
     obtain ⟨k, sr, si, hk, rfl, rfl, hsr, hsi, hrow, hl, hres, hp, hb⟩ := hrel
     by_cases hlt2 : k < 4
     · obtain ⟨z, hz⟩ : ∃ z, z = 3 * k * n := ⟨_, rfl⟩
       obtain ⟨y, hy⟩ : ∃ y, y = 3 * k := ⟨_, rfl⟩
       have hyi : (3 : Int) * (k : Int) = (y : Int) := by rw [hy]; omega
       have hyb : y ≤ 12 := by omega
       have hzi : (y : Int) * (n : Int) = (z : Int) := by rw [hz, ← hy, Int.natCast_mul]
       have hzb : z < 1000000 := by rw [hz, ← hy]; have := Nat.mul_le_mul (show y ≤ 12 by omega) (show n ≤ 4 by omega); omega
       obtain ⟨r, i, hx, sR, sI⟩ : ∃ r i, [(r0, i0), (r1, i1), (r2, i2), (r3, i3)][k]? = some (r, i) ∧ S r (fourP a k 4).1 ∧ S i (fourP a k 4).2 := by
        have h4 : k < [(r0, i0), (r1, i1), (r2, i2), (r3, i3)].length := hlt2
        exact ⟨_, _, List.getElem?_eq_getElem h4, HS.out k h4⟩
       obtain ⟨u1, v1, u2, v2, hm, hs, s1, s2⟩ := unfour_run a n k r i sr si z hz Ha.out hlt2 sR sI hsr.out hsi.out
       have hix := fun W => index_panel r0 i0 r1 i1 r2 i2 r3 i3 k r i hlt2 hx W
       have S1 := Lib.hid s1; have S2 := Lib.hid s2
       clear s1 s2 sR sI hx hz hy
       have Hzb := Lib.hid hzb
       go_wp2_with (first | (go_at_call 43; refine (power_any z _ hp.out Hzb.out).mono ?_; rintro e w2 ⟨rfl, hb2⟩))
       go_roundw
       case rel => exact ⟨k + 1, u2, v2, by omega, by go_num, rfl, S1, S2, hrow.out.old hb2, hl.out.old hb2, hres.out.old hb2, hp.out.old hb2, hb.out.trans (hb2.mono hb.out.size)⟩
       case measure => simp [intOf]; omega
     · obtain rfl : k = 4 := by omega
       have hs4 : S sr (4 * a.getD n 0) := by rw [← unP_all a n hlt]; exact hsr.out
       obtain ⟨y, hdiv, sy⟩ := hs4.quarter (by have := Ha.out n; omega)
       have hqr := fun w => quarter_run sr y hdiv w
       have Hst := Lib.hid (hq.out.step sy)
       have hset := Lib.hid (flts_set ys n y)
       obtain ⟨v0, hc0⟩ : ∃ v0, wr.cell? ⟨w1.heap.size, n, none⟩ = some v0 := ⟨_, hrow.out.cellAt (by have := hq.out.1; simp [flts]; omega)⟩
       have hf0 := hrow.out.free n
       clear hs4 hdiv sy
       go_wp2
       go_roundw
       case rel => exact ⟨n + 1, ys.set n y, by omega, by go_num, Hst.out, by have := hrow.out.set n (.float .f32 y); rw [hset.out] at this; exact this, hl.out.far (by simp; omega) _, hres.out.far (by simp; omega) _, hp.out.set (Nat.ne_of_gt (by have := Hg.out; show _ < w1.heap.size; omega)) _, hb.out.setCell (by simp; omega) _⟩
       case measure => simp [intOf]; omega
  · obtain rfl : n = 4 := by omega
    obtain ⟨y0, y1, y2, y3, rfl⟩ : ∃ y0 y1 y2 y3, ys = [y0, y1, y2, y3] := by
     have := hq.out.1
     match ys, this with
     | [a, b, c, d], _ => exact ⟨a, b, c, d, rfl⟩
    have hS4 : ∀ j (h : j < [y0, y1, y2, y3].length), S [y0, y1, y2, y3][j] (a.getD j 0) := by
     intro j h
     have h2 := hq.out.2 j h
     have h4 : j < 4 := h
     rwa [if_pos h4] at h2
    have HS4 := Lib.hid hS4
    have Hsam := Lib.hid (sampsI_ok (by simp) hS4 Ha.out)
    clear hS4
    have hy4 : Hid (wr.heap[w1.heap.size]? = some (.cells #[.float .f32 y0, .float .f32 y1, .float .f32 y2, .float .f32 y3] 28 (0, 0))) := hrow.out
    go_wp2_with (refine wpList_load_row rfl 28 _ rfl w1.heap.size rfl 28 #[.float .f32 y0, .float .f32 y1, .float .f32 y2, .float .f32 y3] (0, 0) _ hy4.out Tryz.underlying28 rfl ?_ ?_; (rw [info150]; rfl))
    refine (four_ok y0 y1 y2 y3 a _ hp.out Ha.out HS4.out Hsam.out).mono ?_
    rintro e w2 ⟨qs, rfl, hpa, hb2⟩
    obtain ⟨c0, d0, c1, d1, c2, d2, c3, d3, rfl⟩ : ∃ c0 d0 c1 d1 c2 d2 c3 d3, qs = [(c0, d0), (c1, d1), (c2, d2), (c3, d3)] := by
     have := hpa.1
     match qs, this with
     | [(a, b), (c, d), (e, f), (g, h)], _ => exact ⟨a, b, c, d, e, f, g, h, rfl⟩
    have hqe : all2 cEq (cxs [(c0, d0), (c1, d1), (c2, d2), (c3, d3)]) (cxs [(r0, i0), (r1, i1), (r2, i2), (r3, i3)]) = true := by
     refine all2_cEq _ _ (by rw [hpa.1]; rfl) (fun j h1 h2 => ?_)
     obtain ⟨a1, a2⟩ := hpa.2 j h1
     obtain ⟨b1, b2⟩ := HS.out j h2
     have e : PaN a 4 0 j = fourP a j 4 := by
      unfold PaN
      have h4 : j < 4 := h2
      rw [if_pos h4]
     rw [e] at a1 a2
     exact ⟨_, _, a1, b1, a2, b2⟩
    obtain ⟨us, hus⟩ : ∃ us, us = cxs [(c0, d0), (c1, d1), (c2, d2), (c3, d3)] := ⟨_, rfl⟩
    obtain ⟨vs, hvs⟩ : ∃ vs, vs = cxs [(r0, i0), (r1, i1), (r2, i2), (r3, i3)] := ⟨_, rfl⟩
    have hneq := fun w => neqCx [(c0, d0), (c1, d1), (c2, d2), (c3, d3)] [(r0, i0), (r1, i1), (r2, i2), (r3, i3)] hpa.1 rfl hqe w
    have hl2 := hl.out.old hb2
    have hres2 := hres.out.old hb2
    have hy2 : Row w2 w1.heap.size 28 (flts [y0, y1, y2, y3]) := Row.old hy4.out hb2
    have hu4 : us.length = 4 := by rw [hus]; rfl
    have hu1 : ∀ v ∈ us, v.oneCell' = true := by rw [hus]; exact cxs_one _
    have hv4 : vs.length = 4 := by rw [hvs]; rfl
    have hneq2 : ∀ w, (binOp .neq 31 (.agg #[.complex .f32 c0 d0, .complex .f32 c1 d1, .complex .f32 c2 d2, .complex .f32 c3 d3]) (.agg #[.complex .f32 r0 i0, .complex .f32 r1 i1, .complex .f32 r2 i2, .complex .f32 r3 i3])).run Tryz.prog w = .ok (.bool false) w := hneq
    clear hneq
    rw [← hvs] at hl2
    rw [← hus]
    have hbig : w.heap.size + 2 ≤ w2.heap.size ∧ w1.heap.size < w2.heap.size := by
     have h1 := hy2.lt; omega
    have Hl2 : Hid (Row ((w2.alloc (.cells (cxs [(0, 0), (0, 0), (0, 0), (0, 0)]).toArray 31)).setRow w2.heap.size us.toArray) w.heap.size 31 vs) := (hl2.alloc _).farRow (by omega) _
    have Hnew : Hid (Row (w2.alloc (.cells (cxs [(0, 0), (0, 0), (0, 0), (0, 0)]).toArray 31)) w2.heap.size 31 (cxs [(0, 0), (0, 0), (0, 0), (0, 0)])) := Row.new w2 31 (cxs [(0, 0), (0, 0), (0, 0), (0, 0)])
    have Hu : Hid (Row ((w2.alloc (.cells (cxs [(0, 0), (0, 0), (0, 0), (0, 0)]).toArray 31)).setRow w2.heap.size us.toArray) w2.heap.size 31 us) := Hnew.out.setRow us
    have Hres2 : Hid (Row ((w2.alloc (.cells (cxs [(0, 0), (0, 0), (0, 0), (0, 0)]).toArray 31)).setRow w2.heap.size us.toArray) (w.heap.size + 1) 28 (flts [0, 0, 0, 0])) := (hres2.alloc _).farRow (by omega) _
    have Hy2 : Hid (Row ((w2.alloc (.cells (cxs [(0, 0), (0, 0), (0, 0), (0, 0)]).toArray 31)).setRow w2.heap.size us.toArray) w1.heap.size 28 (flts [y0, y1, y2, y3])) := (hy2.alloc _).farRow (by omega) _
    have Hbb : Hid (Below w.heap.size w ((w2.alloc (.cells (cxs [(0, 0), (0, 0), (0, 0), (0, 0)]).toArray 31)).setRow w2.heap.size us.toArray)) := Below.setRow ((hb.out.trans (hb2.mono hb.out.size)).alloc (by omega) _) (by omega) _
    have Hcs : Hid (us = [.complex .f32 c0 d0, .complex .f32 c1 d1, .complex .f32 c2 d2, .complex .f32 c3 d3] ∧ vs = [.complex .f32 r0 i0, .complex .f32 r1 i1, .complex .f32 r2 i2, .complex .f32 r3 i3]) := ⟨hus, hvs⟩
    have Hu4 := Lib.hid hu4; have Hu1 := Lib.hid hu1; have Hv4 := Lib.hid hv4
    clear hqe hus hvs hl2 hres2 hy2 hu4 hu1 hv4 hpa
    go_wp2_with (refine wpList_store_row rfl 31 _ _ rfl w2.heap.size us.toArray rfl rfl 31 _ Hnew.out ?_ ?_ ?_ (gen_world (w2.heap.size) w.heap.size (w.heap.size + 1) w1.heap.size 31 28 us vs (flts [0, 0, 0, 0]) (flts [y0, y1, y2, y3]) Hu.out Hl2.out Hres2.out Hy2.out Hbb.out ?_); (rw [info147]; simp [Hu4.out]); (simp [Hu4.out, cxs]); (simpa using Hu1.out))
    intro w3 k0 k1 k2 k3 kb
    rw [Hcs.out.1] at k0 ⊢
    rw [Hcs.out.2] at k1
    have a0 := k0.cellAt (j := 0) (by simp); have a1 := k0.cellAt (j := 1) (by simp); have a2 := k0.cellAt (j := 2) (by simp); have a3 := k0.cellAt (j := 3) (by simp)
    have b0 := k1.cellAt (j := 0) (by simp); have b1 := k1.cellAt (j := 1) (by simp); have b2 := k1.cellAt (j := 2) (by simp); have b3 := k1.cellAt (j := 3) (by simp)
    simp only [List.getElem_cons_zero, List.getElem_cons_succ] at a0 a1 a2 a3 b0 b1 b2 b3
    have K2 := Lib.hid k2; have K3 := Lib.hid k3; have Kb := Lib.hid kb
    clear k0 k1 k2 k3 kb
    go_wp2_with (first
     | (refine wpList_load_row rfl 28 _ rfl w1.heap.size rfl 28 (flts [y0, y1, y2, y3]).toArray (0, 0) _ K3.out Tryz.underlying28 rfl ?_ ?_; (rw [info150]; rfl))
     | (refine wpList_store_row rfl 28 _ _ rfl (w.heap.size + 1) (flts [y0, y1, y2, y3]).toArray rfl rfl 28 _ K2.out ?_ ?_ ?_ ?_; (rw [info150]; rfl); (rfl); (simp [flts, Value.oneCell'])))
    refine bodyPost_ret (results_row_tmp rfl _ _ (w.heap.size + 1) 28 (flts [y0, y1, y2, y3]).toArray (0, 0) _ rfl (K2.out.setRow (flts [y0, y1, y2, y3])) Tryz.underlying28 rfl ?_) rfl ?_
    · rw [info150]; rfl
    · exact ⟨_, rfl, hq.out, Below.setRow Kb.out (by simp) _⟩
end Go.Proofs.YtkfkmnfejeocpaaGreatDoor
