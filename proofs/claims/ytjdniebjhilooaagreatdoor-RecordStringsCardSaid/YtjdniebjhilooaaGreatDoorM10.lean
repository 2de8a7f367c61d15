import Derived.Test.YtjdniebjhilooaaGreatDoorM16
import Derived.Maps.OwnSet
import Derived.Maps.StringElems
import Derived.StringKeys
import Derived.Lib.Hide
import Derived.Test.YtjdniebjhilooaaGreatDoorM17
import Derived.Test.YtjdniebjhilooaaGreatDoorM24
import Derived.IntWalk
namespace Go.Proofs.YtjdniebjhilooaaGreatDoor
set_option linter.all false
open Go.RowKit Go.Fl
def pkI (st ct ln : Int) (xs : List Nat) : Int := firstI [whenI (rangeB st 0 255) 3, whenI (rangeB ct 0 65535) 3, whenI (rangeB ln 0 8) 3, sampsI xs, whenI (!samePk st ct ln xs st ct ln (trimL ln xs)) 1]
theorem rd8 {w : World} {g o : Nat} {x0 x1 x2 x3 x4 x5 x6 x7 : Nat} (h0 : w.cell? ⟨g, o, none⟩ = some (.float .f32 x0)) (h1 : w.cell? ⟨g, o + 1, none⟩ = some (.float .f32 x1)) (h2 : w.cell? ⟨g, o + 2, none⟩ = some (.float .f32 x2)) (h3 : w.cell? ⟨g, o + 3, none⟩ = some (.float .f32 x3))
 (h4 : w.cell? ⟨g, o + 4, none⟩ = some (.float .f32 x4)) (h5 : w.cell? ⟨g, o + 5, none⟩ = some (.float .f32 x5)) (h6 : w.cell? ⟨g, o + 6, none⟩ = some (.float .f32 x6)) (h7 : w.cell? ⟨g, o + 7, none⟩ = some (.float .f32 x7)) : Rd w (some ⟨g, o, none⟩) (flts [x0, x1, x2, x3, x4, x5, x6, x7]) := by
 intro j v hv
 have hj : j < 8 := (List.getElem?_eq_some_iff.1 hv).1
 refine ⟨g, o, rfl, ?_⟩
 rcases (show j = 0 ∨ j = 1 ∨ j = 2 ∨ j = 3 ∨ j = 4 ∨ j = 5 ∨ j = 6 ∨ j = 7 by omega) with rfl | rfl | rfl | rfl | rfl | rfl | rfl | rfl
 all_goals (simp [flts] at hv; subst hv; assumption)
theorem keepPk {w W W' : World} {st ct ln : Int} {x0 x1 x2 x3 x4 x5 x6 x7 : Nat} (h : W.cell? ⟨w.heap.size, 0, none⟩ = some (.int .i64 st) ∧ W.cell? ⟨w.heap.size, 1, none⟩ = some (.int .i64 ct) ∧ W.cell? ⟨w.heap.size, 2, none⟩ = some (.int .i64 ln) ∧ W.cell? ⟨w.heap.size, 3, none⟩ = some (.float .f32 x0) ∧ W.cell? ⟨w.heap.size, 4, none⟩ = some (.float .f32 x1) ∧ W.cell? ⟨w.heap.size, 5, none⟩ = some (.float .f32 x2) ∧ W.cell? ⟨w.heap.size, 6, none⟩ = some (.float .f32 x3) ∧ W.cell? ⟨w.heap.size, 7, none⟩ = some (.float .f32 x4) ∧ W.cell? ⟨w.heap.size, 8, none⟩ = some (.float .f32 x5) ∧ W.cell? ⟨w.heap.size, 9, none⟩ = some (.float .f32 x6) ∧ W.cell? ⟨w.heap.size, 10, none⟩ = some (.float .f32 x7) ∧ Below w.heap.size w W ∧ w.heap.size < W.heap.size) (hb : Below W.heap.size W W') : W'.cell? ⟨w.heap.size, 0, none⟩ = some (.int .i64 st) ∧ W'.cell? ⟨w.heap.size, 1, none⟩ = some (.int .i64 ct) ∧ W'.cell? ⟨w.heap.size, 2, none⟩ = some (.int .i64 ln) ∧ W'.cell? ⟨w.heap.size, 3, none⟩ = some (.float .f32 x0) ∧ W'.cell? ⟨w.heap.size, 4, none⟩ = some (.float .f32 x1) ∧ W'.cell? ⟨w.heap.size, 5, none⟩ = some (.float .f32 x2) ∧ W'.cell? ⟨w.heap.size, 6, none⟩ = some (.float .f32 x3) ∧ W'.cell? ⟨w.heap.size, 7, none⟩ = some (.float .f32 x4) ∧ W'.cell? ⟨w.heap.size, 8, none⟩ = some (.float .f32 x5) ∧ W'.cell? ⟨w.heap.size, 9, none⟩ = some (.float .f32 x6) ∧ W'.cell? ⟨w.heap.size, 10, none⟩ = some (.float .f32 x7) ∧ Below w.heap.size w W' ∧ w.heap.size < W'.heap.size := by
 obtain ⟨c0, c1, c2, c3, c4, c5, c6, c7, c8, c9, c10, b, l⟩ := h
 have hc : ∀ o v, W.cell? ⟨w.heap.size, o, none⟩ = some v → W'.cell? ⟨w.heap.size, o, none⟩ = some v := fun o v hv => (hb.cell (p := ⟨w.heap.size, o, none⟩) l).trans hv
 exact ⟨hc _ _ c0, hc _ _ c1, hc _ _ c2, hc _ _ c3, hc _ _ c4, hc _ _ c5, hc _ _ c6, hc _ _ c7, hc _ _ c8, hc _ _ c9, hc _ _ c10, b.trans (hb.mono b.size), Nat.lt_of_lt_of_le l hb.size⟩
theorem belowPk {w W : World} {st ct ln : Int} {x0 x1 x2 x3 x4 x5 x6 x7 : Nat} (h : W.cell? ⟨w.heap.size, 0, none⟩ = some (.int .i64 st) ∧ W.cell? ⟨w.heap.size, 1, none⟩ = some (.int .i64 ct) ∧ W.cell? ⟨w.heap.size, 2, none⟩ = some (.int .i64 ln) ∧ W.cell? ⟨w.heap.size, 3, none⟩ = some (.float .f32 x0) ∧ W.cell? ⟨w.heap.size, 4, none⟩ = some (.float .f32 x1) ∧ W.cell? ⟨w.heap.size, 5, none⟩ = some (.float .f32 x2) ∧ W.cell? ⟨w.heap.size, 6, none⟩ = some (.float .f32 x3) ∧ W.cell? ⟨w.heap.size, 7, none⟩ = some (.float .f32 x4) ∧ W.cell? ⟨w.heap.size, 8, none⟩ = some (.float .f32 x5) ∧ W.cell? ⟨w.heap.size, 9, none⟩ = some (.float .f32 x6) ∧ W.cell? ⟨w.heap.size, 10, none⟩ = some (.float .f32 x7) ∧ Below w.heap.size w W ∧ w.heap.size < W.heap.size) : Below w.heap.size w W := by
 obtain ⟨c0, c1, c2, c3, c4, c5, c6, c7, c8, c9, c10, b, l⟩ := h
 exact b
theorem rdPk {w W : World} {st ct ln : Int} {x0 x1 x2 x3 x4 x5 x6 x7 : Nat} (h : W.cell? ⟨w.heap.size, 0, none⟩ = some (.int .i64 st) ∧ W.cell? ⟨w.heap.size, 1, none⟩ = some (.int .i64 ct) ∧ W.cell? ⟨w.heap.size, 2, none⟩ = some (.int .i64 ln) ∧ W.cell? ⟨w.heap.size, 3, none⟩ = some (.float .f32 x0) ∧ W.cell? ⟨w.heap.size, 4, none⟩ = some (.float .f32 x1) ∧ W.cell? ⟨w.heap.size, 5, none⟩ = some (.float .f32 x2) ∧ W.cell? ⟨w.heap.size, 6, none⟩ = some (.float .f32 x3) ∧ W.cell? ⟨w.heap.size, 7, none⟩ = some (.float .f32 x4) ∧ W.cell? ⟨w.heap.size, 8, none⟩ = some (.float .f32 x5) ∧ W.cell? ⟨w.heap.size, 9, none⟩ = some (.float .f32 x6) ∧ W.cell? ⟨w.heap.size, 10, none⟩ = some (.float .f32 x7) ∧ Below w.heap.size w W ∧ w.heap.size < W.heap.size) : Rd W (some ⟨w.heap.size, 3, none⟩) (flts [x0, x1, x2, x3, x4, x5, x6, x7]) := by
 obtain ⟨c0, c1, c2, c3, c4, c5, c6, c7, c8, c9, c10, b, l⟩ := h
 exact rd8 c3 c4 c5 c6 c7 c8 c9 c10
set_option maxRecDepth 100000 in
set_option maxHeartbeats 2000000 in
theorem checkPacket_any (st ct ln : Int) (x0 x1 x2 x3 x4 x5 x6 x7 : Nat) (w : World) :
 Calls Tryz.prog 67 #[.agg #[.int .i64 st, .int .i64 ct, .int .i64 ln, .float .f32 x0, .float .f32 x1, .float .f32 x2, .float .f32 x3, .float .f32 x4, .float .f32 x5, .float .f32 x6, .float .f32 x7]] w
  fun e w' => e = .returned (.int .i64 (pkI st ct ln [x0, x1, x2, x3, x4, x5, x6, x7])) ∧ Below w.heap.size w w' := by
 have heq := fun W => neqPk54 st ct ln [x0, x1, x2, x3, x4, x5, x6, x7] st ct ln (trimL ln [x0, x1, x2, x3, x4, x5, x6, x7]) rfl rfl W
 obtain ⟨tv, htv⟩ : ∃ tv, tv = (pkC st ct ln (trimL ln [x0, x1, x2, x3, x4, x5, x6, x7])).toArray := ⟨_, rfl⟩
 rw [← htv] at heq
 have HT := Lib.hid htv
 clear htv
 have heq2 : ∀ W, (binOp .neq 59 (.agg #[.int .i64 st, .int .i64 ct, .int .i64 ln, .float .f32 x0, .float .f32 x1, .float .f32 x2, .float .f32 x3, .float .f32 x4, .float .f32 x5, .float .f32 x6, .float .f32 x7]) (.agg tv)).run Tryz.prog W = .ok (.bool (!samePk st ct ln [x0, x1, x2, x3, x4, x5, x6, x7] st ct ln (trimL ln [x0, x1, x2, x3, x4, x5, x6, x7]))) W := heq
 clear heq
 go_enter Tryz.func67, Tryz.ntmps67
 go_wp2
 have hS0 : (fun w' : World => w'.cell? ⟨w.heap.size, 0, none⟩ = some (.int .i64 st) ∧ w'.cell? ⟨w.heap.size, 1, none⟩ = some (.int .i64 ct) ∧ w'.cell? ⟨w.heap.size, 2, none⟩ = some (.int .i64 ln) ∧ w'.cell? ⟨w.heap.size, 3, none⟩ = some (.float .f32 x0) ∧ w'.cell? ⟨w.heap.size, 4, none⟩ = some (.float .f32 x1) ∧ w'.cell? ⟨w.heap.size, 5, none⟩ = some (.float .f32 x2) ∧ w'.cell? ⟨w.heap.size, 6, none⟩ = some (.float .f32 x3) ∧ w'.cell? ⟨w.heap.size, 7, none⟩ = some (.float .f32 x4) ∧ w'.cell? ⟨w.heap.size, 8, none⟩ = some (.float .f32 x5) ∧ w'.cell? ⟨w.heap.size, 9, none⟩ = some (.float .f32 x6) ∧ w'.cell? ⟨w.heap.size, 10, none⟩ = some (.float .f32 x7) ∧ Below w.heap.size w w' ∧ w.heap.size < w'.heap.size) (w.alloc (.cells #[.int .i64 st, .int .i64 ct, .int .i64 ln, .float .f32 x0, .float .f32 x1, .float .f32 x2, .float .f32 x3, .float .f32 x4, .float .f32 x5, .float .f32 x6, .float .f32 x7] 59)) := by
  refine ⟨?_, ?_, ?_, ?_, ?_, ?_, ?_, ?_, ?_, ?_, ?_, (Below.refl _ _).alloc (Nat.le_refl _) _, by simp⟩
  all_goals simp
 go_region_held3 (fun w' => w'.cell? ⟨w.heap.size, 0, none⟩ = some (.int .i64 st) ∧ w'.cell? ⟨w.heap.size, 1, none⟩ = some (.int .i64 ct) ∧ w'.cell? ⟨w.heap.size, 2, none⟩ = some (.int .i64 ln) ∧ w'.cell? ⟨w.heap.size, 3, none⟩ = some (.float .f32 x0) ∧ w'.cell? ⟨w.heap.size, 4, none⟩ = some (.float .f32 x1) ∧ w'.cell? ⟨w.heap.size, 5, none⟩ = some (.float .f32 x2) ∧ w'.cell? ⟨w.heap.size, 6, none⟩ = some (.float .f32 x3) ∧ w'.cell? ⟨w.heap.size, 7, none⟩ = some (.float .f32 x4) ∧ w'.cell? ⟨w.heap.size, 8, none⟩ = some (.float .f32 x5) ∧ w'.cell? ⟨w.heap.size, 9, none⟩ = some (.float .f32 x6) ∧ w'.cell? ⟨w.heap.size, 10, none⟩ = some (.float .f32 x7) ∧ Below w.heap.size w w' ∧ w.heap.size < w'.heap.size) (first | assumption | exact keepPk hS0 (Below.drew (Below.refl _ _)) | exact keepPk (by assumption) (Below.drew (Below.refl _ _)) | exact keepPk (by assumption) (below_drewN (Below.refl _ _) _) | exact keepPk (by assumption) (by assumption) | exact keepPk (by assumption) ((Below.refl _ _).alloc (Nat.le_refl _) _))
  (first | (go_at_call 78; refine (between_any _ _ _ _).mono ?_; rintro e w' ⟨rfl, rfl⟩) | (go_at_call 87; refine (checkSamples_any _ _ _ [x0, x1, x2, x3, x4, x5, x6, x7] _ ?_ rfl).mono ?_; (exact rdPk (by assumption)); (rintro e w1 ⟨rfl, hb1⟩)) | (go_at_call 122; refine (trimmed_any _ _ _ _ _ _ _ _ _ _ _ _).mono ?_; (rintro e w1 ⟨rfl, hb1⟩); rw [← HT.out]) | (go_at_call 96; refine (failed_any _ _ _).mono ?_; rintro e w' ⟨rfl, rfl⟩) | (go_at_call 76; refine (firstV_any _ _ _ [whenI (rangeB st 0 255) 3, whenI (rangeB ct 0 65535) 3, whenI (rangeB ln 0 8) 3, sampsI [x0, x1, x2, x3, x4, x5, x6, x7], whenI (!samePk st ct ln [x0, x1, x2, x3, x4, x5, x6, x7] st ct ln (trimL ln [x0, x1, x2, x3, x4, x5, x6, x7])) 1] _ ?_ rfl ?_).mono ?_; (first | exact Rd.new _ _ _ _ (by simp) | exact Rd.drew (Rd.new _ _ _ _ (by simp)) | exact Rd.drewN (Rd.new _ _ _ _ (by simp)) _); (simp); rintro e w' ⟨rfl, rfl⟩))
 all_goals go_wp2
 all_goals go_ret
 all_goals exact ⟨rfl, belowPk (by assumption)⟩
theorem results_row_tmp {P : Program} {fn : Func} {p t : Tmp} {ty : TypeId} (h : fn.results = #[.cell p ty, .tmp t]) (tmps : Array Value) (w : World) (g : Nat) (e : TypeId) (cs : Array Value) (fr : Nat × Nat) (d : TypeDesc)
 (hp : tmps.getD p undef = .pointer (some ⟨g, 0, none⟩)) (hg : w.heap[g]? = some (.cells cs e fr))
 (hu : P.underlying ty = some d) (hd : (match d with | .struct _ | .array _ _ => true | _ => false) = true) (hi : (P.info? ty).map (·.size) = some cs.size) :
 (results fn tmps).run P w = .ok (.tuple #[.agg cs, tmps.getD t undef]) w := by
 have hp' : tmps[p]?.getD undef = .pointer (some ⟨g, 0, none⟩) := by simpa using hp
 simp [results, h, hp', asAddr, run_loadVar_row w g e ty cs fr d hg hu hd hi]
set_option maxRecDepth 100000 in
set_option maxHeartbeats 400000 in
theorem seal_any (k0 k1 k2 k3 k4 k5 k6 k7 : Int) (A : Option Addr) (n c : Nat) (bs : List UInt8) (w : World) (hA : Rd w A (byts bs)) (hn : n = bs.length) (hm : bs.length ≤ 400000) (hkeys : ∀ j (h : j < 8), isByte ([k0, k1, k2, k3, k4, k5, k6, k7][j])) :
 Calls Tryz.prog 24 #[.agg #[.int .u8 k0, .int .u8 k1, .int .u8 k2, .int .u8 k3, .int .u8 k4, .int .u8 k5, .int .u8 k6, .int .u8 k7], .slice A n c] w fun e w' => e = .returned (.tuple #[keyV (sealL [k0, k1, k2, k3, k4, k5, k6, k7] bs), .int .i64 0]) ∧ Below w.heap.size w w' := by
 subst hn
 have Hk := Lib.hid hkeys; clear hkeys
 go_enter Tryz.func24, Tryz.ntmps24
 go_wp2_with fail
 refine (sealed_any k0 k1 k2 k3 k4 k5 k6 k7 A _ c bs _ (hA.below (by repeat (first | exact Below.refl _ _ | refine Below.alloc ?_ (by simp) _))) rfl (by omega) Hk.out).mono ?_
 rintro e w1 ⟨rfl, hb⟩
 have hres : Row w1 (w.heap.size + 1) 46 (u8s [0, 0, 0, 0, 0, 0, 0, 0]) := by
  have h2 := Row.new (w.alloc (.cells (u8s [k0, k1, k2, k3, k4, k5, k6, k7]).toArray 46)) 46 (u8s [0, 0, 0, 0, 0, 0, 0, 0])
  rw [World.size_alloc] at h2
  exact h2.old hb
 have hb0 : Below w.heap.size w w1 := (((Below.refl w.heap.size w).alloc (Nat.le_refl _) _).alloc (by simp) _).trans (hb.mono (by simp; omega))
 obtain ⟨l, hl⟩ : ∃ l, l = sealL [k0, k1, k2, k3, k4, k5, k6, k7] bs := ⟨_, rfl⟩
 have hlen : l.length = 8 := by rw [hl]; simp [sealL, sealGo_length]
 rw [← hl]
 have He := Lib.hid hl
 have Hlen := Lib.hid hlen
 have Hres := Lib.hid hres
 have Hb0 := Lib.hid hb0
 clear hl hlen hres hb hb0
 unfold keyV
 go_wp2_with (refine wpList_store_row rfl 46 _ _ rfl (w.heap.size + 1) (u8s l).toArray rfl rfl 46 _ Hres.out ?_ ?_ ?_ ?_; (rw [info47]; simp [u8s, Hlen.out]); (simp [u8s, Hlen.out]); (simp [u8s, Value.oneCell']))
 refine bodyPost_ret (results_row_tmp rfl _ _ (w.heap.size + 1) 46 (u8s l).toArray (0, 0) _ rfl (Hres.out.setRow (u8s l)) Tryz.underlying46 rfl ?_) rfl ?_
 · rw [info47]; simp [u8s, Hlen.out]
 · exact ⟨by rw [← He.out]; rfl, Below.setRow Hb0.out (by simp) _⟩
set_option maxHeartbeats 400000 in
theorem to_any (a b : Int) (w : World) : Calls Tryz.prog 36 #[.int .i64 a, .int .i64 b] w fun e w' => e = .returned (.agg #[.int .i64 a, .int .i64 b]) ∧ w' = w.alloc (.cells #[.int .i64 a, .int .i64 b] 70) := by
 go_enter Tryz.func36, Tryz.ntmps36
 go_wp2
 exact bodyPost_ret (v := .agg #[.int .i64 a, .int .i64 b]) (by simp [results, Tryz.results36, go_sem]) rfl ⟨rfl, rfl⟩
set_option maxHeartbeats 400000 in
theorem isLess_any (a b c d : Int) (w : World) (h1 : -4611686018427387904 ≤ a * d) (h2 : a * d ≤ 4611686018427387904) (h3 : -4611686018427387904 ≤ c * b) (h4 : c * b ≤ 4611686018427387904) : Calls Tryz.prog 101 #[.agg #[.int .i64 a, .int .i64 b], .agg #[.int .i64 c, .int .i64 d]] w fun e w' => e = .returned (.bool (decide (a * d < c * b))) ∧ Below w.heap.size w w' := by
 go_enter Tryz.func101, Tryz.ntmps101
 go_wp2
 go_ret
 exact ⟨rfl, ((Below.refl _ _).alloc (Nat.le_refl _) _).alloc (by simp) _⟩
theorem flts_snoc (xs : List Nat) (b k : Nat) : flts (xs ++ List.replicate (k + 1) b) = flts (xs ++ List.replicate k b) ++ [.float .f32 b] := by
 rw [List.replicate_succ', ← List.append_assoc]; simp [flts]
def onB (x : Nat) : Bool := FloatKind.f32.format.order x 1056964608 == some .gt || FloatKind.f32.format.order x 1056964608 == some .eq
set_option maxHeartbeats 400000 in
theorem isOn_any (x : Nat) (w : World) : Calls Tryz.prog 90 #[.float .f32 x] w fun e w' => e = .returned (.bool (onB x)) ∧ w = w' := by
 go_enter Tryz.func90, Tryz.ntmps90
 go_wp2
 go_ret
 exact ⟨rfl, rfl⟩
def runL (on : Bool) : List Nat → Nat
 | [] => 0
 | x :: xs => if onB x = on then runL on xs + 1 else 0
def spanEndL (xs : List Nat) (i : Nat) : Nat := i + 1 + runL (onB (xs.getD i 0)) (xs.drop (i + 1))
theorem runL_drop (on : Bool) (xs : List Nat) (k : Nat) (hk : k < xs.length) : runL on (xs.drop k) = if onB xs[k] = on then runL on (xs.drop (k + 1)) + 1 else 0 := by
 rw [List.drop_eq_getElem_cons hk, runL]
theorem runL_le (on : Bool) (xs : List Nat) : runL on xs ≤ xs.length := by
 induction xs with
 | nil => simp [runL]
 | cons x xs ih => rw [runL]; split <;> simp <;> omega
theorem quiet_same {P : Program} {f : FuncId} {args : Array Value} {w : World} {v : Value} {n : Nat} (h : Calls P f args (w.drewN n) fun e w' => e = .returned v ∧ w.drewN n = w') : Calls P f args (w.drewN n) fun e w'' => e = .returned v ∧ ∃ m, w'' = w.drewN m :=
 h.mono fun _ _ ⟨he, hm⟩ => ⟨he, n, hm.symm⟩
theorem quiet_same2 {P : Program} {f : FuncId} {args : Array Value} {w : World} {v : Value} {a n : Nat} (h : Calls P f args (w.drewN (a + n)) fun e w' => e = .returned v ∧ w.drewN (a + n) = w') : Calls P f args (w.drewN (a + n)) fun e w'' => e = .returned v ∧ ∃ m, w'' = w.drewN (a + m) :=
 h.mono fun _ _ ⟨he, hm⟩ => ⟨he, n, hm.symm⟩
set_option maxRecDepth 100000 in
set_option maxHeartbeats 1000000 in
theorem spanEnd_any (A : Option Addr) (n c : Nat) (xs : List Nat) (i : Nat) (w : World) (hA : Rd w A (flts xs)) (hn : n = xs.length) (hi : i < xs.length) (hm : xs.length ≤ 9223372036854775806) :
 Calls Tryz.prog 89 #[.slice A n c, .int .i64 i] w fun e w' => e = .returned (.int .i64 (spanEndL xs i : Nat)) ∧ ∃ q, w' = w.drewN q := by
 subst hn
 obtain ⟨b, off, rfl, hci⟩ := Rd.flt hA hi
 have hgi := Lib.hid (show xs.getD i 0 = xs[i] by simp [hi])
 go_enter Tryz.func89, Tryz.ntmps89
 go_wp2
 go_loopw [5] (fun t wr => ∃ k : Nat, i + 1 ≤ k ∧ k ≤ xs.length ∧ t = .int .i64 k ∧ Hid (k + runL (onB xs[i]) (xs.drop k) = spanEndL xs i) ∧ ∃ q, wr = w.drewN q) (fun t _ => xs.length - (intOf t).toNat)
 case atStart => exact ⟨i + 1, Nat.le_refl _, hi, by go_num, by show _ = _; rw [spanEndL, hgi.out], 0, rfl⟩
 case round =>
  obtain ⟨k, hk1, hk, rfl, H, q, rfl⟩ := hrel
  by_cases hlt : k < xs.length
  · obtain ⟨b', off', hab, hck⟩ := Rd.flt hA hlt
    cases hab
    have hr := Lib.hid (runL_drop (onB xs[i]) xs k hlt)
    have i1 : (k : Int) < (xs.length : Int) := by omega
    have i2 : (i : Int) < (xs.length : Int) := by omega
    cases hon : (onB xs[k] == onB xs[i])
    · have Hon := Lib.hid (show onB xs[k] ≠ onB xs[i] by simpa using hon)
      go_wp2
      go_quiet ((go_at_call 90; exact quiet_same2 (isOn_any _ _)))
      go_wp2
      go_ret
      exact ⟨ret_int (by rw [← H.out, hr.out, if_neg Hon.out]; rfl), q + _, by rw [World.drewN_drewN]⟩
    · have Hon := Lib.hid (show onB xs[k] = onB xs[i] by simpa using hon)
      go_wp2
      go_quiet ((go_at_call 90; exact quiet_same2 (isOn_any _ _)))
      go_wp2
      go_roundw
      case rel => exact ⟨k + 1, by omega, by omega, by go_num, by show _ = _; rw [← H.out, hr.out, if_pos Hon.out]; omega, _, rfl⟩
      case measure => simp [intOf]; omega
  · have hd : decide ((k : Int) < (xs.length : Int)) = false := by simp; omega
    go_wp2
    go_quiet (fail)
    go_wp2
    go_ret
    exact ⟨ret_int (by rw [← H.out, List.drop_of_length_le (by omega)]; rfl), q + _, by rw [World.drewN_drewN]⟩
end Go.Proofs.YtjdniebjhilooaaGreatDoor
namespace Go.Proofs.YtjdniebjhilooaaGreatDoor
set_option linter.all false
open Go.RowKit Go.Maps
def letQ (k : Nat) : ByteArray := ⟨#[UInt8.ofNat (65 + k)]⟩
def LD (k : Nat) : DataW Unit := (List.range k).foldl (fun D i => D.put (.string (codeS i).data.toList) (.lit (.string (letQ i).data.toList))) (.map [])
theorem LD_succ (k : Nat) : LD (k + 1) = (LD k).put (.string (codeS k).data.toList) (.lit (.string (letQ k).data.toList)) := by
 unfold LD; rw [List.range_succ, List.foldl_append]; rfl
theorem codeQ_size (k : Nat) (hk : k < 26) : (codeS k).size ≤ 5 := by
 rcases (show k = 0 ∨ k = 1 ∨ k = 2 ∨ k = 3 ∨ k = 4 ∨ k = 5 ∨ k = 6 ∨ k = 7 ∨ k = 8 ∨ k = 9 ∨ k = 10 ∨ k = 11 ∨ k = 12 ∨ k = 13 ∨ k = 14 ∨ k = 15 ∨ k = 16 ∨ k = 17 ∨ k = 18 ∨ k = 19 ∨ k = 20 ∨ k = 21 ∨ k = 22 ∨ k = 23 ∨ k = 24 ∨ k = 25 by omega) with rfl | rfl | rfl | rfl | rfl | rfl | rfl | rfl | rfl | rfl | rfl | rfl | rfl | rfl | rfl | rfl | rfl | rfl | rfl | rfl | rfl | rfl | rfl | rfl | rfl | rfl
 all_goals decide
theorem letQ_conv (k : Nat) (hk : k < 26) (w : World) : (convert 21 9 (.int .i32 (65 + (k : Int)))).run Tryz.prog w = .ok (.string (letQ k)) w := by
 rcases (show k = 0 ∨ k = 1 ∨ k = 2 ∨ k = 3 ∨ k = 4 ∨ k = 5 ∨ k = 6 ∨ k = 7 ∨ k = 8 ∨ k = 9 ∨ k = 10 ∨ k = 11 ∨ k = 12 ∨ k = 13 ∨ k = 14 ∨ k = 15 ∨ k = 16 ∨ k = 17 ∨ k = 18 ∨ k = 19 ∨ k = 20 ∨ k = 21 ∨ k = 22 ∨ k = 23 ∨ k = 24 ∨ k = 25 by omega) with rfl | rfl | rfl | rfl | rfl | rfl | rfl | rfl | rfl | rfl | rfl | rfl | rfl | rfl | rfl | rfl | rfl | rfl | rfl | rfl | rfl | rfl | rfl | rfl | rfl | rfl
 all_goals kernel_rfl
theorem strKey : Keyed Tryz.prog 9 := string_keyed Tryz.underlying9
theorem ownsMap_below {H : Type} {P : Program} {k : TypeId} {R : Value → Option (DataW H × List MemPlace)} {b n : Nat} {D : DataW H} {w w' : World} (h : w.ownsMap P k R b n D) (hb : Below w.heap.size w w') : w'.ownsMap P k R b n D := by
 have hlt := h.lt
 obtain ⟨es, clock, h1, F, hs, hD⟩ := h
 exact ⟨es, clock, (hb.block b hlt).trans h1, F, hs, hD⟩
set_option maxRecDepth 100000 in
set_option maxHeartbeats 1000000 in
theorem letters_any (w : World) (h : Tz w) : Calls Tryz.prog 88 #[] w fun e w' => ∃ b, e = .returned (.map (some b)) ∧ w'.ownsMap Tryz.prog 9 (plainElem Tryz.prog 9) b 26 (LD 26) ∧ w.heap.size ≤ b ∧ Below w.heap.size w w' := by
 have hmm := @run_makeMap Tryz.prog
 have HT := Lib.hid h
 clear h
 go_enter Tryz.func88, Tryz.ntmps88
 go_wp2
 go_loopw [4] (fun i wr => ∃ k : Nat, k ≤ 26 ∧ i = .int .i64 k ∧ Hid (wr.ownsMap Tryz.prog 9 (plainElem Tryz.prog 9) w.heap.size k (LD k)) ∧ Hid (Below w.heap.size w wr)) (fun i _ => 26 - (intOf i).toNat)
 case atStart => exact ⟨0, Nat.zero_le _, rfl, World.ownsMap_made w _ _ _, (Below.refl _ _).alloc (Nat.le_refl _) _⟩
 case round =>
  obtain ⟨k, hk, rfl, Ho, Hb⟩ := hrel
  by_cases hlt : k < 26
  · have hcv := letQ_conv k hlt
    have HC : Hid (∀ W, Below w.heap.size w W → Calls Tryz.prog 86 #[.int .i64 (k : Int)] W fun e w' => e = .returned (.string (codeS k)) ∧ Below W.heap.size W w') := fun W hW => code_any k hlt W (HT.out.old hW)
    have hkey := WideMaps.keyOf_string_mk (P := Tryz.prog) Tryz.underlying9 (s := codeS k) (by have := codeQ_size k hlt; unfold maxLen; omega)
    have hval := plainElem_string (H := Unit) (P := Tryz.prog) Tryz.underlying9 (s := letQ k) (by show 1 ≤ maxLen; unfold maxLen; decide)
    have Hkey := Lib.hid hkey; have Hval := Lib.hid hval
    have w1 : IntKind.i32.wrap (65 + (k : Int)) = 65 + (k : Int) := by unfold IntKind.wrap; simp [IntKind.signed, IntKind.bits]; omega
    clear hkey hval
    go_wp2_with (first
     | (go_at_call 86; refine (HC.out _ Hb.out).mono ?_; rintro e w2 ⟨rfl, hb2⟩; have Ho2 := Lib.hid (ownsMap_below Ho.out hb2); have Hb2 := Lib.hid (Hb.out.trans (hb2.mono Hb.out.size)); clear hb2)
     | (at_mapUpdate; refine wpList_mapUpdate_own _ rfl _ _ _ 172 rfl 9 9 strKey Tryz.underlying172 _ w.heap.size k _ rfl Ho2.out (by unfold maxLen; omega) _ _ _ rfl rfl Hkey.out _ [] Hval.out ?_; intro w3 hown3 hgrow3))
    exact ⟨⟨k + 1, by omega, by go_num, by rw [LD_succ]; exact hown3, Hb2.out.grown hgrow3 Hb2.out.size (fun j e => by cases e; exact Nat.le_refl _)⟩, by simp [intOf]; omega⟩
  · obtain rfl : k = 26 := by omega
    go_wp2
    go_ret
    exact ⟨_, rfl, Ho.out, Nat.le_refl _, Hb.out⟩
end Go.Proofs.YtjdniebjhilooaaGreatDoor
namespace Go.Proofs.YtjdniebjhilooaaGreatDoor
set_option linter.all false
open Go.RowKit Go.Fl
abbrev PkT := Int × Int × Int × List Nat
def pkV (p : PkT) : List Value := pkC p.1 p.2.1 p.2.2.1 p.2.2.2
def pkE (p : PkT) : Int := pkI p.1 p.2.1 p.2.2.1 p.2.2.2
def pksC (l : List PkT) : List Value := l.flatMap pkV
def pks8 (l : List PkT) : Prop := ∀ p ∈ l, p.2.2.2.length = 8
def pksI (l : List PkT) : Int := if 1024 < l.length then 5 else firstI (l.map pkE)
theorem flat_get {α : Type} (f : α → List Value) (s : Nat) : ∀ (l : List α) (hs : ∀ p ∈ l, (f p).length = s) (k : Nat) (hk : k < l.length) (j : Nat) (hj : j < s), (l.flatMap f)[k * s + j]? = (f l[k])[j]?
 | p :: l, hs, 0, hk, j, hj => by
   have := hs p (by simp)
   simp only [List.flatMap_cons, Nat.zero_mul, Nat.zero_add, List.getElem_cons_zero]
   rw [List.getElem?_append_left (by omega)]
 | p :: l, hs, k + 1, hk, j, hj => by
   have h1 := hs p (by simp)
   have ih := flat_get f s l (fun q hq => hs q (by simp [hq])) k (by simpa using hk) j hj
   simp only [List.flatMap_cons, List.getElem_cons_succ]
   rw [List.getElem?_append_right (by rw [h1, Nat.succ_mul]; omega), h1, ← ih]
   congr 1
   rw [Nat.succ_mul]; omega
theorem flat_length {α : Type} (f : α → List Value) (s : Nat) : ∀ (l : List α) (hs : ∀ p ∈ l, (f p).length = s), (l.flatMap f).length = l.length * s
 | [], _ => by simp
 | p :: l, hs => by
   have h1 := hs p (by simp)
   have ih := flat_length f s l (fun q hq => hs q (by simp [hq]))
   rw [List.flatMap_cons, List.length_append, ih, h1, List.length_cons, Nat.succ_mul]; omega
theorem Rd.flat {α : Type} {f : α → List Value} {s : Nat} {w : World} {A : Option Addr} {l : List α} (h : Rd w A (l.flatMap f)) (hs : ∀ p ∈ l, (f p).length = s) (h0 : 0 < s) {k : Nat} (hk : k < l.length) :
 ∃ b off, A = some ⟨b, off, none⟩ ∧ ∀ j v, (f l[k])[j]? = some v → w.cell? ⟨b, off + k * s + j, none⟩ = some v := by
 have hl := hs _ (List.getElem_mem hk)
 obtain ⟨v0, hv0⟩ : ∃ v, (f l[k])[0]? = some v := ⟨(f l[k])[0]'(by omega), List.getElem?_eq_getElem (by omega)⟩
 obtain ⟨b, off, hA, _⟩ := h (k * s + 0) v0 ((flat_get f s l hs k hk 0 h0).trans hv0)
 refine ⟨b, off, hA, fun j v hv => ?_⟩
 have hj : j < s := by have := (List.getElem?_eq_some_iff.1 hv).1; omega
 obtain ⟨b', off', hA', hc⟩ := h (k * s + j) v ((flat_get f s l hs k hk j hj).trans hv)
 rw [hA] at hA'; cases hA'
 rw [Nat.add_assoc]; exact hc
theorem pkV_length {p : PkT} (h : p.2.2.2.length = 8) : (pkV p).length = 11 := by simp [pkV, pkC_length, h]
theorem pk_form {p : PkT} (h : p.2.2.2.length = 8) : ∃ (st ct ln : Int) (x0 x1 x2 x3 x4 x5 x6 x7 : Nat), p = (st, ct, ln, [x0, x1, x2, x3, x4, x5, x6, x7]) := by
 obtain ⟨st, ct, ln, xs⟩ := p
 match xs, h with
 | [a, b, c, d, e, f, g, h], _ => exact ⟨st, ct, ln, a, b, c, d, e, f, g, h, rfl⟩
set_option maxRecDepth 100000 in
set_option maxHeartbeats 1000000 in
theorem mappedPkE_any (A : Option Addr) (n c : Nat) (ps : List PkT) (w : World) (hA : Rd w A (pksC ps)) (h8 : pks8 ps) (hn : n = ps.length) (hm : ps.length ≤ 1024) :
 Calls Tryz.prog 124 #[.slice A n c, .func (.func 67) #[] #[]] w fun e w' => ∃ g, e = .returned (.slice (some ⟨g, 0, none⟩) n n) ∧ Row w' g 28 (ints (ps.map pkE)) ∧ w.heap.size ≤ g ∧ Below w.heap.size w w' := by
 subst hn
 have hmk := fun W : World => make1 (P := Tryz.prog) 213 28 (.int .i64 0) 8 Tryz.underlying213 info27 rfl ps.length (by omega) (by omega) W
 have HA := Lib.hid hA; have H8 := Lib.hid h8
 clear hA h8
 go_enter Tryz.func124, Tryz.ntmps124
 go_wp2
 go_loopw [13] (fun i wr => ∃ k : Nat, k ≤ ps.length ∧ i = .int .i64 k ∧ Hid (Row wr w.heap.size 28 (ints ((ps.map pkE).take k) ++ List.replicate (ps.length - k) (.int .i64 0))) ∧ Hid (Below w.heap.size w wr)) (fun i _ => ps.length - (intOf i).toNat)
 case atStart => exact ⟨0, Nat.zero_le _, rfl, by have := Row.new w 28 (List.replicate ps.length (.int .i64 0)); show Row _ _ _ _; simpa [ints] using this, (Below.refl _ _).alloc (Nat.le_refl _) _⟩
 case round =>
  obtain ⟨k, hk, rfl, Hrow, Hb⟩ := hrel
  by_cases hlt : k < ps.length
  · obtain ⟨b, off, hAb, hc⟩ := Rd.flat (HA.out.below Hb.out) (fun p hp => pkV_length (H8.out p hp)) (by decide) hlt
    subst hAb
    obtain ⟨st, ct, ln, x0, x1, x2, x3, x4, x5, x6, x7, hp⟩ := pk_form (H8.out _ (List.getElem_mem hlt))
    rw [hp] at hc
    have c0 := hc 0 _ rfl
    have c1 := hc 1 _ rfl
    have c2 := hc 2 _ rfl
    have c3 := hc 3 _ rfl
    have c4 := hc 4 _ rfl
    have c5 := hc 5 _ rfl
    have c6 := hc 6 _ rfl
    have c7 := hc 7 _ rfl
    have c8 := hc 8 _ rfl
    have c9 := hc 9 _ rfl
    have c10 := hc 10 _ rfl
    rw [Nat.add_zero] at c0
    have hset := Lib.hid (part_set (ps.map pkE) ps.length k (by simpa using hlt) (by simp))
    have hfk : Hid ((ps.map pkE)[k]'(by simpa using hlt) = pkI st ct ln [x0, x1, x2, x3, x4, x5, x6, x7]) := by unfold Hid; rw [List.getElem_map, hp]; rfl
    clear hc hp
    go_wp2_with fail
    refine (checkPacket_any st ct ln x0 x1 x2 x3 x4 x5 x6 x7 _).mono ?_
    rintro e w1 ⟨rfl, hb1⟩
    have Hb1 : Hid (Below w.heap.size w w1) := (Hb.out.alloc Hb.out.size _).trans (hb1.mono (by have := Hb.out.size; simp; omega))
    have Hrow1 := Lib.hid ((Hrow.out.alloc _).old hb1)
    have hc1 : w1.cell? ⟨w.heap.size, k, none⟩ = some (.int .i64 0) := by
     rw [Hrow1.out.cell]
     exact mid_get _ _ _ _ (by simp [ints]; omega) hlt
    have hf1 := Hrow1.out.free k
    clear hb1
    go_wp2
    go_roundw
    case rel => exact ⟨k + 1, by omega, by go_num, by show Row _ _ _ _; rw [← hset.out, hfk.out]; exact Hrow1.out.set k _, Hb1.out.setCell (by simp) _⟩
    case measure => simp [intOf]; omega
  · obtain rfl : k = ps.length := by omega
    go_wp2
    go_ret
    exact ⟨_, rfl, by have h := Hrow.out; rw [Nat.sub_self, List.replicate_zero, List.append_nil, List.take_of_length_le (by simp)] at h; exact h, Nat.le_refl _, Hb.out⟩
set_option maxRecDepth 100000 in
set_option maxHeartbeats 400000 in
theorem checkListPk_any (A : Option Addr) (n c : Nat) (ps : List PkT) (w : World) (hA : Rd w A (pksC ps)) (h8 : pks8 ps) (hn : n = ps.length) :
 Calls Tryz.prog 77 #[.slice A n c, .int .i64 1024, .func (.func 67) #[] #[]] w fun e w' => e = .returned (.int .i64 (pksI ps)) ∧ Below w.heap.size w w' := by
 subst hn
 by_cases hl : 1024 < ps.length
 · go_enter Tryz.func77, Tryz.ntmps77
   go_wp2
   go_ret
   exact ⟨ret_int (by rw [pksI, if_pos hl]), Below.refl _ _⟩
 · have hm : ps.length ≤ 1024 := by omega
   go_enter Tryz.func77, Tryz.ntmps77
   go_wp2_with fail
   refine (mappedPkE_any _ _ _ ps _ hA h8 rfl hm).mono ?_
   rintro e w1 ⟨g, rfl, hrow, hg, hb⟩
   go_wp2_with fail
   refine (firstV_any _ _ _ (ps.map pkE) _ (Rd.row hrow) (by simp) (by simp; omega)).mono ?_
   rintro e w2 ⟨rfl, rfl⟩
   go_wp2
   go_ret
   exact ⟨ret_int (by rw [pksI, if_neg hl]), hb⟩
end Go.Proofs.YtjdniebjhilooaaGreatDoor
namespace Go.Proofs.YtjdniebjhilooaaGreatDoor
set_option linter.all false
open Go.RowKit Go.Fl Ieee
theorem near_exact (neg : Bool) {k j : Nat} (h1 : 2 ^ 23 ≤ k) (h2 : k < 2 ^ 24) : single.nearest neg (k * 2 ^ j) 0 = single.word neg (min ((j + 149) * single.binade + k) single.infRung) := by
 have hk : k ≠ 0 := by omega
 have hl : k.log2 = 23 := by
  have a1 := (Nat.log2_lt hk).2 h2
  have a2 : 23 ≤ k.log2 := (Nat.le_log2 hk).2 h1
  omega
 have hL : (k * 2 ^ j).log2 = 23 + j := by rw [log2_mul_pow _ _ hk, hl]
 have hne : k * 2 ^ j ≠ 0 := Nat.mul_ne_zero hk (Nat.ne_of_gt (Nat.two_pow_pos _))
 have l1 : single.leastPlace = -149 := by decide
 have l2 : (single.fractionBits : Int) = 23 := rfl
 have hlast : max ((0 : Int) + ((k * 2 ^ j).log2 : Int) - (single.fractionBits : Int)) single.leastPlace = (j : Int) := by rw [hL, l1, l2]; omega
 unfold Format.nearest
 rw [if_neg hne, hlast]
 simp only [shl]
 have e1 : ((0 : Int) - (j : Int)).toNat = 0 := by omega
 have e2 : ((j : Int) - 0).toNat = j := by omega
 have e3 : ((j : Int) - single.leastPlace).toNat = j + 149 := by rw [l1]; omega
 rw [e1, e2, e3, Nat.pow_zero, Nat.mul_one, cut_exact _ _ _ hk]
theorem near_big (neg : Bool) {mag : Nat} (h1 : 2 ^ 24 ≤ mag) (h2 : mag < 2 ^ 30) : ∃ k j, 2 ^ 23 ≤ k ∧ k < 2 ^ 24 ∧ 1 ≤ j ∧ j ≤ 7 ∧ single.nearest neg mag 0 = single.nearest neg (k * 2 ^ j) 0 := by
 have hm : mag ≠ 0 := by omega
 have a1 : mag.log2 < 30 := (Nat.log2_lt hm).2 h2
 have a2 : 24 ≤ mag.log2 := (Nat.le_log2 hm).2 h1
 obtain ⟨t, ht⟩ : ∃ t, mag.log2 = t + 23 := ⟨mag.log2 - 23, by omega⟩
 have l1 : single.leastPlace = -149 := by decide
 have l2 : (single.fractionBits : Int) = 23 := rfl
 have hlast : max ((0 : Int) + (mag.log2 : Int) - (single.fractionBits : Int)) single.leastPlace = (t : Int) := by rw [ht, l1, l2]; omega
 have hlo : 2 ^ (t + 23) ≤ mag := by rw [← ht]; exact Nat.log2_self_le hm
 have hhi : mag < 2 ^ (t + 24) := by have := Nat.lt_log2_self (n := mag); rwa [ht] at this
 have q1 : 2 ^ 23 ≤ mag / 2 ^ t := by
  rw [Nat.le_div_iff_mul_le (Nat.two_pow_pos _), ← Nat.pow_add, Nat.add_comm]; exact hlo
 have q2 : mag / 2 ^ t < 2 ^ 24 := by
  rw [Nat.div_lt_iff_lt_mul (Nat.two_pow_pos _), ← Nat.pow_add, Nat.add_comm]; exact hhi
 obtain ⟨b, hb, hcut⟩ : ∃ b, b ≤ 1 ∧ Toward.even.cut neg mag t = mag / 2 ^ t + b := by
  have hmin : min t (mag.log2 + 2) = t := by omega
  unfold Toward.cut
  simp only [hmin, shl, Nat.one_mul]
  exact ⟨_, Bool.toNat_le _, rfl⟩
 have hnear : single.nearest neg mag 0 = single.word neg (min ((t + 149) * single.binade + (mag / 2 ^ t + b)) single.infRung) := by
  unfold Format.nearest
  rw [if_neg hm, hlast]
  simp only [shl]
  have e1 : ((0 : Int) - (t : Int)).toNat = 0 := by omega
  have e2 : ((t : Int) - 0).toNat = t := by omega
  have e3 : ((t : Int) - single.leastPlace).toNat = t + 149 := by rw [l1]; omega
  rw [e1, e2, e3, Nat.pow_zero, Nat.mul_one, hcut]
 by_cases hk : mag / 2 ^ t + b < 2 ^ 24
 · exact ⟨mag / 2 ^ t + b, t, by omega, hk, by omega, by omega, by rw [hnear, near_exact neg (by omega) hk]⟩
 · have hk2 : mag / 2 ^ t + b = 2 ^ 24 := by omega
   refine ⟨2 ^ 23, t + 1, Nat.le_refl _, by decide, by omega, by omega, ?_⟩
   rw [hnear, near_exact neg (Nat.le_refl _) (by decide), hk2]
   have hbn : single.binade = 2 ^ 23 := rfl
   have e : (t + 149) * single.binade + 2 ^ 24 = (t + 1 + 149) * single.binade + 2 ^ 23 := by
    have e0 : (t + 1 + 149) * single.binade = (t + 149) * single.binade + single.binade := by rw [show t + 1 + 149 = (t + 149) + 1 by omega, Nat.succ_mul]
    rw [e0]
    obtain ⟨x, hx⟩ : ∃ x, x = (t + 149) * single.binade := ⟨_, rfl⟩
    rw [← hx]
    clear hx e0 hnear hcut hk hk2 q1 q2 hlo hhi
    omega
   rw [e]
theorem nearest_big {n : Int} (h1 : 2 ^ 24 ≤ n.natAbs) (h2 : n.natAbs < 2 ^ 30) : ∃ (c : Int) (j : Nat), Val single (FloatKind.f32.nearest n) (c * (2 ^ (j + 149) : Nat)) ∧ 2 ^ 23 ≤ c.natAbs ∧ c.natAbs < 2 ^ 24 ∧ 1 ≤ j ∧ j ≤ 7 := by
 obtain ⟨k, j, k1, k2, j1, j2, hn⟩ := near_big (decide (n < 0)) h1 h2
 have l1 : single.leastPlace = -149 := by decide
 obtain ⟨c, hc⟩ : ∃ c : Int, c = if decide (n < 0) then -(k : Int) else k := ⟨_, rfl⟩
 have hca : c.natAbs = k := by rw [hc]; split <;> omega
 refine ⟨c, j, ?_, by omega, by omega, j1, j2⟩
 have hw : FloatKind.f32.nearest n = single.write (.number (decide (n < 0)) (k * 2 ^ j) 0) := hn
 rw [hw]
 refine write_val single _ _ _ c (j + 149) (by rw [hca]; exact k2) ?_ ?_ ?_ (by decide)
 · have e1 : ((0 : Int) - single.leastPlace).toNat = 149 := by rw [l1]; rfl
   have e2 : (single.leastPlace - 0).toNat = 0 := by rw [l1]; rfl
   rw [e1, e2, Nat.pow_zero, Nat.mul_one, hca, Nat.pow_add, Nat.mul_assoc]
 · rw [hca]; exact hc
 · rw [hca]; exact pow_bound k2 (by show 24 + (j + 149) ≤ 23 + 2 ^ 8 - 2; omega)
theorem fb_mid {n : Int} (hn : n.natAbs < 2 ^ 24) : single.div (FloatKind.f32.nearest n) b16 = some (fb n) ∧ Val single (fb n) (n * (2 ^ 145 : Nat)) := by
 have h1 := nearest32 n hn
 have hW : n * (2 ^ u32 : Nat) = n * (2 ^ 145 : Nat) * 16 := by
  rw [Int.mul_assoc]; congr 1
 obtain ⟨r, hr, hv⟩ := div16 h1 hW ⟨n, 145, rfl, hn, by decide⟩
 have : fb n = r := by unfold fb; rw [hr]; rfl
 rw [this]; exact ⟨hr, hv⟩
theorem fb_any {n : Int} (hn : n.natAbs < 2 ^ 30) : single.div (FloatKind.f32.nearest n) b16 = some (fb n) ∧ ∃ V, Val single (fb n) V ∧ (2 ^ 20 ≤ n.natAbs → 2 ^ 20 * 2 ^ 145 ≤ V.natAbs) := by
 by_cases h : n.natAbs < 2 ^ 24
 · obtain ⟨a, b⟩ := fb_mid h
   exact ⟨a, _, b, fun h2 => by rw [natAbs_mul_pow]; exact Nat.mul_le_mul_right _ h2⟩
 · obtain ⟨c, j, hv, c1, c2, j1, j2⟩ := nearest_big (Nat.le_of_not_lt h) hn
   have hW : c * (2 ^ (j + 149) : Nat) = c * (2 ^ (j + 145) : Nat) * 16 := by
    rw [Int.mul_assoc]
    have e : (2 ^ (j + 149) : Nat) = 2 ^ (j + 145) * 16 := by rw [show j + 149 = (j + 145) + 4 by omega, Nat.pow_add]
    rw [e, Int.natCast_mul]; rfl
   obtain ⟨r, hr, hv2⟩ := div16 hv hW ⟨c, j + 145, rfl, c2, by omega⟩
   have : fb n = r := by unfold fb; rw [hr]; rfl
   rw [this]
   refine ⟨hr, _, hv2, fun _ => ?_⟩
   rw [natAbs_mul_pow, Nat.pow_add, ← Nat.mul_assoc]
   refine Nat.mul_le_mul_right _ (Nat.le_trans (show 2 ^ 20 ≤ 2 ^ 23 * 1 by decide) (Nat.mul_le_mul c1 (Nat.two_pow_pos _)))
theorem quo16_any {n : Int} (hn : n.natAbs < 2 ^ 30) (w : World) : (binOp .quo 56 (.float .f32 (floatOfInt .f32 n)) (.float .f32 1098907648)).run Tryz.prog w = .ok (.float .f32 (fb n)) w :=
 run_float_arith w .quo _ .f32 _ _ _ (fb_any hn).1
set_option maxHeartbeats 400000 in
theorem sampleOf_all (n : Int) (w : World) (hn : n.natAbs < 2 ^ 30) : Calls Tryz.prog 72 #[.int .i64 n] w fun e w' => e = .returned (.float .f32 (fb n)) ∧ w = w' := by
 have hq := fun w => quo16_any hn w
 go_enter Tryz.func72, Tryz.ntmps72
 go_wp2
 go_ret
 exact ⟨rfl, rfl⟩
end Go.Proofs.YtjdniebjhilooaaGreatDoor
namespace Go.Proofs.YtjdniebjhilooaaGreatDoor
set_option linter.all false
open Go.RowKit Go.Fl
def Pw (w : World) : Prop := ∀ j v, [(1 : Int), 0, 0, -1, -1, 0, 0, 1][j]? = some v → w.cell? ⟨0, j, none⟩ = some (.int .i64 v)
theorem Pw.at {w : World} (h : Pw w) (j : Nat) (v : Int) (hv : [(1 : Int), 0, 0, -1, -1, 0, 0, 1][j]? = some v) : w.cell? ⟨0, j, none⟩ = some (.int .i64 v) := h j v hv
theorem Pw.old {w w' : World} (h : Pw w) (hb : Below w.heap.size w w') : Pw w' := fun j v hv => (hb.cell (World.block_lt_of_cell? w _ (h j v hv))).trans (h j v hv)
def powR (n : Nat) : Int := if n % 4 = 0 then 1 else if n % 4 = 2 then -1 else 0
def powI (n : Nat) : Int := if n % 4 = 1 then -1 else if n % 4 = 3 then 1 else 0
def pb (n : Int) : Nat := if n = 1 then 1065353216 else if n = -1 then 3212836864 else 0
theorem pb_spec (n : Int) (h : n = 1 ∨ n = -1 ∨ n = 0) : S (pb n) (16 * n) := by
 rcases h with rfl | rfl | rfl
 · exact S.one
 · exact S.minus
 · exact S.zero
theorem powR_or (n : Nat) : powR n = 1 ∨ powR n = -1 ∨ powR n = 0 := by
 unfold powR
 by_cases h0 : n % 4 = 0
 · simp [h0]
 · by_cases h2 : n % 4 = 2 <;> simp [h0, h2]
theorem powI_or (n : Nat) : powI n = 1 ∨ powI n = -1 ∨ powI n = 0 := by
 unfold powI
 by_cases h0 : n % 4 = 1
 · simp [h0]
 · by_cases h2 : n % 4 = 3 <;> simp [h0, h2]
theorem ret_cx {a b c d : Nat} (h1 : a = c) (h2 : b = d) : Ending.returned (.complex .f32 a b) = .returned (.complex .f32 c d) := by rw [h1, h2]
theorem c0 : floatOfInt .f32 0 = 0 := by decide +kernel
theorem c1 : floatOfInt .f32 1 = 1065353216 := by decide +kernel
theorem cm : floatOfInt .f32 (-1) = 3212836864 := by decide +kernel
set_option maxHeartbeats 400000 in
theorem power_any (n : Nat) (w : World) (hw : Pw w) (hn : n < 1000000) : Calls Tryz.prog 94 #[.int .i64 n] w fun e w' => e = .returned (.complex .f32 (pb (powR n)) (pb (powI n))) ∧ Below w.heap.size w w' := by
 have hm : n % 4 = 0 ∨ n % 4 = 1 ∨ n % 4 = 2 ∨ n % 4 = 3 := by omega
 have H0 := hw.at 0 1 rfl
 have H1 := hw.at 1 0 rfl
 have H2 := hw.at 2 0 rfl
 have H3 := hw.at 3 (-1) rfl
 have H4 := hw.at 4 (-1) rfl
 have H5 := hw.at 5 0 rfl
 have H6 := hw.at 6 0 rfl
 have H7 := hw.at 7 1 rfl
 have hlt := World.block_lt_of_cell? w _ H0
 rcases hm with h | h | h | h
 · have hp : Hid (pb (powR n) = 1065353216 ∧ pb (powI n) = 0) := by unfold Hid powR powI; simp [h]; decide
   have hi : (n : Int) % 4 = 0 := by omega
   clear h hw H2 H3 H4 H5 H6 H7
   go_enter Tryz.func94, Tryz.ntmps94
   go_wp2
   go_ret
   exact ⟨ret_cx (by rw [hp.out.1]; exact c1) (by rw [hp.out.2]; exact c0), by repeat (first | exact Below.refl _ _ | refine below_drewN ?_ _ | refine Below.drew ?_ | refine Below.alloc ?_ (by simp) _)⟩
 · have hp : Hid (pb (powR n) = 0 ∧ pb (powI n) = 3212836864) := by unfold Hid powR powI; simp [h]; decide
   have hi : (n : Int) % 4 = 1 := by omega
   clear h hw H0 H1 H4 H5 H6 H7
   go_enter Tryz.func94, Tryz.ntmps94
   go_wp2
   go_ret
   exact ⟨ret_cx (by rw [hp.out.1]; exact c0) (by rw [hp.out.2]; exact cm), by repeat (first | exact Below.refl _ _ | refine below_drewN ?_ _ | refine Below.drew ?_ | refine Below.alloc ?_ (by simp) _)⟩
 · have hp : Hid (pb (powR n) = 3212836864 ∧ pb (powI n) = 0) := by unfold Hid powR powI; simp [h]; decide
   have hi : (n : Int) % 4 = 2 := by omega
   clear h hw H0 H1 H2 H3 H6 H7
   go_enter Tryz.func94, Tryz.ntmps94
   go_wp2
   go_ret
   exact ⟨ret_cx (by rw [hp.out.1]; exact cm) (by rw [hp.out.2]; exact c0), by repeat (first | exact Below.refl _ _ | refine below_drewN ?_ _ | refine Below.drew ?_ | refine Below.alloc ?_ (by simp) _)⟩
 · have hp : Hid (pb (powR n) = 0 ∧ pb (powI n) = 1065353216) := by unfold Hid powR powI; simp [h]; decide
   have hi : (n : Int) % 4 = 3 := by omega
   clear h hw H0 H1 H2 H3 H4 H5
   go_enter Tryz.func94, Tryz.ntmps94
   go_wp2
   go_ret
   exact ⟨ret_cx (by rw [hp.out.1]; exact c0) (by rw [hp.out.2]; exact c1), by repeat (first | exact Below.refl _ _ | refine below_drewN ?_ _ | refine Below.drew ?_ | refine Below.alloc ?_ (by simp) _)⟩
def fourP (a : List Int) (k : Nat) : Nat → Int × Int
 | 0 => (0, 0)
 | n + 1 => ((fourP a k n).1 + a.getD n 0 * powR (k * n), (fourP a k n).2 + a.getD n 0 * powI (k * n))
theorem mul_small {x : Int} {M : Nat} (hx : x.natAbs ≤ M) {p : Int} (hp : p = 1 ∨ p = -1 ∨ p = 0) : (x * p).natAbs ≤ M := by
 rcases hp with rfl | rfl | rfl
 · simpa using hx
 · simpa using hx
 · simp
theorem fourP_bd (a : List Int) (k n : Nat) (ha : ∀ j, (a.getD j 0).natAbs ≤ 16384) : (fourP a k n).1.natAbs ≤ 16384 * n ∧ (fourP a k n).2.natAbs ≤ 16384 * n := by
 induction n with
 | zero => simp [fourP]
 | succ n ih =>
   have h1 := mul_small (ha n) (powR_or (k * n))
   have h2 := mul_small (ha n) (powI_or (k * n))
   simp only [fourP]
   omega
def cxs (ps : List (Nat × Nat)) : List Value := ps.map fun p => .complex .f32 p.1 p.2
theorem cxs_length (ps : List (Nat × Nat)) : (cxs ps).length = ps.length := by simp [cxs]
theorem cxs_set (ps : List (Nat × Nat)) (k r i : Nat) : (cxs ps).set k (.complex .f32 r i) = cxs (ps.set k (r, i)) := by simp [cxs, List.map_set]
theorem cxs_one (ps : List (Nat × Nat)) : ∀ v ∈ cxs ps, v.oneCell' = true := by
 intro v hv
 simp [cxs] at hv
 obtain ⟨x, y, _, rfl⟩ := hv
 rfl
def PaN (a : List Int) (k n j : Nat) : Int × Int := if j < k then fourP a j 4 else if j = k then fourP a k n else (0, 0)
def Pa (a : List Int) (k n : Nat) (ps : List (Nat × Nat)) : Prop := ps.length = 4 ∧ ∀ j (h : j < ps.length), S ps[j].1 (PaN a k n j).1 ∧ S ps[j].2 (PaN a k n j).2
theorem Pa.start (a : List Int) : Pa a 0 0 [(0, 0), (0, 0), (0, 0), (0, 0)] := by
 refine ⟨rfl, fun j h => ?_⟩
 have hz : PaN a 0 0 j = (0, 0) := by unfold PaN fourP; simp
 rw [hz]
 have : [((0 : Nat), (0 : Nat)), (0, 0), (0, 0), (0, 0)][j] = (0, 0) := by
  have h4 : j < 4 := h
  match j, h4 with
  | 0, _ => rfl
  | 1, _ => rfl
  | 2, _ => rfl
  | 3, _ => rfl
 rw [this]; exact ⟨S.zero, S.zero⟩
theorem Pa.next {a : List Int} {k : Nat} {ps : List (Nat × Nat)} (h : Pa a k 4 ps) : Pa a (k + 1) 0 ps := by
 refine ⟨h.1, fun j hj => ?_⟩
 have e : PaN a (k + 1) 0 j = PaN a k 4 j := by
  unfold PaN
  by_cases h1 : j < k
  · have : j < k + 1 := by omega
    simp [h1, this]
  · by_cases h2 : j = k
    · subst h2; simp
    · have h3 : ¬ j < k + 1 := by omega
      simp only [h1, h2, h3, if_false]
      by_cases h4 : j = k + 1 <;> simp [h4, fourP]
 rw [e]; exact h.2 j hj
theorem Pa.at {a : List Int} {k n : Nat} {ps : List (Nat × Nat)} (h : Pa a k n ps) (hk : k < 4) : ∃ r i, (cxs ps)[k]? = some (.complex .f32 r i) ∧ S r (fourP a k n).1 ∧ S i (fourP a k n).2 := by
 have hk' : k < ps.length := by rw [h.1]; exact hk
 obtain ⟨h1, h2⟩ := h.2 k hk'
 have e : PaN a k n k = fourP a k n := by unfold PaN; simp
 rw [e] at h1 h2
 exact ⟨ps[k].1, ps[k].2, by simp [cxs, hk'], h1, h2⟩
theorem Pa.step {a : List Int} {k n : Nat} {ps : List (Nat × Nat)} (h : Pa a k n ps) (hk : k < 4) {r i : Nat} (h1 : S r (fourP a k (n + 1)).1) (h2 : S i (fourP a k (n + 1)).2) : Pa a k (n + 1) (ps.set k (r, i)) := by
 refine ⟨by simpa using h.1, fun j hj => ?_⟩
 rw [List.getElem_set]
 by_cases hjk : k = j
 · subst hjk
   have e : PaN a k (n + 1) k = fourP a k (n + 1) := by unfold PaN; simp
   rw [if_pos rfl, e]; exact ⟨h1, h2⟩
 · rw [if_neg hjk]
   have e : PaN a k (n + 1) j = PaN a k n j := by unfold PaN; have : ¬ j = k := fun x => hjk x.symm; simp [this]
   rw [e]; exact h.2 j (by simpa using hj)
theorem info147 : (Tryz.prog.info? 96).map (·.size) = some 4 := by kernel_rfl
theorem info150 : (Tryz.prog.info? 99).map (·.size) = some 4 := by kernel_rfl
theorem Pw.set {w : World} (h : Pw w) {p : Addr} (hp : p.block ≠ 0) (u : Value) : Pw (w.setCell p u) := fun j v hv => (World.cell?_setCell_other w p _ u (fun e => hp (by rw [e]))).trans (h j v hv)
theorem keepF {wr w1 w2 : World} {p k : Nat} {t : TypeId} {vs : List Value} {v : Value} (hv : vs[k]? = some v)
 (h : w1.cell? ⟨p, k, none⟩ = some v ∧ w1.frozen? ⟨p, k, none⟩ = false ∧ Row w1 p t vs ∧ Below wr.heap.size wr w1 ∧ Pw w1) (hb : Below w1.heap.size w1 w2) :
 w2.cell? ⟨p, k, none⟩ = some v ∧ w2.frozen? ⟨p, k, none⟩ = false ∧ Row w2 p t vs ∧ Below wr.heap.size wr w2 ∧ Pw w2 := by
 obtain ⟨_, _, hr, hbb, hp⟩ := h
 have hr2 := hr.old hb
 exact ⟨by rw [hr2.cell]; exact hv, hr2.free k, hr2, hbb.trans (hb.mono hbb.size), hp.old hb⟩
theorem toF {wr : World} {p k : Nat} {t : TypeId} {vs : List Value} {v : Value} (hv : vs[k]? = some v) (hr : Row wr p t vs) (hp : Pw wr) :
 wr.cell? ⟨p, k, none⟩ = some v ∧ wr.frozen? ⟨p, k, none⟩ = false ∧ Row wr p t vs ∧ Below wr.heap.size wr wr ∧ Pw wr :=
 ⟨by rw [hr.cell]; exact hv, hr.free k, hr, Below.refl _ _, hp⟩
theorem index_four (x0 x1 x2 x3 : Nat) (n x : Nat) (hn : n < 4) (hx : [x0, x1, x2, x3][n]? = some x) (w : World) :
 (Instr.index 99 (.agg #[.float .f32 x0, .float .f32 x1, .float .f32 x2, .float .f32 x3]) (.int .i64 (n : Int))).run Tryz.prog w = .ok (.float .f32 x) w := by
 rcases (show n = 0 ∨ n = 1 ∨ n = 2 ∨ n = 3 by omega) with rfl | rfl | rfl | rfl
 all_goals (simp at hx; subst hx; kernel_rfl)
theorem four_run (a : List Int) (k n : Nat) (x r i : Nat) (ha : ∀ j, (a.getD j 0).natAbs ≤ 16384) (hn : n < 4) (hx : S x (a.getD n 0)) (hr : S r (fourP a k n).1) (hi : S i (fourP a k n).2) :
 ∃ r1 i1 r2 i2, (∀ w, (binOp .mul 95 (.complex .f32 x 0) (.complex .f32 (pb (powR (k * n))) (pb (powI (k * n))))).run Tryz.prog w = .ok (.complex .f32 r1 i1) w) ∧
   (∀ w, (binOp .add 95 (.complex .f32 r i) (.complex .f32 r1 i1)).run Tryz.prog w = .ok (.complex .f32 r2 i2) w) ∧ S r2 (fourP a k (n + 1)).1 ∧ S i2 (fourP a k (n + 1)).2 := by
 have p1 := powR_or (k * n)
 have p2 := powI_or (k * n)
 have b1 := mul_small (ha n) p1
 have b2 := mul_small (ha n) p2
 obtain ⟨r1, i1, s1, s2, hm⟩ := cmul (P := Tryz.prog) 95 hx S.zero (pb_spec _ p1) (pb_spec _ p2) (by omega) (by simp) (by omega) (by simp)
 have bd := fourP_bd a k (n + 1) ha
 have e1 : (fourP a k n).1 + (a.getD n 0 * powR (k * n) - 0 * powI (k * n)) = (fourP a k (n + 1)).1 := by simp [fourP]
 have e2 : (fourP a k n).2 + (a.getD n 0 * powI (k * n) + 0 * powR (k * n)) = (fourP a k (n + 1)).2 := by simp [fourP]
 obtain ⟨r2, i2, t1, t2, hs⟩ := cadd (P := Tryz.prog) 95 hr hi s1 s2 (by rw [e1]; omega) (by rw [e2]; omega)
 rw [e1] at t1; rw [e2] at t2
 exact ⟨r1, i1, r2, i2, hm, hs, t1, t2⟩
set_option maxRecDepth 100000 in
set_option maxHeartbeats 4000000 in
theorem four_ok (x0 x1 x2 x3 : Nat) (a : List Int) (w : World) (hw : Pw w) (ha : ∀ j, (a.getD j 0).natAbs ≤ 16384) (hS : ∀ j (h : j < [x0, x1, x2, x3].length), S [x0, x1, x2, x3][j] (a.getD j 0)) (h0 : sampsI [x0, x1, x2, x3] = 0) :
 Calls Tryz.prog 33 #[.agg #[.float .f32 x0, .float .f32 x1, .float .f32 x2, .float .f32 x3]] w fun e w' => ∃ ps, e = .returned (.tuple #[.agg (cxs ps).toArray, .int .i64 0]) ∧ Pa a 4 0 ps ∧ Below w.heap.size w w' := by
 have hg : 0 < w.heap.size := World.block_lt_of_cell? w _ (hw.at 0 1 rfl)
 have Hg := Lib.hid hg; clear hg
 have Hw := Lib.hid hw; have Ha := Lib.hid ha; have HS := Lib.hid hS; have H0 := Lib.hid h0
 clear hw ha hS h0
 go_enter Tryz.func33, Tryz.ntmps33
 go_wp2_with fail
 refine (checkSamples_any _ _ _ [x0, x1, x2, x3] _ ?_ rfl).mono ?_
 · exact Rd.below (Rd.new w (flts [x0, x1, x2, x3]).toArray 99 _ rfl) ((Below.refl _ _).alloc (Nat.le_refl _) _)
 rintro e w1 ⟨rfl, hb1⟩
 rw [H0.out]
 have hl : Row w1 w.heap.size 99 (flts [x0, x1, x2, x3]) := Row.old ((Row.new w 99 (flts [x0, x1, x2, x3])).alloc _) hb1
 have hres : Row w1 (w.heap.size + 1) 96 (cxs [(0, 0), (0, 0), (0, 0), (0, 0)]) := by
  have h := Row.new (w.alloc (.cells (flts [x0, x1, x2, x3]).toArray 99)) 96 (cxs [(0, 0), (0, 0), (0, 0), (0, 0)])
  rw [World.size_alloc] at h
  exact h.old hb1
 have hb0 : Below w.heap.size w w1 := (((Below.refl w.heap.size w).alloc (Nat.le_refl _) _).alloc (by simp) _).trans (hb1.mono (by simp; omega))
 have hp1 : Pw w1 := Hw.out.old hb0
 have hs1 : w.heap.size + 2 ≤ w1.heap.size := by have := hb1.size; simp at this; omega
 have Hl := Lib.hid hl; have Hres := Lib.hid hres; have Hb0 := Lib.hid hb0; have Hp1 := Lib.hid hp1
 clear hl hres hb0 hp1 hb1
 go_wp2
 go_loopw [15] (fun i wr => ∃ (k : Nat) (ps : List (Nat × Nat)), k ≤ 4 ∧ i = .int .i64 k ∧ Hid (Pa a k 0 ps) ∧ Row wr w1.heap.size 96 (cxs ps) ∧ Hid (Row wr w.heap.size 99 (flts [x0, x1, x2, x3])) ∧ Hid (Row wr (w.heap.size + 1) 96 (cxs [(0, 0), (0, 0), (0, 0), (0, 0)])) ∧ Hid (Pw wr) ∧ Hid (Below w.heap.size w wr)) (fun i _ => 4 - (intOf i).toNat)
 case atStart => exact ⟨0, _, Nat.zero_le _, rfl, Pa.start a, Row.new w1 96 (cxs [(0, 0), (0, 0), (0, 0), (0, 0)]), Hl.out.alloc _, Hres.out.alloc _, Hp1.out.old ((Below.refl _ _).alloc (Nat.le_refl _) _), Hb0.out.alloc (by omega) _⟩
 case round =>
  obtain ⟨k, ps, hk, rfl, hpa, hrow, hl, hres, hp, hb⟩ := hrel
  by_cases hlt : k < 4
  · have hl4 : Hid (wr.heap[w.heap.size]? = some (.cells #[.float .f32 x0, .float .f32 x1, .float .f32 x2, .float .f32 x3] 99 (0, 0))) := hl.out
    have Hrow := Lib.hid hrow
    clear hrow
    go_wp2_with (refine wpList_load_row rfl 99 _ rfl w.heap.size rfl 99 #[.float .f32 x0, .float .f32 x1, .float .f32 x2, .float .f32 x3] (0, 0) _ hl4.out Tryz.underlying99 rfl ?_ ?_; (rw [info150]; rfl))
    go_loopw [19] (fun i wn => ∃ (n : Nat) (qs : List (Nat × Nat)), n ≤ 4 ∧ i = .int .i64 n ∧ Hid (Pa a k n qs) ∧ Row wn w1.heap.size 96 (cxs qs) ∧ Hid (Row wn w.heap.size 99 (flts [x0, x1, x2, x3])) ∧ Hid (Row wn (w.heap.size + 1) 96 (cxs [(0, 0), (0, 0), (0, 0), (0, 0)])) ∧ Hid (Pw wn) ∧ Hid (Below w.heap.size w wn)) (fun i _ => 4 - (intOf i).toNat)
    case atStart => exact ⟨0, ps, Nat.zero_le _, rfl, hpa, Hrow.out, hl, hres, hp, hb⟩
    case round =>
     clear hl hres hp hb hpa Hrow hl4
     obtain ⟨n, qs, hn, rfl, hpa, hrow, hl, hres, hp, hb⟩ := hrel
     by_cases hlt2 : n < 4
     · obtain ⟨r, i, hv, sr, si⟩ := hpa.out.at hlt
       obtain ⟨z, hz⟩ : ∃ z, z = k * n := ⟨_, rfl⟩
       have hzi : (k : Int) * (n : Int) = (z : Int) := by rw [hz, Int.natCast_mul]
       have hzb : z < 1000000 := by
        have := Nat.mul_le_mul (show k ≤ 4 by omega) (show n ≤ 4 by omega); omega
       obtain ⟨x, hx, hxs⟩ : ∃ x, [x0, x1, x2, x3][n]? = some x ∧ S x (a.getD n 0) := by
        have h4 : n < [x0, x1, x2, x3].length := hlt2
        exact ⟨_, List.getElem?_eq_getElem h4, HS.out n h4⟩
       obtain ⟨r1, i1, r2, i2, hm, hs, s1, s2⟩ := four_run a k n x r i Ha.out hlt2 hxs sr si
       rw [← hz] at hm
       have hwr : IntKind.i64.wrap ((k : Int) * (n : Int)) = (z : Int) := by rw [hzi]; exact IntWalk.i64_in _ (by omega)
       clear hzi
       have Hzb := Lib.hid hzb
       clear hzb
       have hix := fun W => index_four x0 x1 x2 x3 n x hlt2 hx W
       have Hst := Lib.hid (hpa.out.step hlt s1 s2)
       have hset := Lib.hid (cxs_set qs k r2 i2)
       have Hv := Lib.hid hv
       clear sr si hxs s1 s2 hz hx hv
       have hS0 := toF (k := k) Hv.out hrow hp.out
       have hc := hS0.1
       have hf := hS0.2.1
       have Hrow := Lib.hid hrow
       have Hcall : Hid (Calls Tryz.prog 94 #[.int .i64 z] wr.drew fun e w' => e = .returned (.complex .f32 (pb (powR z)) (pb (powI z))) ∧ w'.cell? ⟨w1.heap.size, k, none⟩ = some (.complex .f32 r i) ∧ w'.frozen? ⟨w1.heap.size, k, none⟩ = false ∧ Hid (Row w' w1.heap.size 96 (cxs qs)) ∧ Hid (Below wr.heap.size wr w')) := by
        refine (power_any z wr.drew hp.out Hzb.out).mono ?_
        rintro e w' ⟨rfl, hb1⟩
        have h2 := keepF Hv.out hS0 ((Below.refl _ wr).drew.trans hb1)
        exact ⟨rfl, h2.1, h2.2.1, h2.2.2.1, h2.2.2.2.1⟩
       clear hrow hS0
       go_wp2
       go_region_with ((go_at_call 94; refine Hcall.out.mono ?_; rintro e w' ⟨rfl, hc', hf', hr', hb'⟩))
       all_goals go_wp2
       all_goals go_roundw
       all_goals first | (exact ⟨n + 1, qs.set k (r2, i2), by omega, by go_num, Hst.out, by rw [← hset.out]; exact hr'.out.set k _, (hl.out.old hb'.out).far (by simp; omega) _, (hres.out.old hb'.out).far (by simp; omega) _, (hp.out.old hb'.out).set (Nat.ne_of_gt (by have := Hg.out; show _ < w1.heap.size; omega)) _, (hb.out.trans (hb'.out.mono hb.out.size)).setCell (by simp; omega) _⟩) | (simp [intOf]; omega)
     · obtain rfl : n = 4 := by omega
       have Hrow := Lib.hid hrow
       clear hrow
       go_wp2
       go_roundw
       case rel => exact ⟨k + 1, qs, by omega, by go_num, hpa.out.next, Hrow.out, hl, hres, hp, hb⟩
       case measure => simp [intOf]; omega
  · obtain rfl : k = 4 := by omega
    have hlen : ps.length = 4 := hpa.out.1
    obtain ⟨vs, hvs⟩ : ∃ vs, vs = cxs ps := ⟨_, rfl⟩
    have h1 : ∀ v ∈ vs, v.oneCell' = true := by rw [hvs]; exact cxs_one ps
    have hvl : vs.length = 4 := by rw [hvs, cxs_length, hlen]
    rw [← hvs] at hrow
    have Hrow := Lib.hid hrow; have H1 := Lib.hid h1; have Hvl := Lib.hid hvl; have Hvs := Lib.hid hvs
    clear hrow h1 hvl hlen hvs
    go_wp2_with (first | (refine wpList_load_row rfl 96 _ rfl w1.heap.size rfl 96 vs.toArray (0, 0) _ Hrow.out Tryz.underlying96 rfl ?_ ?_; (rw [info147]; simp [Hvl.out])) | (refine wpList_store_row rfl 96 _ _ rfl (w.heap.size + 1) vs.toArray rfl rfl 96 _ hres.out ?_ ?_ ?_ ?_; (rw [info147]; simp [Hvl.out]); (simp [Hvl.out, cxs]); (simpa using H1.out)))
    refine bodyPost_ret (results_row_tmp rfl _ _ (w.heap.size + 1) 96 vs.toArray (0, 0) _ rfl (hres.out.setRow vs) Tryz.underlying96 rfl ?_) rfl ?_
    · rw [info147]; simp [Hvl.out]
    · exact ⟨ps, by rw [← Hvs.out]; rfl, hpa.out, Below.setRow hb.out (by simp) _⟩
end Go.Proofs.YtjdniebjhilooaaGreatDoor
