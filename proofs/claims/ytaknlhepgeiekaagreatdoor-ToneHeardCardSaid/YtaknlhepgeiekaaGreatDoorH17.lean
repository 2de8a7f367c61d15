import Derived.Test.YtaknlhepgeiekaaGreatDoorH14
import Derived.WideMake
import Derived.WalkMore
namespace Go.Proofs.YtaknlhepgeiekaaGreatDoor
set_option linter.all false
open Go.RowKit Go.Fl
theorem run_update_new {P : Program} {w : World} (mty kt et : TypeId) (r clock : Nat) (es : Array MapEntry) (s : ByteArray) (val : Value) (hm : P.underlying mty = some (.map kt et)) (hk : P.underlying kt = some .string) (hb : w.heap[r]? = some (.map es clock)) (hf : Instr.findNow .string (.string s) es.toList 0 = some none) :
 (Instr.mapUpdate mty (.map (some r)) (.string s) val).run P w = .ok () { w with heap := w.heap.setIfInBounds r (.map (es.push { key := .string s, val := val, born := clock }) (clock + 1)) } := by
 have hc : (Instr.checkKey false 10000 kt (.string s)).run P w = .ok () w := MapKept.run_checkKey (k := .string s) hk (by simp [MapKept.IsKey]) false 9999
 simp [Instr.mapUpdate, run_underlying hm, MapKept.run_getObj_map hb, hc, MapKept.run_findKey hk hf, MapKept.run_setObj_map _ hb, Result.andThen]
theorem run_lookup_now {P : Program} {w : World} (mty kt et : TypeId) (r clock i : Nat) (es : Array MapEntry) (s : ByteArray) (v : Value) (hm : P.underlying mty = some (.map kt et)) (hk : P.underlying kt = some .string) (hb : w.heap[r]? = some (.map es clock)) (hf : Instr.findNow .string (.string s) es.toList 0 = some (some (i, v))) :
 (Instr.lookup mty (.map (some r)) (.string s) false).run P w = .ok v w := by
 have hc : (Instr.checkKey es.isEmpty 10000 kt (.string s)).run P w = .ok () w := MapKept.run_checkKey (k := .string s) hk (by simp [MapKept.IsKey]) es.isEmpty 9999
 simp [Instr.lookup, run_underlying hm, MapKept.run_getObj_map hb, hc, MapKept.run_findKey hk hf, Result.andThen]
def MapAt (w : World) (g : Nat) (es : Array MapEntry) (n : Nat) : Prop := w.heap[g]? = some (.map es n)
def putMap (w : World) (g : Nat) (es : Array MapEntry) (n : Nat) : World := { w with heap := w.heap.setIfInBounds g (.map es n) }
theorem MapAt.new (w : World) : MapAt (w.alloc (.map #[] 0)) w.heap.size #[] 0 := heap_alloc_new w _
theorem MapAt.lt {w : World} {g n : Nat} {es : Array MapEntry} (h : MapAt w g es n) : g < w.heap.size := (Array.getElem?_eq_some_iff.1 h).1
theorem MapAt.old {w w' : World} {g n : Nat} {es : Array MapEntry} (h : MapAt w g es n) (hb : Below w.heap.size w w') : MapAt w' g es n := (hb.block g h.lt).trans h
theorem MapAt.drew {w : World} {g n : Nat} {es : Array MapEntry} (h : MapAt w g es n) : MapAt w.drew g es n := h
theorem MapAt.put {w : World} {g n n' : Nat} {es es' : Array MapEntry} (h : MapAt w g es n) : MapAt (putMap w g es' n') g es' n' := by
 unfold MapAt putMap
 show (w.heap.setIfInBounds g (.map es' n'))[g]? = _
 rw [Array.getElem?_setIfInBounds_self_of_lt h.lt]
theorem Row.putM {w : World} {g h : Nat} {t : TypeId} {vs : List Value} (hr : Row w g t vs) (hne : h ≠ g) (es : Array MapEntry) (n : Nat) : Row (putMap w h es n) g t vs := by
 have e : (putMap w h es n).heap[g]? = w.heap[g]? := by
  show (w.heap.setIfInBounds h (.map es n))[g]? = _
  rw [Array.getElem?_setIfInBounds_ne hne]
 exact e.trans hr
theorem Below.putM {B : Nat} {w0 w : World} (hb : Below B w0 w) {g : Nat} (hg : B ≤ g) (es : Array MapEntry) (n : Nat) : Below B w0 (putMap w g es n) := by
 refine ⟨hb.os, hb.tape, hb.output, ?_, fun k hk => ?_⟩
 · show w0.heap.size ≤ (w.heap.setIfInBounds g (.map es n)).size
   rw [Array.size_setIfInBounds]; exact hb.size
 · show (w.heap.setIfInBounds g (.map es n))[k]? = _
   rw [Array.getElem?_setIfInBounds_ne (by omega)]
   exact hb.block k hk
theorem step_insert {P : Program} {ops : Array Oper} {o : Oper} {a : Act} {w : World} {K : Act → World → Prop} {Q : Exit → Act → World → Prop} {E : Prop} (hgd : o.guard = none) (t kt et : TypeId) (m k x : Operand) (ho : o.op = .insert t m k x)
 (g n : Nat) (es : Array MapEntry) (s : ByteArray) (xv : Value) (hm : a.eval m = .map (some g)) (hk : a.eval k = .string s) (hx : a.eval x = xv) (ht : P.underlying t = some (.map kt et)) (hkt : P.underlying kt = some .string)
 (hat : MapAt w g es n) (hf : Instr.findNow .string (.string s) es.toList 0 = some none) (h : K (a.put o.dst undef) (putMap w g (es.push { key := .string s, val := xv, born := n }) (n + 1))) :
 if Region.wanted o (yielded ops a.tmps) = true then Oper.wp P o a w K Q else E := by
 have hw : Region.wanted o (yielded ops a.tmps) = true := by simp [Region.wanted, hgd]
 rw [if_pos hw]
 unfold Oper.wp execOp
 simp only [ho, hm, hk, hx, Sem.run_bind, run_update_new t kt et g n es s xv ht hkt hat hf, Result.andThen_ok, Sem.run_pure]
 exact h
theorem step_shun {P : Program} {os : Array Oper} {o : Oper} {a : Act} {w : World} {K : Act → World → Prop} {Q : Exit → Act → World → Prop} (hw : Region.wanted o (yielded os a.tmps) = false) (h : K (a.put o.dst undef) w) :
 if Region.wanted o (yielded os a.tmps) = true then Oper.wp P o a w K Q else K (a.put o.dst undef) w := by rw [if_neg (by simp [hw])]; exact h
theorem memo_use {P : Program} {md : Region.Mode} {os : Array Oper} {Q : Exit → Act → World → Prop} {S : World → Prop} {f f' : Nat} {l l' : Array Bool} {a : Act} {w : World} (hf : f = f') (hl : l = l') (h : wpAnyH P md os Q S f' l' a w) : wpAnyH P md os Q S f l a w := by rw [hf, hl]; exact h
theorem key0 {P : Program} {md : Region.Mode} {os : Array Oper} {Q : Exit → Act → World → Prop} {S : World → Prop} {f : Nat} {l : Array Bool} {a : Act} {w : World} (f' : Nat) (l' : Array Bool) (a' : Act) (h1 : ∀ V, S V → wpAnyH P md os Q S f' l' a' V) (h2 : (∀ V, S V → wpAnyH P md os Q S f' l' a' V) → wpAnyH P md os Q S f l a w) : wpAnyH P md os Q S f l a w := h2 h1
theorem keyM {P : Program} {md : Region.Mode} {os : Array Oper} {Q : Exit → Act → World → Prop} {S : World → Prop} {f : Nat} {l : Array Bool} {a : Act} {w : World} (B : Nat) (es : Array MapEntry) (n : Nat) (f' : Nat) (l' : Array Bool) (a' : Nat → Act) (h1 : ∀ g V, B ≤ g → S V → MapAt V g es n → wpAnyH P md os Q S f' l' (a' g) V) (h2 : (∀ g V, B ≤ g → S V → MapAt V g es n → wpAnyH P md os Q S f' l' (a' g) V) → wpAnyH P md os Q S f l a w) : wpAnyH P md os Q S f l a w := h2 h1
def lst (n : Nat) (ds : List Nat) : Array Bool := ds.foldl (fun l i => l.setIfInBounds i true) (Array.replicate n false)
def flagS (b d : Bool) : ByteArray := if b then ⟨#[119, 101, 97, 107]⟩ else if d then ⟨#[100, 101, 112, 116, 104]⟩ else ⟨#[]⟩
set_option maxRecDepth 100000 in
set_option maxHeartbeats 16000000 in
theorem flag_any (rs rf rl ra rb a b c d x y N Q C1 C2 : Int) (w : World) (h1 : Gs a b) (h2 : Gs c d) (h3 : Gs x y) (hN : N = (c * a + d * b + (x * a + y * b)) * 1000) (hQ : Q = a * a + b * b) (bN : N.natAbs ≤ 1000000000000) (bQ : Q.natAbs ≤ 1000000000) (ha : ra.natAbs ≤ 10000) (hb : rb.natAbs ≤ 10000) (hC1 : C1 = cmpI N (ra * Q)) (hC2 : C2 = cmpI N (rb * Q)) (B0 : Bool) (hB0 : B0 = decide (Q < rl)) (D : Bool) (hD : D = (decide (C1 < 0) || decide (0 < C2))) : Calls Tryz.prog 95 #[.agg #[.int .i64 rs, .int .i64 rf, .int .i64 rl, .int .i64 ra, .int .i64 rb], .agg #[.int .i64 a, .int .i64 b, .int .i64 c, .int .i64 d, .int .i64 x, .int .i64 y]] w fun e w' => e = .returned (.string (flagS B0 D)) ∧ Below w.heap.size w w' := by
 have q1 : Q * 1 = Q := Int.mul_one Q
 have n1 : N * 1 = N := Int.mul_one N
 have m1 : (ra * Q).natAbs ≤ 10000 * 1000000000 := by rw [Int.natAbs_mul]; exact Nat.mul_le_mul ha bQ
 have m2 : (rb * Q).natAbs ≤ 10000 * 1000000000 := by rw [Int.natAbs_mul]; exact Nat.mul_le_mul hb bQ
 obtain ⟨P, hP⟩ : ∃ P, P = c * a + d * b + (x * a + y * b) := ⟨_, rfl⟩
 rw [← hP] at hN
 have HSU : Hid (∀ W, Calls Tryz.prog 83 #[.agg #[.int .i64 a, .int .i64 b, .int .i64 c, .int .i64 d, .int .i64 x, .int .i64 y]] W fun e w' => e = .returned (.agg #[.int .i64 P, .int .i64 Q]) ∧ Below W.heap.size W w') := fun W => by rw [hP, hQ]; exact sum_any a b c d x y W h1 h2 h3
 have HI0 : Hid (∀ W, Calls Tryz.prog 76 #[.int .i64 1000] W fun e w' => e = .returned (.agg #[.int .i64 1000, .int .i64 1]) ∧ Below W.heap.size W w') := fun W => integer_anyT 1000 W
 have HT : Hid (∀ W, Calls Tryz.prog 134 #[.agg #[.int .i64 P, .int .i64 Q], .agg #[.int .i64 1000, .int .i64 1]] W fun e w' => e = .returned (.agg #[.int .i64 N, .int .i64 Q]) ∧ Below W.heap.size W w') := fun W => by have h := timesQ_any P Q 1000 1 W (by rw [← hN]; omega) (by rw [q1]; omega); rw [q1, ← hN] at h; exact h
 have HQ : Hid (∀ W, Calls Tryz.prog 132 #[.agg #[.int .i64 a, .int .i64 b, .int .i64 c, .int .i64 d, .int .i64 x, .int .i64 y]] W fun e w' => e = .returned (.int .i64 Q) ∧ Below W.heap.size W w') := fun W => by rw [hQ]; exact squareS_any a b c d x y W h1
 have HI1 : Hid (∀ W, Calls Tryz.prog 76 #[.int .i64 ra] W fun e w' => e = .returned (.agg #[.int .i64 ra, .int .i64 1]) ∧ Below W.heap.size W w') := fun W => integer_anyT ra W
 have HI2 : Hid (∀ W, Calls Tryz.prog 76 #[.int .i64 rb] W fun e w' => e = .returned (.agg #[.int .i64 rb, .int .i64 1]) ∧ Below W.heap.size W w') := fun W => integer_anyT rb W
 have HC1 : Hid (∀ W, Calls Tryz.prog 73 #[.agg #[.int .i64 N, .int .i64 Q], .agg #[.int .i64 ra, .int .i64 1]] W fun e w' => e = .returned (.int .i64 C1) ∧ Below W.heap.size W w') := fun W => by have h := compareQ_any N Q ra 1 W (by rw [n1]; omega) (by omega); rw [n1, ← hC1] at h; exact h
 have HC2 : Hid (∀ W, Calls Tryz.prog 73 #[.agg #[.int .i64 N, .int .i64 Q], .agg #[.int .i64 rb, .int .i64 1]] W fun e w' => e = .returned (.int .i64 C2) ∧ Below W.heap.size W w') := fun W => by have h := compareQ_any N Q rb 1 W (by rw [n1]; omega) (by omega); rw [n1, ← hC2] at h; exact h
 have hi0 : ∀ w, (Instr.index 215 (.agg #[.string ⟨#[119, 101, 97, 107]⟩, .string ⟨#[100, 101, 112, 116, 104]⟩]) (.int .i64 0)).run Tryz.prog w = .ok (.string ⟨#[119, 101, 97, 107]⟩) w := fun w => by kernel_rfl
 have hi1 : ∀ w, (Instr.index 215 (.agg #[.string ⟨#[119, 101, 97, 107]⟩, .string ⟨#[100, 101, 112, 116, 104]⟩]) (.int .i64 1)).run Tryz.prog w = .ok (.string ⟨#[100, 101, 112, 116, 104]⟩) w := fun w => by kernel_rfl
 clear h1 h2 h3 hN hQ bN bQ ha hb hC1 hC2 q1 n1 m1 m2 hP
 go_enter Tryz.func95, Tryz.ntmps95
 go_upto_region 1 with fail
 refine genT (fun V => Row V (w.heap.size) 87 [.int .i64 rs, .int .i64 rf, .int .i64 rl, .int .i64 ra, .int .i64 rb] ∧ Row V (w.heap.size + 1) 35 [.int .i64 a, .int .i64 b, .int .i64 c, .int .i64 d, .int .i64 x, .int .i64 y] ∧ Below w.heap.size w V) ⟨(Row.alloc (rowAt _ _ (by first | rfl | simp only [World.size_alloc])) _), (rowAt _ _ (by first | rfl | simp only [World.size_alloc])), (((Below.refl _ _).alloc (by first | exact Nat.le_refl _ | (simp only [World.size_alloc]; omega)) _).alloc (by first | exact Nat.le_refl _ | (simp only [World.size_alloc]; omega)) _)⟩ ?_
 intro W1 s1
 have HS1 := Lib.hid s1
 clear s1
 refine wp_scope_straight ?_
 go_upto_region 1 with fail
 go_cut [5] from 10 to 14 (fun s5 wx => ∃ g5, s5 = .pointer (some ⟨g5, 0, none⟩) ∧ Row wx w.heap.size 87 [.int .i64 rs, .int .i64 rf, .int .i64 rl, .int .i64 ra, .int .i64 rb] ∧ Row wx (w.heap.size + 1) 35 [.int .i64 a, .int .i64 b, .int .i64 c, .int .i64 d, .int .i64 x, .int .i64 y] ∧ Row wx g5 141 [.int .i64 N, .int .i64 Q] ∧ Below w.heap.size w wx)
 case first =>
  clear HQ HI1 HI2 HC1 HC2 hi0 hi1
  go_wp2_with (first
   | (refine wpList_load_row rfl 35 _ rfl (w.heap.size + 1) rfl 35 #[.int .i64 a, .int .i64 b, .int .i64 c, .int .i64 d, .int .i64 x, .int .i64 y] (0, 0) _ HS1.out.2.1 Tryz.underlying35 rfl ?_ ?_; (kernel_rfl))
   | (go_at_call 83; refine (HSU.out _).mono ?_; rintro e w2 ⟨rfl, hb_w2⟩; have HS2 : Hid (Row w2 (w.heap.size) 87 [.int .i64 rs, .int .i64 rf, .int .i64 rl, .int .i64 ra, .int .i64 rb] ∧ Row w2 (w.heap.size + 1) 35 [.int .i64 a, .int .i64 b, .int .i64 c, .int .i64 d, .int .i64 x, .int .i64 y] ∧ Below w.heap.size w w2) := ⟨(HS1.out.1).old hb_w2, (HS1.out.2.1).old hb_w2, (HS1.out.2.2).trans (hb_w2.mono (HS1.out.2.2).size)⟩; clear hb_w2)
   | (go_at_call 76; refine (HI0.out _).mono ?_; rintro e w3 ⟨rfl, hb_w3⟩; have HS3 : Hid (Row w3 (w.heap.size) 87 [.int .i64 rs, .int .i64 rf, .int .i64 rl, .int .i64 ra, .int .i64 rb] ∧ Row w3 (w.heap.size + 1) 35 [.int .i64 a, .int .i64 b, .int .i64 c, .int .i64 d, .int .i64 x, .int .i64 y] ∧ Below w.heap.size w w3) := ⟨(HS2.out.1).old hb_w3, (HS2.out.2.1).old hb_w3, (HS2.out.2.2).trans (hb_w3.mono (HS2.out.2.2).size)⟩; clear hb_w3)
   | (go_at_call 134; refine (HT.out _).mono ?_; rintro e w4 ⟨rfl, hb_w4⟩; have HS4 : Hid (Row w4 (w.heap.size) 87 [.int .i64 rs, .int .i64 rf, .int .i64 rl, .int .i64 ra, .int .i64 rb] ∧ Row w4 (w.heap.size + 1) 35 [.int .i64 a, .int .i64 b, .int .i64 c, .int .i64 d, .int .i64 x, .int .i64 y] ∧ Below w.heap.size w w4) := ⟨(HS3.out.1).old hb_w4, (HS3.out.2.1).old hb_w4, (HS3.out.2.2).trans (hb_w4.mono (HS3.out.2.2).size)⟩; clear hb_w4)
   | (refine wpList_store_row rfl 141 _ _ rfl (w4.heap.size) #[.int .i64 N, .int .i64 Q] rfl rfl 141 _ (Row.new w4 141 [.int .i64 0, .int .i64 0]) ?_ ?_ ?_ ?_; (kernel_rfl); (rfl); (simp [Value.oneCell'])))
  go_meet
  have hbn : Below w4.heap.size w4 ((w4.alloc (.cells #[.int .i64 0, .int .i64 0] 141)).setRow w4.heap.size #[.int .i64 N, .int .i64 Q]) := Below.setRow ((Below.refl _ _).alloc (Nat.le_refl _) _) (Nat.le_refl _) _
  exact ⟨_, rfl, HS4.out.1.old hbn, HS4.out.2.1.old hbn, (Row.new w4 141 [.int .i64 0, .int .i64 0]).setRow _, HS4.out.2.2.trans (hbn.mono HS4.out.2.2.size)⟩
 case rest =>
 obtain ⟨g5, rfl, s5⟩ := hcut
 obtain ⟨W5, hW5⟩ : ∃ W5 : World, W5 = wc := ⟨_, rfl⟩
 subst hW5
 have HB5 := Lib.hid s5.2.2.2
 have hz0 : w.heap.size < W5.heap.size := s5.1.lt
 have hz2 : w.heap.size + 1 < W5.heap.size := s5.2.1.lt
 have hz1 : g5 < W5.heap.size := s5.2.2.1.lt
 have HR5 : Hid (Row W5 (w.heap.size) 87 [.int .i64 rs, .int .i64 rf, .int .i64 rl, .int .i64 ra, .int .i64 rb] ∧ Row W5 (w.heap.size + 1) 35 [.int .i64 a, .int .i64 b, .int .i64 c, .int .i64 d, .int .i64 x, .int .i64 y] ∧ Row W5 (g5) 141 [.int .i64 N, .int .i64 Q] ∧ Below W5.heap.size W5 W5) := ⟨s5.1, s5.2.1, s5.2.2.1, Below.refl _ _⟩
 clear s5 HS1 HSU HI0 HT
 have HD := Lib.hid hD
 clear hD
 go_upto_region 2 with fail
 go_cut [6] from 14 to 37 (fun s6 wx => ∃ gm es, s6 = .map (some gm) ∧ MapAt wx gm es 2 ∧ (es = #[{ key := .string ⟨#[119, 101, 97, 107]⟩, val := .bool (decide (Q < rl)), born := 0 }, { key := .string ⟨#[100, 101, 112, 116, 104]⟩, val := .bool D, born := 1 }] ∨ es = #[{ key := .string ⟨#[100, 101, 112, 116, 104]⟩, val := .bool D, born := 0 }, { key := .string ⟨#[119, 101, 97, 107]⟩, val := .bool (decide (Q < rl)), born := 1 }]) ∧ Below w.heap.size w wx)
 case first =>
  clear hi0 hi1
  cases hB : decide (C1 < 0) with
  | true =>
    obtain rfl : D = true := by rw [HD.out, hB]; rfl
    clear HI2 HC2
    refine wp_region_held_drew (S := fun V => Row V (w.heap.size) 87 [.int .i64 rs, .int .i64 rf, .int .i64 rl, .int .i64 ra, .int .i64 rb] ∧ Row V (w.heap.size + 1) 35 [.int .i64 a, .int .i64 b, .int .i64 c, .int .i64 d, .int .i64 x, .int .i64 y] ∧ Row V (g5) 141 [.int .i64 N, .int .i64 Q] ∧ Below W5.heap.size W5 V) (by kernel_rfl) ?_ (fun hHeld => ?_)
    · exact ⟨(HR5.out.1).drew, (HR5.out.2.1).drew, (HR5.out.2.2.1).drew, (HR5.out.2.2.2).drew⟩
    refine keyM W5.heap.size #[{ key := .string ⟨#[119, 101, 97, 107]⟩, val := .bool (decide (Q < rl)), born := 0 }] 1 3 (lst 26 [0, 1, 2, 3, 4, 5, 6, 7, 8, 9, 10, 11, 12, 13, 14, 15, 16, 17, 18, 19, 20, 21, 22]) (fun gm => ({ tmps := #[.agg #[.int .i64 rs, .int .i64 rf, .int .i64 rl, .int .i64 ra, .int .i64 rb], .agg #[.int .i64 a, .int .i64 b, .int .i64 c, .int .i64 d, .int .i64 x, .int .i64 y], .pointer (some ⟨w.heap.size, 0, none⟩), .pointer (some ⟨w.heap.size + 1, 0, none⟩), .string ⟨#[]⟩, .pointer (some ⟨g5, 0, none⟩), undef, undef, undef, undef, u10, u11, u12, u13, .map (some gm), .agg #[.int .i64 a, .int .i64 b, .int .i64 c, .int .i64 d, .int .i64 x, .int .i64 y], .int .i64 Q, .pointer (some ⟨w.heap.size, 2, none⟩), .int .i64 rl, .bool (decide (Q < rl)), .agg #[.int .i64 N, .int .i64 Q], .pointer (some ⟨w.heap.size, 3, none⟩), .pointer (some ⟨w.heap.size, 3, none⟩), .int .i64 ra, .agg #[.int .i64 ra, .int .i64 1], .int .i64 C1, .bool true, .bool true, undef, undef, undef, undef, undef, undef, undef, .bool true, undef, undef, undef, undef, undef, undef, undef, undef, undef, undef, undef], defers := [] } : Act)) ?_ (fun k7 => ?_)
    · intro gm V hgm hHeld hat
      refine st2 23 (fun K hK => ?_)
      refine step_insert rfl 214 9 4 _ _ _ rfl _ 1 #[{ key := .string ⟨#[119, 101, 97, 107]⟩, val := .bool (decide (Q < rl)), born := 0 }] ⟨#[100, 101, 112, 116, 104]⟩ (.bool true) rfl rfl rfl Tryz.underlying214 Tryz.underlying9 hat rfl ?_
      refine hK.out _ _ ?_ (fun hHeld => ?_)
      · exact ⟨hHeld.1.putM (by omega) _ _, hHeld.2.1.putM (by omega) _ _, hHeld.2.2.1.putM (by omega) _ _, Below.putM hHeld.2.2.2 (by omega) _ _⟩
      clear hK K
      try simp only [zz]
      refine ta 24 36 hHeld ?_
      try simp only [zz]
      refine ta 25 6 hHeld ?_
      try simp only [zz]
      refine wpAnyH_done (by kernel_rfl) ?_ _
      go_wp2_with fail
      go_meet
      exact ⟨_, _, rfl, hat.put, .inl rfl, HB5.out.trans (hHeld.2.2.2.mono HB5.out.size)⟩
    refine keyM W5.heap.size #[{ key := .string ⟨#[119, 101, 97, 107]⟩, val := .bool (decide (Q < rl)), born := 0 }] 1 6 (lst 26 [0, 1, 2, 3, 4, 5, 6, 7, 8, 9, 10, 11, 12, 13, 14, 15, 16, 17, 18, 19]) (fun gm => ({ tmps := #[.agg #[.int .i64 rs, .int .i64 rf, .int .i64 rl, .int .i64 ra, .int .i64 rb], .agg #[.int .i64 a, .int .i64 b, .int .i64 c, .int .i64 d, .int .i64 x, .int .i64 y], .pointer (some ⟨w.heap.size, 0, none⟩), .pointer (some ⟨w.heap.size + 1, 0, none⟩), .string ⟨#[]⟩, .pointer (some ⟨g5, 0, none⟩), undef, undef, undef, undef, u10, u11, u12, u13, .map (some gm), .agg #[.int .i64 a, .int .i64 b, .int .i64 c, .int .i64 d, .int .i64 x, .int .i64 y], .int .i64 Q, .pointer (some ⟨w.heap.size, 2, none⟩), .int .i64 rl, .bool (decide (Q < rl)), .agg #[.int .i64 N, .int .i64 Q], .pointer (some ⟨w.heap.size, 3, none⟩), .pointer (some ⟨w.heap.size, 3, none⟩), .int .i64 ra, .agg #[.int .i64 ra, .int .i64 1], .int .i64 C1, .bool true, .bool true, undef, undef, undef, undef, undef, undef, undef, undef, undef, undef, undef, undef, undef, undef, undef, undef, undef, undef, undef], defers := [] } : Act)) ?_ (fun k6 => ?_)
    · intro gm V hgm hHeld hat
      refine st2 20 (fun K hK => ?_)
      refine step_shun (by kernel_rfl) ?_
      refine hK.out _ _ hHeld (fun hHeld => ?_)
      clear hK K
      try simp only [zz]
      refine wpAnyH_take (i := 21) (oi := ⟨some 34, _, _, _, _, _⟩) (v := undef) rfl (by kernel_rfl) (by kernel_rfl) (by kernel_rfl) (fun _ _ _ h => h) (Or.inr ⟨by kernel_rfl, rfl⟩) hHeld ?_
      try simp only [zz]
      refine ta 22 35 hHeld ?_
      try simp only [zz]
      exact memo_use (by kernel_rfl) (by kernel_rfl) (k7 _ _ hgm hHeld hat)
    refine keyM W5.heap.size #[{ key := .string ⟨#[119, 101, 97, 107]⟩, val := .bool (decide (Q < rl)), born := 0 }] 1 7 (lst 26 [0, 1, 2, 3, 4, 5, 6, 7, 8, 9, 10, 11, 12, 13, 14, 15, 16, 17, 18]) (fun gm => ({ tmps := #[.agg #[.int .i64 rs, .int .i64 rf, .int .i64 rl, .int .i64 ra, .int .i64 rb], .agg #[.int .i64 a, .int .i64 b, .int .i64 c, .int .i64 d, .int .i64 x, .int .i64 y], .pointer (some ⟨w.heap.size, 0, none⟩), .pointer (some ⟨w.heap.size + 1, 0, none⟩), .string ⟨#[]⟩, .pointer (some ⟨g5, 0, none⟩), undef, undef, undef, undef, u10, u11, u12, u13, .map (some gm), .agg #[.int .i64 a, .int .i64 b, .int .i64 c, .int .i64 d, .int .i64 x, .int .i64 y], .int .i64 Q, .pointer (some ⟨w.heap.size, 2, none⟩), .int .i64 rl, .bool (decide (Q < rl)), .agg #[.int .i64 N, .int .i64 Q], .pointer (some ⟨w.heap.size, 3, none⟩), .pointer (some ⟨w.heap.size, 3, none⟩), .int .i64 ra, .agg #[.int .i64 ra, .int .i64 1], .int .i64 C1, .bool true, .bool true, undef, undef, undef, undef, undef, undef, undef, undef, undef, undef, undef, undef, undef, undef, undef, undef, undef, undef, undef], defers := [] } : Act)) ?_ (fun k5 => ?_)
    · intro gm V hgm hHeld hat
      refine st2 19 (fun K hK => ?_)
      refine step_shun (by kernel_rfl) ?_
      refine hK.out _ _ hHeld (fun hHeld => ?_)
      clear hK K
      try simp only [zz]
      exact memo_use (by kernel_rfl) (by kernel_rfl) (k6 _ _ hgm hHeld hat)
    refine keyM W5.heap.size #[{ key := .string ⟨#[119, 101, 97, 107]⟩, val := .bool (decide (Q < rl)), born := 0 }] 1 14 (lst 26 [0, 1, 2, 3, 4, 5, 6, 7, 8, 9, 10, 11]) (fun gm => ({ tmps := #[.agg #[.int .i64 rs, .int .i64 rf, .int .i64 rl, .int .i64 ra, .int .i64 rb], .agg #[.int .i64 a, .int .i64 b, .int .i64 c, .int .i64 d, .int .i64 x, .int .i64 y], .pointer (some ⟨w.heap.size, 0, none⟩), .pointer (some ⟨w.heap.size + 1, 0, none⟩), .string ⟨#[]⟩, .pointer (some ⟨g5, 0, none⟩), undef, undef, undef, undef, u10, u11, u12, u13, .map (some gm), .agg #[.int .i64 a, .int .i64 b, .int .i64 c, .int .i64 d, .int .i64 x, .int .i64 y], .int .i64 Q, .pointer (some ⟨w.heap.size, 2, none⟩), .int .i64 rl, .bool (decide (Q < rl)), .agg #[.int .i64 N, .int .i64 Q], .pointer (some ⟨w.heap.size, 3, none⟩), .pointer (some ⟨w.heap.size, 3, none⟩), .int .i64 ra, .agg #[.int .i64 ra, .int .i64 1], undef, undef, undef, undef, undef, undef, undef, undef, undef, undef, undef, undef, undef, undef, undef, undef, undef, undef, undef, undef, undef, undef], defers := [] } : Act)) ?_ (fun k4 => ?_)
    · intro gm V hgm hHeld hat
      refine st2 12 (fun K hK => ?_)
      go_simp
      go_at_call 73
      refine (HC1.out _).mono ?_
      rintro e v12 ⟨rfl, hb12⟩
      try go_simp
      refine hK.out _ _ ?_ (fun hHeld => ?_)
      · exact ⟨(hHeld.1).old hb12, (hHeld.2.1).old hb12, (hHeld.2.2.1).old hb12, (hHeld.2.2.2).trans ((hb12).mono (hHeld.2.2.2).size)⟩
      clear hK K
      try simp only [zz]
      refine tk 13 26 (.bool true) rfl (by kernel_rfl) (fun _ _ _ h => h) (by kernel_rfl) (fun w1 hSw => by (try dsimp only at hSw); rw [← hB]; go_simp <;> with_reducible rfl) hHeld ?_
      try simp only [zz]
      refine ta 14 27 hHeld ?_
      try simp only [zz]
      refine wpAnyH_take (i := 15) (oi := ⟨some 28, _, _, _, _, _⟩) (v := undef) rfl (by kernel_rfl) (by kernel_rfl) (by kernel_rfl) (fun _ _ _ h => h) (Or.inr ⟨by kernel_rfl, rfl⟩) hHeld ?_
      try simp only [zz]
      refine wpAnyH_take (i := 16) (oi := ⟨some 29, _, _, _, _, _⟩) (v := undef) rfl (by kernel_rfl) (by kernel_rfl) (by kernel_rfl) (fun _ _ _ h => h) (Or.inr ⟨by kernel_rfl, rfl⟩) hHeld ?_
      try simp only [zz]
      refine wpAnyH_take (i := 17) (oi := ⟨some 30, _, _, _, _, _⟩) (v := undef) rfl (by kernel_rfl) (by kernel_rfl) (by kernel_rfl) (fun _ _ _ h => h) (Or.inr ⟨by kernel_rfl, rfl⟩) hHeld ?_
      try simp only [zz]
      refine wpAnyH_take (i := 18) (oi := ⟨some 31, _, _, _, _, _⟩) (v := undef) rfl (by kernel_rfl) (by kernel_rfl) (by kernel_rfl) (fun _ _ _ h => h) (Or.inr ⟨by kernel_rfl, rfl⟩) hHeld ?_
      try simp only [zz]
      exact memo_use (by kernel_rfl) (by kernel_rfl) (k5 _ _ hgm hHeld (hat.old hb12))
    refine keyM W5.heap.size #[{ key := .string ⟨#[119, 101, 97, 107]⟩, val := .bool (decide (Q < rl)), born := 0 }] 1 15 (lst 26 [0, 1, 2, 3, 4, 5, 6, 7, 8, 9, 10]) (fun gm => ({ tmps := #[.agg #[.int .i64 rs, .int .i64 rf, .int .i64 rl, .int .i64 ra, .int .i64 rb], .agg #[.int .i64 a, .int .i64 b, .int .i64 c, .int .i64 d, .int .i64 x, .int .i64 y], .pointer (some ⟨w.heap.size, 0, none⟩), .pointer (some ⟨w.heap.size + 1, 0, none⟩), .string ⟨#[]⟩, .pointer (some ⟨g5, 0, none⟩), undef, undef, undef, undef, u10, u11, u12, u13, .map (some gm), .agg #[.int .i64 a, .int .i64 b, .int .i64 c, .int .i64 d, .int .i64 x, .int .i64 y], .int .i64 Q, .pointer (some ⟨w.heap.size, 2, none⟩), .int .i64 rl, .bool (decide (Q < rl)), .agg #[.int .i64 N, .int .i64 Q], .pointer (some ⟨w.heap.size, 3, none⟩), .pointer (some ⟨w.heap.size, 3, none⟩), .int .i64 ra, undef, undef, undef, undef, undef, undef, undef, undef, undef, undef, undef, undef, undef, undef, undef, undef, undef, undef, undef, undef, undef, undef, undef], defers := [] } : Act)) ?_ (fun k3 => ?_)
    · intro gm V hgm hHeld hat
      refine st2 11 (fun K hK => ?_)
      go_simp
      go_at_call 76
      refine (HI1.out _).mono ?_
      rintro e v11 ⟨rfl, hb11⟩
      try go_simp
      refine hK.out _ _ ?_ (fun hHeld => ?_)
      · exact ⟨(hHeld.1).old hb11, (hHeld.2.1).old hb11, (hHeld.2.2.1).old hb11, (hHeld.2.2.2).trans ((hb11).mono (hHeld.2.2.2).size)⟩
      clear hK K
      try simp only [zz]
      exact memo_use (by kernel_rfl) (by kernel_rfl) (k4 _ _ hgm hHeld (hat.old hb11))
    refine keyM W5.heap.size #[{ key := .string ⟨#[100, 101, 112, 116, 104]⟩, val := .bool true, born := 0 }] 1 3 (lst 26 [0, 1, 2, 3, 4, 5, 7, 8, 9, 10, 11, 12, 13, 14, 15, 16, 17, 18, 19, 20, 21, 22, 23]) (fun gm => ({ tmps := #[.agg #[.int .i64 rs, .int .i64 rf, .int .i64 rl, .int .i64 ra, .int .i64 rb], .agg #[.int .i64 a, .int .i64 b, .int .i64 c, .int .i64 d, .int .i64 x, .int .i64 y], .pointer (some ⟨w.heap.size, 0, none⟩), .pointer (some ⟨w.heap.size + 1, 0, none⟩), .string ⟨#[]⟩, .pointer (some ⟨g5, 0, none⟩), undef, undef, undef, undef, u10, u11, u12, u13, .map (some gm), .agg #[.int .i64 a, .int .i64 b, .int .i64 c, .int .i64 d, .int .i64 x, .int .i64 y], .int .i64 Q, .pointer (some ⟨w.heap.size, 2, none⟩), .int .i64 rl, .bool (decide (Q < rl)), .agg #[.int .i64 N, .int .i64 Q], .pointer (some ⟨w.heap.size, 3, none⟩), .pointer (some ⟨w.heap.size, 3, none⟩), .int .i64 ra, .agg #[.int .i64 ra, .int .i64 1], .int .i64 C1, .bool true, .bool true, undef, undef, undef, undef, undef, undef, undef, .bool true, undef, undef, undef, undef, undef, undef, undef, undef, undef, undef, undef], defers := [] } : Act)) ?_ (fun k12 => ?_)
    · intro gm V hgm hHeld hat
      refine st2 6 (fun K hK => ?_)
      refine step_insert rfl 214 9 4 _ _ _ rfl _ 1 #[{ key := .string ⟨#[100, 101, 112, 116, 104]⟩, val := .bool true, born := 0 }] ⟨#[119, 101, 97, 107]⟩ (.bool (decide (Q < rl))) rfl rfl rfl Tryz.underlying214 Tryz.underlying9 hat rfl ?_
      refine hK.out _ _ ?_ (fun hHeld => ?_)
      · exact ⟨hHeld.1.putM (by omega) _ _, hHeld.2.1.putM (by omega) _ _, hHeld.2.2.1.putM (by omega) _ _, Below.putM hHeld.2.2.2 (by omega) _ _⟩
      clear hK K
      try simp only [zz]
      refine ta 24 36 hHeld ?_
      try simp only [zz]
      refine ta 25 6 hHeld ?_
      try simp only [zz]
      refine wpAnyH_done (by kernel_rfl) ?_ _
      go_wp2_with fail
      go_meet
      exact ⟨_, _, rfl, hat.put, .inr rfl, HB5.out.trans (hHeld.2.2.2.mono HB5.out.size)⟩
    refine keyM W5.heap.size #[] 0 4 (lst 26 [0, 1, 2, 3, 4, 5, 7, 8, 9, 10, 11, 12, 13, 14, 15, 16, 17, 18, 19, 20, 21, 22]) (fun gm => ({ tmps := #[.agg #[.int .i64 rs, .int .i64 rf, .int .i64 rl, .int .i64 ra, .int .i64 rb], .agg #[.int .i64 a, .int .i64 b, .int .i64 c, .int .i64 d, .int .i64 x, .int .i64 y], .pointer (some ⟨w.heap.size, 0, none⟩), .pointer (some ⟨w.heap.size + 1, 0, none⟩), .string ⟨#[]⟩, .pointer (some ⟨g5, 0, none⟩), undef, undef, undef, undef, u10, u11, u12, u13, .map (some gm), .agg #[.int .i64 a, .int .i64 b, .int .i64 c, .int .i64 d, .int .i64 x, .int .i64 y], .int .i64 Q, .pointer (some ⟨w.heap.size, 2, none⟩), .int .i64 rl, .bool (decide (Q < rl)), .agg #[.int .i64 N, .int .i64 Q], .pointer (some ⟨w.heap.size, 3, none⟩), .pointer (some ⟨w.heap.size, 3, none⟩), .int .i64 ra, .agg #[.int .i64 ra, .int .i64 1], .int .i64 C1, .bool true, .bool true, undef, undef, undef, undef, undef, undef, undef, .bool true, undef, undef, undef, undef, undef, undef, undef, undef, undef, undef, undef], defers := [] } : Act)) ?_ (fun k11 => ?_)
    · intro gm V hgm hHeld hat
      refine st3 6 23 (fun K hK => ?_) (fun K hK => ?_)
      ·
       refine step_insert rfl 214 9 4 _ _ _ rfl _ 0 #[] ⟨#[119, 101, 97, 107]⟩ (.bool (decide (Q < rl))) rfl rfl rfl Tryz.underlying214 Tryz.underlying9 hat rfl ?_
       refine hK.out _ _ ?_ (fun hHeld => ?_)
       · exact ⟨hHeld.1.putM (by omega) _ _, hHeld.2.1.putM (by omega) _ _, hHeld.2.2.1.putM (by omega) _ _, Below.putM hHeld.2.2.2 (by omega) _ _⟩
       clear hK K
       try simp only [zz]
       exact memo_use (by kernel_rfl) (by kernel_rfl) (k7 _ _ hgm hHeld hat.put)
      ·
       refine step_insert rfl 214 9 4 _ _ _ rfl _ 0 #[] ⟨#[100, 101, 112, 116, 104]⟩ (.bool true) rfl rfl rfl Tryz.underlying214 Tryz.underlying9 hat rfl ?_
       refine hK.out _ _ ?_ (fun hHeld => ?_)
       · exact ⟨hHeld.1.putM (by omega) _ _, hHeld.2.1.putM (by omega) _ _, hHeld.2.2.1.putM (by omega) _ _, Below.putM hHeld.2.2.2 (by omega) _ _⟩
       clear hK K
       try simp only [zz]
       exact memo_use (by kernel_rfl) (by kernel_rfl) (k12 _ _ hgm hHeld hat.put)
    refine keyM W5.heap.size #[] 0 7 (lst 26 [0, 1, 2, 3, 4, 5, 7, 8, 9, 10, 11, 12, 13, 14, 15, 16, 17, 18, 19]) (fun gm => ({ tmps := #[.agg #[.int .i64 rs, .int .i64 rf, .int .i64 rl, .int .i64 ra, .int .i64 rb], .agg #[.int .i64 a, .int .i64 b, .int .i64 c, .int .i64 d, .int .i64 x, .int .i64 y], .pointer (some ⟨w.heap.size, 0, none⟩), .pointer (some ⟨w.heap.size + 1, 0, none⟩), .string ⟨#[]⟩, .pointer (some ⟨g5, 0, none⟩), undef, undef, undef, undef, u10, u11, u12, u13, .map (some gm), .agg #[.int .i64 a, .int .i64 b, .int .i64 c, .int .i64 d, .int .i64 x, .int .i64 y], .int .i64 Q, .pointer (some ⟨w.heap.size, 2, none⟩), .int .i64 rl, .bool (decide (Q < rl)), .agg #[.int .i64 N, .int .i64 Q], .pointer (some ⟨w.heap.size, 3, none⟩), .pointer (some ⟨w.heap.size, 3, none⟩), .int .i64 ra, .agg #[.int .i64 ra, .int .i64 1], .int .i64 C1, .bool true, .bool true, undef, undef, undef, undef, undef, undef, undef, undef, undef, undef, undef, undef, undef, undef, undef, undef, undef, undef, undef], defers := [] } : Act)) ?_ (fun k10 => ?_)
    · intro gm V hgm hHeld hat
      refine st3 6 20 (fun K hK => ?_) (fun K hK => ?_)
      ·
       refine step_insert rfl 214 9 4 _ _ _ rfl _ 0 #[] ⟨#[119, 101, 97, 107]⟩ (.bool (decide (Q < rl))) rfl rfl rfl Tryz.underlying214 Tryz.underlying9 hat rfl ?_
       refine hK.out _ _ ?_ (fun hHeld => ?_)
       · exact ⟨hHeld.1.putM (by omega) _ _, hHeld.2.1.putM (by omega) _ _, hHeld.2.2.1.putM (by omega) _ _, Below.putM hHeld.2.2.2 (by omega) _ _⟩
       clear hK K
       try simp only [zz]
       exact memo_use (by kernel_rfl) (by kernel_rfl) (k6 _ _ hgm hHeld hat.put)
      ·
       refine step_shun (by kernel_rfl) ?_
       refine hK.out _ _ hHeld (fun hHeld => ?_)
       clear hK K
       try simp only [zz]
       refine wpAnyH_take (i := 21) (oi := ⟨some 34, _, _, _, _, _⟩) (v := undef) rfl (by kernel_rfl) (by kernel_rfl) (by kernel_rfl) (fun _ _ _ h => h) (Or.inr ⟨by kernel_rfl, rfl⟩) hHeld ?_
       try simp only [zz]
       refine ta 22 35 hHeld ?_
       try simp only [zz]
       exact memo_use (by kernel_rfl) (by kernel_rfl) (k11 _ _ hgm hHeld hat)
    refine keyM W5.heap.size #[] 0 8 (lst 26 [0, 1, 2, 3, 4, 5, 7, 8, 9, 10, 11, 12, 13, 14, 15, 16, 17, 18]) (fun gm => ({ tmps := #[.agg #[.int .i64 rs, .int .i64 rf, .int .i64 rl, .int .i64 ra, .int .i64 rb], .agg #[.int .i64 a, .int .i64 b, .int .i64 c, .int .i64 d, .int .i64 x, .int .i64 y], .pointer (some ⟨w.heap.size, 0, none⟩), .pointer (some ⟨w.heap.size + 1, 0, none⟩), .string ⟨#[]⟩, .pointer (some ⟨g5, 0, none⟩), undef, undef, undef, undef, u10, u11, u12, u13, .map (some gm), .agg #[.int .i64 a, .int .i64 b, .int .i64 c, .int .i64 d, .int .i64 x, .int .i64 y], .int .i64 Q, .pointer (some ⟨w.heap.size, 2, none⟩), .int .i64 rl, .bool (decide (Q < rl)), .agg #[.int .i64 N, .int .i64 Q], .pointer (some ⟨w.heap.size, 3, none⟩), .pointer (some ⟨w.heap.size, 3, none⟩), .int .i64 ra, .agg #[.int .i64 ra, .int .i64 1], .int .i64 C1, .bool true, .bool true, undef, undef, undef, undef, undef, undef, undef, undef, undef, undef, undef, undef, undef, undef, undef, undef, undef, undef, undef], defers := [] } : Act)) ?_ (fun k9 => ?_)
    · intro gm V hgm hHeld hat
      refine st3 6 19 (fun K hK => ?_) (fun K hK => ?_)
      ·
       refine step_insert rfl 214 9 4 _ _ _ rfl _ 0 #[] ⟨#[119, 101, 97, 107]⟩ (.bool (decide (Q < rl))) rfl rfl rfl Tryz.underlying214 Tryz.underlying9 hat rfl ?_
       refine hK.out _ _ ?_ (fun hHeld => ?_)
       · exact ⟨hHeld.1.putM (by omega) _ _, hHeld.2.1.putM (by omega) _ _, hHeld.2.2.1.putM (by omega) _ _, Below.putM hHeld.2.2.2 (by omega) _ _⟩
       clear hK K
       try simp only [zz]
       exact memo_use (by kernel_rfl) (by kernel_rfl) (k5 _ _ hgm hHeld hat.put)
      ·
       refine step_shun (by kernel_rfl) ?_
       refine hK.out _ _ hHeld (fun hHeld => ?_)
       clear hK K
       try simp only [zz]
       exact memo_use (by kernel_rfl) (by kernel_rfl) (k10 _ _ hgm hHeld hat)
    refine keyM W5.heap.size #[] 0 15 (lst 26 [0, 1, 2, 3, 4, 5, 7, 8, 9, 10, 11]) (fun gm => ({ tmps := #[.agg #[.int .i64 rs, .int .i64 rf, .int .i64 rl, .int .i64 ra, .int .i64 rb], .agg #[.int .i64 a, .int .i64 b, .int .i64 c, .int .i64 d, .int .i64 x, .int .i64 y], .pointer (some ⟨w.heap.size, 0, none⟩), .pointer (some ⟨w.heap.size + 1, 0, none⟩), .string ⟨#[]⟩, .pointer (some ⟨g5, 0, none⟩), undef, undef, undef, undef, u10, u11, u12, u13, .map (some gm), .agg #[.int .i64 a, .int .i64 b, .int .i64 c, .int .i64 d, .int .i64 x, .int .i64 y], .int .i64 Q, .pointer (some ⟨w.heap.size, 2, none⟩), .int .i64 rl, .bool (decide (Q < rl)), .agg #[.int .i64 N, .int .i64 Q], .pointer (some ⟨w.heap.size, 3, none⟩), .pointer (some ⟨w.heap.size, 3, none⟩), .int .i64 ra, .agg #[.int .i64 ra, .int .i64 1], undef, undef, undef, undef, undef, undef, undef, undef, undef, undef, undef, undef, undef, undef, undef, undef, undef, undef, undef, undef, undef, undef], defers := [] } : Act)) ?_ (fun k8 => ?_)
    · intro gm V hgm hHeld hat
      refine st3 6 12 (fun K hK => ?_) (fun K hK => ?_)
      ·
       refine step_insert rfl 214 9 4 _ _ _ rfl _ 0 #[] ⟨#[119, 101, 97, 107]⟩ (.bool (decide (Q < rl))) rfl rfl rfl Tryz.underlying214 Tryz.underlying9 hat rfl ?_
       refine hK.out _ _ ?_ (fun hHeld => ?_)
       · exact ⟨hHeld.1.putM (by omega) _ _, hHeld.2.1.putM (by omega) _ _, hHeld.2.2.1.putM (by omega) _ _, Below.putM hHeld.2.2.2 (by omega) _ _⟩
       clear hK K
       try simp only [zz]
       exact memo_use (by kernel_rfl) (by kernel_rfl) (k4 _ _ hgm hHeld hat.put)
      ·
       go_simp
       go_at_call 73
       refine (HC1.out _).mono ?_
       rintro e v12 ⟨rfl, hb12⟩
       try go_simp
       refine hK.out _ _ ?_ (fun hHeld => ?_)
       · exact ⟨(hHeld.1).old hb12, (hHeld.2.1).old hb12, (hHeld.2.2.1).old hb12, (hHeld.2.2.2).trans ((hb12).mono (hHeld.2.2.2).size)⟩
       clear hK K
       try simp only [zz]
       refine tk 13 26 (.bool true) rfl (by kernel_rfl) (fun _ _ _ h => h) (by kernel_rfl) (fun w1 hSw => by (try dsimp only at hSw); rw [← hB]; go_simp <;> with_reducible rfl) hHeld ?_
       try simp only [zz]
       refine ta 14 27 hHeld ?_
       try simp only [zz]
       refine wpAnyH_take (i := 15) (oi := ⟨some 28, _, _, _, _, _⟩) (v := undef) rfl (by kernel_rfl) (by kernel_rfl) (by kernel_rfl) (fun _ _ _ h => h) (Or.inr ⟨by kernel_rfl, rfl⟩) hHeld ?_
       try simp only [zz]
       refine wpAnyH_take (i := 16) (oi := ⟨some 29, _, _, _, _, _⟩) (v := undef) rfl (by kernel_rfl) (by kernel_rfl) (by kernel_rfl) (fun _ _ _ h => h) (Or.inr ⟨by kernel_rfl, rfl⟩) hHeld ?_
       try simp only [zz]
       refine wpAnyH_take (i := 17) (oi := ⟨some 30, _, _, _, _, _⟩) (v := undef) rfl (by kernel_rfl) (by kernel_rfl) (by kernel_rfl) (fun _ _ _ h => h) (Or.inr ⟨by kernel_rfl, rfl⟩) hHeld ?_
       try simp only [zz]
       refine wpAnyH_take (i := 18) (oi := ⟨some 31, _, _, _, _, _⟩) (v := undef) rfl (by kernel_rfl) (by kernel_rfl) (by kernel_rfl) (fun _ _ _ h => h) (Or.inr ⟨by kernel_rfl, rfl⟩) hHeld ?_
       try simp only [zz]
       exact memo_use (by kernel_rfl) (by kernel_rfl) (k9 _ _ hgm hHeld (hat.old hb12))
    refine keyM W5.heap.size #[] 0 16 (lst 26 [0, 1, 2, 3, 4, 5, 7, 8, 9, 10]) (fun gm => ({ tmps := #[.agg #[.int .i64 rs, .int .i64 rf, .int .i64 rl, .int .i64 ra, .int .i64 rb], .agg #[.int .i64 a, .int .i64 b, .int .i64 c, .int .i64 d, .int .i64 x, .int .i64 y], .pointer (some ⟨w.heap.size, 0, none⟩), .pointer (some ⟨w.heap.size + 1, 0, none⟩), .string ⟨#[]⟩, .pointer (some ⟨g5, 0, none⟩), undef, undef, undef, undef, u10, u11, u12, u13, .map (some gm), .agg #[.int .i64 a, .int .i64 b, .int .i64 c, .int .i64 d, .int .i64 x, .int .i64 y], .int .i64 Q, .pointer (some ⟨w.heap.size, 2, none⟩), .int .i64 rl, .bool (decide (Q < rl)), .agg #[.int .i64 N, .int .i64 Q], .pointer (some ⟨w.heap.size, 3, none⟩), .pointer (some ⟨w.heap.size, 3, none⟩), .int .i64 ra, undef, undef, undef, undef, undef, undef, undef, undef, undef, undef, undef, undef, undef, undef, undef, undef, undef, undef, undef, undef, undef, undef, undef], defers := [] } : Act)) ?_ (fun k2 => ?_)
    · intro gm V hgm hHeld hat
      refine st3 6 11 (fun K hK => ?_) (fun K hK => ?_)
      ·
       refine step_insert rfl 214 9 4 _ _ _ rfl _ 0 #[] ⟨#[119, 101, 97, 107]⟩ (.bool (decide (Q < rl))) rfl rfl rfl Tryz.underlying214 Tryz.underlying9 hat rfl ?_
       refine hK.out _ _ ?_ (fun hHeld => ?_)
       · exact ⟨hHeld.1.putM (by omega) _ _, hHeld.2.1.putM (by omega) _ _, hHeld.2.2.1.putM (by omega) _ _, Below.putM hHeld.2.2.2 (by omega) _ _⟩
       clear hK K
       try simp only [zz]
       exact memo_use (by kernel_rfl) (by kernel_rfl) (k3 _ _ hgm hHeld hat.put)
      ·
       go_simp
       go_at_call 76
       refine (HI1.out _).mono ?_
       rintro e v11 ⟨rfl, hb11⟩
       try go_simp
       refine hK.out _ _ ?_ (fun hHeld => ?_)
       · exact ⟨(hHeld.1).old hb11, (hHeld.2.1).old hb11, (hHeld.2.2.1).old hb11, (hHeld.2.2.2).trans ((hb11).mono (hHeld.2.2.2).size)⟩
       clear hK K
       try simp only [zz]
       exact memo_use (by kernel_rfl) (by kernel_rfl) (k8 _ _ hgm hHeld (hat.old hb11))
    refine keyM W5.heap.size #[] 0 18 (lst 26 [0, 1, 3, 4, 7, 8, 9, 10]) (fun gm => ({ tmps := #[.agg #[.int .i64 rs, .int .i64 rf, .int .i64 rl, .int .i64 ra, .int .i64 rb], .agg #[.int .i64 a, .int .i64 b, .int .i64 c, .int .i64 d, .int .i64 x, .int .i64 y], .pointer (some ⟨w.heap.size, 0, none⟩), .pointer (some ⟨w.heap.size + 1, 0, none⟩), .string ⟨#[]⟩, .pointer (some ⟨g5, 0, none⟩), undef, undef, undef, undef, u10, u11, u12, u13, .map (some gm), .agg #[.int .i64 a, .int .i64 b, .int .i64 c, .int .i64 d, .int .i64 x, .int .i64 y], undef, .pointer (some ⟨w.heap.size, 2, none⟩), .int .i64 rl, undef, .agg #[.int .i64 N, .int .i64 Q], .pointer (some ⟨w.heap.size, 3, none⟩), .pointer (some ⟨w.heap.size, 3, none⟩), .int .i64 ra, undef, undef, undef, undef, undef, undef, undef, undef, undef, undef, undef, undef, undef, undef, undef, undef, undef, undef, undef, undef, undef, undef, undef], defers := [] } : Act)) ?_ (fun k1 => ?_)
    · intro gm V hgm hHeld hat
      refine st2 2 (fun K hK => ?_)
      go_simp
      go_at_call 132
      refine (HQ.out _).mono ?_
      rintro e v2 ⟨rfl, hb2⟩
      try go_simp
      refine hK.out _ _ ?_ (fun hHeld => ?_)
      · exact ⟨(hHeld.1).old hb2, (hHeld.2.1).old hb2, (hHeld.2.2.1).old hb2, (hHeld.2.2.2).trans ((hb2).mono (hHeld.2.2.2).size)⟩
      clear hK K
      try simp only [zz]
      refine tk 5 19 (.bool (decide (Q < rl))) rfl (by kernel_rfl) (fun _ _ _ h => h) (by kernel_rfl) (fun w1 hSw => by (try dsimp only at hSw); go_simp <;> with_reducible rfl) hHeld ?_
      try simp only [zz]
      exact memo_use (by kernel_rfl) (by kernel_rfl) (k2 _ _ hgm hHeld (hat.old hb2))
    refine key0 5 (lst 26 [1, 2, 3, 4, 5, 7, 8, 9, 10, 11, 12, 13, 14, 15, 16, 17, 18, 19, 20, 21, 22]) ({ tmps := #[.agg #[.int .i64 rs, .int .i64 rf, .int .i64 rl, .int .i64 ra, .int .i64 rb], .agg #[.int .i64 a, .int .i64 b, .int .i64 c, .int .i64 d, .int .i64 x, .int .i64 y], .pointer (some ⟨w.heap.size, 0, none⟩), .pointer (some ⟨w.heap.size + 1, 0, none⟩), .string ⟨#[]⟩, .pointer (some ⟨g5, 0, none⟩), undef, undef, undef, undef, u10, u11, u12, u13, u14, .agg #[.int .i64 a, .int .i64 b, .int .i64 c, .int .i64 d, .int .i64 x, .int .i64 y], .int .i64 Q, .pointer (some ⟨w.heap.size, 2, none⟩), .int .i64 rl, .bool (decide (Q < rl)), .agg #[.int .i64 N, .int .i64 Q], .pointer (some ⟨w.heap.size, 3, none⟩), .pointer (some ⟨w.heap.size, 3, none⟩), .int .i64 ra, .agg #[.int .i64 ra, .int .i64 1], .int .i64 C1, .bool true, .bool true, undef, undef, undef, undef, undef, undef, undef, .bool true, undef, undef, undef, undef, undef, undef, undef, undef, undef, undef, undef], defers := [] }) ?_ (fun k17 => ?_)
    · intro V hHeld
      refine st2 0 (fun K hK => ?_)
      have hgm0 := hHeld.2.2.2.size
      go_simp
      refine hK.out _ _ ?_ (fun hHeld => ?_)
      · exact ⟨(hHeld.1).old ((Below.refl _ _).alloc (Nat.le_refl _) (.map #[] 0)), (hHeld.2.1).old ((Below.refl _ _).alloc (Nat.le_refl _) (.map #[] 0)), (hHeld.2.2.1).old ((Below.refl _ _).alloc (Nat.le_refl _) (.map #[] 0)), (hHeld.2.2.2).trans ((((Below.refl _ _).alloc (Nat.le_refl _) (.map #[] 0))).mono (hHeld.2.2.2).size)⟩
      clear hK K
      try simp only [zz]
      exact memo_use (by kernel_rfl) (by kernel_rfl) (k11 _ _ hgm0 hHeld (MapAt.new _))
    refine key0 8 (lst 26 [1, 2, 3, 4, 5, 7, 8, 9, 10, 11, 12, 13, 14, 15, 16, 17, 18, 19]) ({ tmps := #[.agg #[.int .i64 rs, .int .i64 rf, .int .i64 rl, .int .i64 ra, .int .i64 rb], .agg #[.int .i64 a, .int .i64 b, .int .i64 c, .int .i64 d, .int .i64 x, .int .i64 y], .pointer (some ⟨w.heap.size, 0, none⟩), .pointer (some ⟨w.heap.size + 1, 0, none⟩), .string ⟨#[]⟩, .pointer (some ⟨g5, 0, none⟩), undef, undef, undef, undef, u10, u11, u12, u13, u14, .agg #[.int .i64 a, .int .i64 b, .int .i64 c, .int .i64 d, .int .i64 x, .int .i64 y], .int .i64 Q, .pointer (some ⟨w.heap.size, 2, none⟩), .int .i64 rl, .bool (decide (Q < rl)), .agg #[.int .i64 N, .int .i64 Q], .pointer (some ⟨w.heap.size, 3, none⟩), .pointer (some ⟨w.heap.size, 3, none⟩), .int .i64 ra, .agg #[.int .i64 ra, .int .i64 1], .int .i64 C1, .bool true, .bool true, undef, undef, undef, undef, undef, undef, undef, undef, undef, undef, undef, undef, undef, undef, undef, undef, undef, undef, undef], defers := [] }) ?_ (fun k16 => ?_)
    · intro V hHeld
      refine st3 0 20 (fun K hK => ?_) (fun K hK => ?_)
      ·
       have hgm0 := hHeld.2.2.2.size
       go_simp
       refine hK.out _ _ ?_ (fun hHeld => ?_)
       · exact ⟨(hHeld.1).old ((Below.refl _ _).alloc (Nat.le_refl _) (.map #[] 0)), (hHeld.2.1).old ((Below.refl _ _).alloc (Nat.le_refl _) (.map #[] 0)), (hHeld.2.2.1).old ((Below.refl _ _).alloc (Nat.le_refl _) (.map #[] 0)), (hHeld.2.2.2).trans ((((Below.refl _ _).alloc (Nat.le_refl _) (.map #[] 0))).mono (hHeld.2.2.2).size)⟩
       clear hK K
       try simp only [zz]
       exact memo_use (by kernel_rfl) (by kernel_rfl) (k10 _ _ hgm0 hHeld (MapAt.new _))
      ·
       refine step_shun (by kernel_rfl) ?_
       refine hK.out _ _ hHeld (fun hHeld => ?_)
       clear hK K
       try simp only [zz]
       refine wpAnyH_take (i := 21) (oi := ⟨some 34, _, _, _, _, _⟩) (v := undef) rfl (by kernel_rfl) (by kernel_rfl) (by kernel_rfl) (fun _ _ _ h => h) (Or.inr ⟨by kernel_rfl, rfl⟩) hHeld ?_
       try simp only [zz]
       refine ta 22 35 hHeld ?_
       try simp only [zz]
       exact memo_use (by kernel_rfl) (by kernel_rfl) (k17 _ hHeld)
    refine key0 9 (lst 26 [1, 2, 3, 4, 5, 7, 8, 9, 10, 11, 12, 13, 14, 15, 16, 17, 18]) ({ tmps := #[.agg #[.int .i64 rs, .int .i64 rf, .int .i64 rl, .int .i64 ra, .int .i64 rb], .agg #[.int .i64 a, .int .i64 b, .int .i64 c, .int .i64 d, .int .i64 x, .int .i64 y], .pointer (some ⟨w.heap.size, 0, none⟩), .pointer (some ⟨w.heap.size + 1, 0, none⟩), .string ⟨#[]⟩, .pointer (some ⟨g5, 0, none⟩), undef, undef, undef, undef, u10, u11, u12, u13, u14, .agg #[.int .i64 a, .int .i64 b, .int .i64 c, .int .i64 d, .int .i64 x, .int .i64 y], .int .i64 Q, .pointer (some ⟨w.heap.size, 2, none⟩), .int .i64 rl, .bool (decide (Q < rl)), .agg #[.int .i64 N, .int .i64 Q], .pointer (some ⟨w.heap.size, 3, none⟩), .pointer (some ⟨w.heap.size, 3, none⟩), .int .i64 ra, .agg #[.int .i64 ra, .int .i64 1], .int .i64 C1, .bool true, .bool true, undef, undef, undef, undef, undef, undef, undef, undef, undef, undef, undef, undef, undef, undef, undef, undef, undef, undef, undef], defers := [] }) ?_ (fun k15 => ?_)
    · intro V hHeld
      refine st3 0 19 (fun K hK => ?_) (fun K hK => ?_)
      ·
       have hgm0 := hHeld.2.2.2.size
       go_simp
       refine hK.out _ _ ?_ (fun hHeld => ?_)
       · exact ⟨(hHeld.1).old ((Below.refl _ _).alloc (Nat.le_refl _) (.map #[] 0)), (hHeld.2.1).old ((Below.refl _ _).alloc (Nat.le_refl _) (.map #[] 0)), (hHeld.2.2.1).old ((Below.refl _ _).alloc (Nat.le_refl _) (.map #[] 0)), (hHeld.2.2.2).trans ((((Below.refl _ _).alloc (Nat.le_refl _) (.map #[] 0))).mono (hHeld.2.2.2).size)⟩
       clear hK K
       try simp only [zz]
       exact memo_use (by kernel_rfl) (by kernel_rfl) (k9 _ _ hgm0 hHeld (MapAt.new _))
      ·
       refine step_shun (by kernel_rfl) ?_
       refine hK.out _ _ hHeld (fun hHeld => ?_)
       clear hK K
       try simp only [zz]
       exact memo_use (by kernel_rfl) (by kernel_rfl) (k16 _ hHeld)
    refine key0 16 (lst 26 [1, 2, 3, 4, 5, 7, 8, 9, 10, 11]) ({ tmps := #[.agg #[.int .i64 rs, .int .i64 rf, .int .i64 rl, .int .i64 ra, .int .i64 rb], .agg #[.int .i64 a, .int .i64 b, .int .i64 c, .int .i64 d, .int .i64 x, .int .i64 y], .pointer (some ⟨w.heap.size, 0, none⟩), .pointer (some ⟨w.heap.size + 1, 0, none⟩), .string ⟨#[]⟩, .pointer (some ⟨g5, 0, none⟩), undef, undef, undef, undef, u10, u11, u12, u13, u14, .agg #[.int .i64 a, .int .i64 b, .int .i64 c, .int .i64 d, .int .i64 x, .int .i64 y], .int .i64 Q, .pointer (some ⟨w.heap.size, 2, none⟩), .int .i64 rl, .bool (decide (Q < rl)), .agg #[.int .i64 N, .int .i64 Q], .pointer (some ⟨w.heap.size, 3, none⟩), .pointer (some ⟨w.heap.size, 3, none⟩), .int .i64 ra, .agg #[.int .i64 ra, .int .i64 1], undef, undef, undef, undef, undef, undef, undef, undef, undef, undef, undef, undef, undef, undef, undef, undef, undef, undef, undef, undef, undef, undef], defers := [] }) ?_ (fun k14 => ?_)
    · intro V hHeld
      refine st3 0 12 (fun K hK => ?_) (fun K hK => ?_)
      ·
       have hgm0 := hHeld.2.2.2.size
       go_simp
       refine hK.out _ _ ?_ (fun hHeld => ?_)
       · exact ⟨(hHeld.1).old ((Below.refl _ _).alloc (Nat.le_refl _) (.map #[] 0)), (hHeld.2.1).old ((Below.refl _ _).alloc (Nat.le_refl _) (.map #[] 0)), (hHeld.2.2.1).old ((Below.refl _ _).alloc (Nat.le_refl _) (.map #[] 0)), (hHeld.2.2.2).trans ((((Below.refl _ _).alloc (Nat.le_refl _) (.map #[] 0))).mono (hHeld.2.2.2).size)⟩
       clear hK K
       try simp only [zz]
       exact memo_use (by kernel_rfl) (by kernel_rfl) (k8 _ _ hgm0 hHeld (MapAt.new _))
      ·
       go_simp
       go_at_call 73
       refine (HC1.out _).mono ?_
       rintro e v12 ⟨rfl, hb12⟩
       try go_simp
       refine hK.out _ _ ?_ (fun hHeld => ?_)
       · exact ⟨(hHeld.1).old hb12, (hHeld.2.1).old hb12, (hHeld.2.2.1).old hb12, (hHeld.2.2.2).trans ((hb12).mono (hHeld.2.2.2).size)⟩
       clear hK K
       try simp only [zz]
       refine tk 13 26 (.bool true) rfl (by kernel_rfl) (fun _ _ _ h => h) (by kernel_rfl) (fun w1 hSw => by (try dsimp only at hSw); rw [← hB]; go_simp <;> with_reducible rfl) hHeld ?_
       try simp only [zz]
       refine ta 14 27 hHeld ?_
       try simp only [zz]
       refine wpAnyH_take (i := 15) (oi := ⟨some 28, _, _, _, _, _⟩) (v := undef) rfl (by kernel_rfl) (by kernel_rfl) (by kernel_rfl) (fun _ _ _ h => h) (Or.inr ⟨by kernel_rfl, rfl⟩) hHeld ?_
       try simp only [zz]
       refine wpAnyH_take (i := 16) (oi := ⟨some 29, _, _, _, _, _⟩) (v := undef) rfl (by kernel_rfl) (by kernel_rfl) (by kernel_rfl) (fun _ _ _ h => h) (Or.inr ⟨by kernel_rfl, rfl⟩) hHeld ?_
       try simp only [zz]
       refine wpAnyH_take (i := 17) (oi := ⟨some 30, _, _, _, _, _⟩) (v := undef) rfl (by kernel_rfl) (by kernel_rfl) (by kernel_rfl) (fun _ _ _ h => h) (Or.inr ⟨by kernel_rfl, rfl⟩) hHeld ?_
       try simp only [zz]
       refine wpAnyH_take (i := 18) (oi := ⟨some 31, _, _, _, _, _⟩) (v := undef) rfl (by kernel_rfl) (by kernel_rfl) (by kernel_rfl) (fun _ _ _ h => h) (Or.inr ⟨by kernel_rfl, rfl⟩) hHeld ?_
       try simp only [zz]
       exact memo_use (by kernel_rfl) (by kernel_rfl) (k15 _ hHeld)
    refine key0 17 (lst 26 [1, 2, 3, 4, 5, 7, 8, 9, 10]) ({ tmps := #[.agg #[.int .i64 rs, .int .i64 rf, .int .i64 rl, .int .i64 ra, .int .i64 rb], .agg #[.int .i64 a, .int .i64 b, .int .i64 c, .int .i64 d, .int .i64 x, .int .i64 y], .pointer (some ⟨w.heap.size, 0, none⟩), .pointer (some ⟨w.heap.size + 1, 0, none⟩), .string ⟨#[]⟩, .pointer (some ⟨g5, 0, none⟩), undef, undef, undef, undef, u10, u11, u12, u13, u14, .agg #[.int .i64 a, .int .i64 b, .int .i64 c, .int .i64 d, .int .i64 x, .int .i64 y], .int .i64 Q, .pointer (some ⟨w.heap.size, 2, none⟩), .int .i64 rl, .bool (decide (Q < rl)), .agg #[.int .i64 N, .int .i64 Q], .pointer (some ⟨w.heap.size, 3, none⟩), .pointer (some ⟨w.heap.size, 3, none⟩), .int .i64 ra, undef, undef, undef, undef, undef, undef, undef, undef, undef, undef, undef, undef, undef, undef, undef, undef, undef, undef, undef, undef, undef, undef, undef], defers := [] }) ?_ (fun k13 => ?_)
    · intro V hHeld
      refine st3 0 11 (fun K hK => ?_) (fun K hK => ?_)
      ·
       have hgm0 := hHeld.2.2.2.size
       go_simp
       refine hK.out _ _ ?_ (fun hHeld => ?_)
       · exact ⟨(hHeld.1).old ((Below.refl _ _).alloc (Nat.le_refl _) (.map #[] 0)), (hHeld.2.1).old ((Below.refl _ _).alloc (Nat.le_refl _) (.map #[] 0)), (hHeld.2.2.1).old ((Below.refl _ _).alloc (Nat.le_refl _) (.map #[] 0)), (hHeld.2.2.2).trans ((((Below.refl _ _).alloc (Nat.le_refl _) (.map #[] 0))).mono (hHeld.2.2.2).size)⟩
       clear hK K
       try simp only [zz]
       exact memo_use (by kernel_rfl) (by kernel_rfl) (k2 _ _ hgm0 hHeld (MapAt.new _))
      ·
       go_simp
       go_at_call 76
       refine (HI1.out _).mono ?_
       rintro e v11 ⟨rfl, hb11⟩
       try go_simp
       refine hK.out _ _ ?_ (fun hHeld => ?_)
       · exact ⟨(hHeld.1).old hb11, (hHeld.2.1).old hb11, (hHeld.2.2.1).old hb11, (hHeld.2.2.2).trans ((hb11).mono (hHeld.2.2.2).size)⟩
       clear hK K
       try simp only [zz]
       exact memo_use (by kernel_rfl) (by kernel_rfl) (k14 _ hHeld)
    refine tk 1 15 (.agg #[.int .i64 a, .int .i64 b, .int .i64 c, .int .i64 d, .int .i64 x, .int .i64 y]) rfl (by kernel_rfl) (fun _ _ _ h => h) (by kernel_rfl) (fun V hV => ex_rowT 35 _ rfl (w.heap.size + 1) rfl 35 [.int .i64 a, .int .i64 b, .int .i64 c, .int .i64 d, .int .i64 x, .int .i64 y] _ Tryz.underlying35 rfl (by kernel_rfl) (hV.2.1)) hHeld ?_
    try simp only [zz]
    refine ta 3 17 hHeld ?_
    try simp only [zz]
    refine tk 4 18 ?_ rfl (by kernel_rfl) (fun _ _ _ h => h) (by kernel_rfl) ?_ hHeld ?_
    rotate_left
    · intro w1 hSw; (try dsimp only at hSw); have cc := (hSw.1).cell 2; simp only [List.getElem?_cons_succ, List.getElem?_cons_zero] at cc; go_simp <;> with_reducible rfl
    try simp only [zz]
    refine tk 7 20 (.agg #[.int .i64 N, .int .i64 Q]) rfl (by kernel_rfl) (fun _ _ _ h => h) (by kernel_rfl) (fun V hV => ex_rowT 141 _ rfl (g5) rfl 141 [.int .i64 N, .int .i64 Q] _ Tryz.underlying141 rfl (by kernel_rfl) (hV.2.2.1)) hHeld ?_
    try simp only [zz]
    refine ta 8 21 hHeld ?_
    try simp only [zz]
    refine ta 9 22 hHeld ?_
    try simp only [zz]
    refine tk 10 23 ?_ rfl (by kernel_rfl) (fun _ _ _ h => h) (by kernel_rfl) ?_ hHeld ?_
    rotate_left
    · intro w1 hSw; (try dsimp only at hSw); have cc := (hSw.1).cell 3; simp only [List.getElem?_cons_succ, List.getElem?_cons_zero] at cc; go_simp <;> with_reducible rfl
    try simp only [zz]
    refine st3 0 2 (fun K hK => ?_) (fun K hK => ?_)
    ·
     have hgm0 := hHeld.2.2.2.size
     go_simp
     refine hK.out _ _ ?_ (fun hHeld => ?_)
     · exact ⟨(hHeld.1).old ((Below.refl _ _).alloc (Nat.le_refl _) (.map #[] 0)), (hHeld.2.1).old ((Below.refl _ _).alloc (Nat.le_refl _) (.map #[] 0)), (hHeld.2.2.1).old ((Below.refl _ _).alloc (Nat.le_refl _) (.map #[] 0)), (hHeld.2.2.2).trans ((((Below.refl _ _).alloc (Nat.le_refl _) (.map #[] 0))).mono (hHeld.2.2.2).size)⟩
     clear hK K
     try simp only [zz]
     exact memo_use (by kernel_rfl) (by kernel_rfl) (k1 _ _ hgm0 hHeld (MapAt.new _))
    ·
     go_simp
     go_at_call 132
     refine (HQ.out _).mono ?_
     rintro e v2 ⟨rfl, hb2⟩
     try go_simp
     refine hK.out _ _ ?_ (fun hHeld => ?_)
     · exact ⟨(hHeld.1).old hb2, (hHeld.2.1).old hb2, (hHeld.2.2.1).old hb2, (hHeld.2.2.2).trans ((hb2).mono (hHeld.2.2.2).size)⟩
     clear hK K
     try simp only [zz]
     refine tk 5 19 (.bool (decide (Q < rl))) rfl (by kernel_rfl) (fun _ _ _ h => h) (by kernel_rfl) (fun w1 hSw => by (try dsimp only at hSw); go_simp <;> with_reducible rfl) hHeld ?_
     try simp only [zz]
     exact memo_use (by kernel_rfl) (by kernel_rfl) (k13 _ hHeld)
  | false =>
    obtain rfl : D = decide (0 < C2) := by rw [HD.out, hB]; rfl
    refine wp_region_held_drew (S := fun V => Row V (w.heap.size) 87 [.int .i64 rs, .int .i64 rf, .int .i64 rl, .int .i64 ra, .int .i64 rb] ∧ Row V (w.heap.size + 1) 35 [.int .i64 a, .int .i64 b, .int .i64 c, .int .i64 d, .int .i64 x, .int .i64 y] ∧ Row V (g5) 141 [.int .i64 N, .int .i64 Q] ∧ Below W5.heap.size W5 V) (by kernel_rfl) ?_ (fun hHeld => ?_)
    · exact ⟨(HR5.out.1).drew, (HR5.out.2.1).drew, (HR5.out.2.2.1).drew, (HR5.out.2.2.2).drew⟩
    refine keyM W5.heap.size #[{ key := .string ⟨#[119, 101, 97, 107]⟩, val := .bool (decide (Q < rl)), born := 0 }] 1 3 (lst 26 [0, 1, 2, 3, 4, 5, 6, 7, 8, 9, 10, 11, 12, 13, 14, 15, 16, 17, 18, 19, 20, 21, 22]) (fun gm => ({ tmps := #[.agg #[.int .i64 rs, .int .i64 rf, .int .i64 rl, .int .i64 ra, .int .i64 rb], .agg #[.int .i64 a, .int .i64 b, .int .i64 c, .int .i64 d, .int .i64 x, .int .i64 y], .pointer (some ⟨w.heap.size, 0, none⟩), .pointer (some ⟨w.heap.size + 1, 0, none⟩), .string ⟨#[]⟩, .pointer (some ⟨g5, 0, none⟩), undef, undef, undef, undef, u10, u11, u12, u13, .map (some gm), .agg #[.int .i64 a, .int .i64 b, .int .i64 c, .int .i64 d, .int .i64 x, .int .i64 y], .int .i64 Q, .pointer (some ⟨w.heap.size, 2, none⟩), .int .i64 rl, .bool (decide (Q < rl)), .agg #[.int .i64 N, .int .i64 Q], .pointer (some ⟨w.heap.size, 3, none⟩), .pointer (some ⟨w.heap.size, 3, none⟩), .int .i64 ra, .agg #[.int .i64 ra, .int .i64 1], .int .i64 C1, .bool false, .bool false, .agg #[.int .i64 N, .int .i64 Q], .pointer (some ⟨w.heap.size, 3, none⟩), .pointer (some ⟨w.heap.size, 4, none⟩), .int .i64 rb, .agg #[.int .i64 rb, .int .i64 1], .int .i64 C2, .bool (decide (0 < C2)), .bool (decide (0 < C2)), undef, undef, undef, undef, undef, undef, undef, undef, undef, undef, undef], defers := [] } : Act)) ?_ (fun k7 => ?_)
    · intro gm V hgm hHeld hat
      refine st2 23 (fun K hK => ?_)
      refine step_insert rfl 214 9 4 _ _ _ rfl _ 1 #[{ key := .string ⟨#[119, 101, 97, 107]⟩, val := .bool (decide (Q < rl)), born := 0 }] ⟨#[100, 101, 112, 116, 104]⟩ (.bool (decide (0 < C2))) rfl rfl rfl Tryz.underlying214 Tryz.underlying9 hat rfl ?_
      refine hK.out _ _ ?_ (fun hHeld => ?_)
      · exact ⟨hHeld.1.putM (by omega) _ _, hHeld.2.1.putM (by omega) _ _, hHeld.2.2.1.putM (by omega) _ _, Below.putM hHeld.2.2.2 (by omega) _ _⟩
      clear hK K
      try simp only [zz]
      refine ta 24 36 hHeld ?_
      try simp only [zz]
      refine ta 25 6 hHeld ?_
      try simp only [zz]
      refine wpAnyH_done (by kernel_rfl) ?_ _
      go_wp2_with fail
      go_meet
      exact ⟨_, _, rfl, hat.put, .inl rfl, HB5.out.trans (hHeld.2.2.2.mono HB5.out.size)⟩
    refine keyM W5.heap.size #[{ key := .string ⟨#[119, 101, 97, 107]⟩, val := .bool (decide (Q < rl)), born := 0 }] 1 6 (lst 26 [0, 1, 2, 3, 4, 5, 6, 7, 8, 9, 10, 11, 12, 13, 14, 15, 16, 17, 18, 19]) (fun gm => ({ tmps := #[.agg #[.int .i64 rs, .int .i64 rf, .int .i64 rl, .int .i64 ra, .int .i64 rb], .agg #[.int .i64 a, .int .i64 b, .int .i64 c, .int .i64 d, .int .i64 x, .int .i64 y], .pointer (some ⟨w.heap.size, 0, none⟩), .pointer (some ⟨w.heap.size + 1, 0, none⟩), .string ⟨#[]⟩, .pointer (some ⟨g5, 0, none⟩), undef, undef, undef, undef, u10, u11, u12, u13, .map (some gm), .agg #[.int .i64 a, .int .i64 b, .int .i64 c, .int .i64 d, .int .i64 x, .int .i64 y], .int .i64 Q, .pointer (some ⟨w.heap.size, 2, none⟩), .int .i64 rl, .bool (decide (Q < rl)), .agg #[.int .i64 N, .int .i64 Q], .pointer (some ⟨w.heap.size, 3, none⟩), .pointer (some ⟨w.heap.size, 3, none⟩), .int .i64 ra, .agg #[.int .i64 ra, .int .i64 1], .int .i64 C1, .bool false, .bool false, .agg #[.int .i64 N, .int .i64 Q], .pointer (some ⟨w.heap.size, 3, none⟩), .pointer (some ⟨w.heap.size, 4, none⟩), .int .i64 rb, .agg #[.int .i64 rb, .int .i64 1], undef, undef, undef, undef, undef, undef, undef, undef, undef, undef, undef, undef, undef, undef], defers := [] } : Act)) ?_ (fun k6 => ?_)
    · intro gm V hgm hHeld hat
      refine st2 20 (fun K hK => ?_)
      go_simp
      go_at_call 73
      refine (HC2.out _).mono ?_
      rintro e v20 ⟨rfl, hb20⟩
      try go_simp
      refine hK.out _ _ ?_ (fun hHeld => ?_)
      · exact ⟨(hHeld.1).old hb20, (hHeld.2.1).old hb20, (hHeld.2.2.1).old hb20, (hHeld.2.2.2).trans ((hb20).mono (hHeld.2.2.2).size)⟩
      clear hK K
      try simp only [zz]
      refine tk 21 34 (.bool (decide (0 < C2))) rfl (by kernel_rfl) (fun _ _ _ h => h) (by kernel_rfl) (fun w1 hSw => by (try dsimp only at hSw); go_simp <;> with_reducible rfl) hHeld ?_
      try simp only [zz]
      refine ta 22 35 hHeld ?_
      try simp only [zz]
      exact memo_use (by kernel_rfl) (by kernel_rfl) (k7 _ _ hgm hHeld (hat.old hb20))
    refine keyM W5.heap.size #[{ key := .string ⟨#[119, 101, 97, 107]⟩, val := .bool (decide (Q < rl)), born := 0 }] 1 7 (lst 26 [0, 1, 2, 3, 4, 5, 6, 7, 8, 9, 10, 11, 12, 13, 14, 15, 16, 17, 18]) (fun gm => ({ tmps := #[.agg #[.int .i64 rs, .int .i64 rf, .int .i64 rl, .int .i64 ra, .int .i64 rb], .agg #[.int .i64 a, .int .i64 b, .int .i64 c, .int .i64 d, .int .i64 x, .int .i64 y], .pointer (some ⟨w.heap.size, 0, none⟩), .pointer (some ⟨w.heap.size + 1, 0, none⟩), .string ⟨#[]⟩, .pointer (some ⟨g5, 0, none⟩), undef, undef, undef, undef, u10, u11, u12, u13, .map (some gm), .agg #[.int .i64 a, .int .i64 b, .int .i64 c, .int .i64 d, .int .i64 x, .int .i64 y], .int .i64 Q, .pointer (some ⟨w.heap.size, 2, none⟩), .int .i64 rl, .bool (decide (Q < rl)), .agg #[.int .i64 N, .int .i64 Q], .pointer (some ⟨w.heap.size, 3, none⟩), .pointer (some ⟨w.heap.size, 3, none⟩), .int .i64 ra, .agg #[.int .i64 ra, .int .i64 1], .int .i64 C1, .bool false, .bool false, .agg #[.int .i64 N, .int .i64 Q], .pointer (some ⟨w.heap.size, 3, none⟩), .pointer (some ⟨w.heap.size, 4, none⟩), .int .i64 rb, undef, undef, undef, undef, undef, undef, undef, undef, undef, undef, undef, undef, undef, undef, undef], defers := [] } : Act)) ?_ (fun k5 => ?_)
    · intro gm V hgm hHeld hat
      refine st2 19 (fun K hK => ?_)
      go_simp
      go_at_call 76
      refine (HI2.out _).mono ?_
      rintro e v19 ⟨rfl, hb19⟩
      try go_simp
      refine hK.out _ _ ?_ (fun hHeld => ?_)
      · exact ⟨(hHeld.1).old hb19, (hHeld.2.1).old hb19, (hHeld.2.2.1).old hb19, (hHeld.2.2.2).trans ((hb19).mono (hHeld.2.2.2).size)⟩
      clear hK K
      try simp only [zz]
      exact memo_use (by kernel_rfl) (by kernel_rfl) (k6 _ _ hgm hHeld (hat.old hb19))
    refine keyM W5.heap.size #[{ key := .string ⟨#[119, 101, 97, 107]⟩, val := .bool (decide (Q < rl)), born := 0 }] 1 14 (lst 26 [0, 1, 2, 3, 4, 5, 6, 7, 8, 9, 10, 11]) (fun gm => ({ tmps := #[.agg #[.int .i64 rs, .int .i64 rf, .int .i64 rl, .int .i64 ra, .int .i64 rb], .agg #[.int .i64 a, .int .i64 b, .int .i64 c, .int .i64 d, .int .i64 x, .int .i64 y], .pointer (some ⟨w.heap.size, 0, none⟩), .pointer (some ⟨w.heap.size + 1, 0, none⟩), .string ⟨#[]⟩, .pointer (some ⟨g5, 0, none⟩), undef, undef, undef, undef, u10, u11, u12, u13, .map (some gm), .agg #[.int .i64 a, .int .i64 b, .int .i64 c, .int .i64 d, .int .i64 x, .int .i64 y], .int .i64 Q, .pointer (some ⟨w.heap.size, 2, none⟩), .int .i64 rl, .bool (decide (Q < rl)), .agg #[.int .i64 N, .int .i64 Q], .pointer (some ⟨w.heap.size, 3, none⟩), .pointer (some ⟨w.heap.size, 3, none⟩), .int .i64 ra, .agg #[.int .i64 ra, .int .i64 1], undef, undef, undef, undef, undef, undef, undef, undef, undef, undef, undef, undef, undef, undef, undef, undef, undef, undef, undef, undef, undef, undef], defers := [] } : Act)) ?_ (fun k4 => ?_)
    · intro gm V hgm hHeld hat
      refine st2 12 (fun K hK => ?_)
      go_simp
      go_at_call 73
      refine (HC1.out _).mono ?_
      rintro e v12 ⟨rfl, hb12⟩
      try go_simp
      refine hK.out _ _ ?_ (fun hHeld => ?_)
      · exact ⟨(hHeld.1).old hb12, (hHeld.2.1).old hb12, (hHeld.2.2.1).old hb12, (hHeld.2.2.2).trans ((hb12).mono (hHeld.2.2.2).size)⟩
      clear hK K
      try simp only [zz]
      refine tk 13 26 (.bool false) rfl (by kernel_rfl) (fun _ _ _ h => h) (by kernel_rfl) (fun w1 hSw => by (try dsimp only at hSw); rw [← hB]; go_simp <;> with_reducible rfl) hHeld ?_
      try simp only [zz]
      refine ta 14 27 hHeld ?_
      try simp only [zz]
      refine tk 15 28 (.agg #[.int .i64 N, .int .i64 Q]) rfl (by kernel_rfl) (fun _ _ _ h => h) (by kernel_rfl) (fun V hV => ex_rowT 141 _ rfl (g5) rfl 141 [.int .i64 N, .int .i64 Q] _ Tryz.underlying141 rfl (by kernel_rfl) (hV.2.2.1)) hHeld ?_
      try simp only [zz]
      refine ta 16 29 hHeld ?_
      try simp only [zz]
      refine ta 17 30 hHeld ?_
      try simp only [zz]
      refine tk 18 31 ?_ rfl (by kernel_rfl) (fun _ _ _ h => h) (by kernel_rfl) ?_ hHeld ?_
      rotate_left
      · intro w1 hSw; (try dsimp only at hSw); have cc := (hSw.1).cell 4; simp only [List.getElem?_cons_succ, List.getElem?_cons_zero] at cc; go_simp <;> with_reducible rfl
      try simp only [zz]
      exact memo_use (by kernel_rfl) (by kernel_rfl) (k5 _ _ hgm hHeld (hat.old hb12))
    refine keyM W5.heap.size #[{ key := .string ⟨#[119, 101, 97, 107]⟩, val := .bool (decide (Q < rl)), born := 0 }] 1 15 (lst 26 [0, 1, 2, 3, 4, 5, 6, 7, 8, 9, 10]) (fun gm => ({ tmps := #[.agg #[.int .i64 rs, .int .i64 rf, .int .i64 rl, .int .i64 ra, .int .i64 rb], .agg #[.int .i64 a, .int .i64 b, .int .i64 c, .int .i64 d, .int .i64 x, .int .i64 y], .pointer (some ⟨w.heap.size, 0, none⟩), .pointer (some ⟨w.heap.size + 1, 0, none⟩), .string ⟨#[]⟩, .pointer (some ⟨g5, 0, none⟩), undef, undef, undef, undef, u10, u11, u12, u13, .map (some gm), .agg #[.int .i64 a, .int .i64 b, .int .i64 c, .int .i64 d, .int .i64 x, .int .i64 y], .int .i64 Q, .pointer (some ⟨w.heap.size, 2, none⟩), .int .i64 rl, .bool (decide (Q < rl)), .agg #[.int .i64 N, .int .i64 Q], .pointer (some ⟨w.heap.size, 3, none⟩), .pointer (some ⟨w.heap.size, 3, none⟩), .int .i64 ra, undef, undef, undef, undef, undef, undef, undef, undef, undef, undef, undef, undef, undef, undef, undef, undef, undef, undef, undef, undef, undef, undef, undef], defers := [] } : Act)) ?_ (fun k3 => ?_)
    · intro gm V hgm hHeld hat
      refine st2 11 (fun K hK => ?_)
      go_simp
      go_at_call 76
      refine (HI1.out _).mono ?_
      rintro e v11 ⟨rfl, hb11⟩
      try go_simp
      refine hK.out _ _ ?_ (fun hHeld => ?_)
      · exact ⟨(hHeld.1).old hb11, (hHeld.2.1).old hb11, (hHeld.2.2.1).old hb11, (hHeld.2.2.2).trans ((hb11).mono (hHeld.2.2.2).size)⟩
      clear hK K
      try simp only [zz]
      exact memo_use (by kernel_rfl) (by kernel_rfl) (k4 _ _ hgm hHeld (hat.old hb11))
    refine keyM W5.heap.size #[{ key := .string ⟨#[100, 101, 112, 116, 104]⟩, val := .bool (decide (0 < C2)), born := 0 }] 1 3 (lst 26 [0, 1, 2, 3, 4, 5, 7, 8, 9, 10, 11, 12, 13, 14, 15, 16, 17, 18, 19, 20, 21, 22, 23]) (fun gm => ({ tmps := #[.agg #[.int .i64 rs, .int .i64 rf, .int .i64 rl, .int .i64 ra, .int .i64 rb], .agg #[.int .i64 a, .int .i64 b, .int .i64 c, .int .i64 d, .int .i64 x, .int .i64 y], .pointer (some ⟨w.heap.size, 0, none⟩), .pointer (some ⟨w.heap.size + 1, 0, none⟩), .string ⟨#[]⟩, .pointer (some ⟨g5, 0, none⟩), undef, undef, undef, undef, u10, u11, u12, u13, .map (some gm), .agg #[.int .i64 a, .int .i64 b, .int .i64 c, .int .i64 d, .int .i64 x, .int .i64 y], .int .i64 Q, .pointer (some ⟨w.heap.size, 2, none⟩), .int .i64 rl, .bool (decide (Q < rl)), .agg #[.int .i64 N, .int .i64 Q], .pointer (some ⟨w.heap.size, 3, none⟩), .pointer (some ⟨w.heap.size, 3, none⟩), .int .i64 ra, .agg #[.int .i64 ra, .int .i64 1], .int .i64 C1, .bool false, .bool false, .agg #[.int .i64 N, .int .i64 Q], .pointer (some ⟨w.heap.size, 3, none⟩), .pointer (some ⟨w.heap.size, 4, none⟩), .int .i64 rb, .agg #[.int .i64 rb, .int .i64 1], .int .i64 C2, .bool (decide (0 < C2)), .bool (decide (0 < C2)), undef, undef, undef, undef, undef, undef, undef, undef, undef, undef, undef], defers := [] } : Act)) ?_ (fun k12 => ?_)
    · intro gm V hgm hHeld hat
      refine st2 6 (fun K hK => ?_)
      refine step_insert rfl 214 9 4 _ _ _ rfl _ 1 #[{ key := .string ⟨#[100, 101, 112, 116, 104]⟩, val := .bool (decide (0 < C2)), born := 0 }] ⟨#[119, 101, 97, 107]⟩ (.bool (decide (Q < rl))) rfl rfl rfl Tryz.underlying214 Tryz.underlying9 hat rfl ?_
      refine hK.out _ _ ?_ (fun hHeld => ?_)
      · exact ⟨hHeld.1.putM (by omega) _ _, hHeld.2.1.putM (by omega) _ _, hHeld.2.2.1.putM (by omega) _ _, Below.putM hHeld.2.2.2 (by omega) _ _⟩
      clear hK K
      try simp only [zz]
      refine ta 24 36 hHeld ?_
      try simp only [zz]
      refine ta 25 6 hHeld ?_
      try simp only [zz]
      refine wpAnyH_done (by kernel_rfl) ?_ _
      go_wp2_with fail
      go_meet
      exact ⟨_, _, rfl, hat.put, .inr rfl, HB5.out.trans (hHeld.2.2.2.mono HB5.out.size)⟩
    refine keyM W5.heap.size #[] 0 4 (lst 26 [0, 1, 2, 3, 4, 5, 7, 8, 9, 10, 11, 12, 13, 14, 15, 16, 17, 18, 19, 20, 21, 22]) (fun gm => ({ tmps := #[.agg #[.int .i64 rs, .int .i64 rf, .int .i64 rl, .int .i64 ra, .int .i64 rb], .agg #[.int .i64 a, .int .i64 b, .int .i64 c, .int .i64 d, .int .i64 x, .int .i64 y], .pointer (some ⟨w.heap.size, 0, none⟩), .pointer (some ⟨w.heap.size + 1, 0, none⟩), .string ⟨#[]⟩, .pointer (some ⟨g5, 0, none⟩), undef, undef, undef, undef, u10, u11, u12, u13, .map (some gm), .agg #[.int .i64 a, .int .i64 b, .int .i64 c, .int .i64 d, .int .i64 x, .int .i64 y], .int .i64 Q, .pointer (some ⟨w.heap.size, 2, none⟩), .int .i64 rl, .bool (decide (Q < rl)), .agg #[.int .i64 N, .int .i64 Q], .pointer (some ⟨w.heap.size, 3, none⟩), .pointer (some ⟨w.heap.size, 3, none⟩), .int .i64 ra, .agg #[.int .i64 ra, .int .i64 1], .int .i64 C1, .bool false, .bool false, .agg #[.int .i64 N, .int .i64 Q], .pointer (some ⟨w.heap.size, 3, none⟩), .pointer (some ⟨w.heap.size, 4, none⟩), .int .i64 rb, .agg #[.int .i64 rb, .int .i64 1], .int .i64 C2, .bool (decide (0 < C2)), .bool (decide (0 < C2)), undef, undef, undef, undef, undef, undef, undef, undef, undef, undef, undef], defers := [] } : Act)) ?_ (fun k11 => ?_)
    · intro gm V hgm hHeld hat
      refine st3 6 23 (fun K hK => ?_) (fun K hK => ?_)
      ·
       refine step_insert rfl 214 9 4 _ _ _ rfl _ 0 #[] ⟨#[119, 101, 97, 107]⟩ (.bool (decide (Q < rl))) rfl rfl rfl Tryz.underlying214 Tryz.underlying9 hat rfl ?_
       refine hK.out _ _ ?_ (fun hHeld => ?_)
       · exact ⟨hHeld.1.putM (by omega) _ _, hHeld.2.1.putM (by omega) _ _, hHeld.2.2.1.putM (by omega) _ _, Below.putM hHeld.2.2.2 (by omega) _ _⟩
       clear hK K
       try simp only [zz]
       exact memo_use (by kernel_rfl) (by kernel_rfl) (k7 _ _ hgm hHeld hat.put)
      ·
       refine step_insert rfl 214 9 4 _ _ _ rfl _ 0 #[] ⟨#[100, 101, 112, 116, 104]⟩ (.bool (decide (0 < C2))) rfl rfl rfl Tryz.underlying214 Tryz.underlying9 hat rfl ?_
       refine hK.out _ _ ?_ (fun hHeld => ?_)
       · exact ⟨hHeld.1.putM (by omega) _ _, hHeld.2.1.putM (by omega) _ _, hHeld.2.2.1.putM (by omega) _ _, Below.putM hHeld.2.2.2 (by omega) _ _⟩
       clear hK K
       try simp only [zz]
       exact memo_use (by kernel_rfl) (by kernel_rfl) (k12 _ _ hgm hHeld hat.put)
    refine keyM W5.heap.size #[] 0 7 (lst 26 [0, 1, 2, 3, 4, 5, 7, 8, 9, 10, 11, 12, 13, 14, 15, 16, 17, 18, 19]) (fun gm => ({ tmps := #[.agg #[.int .i64 rs, .int .i64 rf, .int .i64 rl, .int .i64 ra, .int .i64 rb], .agg #[.int .i64 a, .int .i64 b, .int .i64 c, .int .i64 d, .int .i64 x, .int .i64 y], .pointer (some ⟨w.heap.size, 0, none⟩), .pointer (some ⟨w.heap.size + 1, 0, none⟩), .string ⟨#[]⟩, .pointer (some ⟨g5, 0, none⟩), undef, undef, undef, undef, u10, u11, u12, u13, .map (some gm), .agg #[.int .i64 a, .int .i64 b, .int .i64 c, .int .i64 d, .int .i64 x, .int .i64 y], .int .i64 Q, .pointer (some ⟨w.heap.size, 2, none⟩), .int .i64 rl, .bool (decide (Q < rl)), .agg #[.int .i64 N, .int .i64 Q], .pointer (some ⟨w.heap.size, 3, none⟩), .pointer (some ⟨w.heap.size, 3, none⟩), .int .i64 ra, .agg #[.int .i64 ra, .int .i64 1], .int .i64 C1, .bool false, .bool false, .agg #[.int .i64 N, .int .i64 Q], .pointer (some ⟨w.heap.size, 3, none⟩), .pointer (some ⟨w.heap.size, 4, none⟩), .int .i64 rb, .agg #[.int .i64 rb, .int .i64 1], undef, undef, undef, undef, undef, undef, undef, undef, undef, undef, undef, undef, undef, undef], defers := [] } : Act)) ?_ (fun k10 => ?_)
    · intro gm V hgm hHeld hat
      refine st3 6 20 (fun K hK => ?_) (fun K hK => ?_)
      ·
       refine step_insert rfl 214 9 4 _ _ _ rfl _ 0 #[] ⟨#[119, 101, 97, 107]⟩ (.bool (decide (Q < rl))) rfl rfl rfl Tryz.underlying214 Tryz.underlying9 hat rfl ?_
       refine hK.out _ _ ?_ (fun hHeld => ?_)
       · exact ⟨hHeld.1.putM (by omega) _ _, hHeld.2.1.putM (by omega) _ _, hHeld.2.2.1.putM (by omega) _ _, Below.putM hHeld.2.2.2 (by omega) _ _⟩
       clear hK K
       try simp only [zz]
       exact memo_use (by kernel_rfl) (by kernel_rfl) (k6 _ _ hgm hHeld hat.put)
      ·
       go_simp
       go_at_call 73
       refine (HC2.out _).mono ?_
       rintro e v20 ⟨rfl, hb20⟩
       try go_simp
       refine hK.out _ _ ?_ (fun hHeld => ?_)
       · exact ⟨(hHeld.1).old hb20, (hHeld.2.1).old hb20, (hHeld.2.2.1).old hb20, (hHeld.2.2.2).trans ((hb20).mono (hHeld.2.2.2).size)⟩
       clear hK K
       try simp only [zz]
       refine tk 21 34 (.bool (decide (0 < C2))) rfl (by kernel_rfl) (fun _ _ _ h => h) (by kernel_rfl) (fun w1 hSw => by (try dsimp only at hSw); go_simp <;> with_reducible rfl) hHeld ?_
       try simp only [zz]
       refine ta 22 35 hHeld ?_
       try simp only [zz]
       exact memo_use (by kernel_rfl) (by kernel_rfl) (k11 _ _ hgm hHeld (hat.old hb20))
    refine keyM W5.heap.size #[] 0 8 (lst 26 [0, 1, 2, 3, 4, 5, 7, 8, 9, 10, 11, 12, 13, 14, 15, 16, 17, 18]) (fun gm => ({ tmps := #[.agg #[.int .i64 rs, .int .i64 rf, .int .i64 rl, .int .i64 ra, .int .i64 rb], .agg #[.int .i64 a, .int .i64 b, .int .i64 c, .int .i64 d, .int .i64 x, .int .i64 y], .pointer (some ⟨w.heap.size, 0, none⟩), .pointer (some ⟨w.heap.size + 1, 0, none⟩), .string ⟨#[]⟩, .pointer (some ⟨g5, 0, none⟩), undef, undef, undef, undef, u10, u11, u12, u13, .map (some gm), .agg #[.int .i64 a, .int .i64 b, .int .i64 c, .int .i64 d, .int .i64 x, .int .i64 y], .int .i64 Q, .pointer (some ⟨w.heap.size, 2, none⟩), .int .i64 rl, .bool (decide (Q < rl)), .agg #[.int .i64 N, .int .i64 Q], .pointer (some ⟨w.heap.size, 3, none⟩), .pointer (some ⟨w.heap.size, 3, none⟩), .int .i64 ra, .agg #[.int .i64 ra, .int .i64 1], .int .i64 C1, .bool false, .bool false, .agg #[.int .i64 N, .int .i64 Q], .pointer (some ⟨w.heap.size, 3, none⟩), .pointer (some ⟨w.heap.size, 4, none⟩), .int .i64 rb, undef, undef, undef, undef, undef, undef, undef, undef, undef, undef, undef, undef, undef, undef, undef], defers := [] } : Act)) ?_ (fun k9 => ?_)
    · intro gm V hgm hHeld hat
      refine st3 6 19 (fun K hK => ?_) (fun K hK => ?_)
      ·
       refine step_insert rfl 214 9 4 _ _ _ rfl _ 0 #[] ⟨#[119, 101, 97, 107]⟩ (.bool (decide (Q < rl))) rfl rfl rfl Tryz.underlying214 Tryz.underlying9 hat rfl ?_
       refine hK.out _ _ ?_ (fun hHeld => ?_)
       · exact ⟨hHeld.1.putM (by omega) _ _, hHeld.2.1.putM (by omega) _ _, hHeld.2.2.1.putM (by omega) _ _, Below.putM hHeld.2.2.2 (by omega) _ _⟩
       clear hK K
       try simp only [zz]
       exact memo_use (by kernel_rfl) (by kernel_rfl) (k5 _ _ hgm hHeld hat.put)
      ·
       go_simp
       go_at_call 76
       refine (HI2.out _).mono ?_
       rintro e v19 ⟨rfl, hb19⟩
       try go_simp
       refine hK.out _ _ ?_ (fun hHeld => ?_)
       · exact ⟨(hHeld.1).old hb19, (hHeld.2.1).old hb19, (hHeld.2.2.1).old hb19, (hHeld.2.2.2).trans ((hb19).mono (hHeld.2.2.2).size)⟩
       clear hK K
       try simp only [zz]
       exact memo_use (by kernel_rfl) (by kernel_rfl) (k10 _ _ hgm hHeld (hat.old hb19))
    refine keyM W5.heap.size #[] 0 15 (lst 26 [0, 1, 2, 3, 4, 5, 7, 8, 9, 10, 11]) (fun gm => ({ tmps := #[.agg #[.int .i64 rs, .int .i64 rf, .int .i64 rl, .int .i64 ra, .int .i64 rb], .agg #[.int .i64 a, .int .i64 b, .int .i64 c, .int .i64 d, .int .i64 x, .int .i64 y], .pointer (some ⟨w.heap.size, 0, none⟩), .pointer (some ⟨w.heap.size + 1, 0, none⟩), .string ⟨#[]⟩, .pointer (some ⟨g5, 0, none⟩), undef, undef, undef, undef, u10, u11, u12, u13, .map (some gm), .agg #[.int .i64 a, .int .i64 b, .int .i64 c, .int .i64 d, .int .i64 x, .int .i64 y], .int .i64 Q, .pointer (some ⟨w.heap.size, 2, none⟩), .int .i64 rl, .bool (decide (Q < rl)), .agg #[.int .i64 N, .int .i64 Q], .pointer (some ⟨w.heap.size, 3, none⟩), .pointer (some ⟨w.heap.size, 3, none⟩), .int .i64 ra, .agg #[.int .i64 ra, .int .i64 1], undef, undef, undef, undef, undef, undef, undef, undef, undef, undef, undef, undef, undef, undef, undef, undef, undef, undef, undef, undef, undef, undef], defers := [] } : Act)) ?_ (fun k8 => ?_)
    · intro gm V hgm hHeld hat
      refine st3 6 12 (fun K hK => ?_) (fun K hK => ?_)
      ·
       refine step_insert rfl 214 9 4 _ _ _ rfl _ 0 #[] ⟨#[119, 101, 97, 107]⟩ (.bool (decide (Q < rl))) rfl rfl rfl Tryz.underlying214 Tryz.underlying9 hat rfl ?_
       refine hK.out _ _ ?_ (fun hHeld => ?_)
       · exact ⟨hHeld.1.putM (by omega) _ _, hHeld.2.1.putM (by omega) _ _, hHeld.2.2.1.putM (by omega) _ _, Below.putM hHeld.2.2.2 (by omega) _ _⟩
       clear hK K
       try simp only [zz]
       exact memo_use (by kernel_rfl) (by kernel_rfl) (k4 _ _ hgm hHeld hat.put)
      ·
       go_simp
       go_at_call 73
       refine (HC1.out _).mono ?_
       rintro e v12 ⟨rfl, hb12⟩
       try go_simp
       refine hK.out _ _ ?_ (fun hHeld => ?_)
       · exact ⟨(hHeld.1).old hb12, (hHeld.2.1).old hb12, (hHeld.2.2.1).old hb12, (hHeld.2.2.2).trans ((hb12).mono (hHeld.2.2.2).size)⟩
       clear hK K
       try simp only [zz]
       refine tk 13 26 (.bool false) rfl (by kernel_rfl) (fun _ _ _ h => h) (by kernel_rfl) (fun w1 hSw => by (try dsimp only at hSw); rw [← hB]; go_simp <;> with_reducible rfl) hHeld ?_
       try simp only [zz]
       refine ta 14 27 hHeld ?_
       try simp only [zz]
       refine tk 15 28 (.agg #[.int .i64 N, .int .i64 Q]) rfl (by kernel_rfl) (fun _ _ _ h => h) (by kernel_rfl) (fun V hV => ex_rowT 141 _ rfl (g5) rfl 141 [.int .i64 N, .int .i64 Q] _ Tryz.underlying141 rfl (by kernel_rfl) (hV.2.2.1)) hHeld ?_
       try simp only [zz]
       refine ta 16 29 hHeld ?_
       try simp only [zz]
       refine ta 17 30 hHeld ?_
       try simp only [zz]
       refine tk 18 31 ?_ rfl (by kernel_rfl) (fun _ _ _ h => h) (by kernel_rfl) ?_ hHeld ?_
       rotate_left
       · intro w1 hSw; (try dsimp only at hSw); have cc := (hSw.1).cell 4; simp only [List.getElem?_cons_succ, List.getElem?_cons_zero] at cc; go_simp <;> with_reducible rfl
       try simp only [zz]
       exact memo_use (by kernel_rfl) (by kernel_rfl) (k9 _ _ hgm hHeld (hat.old hb12))
    refine keyM W5.heap.size #[] 0 16 (lst 26 [0, 1, 2, 3, 4, 5, 7, 8, 9, 10]) (fun gm => ({ tmps := #[.agg #[.int .i64 rs, .int .i64 rf, .int .i64 rl, .int .i64 ra, .int .i64 rb], .agg #[.int .i64 a, .int .i64 b, .int .i64 c, .int .i64 d, .int .i64 x, .int .i64 y], .pointer (some ⟨w.heap.size, 0, none⟩), .pointer (some ⟨w.heap.size + 1, 0, none⟩), .string ⟨#[]⟩, .pointer (some ⟨g5, 0, none⟩), undef, undef, undef, undef, u10, u11, u12, u13, .map (some gm), .agg #[.int .i64 a, .int .i64 b, .int .i64 c, .int .i64 d, .int .i64 x, .int .i64 y], .int .i64 Q, .pointer (some ⟨w.heap.size, 2, none⟩), .int .i64 rl, .bool (decide (Q < rl)), .agg #[.int .i64 N, .int .i64 Q], .pointer (some ⟨w.heap.size, 3, none⟩), .pointer (some ⟨w.heap.size, 3, none⟩), .int .i64 ra, undef, undef, undef, undef, undef, undef, undef, undef, undef, undef, undef, undef, undef, undef, undef, undef, undef, undef, undef, undef, undef, undef, undef], defers := [] } : Act)) ?_ (fun k2 => ?_)
    · intro gm V hgm hHeld hat
      refine st3 6 11 (fun K hK => ?_) (fun K hK => ?_)
      ·
       refine step_insert rfl 214 9 4 _ _ _ rfl _ 0 #[] ⟨#[119, 101, 97, 107]⟩ (.bool (decide (Q < rl))) rfl rfl rfl Tryz.underlying214 Tryz.underlying9 hat rfl ?_
       refine hK.out _ _ ?_ (fun hHeld => ?_)
       · exact ⟨hHeld.1.putM (by omega) _ _, hHeld.2.1.putM (by omega) _ _, hHeld.2.2.1.putM (by omega) _ _, Below.putM hHeld.2.2.2 (by omega) _ _⟩
       clear hK K
       try simp only [zz]
       exact memo_use (by kernel_rfl) (by kernel_rfl) (k3 _ _ hgm hHeld hat.put)
      ·
       go_simp
       go_at_call 76
       refine (HI1.out _).mono ?_
       rintro e v11 ⟨rfl, hb11⟩
       try go_simp
       refine hK.out _ _ ?_ (fun hHeld => ?_)
       · exact ⟨(hHeld.1).old hb11, (hHeld.2.1).old hb11, (hHeld.2.2.1).old hb11, (hHeld.2.2.2).trans ((hb11).mono (hHeld.2.2.2).size)⟩
       clear hK K
       try simp only [zz]
       exact memo_use (by kernel_rfl) (by kernel_rfl) (k8 _ _ hgm hHeld (hat.old hb11))
    refine keyM W5.heap.size #[] 0 18 (lst 26 [0, 1, 3, 4, 7, 8, 9, 10]) (fun gm => ({ tmps := #[.agg #[.int .i64 rs, .int .i64 rf, .int .i64 rl, .int .i64 ra, .int .i64 rb], .agg #[.int .i64 a, .int .i64 b, .int .i64 c, .int .i64 d, .int .i64 x, .int .i64 y], .pointer (some ⟨w.heap.size, 0, none⟩), .pointer (some ⟨w.heap.size + 1, 0, none⟩), .string ⟨#[]⟩, .pointer (some ⟨g5, 0, none⟩), undef, undef, undef, undef, u10, u11, u12, u13, .map (some gm), .agg #[.int .i64 a, .int .i64 b, .int .i64 c, .int .i64 d, .int .i64 x, .int .i64 y], undef, .pointer (some ⟨w.heap.size, 2, none⟩), .int .i64 rl, undef, .agg #[.int .i64 N, .int .i64 Q], .pointer (some ⟨w.heap.size, 3, none⟩), .pointer (some ⟨w.heap.size, 3, none⟩), .int .i64 ra, undef, undef, undef, undef, undef, undef, undef, undef, undef, undef, undef, undef, undef, undef, undef, undef, undef, undef, undef, undef, undef, undef, undef], defers := [] } : Act)) ?_ (fun k1 => ?_)
    · intro gm V hgm hHeld hat
      refine st2 2 (fun K hK => ?_)
      go_simp
      go_at_call 132
      refine (HQ.out _).mono ?_
      rintro e v2 ⟨rfl, hb2⟩
      try go_simp
      refine hK.out _ _ ?_ (fun hHeld => ?_)
      · exact ⟨(hHeld.1).old hb2, (hHeld.2.1).old hb2, (hHeld.2.2.1).old hb2, (hHeld.2.2.2).trans ((hb2).mono (hHeld.2.2.2).size)⟩
      clear hK K
      try simp only [zz]
      refine tk 5 19 (.bool (decide (Q < rl))) rfl (by kernel_rfl) (fun _ _ _ h => h) (by kernel_rfl) (fun w1 hSw => by (try dsimp only at hSw); go_simp <;> with_reducible rfl) hHeld ?_
      try simp only [zz]
      exact memo_use (by kernel_rfl) (by kernel_rfl) (k2 _ _ hgm hHeld (hat.old hb2))
    refine key0 5 (lst 26 [1, 2, 3, 4, 5, 7, 8, 9, 10, 11, 12, 13, 14, 15, 16, 17, 18, 19, 20, 21, 22]) ({ tmps := #[.agg #[.int .i64 rs, .int .i64 rf, .int .i64 rl, .int .i64 ra, .int .i64 rb], .agg #[.int .i64 a, .int .i64 b, .int .i64 c, .int .i64 d, .int .i64 x, .int .i64 y], .pointer (some ⟨w.heap.size, 0, none⟩), .pointer (some ⟨w.heap.size + 1, 0, none⟩), .string ⟨#[]⟩, .pointer (some ⟨g5, 0, none⟩), undef, undef, undef, undef, u10, u11, u12, u13, u14, .agg #[.int .i64 a, .int .i64 b, .int .i64 c, .int .i64 d, .int .i64 x, .int .i64 y], .int .i64 Q, .pointer (some ⟨w.heap.size, 2, none⟩), .int .i64 rl, .bool (decide (Q < rl)), .agg #[.int .i64 N, .int .i64 Q], .pointer (some ⟨w.heap.size, 3, none⟩), .pointer (some ⟨w.heap.size, 3, none⟩), .int .i64 ra, .agg #[.int .i64 ra, .int .i64 1], .int .i64 C1, .bool false, .bool false, .agg #[.int .i64 N, .int .i64 Q], .pointer (some ⟨w.heap.size, 3, none⟩), .pointer (some ⟨w.heap.size, 4, none⟩), .int .i64 rb, .agg #[.int .i64 rb, .int .i64 1], .int .i64 C2, .bool (decide (0 < C2)), .bool (decide (0 < C2)), undef, undef, undef, undef, undef, undef, undef, undef, undef, undef, undef], defers := [] }) ?_ (fun k17 => ?_)
    · intro V hHeld
      refine st2 0 (fun K hK => ?_)
      have hgm0 := hHeld.2.2.2.size
      go_simp
      refine hK.out _ _ ?_ (fun hHeld => ?_)
      · exact ⟨(hHeld.1).old ((Below.refl _ _).alloc (Nat.le_refl _) (.map #[] 0)), (hHeld.2.1).old ((Below.refl _ _).alloc (Nat.le_refl _) (.map #[] 0)), (hHeld.2.2.1).old ((Below.refl _ _).alloc (Nat.le_refl _) (.map #[] 0)), (hHeld.2.2.2).trans ((((Below.refl _ _).alloc (Nat.le_refl _) (.map #[] 0))).mono (hHeld.2.2.2).size)⟩
      clear hK K
      try simp only [zz]
      exact memo_use (by kernel_rfl) (by kernel_rfl) (k11 _ _ hgm0 hHeld (MapAt.new _))
    refine key0 8 (lst 26 [1, 2, 3, 4, 5, 7, 8, 9, 10, 11, 12, 13, 14, 15, 16, 17, 18, 19]) ({ tmps := #[.agg #[.int .i64 rs, .int .i64 rf, .int .i64 rl, .int .i64 ra, .int .i64 rb], .agg #[.int .i64 a, .int .i64 b, .int .i64 c, .int .i64 d, .int .i64 x, .int .i64 y], .pointer (some ⟨w.heap.size, 0, none⟩), .pointer (some ⟨w.heap.size + 1, 0, none⟩), .string ⟨#[]⟩, .pointer (some ⟨g5, 0, none⟩), undef, undef, undef, undef, u10, u11, u12, u13, u14, .agg #[.int .i64 a, .int .i64 b, .int .i64 c, .int .i64 d, .int .i64 x, .int .i64 y], .int .i64 Q, .pointer (some ⟨w.heap.size, 2, none⟩), .int .i64 rl, .bool (decide (Q < rl)), .agg #[.int .i64 N, .int .i64 Q], .pointer (some ⟨w.heap.size, 3, none⟩), .pointer (some ⟨w.heap.size, 3, none⟩), .int .i64 ra, .agg #[.int .i64 ra, .int .i64 1], .int .i64 C1, .bool false, .bool false, .agg #[.int .i64 N, .int .i64 Q], .pointer (some ⟨w.heap.size, 3, none⟩), .pointer (some ⟨w.heap.size, 4, none⟩), .int .i64 rb, .agg #[.int .i64 rb, .int .i64 1], undef, undef, undef, undef, undef, undef, undef, undef, undef, undef, undef, undef, undef, undef], defers := [] }) ?_ (fun k16 => ?_)
    · intro V hHeld
      refine st3 0 20 (fun K hK => ?_) (fun K hK => ?_)
      ·
       have hgm0 := hHeld.2.2.2.size
       go_simp
       refine hK.out _ _ ?_ (fun hHeld => ?_)
       · exact ⟨(hHeld.1).old ((Below.refl _ _).alloc (Nat.le_refl _) (.map #[] 0)), (hHeld.2.1).old ((Below.refl _ _).alloc (Nat.le_refl _) (.map #[] 0)), (hHeld.2.2.1).old ((Below.refl _ _).alloc (Nat.le_refl _) (.map #[] 0)), (hHeld.2.2.2).trans ((((Below.refl _ _).alloc (Nat.le_refl _) (.map #[] 0))).mono (hHeld.2.2.2).size)⟩
       clear hK K
       try simp only [zz]
       exact memo_use (by kernel_rfl) (by kernel_rfl) (k10 _ _ hgm0 hHeld (MapAt.new _))
      ·
       go_simp
       go_at_call 73
       refine (HC2.out _).mono ?_
       rintro e v20 ⟨rfl, hb20⟩
       try go_simp
       refine hK.out _ _ ?_ (fun hHeld => ?_)
       · exact ⟨(hHeld.1).old hb20, (hHeld.2.1).old hb20, (hHeld.2.2.1).old hb20, (hHeld.2.2.2).trans ((hb20).mono (hHeld.2.2.2).size)⟩
       clear hK K
       try simp only [zz]
       refine tk 21 34 (.bool (decide (0 < C2))) rfl (by kernel_rfl) (fun _ _ _ h => h) (by kernel_rfl) (fun w1 hSw => by (try dsimp only at hSw); go_simp <;> with_reducible rfl) hHeld ?_
       try simp only [zz]
       refine ta 22 35 hHeld ?_
       try simp only [zz]
       exact memo_use (by kernel_rfl) (by kernel_rfl) (k17 _ hHeld)
    refine key0 9 (lst 26 [1, 2, 3, 4, 5, 7, 8, 9, 10, 11, 12, 13, 14, 15, 16, 17, 18]) ({ tmps := #[.agg #[.int .i64 rs, .int .i64 rf, .int .i64 rl, .int .i64 ra, .int .i64 rb], .agg #[.int .i64 a, .int .i64 b, .int .i64 c, .int .i64 d, .int .i64 x, .int .i64 y], .pointer (some ⟨w.heap.size, 0, none⟩), .pointer (some ⟨w.heap.size + 1, 0, none⟩), .string ⟨#[]⟩, .pointer (some ⟨g5, 0, none⟩), undef, undef, undef, undef, u10, u11, u12, u13, u14, .agg #[.int .i64 a, .int .i64 b, .int .i64 c, .int .i64 d, .int .i64 x, .int .i64 y], .int .i64 Q, .pointer (some ⟨w.heap.size, 2, none⟩), .int .i64 rl, .bool (decide (Q < rl)), .agg #[.int .i64 N, .int .i64 Q], .pointer (some ⟨w.heap.size, 3, none⟩), .pointer (some ⟨w.heap.size, 3, none⟩), .int .i64 ra, .agg #[.int .i64 ra, .int .i64 1], .int .i64 C1, .bool false, .bool false, .agg #[.int .i64 N, .int .i64 Q], .pointer (some ⟨w.heap.size, 3, none⟩), .pointer (some ⟨w.heap.size, 4, none⟩), .int .i64 rb, undef, undef, undef, undef, undef, undef, undef, undef, undef, undef, undef, undef, undef, undef, undef], defers := [] }) ?_ (fun k15 => ?_)
    · intro V hHeld
      refine st3 0 19 (fun K hK => ?_) (fun K hK => ?_)
      ·
       have hgm0 := hHeld.2.2.2.size
       go_simp
       refine hK.out _ _ ?_ (fun hHeld => ?_)
       · exact ⟨(hHeld.1).old ((Below.refl _ _).alloc (Nat.le_refl _) (.map #[] 0)), (hHeld.2.1).old ((Below.refl _ _).alloc (Nat.le_refl _) (.map #[] 0)), (hHeld.2.2.1).old ((Below.refl _ _).alloc (Nat.le_refl _) (.map #[] 0)), (hHeld.2.2.2).trans ((((Below.refl _ _).alloc (Nat.le_refl _) (.map #[] 0))).mono (hHeld.2.2.2).size)⟩
       clear hK K
       try simp only [zz]
       exact memo_use (by kernel_rfl) (by kernel_rfl) (k9 _ _ hgm0 hHeld (MapAt.new _))
      ·
       go_simp
       go_at_call 76
       refine (HI2.out _).mono ?_
       rintro e v19 ⟨rfl, hb19⟩
       try go_simp
       refine hK.out _ _ ?_ (fun hHeld => ?_)
       · exact ⟨(hHeld.1).old hb19, (hHeld.2.1).old hb19, (hHeld.2.2.1).old hb19, (hHeld.2.2.2).trans ((hb19).mono (hHeld.2.2.2).size)⟩
       clear hK K
       try simp only [zz]
       exact memo_use (by kernel_rfl) (by kernel_rfl) (k16 _ hHeld)
    refine key0 16 (lst 26 [1, 2, 3, 4, 5, 7, 8, 9, 10, 11]) ({ tmps := #[.agg #[.int .i64 rs, .int .i64 rf, .int .i64 rl, .int .i64 ra, .int .i64 rb], .agg #[.int .i64 a, .int .i64 b, .int .i64 c, .int .i64 d, .int .i64 x, .int .i64 y], .pointer (some ⟨w.heap.size, 0, none⟩), .pointer (some ⟨w.heap.size + 1, 0, none⟩), .string ⟨#[]⟩, .pointer (some ⟨g5, 0, none⟩), undef, undef, undef, undef, u10, u11, u12, u13, u14, .agg #[.int .i64 a, .int .i64 b, .int .i64 c, .int .i64 d, .int .i64 x, .int .i64 y], .int .i64 Q, .pointer (some ⟨w.heap.size, 2, none⟩), .int .i64 rl, .bool (decide (Q < rl)), .agg #[.int .i64 N, .int .i64 Q], .pointer (some ⟨w.heap.size, 3, none⟩), .pointer (some ⟨w.heap.size, 3, none⟩), .int .i64 ra, .agg #[.int .i64 ra, .int .i64 1], undef, undef, undef, undef, undef, undef, undef, undef, undef, undef, undef, undef, undef, undef, undef, undef, undef, undef, undef, undef, undef, undef], defers := [] }) ?_ (fun k14 => ?_)
    · intro V hHeld
      refine st3 0 12 (fun K hK => ?_) (fun K hK => ?_)
      ·
       have hgm0 := hHeld.2.2.2.size
       go_simp
       refine hK.out _ _ ?_ (fun hHeld => ?_)
       · exact ⟨(hHeld.1).old ((Below.refl _ _).alloc (Nat.le_refl _) (.map #[] 0)), (hHeld.2.1).old ((Below.refl _ _).alloc (Nat.le_refl _) (.map #[] 0)), (hHeld.2.2.1).old ((Below.refl _ _).alloc (Nat.le_refl _) (.map #[] 0)), (hHeld.2.2.2).trans ((((Below.refl _ _).alloc (Nat.le_refl _) (.map #[] 0))).mono (hHeld.2.2.2).size)⟩
       clear hK K
       try simp only [zz]
       exact memo_use (by kernel_rfl) (by kernel_rfl) (k8 _ _ hgm0 hHeld (MapAt.new _))
      ·
       go_simp
       go_at_call 73
       refine (HC1.out _).mono ?_
       rintro e v12 ⟨rfl, hb12⟩
       try go_simp
       refine hK.out _ _ ?_ (fun hHeld => ?_)
       · exact ⟨(hHeld.1).old hb12, (hHeld.2.1).old hb12, (hHeld.2.2.1).old hb12, (hHeld.2.2.2).trans ((hb12).mono (hHeld.2.2.2).size)⟩
       clear hK K
       try simp only [zz]
       refine tk 13 26 (.bool false) rfl (by kernel_rfl) (fun _ _ _ h => h) (by kernel_rfl) (fun w1 hSw => by (try dsimp only at hSw); rw [← hB]; go_simp <;> with_reducible rfl) hHeld ?_
       try simp only [zz]
       refine ta 14 27 hHeld ?_
       try simp only [zz]
       refine tk 15 28 (.agg #[.int .i64 N, .int .i64 Q]) rfl (by kernel_rfl) (fun _ _ _ h => h) (by kernel_rfl) (fun V hV => ex_rowT 141 _ rfl (g5) rfl 141 [.int .i64 N, .int .i64 Q] _ Tryz.underlying141 rfl (by kernel_rfl) (hV.2.2.1)) hHeld ?_
       try simp only [zz]
       refine ta 16 29 hHeld ?_
       try simp only [zz]
       refine ta 17 30 hHeld ?_
       try simp only [zz]
       refine tk 18 31 ?_ rfl (by kernel_rfl) (fun _ _ _ h => h) (by kernel_rfl) ?_ hHeld ?_
       rotate_left
       · intro w1 hSw; (try dsimp only at hSw); have cc := (hSw.1).cell 4; simp only [List.getElem?_cons_succ, List.getElem?_cons_zero] at cc; go_simp <;> with_reducible rfl
       try simp only [zz]
       exact memo_use (by kernel_rfl) (by kernel_rfl) (k15 _ hHeld)
    refine key0 17 (lst 26 [1, 2, 3, 4, 5, 7, 8, 9, 10]) ({ tmps := #[.agg #[.int .i64 rs, .int .i64 rf, .int .i64 rl, .int .i64 ra, .int .i64 rb], .agg #[.int .i64 a, .int .i64 b, .int .i64 c, .int .i64 d, .int .i64 x, .int .i64 y], .pointer (some ⟨w.heap.size, 0, none⟩), .pointer (some ⟨w.heap.size + 1, 0, none⟩), .string ⟨#[]⟩, .pointer (some ⟨g5, 0, none⟩), undef, undef, undef, undef, u10, u11, u12, u13, u14, .agg #[.int .i64 a, .int .i64 b, .int .i64 c, .int .i64 d, .int .i64 x, .int .i64 y], .int .i64 Q, .pointer (some ⟨w.heap.size, 2, none⟩), .int .i64 rl, .bool (decide (Q < rl)), .agg #[.int .i64 N, .int .i64 Q], .pointer (some ⟨w.heap.size, 3, none⟩), .pointer (some ⟨w.heap.size, 3, none⟩), .int .i64 ra, undef, undef, undef, undef, undef, undef, undef, undef, undef, undef, undef, undef, undef, undef, undef, undef, undef, undef, undef, undef, undef, undef, undef], defers := [] }) ?_ (fun k13 => ?_)
    · intro V hHeld
      refine st3 0 11 (fun K hK => ?_) (fun K hK => ?_)
      ·
       have hgm0 := hHeld.2.2.2.size
       go_simp
       refine hK.out _ _ ?_ (fun hHeld => ?_)
       · exact ⟨(hHeld.1).old ((Below.refl _ _).alloc (Nat.le_refl _) (.map #[] 0)), (hHeld.2.1).old ((Below.refl _ _).alloc (Nat.le_refl _) (.map #[] 0)), (hHeld.2.2.1).old ((Below.refl _ _).alloc (Nat.le_refl _) (.map #[] 0)), (hHeld.2.2.2).trans ((((Below.refl _ _).alloc (Nat.le_refl _) (.map #[] 0))).mono (hHeld.2.2.2).size)⟩
       clear hK K
       try simp only [zz]
       exact memo_use (by kernel_rfl) (by kernel_rfl) (k2 _ _ hgm0 hHeld (MapAt.new _))
      ·
       go_simp
       go_at_call 76
       refine (HI1.out _).mono ?_
       rintro e v11 ⟨rfl, hb11⟩
       try go_simp
       refine hK.out _ _ ?_ (fun hHeld => ?_)
       · exact ⟨(hHeld.1).old hb11, (hHeld.2.1).old hb11, (hHeld.2.2.1).old hb11, (hHeld.2.2.2).trans ((hb11).mono (hHeld.2.2.2).size)⟩
       clear hK K
       try simp only [zz]
       exact memo_use (by kernel_rfl) (by kernel_rfl) (k14 _ hHeld)
    refine tk 1 15 (.agg #[.int .i64 a, .int .i64 b, .int .i64 c, .int .i64 d, .int .i64 x, .int .i64 y]) rfl (by kernel_rfl) (fun _ _ _ h => h) (by kernel_rfl) (fun V hV => ex_rowT 35 _ rfl (w.heap.size + 1) rfl 35 [.int .i64 a, .int .i64 b, .int .i64 c, .int .i64 d, .int .i64 x, .int .i64 y] _ Tryz.underlying35 rfl (by kernel_rfl) (hV.2.1)) hHeld ?_
    try simp only [zz]
    refine ta 3 17 hHeld ?_
    try simp only [zz]
    refine tk 4 18 ?_ rfl (by kernel_rfl) (fun _ _ _ h => h) (by kernel_rfl) ?_ hHeld ?_
    rotate_left
    · intro w1 hSw; (try dsimp only at hSw); have cc := (hSw.1).cell 2; simp only [List.getElem?_cons_succ, List.getElem?_cons_zero] at cc; go_simp <;> with_reducible rfl
    try simp only [zz]
    refine tk 7 20 (.agg #[.int .i64 N, .int .i64 Q]) rfl (by kernel_rfl) (fun _ _ _ h => h) (by kernel_rfl) (fun V hV => ex_rowT 141 _ rfl (g5) rfl 141 [.int .i64 N, .int .i64 Q] _ Tryz.underlying141 rfl (by kernel_rfl) (hV.2.2.1)) hHeld ?_
    try simp only [zz]
    refine ta 8 21 hHeld ?_
    try simp only [zz]
    refine ta 9 22 hHeld ?_
    try simp only [zz]
    refine tk 10 23 ?_ rfl (by kernel_rfl) (fun _ _ _ h => h) (by kernel_rfl) ?_ hHeld ?_
    rotate_left
    · intro w1 hSw; (try dsimp only at hSw); have cc := (hSw.1).cell 3; simp only [List.getElem?_cons_succ, List.getElem?_cons_zero] at cc; go_simp <;> with_reducible rfl
    try simp only [zz]
    refine st3 0 2 (fun K hK => ?_) (fun K hK => ?_)
    ·
     have hgm0 := hHeld.2.2.2.size
     go_simp
     refine hK.out _ _ ?_ (fun hHeld => ?_)
     · exact ⟨(hHeld.1).old ((Below.refl _ _).alloc (Nat.le_refl _) (.map #[] 0)), (hHeld.2.1).old ((Below.refl _ _).alloc (Nat.le_refl _) (.map #[] 0)), (hHeld.2.2.1).old ((Below.refl _ _).alloc (Nat.le_refl _) (.map #[] 0)), (hHeld.2.2.2).trans ((((Below.refl _ _).alloc (Nat.le_refl _) (.map #[] 0))).mono (hHeld.2.2.2).size)⟩
     clear hK K
     try simp only [zz]
     exact memo_use (by kernel_rfl) (by kernel_rfl) (k1 _ _ hgm0 hHeld (MapAt.new _))
    ·
     go_simp
     go_at_call 132
     refine (HQ.out _).mono ?_
     rintro e v2 ⟨rfl, hb2⟩
     try go_simp
     refine hK.out _ _ ?_ (fun hHeld => ?_)
     · exact ⟨(hHeld.1).old hb2, (hHeld.2.1).old hb2, (hHeld.2.2.1).old hb2, (hHeld.2.2.2).trans ((hb2).mono (hHeld.2.2.2).size)⟩
     clear hK K
     try simp only [zz]
     refine tk 5 19 (.bool (decide (Q < rl))) rfl (by kernel_rfl) (fun _ _ _ h => h) (by kernel_rfl) (fun w1 hSw => by (try dsimp only at hSw); go_simp <;> with_reducible rfl) hHeld ?_
     try simp only [zz]
     exact memo_use (by kernel_rfl) (by kernel_rfl) (k13 _ hHeld)
 case rest =>
 obtain ⟨gm, es, rfl, hat, hes, hb⟩ := hcut
 have hl0 : (Instr.lookup 214 (.map (some gm)) (.string ⟨#[119, 101, 97, 107]⟩) false).run Tryz.prog wc = .ok (.bool (decide (Q < rl))) wc := by
  rcases hes with rfl | rfl
  · exact run_lookup_now 214 9 4 gm 2 0 _ _ _ Tryz.underlying214 Tryz.underlying9 hat rfl
  · exact run_lookup_now 214 9 4 gm 2 1 _ _ _ Tryz.underlying214 Tryz.underlying9 hat rfl
 have hl1 : (Instr.lookup 214 (.map (some gm)) (.string ⟨#[100, 101, 112, 116, 104]⟩) false).run Tryz.prog wc = .ok (.bool D) wc := by
  rcases hes with rfl | rfl
  · exact run_lookup_now 214 9 4 gm 2 1 _ _ _ Tryz.underlying214 Tryz.underlying9 hat rfl
  · exact run_lookup_now 214 9 4 gm 2 0 _ _ _ Tryz.underlying214 Tryz.underlying9 hat rfl
 have HB := Lib.hid hb
 rw [← hB0] at hl0
 clear hes hat hb hB0 HD HQ HI1 HI2 HC1 HC2 HR5 HB5 hz0 hz1 hz2
 cases B0 with
 | true =>
   go_wp2_with fail
   refine wp_label ?_
   go_wp2_with fail
   refine wp_loop_rounds 2 ?_
   rw [rounds_succ]
   go_wp2_with fail
   rw [Exit.noGoto_ret]
   go_ret
   exact ⟨rfl, HB.out⟩
 | false =>
   cases D with
   | true =>
     go_wp2_with fail
     refine wp_label ?_
     go_wp2_with fail
     refine wp_loop_rounds 2 ?_
     rw [rounds_succ]
     go_wp2_with fail
     rw [rounds_succ]
     go_wp2_with fail
     rw [Exit.noGoto_ret]
     go_ret
     exact ⟨rfl, HB.out⟩
   | false =>
     go_wp2_with fail
     refine wp_label ?_
     go_wp2_with fail
     refine wp_loop_rounds 3 ?_
     rw [rounds_succ]
     go_wp2_with fail
     rw [rounds_succ]
     go_wp2_with fail
     rw [rounds_succ]
     go_wp2_with fail
     rw [Exit.noGoto_ret]
     go_ret
     exact ⟨rfl, HB.out⟩
end Go.Proofs.YtaknlhepgeiekaaGreatDoor
