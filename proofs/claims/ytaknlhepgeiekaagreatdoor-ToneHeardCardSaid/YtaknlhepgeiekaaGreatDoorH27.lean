import Derived.Test.YtaknlhepgeiekaaGreatDoorH19
import Derived.Test.YtaknlhepgeiekaaGreatDoorH26
namespace Go.Proofs.YtaknlhepgeiekaaGreatDoor
set_option linter.all false
open Go.RowKit Go.Fl
attribute [local go_sem] Oper.semAt_some
def wSig : ByteArray := ⟨#[115, 105, 103, 110, 97, 108]⟩
def lineS (s : Sg) : ByteArray := numLineB wSig [s.a, s.b, s.c, s.d, s.x, s.y]
def linesS (L : List Sg) : List ByteArray := L.map lineS
def printS (L : List Sg) : List UInt8 := flatC (linesS L)
def preS (L : List Sg) (pre : List (Fin L.length)) : List ByteArray := pre.map fun i => lineS L[i]
theorem preS_all (L : List Sg) : preS L (List.finRange L.length) = linesS L := by
 unfold preS linesS
 apply List.ext_getElem
 · simp
 · intro i h1 h2; simp
theorem sg_i64 {s : Sg} (h : SigG s.a s.b s.c s.d s.x s.y) : ∀ x ∈ [s.a, s.b, s.c, s.d, s.x, s.y], -9223372036854775808 ≤ x ∧ x ≤ 9223372036854775807 := by
 have := h.pa; have := h.pb; have := h.pc; have := h.pd; have := h.px; have := h.py
 intro x hx
 simp only [List.mem_cons, List.not_mem_nil, or_false] at hx
 rcases hx with rfl | rfl | rfl | rfl | rfl | rfl <;> omega
theorem lineS_size {s : Sg} (h : SigG s.a s.b s.c s.d s.x s.y) : (lineS s).size ≤ 200 := by
 have := numLineB_size wSig [s.a, s.b, s.c, s.d, s.x, s.y] (sg_i64 h)
 have h3 : wSig.size = 6 := rfl
 unfold lineS
 simp only [List.length_cons, List.length_nil] at this
 omega
theorem preS_size {L : List Sg} (hg : ∀ s ∈ L, SigG s.a s.b s.c s.d s.x s.y) (pre : List (Fin L.length)) (n : Nat) (hn : pre.length ≤ n) : (cellsL (preS L pre)).length ≤ n * 200 := by
 rw [cellsL_len]
 refine Nat.le_trans (flatC_len _ 200 ?_) ?_
 · intro x hx
   obtain ⟨i, -, rfl⟩ := List.mem_map.1 hx
   exact lineS_size (hg _ (List.getElem_mem _))
 · unfold preS; rw [List.length_map]; exact Nat.mul_le_mul_right _ hn
theorem ownsF_keptM {w w' : World} {row : Option Nat} {B : Nat} {e : TypeId} {s n : Nat} {v : Value} {xs : List Value} (h : w.ownsRowF B e s v n xs) (hg : w.grownBy w' row) (hr : ∀ r, row = some r → ∃ o : Obj, w.heap[r]? = some o ∧ o.isCells = false) : w'.ownsRowF B e s v n xs := by
 refine ⟨h.1, ?_⟩
 rcases h.2 with h2 | ⟨g', cap, cur, fz, h1, h2, h3, h4⟩
 · exact .inl h2
 · exact .inr ⟨g', cap, cur, fz, h1, h2, (hg.block g' (Array.getElem?_eq_some_iff.1 h3).1 (fun e => by obtain ⟨o, ho, hc⟩ := hr g' e.symm; rw [h3] at ho; cases ho; cases hc)).trans h3, h4⟩
theorem builder_keptM {B b : Nat} {bs : List Value} {T e : TypeId} {p : Value} {w w' : World} {row : Option Nat} (h : Lib.BuilderAtF T e B b p bs w) (hg : w.grownBy w' row) (hr : ∀ r, row = some r → ∃ o : Obj, w.heap[r]? = some o ∧ o.isCells = false) : Lib.BuilderAtF T e B b p bs w' := by
 obtain ⟨h0, v, h1, h2, h3⟩ := h
 exact ⟨h0, v, (hg.block b (Array.getElem?_eq_some_iff.1 h1).1 (fun e => by obtain ⟨o, ho, hc⟩ := hr b e.symm; rw [h1] at ho; cases ho; cases hc)).trans h1, ownsF_keptM h2 hg hr, h3⟩
theorem isBuilder_keptM {B b : Nat} {bs : List Value} {T e : TypeId} {w w' : World} {row : Option Nat} (h : Lib.IsBuilderF T e B b bs w) (hg : w.grownBy w' row) (hr : ∀ r, row = some r → ∃ o : Obj, w.heap[r]? = some o ∧ o.isCells = false) : Lib.IsBuilderF T e B b bs w' := h.imp (fun h => builder_keptM h hg hr) (fun h => builder_keptM h hg hr)
theorem isBuilder_block {B b : Nat} {bs : List Value} {T e : TypeId} {w : World} (h : Lib.IsBuilderF T e B b bs w) : ∃ c t fz, w.heap[b]? = some (.cells c t fz) := by
 rcases h with ⟨-, v, h1, -⟩ | ⟨-, v, h1, -⟩ <;> exact ⟨_, _, _, h1⟩
theorem isBuilder_lt {B b : Nat} {bs : List Value} {T e : TypeId} {w : World} (h : Lib.IsBuilderF T e B b bs w) : b < w.heap.size := by
 obtain ⟨c, t, fz, h⟩ := isBuilder_block h
 exact (Array.getElem?_eq_some_iff.1 h).1
theorem keepsFrom_others {W W' : World} {b B : Nat} {e : TypeId} (hk : Lib.OthersKept e (some b) W W') (hz : W.heap.size ≤ W'.heap.size) (hb : ∃ c t fz, W.heap[b]? = some (.cells c t fz)) : KeepsFrom B W W' :=
 ⟨hz, fun k o _ h ho => hk k o h (fun e => by cases e; obtain ⟨c, t, fz, h2⟩ := hb; rw [h] at h2; cases h2; cases ho) (fun c fz e => by subst e; cases ho)⟩
def PsI (w : World) (b : Nat) (L : List Sg) (pre : List (Fin L.length)) (W : World) : Prop := Lib.IsBuilderF 124 5 b b (cellsL (preS L pre)) W ∧ Below w.heap.size w W
theorem PsI.keep {w : World} {b : Nat} {L : List Sg} {pre : List (Fin L.length)} {W W' : World} (h : PsI w b L pre W) (hb : Below W.heap.size W W') : PsI w b L pre W' := ⟨isBuilder_old h.1 hb, h.2.trans (hb.mono h.2.size)⟩
theorem preS_snoc (L : List Sg) (pre : List (Fin L.length)) (x : Fin L.length) : preS L (pre ++ [x]) = preS L pre ++ [lineS L[x]] := by simp [preS]
set_option maxRecDepth 100000 in
set_option maxHeartbeats 4000000 in
theorem printS_ok (A : Option Addr) (c : Nat) (L : List Sg) (w : World) (hT : It w) (hA : Rd w A (sgC L)) (h0 : sgsE L = 0) : Calls Tryz.prog 13 #[.slice A L.length c] w fun e w' => e = .returned (.tuple #[.string ⟨(printS L).toArray⟩, .int .i64 0]) ∧ Below w.heap.size w w' := by
 obtain ⟨hn1, hn2, hg⟩ := sgs_good h0
 have HC := checkSignals_any A c L w hA (by omega)
 rw [h0] at HC
 have HC := Lib.hid HC
 have HT := Lib.hid hT; have HA := Lib.hid hA; have HG := Lib.hid hg; have HN : Hid (0 < L.length ∧ L.length ≤ 256) := ⟨hn1, hn2⟩
 clear hT hA hg hn1 hn2 h0
 refine (callsIn_wide (n := 4)).1 ?_
 refine callsIn_of_wp_marks Tryz.func13 rfl trivial ?_ rfl
 simp only [Tryz.ntmps13, List.size_toArray, List.length_cons, List.length_nil, Nat.reduceAdd, Nat.reduceSub, Array.replicate_succ, Array.replicate_zero, List.push_toArray, List.append_toArray, List.nil_append, List.cons_append]
 refine wpIn_wide.2 ?_
 go_wp2_with fail
 refine HC.out.mono ?_
 rintro e w1 ⟨rfl, hb1⟩
 have HB1 := Lib.hid hb1
 clear hb1 HC
 have hs1 := HB1.out.size
 go_upto_region 5 with fail
 obtain ⟨b, hb⟩ : ∃ b, b = w1.heap.size := ⟨_, rfl⟩
 have HN0 : Hid (Lib.IsBuilderF 124 5 b b [] (w1.alloc (.cells #[.pointer none, .slice none 0 0] 124))) := by rw [hb]; exact Lib.IsBuilderF.of (Lib.fresh_isBuilder _ _ _)
 have HN1 : Hid (Below w.heap.size w (w1.alloc (.cells #[.pointer none, .slice none 0 0] 124))) := HB1.out.alloc (HB1.out.size) _
 have HSZ : Hid (w.heap.size ≤ b) := by unfold Hid; omega
 rw [← hb]
 clear hb HB1 hs1
 refine genT (fun V => Lib.IsBuilderF 124 5 b b [] V ∧ Below w.heap.size w V) ⟨HN0.out, HN1.out⟩ ?_
 intro W6 s6
 have HS6 := Lib.hid s6
 clear s6 HN0 HN1
 go_wp2_with (go_at_call 53; refine (visited_any _ _ _ _).mono ?_; rintro e W7 ⟨rfl, hrow7, hb7⟩; have HS7 : Hid (PsI w b L [] W7 ∧ Row W7 W6.heap.size 45 [.slice A L.length c] ∧ b < W6.heap.size) := ⟨⟨isBuilder_old HS6.out.1 hb7, HS6.out.2.trans (hb7.mono HS6.out.2.size)⟩, hrow7, isBuilder_lt HS6.out.1⟩; clear hb7 hrow7)
 refine wpIn_wide.1 (?_ : Code.wpIn Fence.wide 4 Tryz.prog _ _ _ _)
 have HB7 : Hid (w.heap.size ≤ W7.heap.size) := HS7.out.1.2.size
 have HB8 : Hid (b ≤ W7.heap.size) := Nat.le_of_lt (isBuilder_lt HS7.out.1.1)
 have hRd : ∀ V, Below w.heap.size W7 V → Rd V A (sgC L) := fun V hV => HA.out.below (HS7.out.1.2.trans hV)
 apply wpIn_rangeFunc_ownH (F := Fence.wide) (encs := fun x : Fin L.length => #[numV L x.1]) (Kp := Below w.heap.size) (S := fun ys => ys = List.finRange L.length) (Sp := fun _ => True) (N := L.length) (w0 := W7) rfl (by omega) (gf := 109) (lb := #[.pointer (some ⟨W6.heap.size, 0, none⟩)]) rfl trivial (enters_of Tryz.func109 (by kernel_rfl) rfl)
  (visit_stops 3 (by omega) W6.heap.size w.heap.size A c L (by have := HN.out; omega) W7 HB7.out hRd HS7.out.2.1) (fun h k => Below.trans h k) (below_put HB7.out) (Below.refl _ _) (fun _ => rfl)
  (PsI w b L)
  (fun _ _ _ => False)
 case Ax => exact (fun x a' W => ∃ g : Nat, a' = { tmps := #[.slice A L.length c, undef, .string ⟨#[]⟩, .int .i64 0, .int .i64 0, .pointer (some ⟨b, 0, none⟩), .pointer (some ⟨g, 0, none⟩), .slice A L.length c, .int .i64 0, .int .i64 0, .bool false, undef, .slice A L.length c, .func (.func 109) #[] #[.pointer (some ⟨W6.heap.size, 0, none⟩)], numV L x.1, undef, undef, undef, undef, undef, undef, undef, undef, undef, undef, undef, undef, undef, undef, undef, undef, undef, undef, undef, undef, undef, undef, undef, undef, undef, undef, undef, undef], defers := [] } ∧ Row W g 129 (numC L x.1))
 case hI =>
  rintro pre X Y row ⟨h1, h2⟩ hg hr
  have hr2 : ∀ r, row = some r → ∃ o : Obj, X.heap[r]? = some o ∧ o.isCells = false := fun r e => (hr r e).2
  exact ⟨isBuilder_keptM h1 hg hr2, h2.grown hg h2.size (fun k e => Nat.le_trans HB7.out (hr k e).1)⟩
 case hIx => exact fun _ _ _ _ _ hs _ _ => hs
 case h0 => exact HS7.out.1
 case hAx =>
  rintro x a' s X Y row ⟨g, e, hr⟩ hg hrow
  exact ⟨g, e, hr.keptM hg (fun r e => (hrow r e).2)⟩
 case hassign =>
  intro l pre x W K hI hK
  have HK := Lib.hid hK; have HI := Lib.hid hI
  have hnv : numV L x.1 = .agg (numC L x.1).toArray := rfl
  have HNV := Lib.hid hnv
  rw [hnv]
  unfold numC
  obtain ⟨s, hs⟩ : ∃ s, s = L.getD x.1 ⟨0, 0, 0, 0, 0, 0⟩ := ⟨_, rfl⟩
  have HSX := Lib.hid hs
  rw [← hs]
  clear hK hI hs hnv
  gi_wp2
  have hb : Below W.heap.size W (W.alloc (.cells #[.int .i64 s.a, .int .i64 s.b, .int .i64 s.c, .int .i64 s.d, .int .i64 s.x, .int .i64 s.y, .int .i64 (x.1 : Int)] 129)) := (Below.refl _ _).alloc (Nat.le_refl _) _
  refine HK.out _ _ ((belowKO hb).from _) (hb.mono HI.out.2.size) (HI.out.keep hb) ⟨W.heap.size, ?_, ?_⟩
  · rw [HNV.out]; unfold numC; rw [← HSX.out]
  · unfold numC; rw [← HSX.out]; exact Row.new W _ _
 case hbody =>
  rintro l pre x a' W hl hlo hI ⟨g, rfl, hrow⟩ hlen
  have HSN := Lib.hid (preS_snoc L pre x)
  have HLN := Lib.hid (preS_size HG.out pre 256 (by have := HN.out; omega))
  obtain ⟨s, hs⟩ : ∃ s, s = L[x.1] := ⟨_, rfl⟩
  have hsx : L.getD x.1 ⟨0, 0, 0, 0, 0, 0⟩ = s := by rw [hs]; simp
  have hg : SigG s.a s.b s.c s.d s.x s.y := HG.out s (by rw [hs]; exact List.getElem_mem _)
  rw [show L[x] = s from hs.symm] at HSN
  unfold numC at hrow
  rw [hsx] at hrow
  have hz := lineS_size hg
  have HNL : Hid (∀ V, Below w.heap.size w V → Calls Tryz.prog 55 #[.string wSig, .slice (some ⟨V.heap.size, 0, none⟩) 6 6] (V.alloc (.cells #[.int .i64 s.a, .int .i64 s.b, .int .i64 s.c, .int .i64 s.d, .int .i64 s.x, .int .i64 s.y] 3)) fun e w' => e = .returned (.string (lineS s)) ∧ Below (V.alloc (.cells #[.int .i64 s.a, .int .i64 s.b, .int .i64 s.c, .int .i64 s.d, .int .i64 s.x, .int .i64 s.y] 3)).heap.size (V.alloc (.cells #[.int .i64 s.a, .int .i64 s.b, .int .i64 s.c, .int .i64 s.d, .int .i64 s.x, .int .i64 s.y] 3)) w') := fun V hV =>
   numberLine_any _ 6 6 wSig [s.a, s.b, s.c, s.d, s.x, s.y] _ (HT.out.old (hV.trans (((Below.refl _ _).alloc (Nat.le_refl _) _ : Below V.heap.size V _).mono hV.size))) (Rd.row (Row.new V 3 [.int .i64 s.a, .int .i64 s.b, .int .i64 s.c, .int .i64 s.d, .int .i64 s.x, .int .i64 s.y])) rfl (by simp) (sg_i64 hg) (by decide)
  obtain ⟨ml, hml⟩ : ∃ ml, ml = lineS s := ⟨_, rfl⟩
  rw [← hml] at HSN hz HNL
  have HROW := Lib.hid hrow; have HI := Lib.hid hI
  clear hrow hI hs hsx hg hml hlen
  have s0 := HROW.out.cell 0; have s1 := HROW.out.cell 1; have s2 := HROW.out.cell 2; have s3 := HROW.out.cell 3; have s4 := HROW.out.cell 4; have s5 := HROW.out.cell 5
  simp only [List.getElem?_cons_succ, List.getElem?_cons_zero] at s0 s1 s2 s3 s4 s5
  gi_wp2_with (refine ⟨trivial, ?_⟩; first | (gi_at_call 55; refine (CallsIn.inRound l (callsIn_wide.2 (HNL.out W HI.out.2))).mono ?_; rintro e w1 ⟨rfl, hb1⟩; have HA0 : Hid (Below W.heap.size W (W.alloc (.cells #[.int .i64 s.a, .int .i64 s.b, .int .i64 s.c, .int .i64 s.d, .int .i64 s.x, .int .i64 s.y] 3))) := (Below.refl _ _).alloc (Nat.le_refl _) _; have HBW := Lib.hid (HA0.out.trans (hb1.mono HA0.out.size)); have HI1 := Lib.hid (HI.out.keep HBW.out); clear hb1 s0 s1 s2 s3 s4 s5) | (gi_at_call 54; refine (CallsIn.inRound l (callsIn_wide.2 (writeString b b (cellsL (preS L pre)) ml w1 HI1.out.1 (by have := HLN.out; omega) (Nat.le_of_lt (isBuilder_lt HI1.out.1))))).mono ?_; rintro e w2 ⟨rfl, hn2, hb2, hk2⟩; have HN2 := Lib.hid hn2; have HB2 := Lib.hid hb2; have HK2 := Lib.hid hk2; clear hn2 hb2 hk2))
  refine ⟨((belowKO HBW.out).from _).trans (keepsFrom_others HK2.out HB2.out.size (isBuilder_block HI1.out.1)), (HBW.out.mono HI.out.2.size).trans (HB2.out.mono HSZ.out), .inr ?_, HI1.out.2.trans (HB2.out.mono HSZ.out)⟩
  rw [HSN.out, cellsL_snoc]
  exact HN2.out
 case hdone =>
  rintro D xs W hzD rfl ⟨h1, h2⟩ hD
  rw [preS_all] at h1
  have H1 := Lib.hid h1; have H2 := Lib.hid h2; have HD := Lib.hid hD
  clear h1 h2 hD
  go_wp2_with fail
  refine (Tryz.Builder_String_any_k b b (printS L) W H1.out (Nat.le_of_lt (isBuilder_lt H1.out))).mono ?_
  rintro e w2 ⟨rfl, -, hb2, hk2⟩
  have HD2 : Hid (w2.heap[D]? = some (Obj.deferred (some []))) := hk2 D _ HD.out (fun e => by have := isBuilder_lt HS7.out.1.1; cases e; omega) (fun c fz e => by cases e)
  have H3 : Hid (Below w.heap.size w w2) := H2.out.trans (hb2.mono HSZ.out)
  clear hb2 hk2 H1 H2 HD
  go_wp2_with fail
  refine ⟨by simp, .inl ⟨_, _, rfl, run_takeDeferred HD2.out, ?_⟩⟩
  exact ⟨_, results_tt rfl _ _, rfl, H3.out.trans (below_put (w := W7) HB7.out w2 D _ _ hzD HD2.out rfl rfl)⟩
 case hstop =>
  rintro D c pre W _ _ h _
  exact h.elim
set_option maxRecDepth 100000
set_option maxHeartbeats 1000000
def Tr (x z : Nat) : Prop := ∀ w : World, (callFunc 141 #[.float .f64 x]).run Tryz.prog w = .ok (.value (.float .f64 z)) w
theorem truncM_by (x z : Nat) (w : World) (h : Tr x z) : Calls Tryz.prog 107 #[.float .f64 x] w fun e w' => e = .returned (.float .f64 z) ∧ w = w' := by
 have h1 : ∀ w, (callFunc 141 #[.float .f64 x]).run Tryz.prog w = .ok (.value (.float .f64 z)) w := h
 go_enter Tryz.func107, Tryz.ntmps107
 go_wp2
 go_ret
 exact ⟨rfl, rfl⟩
structure Part (y x : Nat) : Prop where
 wide : floatToFloatBits .f32 y .f64 = some x
 lt : x < 18446744073709551616
 tru : Tr x x
 eq : (Ieee.double.order x x == some .eq) = true
 inf : (Ieee.double.order (x % 9223372036854775808) 9218868437227405311 == some .gt) = false
 max : (Ieee.double.order (x % 9223372036854775808) 4675730371722084352 == some .gt) = false
theorem checkPartS_by (y x : Nat) (w : World) (h : Part y x) : Calls Tryz.prog 103 #[.float .f32 y] w fun e w' => e = .returned (.int .i64 0) ∧ Below w.heap.size w w' := by
 have hc := fun w => conv_fin h.wide w
 have HX := Lib.hid h.lt
 have HT := Lib.hid h.tru
 have he : (FloatKind.f64.format.order x x == some .eq) = true := h.eq
 have hi := h.inf
 have hm : (FloatKind.f64.format.order (x % 9223372036854775808) 4675730371722084352 == some .gt) = false := h.max
 have he2 : (FloatKind.f64.format.order x x != some .eq) = false := by have := he; simp only [beq_iff_eq] at this; simp [bne, this]
 have hf : firstI [whenI false 1, whenI false 3] = 0 := rfl
 clear h
 go_enter Tryz.func103, Tryz.ntmps103
 go_wp2_with (first | (go_at_call 107; refine (truncM_by x x _ HT.out).mono ?_; rintro e w' ⟨rfl, rfl⟩) | (go_at_call 138; refine (isInf_any x _ HX.out).mono ?_; rintro e w' ⟨rfl, rfl⟩) | (go_at_call 139; refine (abs_any x _ HX.out).mono ?_; rintro e w' ⟨rfl, rfl⟩) | (go_at_call 69; refine (failed_any _ _ _).mono ?_; rintro e w' ⟨rfl, rfl⟩) | (go_at_call 64; refine (firstV_any _ _ _ [whenI false 1, whenI false 3] _ ?_ rfl (by simp)).mono ?_; exact Rd.newT (t := 32); rintro e w' ⟨rfl, rfl⟩))
 go_ret
 exact ⟨by simp [hf], (Below.refl _ _).alloc (Nat.le_refl _) _⟩
end Go.Proofs.YtaknlhepgeiekaaGreatDoor
namespace Go.Proofs.YtaknlhepgeiekaaGreatDoor
set_option linter.all false
open Go.RowKit Go.Fl Ieee
theorem E.trunc {x : Nat} {n : Int} (h : E x n) (hn : n.natAbs < 2 ^ 53) : ∃ s m e, double.read x = .number s m e ∧ E (double.write ((Datum.number s m e).integral .zero)) n := by
 obtain ⟨s, m, e, h1, h2, h3⟩ := Val.read h
 refine ⟨s, m, e, h1, ?_⟩
 have ht := toInt_val h (by decide)
 rw [h1] at ht
 have hu : (-double.leastPlace).toNat = u64 := by decide
 have hc : (n * ((2 ^ u64 : Nat) : Int)).tdiv ((2 ^ u64 : Nat) : Int) = n := Int.mul_tdiv_cancel n p64
 rw [hu, hc] at ht
 simp only [Datum.toInt, Datum.integral, Option.some.injEq] at ht
 show Val double (double.write (Datum.number s _ 0)) _
 obtain ⟨c, hcc⟩ : ∃ c, c = Toward.zero.cut s (m <<< e.toNat) (-e).toNat := ⟨_, rfl⟩
 rw [← hcc] at ht
 rw [← hcc]
 rw [signed_eq, Nat.pow_zero, Nat.mul_one] at ht
 have ha : c = n.natAbs := by cases s <;> simp at ht <;> omega
 have hsn : n = if s then -(n.natAbs : Int) else n.natAbs := by cases s <;> simp at ht ⊢ <;> omega
 refine write_val double s c 0 n u64 hn ?_ hsn (pow_bound hn (by decide)) (by decide)
 rw [ha]
 have e1 : ((0 : Int) - double.leastPlace).toNat = u64 := by decide
 have e2 : (double.leastPlace - 0).toNat = 0 := by decide
 rw [e1, e2, Nat.pow_zero, Nat.mul_one]
theorem toIntegral_num : ∃ Fn : Bool → Nat → Nat → Sem Value, ∀ x, Extern.MathFloor.toIntegral "math.archTrunc" .zero #[.float .f64 x] = (match FloatKind.f64.decode x with
 | .nan s t => Fn s t x
 | d => pure (.float .f64 (FloatKind.f64.encode (d.integral .zero)))) := ⟨_, fun x => rfl⟩
theorem tr_of {x : Nat} {s : Bool} {m : Nat} {e : Int} (h : double.read x = .number s m e) : Tr x (double.write ((Datum.number s m e).integral .zero)) := by
 intro w
 have hd : FloatKind.f64.decode x = .number s m e := h
 have e : (callFunc 141 #[.float .f64 x]).run Tryz.prog w = ((do let v ← Extern.MathFloor.toIntegral "math.archTrunc" .zero #[.float .f64 x]; pure (Next.value v)) : Sem Next).run Tryz.prog w := by kernel_rfl
 obtain ⟨Fn, hFn⟩ := toIntegral_num
 rw [e, hFn, hd]
 rfl
theorem E.tr {x : Nat} {n : Int} (h : E x n) (hn : n.natAbs < 2 ^ 53) : ∃ z, Tr x z ∧ E z n ∧ z < 2 ^ 64 := by
 obtain ⟨s, m, e, h1, h2⟩ := E.trunc h hn
 exact ⟨_, tr_of h1, h2, double.write_lt _⟩
theorem quo_eq (s : Bool) (m k p : Nat) (e : Int) (hk : k * 2 ^ p ≠ 0) (hl : (k * 2 ^ p).log2 = 52) (hd : k * 2 ^ p ∣ m * 2 ^ (106 - m.log2)) : Datum.quotient 54 (.number s m e) (.number false (k * 2 ^ p) (-(p : Int))) =
 some (.number s (2 * (m * 2 ^ (106 - m.log2) / (k * 2 ^ p))) (e + p - ((106 - m.log2 : Nat) : Int) - 1)) := by
 unfold Datum.quotient
 simp only [if_neg hk, hl, shl, Bool.xor_false, Nat.mod_eq_zero_of_dvd hd]
 simp
theorem E.div {x y : Nat} {n : Int} {k p : Nat} (h : E x (n * k)) (hn : n.natAbs < 2 ^ 53) (hy : double.read y = .number false (k * 2 ^ p) (-(p : Int))) (hk : 0 < k) (hl : (k * 2 ^ p).log2 = 52) (hd : ∀ m a : Nat, k ∣ m * 2 ^ a → k * 2 ^ p ∣ m * 2 ^ 54) : ∃ r, double.div x y = some r ∧ E r n ∧ r < 2 ^ 64 := by
 obtain ⟨s, m, e, h1, h2, h3⟩ := Val.read h
 obtain ⟨b1, _, _⟩ := read_bounds h1 (by decide)
 have hkp : 0 < k * 2 ^ p := Nat.mul_pos hk (Nat.two_pow_pos _)
 have hm : m.log2 ≤ 52 := by
  by_cases hm0 : m = 0
  · subst hm0; decide
  · have := (Nat.log2_lt hm0).2 (show m < 2 ^ (52 + 1) from b1); omega
 have hab := abs_of h3.symm
 have hnk : (n * k).natAbs = n.natAbs * k := by rw [Int.natAbs_mul]; rfl
 rw [hnk] at hab
 obtain ⟨A, hA⟩ : ∃ A, A = (e - double.leastPlace).toNat := ⟨_, rfl⟩
 rw [← hA] at hab
 have hAe : (A : Int) = e - double.leastPlace := by omega
 obtain ⟨more, hmore⟩ : ∃ more, more = 106 - m.log2 := ⟨_, rfl⟩
 have hdv : k * 2 ^ p ∣ m * 2 ^ more := by
  have e1 : m * 2 ^ more = m * 2 ^ 54 * 2 ^ (more - 54) := by rw [Nat.mul_assoc, ← Nat.pow_add]; congr 2; omega
  rw [e1]
  exact Nat.dvd_trans (hd m A (by rw [hab, Nat.mul_comm n.natAbs k, Nat.mul_assoc]; exact Nat.dvd_mul_right _ _)) (Nat.dvd_mul_right _ _)
 obtain ⟨q, hq⟩ : ∃ q, q = m * 2 ^ more / (k * 2 ^ p) := ⟨_, rfl⟩
 have hqm : q * (k * 2 ^ p) = m * 2 ^ more := by rw [hq]; exact Nat.div_mul_cancel hdv
 have hsn : n = if s then -(n.natAbs : Int) else n.natAbs := by
  have h4 := sgn_of h3.symm
  rw [hnk] at h4
  have hk0 : (k : Int) ≠ 0 := by omega
  cases s
  · simp only [Bool.false_eq_true, if_false] at h4 ⊢
    refine Int.eq_of_mul_eq_mul_right hk0 ?_
    rw [h4]; exact_mod_cast rfl
  · simp only [if_true] at h4 ⊢
    refine Int.eq_of_mul_eq_mul_right hk0 ?_
    rw [h4, Int.neg_mul]; exact_mod_cast rfl
 have ex : double.div x y = some (double.write (.number s (2 * q) (e + p - (more : Int) - 1))) := by
  unfold Format.div
  rw [h1, hy]
  show (Datum.quotient 54 _ _).map _ = _
  rw [quo_eq s m k p e (by omega) hl (by rw [← hmore]; exact hdv), ← hmore, ← hq]
  rfl
 refine ⟨_, ex, ?_, double.write_lt _⟩
 refine write_val double s (2 * q) _ n u64 hn ?_ hsn (pow_bound hn (by decide)) (by decide)
 obtain ⟨U, hU⟩ : ∃ U, U = 2 ^ u64 := ⟨_, rfl⟩
 rw [← hU] at hab ⊢
 refine Nat.eq_of_mul_eq_mul_right hkp ?_
 by_cases hp : double.leastPlace ≤ e + p - (more : Int) - 1
 · have e1 : (double.leastPlace - (e + p - (more : Int) - 1)).toNat = 0 := by omega
   obtain ⟨t, ht⟩ : ∃ t, t = (e + p - (more : Int) - 1 - double.leastPlace).toNat := ⟨_, rfl⟩
   rw [e1, ← ht, Nat.pow_zero, Nat.mul_one]
   have e2 : more + t + 1 = A + p := by omega
   calc 2 * q * 2 ^ t * (k * 2 ^ p) = q * (k * 2 ^ p) * 2 ^ t * 2 := by ac_rfl
    _ = m * 2 ^ (more + t + 1) := by rw [hqm, Nat.mul_assoc, Nat.mul_assoc, ← Nat.mul_assoc (2 ^ more), ← Nat.pow_add, ← Nat.pow_succ]
    _ = m * 2 ^ A * 2 ^ p := by rw [e2, Nat.pow_add, Nat.mul_assoc]
    _ = n.natAbs * U * (k * 2 ^ p) := by rw [hab]; ac_rfl
 · have e1 : (e + p - (more : Int) - 1 - double.leastPlace).toNat = 0 := by omega
   obtain ⟨d, hd2⟩ : ∃ d, d = (double.leastPlace - (e + p - (more : Int) - 1)).toNat := ⟨_, rfl⟩
   rw [e1, ← hd2, Nat.pow_zero, Nat.mul_one]
   have e2 : more + 1 = A + p + d := by omega
   calc 2 * q * (k * 2 ^ p) = q * (k * 2 ^ p) * 2 := by ac_rfl
    _ = m * 2 ^ (more + 1) := by rw [hqm, Nat.mul_assoc, ← Nat.pow_succ]
    _ = m * 2 ^ A * 2 ^ p * 2 ^ d := by rw [e2, Nat.pow_add, Nat.pow_add, Nat.mul_assoc, Nat.mul_assoc, Nat.mul_assoc]
    _ = n.natAbs * U * 2 ^ d * (k * 2 ^ p) := by rw [hab]; ac_rfl
theorem read_f3 : double.read (floatOfInt .f64 3) = .number false (3 * 2 ^ 51) (-((51 : Nat) : Int)) := by decide +kernel
theorem read_f4 : double.read (floatOfInt .f64 4) = .number false (4 * 2 ^ 50) (-((50 : Nat) : Int)) := by decide +kernel
theorem E.third {x : Nat} {n : Int} (h : E x (n * 3)) (hn : n.natAbs < 2 ^ 53) : ∃ r, double.div x (floatOfInt .f64 3) = some r ∧ E r n ∧ r < 2 ^ 64 :=
 E.div (k := 3) (p := 51) h hn read_f3 (by decide) (by decide +kernel) (fun m a hd => by
  have h3 : 3 ∣ m := Nat.Coprime.dvd_of_dvd_mul_right (Nat.Coprime.pow_right a (by decide)) hd
  obtain ⟨c, rfl⟩ := h3
  exact ⟨c * 8, by omega⟩)
theorem E.fourth {x : Nat} {n : Int} (h : E x (n * 4)) (hn : n.natAbs < 2 ^ 53) : ∃ r, double.div x (floatOfInt .f64 4) = some r ∧ E r n ∧ r < 2 ^ 64 :=
 E.div (k := 4) (p := 50) h hn read_f4 (by decide) (by decide +kernel) (fun m a hd => ⟨m * 4, by omega⟩)
def I32 (x : Nat) (n : Int) : Prop := S x (16 * n)
theorem u64_eq (n : Int) : 16 * n * (2 ^ 145 : Nat) * (2 ^ k1 : Nat) = n * (2 ^ u64 : Nat) := by
 have h1 := pw (a := 4) (b := 145) (c := 149) rfl
 have h2 := pw (a := 149) (b := k1) (c := u64) (by rw [k1_eq]; rfl)
 rw [← h1] at h2
 rw [← h2, show (16 : Int) = ((2 ^ 4 : Nat) : Int) from rfl]
 ac_rfl
theorem I32.wide {x : Nat} {n : Int} (h : I32 x n) : ∃ y, floatToFloatBits .f32 x .f64 = some y ∧ E y n ∧ y < 2 ^ 64 := by
 obtain ⟨y, h1, h2⟩ := S.wide h
 refine ⟨y, h1, ?_, wide_lt h1⟩
 unfold D at h2
 rw [u64_eq] at h2
 exact h2
theorem E.narrow {y : Nat} {n : Int} (h : E y n) (hn : n.natAbs < 2 ^ 20) : ∃ x, floatToFloatBits .f64 y .f32 = some x ∧ I32 x n :=
 D.narrow (n := 16 * n) (by unfold D; rw [u64_eq]; exact h) (by omega)
end Go.Proofs.YtaknlhepgeiekaaGreatDoor
