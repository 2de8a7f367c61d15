import Derived.Test.YtaknlhepgeiekaaGreatDoorTie
import Derived.Test.YtaknlhepgeiekaaGreatDoorCards
import Derived.ProofKit
import Derived.HandedShaped
import Derived.Carry
import Derived.ChangeOld
import Derived.PinnedBridge
import Derived.Lay
import Derived.Lib.LaidU8
import Derived.Shelf.Vars
import Derived.Deep.Slices
import Derived.Test.YtaknlhepgeiekaaGreatDoorH44
import Derived.Test.YtaknlhepgeiekaaGreatDoorH47
import Derived.Test.YtaknlhepgeiekaaGreatDoorH48
namespace Go.Proofs.YtaknlhepgeiekaaGreatDoor
set_option linter.all false
open Go.RowKit Go.ChangeShapes Go.WideShapes Go.ChangeAt Go.Lib
theorem returns_and_shaped {H : Type} {enc : TypeId × Value → H} {a : Assume} {C : Checked} {os : Os} {f : FuncId} {fn : Func} {s : ChangeSpec} {conds : List PathCond} {apart fresh handsOn again : Bool} {X : World → Array Value → Prop}
 (hX : ∀ (w w' : World) (args : Array Value), w.heap = w'.heap → X w args → X w' args)
 (own : ownKnob C.prog.godebug = none) (started : os.Started) (noInit : C.prog.inits.idxOf? f = none) (hfn : C.prog.funcs[f]? = some fn)
 (witness : ∃ (w : World) (tape : Tape) (i : Input), w.os = os ∧ (w.forCall tape i).Shaped C.prog ∧ i.vars = [] ∧ Input.okWide C.prog (w.forCall tape i) .any w.heap.size f i ∧
   ((s.pre enc C.prog fn conds apart (w.forCall tape i).memory i.args ∧ X (w.forCall tape i).memory i.args) ∧ sizedMet enc C.prog fn (OpenSpec.ofChange s) apart (w.forCall tape i).memory i.args) ∧ a.holds C.prog (lone (Frame.enter C.prog f i.args .normal) [] (w.forCall tape i)))
 (contract : ∀ (W : World) (base : Nat) (args : Array Value) (ds gs : List (DataW H)) (before : List MemPlace),
   (∀ (j : Nat) t v, fn.params[j]? = some t → args[j]? = some v → Value.okWide C.prog W .any base t v) →
   DataW.Whole enc C.prog fn.params.toList s.vars apart W args.toList ds gs before →
   X W args → W.ShapedOpen C.prog →
   Calls C.prog f args W fun e W' => ∃ v, e = .returned v ∧ s.post enc C.prog fn apart fresh handsOn again W args v W') :
 ReturnsInHanded a C os f .any (fun w args => (s.pre enc C.prog fn conds apart w args ∧ X w args) ∧ sizedMet enc C.prog fn (OpenSpec.ofChange s) apart w args) (s.post enc C.prog fn apart fresh handsOn again) := by
 refine returnsInHanded_of_calls own started noInit witness ?_
 intro w tape i _ hsh _ hok hpre hholds
 obtain ⟨_, _, _, fn', hfn', _, _, _, _, hval⟩ := hok
 have e : fn' = fn := Option.some.inj (hfn'.symm.trans hfn)
 subst e
 obtain ⟨⟨⟨ds, gs, before, hw, hc⟩, hx⟩, hz⟩ := hpre
 have hw' := DataW.Whole.of_heap (w' := w.forCall tape i) (by rfl) hw
 refine (contract (w.forCall tape i) w.heap.size i.args ds gs before hval hw' (hX _ _ _ (by rfl) hx) hsh).mono fun e W' ⟨v, he, hp⟩ => ?_
 subst he
 exact ChangeSpec.post_blind hp
theorem trodAll_below {H : Type} {enc : TypeId × Value → H} {P : Program} (hl : laidOutB P = true) {W W' : World} (hb : Below W.heap.size W W') :
 ∀ {ts : List TypeId} {vs : List Value} {ds : List (DataW H)} {ps : List MemPlace}, (∀ t ∈ ts, P.readableRec t = true ∧ t < P.types.size) → (∀ p ∈ ps, p.block < W.heap.size) →
   DataW.TrodAll enc P W 0 (fun _ => true) true ts vs ds ps → DataW.TrodAll enc P W' 0 (fun b => decide (b < W.heap.size)) true ts vs ds ps
 | [], [], [], _, _, _, h => h
 | t :: ts, v :: vs, d :: ds, _, hr, hlt, ⟨p, q, h, hs, e⟩ => by
   subst e
   exact ⟨p, q, Below.trod hl (hr t (List.mem_cons_self ..)).1 (hr t (List.mem_cons_self ..)).2 h hb (fun x hx => hlt x (List.mem_append_left _ hx)), trodAll_below hl hb (fun u hu => hr u (List.mem_cons_of_mem _ hu)) (fun x hx => hlt x (List.mem_append_right _ hx)) hs, rfl⟩
 | [], _ :: _, _, _, _, _, h => h.elim
 | [], [], _ :: _, _, _, _, h => h.elim
 | _ :: _, [], _, _, _, _, h => h.elim
 | _ :: _, _ :: _, [], _, _, _, h => h.elim
section
variable {P : Program} {W : World} {r : Reach} {b0 : Nat} {t : TypeId} {v : Value}
theorem cell_int {k : IntKind} (hu : P.underlying t = some (.int k)) (h : Cell.okWide P W r b0 t v) : ∃ n, v = .int k n ∧ k.has n := by
 simp only [hu, Cell.okWide, Cell.ok] at h
 cases v <;> simp_all
theorem ok_agg {ts : List TypeId} (hu : (∃ fs, P.underlying t = some (.struct fs)) ∨ ∃ n e, P.underlying t = some (.array n e)) (hct : P.cellTypes P.depth t = some ts) (hlen : P.cellsOf t = ts.length) (h : Value.okWide P W r b0 t v) :
 ∃ cs : List Value, v = .agg cs.toArray ∧ cs.length = ts.length ∧ ∀ (i : Nat) (u : TypeId) (c : Value), ts[i]? = some u → cs[i]? = some c → Cell.okWide P W r b0 u c := by
 have h2 : ∃ cs, v = .agg cs ∧ cs.size = P.cellsOf t ∧ Row.okWide P W r b0 t cs := by
  rcases hu with ⟨fs, hu⟩ | ⟨n, e, hu⟩ <;> simpa only [Value.okWide, hu] using h
 obtain ⟨⟨cs⟩, rfl, hsz, ts', hts, -, hall⟩ := h2
 obtain rfl := Option.some.inj (hct.symm.trans hts)
 refine ⟨cs, rfl, by simpa [hlen] using hsz, fun i u c hi hc => ?_⟩
 obtain ⟨u', hu', hok⟩ := hall i c (by simpa using hc)
 have hl : i < ts.length := (List.getElem?_eq_some_iff.1 hi).1
 rw [Nat.mod_eq_of_lt hl, hi] at hu'
 cases hu'
 exact hok
end
set_option maxRecDepth 100000 in
theorem awT_of {W : World} (h : laidMet Tryz.prog Rows.toneHeardRow.laid W) (hsh : W.ShapedOpen Tryz.prog) : AwT W := by
 refine ⟨?_, ?_, ?_⟩
 · obtain ⟨g, t, cs, fuel, p, hg, hty, hvar, hd⟩ := laidMet.reads h (n := "glideslope/common.turns") (d := Rows.laid_glideslope_common_turns) (by simp [Rows.toneHeardRow])
   obtain rfl := Option.some.inj ((show Tryz.prog.globalNamed "glideslope/common.turns" = some 0 by kernel_rfl).symm.trans hg)
   obtain rfl := Option.some.inj ((show (Tryz.prog.globals[0]?).map (·.type) = some 201 by kernel_rfl).symm.trans hty)
   intro j v hj
   rw [World.var?_cell hg hvar j, ← Array.getElem?_toList]
   have hel : ∀ i (zs : List Int), i < 4 → [([1, 0] : List Int), [0, 1], [-1, 0], [0, -1]][i]? = some zs → (cs.toList.drop (i * 2)).take 2 = zs.map fun z => Value.int .i64 z := fun i zs hi hzs => by
    obtain ⟨fuel', d, q, hdi, he⟩ := array_elem Tryz.underlying201 hd i hi
    have hd2 : d = .agg (zs.map fun z => .lit (.int .i64 z)) := by
     match i, hi with
     | 0, _ | 1, _ | 2, _ | 3, _ => simp at hzs hdi; subst hzs; exact hdi.symm
    subst hd2
    rw [show Tryz.prog.cellsOf 23 = 2 by kernel_rfl] at he
    exact ints_of_struct (k := .i64) Tryz.underlying23 (fun j f hj => by
     match j, hj with
     | 0, hj => simp at hj; subst hj; exact ⟨Tryz.underlying3, rfl, by kernel_rfl⟩
     | 1, hj => simp at hj; subst hj; exact ⟨Tryz.underlying3, rfl, by kernel_rfl⟩
     | j + 2, hj => simp at hj) (by kernel_rfl) he
   have hx : ∀ i k : Nat, i < 4 → k < 2 → cs.toList[i * 2 + k]? = ((([([1, 0] : List Int), [0, 1], [-1, 0], [0, -1]][i]?.getD []).map fun z => Value.int .i64 z))[k]? := fun i k hi hk => by
    obtain ⟨zs, hzs⟩ : ∃ zs, [([1, 0] : List Int), [0, 1], [-1, 0], [0, -1]][i]? = some zs := ⟨_, List.getElem?_eq_getElem (by simpa using hi)⟩
    rw [hzs, Option.getD_some, ← hel i zs hi hzs, List.getElem?_take_of_lt hk, List.getElem?_drop]
   have hj8 : j < 8 := by
    have := (List.getElem?_eq_some_iff.1 hj).1
    simpa using this
   have := hx (j / 2) (j % 2) (by omega) (Nat.mod_lt _ (by decide))
   rw [show j / 2 * 2 + j % 2 = j by omega] at this
   rw [this]
   match j, hj8 with
   | 0, _ | 1, _ | 2, _ | 3, _ | 4, _ | 5, _ | 6, _ | 7, _ => simp at hj; subst hj; rfl
 · obtain ⟨g, t, cs, fuel, p, hg, hty, hvar, hd⟩ := laidMet.reads h (n := "internal/strconv.uint64pow10") (d := Rows.laid_internal_strconv_uint64pow10) (by simp [Rows.toneHeardRow])
   obtain rfl := Option.some.inj ((show Tryz.prog.globalNamed "internal/strconv.uint64pow10" = some 2 by kernel_rfl).symm.trans hg)
   obtain rfl := Option.some.inj ((show (Tryz.prog.globals[2]?).map (·.type) = some 270 by kernel_rfl).symm.trans hty)
   have hcs := cells_of_tab (zs := pow10Tab) Tryz.underlying270 Tryz.underlying240 (by kernel_rfl) (by kernel_rfl) (show DataW.trod (fun _ => ()) Tryz.prog W 0 (fun _ => true) false fuel 270 cs.toList = some (tabData .u64 pow10Tab, p) from hd)
   show W.var? _ _ = _
   rw [hvar, ← hcs]
 · exact cell_of_shapedOpen_int (P := Tryz.prog) (g := 3) (t := 3) (zero := #[.int .i64 0]) hsh (of_decide_eq_true (by kernel_rfl)) (by kernel_rfl) rfl (by kernel_rfl) (by kernel_rfl) Tryz.underlying3
theorem own_knob : ownKnob Tryz.prog.godebug = none := by kernel_rfl
theorem laid_out : laidOutB Tryz.prog = true := by kernel_rfl
theorem law_shut {H : Type} {enc : TypeId × Value → H} {f : Func} {s : ChangeSpec} {W W' : World} {args : Array Value} {ds : List (DataW H)} {before : List MemPlace}
 (hW : DataW.Whole enc Tryz.prog f.params.toList s.vars false W args.toList ds [] before) (hv : s.vars = []) (hres : f.resultTypes = #[4])
 (hfn : s.fn H (ds ++ []) = { results := [.lit (.bool true)], args := ds }) (hr : ∀ t ∈ f.params.toList, Tryz.prog.readableRec t = true ∧ t < Tryz.prog.types.size) (hb : Below W.heap.size W W') :
 s.post enc Tryz.prog f false true false false W args (.bool true) W' := by
 have hlt := hW.lt
 have hW' := hW
 obtain ⟨p, q, hA, hV, rfl, _, _⟩ := hW
 refine ⟨ds, [], _, [], p, [], hW', ?_, ?_, ?_, hb.frame _, fun h => by cases h⟩
 · rw [hres, hfn]
   exact trodAll_mk1 (shut_bool Tryz.underlying4 _)
 · rw [hfn]
   exact trodAll_below laid_out hb hr (fun x hx => hlt x (List.mem_append_left _ hx)) hA
 · rw [hfn, hv]
   rfl
end Go.Proofs.YtaknlhepgeiekaaGreatDoor
namespace Go.Proofs.YtaknlhepgeiekaaGreatDoor
set_option linter.all false
open Go.RowKit Go.Fl


def wsS (s : Sg) : List ByteArray := [wSig, itoaB s.a, itoaB s.b, itoaB s.c, itoaB s.d, itoaB s.x, itoaB s.y]
theorem lineS_ws (s : Sg) : lineS s = lineB (wsS s) := rfl
theorem wsS_no (s : Sg) {c : UInt8} (hc : c = 10 ∨ c = 32) : ∀ w ∈ wsS s, c ∉ bl w := by
 have hl : c.toNat < 45 := by rcases hc with rfl | rfl <;> decide
 have hw : c ∉ bl wSig := by rcases hc with rfl | rfl <;> decide
 intro w h
 simp only [wsS, List.mem_cons, List.not_mem_nil, or_false] at h
 rcases h with rfl | rfl | rfl | rfl | rfl | rfl | rfl
 · exact hw
 all_goals exact itoaB_no hl
theorem sgS_num {s : Sg} (h : SigG s.a s.b s.c s.d s.x s.y) : psOk (wsS s) = true ∧ psS (wsS s) = s := by
 obtain ⟨ga, gb, gc, gd, gx, gy, -⟩ := h
 have ia := int_ok (n := s.a) (by omega); have ib := int_ok (n := s.b) (by omega); have ic := int_ok (n := s.c) (by omega); have id := int_ok (n := s.d) (by omega); have ix := int_ok (n := s.x) (by omega); have iy := int_ok (n := s.y) (by omega)
 have ho : oksI 6 (wsS s).tail = true := by
  unfold oksI
  rw [List.all_eq_true]
  intro k hk
  have hk2 : k = 0 ∨ k = 1 ∨ k = 2 ∨ k = 3 ∨ k = 4 ∨ k = 5 := by rw [List.mem_range] at hk; omega
  rcases hk2 with rfl | rfl | rfl | rfl | rfl | rfl
  · exact ia.1
  · exact ib.1
  · exact ic.1
  · exact id.1
  · exact ix.1
  · exact iy.1
 have hp : psOk (wsS s) = true := by
  unfold psOk
  rw [ho, Bool.and_true, Bool.and_eq_true]
  exact ⟨by simp [wsS], by simp [wsS, headW]⟩
 refine ⟨hp, ?_⟩
 unfold psS
 rw [if_pos hp]
 have e : sgW (wsS s).tail = ⟨intV (Lib.itoa s.a), intV (Lib.itoa s.b), intV (Lib.itoa s.c), intV (Lib.itoa s.d), intV (Lib.itoa s.x), intV (Lib.itoa s.y)⟩ := rfl
 rw [e, ia.2, ib.2, ic.2, id.2, ix.2, iy.2]
theorem line_p (s : Sg) : ∃ p : List UInt8, bl (lineS s) = p ++ [10] ∧ (10 : UInt8) ∉ p := by
 rw [lineS_ws]; exact line_lf (wsS_no s (.inl rfl))
theorem line_cut {s : Sg} {p : List UInt8} (hp : bl (lineS s) = p ++ [10]) (hn : (10 : UInt8) ∉ p) : (cutG 32 0 p).map lb = wsS s := by
 have h1 := (piece_words hn).2
 rw [← hp, lb_bl, lineS_ws, (line_words (by simp [wsS]) (wsS_no s (.inr rfl))).2] at h1
 exact h1.symm
theorem line_ne {s : Sg} {p : List UInt8} (hp : bl (lineS s) = p ++ [10]) (hn : (10 : UInt8) ∉ p) : p ≠ [] := by
 intro h
 have e := line_cut hp hn
 rw [h] at e
 have := congrArg List.length e
 simp [wsS, cutG] at this
theorem line_step {s : Sg} (h : SigG s.a s.b s.c s.d s.x s.y) {p : List UInt8} (hp : bl (lineS s) = p ++ [10]) (hn : (10 : UInt8) ∉ p) (i : Nat) (S : List Sg) (r : List ByteArray) : linesG eaS i S (lb (p ++ [10]) :: r) = linesG eaS (i + 1) (S ++ [s]) r := by
 have k := step_sig hn i S r
 rw [line_cut hp hn, if_pos (sgS_num h).1, (sgS_num h).2] at k
 exact k
theorem two_text (s t : Sg) : printS [s, t] = bl (lineS s) ++ bl (lineS t) := by
 have h := printS_snoc [s] t
 have h0 := printS_snoc [] s
 have e : printS [] = [] := rfl
 rw [List.nil_append, e, List.nil_append] at h0
 rw [← h0]; exact h
theorem bl_size (s : ByteArray) : s.size = (bl s).length := by unfold bl; rw [Array.length_toList]; rfl
theorem bl_extract (s : ByteArray) (n : Nat) : bl (s.extract 0 n) = (bl s).take n := by simp [bl, ByteArray.data_extract]
theorem two_facts {s t : Sg} (hs : SigG s.a s.b s.c s.d s.x s.y) (ht : SigG t.a t.b t.c t.d t.x t.y) (h0 : sgsE [s, t] = 0) : ∃ TX : ByteArray, TX = lb (printS [s, t]) ∧ TX.size ≤ 400 ∧ 1 ≤ TX.size ∧ (cutG 10 0 (bl TX)).length = 3 ∧ rdS TX = (2, 0, [s, t]) ∧ parE TX = 0 ∧ (rdS (TX.extract 0 (TX.size - 1))).1 = 1 ∧ parE (TX.extract 0 (TX.size - 1)) = 25 := by
 obtain ⟨p, p1, p2⟩ := line_p s
 obtain ⟨q, q1, q2⟩ := line_p t
 have z1 := lineS_size hs; have z2 := lineS_size ht
 have e := two_text s t
 rw [p1, q1] at e
 have hb : bl (lb (printS [s, t])) = p ++ [10] ++ (q ++ [10]) := by rw [bl_lb]; exact e
 have hsz : (lb (printS [s, t])).size = p.length + 1 + (q.length + 1) := by
  rw [bl_size, hb, List.length_append, List.length_append, List.length_append]
  rfl
 have zp : p.length + 1 ≤ 200 := by
  rw [bl_size, p1, List.length_append] at z1
  exact z1
 have zq : q.length + 1 ≤ 200 := by
  rw [bl_size, q1, List.length_append] at z2
  exact z2
 have hln : linesL (lb (printS [s, t])) = [lb (p ++ [10]), lb (q ++ [10])] := linesL_of (ls := [p, q]) (by
  intro l hl
  simp only [List.mem_cons, List.not_mem_nil, or_false] at hl
  rcases hl with rfl | rfl
  · exact p2
  · exact q2) (by rw [hb]; simp)
 have hrd : rdS (lb (printS [s, t])) = (2, 0, [s, t]) := by
  unfold rdS
  rw [if_neg (by omega), hln, line_step hs p1 p2, line_step ht q1 q2]
  rfl
 obtain ⟨X, hX⟩ : ∃ X, X = (lb (printS [s, t])).extract 0 ((lb (printS [s, t])).size - 1) := ⟨_, rfl⟩
 have hbX : bl X = (p ++ [10]) ++ q := by
  have e1 : bl X = (bl (lb (printS [s, t]))).take ((lb (printS [s, t])).size - 1) := by
   rw [hX]; exact bl_extract _ _
  rw [e1, hb, hsz]
  have e2 : p ++ [10] ++ (q ++ [10]) = (p ++ [10] ++ q) ++ [10] := by simp
  rw [e2, List.take_append_of_le_length (by simp; omega), List.take_of_length_le (by simp; omega)]
 have hlX : linesL X = [lb (p ++ [10]), lb q] := by
  have h := linesL_cut (ls := [p]) (a := q) (by
   intro l hl
   simp only [List.mem_cons, List.not_mem_nil, or_false] at hl
   subst hl; exact p2) q2 (line_ne q1 q2) (s := X) (by rw [hbX]; simp)
  exact h
 have hsX : X.size ≤ 400 := by
  rw [bl_size, hbX]; simp; omega
 have hrX : rdS X = (1, 25, [s]) := by
  unfold rdS
  have hl := last_sig q2 1 [s]
  rw [if_neg (line_ne q1 q2), decide_eq_false (line_ne q1 q2)] at hl
  rw [if_neg (by omega), hlX, line_step hs p1 p2, List.nil_append, hl]
  rfl
 refine ⟨lb (printS [s, t]), rfl, by omega, by omega, ?_, hrd, ?_, ?_, ?_⟩
 · rw [hb, List.append_assoc]
   show (cutG 10 0 (p ++ 10 :: (q ++ 10 :: []))).length = 3
   rw [cutG_app _ p2, cutG_app _ q2]
   rfl
 · unfold parE; rw [hrd]; show firstI [0, sgsE [s, t]] = 0; rw [h0]; rfl
 · rw [← hX, hrX]
 · rw [← hX]; unfold parE; rw [hrX]; rfl
set_option maxRecDepth 100000
set_option maxHeartbeats 8000000
theorem minusR_any (a b c d : Int) (w : World) (h : Gs a b) (k : Gs c d) : Calls Tryz.prog 11 #[.agg #[.int .i64 a, .int .i64 b], .agg #[.int .i64 c, .int .i64 d]] w fun e w' => e = .returned (.agg #[.int .i64 (a - c), .int .i64 (b - d)]) ∧ Below w.heap.size w w' := by
 obtain ⟨b1, b2⟩ := h
 obtain ⟨b3, b4⟩ := k
 have e1 : IntKind.i64.wrap (a - c) = a - c := IntWalk.i64_in _ (by omega)
 have e2 : IntKind.i64.wrap (b - d) = b - d := IntWalk.i64_in _ (by omega)
 clear b1 b2 b3 b4
 go_enter Tryz.func11, Tryz.ntmps11
 go_upto_region 1 with fail
 refine genT (fun V => Row V (w.heap.size) 23 [.int .i64 a, .int .i64 b] ∧ Row V (w.heap.size + 1) 23 [.int .i64 c, .int .i64 d] ∧ Row V (w.heap.size + 1 + 1) 23 [.int .i64 0, .int .i64 0] ∧ Below w.heap.size w V) ⟨(Row.alloc (Row.alloc (rowAt _ _ (by first | rfl | simp only [World.size_alloc])) _) _), (Row.alloc (rowAt _ _ (by first | rfl | simp only [World.size_alloc])) _), (rowAt _ _ (by first | rfl | simp only [World.size_alloc])), ((((Below.refl _ _).alloc (by first | exact Nat.le_refl _ | (simp only [World.size_alloc]; omega)) _).alloc (by first | exact Nat.le_refl _ | (simp only [World.size_alloc]; omega)) _).alloc (by first | exact Nat.le_refl _ | (simp only [World.size_alloc]; omega)) _)⟩ ?_
 intro W1 s1
 have HS1 := Lib.hid s1
 clear s1
 have c0 := HS1.out.1.cell 0; have c1 := HS1.out.1.cell 1; have d0 := HS1.out.2.1.cell 0; have d1 := HS1.out.2.1.cell 1
 simp only [List.getElem?_cons_succ, List.getElem?_cons_zero] at c0 c1 d0 d1
 go_wp2_with (refine wpList_store_row rfl 23 _ _ rfl (w.heap.size + 1 + 1) #[.int .i64 (a - c), .int .i64 (b - d)] rfl rfl 23 _ HS1.out.2.2.1 ?_ ?_ ?_ ?_; (kernel_rfl); (rfl); (simp [Value.oneCell']))
 refine bodyPost_ret (results_rowA rfl _ _ (w.heap.size + 1 + 1) 23 #[.int .i64 (a - c), .int .i64 (b - d)] (0, 0) _ rfl (HS1.out.2.2.1.setRow [.int .i64 (a - c), .int .i64 (b - d)]) Tryz.underlying23 rfl (by kernel_rfl)) rfl ⟨rfl, Below.setRow HS1.out.2.2.2 (by omega) _⟩
structure Nq (m : Nat) (a b c d x y : Int) : Prop where
 e : sigE a b c d x y = 0
 a : a.natAbs ≤ m
 b : b.natAbs ≤ m
 c : c.natAbs ≤ m
 d : d.natAbs ≤ m
 x : x.natAbs ≤ m
 y : y.natAbs ≤ m
theorem nq_good {m : Nat} {a b c d x y : Int} (h : nearB (m : Int) a b c d x y = true) : Nq m a b c d x y := by
 unfold nearB at h
 simp only [Bool.and_eq_true, decide_eq_true_eq] at h
 obtain ⟨⟨⟨h1, h2, h3⟩, h4, h5⟩, h6, h7⟩ := h
 exact ⟨h1, inB_abs (by omega) h2, inB_abs (by omega) h3, inB_abs (by omega) h4, inB_abs (by omega) h5, inB_abs (by omega) h6, inB_abs (by omega) h7⟩
theorem PI.cast {p : P4} {a b c d e f g h a' b' c' d' e' f' g' h' : Int} (k : PI p a b c d e f g h) (e1 : a = a') (e2 : b = b') (e3 : c = c') (e4 : d = d') (e5 : e = e') (e6 : f = f') (e7 : g = g') (e8 : h = h') : PI p a' b' c' d' e' f' g' h' := by
 subst e1 e2 e3 e4 e5 e6 e7 e8; exact k
theorem toneHeard_any (a b c d x y p q r u fr fi : Int) (w : World) (hA : AwT w) : Calls Tryz.prog 3 #[.agg #[.int .i64 a, .int .i64 b, .int .i64 c, .int .i64 d, .int .i64 x, .int .i64 y], .agg #[.int .i64 p, .int .i64 q, .int .i64 r, .int .i64 u], .agg #[.int .i64 fr, .int .i64 fi]] w fun e w' => e = .returned (.bool true) ∧ Below w.heap.size w w' := by
 have near1 := fun W => near_any a b c d x y 5000 W (by decide)
 have near2 := fun W => near_any 1 0 p q r u 1000 W (by decide)
 have near3 := fun W => near_any 1 0 fr fi 0 0 1000 W (by decide)
 cases h1 : nearB 5000 a b c d x y
 · rw [h1] at near1
   exact heard_out1 a b c d x y p q r u fr fi _ _ w hA near1 near2 near3
 rw [h1] at near1
 cases h2 : nearB 1000 1 0 p q r u
 · rw [h2] at near2
   exact heard_out2 a b c d x y p q r u fr fi _ w hA near1 near2 near3
 rw [h2] at near2
 cases h3 : nearB 1000 1 0 fr fi 0 0
 · rw [h3] at near3
   exact heard_out3 a b c d x y p q r u fr fi w hA near1 near2 near3
 rw [h3] at near3
 obtain ⟨hE, g1, g2, g3, g4, g5, g6⟩ := nq_good (m := 5000) h1
 obtain ⟨-, -, -, o3, o4, o5, o6⟩ := nq_good (m := 1000) h2
 obtain ⟨-, -, -, f3, f4, -, -⟩ := nq_good (m := 1000) h3
 clear h1 h2 h3
 replace g1 := iv g1; replace g2 := iv g2; replace g3 := iv g3; replace g4 := iv g4; replace g5 := iv g5; replace g6 := iv g6
 replace o3 := iv o3; replace o4 := iv o4; replace o5 := iv o5; replace o6 := iv o6; replace f3 := iv f3; replace f4 := iv f4
 have hn := (sig_good hE).pn
 have hO : sigE a b (c + p) (d + q) (x + r) (y + u) = 0 := sig_of (by omega) (by omega) (by omega) (by omega) (by omega) (by omega) hn
 have hU : sigE a b (c - p) (d - q) (x - r) (y - u) = 0 := sig_of (by omega) (by omega) (by omega) (by omega) (by omega) (by omega) hn
 obtain ⟨P, sP, kP⟩ := sampledE hE
 obtain ⟨O, sO, kO⟩ := sampledE hO
 obtain ⟨U, sU, kU⟩ := sampledE hU
 have kM : I32 (floatOfInt .f32 fr) fr ∧ I32 (floatOfInt .f32 fi) fi := ⟨i32_of (by omega), i32_of (by omega)⟩
 obtain ⟨M, hM⟩ : ∃ M : Nat × Nat, M = (floatOfInt .f32 fr, floatOfInt .f32 fi) := ⟨_, rfl⟩
 have kM2 : I32 M.1 fr ∧ I32 M.2 fi := by rw [hM]; exact kM
 obtain ⟨S0, r0, t0⟩ := plusE kP.a kM2 (by omega) (by omega)
 obtain ⟨S1, r1, t1⟩ := minusE kP.b kM2 (by omega) (by omega)
 obtain ⟨S2, r2, t2⟩ := minusE kP.c kM2 (by omega) (by omega)
 obtain ⟨S3, r3, t3⟩ := plusE kP.d kM2 (by omega) (by omega)
 rw [hM] at r0 r1 r2 r3
 have kS : PI ⟨S0, S1, S2, S3⟩ (a + c + x + fr) (b + d + y + fi) (a + c - x - fr) (b + d - y - fi) (a - c + x - fr) (b - d + y - fi) (a - c - x + fr) (b - d - y + fi) := ⟨t0, t1, t2, t3⟩
 have kP2 : PI P (a + c + x + 0) (b + d + y + 0) (a + c - x - 0) (b + d - y - 0) (a - c + x - 0) (b - d + y - 0) (a - c - x + 0) (b - d - y + 0) := kP.cast (by omega) (by omega) (by omega) (by omega) (by omega) (by omega) (by omega) (by omega)
 have rP := fun W => receivedE kP2 hE (by decide) (by decide) W
 have rS := fun W => receivedE kS hE (by omega) (by omega) W
 have s1 := sig_good hE; have s2 := sig_good hO
 obtain ⟨L, hL⟩ : ∃ L : List Sg, L = [⟨a, b, c, d, x, y⟩, ⟨a, b, c + p, d + q, x + r, y + u⟩] := ⟨_, rfl⟩
 have hl2 : L.length = 2 := by rw [hL]; rfl
 have hLc : sgC L = [.int .i64 a, .int .i64 b, .int .i64 c, .int .i64 d, .int .i64 x, .int .i64 y, .int .i64 a, .int .i64 b, .int .i64 (c + p), .int .i64 (d + q), .int .i64 (x + r), .int .i64 (y + u)] := by rw [hL]; rfl
 have h0 : sgsE L = 0 := by
  rw [hL]
  show firstI [whenI (decide (2 = 0)) 12, if 256 < 2 then 5 else firstI [sigE a b c d x y, sigE a b (c + p) (d + q) (x + r) (y + u)]] = 0
  rw [hE, hO]; rfl
 obtain ⟨TX, e1, z1, z2, e2, e3, e4, e5, e6⟩ : ∃ TX : ByteArray, TX = lb (printS L) ∧ TX.size ≤ 400 ∧ 1 ≤ TX.size ∧ (cutG 10 0 (bl TX)).length = 3 ∧ rdS TX = (2, 0, L) ∧ parE TX = 0 ∧ (rdS (TX.extract 0 (TX.size - 1))).1 = 1 ∧ parE (TX.extract 0 (TX.size - 1)) = 25 := by
  rw [hL] at h0 ⊢
  exact two_facts s1 s2 h0
 obtain ⟨tq, htq⟩ : ∃ tq, tq = TX.size - 1 := ⟨_, rfl⟩
 rw [← htq] at e5 e6
 have zX : (TX.extract 0 tq).size ≤ 1000000000000 := by
  have : (TX.extract 0 tq).size ≤ TX.size := by rw [ByteArray.size_extract]; omega
  omega
 exact heard_law a b c d x y p q r u fr fi (c + p) (d + q) (x + r) (y + u) (c - p) (d - q) (x - r) (y - u) P.a.1 P.a.2 P.b.1 P.b.2 P.c.1 P.c.2 P.d.1 P.d.2 S0.1 S0.2 S1.1 S1.2 S2.1 S2.2 S3.1 S3.2 O.a.1 O.a.2 O.b.1 O.b.2 O.c.1 O.c.2 O.d.1 O.d.2 U.a.1 U.a.2 U.b.1 U.b.2 U.c.1 U.c.2 U.d.1 U.d.2 tq TX w hA near1 near2 near3
  sP rP r0 r1 r2 r3 rS
  (fun W => plusR_any c d p q W ⟨by omega, by omega⟩ ⟨by omega, by omega⟩) (fun W => plusR_any x y r u W ⟨by omega, by omega⟩ ⟨by omega, by omega⟩)
  (fun W => minusR_any c d p q W ⟨by omega, by omega⟩ ⟨by omega, by omega⟩) (fun W => minusR_any x y r u W ⟨by omega, by omega⟩ ⟨by omega, by omega⟩)
  sO sU
  (fun As cs W hW => averagedE As cs W (p1 := O) (p2 := P) (p3 := U) hW kO kP kU hE hO hU (by omega) (by omega) (by omega) (by omega))
  (fun As cs W hW => by
    rw [← hLc] at hW ⊢
    have h := signals_any As cs L W hW (by omega)
    rw [hl2] at h
    exact h.mono fun e w' ⟨z, k1, k2, k3⟩ => by
     obtain ⟨At, ct, rfl, hr⟩ := owned_sliceT k2
     exact ⟨At, ct, k1, hr, k3⟩)
  (fun As cs W hT hW => by
    rw [← hLc] at hW
    have h := printS_ok As cs L W hT.2.1 hW h0
    rw [hl2] at h
    rw [e1]
    exact h)
  (fun W hT => by
    have h := parseS_ok TX W hT.2.2 (by omega) e4
    rw [e3] at h
    rw [← hLc]
    exact h.mono fun e w' ⟨⟨A, k, j1, j2⟩, j3⟩ => ⟨A, k, by rw [← hl2]; exact j1, j2, j3⟩)
  (fun As cs W hW => by
    rw [← hLc] at hW ⊢
    have h := backs_any As cs L W hW (by omega)
    rw [hl2] at h
    exact h.mono fun e w' ⟨z, k1, k2, k3⟩ => by
     obtain ⟨At, ct, rfl, hr⟩ := owned_sliceT k2
     exact ⟨At, ct, k1, hr, k3⟩)
  (fun As cs Bs ds W hW hW2 => by
    rw [← hLc] at hW hW2
    have h := sameSignals_self As Bs cs ds L W hW hW2 (by omega)
    rw [hl2] at h
    exact h.mono fun e w' ⟨k1, n, k2⟩ => ⟨k1, by rw [k2]; exact ⟨rfl, rfl, rfl, Nat.le_refl _, fun _ _ => rfl⟩⟩)
  (fun W => by
    have h := splitR_full TX 10 W (by omega)
    rw [e2] at h
    exact h.mono fun e w' ⟨A, k, k1, _, k3⟩ => ⟨A, k, k1, k3⟩)
  (by omega) (by omega) (IntWalk.i64_in _ (by omega))
  (fun W hT => by
    have h := parseS_bad (TX.extract 0 tq) W hT.2.2 zX (by rw [e6]; decide)
    rw [e5, e6] at h
    exact h.mono fun e w' ⟨k1, k2⟩ => ⟨none, 0, 0, k1, k2⟩)
end Go.Proofs.YtaknlhepgeiekaaGreatDoor
