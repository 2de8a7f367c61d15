import Derived.Test.YtaeebedchbkniaaGreatDoorTie
import Derived.Test.YtaeebedchbkniaaGreatDoorCards
import Derived.ProofKit
import Derived.HandedShaped
import Derived.Carry
import Derived.ChangeOld
import Derived.PinnedBridge
import Derived.Lay
import Derived.Lib.LaidU8
import Derived.Shelf.Vars
import Derived.Deep.Slices
import Derived.Test.YtaeebedchbkniaaGreatDoorM46
import Derived.Test.YtaeebedchbkniaaGreatDoorM47
namespace Go.Proofs.YtaeebedchbkniaaGreatDoor
set_option linter.all false
open Go.RowKit Go.ChangeShapes Go.WideShapes Go.ChangeAt Go.Lib
theorem returns_and_shaped {H : Type} {enc : TypeId × Value → H} {a : Assume} {C : Checked} {os : Os} {f : FuncId} {fn : Func} {s : ChangeSpec} {conds : List PathCond} {apart fresh handsOn again : Bool} {X : World → Array Value → Prop}
 (hX : ∀ (w w' : World) (args : Array Value), w.heap = w'.heap → X w args → X w' args)
 (own : ownKnob C.prog.godebug = none) (started : os.Started) (noInit : C.prog.inits.idxOf? f = none) (hfn : C.prog.funcs[f]? = some fn)
 (witness : ∃ (w : World) (tape : Tape) (i : Input), w.os = os ∧ (w.forCall tape i).Shaped C.prog ∧ i.vars = [] ∧ Input.okWide C.prog (w.forCall tape i) .any w.heap.size f i ∧
   ((s.pre enc C.prog fn conds apart (w.forCall tape i).memory i.args ∧ X (w.forCall tape i).memory i.args) ∧ sizedMet enc C.prog fn (OpenSpec.ofChange s) apart (w.forCall tape i).memory i.args) ∧ a.holds C.prog (lone (Frame.enter C.prog f i.args .normal) [] (w.forCall tape i)))
 (contract : ∀ (W : World) (base : Nat) (args : Array Value) (ds gs : List (DataW H)) (before : List MemPlace),
   (∀ (j : Nat) t v, fn.params[j]? = some t → args[j]? = some v → Value.okWide C.prog W .any base t v) →
   DataW.Whole enc C.prog fn.params.toList s.vars apart W args.toList ds gs before →
   X W args → W.ShapedOpen C.prog →
   Calls C.prog f args W fun e W' => ∃ v, e = .returned v ∧ s.post enc C.prog fn apart fresh handsOn again W args v W') :
 ReturnsInHanded a C os f .any (fun w args => (s.pre enc C.prog fn conds apart w args ∧ X w args) ∧ sizedMet enc C.prog fn (OpenSpec.ofChange s) apart w args) (s.post enc C.prog fn apart fresh handsOn again) := by
 refine returnsInHanded_of_calls own started noInit witness ?_
 intro w tape i _ hsh _ hok hpre hholds
 obtain ⟨_, _, _, fn', hfn', _, _, _, _, hval⟩ := hok
 have e : fn' = fn := Option.some.inj (hfn'.symm.trans hfn)
 subst e
 obtain ⟨⟨⟨ds, gs, before, hw, hc⟩, hx⟩, hz⟩ := hpre
 have hw' := DataW.Whole.of_heap (w' := w.forCall tape i) (by rfl) hw
 refine (contract (w.forCall tape i) w.heap.size i.args ds gs before hval hw' (hX _ _ _ (by rfl) hx) hsh).mono fun e W' ⟨v, he, hp⟩ => ?_
 subst he
 exact ChangeSpec.post_blind hp
theorem trodAll_below {H : Type} {enc : TypeId × Value → H} {P : Program} (hl : laidOutB P = true) {W W' : World} (hb : Below W.heap.size W W') :
 ∀ {ts : List TypeId} {vs : List Value} {ds : List (DataW H)} {ps : List MemPlace}, (∀ t ∈ ts, P.readableRec t = true ∧ t < P.types.size) → (∀ p ∈ ps, p.block < W.heap.size) →
   DataW.TrodAll enc P W 0 (fun _ => true) true ts vs ds ps → DataW.TrodAll enc P W' 0 (fun b => decide (b < W.heap.size)) true ts vs ds ps
 | [], [], [], _, _, _, h => h
 | t :: ts, v :: vs, d :: ds, _, hr, hlt, ⟨p, q, h, hs, e⟩ => by
   subst e
   exact ⟨p, q, Below.trod hl (hr t (List.mem_cons_self ..)).1 (hr t (List.mem_cons_self ..)).2 h hb (fun x hx => hlt x (List.mem_append_left _ hx)), trodAll_below hl hb (fun u hu => hr u (List.mem_cons_of_mem _ hu)) (fun x hx => hlt x (List.mem_append_right _ hx)) hs, rfl⟩
 | [], _ :: _, _, _, _, _, h => h.elim
 | [], [], _ :: _, _, _, _, h => h.elim
 | _ :: _, [], _, _, _, _, h => h.elim
 | _ :: _, _ :: _, [], _, _, _, h => h.elim
section
variable {P : Program} {W : World} {r : Reach} {b0 : Nat} {t : TypeId} {v : Value}
theorem cell_int {k : IntKind} (hu : P.underlying t = some (.int k)) (h : Cell.okWide P W r b0 t v) : ∃ n, v = .int k n ∧ k.has n := by
 simp only [hu, Cell.okWide, Cell.ok] at h
 cases v <;> simp_all
theorem ok_slice {e : TypeId} (hu : P.underlying t = some (.slice e)) (h : Value.okWide P W r b0 t v) : v = .slice none 0 0 ∨ ∃ b off len cap, v = .slice (some ⟨b, off, none⟩) len cap ∧ len ≤ cap := by
 simp only [Value.okWide, hu, Cell.okWide, Cell.ok] at h
 cases v with
 | slice a len cap =>
   cases a with
   | none =>
     left
     cases len <;> cases cap <;> simp_all
   | some a =>
     right
     obtain ⟨b, off, sp⟩ := a
     have h1 : len ≤ cap ∧ (cap : Int) ≤ IntKind.i64.max ∧ W.has P r b0 ⟨b, off, sp⟩ e cap := by simpa using h
     obtain ⟨-, hs, -⟩ := h1.2.2
     have hs' : sp = none := hs
     subst hs'
     exact ⟨b, off, len, cap, rfl, h1.1⟩
 | _ => simp_all
theorem ok_agg {ts : List TypeId} (hu : (∃ fs, P.underlying t = some (.struct fs)) ∨ ∃ n e, P.underlying t = some (.array n e)) (hct : P.cellTypes P.depth t = some ts) (hlen : P.cellsOf t = ts.length) (h : Value.okWide P W r b0 t v) :
 ∃ cs : List Value, v = .agg cs.toArray ∧ cs.length = ts.length ∧ ∀ (i : Nat) (u : TypeId) (c : Value), ts[i]? = some u → cs[i]? = some c → Cell.okWide P W r b0 u c := by
 have h2 : ∃ cs, v = .agg cs ∧ cs.size = P.cellsOf t ∧ Row.okWide P W r b0 t cs := by
  rcases hu with ⟨fs, hu⟩ | ⟨n, e, hu⟩ <;> simpa only [Value.okWide, hu] using h
 obtain ⟨⟨cs⟩, rfl, hsz, ts', hts, -, hall⟩ := h2
 obtain rfl := Option.some.inj (hct.symm.trans hts)
 refine ⟨cs, rfl, by simpa [hlen] using hsz, fun i u c hi hc => ?_⟩
 obtain ⟨u', hu', hok⟩ := hall i c (by simpa using hc)
 have hl : i < ts.length := (List.getElem?_eq_some_iff.1 hi).1
 rw [Nat.mod_eq_of_lt hl, hi] at hu'
 cases hu'
 exact hok
end
set_option maxRecDepth 100000 in
theorem awT_of {W : World} (h : laidMet Tryz.prog Rows.toneReceiversRow.laid W) (hsh : W.ShapedOpen Tryz.prog) : AwT W := by
 refine ⟨?_, ?_, ?_⟩
 · obtain ⟨g, t, cs, fuel, p, hg, hty, hvar, hd⟩ := laidMet.reads h (n := "glideslope/common.turns") (d := Rows.laid_glideslope_common_turns) (by simp [Rows.toneReceiversRow])
   obtain rfl := Option.some.inj ((show Tryz.prog.globalNamed "glideslope/common.turns" = some 0 by kernel_rfl).symm.trans hg)
   obtain rfl := Option.some.inj ((show (Tryz.prog.globals[0]?).map (·.type) = some 235 by kernel_rfl).symm.trans hty)
   intro j v hj
   rw [World.var?_cell hg hvar j, ← Array.getElem?_toList]
   have hel : ∀ i (zs : List Int), i < 4 → [([1, 0] : List Int), [0, 1], [-1, 0], [0, -1]][i]? = some zs → (cs.toList.drop (i * 2)).take 2 = zs.map fun z => Value.int .i64 z := fun i zs hi hzs => by
    obtain ⟨fuel', d, q, hdi, he⟩ := array_elem Tryz.underlying235 hd i hi
    have hd2 : d = .agg (zs.map fun z => .lit (.int .i64 z)) := by
     match i, hi with
     | 0, _ | 1, _ | 2, _ | 3, _ => simp at hzs hdi; subst hzs; exact hdi.symm
    subst hd2
    rw [show Tryz.prog.cellsOf 37 = 2 by kernel_rfl] at he
    exact ints_of_struct (k := .i64) Tryz.underlying37 (fun j f hj => by
     match j, hj with
     | 0, hj => simp at hj; subst hj; exact ⟨Tryz.underlying3, rfl, by kernel_rfl⟩
     | 1, hj => simp at hj; subst hj; exact ⟨Tryz.underlying3, rfl, by kernel_rfl⟩
     | j + 2, hj => simp at hj) (by kernel_rfl) he
   have hx : ∀ i k : Nat, i < 4 → k < 2 → cs.toList[i * 2 + k]? = ((([([1, 0] : List Int), [0, 1], [-1, 0], [0, -1]][i]?.getD []).map fun z => Value.int .i64 z))[k]? := fun i k hi hk => by
    obtain ⟨zs, hzs⟩ : ∃ zs, [([1, 0] : List Int), [0, 1], [-1, 0], [0, -1]][i]? = some zs := ⟨_, List.getElem?_eq_getElem (by simpa using hi)⟩
    rw [hzs, Option.getD_some, ← hel i zs hi hzs, List.getElem?_take_of_lt hk, List.getElem?_drop]
   have hj8 : j < 8 := by
    have := (List.getElem?_eq_some_iff.1 hj).1
    simpa using this
   have := hx (j / 2) (j % 2) (by omega) (Nat.mod_lt _ (by decide))
   rw [show j / 2 * 2 + j % 2 = j by omega] at this
   rw [this]
   match j, hj8 with
   | 0, _ | 1, _ | 2, _ | 3, _ | 4, _ | 5, _ | 6, _ | 7, _ => simp at hj; subst hj; rfl
 · obtain ⟨g, t, cs, fuel, p, hg, hty, hvar, hd⟩ := laidMet.reads h (n := "internal/strconv.uint64pow10") (d := Rows.laid_internal_strconv_uint64pow10) (by simp [Rows.toneReceiversRow])
   obtain rfl := Option.some.inj ((show Tryz.prog.globalNamed "internal/strconv.uint64pow10" = some 2 by kernel_rfl).symm.trans hg)
   obtain rfl := Option.some.inj ((show (Tryz.prog.globals[2]?).map (·.type) = some 297 by kernel_rfl).symm.trans hty)
   have hcs := cells_of_tab (zs := pow10Tab) Tryz.underlying297 Tryz.underlying257 (by kernel_rfl) (by kernel_rfl) (show DataW.trod (fun _ => ()) Tryz.prog W 0 (fun _ => true) false fuel 297 cs.toList = some (tabData .u64 pow10Tab, p) from hd)
   show W.var? _ _ = _
   rw [hvar, ← hcs]
 · exact cell_of_shapedOpen_int (P := Tryz.prog) (g := 3) (t := 3) (zero := #[.int .i64 0]) hsh (of_decide_eq_true (by kernel_rfl)) (by kernel_rfl) rfl (by kernel_rfl) (by kernel_rfl) Tryz.underlying3
theorem own_knob : ownKnob Tryz.prog.godebug = none := by kernel_rfl
theorem laid_out : laidOutB Tryz.prog = true := by kernel_rfl
theorem law_shut {H : Type} {enc : TypeId × Value → H} {f : Func} {s : ChangeSpec} {W W' : World} {args : Array Value} {ds : List (DataW H)} {before : List MemPlace}
 (hW : DataW.Whole enc Tryz.prog f.params.toList s.vars false W args.toList ds [] before) (hv : s.vars = []) (hres : f.resultTypes = #[4])
 (hfn : s.fn H (ds ++ []) = { results := [.lit (.bool true)], args := ds }) (hr : ∀ t ∈ f.params.toList, Tryz.prog.readableRec t = true ∧ t < Tryz.prog.types.size) (hb : Below W.heap.size W W') :
 s.post enc Tryz.prog f false true false false W args (.bool true) W' := by
 have hlt := hW.lt
 have hW' := hW
 obtain ⟨p, q, hA, hV, rfl, _, _⟩ := hW
 refine ⟨ds, [], _, [], p, [], hW', ?_, ?_, ?_, hb.frame _, fun h => by cases h⟩
 · rw [hres, hfn]
   exact trodAll_mk1 (shut_bool Tryz.underlying4 _)
 · rw [hfn]
   exact trodAll_below laid_out hb hr (fun x hx => hlt x (List.mem_append_left _ hx)) hA
 · rw [hfn, hv]
   rfl
end Go.Proofs.YtaeebedchbkniaaGreatDoor
namespace Go.Proofs.YtaeebedchbkniaaGreatDoor
set_option linter.all false
open Go.RowKit Go.Fl
set_option maxRecDepth 100000 in
set_option maxHeartbeats 8000000 in
theorem receivers_out (rs rf rl ra rb lag start : Int) (A : Option Addr) (N c : Nat) (SC : List Value) (w : World) (hA : AwT w) (hSC : Rd w A SC) (hsh : (decide (N ≤ 20) || decide (N = 257)) = false) : Calls Tryz.prog 3 #[.agg #[.int .i64 rs, .int .i64 rf, .int .i64 rl, .int .i64 ra, .int .i64 rb], .agg #[.int .i64 lag, .int .i64 start], .slice A N c] w fun e w' => e = .returned (.bool true) ∧ Below w.heap.size w w' := by
 have HK : Hid (KpT w [((w.heap.size + 1), 26, [.int .i64 lag, .int .i64 start]), (w.heap.size, 25, [.int .i64 rs, .int .i64 rf, .int .i64 rl, .int .i64 ra, .int .i64 rb])] [(A, SC)] ((w.alloc (.cells #[.int .i64 rs, .int .i64 rf, .int .i64 rl, .int .i64 ra, .int .i64 rb] 25)).alloc (.cells #[.int .i64 lag, .int .i64 start] 26))) := Lib.hid (KpT.cons (KpT.cons (KpT.old (V := w) ⟨hA, fun r h => (List.not_mem_nil h).elim, fun r h => by rw [List.mem_singleton.1 h]; exact hSC, Below.refl _ _⟩ (((Below.refl _ _).alloc (Nat.le_refl _) _).alloc (by simp) _)) ((Row.new w 25 [.int .i64 rs, .int .i64 rf, .int .i64 rl, .int .i64 ra, .int .i64 rb]).alloc _)) row2)
 have HSH : Hid (∀ W, Calls Tryz.prog 10 #[.slice A N c] W fun e w' => e = .returned (.bool false) ∧ W = w') := fun W => by rw [← hsh]; exact shortR_any A N c W
 clear hsh
 clear hA
 go_enter Tryz.func3, Tryz.ntmps3
 go_upto_region 1 with fail
 refine genT (fun V => KpT w [((w.heap.size + 1), 26, [.int .i64 lag, .int .i64 start]), (w.heap.size, 25, [.int .i64 rs, .int .i64 rf, .int .i64 rl, .int .i64 ra, .int .i64 rb])] [(A, SC)] V) HK.out ?_
 clear HK
 intro wc s0
 have HK := Lib.hid s0
 clear s0
 have HV := HK
 go_upto_region 2 with (first | (go_at_call 9; refine (awake_ok _ HV.out.1).mono ?_; rintro e w2 ⟨rfl, hb⟩; replace HV := Lib.hid (HV.out.old hb); clear hb) | (go_at_call 10; refine (HSH.out _).mono ?_; rintro e w2b ⟨rfl, rfl⟩))
 go_wp2_with (first | (go_at_call 9; refine (awake_ok _ HV.out.1).mono ?_; rintro e w2 ⟨rfl, hb⟩; replace HV := Lib.hid (HV.out.old hb); clear hb))
 go_ret
 exact ⟨rfl, HV.out.2.2.2⟩
set_option maxRecDepth 100000 in
set_option maxHeartbeats 16000000 in
theorem receivers_law (rs rf rl ra rb lag start : Int) (A : Option Addr) (N c : Nat) (SC : List Value) (sa sb sc sd sx sy TN E0 E1 E2 E3 E4 ES : Int) (FL : ByteArray) (FN : Nat) (FLs : List Int) (zN zE : Bool) (w : World) (hA : AwT w) (hSC : Rd w A SC) (hsh : (decide (N ≤ 20) || decide (N = 257)) = true) (hzN : decide (0 < N) = zN) (hzE : (E1 == 0) = zE) (hRr : ∀ W, Calls Tryz.prog 11 #[.agg #[.int .i64 rs, .int .i64 rf, .int .i64 rl, .int .i64 ra, .int .i64 rb]] W fun e w' => e = .returned (.int .i64 E0) ∧ Below W.heap.size W w') (hRc : ∀ W, Calls Tryz.prog 12 #[.agg #[.int .i64 rs, .int .i64 rf, .int .i64 rl, .int .i64 ra, .int .i64 rb]] W fun e w' => e = .returned (.int .i64 E0) ∧ Below W.heap.size W w') (hq : 0 < N → SC[0]? = some (.int .i64 sa) ∧ SC[1]? = some (.int .i64 sb) ∧ SC[2]? = some (.int .i64 sc) ∧ SC[3]? = some (.int .i64 sd) ∧ SC[4]? = some (.int .i64 sx) ∧ SC[5]? = some (.int .i64 sy)) (hTd : 0 < N → ∀ W, Calls Tryz.prog 13 #[.agg #[.int .i64 rs, .int .i64 rf, .int .i64 rl, .int .i64 ra, .int .i64 rb], .agg #[.int .i64 sa, .int .i64 sb, .int .i64 sc, .int .i64 sd, .int .i64 sx, .int .i64 sy]] W fun e w' => e = .returned (.tuple #[.int .i64 TN, .string FL, .int .i64 E1]) ∧ Below W.heap.size W w') (hCs : 0 < N → ∀ W, Calls Tryz.prog 15 #[.agg #[.int .i64 sa, .int .i64 sb, .int .i64 sc, .int .i64 sd, .int .i64 sx, .int .i64 sy]] W fun e w' => e = .returned (.int .i64 ES) ∧ Below W.heap.size W w') (hE1 : firstI [E0, ES] = E1) (hTr : 0 < N → E1 = 0 → ∀ W, Calls Tryz.prog 16 #[.agg #[.int .i64 rs, .int .i64 rf, .int .i64 rl, .int .i64 ra, .int .i64 rb], .agg #[.int .i64 sa, .int .i64 sb, .int .i64 sc, .int .i64 sd, .int .i64 sx, .int .i64 sy]] W fun e w' => e = .returned (.tuple #[.int .i64 TN, .string FL]) ∧ Below W.heap.size W w') (hz1 : E1 ≠ 0 → TN = 0 ∧ FL = ⟨#[]⟩) (hSg : ∀ W, Rd W A SC → Calls Tryz.prog 18 #[.slice A N c] W fun e w' => ∃ As cs, e = .returned (.slice As N cs) ∧ Rd w' As SC ∧ Below W.heap.size W w') (hFo : ∀ As cs W, Rd W As SC → Calls Tryz.prog 17 #[.agg #[.int .i64 rs, .int .i64 rf, .int .i64 rl, .int .i64 ra, .int .i64 rb], .int .i64 lag, .int .i64 start, .slice As N cs] W fun e w' => ∃ Af cf, e = .returned (.tuple #[.slice Af FN cf, .int .i64 E2]) ∧ Rd w' Af (ints FLs) ∧ Below W.heap.size W w') (hLg : ∀ W, Calls Tryz.prog 19 #[.agg #[.int .i64 rs, .int .i64 rf, .int .i64 rl, .int .i64 ra, .int .i64 rb], .int .i64 lag, .int .i64 start] W fun e w' => e = .returned (.int .i64 E3) ∧ Below W.heap.size W w') (hSs : ∀ W, Rd W A SC → Calls Tryz.prog 20 #[.slice A N c] W fun e w' => e = .returned (.int .i64 E4) ∧ Below W.heap.size W w') (hE2 : firstI [E3, E4] = E2) (hFr : E2 = 0 → ∀ W, Rd W A SC → Calls Tryz.prog 21 #[.agg #[.int .i64 rs, .int .i64 rf, .int .i64 rl, .int .i64 ra, .int .i64 rb], .int .i64 lag, .int .i64 start, .slice A N c] W fun e w' => ∃ Ar cr, e = .returned (.slice Ar FN cr) ∧ Rd w' Ar (ints FLs) ∧ Below W.heap.size W w') (hz2 : E2 ≠ 0 → FLs = [] ∧ FN = 0) (hFN : FN = FLs.length) (hFm : FLs.length ≤ 1000000) : Calls Tryz.prog 3 #[.agg #[.int .i64 rs, .int .i64 rf, .int .i64 rl, .int .i64 ra, .int .i64 rb], .agg #[.int .i64 lag, .int .i64 start], .slice A N c] w fun e w' => e = .returned (.bool true) ∧ Below w.heap.size w w' := by
 have HK : Hid (KpT w [((w.heap.size + 1), 26, [.int .i64 lag, .int .i64 start]), (w.heap.size, 25, [.int .i64 rs, .int .i64 rf, .int .i64 rl, .int .i64 ra, .int .i64 rb])] [(A, SC)] ((w.alloc (.cells #[.int .i64 rs, .int .i64 rf, .int .i64 rl, .int .i64 ra, .int .i64 rb] 25)).alloc (.cells #[.int .i64 lag, .int .i64 start] 26))) := Lib.hid (KpT.cons (KpT.cons (KpT.old (V := w) ⟨hA, fun r h => (List.not_mem_nil h).elim, fun r h => by rw [List.mem_singleton.1 h]; exact hSC, Below.refl _ _⟩ (((Below.refl _ _).alloc (Nat.le_refl _) _).alloc (by simp) _)) ((Row.new w 25 [.int .i64 rs, .int .i64 rf, .int .i64 rl, .int .i64 ra, .int .i64 rb]).alloc _)) row2)
 replace hzN := Lib.hid hzN
 replace hzE := Lib.hid hzE
 replace hRr := Lib.hid hRr
 replace hRc := Lib.hid hRc
 replace hq := Lib.hid hq
 replace hTd := Lib.hid hTd
 replace hCs := Lib.hid hCs
 replace hE1 := Lib.hid hE1
 replace hTr := Lib.hid hTr
 replace hz1 := Lib.hid hz1
 replace hSg := Lib.hid hSg
 replace hFo := Lib.hid hFo
 replace hLg := Lib.hid hLg
 replace hSs := Lib.hid hSs
 replace hE2 := Lib.hid hE2
 replace hFr := Lib.hid hFr
 replace hz2 := Lib.hid hz2
 replace hFN := Lib.hid hFN
 replace hFm := Lib.hid hFm
 have HSH : Hid (∀ W, Calls Tryz.prog 10 #[.slice A N c] W fun e w' => e = .returned (.bool true) ∧ W = w') := fun W => by rw [← hsh]; exact shortR_any A N c W
 clear hsh
 clear hA
 go_enter Tryz.func3, Tryz.ntmps3
 go_upto_region 1 with fail
 refine genT (fun V => KpT w [((w.heap.size + 1), 26, [.int .i64 lag, .int .i64 start]), (w.heap.size, 25, [.int .i64 rs, .int .i64 rf, .int .i64 rl, .int .i64 ra, .int .i64 rb])] [(A, SC)] V) HK.out ?_
 clear HK
 intro wc s0
 have HK := Lib.hid s0
 clear s0
 go_cut [24] from 18 to 23 (fun s24 wx => s24 = .bool false ∧ Hid (KpT w [((w.heap.size + 1), 26, [.int .i64 lag, .int .i64 start]), (w.heap.size, 25, [.int .i64 rs, .int .i64 rf, .int .i64 rl, .int .i64 ra, .int .i64 rb])] [(A, SC)] wx))
 case first =>
  have HV := HK
  go_wp2_with (first | (go_at_call 9; refine (awake_ok _ HV.out.1).mono ?_; rintro e w2 ⟨rfl, hb⟩; replace HV := Lib.hid (HV.out.old hb); clear hb) | (go_at_call 10; refine (HSH.out _).mono ?_; rintro e w2b ⟨rfl, rfl⟩))
  go_meet
  exact ⟨rfl, HV⟩
 case rest =>
 clear HK
 obtain ⟨rfl, HK⟩ := hcut
 go_upto_region 3 with fail
 go_cut [7] from 26 to 27 (fun s7 wx => s7 = .int .i64 E0 ∧ Hid (KpT w [((w.heap.size + 1), 26, [.int .i64 lag, .int .i64 start]), (w.heap.size, 25, [.int .i64 rs, .int .i64 rf, .int .i64 rl, .int .i64 ra, .int .i64 rb])] [(A, SC)] wx))
 case first =>
  have HV := HK
  go_wp2_with (first
   | (refine wpList_load_row rfl 25 _ rfl w.heap.size rfl 25 #[.int .i64 rs, .int .i64 rf, .int .i64 rl, .int .i64 ra, .int .i64 rb] (0, 0) _ (HV.out.row w.heap.size 25 [.int .i64 rs, .int .i64 rf, .int .i64 rl, .int .i64 ra, .int .i64 rb] (.tail _ (.head _))) Tryz.underlying25 rfl ?_ ?_; (kernel_rfl))
   | (go_at_call 11; refine (hRr.out _).mono ?_; rintro e w2 ⟨rfl, hb⟩; replace HV := Lib.hid (HV.out.old hb); clear hb))
  go_meet
  exact ⟨rfl, HV⟩
 case rest =>
 clear HK
 obtain ⟨rfl, HK⟩ := hcut
 go_upto_region 4 with fail
 go_cut [31] from 28 to 30 (fun s31 wx => s31 = .bool false ∧ Hid (KpT w [((w.heap.size + 1), 26, [.int .i64 lag, .int .i64 start]), (w.heap.size, 25, [.int .i64 rs, .int .i64 rf, .int .i64 rl, .int .i64 ra, .int .i64 rb])] [(A, SC)] wx))
 case first =>
  have HV := HK
  go_wp2_with (first | (refine wpList_load_row rfl 25 _ rfl w.heap.size rfl 25 #[.int .i64 rs, .int .i64 rf, .int .i64 rl, .int .i64 ra, .int .i64 rb] (0, 0) _ (HV.out.row w.heap.size 25 [.int .i64 rs, .int .i64 rf, .int .i64 rl, .int .i64 ra, .int .i64 rb] (.tail _ (.head _))) Tryz.underlying25 rfl ?_ ?_; (kernel_rfl)) | (go_at_call 12; refine (hRc.out _).mono ?_; rintro e w2 ⟨rfl, hb⟩; replace HV := Lib.hid (HV.out.old hb); clear hb))
  go_meet
  exact ⟨rfl, HV⟩
 case rest =>
 clear HK
 obtain ⟨rfl, HK⟩ := hcut
 go_upto_region 6 with fail
 go_cut [34] from 32 to 33 (fun s34 wx => s34 = .bool zN ∧ Hid (KpT w [((w.heap.size + 1), 26, [.int .i64 lag, .int .i64 start]), (w.heap.size, 25, [.int .i64 rs, .int .i64 rf, .int .i64 rl, .int .i64 ra, .int .i64 rb])] [(A, SC)] wx))
 case first =>
  have hzz := hzN.out
  go_wp2_with fail
  go_meet
  exact ⟨rfl, HK⟩
 case rest =>
 clear HK
 obtain ⟨rfl, HK⟩ := hcut
 go_upto_if 34 with fail
 go_cut [] from 8 to 73 (fun wx => Hid (KpT w [((w.heap.size + 1), 26, [.int .i64 lag, .int .i64 start]), (w.heap.size, 25, [.int .i64 rs, .int .i64 rf, .int .i64 rl, .int .i64 ra, .int .i64 rb])] [(A, SC)] wx))
 case first =>
  cases zN
  case true =>
   have hN : 0 < N := by have h := hzN.out; simpa using h
   replace hTd := Lib.hid (hTd.out hN); replace hCs := Lib.hid (hCs.out hN); replace hTr := Lib.hid (hTr.out hN)
   have HQ := Lib.hid (hq.out hN)
   obtain ⟨b0, o0, rfl, -⟩ := HK.out.rd A SC (.head _) 0 _ HQ.out.1
   clear hq
   have HC : Hid (∀ V, Below wc.heap.size wc V → V.cell? ⟨b0, o0, none⟩ = some (.int .i64 sa) ∧ V.cell? ⟨b0, o0 + 1, none⟩ = some (.int .i64 sb) ∧ V.cell? ⟨b0, o0 + 2, none⟩ = some (.int .i64 sc) ∧ V.cell? ⟨b0, o0 + 3, none⟩ = some (.int .i64 sd) ∧ V.cell? ⟨b0, o0 + 4, none⟩ = some (.int .i64 sx) ∧ V.cell? ⟨b0, o0 + 5, none⟩ = some (.int .i64 sy)) := by
    intro V hV
    have hP := (HK.out.old hV).rd (some ⟨b0, o0, none⟩) SC (.head _)
    have g : ∀ j v, SC[j]? = some v → V.cell? ⟨b0, o0 + j, none⟩ = some v := fun j v hv => by
     obtain ⟨b1, o1, h1, h2⟩ := hP j v hv
     cases h1
     exact h2
    exact ⟨g 0 _ HQ.out.1, g 1 _ HQ.out.2.1, g 2 _ HQ.out.2.2.1, g 3 _ HQ.out.2.2.2.1, g 4 _ HQ.out.2.2.2.2.1, g 5 _ HQ.out.2.2.2.2.2⟩
   go_upto_region 7 with fail
   go_cut [8, 9, 10] from 35 to 43 (fun s8 s9 s10 wx => s8 = .int .i64 TN ∧ s9 = .string FL ∧ s10 = .int .i64 E1 ∧ Hid (KpT w [((w.heap.size + 1), 26, [.int .i64 lag, .int .i64 start]), (w.heap.size, 25, [.int .i64 rs, .int .i64 rf, .int .i64 rl, .int .i64 ra, .int .i64 rb])] [((some ⟨b0, o0, none⟩), SC)] wx))
   case first =>
    refine wp_region_held_drew (S := fun V => Below wc.heap.size wc V) (by kernel_rfl) ?_ (fun hHeld => ?_)
    · exact (Below.refl _ _).drew
    refine tk 0 36 (.agg #[.int .i64 rs, .int .i64 rf, .int .i64 rl, .int .i64 ra, .int .i64 rb]) rfl (by kernel_rfl) (fun _ _ _ h => h) (by kernel_rfl) (fun V hV => ex_rowT 25 _ rfl (w.heap.size) rfl 25 [.int .i64 rs, .int .i64 rf, .int .i64 rl, .int .i64 ra, .int .i64 rb] _ Tryz.underlying25 rfl (by kernel_rfl) ((HK.out.old hV).row w.heap.size 25 [.int .i64 rs, .int .i64 rf, .int .i64 rl, .int .i64 ra, .int .i64 rb] (.tail _ (.head _)))) hHeld ?_
    try simp only [zz]
    refine tk 1 37 ?_ rfl (by kernel_rfl) (fun _ _ _ h => h) (by kernel_rfl) ?_ hHeld ?_
    rotate_left
    · intro w1 hSw; (try dsimp only at hSw); go_simp <;> with_reducible rfl
    try simp only [zz]
    refine tk 2 38 ?_ rfl (by kernel_rfl) (fun _ _ _ h => h) (by kernel_rfl) ?_ hHeld ?_
    rotate_left
    · intro w1 hSw; (try dsimp only at hSw); go_simp <;> with_reducible rfl
    try simp only [zz]
    refine tk 3 39 (.agg #[.int .i64 sa, .int .i64 sb, .int .i64 sc, .int .i64 sd, .int .i64 sx, .int .i64 sy]) rfl (by kernel_rfl) (fun _ _ _ h => h) (by kernel_rfl) (fun V hV => ex_SgR _ rfl b0 o0 rfl (HC.out V hV).1 (HC.out V hV).2.1 (HC.out V hV).2.2.1 (HC.out V hV).2.2.2.1 (HC.out V hV).2.2.2.2.1 (HC.out V hV).2.2.2.2.2) hHeld ?_
    try simp only [zz]
    refine st1 4 (by kernel_rfl) rfl (fun K hK => ?_)
    go_simp
    go_at_call 13
    refine (hTd.out _).mono ?_
    rintro e v4 ⟨rfl, hb4⟩
    have hz4 := hb4.size
    try simp only [World.size_alloc, size_drewT] at hz4
    try go_simp
    refine hK.out _ _ ?_ (fun hHeld => ?_)
    · exact hHeld.trans (hb4.mono hHeld.size)
    clear hK K
    try simp only [zz]
    refine tk 5 35 ?_ rfl (by kernel_rfl) (fun _ _ _ h => h) (by kernel_rfl) ?_ hHeld ?_
    rotate_left
    · intro w1 hSw; (try dsimp only at hSw); go_simp <;> with_reducible rfl
    try simp only [zz]
    refine tk 6 41 ?_ rfl (by kernel_rfl) (fun _ _ _ h => h) (by kernel_rfl) ?_ hHeld ?_
    rotate_left
    · intro w1 hSw; (try dsimp only at hSw); go_simp <;> with_reducible rfl
    try simp only [zz]
    refine tk 7 42 ?_ rfl (by kernel_rfl) (fun _ _ _ h => h) (by kernel_rfl) ?_ hHeld ?_
    rotate_left
    · intro w1 hSw; (try dsimp only at hSw); go_simp <;> with_reducible rfl
    try simp only [zz]
    refine tk 8 43 ?_ rfl (by kernel_rfl) (fun _ _ _ h => h) (by kernel_rfl) ?_ hHeld ?_
    rotate_left
    · intro w1 hSw; (try dsimp only at hSw); go_simp <;> with_reducible rfl
    try simp only [zz]
    refine tk 9 8 ?_ rfl (by kernel_rfl) (fun _ _ _ h => h) (by kernel_rfl) ?_ hHeld ?_
    rotate_left
    · intro w1 hSw; (try dsimp only at hSw); go_simp <;> with_reducible rfl
    try simp only [zz]
    refine tk 10 9 ?_ rfl (by kernel_rfl) (fun _ _ _ h => h) (by kernel_rfl) ?_ hHeld ?_
    rotate_left
    · intro w1 hSw; (try dsimp only at hSw); go_simp <;> with_reducible rfl
    try simp only [zz]
    refine tk 11 10 ?_ rfl (by kernel_rfl) (fun _ _ _ h => h) (by kernel_rfl) ?_ hHeld ?_
    rotate_left
    · intro w1 hSw; (try dsimp only at hSw); go_simp <;> with_reducible rfl
    try simp only [zz]
    refine wpAnyH_done (by kernel_rfl) ?_ _
    go_wp2_with fail
    go_meet
    exact ⟨rfl, rfl, rfl, Lib.hid (HK.out.old hHeld)⟩
   case rest =>
   clear HC
   clear HK
   obtain ⟨rfl, rfl, rfl, HK⟩ := hcut
   have HC : Hid (∀ V, Below wc.heap.size wc V → V.cell? ⟨b0, o0, none⟩ = some (.int .i64 sa) ∧ V.cell? ⟨b0, o0 + 1, none⟩ = some (.int .i64 sb) ∧ V.cell? ⟨b0, o0 + 2, none⟩ = some (.int .i64 sc) ∧ V.cell? ⟨b0, o0 + 3, none⟩ = some (.int .i64 sd) ∧ V.cell? ⟨b0, o0 + 4, none⟩ = some (.int .i64 sx) ∧ V.cell? ⟨b0, o0 + 5, none⟩ = some (.int .i64 sy)) := by
    intro V hV
    have hP := (HK.out.old hV).rd (some ⟨b0, o0, none⟩) SC (.head _)
    have g : ∀ j v, SC[j]? = some v → V.cell? ⟨b0, o0 + j, none⟩ = some v := fun j v hv => by
     obtain ⟨b1, o1, h1, h2⟩ := hP j v hv
     cases h1
     exact h2
    exact ⟨g 0 _ HQ.out.1, g 1 _ HQ.out.2.1, g 2 _ HQ.out.2.2.1, g 3 _ HQ.out.2.2.2.1, g 4 _ HQ.out.2.2.2.2.1, g 5 _ HQ.out.2.2.2.2.2⟩
   go_upto_region 8 with fail
   go_cut [11] from 44 to 50 (fun s11 wx => s11 = .int .i64 E1 ∧ Hid (KpT w [((w.heap.size + 1), 26, [.int .i64 lag, .int .i64 start]), (w.heap.size, 25, [.int .i64 rs, .int .i64 rf, .int .i64 rl, .int .i64 ra, .int .i64 rb])] [((some ⟨b0, o0, none⟩), SC)] wx))
   case first =>
    have HV := HK
    obtain ⟨c0, c1, c2, c3, c4, c5⟩ := HC.out wc (Below.refl _ _)
    go_wp2_with (first
     | (go_at_call 15; refine (hCs.out _).mono ?_; rintro e w2 ⟨rfl, hb⟩; replace HV := Lib.hid (HV.out.old hb); clear hb)
     | (go_at_call 14; refine (calls_intE (first_any _ _ _ [E0, ES] _ (by exact Rd.row (t := 3) (Row.new _ _ _)) rfl (by simp)) hE1.out).mono ?_; rintro e w4 ⟨rfl, rfl⟩))
    go_meet
    exact ⟨rfl, Lib.hid (HV.out.old ((Below.refl _ _).alloc (Nat.le_refl _) _))⟩
   case rest =>
   clear HC
   clear HK
   obtain ⟨rfl, HK⟩ := hcut
   go_upto_region 10 with fail
   go_cut [52] from 51 to 51 (fun s52 wx => s52 = .bool zE ∧ Hid (KpT w [((w.heap.size + 1), 26, [.int .i64 lag, .int .i64 start]), (w.heap.size, 25, [.int .i64 rs, .int .i64 rf, .int .i64 rl, .int .i64 ra, .int .i64 rb])] [((some ⟨b0, o0, none⟩), SC)] wx))
   case first =>
    have hzz := hzE.out
    go_wp2_with fail
    go_meet
    exact ⟨rfl, HK⟩
   case rest =>
   clear HK
   obtain ⟨rfl, HK⟩ := hcut
   go_upto_if 52 with fail
   go_cut [12, 13] from 51 to 60 (fun s12 s13 wx => s12 = .int .i64 TN ∧ s13 = .string FL ∧ Hid (KpT w [((w.heap.size + 1), 26, [.int .i64 lag, .int .i64 start]), (w.heap.size, 25, [.int .i64 rs, .int .i64 rf, .int .i64 rl, .int .i64 ra, .int .i64 rb])] [((some ⟨b0, o0, none⟩), SC)] wx))
   case first =>
    cases zE
    case true =>
     have hTr2 := Lib.hid (hTr.out (by have h := hzE.out; simpa using h))
     have HC : Hid (∀ V, Below wc.heap.size wc V → V.cell? ⟨b0, o0, none⟩ = some (.int .i64 sa) ∧ V.cell? ⟨b0, o0 + 1, none⟩ = some (.int .i64 sb) ∧ V.cell? ⟨b0, o0 + 2, none⟩ = some (.int .i64 sc) ∧ V.cell? ⟨b0, o0 + 3, none⟩ = some (.int .i64 sd) ∧ V.cell? ⟨b0, o0 + 4, none⟩ = some (.int .i64 sx) ∧ V.cell? ⟨b0, o0 + 5, none⟩ = some (.int .i64 sy)) := by
      intro V hV
      have hP := (HK.out.old hV).rd (some ⟨b0, o0, none⟩) SC (.head _)
      have g : ∀ j v, SC[j]? = some v → V.cell? ⟨b0, o0 + j, none⟩ = some v := fun j v hv => by
       obtain ⟨b1, o1, h1, h2⟩ := hP j v hv
       cases h1
       exact h2
      exact ⟨g 0 _ HQ.out.1, g 1 _ HQ.out.2.1, g 2 _ HQ.out.2.2.1, g 3 _ HQ.out.2.2.2.1, g 4 _ HQ.out.2.2.2.2.1, g 5 _ HQ.out.2.2.2.2.2⟩
     go_upto_region 11 with fail
     go_cut [12, 13] from 53 to 60 (fun s12 s13 wx => s12 = .int .i64 TN ∧ s13 = .string FL ∧ Hid (KpT w [((w.heap.size + 1), 26, [.int .i64 lag, .int .i64 start]), (w.heap.size, 25, [.int .i64 rs, .int .i64 rf, .int .i64 rl, .int .i64 ra, .int .i64 rb])] [((some ⟨b0, o0, none⟩), SC)] wx))
     case first =>
      refine wp_region_held_drew (S := fun V => Below wc.heap.size wc V) (by kernel_rfl) ?_ (fun hHeld => ?_)
      · exact (Below.refl _ _).drew
      refine tk 0 54 (.agg #[.int .i64 rs, .int .i64 rf, .int .i64 rl, .int .i64 ra, .int .i64 rb]) rfl (by kernel_rfl) (fun _ _ _ h => h) (by kernel_rfl) (fun V hV => ex_rowT 25 _ rfl (w.heap.size) rfl 25 [.int .i64 rs, .int .i64 rf, .int .i64 rl, .int .i64 ra, .int .i64 rb] _ Tryz.underlying25 rfl (by kernel_rfl) ((HK.out.old hV).row w.heap.size 25 [.int .i64 rs, .int .i64 rf, .int .i64 rl, .int .i64 ra, .int .i64 rb] (.tail _ (.head _)))) hHeld ?_
      try simp only [zz]
      refine tk 1 55 ?_ rfl (by kernel_rfl) (fun _ _ _ h => h) (by kernel_rfl) ?_ hHeld ?_
      rotate_left
      · intro w1 hSw; (try dsimp only at hSw); go_simp <;> with_reducible rfl
      try simp only [zz]
      refine tk 2 56 ?_ rfl (by kernel_rfl) (fun _ _ _ h => h) (by kernel_rfl) ?_ hHeld ?_
      rotate_left
      · intro w1 hSw; (try dsimp only at hSw); go_simp <;> with_reducible rfl
      try simp only [zz]
      refine tk 3 57 (.agg #[.int .i64 sa, .int .i64 sb, .int .i64 sc, .int .i64 sd, .int .i64 sx, .int .i64 sy]) rfl (by kernel_rfl) (fun _ _ _ h => h) (by kernel_rfl) (fun V hV => ex_SgR _ rfl b0 o0 rfl (HC.out V hV).1 (HC.out V hV).2.1 (HC.out V hV).2.2.1 (HC.out V hV).2.2.2.1 (HC.out V hV).2.2.2.2.1 (HC.out V hV).2.2.2.2.2) hHeld ?_
      try simp only [zz]
      refine st1 4 (by kernel_rfl) rfl (fun K hK => ?_)
      go_simp
      go_at_call 16
      refine (hTr2.out _).mono ?_
      rintro e v4 ⟨rfl, hb4⟩
      have hz4 := hb4.size
      try simp only [World.size_alloc, size_drewT] at hz4
      try go_simp
      refine hK.out _ _ ?_ (fun hHeld => ?_)
      · exact hHeld.trans (hb4.mono hHeld.size)
      clear hK K
      try simp only [zz]
      refine tk 5 53 ?_ rfl (by kernel_rfl) (fun _ _ _ h => h) (by kernel_rfl) ?_ hHeld ?_
      rotate_left
      · intro w1 hSw; (try dsimp only at hSw); go_simp <;> with_reducible rfl
      try simp only [zz]
      refine tk 6 59 ?_ rfl (by kernel_rfl) (fun _ _ _ h => h) (by kernel_rfl) ?_ hHeld ?_
      rotate_left
      · intro w1 hSw; (try dsimp only at hSw); go_simp <;> with_reducible rfl
      try simp only [zz]
      refine tk 7 60 ?_ rfl (by kernel_rfl) (fun _ _ _ h => h) (by kernel_rfl) ?_ hHeld ?_
      rotate_left
      · intro w1 hSw; (try dsimp only at hSw); go_simp <;> with_reducible rfl
      try simp only [zz]
      refine tk 8 12 ?_ rfl (by kernel_rfl) (fun _ _ _ h => h) (by kernel_rfl) ?_ hHeld ?_
      rotate_left
      · intro w1 hSw; (try dsimp only at hSw); go_simp <;> with_reducible rfl
      try simp only [zz]
      refine tk 9 13 ?_ rfl (by kernel_rfl) (fun _ _ _ h => h) (by kernel_rfl) ?_ hHeld ?_
      rotate_left
      · intro w1 hSw; (try dsimp only at hSw); go_simp <;> with_reducible rfl
      try simp only [zz]
      refine wpAnyH_done (by kernel_rfl) ?_ _
      go_wp2_with fail
      go_meet
      exact ⟨rfl, rfl, Lib.hid (HK.out.old hHeld)⟩
     case rest =>
     clear HC
     clear HK
     obtain ⟨rfl, rfl, HK⟩ := hcut
     go_wp2_with fail
     go_meet
     exact ⟨rfl, rfl, HK⟩
    case false =>
     obtain ⟨rfl, rfl⟩ := hz1.out (by have h := hzE.out; simpa using h)
     go_wp2_with fail
     go_meet
     exact ⟨rfl, rfl, HK⟩
   case rest =>
   clear HK
   obtain ⟨rfl, rfl, HK⟩ := hcut
   go_upto_region 12 with fail
   go_cut [73] from 61 to 72 (fun s73 wx => s73 = .bool false ∧ Hid (KpT w [((w.heap.size + 1), 26, [.int .i64 lag, .int .i64 start]), (w.heap.size, 25, [.int .i64 rs, .int .i64 rf, .int .i64 rl, .int .i64 ra, .int .i64 rb])] [((some ⟨b0, o0, none⟩), SC)] wx))
   case first =>
    have HV := HK
    have hfl : (FL.toList == FL.toList) = true := by simp
    go_wp2_with fail
    go_meet
    exact ⟨rfl, HV⟩
   case rest =>
   clear HK
   obtain ⟨rfl, HK⟩ := hcut
   go_wp2_with fail
   go_meet
   exact HK
  case false =>
   clear hq hTd hCs hTr
   go_wp2_with fail
   go_meet
   exact HK
 case rest =>
 clear HK hq hTd hCs hTr hz1 hE1
 have HK := hcut
 clear hcut
 go_upto_region 14 with fail
 go_cut [14, 15] from 74 to 84 (fun s14 s15 wx => ∃ Af cf, s14 = .slice Af FN cf ∧ s15 = .int .i64 E2 ∧ Hid (KpT w [((w.heap.size + 1), 26, [.int .i64 lag, .int .i64 start]), (w.heap.size, 25, [.int .i64 rs, .int .i64 rf, .int .i64 rl, .int .i64 ra, .int .i64 rb])] [(Af, (ints FLs)), (A, SC)] wx))
 case first =>
  refine wp_region_held_drew (S := fun V => Below wc.heap.size wc V) (by kernel_rfl) ?_ (fun hHeld => ?_)
  · exact (Below.refl _ _).drew
  refine tk 0 75 (.agg #[.int .i64 rs, .int .i64 rf, .int .i64 rl, .int .i64 ra, .int .i64 rb]) rfl (by kernel_rfl) (fun _ _ _ h => h) (by kernel_rfl) (fun V hV => ex_rowT 25 _ rfl (w.heap.size) rfl 25 [.int .i64 rs, .int .i64 rf, .int .i64 rl, .int .i64 ra, .int .i64 rb] _ Tryz.underlying25 rfl (by kernel_rfl) ((HK.out.old hV).row w.heap.size 25 [.int .i64 rs, .int .i64 rf, .int .i64 rl, .int .i64 ra, .int .i64 rb] (.tail _ (.head _)))) hHeld ?_
  try simp only [zz]
  refine tk 1 76 ?_ rfl (by kernel_rfl) (fun _ _ _ h => h) (by kernel_rfl) ?_ hHeld ?_
  rotate_left
  · intro w1 hSw; (try dsimp only at hSw); go_simp <;> with_reducible rfl
  try simp only [zz]
  refine tk 2 77 ?_ rfl (by kernel_rfl) (fun _ _ _ h => h) (by kernel_rfl) ?_ hHeld ?_
  rotate_left
  · intro w1 hSw; (try dsimp only at hSw); have cc := (((HK.out.old hSw).row (w.heap.size + 1) 26 [.int .i64 lag, .int .i64 start] (.head _))).cell 0; simp only [List.getElem?_cons_succ, List.getElem?_cons_zero] at cc; go_simp <;> with_reducible rfl
  try simp only [zz]
  refine tk 3 78 ?_ rfl (by kernel_rfl) (fun _ _ _ h => h) (by kernel_rfl) ?_ hHeld ?_
  rotate_left
  · intro w1 hSw; (try dsimp only at hSw); go_simp <;> with_reducible rfl
  try simp only [zz]
  refine tk 4 79 ?_ rfl (by kernel_rfl) (fun _ _ _ h => h) (by kernel_rfl) ?_ hHeld ?_
  rotate_left
  · intro w1 hSw; (try dsimp only at hSw); have cc := (((HK.out.old hSw).row (w.heap.size + 1) 26 [.int .i64 lag, .int .i64 start] (.head _))).cell 1; simp only [List.getElem?_cons_succ, List.getElem?_cons_zero] at cc; go_simp <;> with_reducible rfl
  try simp only [zz]
  refine tk 5 80 ?_ rfl (by kernel_rfl) (fun _ _ _ h => h) (by kernel_rfl) ?_ hHeld ?_
  rotate_left
  · intro w1 hSw; (try dsimp only at hSw); go_simp <;> with_reducible rfl
  try simp only [zz]
  refine st1 6 (by kernel_rfl) rfl (fun K hK => ?_)
  go_simp
  go_at_call 18
  refine (hSg.out _ ((HK.out.old hHeld).rd A SC (.head _))).mono ?_
  rintro e v6 ⟨As, cs, rfl, hFs, hb6⟩
  have hz6 := hb6.size
  try simp only [World.size_alloc, size_drewT] at hz6
  try go_simp
  refine hK.out _ _ ?_ (fun hHeld => ?_)
  · exact hHeld.trans (hb6.mono hHeld.size)
  clear hK K
  try simp only [zz]
  refine st1 7 (by kernel_rfl) rfl (fun K hK => ?_)
  go_simp
  go_at_call 17
  refine (hFo.out _ _ _ hFs).mono ?_
  rintro e v7 ⟨Af, cf, rfl, hF, hb7⟩
  have hz7 := hb7.size
  try simp only [World.size_alloc, size_drewT] at hz7
  try go_simp
  refine hK.out _ _ ?_ (fun hHeld => ?_)
  · exact hHeld.trans (hb7.mono hHeld.size)
  clear hK K
  try simp only [zz]
  refine tk 8 74 ?_ rfl (by kernel_rfl) (fun _ _ _ h => h) (by kernel_rfl) ?_ hHeld ?_
  rotate_left
  · intro w1 hSw; (try dsimp only at hSw); go_simp <;> with_reducible rfl
  try simp only [zz]
  refine tk 9 83 ?_ rfl (by kernel_rfl) (fun _ _ _ h => h) (by kernel_rfl) ?_ hHeld ?_
  rotate_left
  · intro w1 hSw; (try dsimp only at hSw); go_simp <;> with_reducible rfl
  try simp only [zz]
  refine tk 10 84 ?_ rfl (by kernel_rfl) (fun _ _ _ h => h) (by kernel_rfl) ?_ hHeld ?_
  rotate_left
  · intro w1 hSw; (try dsimp only at hSw); go_simp <;> with_reducible rfl
  try simp only [zz]
  refine tk 11 14 ?_ rfl (by kernel_rfl) (fun _ _ _ h => h) (by kernel_rfl) ?_ hHeld ?_
  rotate_left
  · intro w1 hSw; (try dsimp only at hSw); go_simp <;> with_reducible rfl
  try simp only [zz]
  refine tk 12 15 ?_ rfl (by kernel_rfl) (fun _ _ _ h => h) (by kernel_rfl) ?_ hHeld ?_
  rotate_left
  · intro w1 hSw; (try dsimp only at hSw); go_simp <;> with_reducible rfl
  try simp only [zz]
  refine wpAnyH_done (by kernel_rfl) ?_ _
  go_wp2_with fail
  go_meet
  exact ⟨Af, cf, rfl, rfl, Lib.hid (KpT.rcons (HK.out.old hHeld) hF)⟩
 case rest =>
 clear HK
 obtain ⟨Af, cf, rfl, rfl, HK⟩ := hcut
 go_upto_region 15 with fail
 go_cut [16] from 85 to 94 (fun s16 wx => s16 = .int .i64 E2 ∧ Hid (KpT w [((w.heap.size + 1), 26, [.int .i64 lag, .int .i64 start]), (w.heap.size, 25, [.int .i64 rs, .int .i64 rf, .int .i64 rl, .int .i64 ra, .int .i64 rb])] [(Af, (ints FLs)), (A, SC)] wx))
 case first =>
  have HV := HK
  have R4 := (HK.out.row (w.heap.size + 1) 26 [.int .i64 lag, .int .i64 start] (.head _))
  have c0 := R4.cell 0; have c1 := R4.cell 1
  simp only [List.getElem?_cons_succ, List.getElem?_cons_zero] at c0 c1
  clear R4
  go_wp2_with (first
   | (refine wpList_load_row rfl 25 _ rfl w.heap.size rfl 25 #[.int .i64 rs, .int .i64 rf, .int .i64 rl, .int .i64 ra, .int .i64 rb] (0, 0) _ (HV.out.row w.heap.size 25 [.int .i64 rs, .int .i64 rf, .int .i64 rl, .int .i64 ra, .int .i64 rb] (.tail _ (.head _))) Tryz.underlying25 rfl ?_ ?_; (kernel_rfl))
   | (go_at_call 19; refine (hLg.out _).mono ?_; rintro e w2 ⟨rfl, hb⟩; replace HV := Lib.hid (HV.out.old hb); clear hb)
   | (go_at_call 20; refine (hSs.out _ (HV.out.rd A SC (.tail _ (.head _)))).mono ?_; rintro e w2 ⟨rfl, hb⟩; replace HV := Lib.hid (HV.out.old hb); clear hb)
   | (go_at_call 14; refine (calls_intE (first_any _ _ _ [E3, E4] _ (by exact Rd.row (t := 3) (Row.new _ _ _)) rfl (by simp)) hE2.out).mono ?_; rintro e w4 ⟨rfl, rfl⟩))
  go_meet
  exact ⟨rfl, Lib.hid (HV.out.old ((Below.refl _ _).alloc (Nat.le_refl _) _))⟩
 case rest =>
 clear HK
 obtain ⟨rfl, HK⟩ := hcut
 go_upto_if 96 with fail
 go_cut [17] from 95 to 103 (fun s17 wx => ∃ Ar cr, s17 = .slice Ar FN cr ∧ Hid (KpT w [((w.heap.size + 1), 26, [.int .i64 lag, .int .i64 start]), (w.heap.size, 25, [.int .i64 rs, .int .i64 rf, .int .i64 rl, .int .i64 ra, .int .i64 rb])] [(Ar, (ints FLs)), (Af, (ints FLs)), (A, SC)] wx))
 case first =>
  by_cases h0 : E2 = 0
  · have hFr2 := Lib.hid (hFr.out h0)
    have hz : (E2 == 0) = true := by simpa using h0
    clear h0
    have HV := HK
    have R4 := (HK.out.row (w.heap.size + 1) 26 [.int .i64 lag, .int .i64 start] (.head _))
    have c0 := R4.cell 0; have c1 := R4.cell 1
    simp only [List.getElem?_cons_succ, List.getElem?_cons_zero] at c0 c1
    clear R4
    go_wp2_with (first | (refine wpList_load_row rfl 25 _ rfl w.heap.size rfl 25 #[.int .i64 rs, .int .i64 rf, .int .i64 rl, .int .i64 ra, .int .i64 rb] (0, 0) _ (HV.out.row w.heap.size 25 [.int .i64 rs, .int .i64 rf, .int .i64 rl, .int .i64 ra, .int .i64 rb] (.tail _ (.head _))) Tryz.underlying25 rfl ?_ ?_; (kernel_rfl)) | (go_at_call 21; refine (hFr2.out _ (HV.out.rd A SC (.tail _ (.head _)))).mono ?_; rintro e w2 ⟨Ar, cr, rfl, hF, hb⟩; have HV2 := Lib.hid (KpT.rcons (HV.out.old hb) hF); clear hb))
    go_meet
    exact ⟨_, _, rfl, HV2⟩
  · have hz : (E2 == 0) = false := by simpa using h0
    obtain ⟨rfl, rfl⟩ := hz2.out h0
    clear h0
    go_wp2_with fail
    go_meet
    exact ⟨none, 0, rfl, Lib.hid (KpT.rcons HK.out (fun j v hv => by simp [ints] at hv))⟩
 case rest =>
 clear HK hFr hz2
 obtain ⟨Ar, cr, rfl, HK⟩ := hcut
 go_wp2_with (go_at_call 22; refine (sameInts_any _ _ _ _ _ _ FLs FLs _ (HK.out.rd Af (ints FLs) (.tail _ (.head _))) (HK.out.rd Ar (ints FLs) (.head _)) hFN.out hFN.out (by have := hFm.out; omega) (by have := hFm.out; omega)).mono ?_; rintro e w9 ⟨rfl, q9, rfl⟩; rw [decide_eq_true (rfl : FLs = FLs)])
 go_ret
 exact ⟨rfl, (HK.out.drewN q9).2.2.2⟩
set_option maxRecDepth 100000 in
set_option maxHeartbeats 1000000 in
theorem followed_badM (rs rf rl ra rb lag start E : Int) (A : Option Addr) (c : Nat) (L : List Sg) (w : World) (hA : Rd w A (sgC L)) (hL : L.length ≤ 1000000) (m : Int) (hm : IntKind.i64.wrap (-rf) = m) (hE : E = firstI [recE rs rf rl ra rb, whenI (rangeB lag 1 16) 3, whenI (rangeB start m rf) 3, sgsE L]) (h0 : E ≠ 0) : Calls Tryz.prog 17 #[.agg #[.int .i64 rs, .int .i64 rf, .int .i64 rl, .int .i64 ra, .int .i64 rb], .int .i64 lag, .int .i64 start, .slice A L.length c] w fun e w' => e = .returned (.tuple #[.slice none 0 0, .int .i64 E]) ∧ Below w.heap.size w w' := by
 have HA := Lib.hid hA
 have HC1 : Hid (∀ W, Calls Tryz.prog 12 #[.agg #[.int .i64 rs, .int .i64 rf, .int .i64 rl, .int .i64 ra, .int .i64 rb]] W fun e w' => e = .returned (.int .i64 (recE rs rf rl ra rb)) ∧ Below W.heap.size W w') := fun W => checkReceiver_any rs rf rl ra rb W
 have HC4 : Hid (∀ W, Below w.heap.size w W → Calls Tryz.prog 73 #[.slice A L.length c] W fun e w' => e = .returned (.int .i64 (sgsE L)) ∧ Below W.heap.size W w') := fun W hW => checkSignals_any A c L W (hA.below hW) hL
 obtain ⟨E1, hE1⟩ : ∃ E1, E1 = recE rs rf rl ra rb := ⟨_, rfl⟩
 obtain ⟨E4, hE4⟩ : ∃ E4, E4 = sgsE L := ⟨_, rfl⟩
 obtain ⟨E2, hE2⟩ : ∃ E2, E2 = whenI (rangeB lag 1 16) 3 := ⟨_, rfl⟩
 obtain ⟨E3, hE3⟩ : ∃ E3, E3 = whenI (rangeB start m rf) 3 := ⟨_, rfl⟩
 have HC2 : Hid (∀ W, Calls Tryz.prog 62 #[.int .i64 lag, .int .i64 1, .int .i64 16] W fun e w' => e = .returned (.int .i64 E2) ∧ W = w') := fun W => by rw [hE2]; exact between_any lag 1 16 W
 have HC3 : Hid (∀ W, Calls Tryz.prog 62 #[.int .i64 start, .int .i64 m, .int .i64 rf] W fun e w' => e = .returned (.int .i64 E3) ∧ W = w') := fun W => by rw [hE3]; exact between_any start m rf W
 rw [← hE1] at HC1 hE
 rw [← hE4] at HC4 hE
 rw [← hE2, ← hE3] at hE
 have HE := Lib.hid hE
 have hne : (E == 0) = false := by simpa using h0
 have hne2 : (E != 0) = true := by simpa using h0
 have ew := hm
 clear hE hE1 hE2 hE3 hE4 h0 hA
 go_enter Tryz.func17, Tryz.ntmps17
 go_upto_region 1 with fail
 refine genT (fun V => Row V (w.heap.size) 33 [.int .i64 rs, .int .i64 rf, .int .i64 rl, .int .i64 ra, .int .i64 rb] ∧ Row V (w.heap.size + 1) 3 [.int .i64 lag] ∧ Below w.heap.size w V) ⟨(Row.alloc (rowAt _ _ (by first | rfl | simp only [World.size_alloc])) _), (rowAt _ _ (by first | rfl | simp only [World.size_alloc])), (((Below.refl _ _).alloc (by first | exact Nat.le_refl _ | (simp only [World.size_alloc]; omega)) _).alloc (by first | exact Nat.le_refl _ | (simp only [World.size_alloc]; omega)) _)⟩ ?_
 intro W1 s1
 have HS1 := Lib.hid s1
 clear s1
 refine wp_region_held_drew (S := fun V => Row V (w.heap.size) 33 [.int .i64 rs, .int .i64 rf, .int .i64 rl, .int .i64 ra, .int .i64 rb] ∧ Row V (w.heap.size + 1) 3 [.int .i64 lag] ∧ Below w.heap.size w V) (by kernel_rfl) ?_ (fun hHeld => ?_)
 · exact ⟨(HS1.out.1).drew, (HS1.out.2.1).drew, (HS1.out.2.2).drew⟩
 refine tk 0 16 (.agg #[.int .i64 rs, .int .i64 rf, .int .i64 rl, .int .i64 ra, .int .i64 rb]) rfl (by kernel_rfl) (fun _ _ _ h => h) (by kernel_rfl) (fun V hV => ex_rowT 33 _ rfl (w.heap.size) rfl 33 [.int .i64 rs, .int .i64 rf, .int .i64 rl, .int .i64 ra, .int .i64 rb] _ Tryz.underlying33 rfl (by kernel_rfl) (hV.1)) hHeld ?_
 try simp only [zz]
 refine tk 2 18 ?_ rfl (by kernel_rfl) (fun _ _ _ h => h) (by kernel_rfl) ?_ hHeld ?_
 rotate_left
 · intro w1 hSw; (try dsimp only at hSw); have cc := (hSw.2.1).cell 0; simp only [List.getElem?_cons_succ, List.getElem?_cons_zero] at cc; go_simp <;> with_reducible rfl
 try simp only [zz]
 refine tk 4 20 ?_ rfl (by kernel_rfl) (fun _ _ _ h => h) (by kernel_rfl) ?_ hHeld ?_
 rotate_left
 · intro w1 hSw; (try dsimp only at hSw); go_simp <;> with_reducible rfl
 try simp only [zz]
 refine tk 5 21 ?_ rfl (by kernel_rfl) (fun _ _ _ h => h) (by kernel_rfl) ?_ hHeld ?_
 rotate_left
 · intro w1 hSw; (try dsimp only at hSw); go_simp <;> with_reducible rfl
 try simp only [zz]
 refine tk 6 22 ?_ rfl (by kernel_rfl) (fun _ _ _ h => h) (by kernel_rfl) ?_ hHeld ?_
 rotate_left
 · intro w1 hSw; (try dsimp only at hSw); have cc := (hSw.1).cell 1; simp only [List.getElem?_cons_succ, List.getElem?_cons_zero] at cc; go_simp <;> with_reducible rfl
 try simp only [zz]
 refine tk 7 23 ?_ rfl (by kernel_rfl) (fun _ _ _ h => h) (by kernel_rfl) ?_ hHeld ?_
 rotate_left
 · intro w1 hSw; (try dsimp only at hSw); go_simp <;> with_reducible rfl
 try simp only [zz]
 refine tk 8 24 ?_ rfl (by kernel_rfl) (fun _ _ _ h => h) (by kernel_rfl) ?_ hHeld ?_
 rotate_left
 · intro w1 hSw; (try dsimp only at hSw); go_simp <;> with_reducible rfl
 try simp only [zz]
 refine tk 9 25 ?_ rfl (by kernel_rfl) (fun _ _ _ h => h) (by kernel_rfl) ?_ hHeld ?_
 rotate_left
 · intro w1 hSw; (try dsimp only at hSw); have cc := (hSw.1).cell 1; simp only [List.getElem?_cons_succ, List.getElem?_cons_zero] at cc; go_simp <;> with_reducible rfl
 try simp only [zz]
 refine tk 11 27 ?_ rfl (by kernel_rfl) (fun _ _ _ h => h) (by kernel_rfl) ?_ hHeld ?_
 rotate_left
 · intro w1 hSw; (try dsimp only at hSw); go_simp <;> with_reducible rfl
 try simp only [zz]
 refine st1 1 (by kernel_rfl) rfl (fun K hK => ?_)
 go_simp
 go_at_call 12
 refine (HC1.out _).mono ?_
 rintro e v1 ⟨rfl, hb1⟩
 try go_simp
 refine hK.out _ _ ?_ (fun hHeld => ?_)
 · exact ⟨(hHeld.1).old hb1, (hHeld.2.1).old hb1, (hHeld.2.2).trans ((hb1).mono (hHeld.2.2).size)⟩
 clear hK K
 try simp only [zz]
 refine st1 3 (by kernel_rfl) rfl (fun K hK => ?_)
 go_simp
 go_at_call 62
 refine (HC2.out _).mono ?_
 rintro e v3 ⟨rfl, rfl⟩
 try go_simp
 refine hK.out _ _ ?_ (fun hHeld => ?_)
 · exact hHeld
 clear hK K
 try simp only [zz]
 refine st1 10 (by kernel_rfl) rfl (fun K hK => ?_)
 go_simp
 go_at_call 62
 refine (HC3.out _).mono ?_
 rintro e v10 ⟨rfl, rfl⟩
 try go_simp
 refine hK.out _ _ ?_ (fun hHeld => ?_)
 · exact hHeld
 clear hK K
 try simp only [zz]
 refine st1 12 (by kernel_rfl) rfl (fun K hK => ?_)
 go_simp
 go_at_call 73
 refine (HC4.out _ (hHeld.2.2)).mono ?_
 rintro e v12 ⟨rfl, hb12⟩
 try go_simp
 refine hK.out _ _ ?_ (fun hHeld => ?_)
 · exact ⟨(hHeld.1).old hb12, (hHeld.2.1).old hb12, (hHeld.2.2).trans ((hb12).mono (hHeld.2.2).size)⟩
 clear hK K
 try simp only [zz]
 refine st1 13 (by kernel_rfl) rfl (fun K hK => ?_)
 go_simp
 refine hK.out _ _ ?_ (fun hHeld => ?_)
 · exact ⟨(hHeld.1).old ((Below.refl _ _).alloc (Nat.le_refl _) _), (hHeld.2.1).old ((Below.refl _ _).alloc (Nat.le_refl _) _), (hHeld.2.2).trans ((((Below.refl _ _).alloc (Nat.le_refl _) _)).mono (hHeld.2.2).size)⟩
 clear hK K
 try simp only [zz]
 refine st1 14 (by kernel_rfl) rfl (fun K hK => ?_)
 go_simp
 go_at_call 61
 refine (firstV_any _ _ _ [E1, E2, E3, E4] _ ?_ rfl (by simp)).mono ?_
 · exact Rd.newT (t := 31)
 rintro e v13 ⟨rfl, rfl⟩
 try go_simp
 refine hK.out _ _ ?_ (fun hHeld => ?_)
 · exact hHeld
 clear hK K
 try simp only [zz]
 refine tk 15 10 ?_ rfl (by kernel_rfl) (fun _ _ _ h => h) (by kernel_rfl) ?_ hHeld ?_
 rotate_left
 · intro w1 hSw; (try dsimp only at hSw); go_simp <;> with_reducible rfl
 try simp only [zz]
 refine wpAnyH_done (by kernel_rfl) ?_ _
 rw [← HE.out]
 clear HC1 HC2 HC3 HC4 HE ew
 have HB := Lib.hid hHeld.2.2
 clear hHeld
 go_wp2_with fail
 go_ret2
 exact ⟨rfl, HB.out⟩
set_option maxRecDepth 100000 in
set_option maxHeartbeats 4000000 in
theorem toneReceivers_any (rs rf rl ra rb lag start : Int) (A : Option Addr) (c : Nat) (L : List Sg) (w : World) (hA : AwT w) (hL : Rd w A (sgC L)) : Calls Tryz.prog 3 #[.agg #[.int .i64 rs, .int .i64 rf, .int .i64 rl, .int .i64 ra, .int .i64 rb], .agg #[.int .i64 lag, .int .i64 start], .slice A L.length c] w fun e w' => e = .returned (.bool true) ∧ Below w.heap.size w w' := by
 cases hsh : (decide (L.length ≤ 20) || decide (L.length = 257))
 · exact receivers_out rs rf rl ra rb lag start A L.length c (sgC L) w hA hL hsh
 · have hm : L.length ≤ 257 := by
    rw [Bool.or_eq_true, decide_eq_true_eq, decide_eq_true_eq] at hsh
    omega
   obtain ⟨s0, hs0⟩ : ∃ s0, s0 = L.headD ⟨0, 0, 0, 0, 0, 0⟩ := ⟨_, rfl⟩
   have hcons : 0 < L.length → ∃ L', L = s0 :: L' := fun h => by
    cases L with
    | nil => exact absurd h (Nat.lt_irrefl 0)
    | cons s L' => exact ⟨L', by rw [hs0]; rfl⟩
   have hq : 0 < L.length → (sgC L)[0]? = some (.int .i64 s0.a) ∧ (sgC L)[1]? = some (.int .i64 s0.b) ∧ (sgC L)[2]? = some (.int .i64 s0.c) ∧ (sgC L)[3]? = some (.int .i64 s0.d) ∧ (sgC L)[4]? = some (.int .i64 s0.x) ∧ (sgC L)[5]? = some (.int .i64 s0.y) := fun h => by
    obtain ⟨L', rfl⟩ := hcons h
    exact ⟨rfl, rfl, rfl, rfl, rfl, rfl⟩
   obtain ⟨m, hmm⟩ : ∃ m, IntKind.i64.wrap (-rf) = m := ⟨_, rfl⟩
   have hmr : recE rs rf rl ra rb = 0 → m = -rf := fun h => by
    have g := (rec_good h).f
    rw [← hmm]
    exact IntWalk.i64_in _ (by omega)
   -- the errors
   have hE2 : firstI [recE rs rf rl ra rb, whenI (rangeB lag 1 16) 3, whenI (rangeB start m rf) 3, sgsE L] = firstI [firstI [recE rs rf rl ra rb, whenI (rangeB lag 1 16) 3, whenI (rangeB start (-rf) rf) 3], sgsE L] := by
    rw [firstI_left]
    by_cases h : recE rs rf rl ra rb = 0
    · rw [hmr h]; rfl
    · show firstI [recE rs rf rl ra rb, whenI (rangeB lag 1 16) 3, whenI (rangeB start m rf) 3, sgsE L] = firstI [recE rs rf rl ra rb, whenI (rangeB lag 1 16) 3, whenI (rangeB start (-rf) rf) 3, sgsE L]
      rw [firstI, if_neg h, firstI, if_neg h]
   obtain ⟨E2, hE2'⟩ : ∃ E2, firstI [firstI [recE rs rf rl ra rb, whenI (rangeB lag 1 16) 3, whenI (rangeB start (-rf) rf) 3], sgsE L] = E2 := ⟨_, rfl⟩
   obtain ⟨E1, hE1⟩ : ∃ E1, firstI [recE rs rf rl ra rb, sgE s0] = E1 := ⟨_, rfl⟩
   have hgood : E2 = 0 → RecG rs rf rl ra rb ∧ (1 ≤ lag ∧ lag ≤ 16) ∧ (-rf ≤ start ∧ start ≤ rf) ∧ sgsE L = 0 := fun h => by
    rw [← hE2', ← hE2] at h
    obtain ⟨h1, h2, h3, h4⟩ := fI4b h
    have h2 := whenZ (by decide) h2
    have h3 := whenZ (by decide) h3
    rw [hmr h1] at h3
    unfold rangeB at h2 h3
    simp only [Bool.or_eq_false_iff, decide_eq_false_iff_not] at h2 h3
    exact ⟨rec_good h1, by omega, by omega, h4⟩
   have hsgs : sgsE L = 0 → (∀ s ∈ L, SigG s.a s.b s.c s.d s.x s.y) ∧ 0 < L.length ∧ L.length ≤ 256 := fun h => ⟨(sgs_good h).2.2, (sgs_good h).1, (sgs_good h).2.1⟩
   have hlen : (foL rs rf rl ra rb lag start L).length = L.length := by simp [foL]
   have hTd : ∃ (TN : Int) (FL : ByteArray), (0 < L.length → ∀ W, Calls Tryz.prog 13 #[.agg #[.int .i64 rs, .int .i64 rf, .int .i64 rl, .int .i64 ra, .int .i64 rb], .agg #[.int .i64 s0.a, .int .i64 s0.b, .int .i64 s0.c, .int .i64 s0.d, .int .i64 s0.x, .int .i64 s0.y]] W fun e w' => e = .returned (.tuple #[.int .i64 TN, .string FL, .int .i64 E1]) ∧ Below W.heap.size W w') ∧ (0 < L.length → E1 = 0 → ∀ W, Calls Tryz.prog 16 #[.agg #[.int .i64 rs, .int .i64 rf, .int .i64 rl, .int .i64 ra, .int .i64 rb], .agg #[.int .i64 s0.a, .int .i64 s0.b, .int .i64 s0.c, .int .i64 s0.d, .int .i64 s0.x, .int .i64 s0.y]] W fun e w' => e = .returned (.tuple #[.int .i64 TN, .string FL]) ∧ Below W.heap.size W w') ∧ (E1 ≠ 0 → TN = 0 ∧ FL = ⟨#[]⟩) := by
    by_cases h : E1 = 0
    · have h2 := h
      rw [← hE1] at h2
      obtain ⟨h3, h4⟩ := fI2 h2
      have hR := rec_good h3; have hS := sgG h4
      refine ⟨tvS rs rf rl ra rb s0, flS rl ra rb s0, fun _ W => ?_, fun _ _ W => toldR_sg rs rf rl ra rb s0 W hR hS, fun hn => absurd h hn⟩
      have k := toldT_ok rs rf rl ra rb s0.a s0.b s0.c s0.d s0.x s0.y E1 W hE1.symm h _ _ (fun W => told_sg rs rf rl ra rb s0 W hR hS)
      rw [h]
      exact k
    · exact ⟨0, ⟨#[]⟩, fun _ W => toldT_bad rs rf rl ra rb s0.a s0.b s0.c s0.d s0.x s0.y E1 W hE1.symm h, fun _ hn => absurd hn h, fun _ => ⟨rfl, rfl⟩⟩
   obtain ⟨TN, FL, hT1, hT2, hT3⟩ := hTd
   have hSg : ∀ W, Rd W A (sgC L) → Calls Tryz.prog 18 #[.slice A L.length c] W fun e w' => ∃ As cs, e = .returned (.slice As L.length cs) ∧ Rd w' As (sgC L) ∧ Below W.heap.size W w' := fun W hW =>
    (signals_any A c L W hW (by omega)).mono fun e w' ⟨v, h1, h2, h3⟩ => by
      obtain ⟨As, cs, rfl, hr⟩ := owned_sliceT h2
      exact ⟨As, cs, h1, hr, h3⟩
   have hFo : ∃ FLs : List Int, (∀ As cs W, Rd W As (sgC L) → Calls Tryz.prog 17 #[.agg #[.int .i64 rs, .int .i64 rf, .int .i64 rl, .int .i64 ra, .int .i64 rb], .int .i64 lag, .int .i64 start, .slice As L.length cs] W fun e w' => ∃ Af cf, e = .returned (.tuple #[.slice Af FLs.length cf, .int .i64 E2]) ∧ Rd w' Af (ints FLs) ∧ Below W.heap.size W w') ∧ (E2 = 0 → ∀ W, Rd W A (sgC L) → Calls Tryz.prog 21 #[.agg #[.int .i64 rs, .int .i64 rf, .int .i64 rl, .int .i64 ra, .int .i64 rb], .int .i64 lag, .int .i64 start, .slice A L.length c] W fun e w' => ∃ Ar cr, e = .returned (.slice Ar FLs.length cr) ∧ Rd w' Ar (ints FLs) ∧ Below W.heap.size W w') ∧ (E2 ≠ 0 → FLs = [] ∧ FLs.length = 0) ∧ FLs.length ≤ 1000000 := by
    by_cases h : E2 = 0
    · obtain ⟨hR, hl, hst, hs⟩ := hgood h
      obtain ⟨hg, hn⟩ := hsgs hs
      refine ⟨foL rs rf rl ra rb lag start L, fun As cs W hW => ?_, fun _ W hW => ?_, fun hn => absurd h hn, by omega⟩
      · rw [hlen, h]
        exact (followed_ok rs rf rl ra rb lag start E2 As cs L W hW (by omega) (by have := hR.f; omega) (by rw [← hE2', ← hE2, hmr (by have h9 := hE2.trans hE2'; rw [h] at h9; exact (fI4b h9).1)]) h hR hl hst hg hn).mono fun e w' ⟨g, h1, h2, _, h3⟩ => ⟨some ⟨g, 0, none⟩, L.length, h1, Rd.row h2, h3⟩
      · rw [hlen]
        exact (followedR_any rs rf rl ra rb lag start A c L W hW (by omega) hR hl hst hg).mono fun e w' ⟨v, h1, h2, h3⟩ => by
         obtain ⟨Ar, cr, rfl, hr⟩ := owned_sliceT h2
         exact ⟨Ar, cr, h1, hr, h3⟩
    · refine ⟨[], fun As cs W hW => ?_, fun hn => absurd hn h, fun _ => ⟨rfl, rfl⟩, by decide⟩
      exact (followed_badM rs rf rl ra rb lag start E2 As cs L W hW (by omega) m hmm (by rw [← hE2', ← hE2]) h).mono fun e w' ⟨h1, h2⟩ => ⟨none, 0, h1, fun j v hv => by simp [ints] at hv, h2⟩
   obtain ⟨FLs, hF1, hF2, hF3, hF4⟩ := hFo
   exact receivers_law rs rf rl ra rb lag start A L.length c (sgC L) s0.a s0.b s0.c s0.d s0.x s0.y TN (recE rs rf rl ra rb) E1 E2 (firstI [recE rs rf rl ra rb, whenI (rangeB lag 1 16) 3, whenI (rangeB start (-rf) rf) 3]) (sgsE L) (sgE s0) FL FLs.length FLs _ _ w hA hL hsh rfl rfl
    (fun W => checkReceiverR_any rs rf rl ra rb W) (fun W => checkReceiver_any rs rf rl ra rb W) hq hT1 (fun _ W => checkSignalR_any s0.a s0.b s0.c s0.d s0.x s0.y W) hE1 hT2 hT3 hSg hF1 (fun W => checkLagR_any rs rf rl ra rb lag start W) (fun W hW => checkSignalsR_any A c L W hW (by omega)) hE2' hF2 hF3 rfl hF4
end Go.Proofs.YtaeebedchbkniaaGreatDoor
