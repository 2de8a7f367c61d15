import Derived.Test.YtgbkblbfgknheaaGreatDoorTie
import Derived.Test.YtgbkblbfgknheaaGreatDoorCards
import Derived.ProofKit
import Derived.HandedShaped
import Derived.Carry
import Derived.ChangeOld
import Derived.PinnedBridge
import Derived.Lay
import Derived.Lib.LaidU8
import Derived.Shelf.Vars
import Derived.Deep.Slices
import Derived.Test.YtgbkblbfgknheaaGreatDoorM42
import Derived.Test.YtgbkblbfgknheaaGreatDoorM45
namespace Go.Proofs.YtgbkblbfgknheaaGreatDoor
set_option linter.all false
open Go.RowKit Go.ChangeShapes Go.WideShapes Go.ChangeAt Go.Lib
theorem returns_and_shaped {H : Type} {enc : TypeId × Value → H} {a : Assume} {C : Checked} {os : Os} {f : FuncId} {fn : Func} {s : ChangeSpec} {conds : List PathCond} {apart fresh handsOn again : Bool} {X : World → Array Value → Prop}
 (hX : ∀ (w w' : World) (args : Array Value), w.heap = w'.heap → X w args → X w' args)
 (own : ownKnob C.prog.godebug = none) (started : os.Started) (noInit : C.prog.inits.idxOf? f = none) (hfn : C.prog.funcs[f]? = some fn)
 (witness : ∃ (w : World) (tape : Tape) (i : Input), w.os = os ∧ (w.forCall tape i).Shaped C.prog ∧ i.vars = [] ∧ Input.okWide C.prog (w.forCall tape i) .any w.heap.size f i ∧
   ((s.pre enc C.prog fn conds apart (w.forCall tape i).memory i.args ∧ X (w.forCall tape i).memory i.args) ∧ sizedMet enc C.prog fn (OpenSpec.ofChange s) apart (w.forCall tape i).memory i.args) ∧ a.holds C.prog (lone (Frame.enter C.prog f i.args .normal) [] (w.forCall tape i)))
 (contract : ∀ (W : World) (base : Nat) (args : Array Value) (ds gs : List (DataW H)) (before : List MemPlace),
   (∀ (j : Nat) t v, fn.params[j]? = some t → args[j]? = some v → Value.okWide C.prog W .any base t v) →
   DataW.Whole enc C.prog fn.params.toList s.vars apart W args.toList ds gs before →
   X W args → W.ShapedOpen C.prog →
   Calls C.prog f args W fun e W' => ∃ v, e = .returned v ∧ s.post enc C.prog fn apart fresh handsOn again W args v W') :
 ReturnsInHanded a C os f .any (fun w args => (s.pre enc C.prog fn conds apart w args ∧ X w args) ∧ sizedMet enc C.prog fn (OpenSpec.ofChange s) apart w args) (s.post enc C.prog fn apart fresh handsOn again) := by
 refine returnsInHanded_of_calls own started noInit witness ?_
 intro w tape i _ hsh _ hok hpre hholds
 obtain ⟨_, _, _, fn', hfn', _, _, _, _, hval⟩ := hok
 have e : fn' = fn := Option.some.inj (hfn'.symm.trans hfn)
 subst e
 obtain ⟨⟨⟨ds, gs, before, hw, hc⟩, hx⟩, hz⟩ := hpre
 have hw' := DataW.Whole.of_heap (w' := w.forCall tape i) (by rfl) hw
 refine (contract (w.forCall tape i) w.heap.size i.args ds gs before hval hw' (hX _ _ _ (by rfl) hx) hsh).mono fun e W' ⟨v, he, hp⟩ => ?_
 subst he
 exact ChangeSpec.post_blind hp
theorem trodAll_below {H : Type} {enc : TypeId × Value → H} {P : Program} (hl : laidOutB P = true) {W W' : World} (hb : Below W.heap.size W W') :
 ∀ {ts : List TypeId} {vs : List Value} {ds : List (DataW H)} {ps : List MemPlace}, (∀ t ∈ ts, P.readableRec t = true ∧ t < P.types.size) → (∀ p ∈ ps, p.block < W.heap.size) →
   DataW.TrodAll enc P W 0 (fun _ => true) true ts vs ds ps → DataW.TrodAll enc P W' 0 (fun b => decide (b < W.heap.size)) true ts vs ds ps
 | [], [], [], _, _, _, h => h
 | t :: ts, v :: vs, d :: ds, _, hr, hlt, ⟨p, q, h, hs, e⟩ => by
   subst e
   exact ⟨p, q, Below.trod hl (hr t (List.mem_cons_self ..)).1 (hr t (List.mem_cons_self ..)).2 h hb (fun x hx => hlt x (List.mem_append_left _ hx)), trodAll_below hl hb (fun u hu => hr u (List.mem_cons_of_mem _ hu)) (fun x hx => hlt x (List.mem_append_right _ hx)) hs, rfl⟩
 | [], _ :: _, _, _, _, _, h => h.elim
 | [], [], _ :: _, _, _, _, h => h.elim
 | _ :: _, [], _, _, _, _, h => h.elim
 | _ :: _, _ :: _, [], _, _, _, h => h.elim
section
variable {P : Program} {W : World} {r : Reach} {b0 : Nat} {t : TypeId} {v : Value}
theorem ok_str (hu : P.underlying t = some .string) (h : Value.okWide P W r b0 t v) : ∃ s, v = .string s := by
 simp only [Value.okWide, hu, Cell.okWide, Cell.ok] at h
 cases v <;> simp_all
theorem ok_slice {e : TypeId} (hu : P.underlying t = some (.slice e)) (h : Value.okWide P W r b0 t v) : v = .slice none 0 0 ∨ ∃ b off len cap, v = .slice (some ⟨b, off, none⟩) len cap ∧ len ≤ cap := by
 simp only [Value.okWide, hu, Cell.okWide, Cell.ok] at h
 cases v with
 | slice a len cap =>
   cases a with
   | none =>
     left
     cases len <;> cases cap <;> simp_all
   | some a =>
     right
     obtain ⟨b, off, sp⟩ := a
     have h1 : len ≤ cap ∧ (cap : Int) ≤ IntKind.i64.max ∧ W.has P r b0 ⟨b, off, sp⟩ e cap := by simpa using h
     obtain ⟨-, hs, -⟩ := h1.2.2
     have hs' : sp = none := hs
     subst hs'
     exact ⟨b, off, len, cap, rfl, h1.1⟩
 | _ => simp_all
end
set_option maxRecDepth 100000 in
theorem awT_of {W : World} (h : laidMet Tryz.prog Rows.toneStringsRow.laid W) (hsh : W.ShapedOpen Tryz.prog) : AwT W := by
 refine ⟨?_, ?_, ?_⟩
 · obtain ⟨g, t, cs, fuel, p, hg, hty, hvar, hd⟩ := laidMet.reads h (n := "glideslope/common.turns") (d := Rows.laid_glideslope_common_turns) (by simp [Rows.toneStringsRow])
   obtain rfl := Option.some.inj ((show Tryz.prog.globalNamed "glideslope/common.turns" = some 0 by kernel_rfl).symm.trans hg)
   obtain rfl := Option.some.inj ((show (Tryz.prog.globals[0]?).map (·.type) = some 223 by kernel_rfl).symm.trans hty)
   intro j v hj
   rw [World.var?_cell hg hvar j, ← Array.getElem?_toList]
   have hel : ∀ i (zs : List Int), i < 4 → [([1, 0] : List Int), [0, 1], [-1, 0], [0, -1]][i]? = some zs → (cs.toList.drop (i * 2)).take 2 = zs.map fun z => Value.int .i64 z := fun i zs hi hzs => by
    obtain ⟨fuel', d, q, hdi, he⟩ := array_elem Tryz.underlying223 hd i hi
    have hd2 : d = .agg (zs.map fun z => .lit (.int .i64 z)) := by
     match i, hi with
     | 0, _ | 1, _ | 2, _ | 3, _ => simp at hzs hdi; subst hzs; exact hdi.symm
    subst hd2
    rw [show Tryz.prog.cellsOf 40 = 2 by kernel_rfl] at he
    exact ints_of_struct (k := .i64) Tryz.underlying40 (fun j f hj => by
     match j, hj with
     | 0, hj => simp at hj; subst hj; exact ⟨Tryz.underlying3, rfl, by kernel_rfl⟩
     | 1, hj => simp at hj; subst hj; exact ⟨Tryz.underlying3, rfl, by kernel_rfl⟩
     | j + 2, hj => simp at hj) (by kernel_rfl) he
   have hx : ∀ i k : Nat, i < 4 → k < 2 → cs.toList[i * 2 + k]? = ((([([1, 0] : List Int), [0, 1], [-1, 0], [0, -1]][i]?.getD []).map fun z => Value.int .i64 z))[k]? := fun i k hi hk => by
    obtain ⟨zs, hzs⟩ : ∃ zs, [([1, 0] : List Int), [0, 1], [-1, 0], [0, -1]][i]? = some zs := ⟨_, List.getElem?_eq_getElem (by simpa using hi)⟩
    rw [hzs, Option.getD_some, ← hel i zs hi hzs, List.getElem?_take_of_lt hk, List.getElem?_drop]
   have hj8 : j < 8 := by
    have := (List.getElem?_eq_some_iff.1 hj).1
    simpa using this
   have := hx (j / 2) (j % 2) (by omega) (Nat.mod_lt _ (by decide))
   rw [show j / 2 * 2 + j % 2 = j by omega] at this
   rw [this]
   match j, hj8 with
   | 0, _ | 1, _ | 2, _ | 3, _ | 4, _ | 5, _ | 6, _ | 7, _ => simp at hj; subst hj; rfl
 · obtain ⟨g, t, cs, fuel, p, hg, hty, hvar, hd⟩ := laidMet.reads h (n := "internal/strconv.uint64pow10") (d := Rows.laid_internal_strconv_uint64pow10) (by simp [Rows.toneStringsRow])
   obtain rfl := Option.some.inj ((show Tryz.prog.globalNamed "internal/strconv.uint64pow10" = some 2 by kernel_rfl).symm.trans hg)
   obtain rfl := Option.some.inj ((show (Tryz.prog.globals[2]?).map (·.type) = some 287 by kernel_rfl).symm.trans hty)
   have hcs := cells_of_tab (zs := pow10Tab) Tryz.underlying287 Tryz.underlying257 (by kernel_rfl) (by kernel_rfl) (show DataW.trod (fun _ => ()) Tryz.prog W 0 (fun _ => true) false fuel 287 cs.toList = some (tabData .u64 pow10Tab, p) from hd)
   show W.var? _ _ = _
   rw [hvar, ← hcs]
 · exact cell_of_shapedOpen_int (P := Tryz.prog) (g := 3) (t := 3) (zero := #[.int .i64 0]) hsh (of_decide_eq_true (by kernel_rfl)) (by kernel_rfl) rfl (by kernel_rfl) (by kernel_rfl) Tryz.underlying3
theorem own_knob : ownKnob Tryz.prog.godebug = none := by kernel_rfl
theorem laid_out : laidOutB Tryz.prog = true := by kernel_rfl
theorem law_shut {H : Type} {enc : TypeId × Value → H} {f : Func} {s : ChangeSpec} {W W' : World} {args : Array Value} {ds : List (DataW H)} {before : List MemPlace}
 (hW : DataW.Whole enc Tryz.prog f.params.toList s.vars false W args.toList ds [] before) (hv : s.vars = []) (hres : f.resultTypes = #[4])
 (hfn : s.fn H (ds ++ []) = { results := [.lit (.bool true)], args := ds }) (hr : ∀ t ∈ f.params.toList, Tryz.prog.readableRec t = true ∧ t < Tryz.prog.types.size) (hb : Below W.heap.size W W') :
 s.post enc Tryz.prog f false true false false W args (.bool true) W' := by
 have hlt := hW.lt
 have hW' := hW
 obtain ⟨p, q, hA, hV, rfl, _, _⟩ := hW
 refine ⟨ds, [], _, [], p, [], hW', ?_, ?_, ?_, hb.frame _, fun h => by cases h⟩
 · rw [hres, hfn]
   exact trodAll_mk1 (shut_bool Tryz.underlying4 _)
 · rw [hfn]
   exact trodAll_below laid_out hb hr (fun x hx => hlt x (List.mem_append_left _ hx)) hA
 · rw [hfn, hv]
   rfl
end Go.Proofs.YtgbkblbfgknheaaGreatDoor
namespace Go.Proofs.YtgbkblbfgknheaaGreatDoor
set_option linter.all false
open Go.RowKit Go.Fl
set_option maxRecDepth 100000 in
set_option maxHeartbeats 8000000 in
theorem strings_out (A : Option Addr) (N c : Nat) (SC : List Value) (s : ByteArray) (w : World) (hA : AwT w) (hSC : Rd w A SC) (hsh : (decide (N ≤ 20) || decide (N = 257)) = false) : Calls Tryz.prog 3 #[.slice A N c, .string s] w fun e w' => e = .returned (.bool true) ∧ Below w.heap.size w w' := by
 have HK : Hid (KpT w [] [(A, SC)] w) := Lib.hid ⟨hA, fun r h => (List.not_mem_nil h).elim, fun r h => by rw [List.mem_singleton.1 h]; exact hSC, Below.refl _ _⟩
 have HSH : Hid (∀ W, Calls Tryz.prog 8 #[.slice A N c] W fun e w' => e = .returned (.bool false) ∧ W = w') := fun W => by rw [← hsh]; exact shortR_any A N c W
 clear hsh
 clear hA
 go_enter Tryz.func3, Tryz.ntmps3
 go_upto_region 1 with fail
 refine genT (fun V => KpT w [] [(A, SC)] V) HK.out ?_
 clear HK
 intro wc s0
 have HK := Lib.hid s0
 clear s0
 have HV := HK
 go_upto_region 2 with (first | (go_at_call 7; refine (awake_ok _ HV.out.1).mono ?_; rintro e w2 ⟨rfl, hb⟩; replace HV := Lib.hid (HV.out.old hb); clear hb) | (go_at_call 8; refine (HSH.out _).mono ?_; rintro e w2b ⟨rfl, rfl⟩))
 go_wp2_with (first | (go_at_call 7; refine (awake_ok _ HV.out.1).mono ?_; rintro e w2 ⟨rfl, hb⟩; replace HV := Lib.hid (HV.out.old hb); clear hb))
 go_ret
 exact ⟨rfl, HV.out.2.2.2⟩
set_option maxRecDepth 100000 in
set_option maxHeartbeats 8000000 in
theorem strings_out2 (A : Option Addr) (N c : Nat) (SC : List Value) (s : ByteArray) (w : World) (hA : AwT w) (hSC : Rd w A SC) (hsh : (decide (N ≤ 20) || decide (N = 257)) = true) (h4 : 400 < s.size) (h5 : s.size ≠ 4097) : Calls Tryz.prog 3 #[.slice A N c, .string s] w fun e w' => e = .returned (.bool true) ∧ Below w.heap.size w w' := by
 have HK : Hid (KpT w [] [(A, SC)] w) := Lib.hid ⟨hA, fun r h => (List.not_mem_nil h).elim, fun r h => by rw [List.mem_singleton.1 h]; exact hSC, Below.refl _ _⟩
 have HSH : Hid (∀ W, Calls Tryz.prog 8 #[.slice A N c] W fun e w' => e = .returned (.bool true) ∧ W = w') := fun W => by rw [← hsh]; exact shortR_any A N c W
 clear hsh
 have j1 : (400 : Int) < (s.size : Int) := by omega
 have j2 : ((s.size : Int) != 4097) = true := by rw [bne_iff_ne]; omega
 clear h4 h5
 clear hA
 go_enter Tryz.func3, Tryz.ntmps3
 go_upto_region 1 with fail
 refine genT (fun V => KpT w [] [(A, SC)] V) HK.out ?_
 clear HK
 intro wc s0
 have HK := Lib.hid s0
 clear s0
 have HV := HK
 go_upto_region 2 with (first | (go_at_call 7; refine (awake_ok _ HV.out.1).mono ?_; rintro e w2 ⟨rfl, hb⟩; replace HV := Lib.hid (HV.out.old hb); clear hb) | (go_at_call 8; refine (HSH.out _).mono ?_; rintro e w2b ⟨rfl, rfl⟩))
 go_wp2_with (first | (go_at_call 7; refine (awake_ok _ HV.out.1).mono ?_; rintro e w2 ⟨rfl, hb⟩; replace HV := Lib.hid (HV.out.old hb); clear hb))
 go_ret
 exact ⟨rfl, HV.out.2.2.2⟩
set_option maxRecDepth 100000 in
set_option maxHeartbeats 16000000 in
theorem strings_law (A : Option Addr) (N c : Nat) (SC : List Value) (s : ByteArray) (TX : ByteArray) (i E0 E1 : Int) (XC : List Value) (XN : Nat) (w : World) (hA : AwT w) (hSC : Rd w A SC) (hsh : (decide (N ≤ 20) || decide (N = 257)) = true) (hsz : s.size ≤ 400 ∨ s.size = 4097) (hSg : ∀ W, Rd W A SC → Calls Tryz.prog 10 #[.slice A N c] W fun e w' => ∃ As cs, e = .returned (.slice As N cs) ∧ Rd w' As SC ∧ Below W.heap.size W w') (hPr : ∀ As cs W, AwT W → Rd W As SC → Calls Tryz.prog 9 #[.slice As N cs] W fun e w' => e = .returned (.tuple #[.string TX, .int .i64 E0]) ∧ Below W.heap.size W w') (hPa : ∀ W, AwT W → Calls Tryz.prog 11 #[.string s] W fun e w' => ∃ Ax cx, e = .returned (.tuple #[.slice Ax XN cx, .int .i64 i, .int .i64 E1]) ∧ Rd w' Ax XC ∧ Below W.heap.size W w') (hCs : ∀ W, Rd W A SC → Calls Tryz.prog 12 #[.slice A N c] W fun e w' => e = .returned (.int .i64 E0) ∧ Below W.heap.size W w') (hPr2 : E0 = 0 → ∀ W, Rd W A SC → Calls Tryz.prog 13 #[.slice A N c] W fun e w' => e = .returned (.string TX) ∧ Below W.heap.size W w') (hz : E0 ≠ 0 → TX = ⟨#[]⟩) (hPa2 : ∀ W, Calls Tryz.prog 14 #[.string s] W fun e w' => ∃ Ar cr, e = .returned (.tuple #[.slice Ar XN cr, .int .i64 i, .int .i64 E1]) ∧ Rd w' Ar XC ∧ Below W.heap.size W w') (hTo : ∀ Ax cx W, Rd W Ax XC → Calls Tryz.prog 16 #[.slice Ax XN cx] W fun e w' => ∃ At ct, e = .returned (.slice At XN ct) ∧ Rd w' At XC ∧ Below W.heap.size W w') (hSm : ∀ At ct Ar cr W, Rd W At XC → Rd W Ar XC → Calls Tryz.prog 15 #[.slice At XN ct, .slice Ar XN cr] W fun e w' => e = .returned (.bool true) ∧ ∃ q, w' = W.drewN q) : Calls Tryz.prog 3 #[.slice A N c, .string s] w fun e w' => e = .returned (.bool true) ∧ Below w.heap.size w w' := by
 have HK : Hid (KpT w [] [(A, SC)] w) := Lib.hid ⟨hA, fun r h => (List.not_mem_nil h).elim, fun r h => by rw [List.mem_singleton.1 h]; exact hSC, Below.refl _ _⟩
 replace hSg := Lib.hid hSg
 replace hPr := Lib.hid hPr
 replace hPa := Lib.hid hPa
 replace hCs := Lib.hid hCs
 replace hPr2 := Lib.hid hPr2
 replace hz := Lib.hid hz
 replace hPa2 := Lib.hid hPa2
 replace hTo := Lib.hid hTo
 replace hSm := Lib.hid hSm
 replace hsz := Lib.hid hsz
 have HSH : Hid (∀ W, Calls Tryz.prog 8 #[.slice A N c] W fun e w' => e = .returned (.bool true) ∧ W = w') := fun W => by rw [← hsh]; exact shortR_any A N c W
 clear hsh
 clear hA
 go_enter Tryz.func3, Tryz.ntmps3
 go_upto_region 1 with fail
 refine genT (fun V => KpT w [] [(A, SC)] V) HK.out ?_
 clear HK
 intro wc s0
 have HK := Lib.hid s0
 clear s0
 go_cut [31] from 15 to 30 (fun s31 wx => s31 = .bool false ∧ Hid (KpT w [] [(A, SC)] wx))
 case first =>
  have HV := HK
  rcases hsz.out with hs4 | hs4
  · have j1 : ¬ (400 : Int) < (s.size : Int) := by omega
    clear hs4
    go_wp2_with (first | (go_at_call 7; refine (awake_ok _ HV.out.1).mono ?_; rintro e w2 ⟨rfl, hb⟩; replace HV := Lib.hid (HV.out.old hb); clear hb) | (go_at_call 8; refine (HSH.out _).mono ?_; rintro e w2b ⟨rfl, rfl⟩))
    go_meet
    exact ⟨rfl, HV⟩
  · have j1 : (400 : Int) < (s.size : Int) := by omega
    have j2 : ((s.size : Int) != 4097) = false := by rw [bne_eq_false_iff_eq]; omega
    clear hs4
    go_wp2_with (first | (go_at_call 7; refine (awake_ok _ HV.out.1).mono ?_; rintro e w2 ⟨rfl, hb⟩; replace HV := Lib.hid (HV.out.old hb); clear hb) | (go_at_call 8; refine (HSH.out _).mono ?_; rintro e w2b ⟨rfl, rfl⟩))
    go_meet
    exact ⟨rfl, HV⟩
 case rest =>
 clear HK
 obtain ⟨rfl, HK⟩ := hcut
 go_upto_region 3 with fail
 go_cut [5, 6] from 33 to 38 (fun s5 s6 wx => s5 = .string TX ∧ s6 = .int .i64 E0 ∧ Hid (KpT w [] [(A, SC)] wx))
 case first =>
  have HV := HK
  go_wp2_with (first
   | (go_at_call 10; refine (hSg.out _ (HV.out.rd A SC (.head _))).mono ?_; rintro e w2 ⟨As, cs, rfl, hFs, hb⟩; replace HV := Lib.hid (HV.out.old hb); clear hb)
   | (go_at_call 9; refine (hPr.out _ _ _ HV.out.1 hFs).mono ?_; rintro e w3 ⟨rfl, hb⟩; replace HV := Lib.hid (HV.out.old hb); clear hb))
  go_meet
  exact ⟨rfl, rfl, HV⟩
 case rest =>
 clear HK
 obtain ⟨rfl, rfl, HK⟩ := hcut
 go_upto_region 4 with fail
 go_cut [7, 8, 9] from 39 to 44 (fun s7 s8 s9 wx => ∃ Ax cx, s7 = .slice Ax XN cx ∧ s8 = .int .i64 i ∧ s9 = .int .i64 E1 ∧ Hid (KpT w [] [(Ax, XC), (A, SC)] wx))
 case first =>
  have HV := HK
  go_wp2_with (first
   | (go_at_call 11; refine (hPa.out _ HV.out.1).mono ?_; rintro e w2 ⟨Ax, cx, rfl, hF, hb⟩; replace HV := Lib.hid (HV.out.old hb); clear hb))
  go_meet
  exact ⟨_, _, rfl, rfl, rfl, Lib.hid (KpT.rcons HV.out hF)⟩
 case rest =>
 clear HK
 obtain ⟨Ax, cx, rfl, rfl, rfl, HK⟩ := hcut
 go_upto_region 5 with fail
 go_cut [10] from 45 to 46 (fun s10 wx => s10 = .int .i64 E0 ∧ Hid (KpT w [] [(Ax, XC), (A, SC)] wx))
 case first =>
  have HV := HK
  go_wp2_with (first
   | (go_at_call 12; refine (hCs.out _ (HV.out.rd A SC (.tail _ (.head _)))).mono ?_; rintro e w2 ⟨rfl, hb⟩; replace HV := Lib.hid (HV.out.old hb); clear hb))
  go_meet
  exact ⟨rfl, HV⟩
 case rest =>
 clear HK
 obtain ⟨rfl, HK⟩ := hcut
 go_upto_if 48 with fail
 go_cut [11] from 47 to 50 (fun s11 wx => s11 = .string TX ∧ Hid (KpT w [] [(Ax, XC), (A, SC)] wx))
 case first =>
  by_cases h0 : E0 = 0
  · have hr2 := Lib.hid (hPr2.out h0)
    have hz1 : (E0 == 0) = true := by simpa using h0
    clear h0
    have HV := HK
    go_wp2_with (first | (go_at_call 13; refine (hr2.out _ (HV.out.rd A SC (.tail _ (.head _)))).mono ?_; rintro e w2 ⟨rfl, hb⟩; replace HV := Lib.hid (HV.out.old hb); clear hb))
    go_meet
    exact ⟨rfl, HV⟩
  · have hz1 : (E0 == 0) = false := by simpa using h0
    have HZ := Lib.hid (hz.out h0)
    clear h0
    go_wp2_with fail
    go_meet
    exact ⟨congrArg Value.string HZ.out.symm, HK⟩
 case rest =>
 clear HK hPr2 hz
 obtain ⟨rfl, HK⟩ := hcut
 go_upto_region 9 with fail
 go_cut [12, 13, 14] from 51 to 56 (fun s12 s13 s14 wx => ∃ Ar cr, s12 = .slice Ar XN cr ∧ s13 = .int .i64 i ∧ s14 = .int .i64 E1 ∧ Hid (KpT w [] [(Ar, XC), (Ax, XC), (A, SC)] wx))
 case first =>
  have HV := HK
  go_wp2_with (first
   | (go_at_call 14; refine (hPa2.out _).mono ?_; rintro e w2 ⟨Ar, cr, rfl, hF, hb⟩; replace HV := Lib.hid (HV.out.old hb); clear hb))
  go_meet
  exact ⟨_, _, rfl, rfl, rfl, Lib.hid (KpT.rcons HV.out hF)⟩
 case rest =>
 clear HK
 obtain ⟨Ar, cr, rfl, rfl, rfl, HK⟩ := hcut
 have HV := HK
 have hb0 : (TX.toList == TX.toList) = true := by simp
 have hb1 : (E0 == E0) = true := by simp
 have hb2 : (E1 == E1) = true := by simp
 have hb3 : (i == i) = true := by simp
 clear hSg hPr hPa hCs hPa2 HK
 go_wp2_with fail
 refine (hTo.out Ax cx _ (HV.out.rd Ax XC (.tail _ (.head _)))).mono ?_
 rintro e w2 ⟨At, ct, rfl, hFt, hb⟩
 replace HV := Lib.hid (HV.out.old hb)
 clear hb
 go_wp2_with fail
 refine (hSm.out At ct Ar cr _ hFt (HV.out.rd Ar XC (.head _))).mono ?_
 rintro e w3 ⟨rfl, q, rfl⟩
 replace HV := Lib.hid (HV.out.drewN q)
 go_wp2_with fail
 go_ret
 exact ⟨by simp, HV.out.2.2.2⟩
theorem fI_one {z : Int} : firstI [0, z] = z := by
 show (if (0 : Int) = 0 then (if z = 0 then 0 else z) else 0) = z
 rw [if_pos rfl]
 split <;> simp_all
theorem fI_bad {z : Int} : firstI [25, z] = 25 := by
 show (if (25 : Int) = 0 then (if z = 0 then 0 else z) else 25) = 25
 rw [if_neg (by decide)]
theorem fI_long {z : Int} : firstI [26, z] = 26 := by
 show (if (26 : Int) = 0 then (if z = 0 then 0 else z) else 26) = 26
 rw [if_neg (by decide)]
theorem rd_nil (W : World) : Rd W none (sgC []) := fun j v hv => by simp [sgC] at hv
theorem parse_alike (s : ByteArray) (hs : s.size ≤ 400 ∨ s.size = 4097) : ∃ (X : List Sg) (i E1 : Int), X.length ≤ 1000000 ∧
 (∀ W, AwT W → Calls Tryz.prog 11 #[.string s] W fun e w' => ∃ Ax cx, e = .returned (.tuple #[.slice Ax X.length cx, .int .i64 i, .int .i64 E1]) ∧ Rd w' Ax (sgC X) ∧ Below W.heap.size W w') ∧
 (∀ W, Calls Tryz.prog 14 #[.string s] W fun e w' => ∃ Ar cr, e = .returned (.tuple #[.slice Ar X.length cr, .int .i64 i, .int .i64 E1]) ∧ Rd w' Ar (sgC X) ∧ Below W.heap.size W w') := by
 have hz : s.size ≤ 1000000000000 := by omega
 by_cases hl : 4096 < s.size
 · have h1 : rdS s = (0, 26, []) := by unfold rdS; rw [if_pos hl]
   have h2 : parE s = 26 := by unfold parE; rw [h1]; exact fI_long
   refine ⟨[], 0, 26, by simp, fun W hW => ?_, fun W => ?_⟩
   · have h := parseS_bad s W hW.2.2 hz (by rw [h2]; decide)
     rw [h2, h1] at h
     exact h.mono fun e w' ⟨k1, k2⟩ => ⟨none, 0, k1, rd_nil w', k2⟩
   · exact (parseSR_long s W hl (by omega)).mono fun e w' ⟨k1, k2⟩ => ⟨none, 0, k1, rd_nil w', k2⟩
 · obtain ⟨G, hG⟩ : ∃ G, G = linesG eaS 0 [] (linesL s) := ⟨_, rfl⟩
   have h1 : rdS s = (G.1, okG G.2.1, G.2.2) := by unfold rdS; rw [if_neg hl, ← hG]
   have hR := fun W => parseSR_any s W (by omega)
   rw [← hG] at hR
   have hlen := rdS_len s
   rw [h1] at hlen
   have h2 : parE s = firstI [okG G.2.1, sgsE G.2.2] := by unfold parE; rw [h1]
   cases hb : G.2.1 with
   | false =>
     have h3 : parE s = 25 := by rw [h2, hb]; exact fI_bad
     refine ⟨[], G.1, 25, by simp, fun W hW => ?_, fun W => ?_⟩
     · have h := parseS_bad s W hW.2.2 hz (by rw [h3]; decide)
       rw [h3, h1] at h
       exact h.mono fun e w' ⟨k1, k2⟩ => ⟨none, 0, k1, rd_nil w', k2⟩
     · exact (hR W).mono fun e w' k => ⟨none, 0, (k.1 hb).1, rd_nil w', (k.1 hb).2⟩
   | true =>
     have h3 : parE s = sgsE G.2.2 := by rw [h2, hb]; exact fI_one
     by_cases h0 : sgsE G.2.2 = 0
     · refine ⟨G.2.2, 0, 0, by have := hlen.1; dsimp only at this; omega, fun W hW => ?_, fun W => ?_⟩
       · have h := parseS_ok s W hW.2.2 hz (by rw [h3]; exact h0)
         rw [h1] at h
         exact h.mono fun e w' ⟨⟨A, c, k1, k2⟩, k3⟩ => ⟨A, c, k1, k2, k3⟩
       · exact (hR W).mono fun e w' k => by
          obtain ⟨⟨A, c, k1, k2⟩, k3⟩ := k.2.2 hb h0
          exact ⟨A, c, k1, k2, k3⟩
     · refine ⟨[], G.1, sgsE G.2.2, by simp, fun W hW => ?_, fun W => ?_⟩
       · have h := parseS_bad s W hW.2.2 hz (by rw [h3]; exact h0)
         rw [h3, h1] at h
         exact h.mono fun e w' ⟨k1, k2⟩ => ⟨none, 0, k1, rd_nil w', k2⟩
       · exact (hR W).mono fun e w' k => ⟨none, 0, (k.2.1 hb h0).1, rd_nil w', (k.2.1 hb h0).2⟩
theorem print_alike (L : List Sg) (hm : L.length ≤ 1000000) (E0 : Int) (hE0 : E0 = sgsE L) : ∃ TX : ByteArray,
 (∀ As cs W, AwT W → Rd W As (sgC L) → Calls Tryz.prog 9 #[.slice As L.length cs] W fun e w' => e = .returned (.tuple #[.string TX, .int .i64 E0]) ∧ Below W.heap.size W w') ∧
 (E0 = 0 → ∀ A c W, Rd W A (sgC L) → Calls Tryz.prog 13 #[.slice A L.length c] W fun e w' => e = .returned (.string TX) ∧ Below W.heap.size W w') ∧ (E0 ≠ 0 → TX = ⟨#[]⟩) := by
 by_cases h0 : E0 = 0
 · have hs : sgsE L = 0 := by rw [← hE0]; exact h0
   obtain ⟨h1, h2, h3⟩ := sgs_good hs
   refine ⟨lb (printS L), fun As cs W hW hR => ?_, fun _ A c W hR => printSR_ok A c L W hR h2 h3, fun h => absurd h0 h⟩
   rw [h0]
   exact printS_ok As cs L W hW.2.1 hR hs
 · refine ⟨⟨#[]⟩, fun As cs W hW hR => ?_, fun h => absurd h h0, fun _ => rfl⟩
   have h := printS_bad As cs L W hR hm (by rw [← hE0]; exact h0)
   rw [← hE0] at h
   exact h
set_option maxRecDepth 100000 in
set_option maxHeartbeats 4000000 in
theorem toneStrings_any (A : Option Addr) (c : Nat) (L : List Sg) (s : ByteArray) (w : World) (hA : AwT w) (hL : Rd w A (sgC L)) : Calls Tryz.prog 3 #[.slice A L.length c, .string s] w fun e w' => e = .returned (.bool true) ∧ Below w.heap.size w w' := by
 cases hsh : (decide (L.length ≤ 20) || decide (L.length = 257))
 · exact strings_out A L.length c (sgC L) s w hA hL hsh
 · have hm : L.length ≤ 257 := by
    rw [Bool.or_eq_true, decide_eq_true_eq, decide_eq_true_eq] at hsh
    omega
   have hm2 : L.length ≤ 1000000 := by omega
   by_cases hs : s.size ≤ 400 ∨ s.size = 4097
   · obtain ⟨X, i, E1, hXl, hX1, hX2⟩ := parse_alike s hs
     obtain ⟨E0, hE0⟩ : ∃ E0, E0 = sgsE L := ⟨_, rfl⟩
     obtain ⟨TX, hP1, hP2, hP3⟩ := print_alike L hm2 E0 hE0
     exact strings_law A L.length c (sgC L) s TX i E0 E1 (sgC X) X.length w hA hL hsh hs
      (fun W hW => (signals_any A c L W hW hm2).mono fun e w' ⟨v, h1, h2, h3⟩ => by
        obtain ⟨As, cs, rfl, hr⟩ := owned_slice h2
        exact ⟨As, cs, h1, hr, h3⟩)
      hP1 hX1 (fun W hW => by rw [hE0]; exact checkSignalsR_any A c L W hW hm2) (fun h W hW => hP2 h A c W hW) hP3 hX2
      (fun Ax cx W hW => (backs_any Ax cx X W hW hXl).mono fun e w' ⟨v, h1, h2, h3⟩ => by
        obtain ⟨As, cs, rfl, hr⟩ := owned_slice h2
        exact ⟨As, cs, h1, hr, h3⟩)
      (fun At ct Ar cr W h1 h2 => sameSignals_self At Ar ct cr X W h1 h2 (by omega))
   · exact strings_out2 A L.length c (sgC L) s w hA hL hsh (by omega) (by omega)
end Go.Proofs.YtgbkblbfgknheaaGreatDoor
