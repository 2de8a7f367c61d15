import Derived.Test.YtlflfieknibgmaaGreatDoorM14
import Derived.Test.YtlflfieknibgmaaGreatDoorTie
import Derived.Test.YtlflfieknibgmaaGreatDoorCards
import Derived.ProofKit
import Derived.HandedShaped
import Derived.Carry
import Derived.ChangeOld
import Derived.PinnedBridge
import Derived.Lay
import Derived.Lib.LaidU8
import Derived.Shelf.Vars
import Derived.Deep.Slices
namespace Go.Proofs.YtlflfieknibgmaaGreatDoor
set_option linter.all false
open Go.RowKit Go.ChangeShapes Go.WideShapes Go.ChangeAt Go.Lib
theorem returns_and_shaped {H : Type} {enc : TypeId × Value → H} {a : Assume} {C : Checked} {os : Os} {f : FuncId} {fn : Func} {s : ChangeSpec} {conds : List PathCond} {apart fresh handsOn again : Bool} {X : World → Array Value → Prop}
    (hX : ∀ (w w' : World) (args : Array Value), w.heap = w'.heap → X w args → X w' args)
    (own : ownKnob C.prog.godebug = none) (started : os.Started) (noInit : C.prog.inits.idxOf? f = none) (hfn : C.prog.funcs[f]? = some fn)
    (witness : ∃ (w : World) (tape : Tape) (i : Input), w.os = os ∧ (w.forCall tape i).Shaped C.prog ∧ i.vars = [] ∧ Input.okWide C.prog (w.forCall tape i) .any w.heap.size f i ∧
      ((s.pre enc C.prog fn conds apart (w.forCall tape i).memory i.args ∧ X (w.forCall tape i).memory i.args) ∧ sizedMet enc C.prog fn (OpenSpec.ofChange s) apart (w.forCall tape i).memory i.args) ∧ a.holds C.prog (lone (Frame.enter C.prog f i.args .normal) [] (w.forCall tape i)))
    (contract : ∀ (W : World) (base : Nat) (args : Array Value) (ds gs : List (DataW H)) (before : List MemPlace),
      (∀ (j : Nat) t v, fn.params[j]? = some t → args[j]? = some v → Value.okWide C.prog W .any base t v) →
      DataW.Whole enc C.prog fn.params.toList s.vars apart W args.toList ds gs before →
      X W args → W.ShapedOpen C.prog →
      Calls C.prog f args W fun e W' => ∃ v, e = .returned v ∧ s.post enc C.prog fn apart fresh handsOn again W args v W') :
    ReturnsInHanded a C os f .any (fun w args => (s.pre enc C.prog fn conds apart w args ∧ X w args) ∧ sizedMet enc C.prog fn (OpenSpec.ofChange s) apart w args) (s.post enc C.prog fn apart fresh handsOn again) := by
  refine returnsInHanded_of_calls own started noInit witness ?_
  intro w tape i _ hsh _ hok hpre hholds
  obtain ⟨_, _, _, fn', hfn', _, _, _, _, hval⟩ := hok
  have e : fn' = fn := Option.some.inj (hfn'.symm.trans hfn)
  subst e
  obtain ⟨⟨⟨ds, gs, before, hw, hc⟩, hx⟩, hz⟩ := hpre
  have hw' := DataW.Whole.of_heap (w' := w.forCall tape i) (by rfl) hw
  refine (contract (w.forCall tape i) w.heap.size i.args ds gs before hval hw' (hX _ _ _ (by rfl) hx) hsh).mono fun e W' ⟨v, he, hp⟩ => ?_
  subst he
  exact ChangeSpec.post_blind hp
theorem trodAll_below {H : Type} {enc : TypeId × Value → H} {P : Program} (hl : laidOutB P = true) {W W' : World} (hb : Below W.heap.size W W') :
    ∀ {ts : List TypeId} {vs : List Value} {ds : List (DataW H)} {ps : List MemPlace}, (∀ t ∈ ts, P.readableRec t = true ∧ t < P.types.size) → (∀ p ∈ ps, p.block < W.heap.size) →
      DataW.TrodAll enc P W 0 (fun _ => true) true ts vs ds ps → DataW.TrodAll enc P W' 0 (fun b => decide (b < W.heap.size)) true ts vs ds ps
  | [], [], [], _, _, _, h => h
  | t :: ts, v :: vs, d :: ds, _, hr, hlt, ⟨p, q, h, hs, e⟩ => by
    subst e
    exact ⟨p, q, Below.trod hl (hr t (List.mem_cons_self ..)).1 (hr t (List.mem_cons_self ..)).2 h hb (fun x hx => hlt x (List.mem_append_left _ hx)), trodAll_below hl hb (fun u hu => hr u (List.mem_cons_of_mem _ hu)) (fun x hx => hlt x (List.mem_append_right _ hx)) hs, rfl⟩
  | [], _ :: _, _, _, _, _, h => h.elim
  | [], [], _ :: _, _, _, _, h => h.elim
  | _ :: _, [], _, _, _, _, h => h.elim
  | _ :: _, _ :: _, [], _, _, _, h => h.elim
section
variable {P : Program} {W : World} {r : Reach} {b0 : Nat} {t : TypeId} {v : Value}
theorem cell_int {k : IntKind} (hu : P.underlying t = some (.int k)) (h : Cell.okWide P W r b0 t v) : ∃ n, v = .int k n ∧ k.has n := by
  simp only [hu, Cell.okWide, Cell.ok] at h
  cases v <;> simp_all
theorem ok_slice {e : TypeId} (hu : P.underlying t = some (.slice e)) (h : Value.okWide P W r b0 t v) : v = .slice none 0 0 ∨ ∃ b off len cap, v = .slice (some ⟨b, off, none⟩) len cap ∧ len ≤ cap := by
  simp only [Value.okWide, hu, Cell.okWide, Cell.ok] at h
  cases v with
  | slice a len cap =>
    cases a with
    | none =>
      left
      cases len <;> cases cap <;> simp_all
    | some a =>
      right
      obtain ⟨b, off, sp⟩ := a
      have h1 : len ≤ cap ∧ (cap : Int) ≤ IntKind.i64.max ∧ W.has P r b0 ⟨b, off, sp⟩ e cap := by simpa using h
      obtain ⟨-, hs, -⟩ := h1.2.2
      have hs' : sp = none := hs
      subst hs'
      exact ⟨b, off, len, cap, rfl, h1.1⟩
  | _ => simp_all
theorem ok_agg {ts : List TypeId} (hu : (∃ fs, P.underlying t = some (.struct fs)) ∨ ∃ n e, P.underlying t = some (.array n e)) (hct : P.cellTypes P.depth t = some ts) (hlen : P.cellsOf t = ts.length) (h : Value.okWide P W r b0 t v) :
    ∃ cs : List Value, v = .agg cs.toArray ∧ cs.length = ts.length ∧ ∀ (i : Nat) (u : TypeId) (c : Value), ts[i]? = some u → cs[i]? = some c → Cell.okWide P W r b0 u c := by
  have h2 : ∃ cs, v = .agg cs ∧ cs.size = P.cellsOf t ∧ Row.okWide P W r b0 t cs := by
    rcases hu with ⟨fs, hu⟩ | ⟨n, e, hu⟩ <;> simpa only [Value.okWide, hu] using h
  obtain ⟨⟨cs⟩, rfl, hsz, ts', hts, -, hall⟩ := h2
  obtain rfl := Option.some.inj (hct.symm.trans hts)
  refine ⟨cs, rfl, by simpa [hlen] using hsz, fun i u c hi hc => ?_⟩
  obtain ⟨u', hu', hok⟩ := hall i c (by simpa using hc)
  have hl : i < ts.length := (List.getElem?_eq_some_iff.1 hi).1
  rw [Nat.mod_eq_of_lt hl, hi] at hu'
  cases hu'
  exact hok
end
set_option maxRecDepth 100000 in
theorem hTb_of {W : World} (h : laidMet Tryz.prog Rows.topStopbarHeardRow.laid W) (hsh : W.ShapedOpen Tryz.prog) : HTb W := by
  refine ⟨?_, ?_⟩
  · obtain ⟨g, t, cs, fuel, p, hg, hty, hvar, hd⟩ := laidMet.reads h (n := "math/bits.deBruijn64tab") (d := Rows.laid_math_bits_deBruijn64tab) (by simp [Rows.topStopbarHeardRow])
    obtain rfl := Option.some.inj ((show Tryz.prog.globalNamed "math/bits.deBruijn64tab" = some 5 by kernel_rfl).symm.trans hg)
    obtain rfl := Option.some.inj ((show (Tryz.prog.globals[5]?).map (·.type) = some 286 by kernel_rfl).symm.trans hty)
    obtain ⟨fuel', d, q, hdi, he⟩ := array_elem Tryz.underlying286 hd 1 (by decide)
    simp only [List.getElem?_cons_succ, List.getElem?_cons_zero, Option.some.injEq] at hdi
    subst hdi
    rw [show Tryz.prog.cellsOf 5 = 1 by kernel_rfl] at he
    obtain ⟨z, hc, hz, _⟩ := DataW.trod_int Tryz.underlying5 he
    show W.cell? _ = _
    rw [World.var?_cell hg hvar 1, ← Array.getElem?_toList]
    have h1 : cs.toList[1]? = some (.int .u8 z) := by
      have := congrArg (·[0]?) hc
      simpa [List.getElem?_take, List.getElem?_drop] using this
    rw [h1]
    simp at hz
    rw [← hz.1]
  · obtain ⟨g, t, cs, fuel, p, hg, hty, hvar, hd⟩ := laidMet.reads h (n := "glideslope/common.turns") (d := Rows.laid_glideslope_common_turns) (by simp [Rows.topStopbarHeardRow])
    obtain rfl := Option.some.inj ((show Tryz.prog.globalNamed "glideslope/common.turns" = some 0 by kernel_rfl).symm.trans hg)
    obtain rfl := Option.some.inj ((show (Tryz.prog.globals[0]?).map (·.type) = some 196 by kernel_rfl).symm.trans hty)
    intro j v hj
    rw [World.var?_cell hg hvar j, ← Array.getElem?_toList]
    have hel : ∀ i (zs : List Int), i < 4 → [([1, 0] : List Int), [0, 1], [-1, 0], [0, -1]][i]? = some zs → (cs.toList.drop (i * 2)).take 2 = zs.map fun z => Value.int .i64 z := fun i zs hi hzs => by
      obtain ⟨fuel', d, q, hdi, he⟩ := array_elem Tryz.underlying196 hd i hi
      have hd2 : d = .agg (zs.map fun z => .lit (.int .i64 z)) := by
        match i, hi with
        | 0, _ | 1, _ | 2, _ | 3, _ => simp at hzs hdi; subst hzs; exact hdi.symm
      subst hd2
      rw [show Tryz.prog.cellsOf 25 = 2 by kernel_rfl] at he
      exact ints_of_struct (k := .i64) Tryz.underlying25 (fun j f hj => by
        match j, hj with
        | 0, hj => simp at hj; subst hj; exact ⟨Tryz.underlying3, rfl, by kernel_rfl⟩
        | 1, hj => simp at hj; subst hj; exact ⟨Tryz.underlying3, rfl, by kernel_rfl⟩
        | j + 2, hj => simp at hj) (by kernel_rfl) he
    have hx : ∀ i k : Nat, i < 4 → k < 2 → cs.toList[i * 2 + k]? = ((([([1, 0] : List Int), [0, 1], [-1, 0], [0, -1]][i]?.getD []).map fun z => Value.int .i64 z))[k]? := fun i k hi hk => by
      obtain ⟨zs, hzs⟩ : ∃ zs, [([1, 0] : List Int), [0, 1], [-1, 0], [0, -1]][i]? = some zs := ⟨_, List.getElem?_eq_getElem (by simpa using hi)⟩
      rw [hzs, Option.getD_some, ← hel i zs hi hzs, List.getElem?_take_of_lt hk, List.getElem?_drop]
    have hj8 : j < 8 := by
      have := (List.getElem?_eq_some_iff.1 hj).1
      simpa using this
    have := hx (j / 2) (j % 2) (by omega) (Nat.mod_lt _ (by decide))
    rw [show j / 2 * 2 + j % 2 = j by omega] at this
    rw [this]
    match j, hj8 with
    | 0, _ | 1, _ | 2, _ | 3, _ | 4, _ | 5, _ | 6, _ | 7, _ => simp at hj; subst hj; rfl
theorem own_knob : ownKnob Tryz.prog.godebug = none := by kernel_rfl
theorem laid_out : laidOutB Tryz.prog = true := by kernel_rfl
theorem law_shut {H : Type} {enc : TypeId × Value → H} {f : Func} {s : ChangeSpec} {W W' : World} {args : Array Value} {ds : List (DataW H)} {before : List MemPlace}
    (hW : DataW.Whole enc Tryz.prog f.params.toList s.vars false W args.toList ds [] before) (hv : s.vars = []) (hres : f.resultTypes = #[4])
    (hfn : s.fn H (ds ++ []) = { results := [.lit (.bool true)], args := ds }) (hr : ∀ t ∈ f.params.toList, Tryz.prog.readableRec t = true ∧ t < Tryz.prog.types.size) (hb : Below W.heap.size W W') :
    s.post enc Tryz.prog f false true false false W args (.bool true) W' := by
  have hlt := hW.lt
  have hW' := hW
  obtain ⟨p, q, hA, hV, rfl, _, _⟩ := hW
  refine ⟨ds, [], _, [], p, [], hW', ?_, ?_, ?_, hb.frame _, fun h => by cases h⟩
  · rw [hres, hfn]
    exact trodAll_mk1 (shut_bool Tryz.underlying4 _)
  · rw [hfn]
    exact trodAll_below laid_out hb hr (fun x hx => hlt x (List.mem_append_left _ hx)) hA
  · rw [hfn, hv]
    rfl
theorem open_byts {H : Type} {enc : TypeId × Value → H} {P : Program} {W : World} {b0 : Nat} {r : Reach} {sp : Nat → Bool} {held : Bool} {t e : TypeId} {v : Value} {d : DataW H} {ps : List MemPlace} (ht : P.underlying t = some (.slice e)) (he : P.underlying e = some (.int .u8)) (hc : P.cellsOf e = 1)
    (hok : Value.okWide P W r b0 t v) (h : DataW.Trod enc P W 0 sp held t v d ps) : ∃ A c bs, v = .slice A bs.length c ∧ Rd W A (byts bs) ∧ bs.length ≤ c ∧ (A = none → c = 0) ∧ bs.length ≤ maxLen := by
  obtain ⟨fuel, h⟩ := h
  rcases ok_slice ht hok with rfl | ⟨b, off, len, cap, rfl, hlc⟩
  · exact ⟨none, 0, [], rfl, fun j v h => by simp [byts] at h, Nat.le_refl _, fun _ => rfl, Nat.zero_le _⟩
  rcases open_ints ht he hc h with ⟨h0, _⟩ | ⟨a, len', cap', zs, hcs, _, hl, hm, hlen, _, hall, hwf⟩
  · cases h0
  · have hcs' : [Value.slice (some ⟨b, off, none⟩) len cap] = [.slice (some a) len' cap'] := hcs
    cases hcs'
    have hle : len ≤ zs.length := by rw [hlen]; split <;> omega
    refine ⟨some ⟨b, off, none⟩, cap, (zs.take len).map fun z => UInt8.ofNat z.toNat, by simp [hle], fun j u hj => ?_, by simp; omega, (fun h => by cases h), by simp; omega⟩
    have hjl : j < len := by
      have := (List.getElem?_eq_some_iff.1 hj).1
      simp [byts] at this
      omega
    have hjz : j < zs.length := by omega
    have hz := hwf zs[j] (List.getElem_mem _)
    have hb : 0 ≤ zs[j] ∧ zs[j] ≤ 255 := by simpa [Lit.wf, IntKind.min, IntKind.max, IntKind.signed, IntKind.bits] using hz
    have hu : u = .int .u8 zs[j] := by
      simp only [byts, List.getElem?_map, List.getElem?_take_of_lt hjl, List.getElem?_eq_getElem hjz, Option.map_some, Option.some.injEq] at hj
      rw [← hj, UInt8.toNat_ofNat']
      congr 1
      omega
    refine ⟨b, off, rfl, ?_⟩
    have h1 := hall j hjz
    rw [hu, show zs[j] = zs.getD j 0 by simp [List.getD, hjz], ← h1]
    by_cases h0 : j = 0
    · subst h0; simp [Addr.add]
    · simp [Addr.add, h0]
end Go.Proofs.YtlflfieknibgmaaGreatDoor
