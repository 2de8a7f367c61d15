import Derived.Test.YtaknlhepgeiekaaGreatDoorH11
import Derived.Laws.AppendOwnNone
import Derived.ChangeKeysEq
import Derived.Maps.AppendAt
import Derived.Laws.OwnMore
import Derived.IntWalk
import Derived.Laws.IdiomStrings
import Derived.Maps.OwnSet
import Derived.Maps.StringElems
import Derived.StringKeys
import Derived.Lib.Hide
import Derived.Test.YtaknlhepgeiekaaGreatDoorH24
namespace Go.Proofs.YtaknlhepgeiekaaGreatDoor
set_option linter.all false
open Go.RowKit Go.Fl
theorem wpList_app {P : Program} {w : World} {ops : Array Oper} {rest : List Oper} {o : Oper} {a : Act} {Q : Exit → Act → World → Prop} (hgd : o.guard = none) (s x : Operand) (t : TypeId)
 (ho : o.op = .call { callee := .builtin .append, args := #[s, x], argTypes := #[t, t] })
 (base : Nat) (e : TypeId) (z : Value) (size bytes : Nat) (ht : P.underlying t = some (.slice e)) (hinfo : (P.info? e).map (fun i => (i.zero, i.size, i.bytes)) = some (some z, size, bytes)) (hzs : z.cells.size = size) (hsz : 0 < size)
 (v : Value) (n : Nat) (xs : List Value) (hs : a.eval s = v) (hown : w.ownsRow base e size v n xs)
 (A : Option Addr) (m c : Nat) (news : List Value) (hx : a.eval x = .slice A m c) (hc : A = none → c = 0) (hr : Rd w A news) (hl : news.length = m * size) (h1 : ∀ u ∈ news, u.oneCell' = true)
 (h63 : n + m ≤ maxLen) (hbytes : (n + m) * bytes ≤ 140737488355328) (hbase : base ≤ w.heap.size)
 (h : ∀ v' w', w'.ownsRow base e size v' (n + m) (xs ++ news) → w.grownBy w' v.ownBlock → wpList P ops Q rest (a.put o.dst v') w') : wpList P ops Q (o :: rest) a w := by
 obtain ⟨i, hi, hz0, hz1, hz2⟩ := info_parts hinfo
 cases hA : A with
 | none =>
   have hn : news = [] := by
    cases news with
    | nil => rfl
    | cons u us =>
      obtain ⟨b, off, hh, _⟩ := hr 0 u rfl
      rw [hA] at hh; cases hh
   subst hn
   have hm : m = 0 := by
    have h0 : 0 = m * size := hl
    rcases Nat.mul_eq_zero.1 h0.symm with h | h
    · exact h
    · omega
   subst hm
   rw [hA, hc hA] at hx
   refine wpList_append_own_none hgd s x t ho base e i size ht hi v n xs hs hown hx (h v w (by simpa using hown) (World.grownBy.refl w _))
 | some ad =>
   have hcells : ∀ j u, news[j]? = some u → w.cell? (ad.add j) = some u := by
    intro j u hu
    obtain ⟨b, off, hh, hcell⟩ := hr j u hu
    rw [hA] at hh
    cases hh
    by_cases hj : j = 0
    · subst hj; simpa [Addr.add] using hcell
    · simpa [Addr.add, hj] using hcell
   rw [hA] at hx
   exact wpList_append_own w hgd s x t ho base e i z size bytes ht hi hz0 hz1 hz2 hzs hsz v n xs hs hown ad m c news hx hl hcells h1 h63 hbytes hbase fun v' w' h2 h3 _ => h v' w' h2 h3
theorem ownsRow.empty (w : World) (e : TypeId) (size : Nat) : (w.alloc (.cells #[] e)).ownsRow w.heap.size e size (.slice (some ⟨w.heap.size, 0, none⟩) 0 0) 0 [] :=
 World.ownsRow_made w #[] 0 (Nat.le_refl _) (by unfold maxLen; decide) (by simp)
def byts (xs : List UInt8) : List Value := xs.map fun b => .int .u8 (b.toNat : Int)
theorem Rd.byte {w : World} {A : Option Addr} {xs : List UInt8} (h : Rd w A (byts xs)) {j : Nat} (hj : j < xs.length) : ∃ b off, A = some ⟨b, off, none⟩ ∧ w.cell? ⟨b, off + j, none⟩ = some (.int .u8 (xs[j].toNat : Int)) := by
 obtain ⟨b, off, h1, h2⟩ := Rd.at h (j := j) (by simpa [byts] using hj)
 exact ⟨b, off, h1, by rw [h2]; simp [byts]⟩
-- two bytes
theorem stored_float (P : Program) (w : World) (a : Addr) (m : Mode) (k : FloatKind) (b : Nat) : (store a (.float k b) m).run P w = stored P w a (.float k b) m := run_store P w a _ m rfl
theorem stored_complex (P : Program) (w : World) (a : Addr) (m : Mode) (k : FloatKind) (b c : Nat) : (store a (.complex k b c) m).run P w = stored P w a (.complex k b c) m := run_store P w a _ m rfl
attribute [go_sem] stored_float stored_complex
section
variable {P : Program} (w : World)
def all2 (f : Value → Value → Bool) : List Value → List Value → Bool
 | [], [] => true
 | x :: xs, y :: ys => f x y && all2 f xs ys
 | _, _ => false
theorem all2_range (f : Value → Value → Bool) : ∀ (xs ys : List Value), xs.length = ys.length → ((List.range xs.length).all fun i => f (xs.getD i undef) (ys.getD i undef)) = all2 f xs ys
 | [], [], _ => rfl
 | x :: xs, y :: ys, h => by
   rw [all2, ← all2_range f xs ys (by simpa using h), List.length_cons, List.range_succ_eq_map]
   simp
   rfl
 | [], _ :: _, h => by simp at h
 | _ :: _, [], h => by simp at h
theorem run_eqItems (d : Nat) (e : TypeId) (c : Nat) (hc : c = 1) (f : Value → Value → Bool) (xs ys : List Value) (hp : ∀ (zs : List Value) (i : Nat), i < zs.length → (part e zs.toArray (i * 1)).run P w = .ok (zs.getD i undef) w)
 (hf : ∀ i, i < xs.length → (Op.equalIn d e (xs.getD i undef) (ys.getD i undef)).run P w = .ok (f (xs.getD i undef) (ys.getD i undef)) w) (hl : xs.length = ys.length) :
 ∀ l : List Nat, (∀ i ∈ l, i < xs.length) → (Op.eqItems d e c xs.toArray ys.toArray l).run P w = .ok (l.all fun i => f (xs.getD i undef) (ys.getD i undef)) w := by
 subst hc
 intro l
 induction l with
 | nil => intro _; simp [Op.eqItems]
 | cons i l ih =>
   intro h
   have hi := h i (by simp)
   simp only [Op.eqItems, Sem.run_bind, hp xs i hi, hp ys i (hl ▸ hi), hf i hi, Result.andThen_ok, List.all_cons]
   cases f (xs.getD i undef) (ys.getD i undef)
   · simp
   · simp only [Bool.not_true, Bool.false_eq_true, if_false, Bool.true_and]
     exact ih fun j hj => h j (by simp [hj])
theorem run_eqArray (d : Nat) (t e : TypeId) (n : Nat) (i : TypeInfo) (f : Value → Value → Bool) (xs ys : List Value) (hu : P.underlying t = some (.array n e)) (hi : P.info? e = some i) (hc : P.cellsOf e = 1)
 (hp : ∀ (zs : List Value) (i : Nat), i < zs.length → (part e zs.toArray (i * 1)).run P w = .ok (zs.getD i undef) w)
 (hf : ∀ i, i < xs.length → (Op.equalIn d e (xs.getD i undef) (ys.getD i undef)).run P w = .ok (f (xs.getD i undef) (ys.getD i undef)) w) (hx : xs.length = n) (hy : ys.length = n) :
 (Op.equalIn (d + 1) t (.agg xs.toArray) (.agg ys.toArray)).run P w = .ok (all2 f xs ys) w := by
 rw [run_equalIn_array w d xs.toArray ys.toArray hu hi, run_eqItems w d e _ hc f xs ys hp hf (hx.trans hy.symm) _ (fun i hi => by rw [hx]; exact List.mem_range.1 hi), ← hx, all2_range f xs ys (hx.trans hy.symm)]
theorem run_equalIn_complex (d : Nat) (t : TypeId) (k k' : FloatKind) (a b c e : Nat) (h : P.underlying t = some (.complex k')) : (Op.equalIn (d + 1) t (.complex k a b) (.complex k c e)).run P w = .ok ((k.format.order a c == some .eq) && (k.format.order b e == some .eq)) w := by
 simp [Op.equalIn, run_underlying h, Op.floatEq]
theorem part_scalar (e : TypeId) (h : ∀ w, (isAgg e).run P w = .ok false w) (zs : List Value) (i : Nat) (hi : i < zs.length) : (part e zs.toArray (i * 1)).run P w = .ok (zs.getD i undef) w := by
 simp [part, h, hi]
end
section
variable {P : Program} (w : World)
def eqTriples (d : Nat) (xs ys : Array Value) : List (String × TypeId × Nat) → Sem Bool
 | [] => pure true
 | f :: fs =>
   if f.1 ≠ "_" then do
    let a ← part f.2.1 xs f.2.2
    let b ← part f.2.1 ys f.2.2
    let r ← Op.equalIn d f.2.1 a b
    if (!r) = true then pure false else eqTriples d xs ys fs
   else eqTriples d xs ys fs
theorem eqFields_triples (d : Nat) (xs ys : Array Value) (fs : List Field) : Op.eqFields d xs ys fs = eqTriples d xs ys (fs.map fun f => (f.name, f.type, f.offset)) := by
 induction fs with
 | nil => rfl
 | cons f fs ih => simp only [Op.eqFields, eqTriples, List.map_cons, ih]
theorem run_eqStruct (d : Nat) (t : TypeId) (xs ys : Array Value) (l : List (String × TypeId × Nat)) (ht : P.underlying t = some (.struct (P.fieldsOf t))) (hp : P.stoodInHeld t = false) (hl : ((P.fieldsOf t).toList.map fun f => (f.name, f.type, f.offset)) = l) :
 (Op.equalIn (d + 1) t (.agg xs) (.agg ys)).run P w = (eqTriples d xs ys l).run P w := by
 rw [run_equalIn_struct w d t xs ys ht hp, eqFields_triples, hl]
end
theorem isAgg3 (w : World) : (isAgg 3).run Tryz.prog w = .ok false w := by kernel_rfl
theorem part_int (cs : Array Value) (i : Nat) (v : Value) (h : cs[i]? = some v) (w : World) : (part 3 cs i).run Tryz.prog w = .ok v w := by
 simp [part, isAgg3, h]
def spanC (l : List (Int × Int)) : List Value := l.flatMap fun p => [.int .i64 p.1, .int .i64 p.2]
theorem spanC_length (l : List (Int × Int)) : (spanC l).length = l.length * 2 := by
 induction l with
 | nil => rfl
 | cons p l ih => simp only [spanC, List.flatMap_cons, List.length_append, List.length_cons, List.length_nil] at ih ⊢; omega
theorem spanC_app (l m : List (Int × Int)) : spanC (l ++ m) = spanC l ++ spanC m := by simp [spanC]
def widL (l : List (Int × Int)) (i : Int) : List (Int × Int) := match l.getLast? with
 | some p => if p.2 = i then l.dropLast ++ [(p.1, i + 1)] else l ++ [(i, i + 1)]
 | none => [(i, i + 1)]
def Step (w w' : World) (v v' : Value) : Prop := w.grownBy w' v.ownBlock ∧ (v'.ownBlock = v.ownBlock ∨ ∃ k, v'.ownBlock = some k ∧ w.heap.size ≤ k)
theorem Step.keep {w w' : World} {v v' u : Value} {B : Nat} {e : TypeId} {s n : Nat} {xs : List Value} (h : Step w w' v v') (hu : w.ownsRow B e s u n xs) (hd : u.ownBlock = none ∨ u.ownBlock ≠ v.ownBlock) : w'.ownsRow B e s u n xs ∧ (u.ownBlock = none ∨ u.ownBlock ≠ v'.ownBlock) := by
 refine ⟨hu.kept h.1 hd, ?_⟩
 rcases h.2 with h2 | ⟨k, hk, hk2⟩
 · rw [h2]; exact hd
 · rcases hd with hd | hd
   · exact .inl hd
   · cases hub : u.ownBlock with
     | none => exact .inl rfl
     | some j =>
       refine .inr ?_
       have := (hu.lt j hub).2
       rw [hk]
       intro hh
       cases hh
       omega
theorem Step.below {w w' : World} {v v' : Value} {B : Nat} {e : TypeId} {s n : Nat} {xs : List Value} (h : Step w w' v v') (hv : w.ownsRow B e s v n xs) (hB : B ≤ w.heap.size) : Below B w w' :=
 (Below.refl B w).grown h.1 hB (fun k hk => (hv.lt k hk).1)
theorem Step.of_alloc {w w' : World} {v v' : Value} {o : Obj} (h : (w.alloc o).grownBy w' v.ownBlock) (h2 : v'.ownBlock = v.ownBlock ∨ v'.ownBlock = some (w.alloc o).heap.size) : Step w w' v v' := by
 refine ⟨⟨h.os, h.tape, h.output, by have := h.size; simp at this; omega, fun k hk hne => (h.block k (by simp; omega) hne).trans ((Below.heap_alloc w o k hk))⟩, ?_⟩
 rcases h2 with h2 | h2
 · exact .inl h2
 · exact .inr ⟨_, h2, by simp⟩
theorem news2 (w : World) (u u' : Value) (t : TypeId) (a : Addr) (ha : a = ⟨w.heap.size, 0, none⟩) : ∀ j x, [u, u'][j]? = some x → (w.alloc (.cells #[u, u'] t)).cell? (a.add j) = some x := by
 subst ha
 intro j x hx
 match j, hx with
 | 0, hx => simp at hx; subst hx; simp [Addr.add]
 | 1, hx => simp at hx; subst hx; simp [Addr.add]
theorem info94 : (Tryz.prog.info? 77).map (fun i => (i.zero, i.size, i.bytes)) = some (some (.agg #[.int .i64 0, .int .i64 0]), 2, 16) := by kernel_rfl
set_option maxRecDepth 100000 in
set_option maxHeartbeats 600000 in
theorem widened_any (B : Nat) (v : Value) (l : List (Int × Int)) (i : Int) (w : World) (hown : w.ownsRow B 77 2 v l.length (spanC l)) (hB : B ≤ w.heap.size) (hl : l.length ≤ 1000000) (hi : 0 ≤ i ∧ i ≤ 1000000000) :
 Calls Tryz.prog 127 #[v, .int .i64 i] w fun e w' => ∃ v', e = .returned v' ∧ w'.ownsRow B 77 2 v' (widL l i).length (spanC (widL l i)) ∧ Step w w' v v' := by
 obtain ⟨i0, hi0, hz0, hz1, hz2⟩ := info_parts info94
 rcases List.eq_nil_or_concat l with rfl | ⟨init, p, rfl⟩
 · have hv : v = .slice none 0 0 ∨ ∃ g cap, v = .slice (some ⟨g, 0, none⟩) 0 cap := by
    rcases hown.2 with ⟨h, _⟩ | ⟨g, cap, cur, h, _⟩
    · exact .inl h
    · exact .inr ⟨g, cap, h⟩
   have hw : Hid (widL [] i = [] ++ [(i, i + 1)]) := rfl
   have Hown := Lib.hid hown
   clear hown
   obtain ⟨A, c, rfl⟩ : ∃ A c, v = .slice A 0 c := by
    rcases hv with rfl | ⟨g, cap, rfl⟩
    · exact ⟨_, _, rfl⟩
    · exact ⟨_, _, rfl⟩
   clear hv
   go_enter Tryz.func127, Tryz.ntmps127
   go_wp2_with (at_builtin; refine wpList_append_own_at _ rfl _ _ 71 rfl B 77 i0 (.agg #[.int .i64 0, .int .i64 0]) 2 16 Tryz.underlying71 hi0 hz0 hz1 hz2 rfl (by decide) _ 0 [] rfl (Hown.out.alloc _) ⟨w.heap.size, 0, none⟩ 1 1 [.int .i64 i, .int .i64 (i + 1)] rfl rfl (news2 _ _ _ _ _ rfl) (by simp [Value.oneCell']) ?c3 ?c4 ?c5 ?_)
   case c3 => unfold maxLen; omega
   case c4 => omega
   case c5 => simp; omega
   intro v' w1 ho hg _ hat
   have Ho : Hid (w1.ownsRow B 77 2 v' (widL [] i).length (spanC (widL [] i))) := by unfold Hid; rw [hw.out, spanC_app]; simpa [spanC] using ho
   have Hs := Lib.hid (Step.of_alloc hg (by rw [World.size_alloc]; exact hat))
   clear ho hg hat
   go_wp2
   go_ret
   exact ⟨_, rfl, Ho.out, Hs.out⟩
 · obtain ⟨f, t⟩ := p
   rw [List.concat_eq_append] at *
   obtain ⟨g, cap, rfl, hBg, hgs⟩ := ownsRow.addr hown (by simp)
   have hlen : (init ++ [(f, t)]).length = init.length + 1 := by simp
   rw [hlen] at hown hl
   have hcell : w.cell? ⟨g, init.length * 2 + 1, none⟩ = some (.int .i64 t) := by
    rw [hown.cellAt _ (by omega), spanC_app, List.getElem?_append_right (by rw [spanC_length]; omega), spanC_length]
    have : init.length * 2 + 1 - init.length * 2 = 1 := by omega
    rw [this]; rfl
   have hfree := hown.frozenAt (init.length * 2 + 1)
   have hst := hown.stored (init.length * 2 + 1) (.int .i64 (i + 1))
   have Hown := Lib.hid hown
   have Hst := Lib.hid hst
   clear hown hst
   obtain ⟨k, hk⟩ : ∃ k, init.length = k := ⟨_, rfl⟩
   have Hk := Lib.hid hk
   rw [hk] at hcell hfree hl hlen
   clear hk
   have h1 : IntKind.i64.wrap ((k : Int) + 1 - 1) = (k : Int) := by rw [show (k : Int) + 1 - 1 = k by omega]; exact IntWalk.i64_in _ (by omega)
   by_cases hti : t = i
   · subst hti
     have hw : Hid (widL (init ++ [(f, t)]) t = init ++ [(f, t + 1)]) := by unfold Hid widL; simp
     rw [hlen]
     clear hlen
     go_enter Tryz.func127, Tryz.ntmps127
     go_wp2
     go_ret
     have e : (widL (init ++ [(f, t)]) t).length = k + 1 := by rw [hw.out, ← Hk.out]; simp
     have e2 : (spanC (init ++ [(f, t)])).set (k * 2 + 1) (.int .i64 (t + 1)) = spanC (widL (init ++ [(f, t)]) t) := by
      rw [hw.out, spanC_app, spanC_app, List.set_append_right _ _ (by rw [spanC_length, Hk.out]; omega), spanC_length, Hk.out]
      have : k * 2 + 1 - k * 2 = 1 := by omega
      rw [this]; rfl
     have h := Hst.out
     rw [Hk.out, e2] at h
     exact ⟨_, rfl, by rw [e]; exact h.1, h.2, .inl rfl⟩
   · have hti2 : (t == i) = false := by simpa using hti
     have hw : Hid (widL (init ++ [(f, t)]) i = (init ++ [(f, t)]) ++ [(i, i + 1)]) := by unfold Hid widL; simp [hti]
     have Hti := Lib.hid hti
     rw [Hk.out] at Hown
     rw [hlen]
     clear hlen hti Hst
     go_enter Tryz.func127, Tryz.ntmps127
     go_wp2_with (at_builtin; refine wpList_append_own_at _ rfl _ _ 71 rfl B 77 i0 (.agg #[.int .i64 0, .int .i64 0]) 2 16 Tryz.underlying71 hi0 hz0 hz1 hz2 rfl (by decide) _ (k + 1) (spanC (init ++ [(f, t)])) rfl (Hown.out.alloc _) ⟨w.heap.size, 0, none⟩ 1 1 [.int .i64 i, .int .i64 (i + 1)] rfl rfl (news2 _ _ _ _ _ rfl) (by simp [Value.oneCell']) ?c3 ?c4 ?c5 ?_)
     case c3 => unfold maxLen; omega
     case c4 => omega
     case c5 => simp; omega
     intro v' w1 ho hg _ hat
     have Ho : Hid (w1.ownsRow B 77 2 v' (widL (init ++ [(f, t)]) i).length (spanC (widL (init ++ [(f, t)]) i))) := by
      unfold Hid; rw [hw.out, spanC_app]
      have e : (init ++ [(f, t)] ++ [(i, i + 1)]).length = k + 1 + 1 := by rw [← Hk.out]; simp
      rw [e]; exact ho
     have Hs := Lib.hid (Step.of_alloc hg (by rw [World.size_alloc]; exact hat))
     clear ho hg hat
     go_wp2
     go_ret
     exact ⟨_, rfl, Ho.out, Hs.out⟩
theorem part_setG {α : Type} (f : α → Value) (l : List α) (z : Value) (n k : Nat) (hk : k < l.length) (hn : n = l.length) : ((l.take k).map f ++ List.replicate (n - k) z).set k (f l[k]) = (l.take (k + 1)).map f ++ List.replicate (n - (k + 1)) z := by
 subst hn
 have hl : ((l.take k).map f).length = k := by simp; omega
 have he : l.length - k = (l.length - (k + 1)) + 1 := by omega
 rw [he, List.replicate_succ, List.set_append_right _ _ (by omega), hl, Nat.sub_self, List.take_succ_eq_append_getElem hk]
 simp only [List.map_append, List.append_assoc, List.map_cons, List.map_nil, List.cons_append, List.nil_append, List.set_cons_zero]
theorem spanC_get (l : List (Int × Int)) (k : Nat) (hk : k < l.length) : (spanC l)[k * 2]? = some (.int .i64 l[k].1) ∧ (spanC l)[k * 2 + 1]? = some (.int .i64 l[k].2) := by
 induction l generalizing k with
 | nil => simp at hk
 | cons p l ih =>
   match k, hk with
   | 0, _ => exact ⟨rfl, rfl⟩
   | k + 1, hk =>
     have h := ih k (by simpa using hk)
     have e1 : (k + 1) * 2 = k * 2 + 2 := by omega
     have e2 : (k + 1) * 2 + 1 = k * 2 + 1 + 2 := by omega
     rw [e1, show k * 2 + 2 + 1 = k * 2 + 1 + 2 by omega]
     exact ⟨by simpa [spanC] using h.1, by simpa [spanC] using h.2⟩
theorem Rd.span {w : World} {A : Option Addr} {l : List (Int × Int)} (h : Rd w A (spanC l)) {k : Nat} (hk : k < l.length) : ∃ b off, A = some ⟨b, off, none⟩ ∧ w.cell? ⟨b, off + k * 2, none⟩ = some (.int .i64 l[k].1) ∧ w.cell? ⟨b, off + k * 2 + 1, none⟩ = some (.int .i64 l[k].2) := by
 obtain ⟨h1, h2⟩ := spanC_get l k hk
 obtain ⟨b, off, hA, hc1⟩ := h _ _ h1
 obtain ⟨b', off', hA', hc2⟩ := h _ _ h2
 rw [hA] at hA'
 cases hA'
 exact ⟨b, off, hA, hc1, by rw [Nat.add_assoc]; exact hc2⟩
def sameSp : List (Int × Int) → List (Int × Int) → Bool
 | [], [] => true
 | p :: l, q :: m => (p.1 == q.1 && p.2 == q.2) && sameSp l m
 | _, _ => false
theorem sameSp_length {l m : List (Int × Int)} (h : l.length ≠ m.length) : sameSp l m = false := by
 induction l generalizing m with
 | nil => cases m with
   | nil => exact absurd rfl h
   | cons q m => rfl
 | cons p l ih => cases m with
   | nil => rfl
   | cons q m => rw [sameSp, ih (by simpa using h), Bool.and_false]
theorem sameSp_drop {l m : List (Int × Int)} {k : Nat} (hx : k < l.length) (hy : k < m.length) : sameSp (l.drop k) (m.drop k) = ((l[k].1 == m[k].1 && l[k].2 == m[k].2) && sameSp (l.drop (k + 1)) (m.drop (k + 1))) := by
 rw [List.drop_eq_getElem_cons hx, List.drop_eq_getElem_cons hy, sameSp]
theorem fields94 : ((Tryz.prog.fieldsOf 77).toList.map fun f => (f.name, f.type, f.offset)) = [("From", 3, 0), ("To", 3, 1)] := by kernel_rfl
theorem neqSpan (a b c d : Int) (w : World) : (binOp .neq 77 (.agg #[.int .i64 a, .int .i64 b]) (.agg #[.int .i64 c, .int .i64 d])).run Tryz.prog w = .ok (.bool (!(a == c && b == d))) w := by
 have i3 := Tryz.underlying3
 have e1 : ∀ a b : Int, (part 3 #[.int .i64 a, .int .i64 b] 0).run Tryz.prog w = .ok (.int .i64 a) w := fun a b => part_int _ _ _ rfl w
 have e2 : ∀ a b : Int, (part 3 #[.int .i64 a, .int .i64 b] 1).run Tryz.prog w = .ok (.int .i64 b) w := fun a b => part_int _ _ _ rfl w
 have e4 := fun (a b : Int) => run_equalIn_int (P := Tryz.prog) w 9998 3 .i64 .i64 a b i3
 have n1 : ("From" : String) ≠ "_" := by decide
 have n2 : ("To" : String) ≠ "_" := by decide
 rw [run_neq_struct, run_eqStruct w 9999 _ _ _ _ (by kernel_rfl) (by kernel_rfl) fields94]
 simp only [eqTriples, if_pos n1, if_pos n2, Sem.run_bind, e1, e2, e4, Result.andThen_ok, Sem.run_ite, Sem.run_pure]
 cases a == c <;> cases b == d <;> simp [e1, e2, e4]
set_option maxHeartbeats 400000 in
theorem sameSpans_any (A B : Option Addr) (n m c d : Nat) (xs ys : List (Int × Int)) (w : World) (hA : Rd w A (spanC xs)) (hB : Rd w B (spanC ys)) (hn : n = xs.length) (hm : m = ys.length) (hx : xs.length ≤ 4611686018427387903) :
 Calls Tryz.prog 41 #[.slice A n c, .slice B m d] w fun e w' => e = .returned (.bool (sameSp xs ys)) ∧ ∃ q, w' = w.drewN q := by
 subst hn; subst hm
 by_cases hl : xs.length = ys.length
 · have hl1 : ((xs.length : Int) != (ys.length : Int)) = false := by rw [bne_eq_false_iff_eq]; omega
   have HL := Lib.hid hl; clear hl
   go_enter Tryz.func41, Tryz.ntmps41
   go_wp2
   go_loopw [5] (fun i wr => ∃ k : Nat, k ≤ xs.length ∧ i = .int .i64 k ∧ Hid (sameSp (xs.drop k) (ys.drop k) = sameSp xs ys) ∧ ∃ q, wr = w.drewN q) (fun i _ => xs.length - (intOf i).toNat)
   case atStart => exact ⟨0, Nat.zero_le _, rfl, rfl, 0, rfl⟩
   case round =>
    obtain ⟨k, hk, rfl, H, q, rfl⟩ := hrel
    by_cases hlt : k < xs.length
    · have hlt2 : k < ys.length := by rw [← HL.out]; exact hlt
      obtain ⟨b, off, rfl, hc1, hc2⟩ := Rd.span hA hlt
      obtain ⟨b', off', rfl, hc1', hc2'⟩ := Rd.span hB hlt2
      have i1 : (k : Int) < (xs.length : Int) := by omega
      have i2 : (k : Int) < (ys.length : Int) := by omega
      have HS := Lib.hid (sameSp_drop hlt hlt2)
      have hneq := neqSpan xs[k].1 xs[k].2 ys[k].1 ys[k].2
      cases ho : (xs[k].1 == ys[k].1 && xs[k].2 == ys[k].2)
      · have Ho := Lib.hid ho
        rw [ho] at hneq
        clear ho
        go_wp2
        go_quiet (fail)
        go_wp2
        go_ret
        exact ⟨ret_bool (by rw [← H.out, HS.out, Ho.out]; rfl), q + _, by rw [World.drewN_drewN]⟩
      · have Ho := Lib.hid ho
        rw [ho] at hneq
        clear ho
        go_wp2
        go_quiet (fail)
        go_wp2
        go_roundw
        case rel => exact ⟨k + 1, by omega, by go_num, by show _ = _; rw [← H.out, HS.out, Ho.out]; rfl, _, rfl⟩
        case measure => simp [intOf]; omega
    · go_wp2
      go_ret
      exact ⟨ret_bool (by rw [← H.out, List.drop_of_length_le (by omega), List.drop_of_length_le (by rw [← HL.out]; omega)]; rfl), q, rfl⟩
 · have hl1 : ((xs.length : Int) != (ys.length : Int)) = true := by rw [bne_iff_ne]; omega
   have HL := Lib.hid hl; clear hl
   go_enter Tryz.func41, Tryz.ntmps41
   go_wp2
   go_ret
   exact ⟨ret_bool (sameSp_length HL.out).symm, 0, rfl⟩
def strs (l : List ByteArray) : List Value := l.map Value.string


def Tz (w : World) : Prop := w.cell? ⟨5, 1, none⟩ = some (.int .u8 1)
theorem Tz.old {w w' : World} (h : Tz w) (hb : Below w.heap.size w w') : Tz w' := (hb.cell (World.block_lt_of_cell? w _ h)).trans h
end Go.Proofs.YtaknlhepgeiekaaGreatDoor
namespace Go.Proofs.YtaknlhepgeiekaaGreatDoor
set_option linter.all false
open Go.RowKit Go.Maps

end Go.Proofs.YtaknlhepgeiekaaGreatDoor
namespace Go.Proofs.YtaknlhepgeiekaaGreatDoor
set_option linter.all false
open Go.RowKit Go.Fl


end Go.Proofs.YtaknlhepgeiekaaGreatDoor
namespace Go.Proofs.YtaknlhepgeiekaaGreatDoor
set_option linter.all false
open Go.RowKit Go.Fl Ieee

end Go.Proofs.YtaknlhepgeiekaaGreatDoor
