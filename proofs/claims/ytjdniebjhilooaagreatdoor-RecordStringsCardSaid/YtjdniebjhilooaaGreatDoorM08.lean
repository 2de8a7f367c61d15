import Derived.Test.YtjdniebjhilooaaGreatDoorM07
import Derived.Laws.AppendOwnNone
import Derived.Maps.AppendAt
import Derived.Laws.OwnMore
import Derived.IntWalk
import Derived.ChangeKeysEq
namespace Go.Proofs.YtjdniebjhilooaaGreatDoor
set_option linter.all false
open Go.RowKit Go.Fl
theorem wpList_app {P : Program} {w : World} {ops : Array Oper} {rest : List Oper} {o : Oper} {a : Act} {Q : Exit → Act → World → Prop} (hgd : o.guard = none) (s x : Operand) (t : TypeId)
 (ho : o.op = .call { callee := .builtin .append, args := #[s, x], argTypes := #[t, t] })
 (base : Nat) (e : TypeId) (z : Value) (size bytes : Nat) (ht : P.underlying t = some (.slice e)) (hinfo : (P.info? e).map (fun i => (i.zero, i.size, i.bytes)) = some (some z, size, bytes)) (hzs : z.cells.size = size) (hsz : 0 < size)
 (v : Value) (n : Nat) (xs : List Value) (hs : a.eval s = v) (hown : w.ownsRow base e size v n xs)
 (A : Option Addr) (m c : Nat) (news : List Value) (hx : a.eval x = .slice A m c) (hc : A = none → c = 0) (hr : Rd w A news) (hl : news.length = m * size) (h1 : ∀ u ∈ news, u.oneCell' = true)
 (h63 : n + m ≤ maxLen) (hbytes : (n + m) * bytes ≤ 140737488355328) (hbase : base ≤ w.heap.size)
 (h : ∀ v' w', w'.ownsRow base e size v' (n + m) (xs ++ news) → w.grownBy w' v.ownBlock → wpList P ops Q rest (a.put o.dst v') w') : wpList P ops Q (o :: rest) a w := by
 obtain ⟨i, hi, hz0, hz1, hz2⟩ := info_parts hinfo
 cases hA : A with
 | none =>
   have hn : news = [] := by
    cases news with
    | nil => rfl
    | cons u us =>
      obtain ⟨b, off, hh, _⟩ := hr 0 u rfl
      rw [hA] at hh; cases hh
   subst hn
   have hm : m = 0 := by
    have h0 : 0 = m * size := hl
    rcases Nat.mul_eq_zero.1 h0.symm with h | h
    · exact h
    · omega
   subst hm
   rw [hA, hc hA] at hx
   refine wpList_append_own_none hgd s x t ho base e i size ht hi v n xs hs hown hx (h v w (by simpa using hown) (World.grownBy.refl w _))
 | some ad =>
   have hcells : ∀ j u, news[j]? = some u → w.cell? (ad.add j) = some u := by
    intro j u hu
    obtain ⟨b, off, hh, hcell⟩ := hr j u hu
    rw [hA] at hh
    cases hh
    by_cases hj : j = 0
    · subst hj; simpa [Addr.add] using hcell
    · simpa [Addr.add, hj] using hcell
   rw [hA] at hx
   exact wpList_append_own w hgd s x t ho base e i z size bytes ht hi hz0 hz1 hz2 hzs hsz v n xs hs hown ad m c news hx hl hcells h1 h63 hbytes hbase fun v' w' h2 h3 _ => h v' w' h2 h3
theorem ownsRow.empty (w : World) (e : TypeId) (size : Nat) : (w.alloc (.cells #[] e)).ownsRow w.heap.size e size (.slice (some ⟨w.heap.size, 0, none⟩) 0 0) 0 [] :=
 World.ownsRow_made w #[] 0 (Nat.le_refl _) (by unfold maxLen; decide) (by simp)
theorem info37 : (Tryz.prog.info? 56).map (fun i => (i.zero, i.size, i.bytes)) = some (some (.float .f32 0), 1, 4) := by kernel_rfl
theorem info5 : (Tryz.prog.info? 5).map (fun i => (i.zero, i.size, i.bytes)) = some (some (.int .u8 0), 1, 1) := by kernel_rfl
set_option maxHeartbeats 400000 in
theorem floats_any (A : Option Addr) (n c : Nat) (xs : List Nat) (w : World) (hA : Rd w A (flts xs)) (hn : n = xs.length) (hc : A = none → c = 0) (hm : xs.length ≤ 4294967296) :
 Calls Tryz.prog 27 #[.slice A n c] w fun e w' => ∃ v, e = .returned v ∧ w'.ownsRow w.heap.size 56 1 v xs.length (flts xs) ∧ Below w.heap.size w w' := by
 subst hn
 have hA2 := Lib.hid (hA.below ((Below.refl _ _).alloc (Nat.le_refl _) (.cells #[] 56)))
 go_enter Tryz.func27, Tryz.ntmps27
 go_wp2_with (at_builtin; refine wpList_app rfl _ _ 22 rfl w.heap.size 56 (.float .f32 0) 1 4 Tryz.underlying22 info37 rfl (by decide) _ 0 [] rfl (ownsRow.empty w 56 1) A xs.length c (flts xs) rfl hc hA2.out (by simp [flts]) ?c1 ?c2 ?c3 ?c4 ?_)
 case c1 => simp [flts, Value.oneCell']
 case c2 => unfold maxLen; omega
 case c3 => omega
 case c4 => simp
 intro v' w1 hown hg
 have Hown : Hid (w1.ownsRow w.heap.size 56 1 v' xs.length (flts xs)) := by unfold Hid; simpa using hown
 have Hb := Lib.hid (((Below.refl w.heap.size w).alloc (Nat.le_refl _) (.cells #[] 56)).grown hg (by simp) (fun k hk => by simp [Value.ownBlock] at hk; omega))
 clear hown hg
 go_wp2
 go_ret
 exact ⟨_, rfl, Hown.out, Hb.out⟩
def sameF : List Nat → List Nat → Bool
 | [], [] => true
 | x :: xs, y :: ys => (FloatKind.f32.format.order x y == some .eq) && sameF xs ys
 | _, _ => false
theorem sameF_length {xs ys : List Nat} (h : xs.length ≠ ys.length) : sameF xs ys = false := by
 induction xs generalizing ys with
 | nil => cases ys with
   | nil => exact absurd rfl h
   | cons => rfl
 | cons x xs ih => cases ys with
   | nil => rfl
   | cons y ys => rw [sameF, ih (by simpa using h), Bool.and_false]
theorem sameF_drop {xs ys : List Nat} {k : Nat} (hx : k < xs.length) (hy : k < ys.length) : sameF (xs.drop k) (ys.drop k) = ((FloatKind.f32.format.order xs[k] ys[k] == some .eq) && sameF (xs.drop (k + 1)) (ys.drop (k + 1))) := by
 rw [List.drop_eq_getElem_cons hx, List.drop_eq_getElem_cons hy, sameF]
def byts (xs : List UInt8) : List Value := xs.map fun b => .int .u8 (b.toNat : Int)
set_option maxHeartbeats 400000 in
theorem sameSamples_any (A B : Option Addr) (n m c d : Nat) (xs ys : List Nat) (w : World) (hA : Rd w A (flts xs)) (hB : Rd w B (flts ys)) (hn : n = xs.length) (hm : m = ys.length) (hx : xs.length ≤ 9223372036854775807) :
 Calls Tryz.prog 29 #[.slice A n c, .slice B m d] w fun e w' => e = .returned (.bool (sameF xs ys)) ∧ ∃ q, w' = w.drewN q := by
 subst hn; subst hm
 by_cases hl : xs.length = ys.length
 · have hl1 : ((xs.length : Int) != (ys.length : Int)) = false := by rw [bne_eq_false_iff_eq]; omega
   have HL := Lib.hid hl; clear hl
   go_enter Tryz.func29, Tryz.ntmps29
   go_wp2
   go_loopw [5] (fun i wr => ∃ k : Nat, k ≤ xs.length ∧ i = .int .i64 k ∧ Hid (sameF (xs.drop k) (ys.drop k) = sameF xs ys) ∧ ∃ q, wr = w.drewN q) (fun i _ => xs.length - (intOf i).toNat)
   case atStart => exact ⟨0, Nat.zero_le _, rfl, rfl, 0, rfl⟩
   case round =>
    obtain ⟨k, hk, rfl, H, q, rfl⟩ := hrel
    by_cases hlt : k < xs.length
    · have hlt2 : k < ys.length := by rw [← HL.out]; exact hlt
      obtain ⟨b, off, rfl, hc⟩ := Rd.flt hA hlt
      obtain ⟨b', off', rfl, hc'⟩ := Rd.flt hB hlt2
      have i1 : (k : Int) < (xs.length : Int) := by omega
      have i2 : (k : Int) < (ys.length : Int) := by omega
      have HS := Lib.hid (sameF_drop hlt hlt2)
      cases ho : (FloatKind.f32.format.order xs[k] ys[k] == some .eq)
      · have ho2 : (FloatKind.f32.format.order xs[k] ys[k] != some .eq) = true := by rw [bne, ho]; rfl
        have Ho := Lib.hid ho; clear ho
        go_wp2
        go_quiet (fail)
        go_wp2
        go_ret
        exact ⟨ret_bool (by rw [← H.out, HS.out, Ho.out]; rfl), q + _, by rw [World.drewN_drewN]⟩
      · have ho2 : (FloatKind.f32.format.order xs[k] ys[k] != some .eq) = false := by rw [bne, ho]; rfl
        have Ho := Lib.hid ho; clear ho
        go_wp2
        go_quiet (fail)
        go_wp2
        go_roundw
        case rel => exact ⟨k + 1, by omega, by go_num, by show _ = _; rw [← H.out, HS.out, Ho.out]; rfl, _, rfl⟩
        case measure => simp [intOf]; omega
    · go_wp2
      go_ret
      exact ⟨ret_bool (by rw [← H.out, List.drop_of_length_le (by omega), List.drop_of_length_le (by rw [← HL.out]; omega)]; rfl), q, rfl⟩
 · have hl1 : ((xs.length : Int) != (ys.length : Int)) = true := by rw [bne_iff_ne]; omega
   have HL := Lib.hid hl; clear hl
   go_enter Tryz.func29, Tryz.ntmps29
   go_wp2
   go_ret
   exact ⟨ret_bool (sameF_length HL.out).symm, 0, rfl⟩
def spanC (l : List (Int × Int)) : List Value := l.flatMap fun p => [.int .i64 p.1, .int .i64 p.2]
theorem spanC_length (l : List (Int × Int)) : (spanC l).length = l.length * 2 := by
 induction l with
 | nil => rfl
 | cons p l ih => simp only [spanC, List.flatMap_cons, List.length_append, List.length_cons, List.length_nil] at ih ⊢; omega
theorem spanC_app (l m : List (Int × Int)) : spanC (l ++ m) = spanC l ++ spanC m := by simp [spanC]
def widL (l : List (Int × Int)) (i : Int) : List (Int × Int) := match l.getLast? with
 | some p => if p.2 = i then l.dropLast ++ [(p.1, i + 1)] else l ++ [(i, i + 1)]
 | none => [(i, i + 1)]
def Step (w w' : World) (v v' : Value) : Prop := w.grownBy w' v.ownBlock ∧ (v'.ownBlock = v.ownBlock ∨ ∃ k, v'.ownBlock = some k ∧ w.heap.size ≤ k)
theorem Step.keep {w w' : World} {v v' u : Value} {B : Nat} {e : TypeId} {s n : Nat} {xs : List Value} (h : Step w w' v v') (hu : w.ownsRow B e s u n xs) (hd : u.ownBlock = none ∨ u.ownBlock ≠ v.ownBlock) : w'.ownsRow B e s u n xs ∧ (u.ownBlock = none ∨ u.ownBlock ≠ v'.ownBlock) := by
 refine ⟨hu.kept h.1 hd, ?_⟩
 rcases h.2 with h2 | ⟨k, hk, hk2⟩
 · rw [h2]; exact hd
 · rcases hd with hd | hd
   · exact .inl hd
   · cases hub : u.ownBlock with
     | none => exact .inl rfl
     | some j =>
       refine .inr ?_
       have := (hu.lt j hub).2
       rw [hk]
       intro hh
       cases hh
       omega
theorem Step.below {w w' : World} {v v' : Value} {B : Nat} {e : TypeId} {s n : Nat} {xs : List Value} (h : Step w w' v v') (hv : w.ownsRow B e s v n xs) (hB : B ≤ w.heap.size) : Below B w w' :=
 (Below.refl B w).grown h.1 hB (fun k hk => (hv.lt k hk).1)
theorem Step.of_alloc {w w' : World} {v v' : Value} {o : Obj} (h : (w.alloc o).grownBy w' v.ownBlock) (h2 : v'.ownBlock = v.ownBlock ∨ v'.ownBlock = some (w.alloc o).heap.size) : Step w w' v v' := by
 refine ⟨⟨h.os, h.tape, h.output, by have := h.size; simp at this; omega, fun k hk hne => (h.block k (by simp; omega) hne).trans ((Below.heap_alloc w o k hk))⟩, ?_⟩
 rcases h2 with h2 | h2
 · exact .inl h2
 · exact .inr ⟨_, h2, by simp⟩
theorem news2 (w : World) (u u' : Value) (t : TypeId) (a : Addr) (ha : a = ⟨w.heap.size, 0, none⟩) : ∀ j x, [u, u'][j]? = some x → (w.alloc (.cells #[u, u'] t)).cell? (a.add j) = some x := by
 subst ha
 intro j x hx
 match j, hx with
 | 0, hx => simp at hx; subst hx; simp [Addr.add]
 | 1, hx => simp at hx; subst hx; simp [Addr.add]
theorem info94 : (Tryz.prog.info? 70).map (fun i => (i.zero, i.size, i.bytes)) = some (some (.agg #[.int .i64 0, .int .i64 0]), 2, 16) := by kernel_rfl
set_option maxRecDepth 100000 in
set_option maxHeartbeats 600000 in
theorem widened_any (B : Nat) (v : Value) (l : List (Int × Int)) (i : Int) (w : World) (hown : w.ownsRow B 70 2 v l.length (spanC l)) (hB : B ≤ w.heap.size) (hl : l.length ≤ 1000000) (hi : 0 ≤ i ∧ i ≤ 1000000000) :
 Calls Tryz.prog 75 #[v, .int .i64 i] w fun e w' => ∃ v', e = .returned v' ∧ w'.ownsRow B 70 2 v' (widL l i).length (spanC (widL l i)) ∧ Step w w' v v' := by
 obtain ⟨i0, hi0, hz0, hz1, hz2⟩ := info_parts info94
 rcases List.eq_nil_or_concat l with rfl | ⟨init, p, rfl⟩
 · have hv : v = .slice none 0 0 ∨ ∃ g cap, v = .slice (some ⟨g, 0, none⟩) 0 cap := by
    rcases hown.2 with ⟨h, _⟩ | ⟨g, cap, cur, h, _⟩
    · exact .inl h
    · exact .inr ⟨g, cap, h⟩
   have hw : Hid (widL [] i = [] ++ [(i, i + 1)]) := rfl
   have Hown := Lib.hid hown
   clear hown
   obtain ⟨A, c, rfl⟩ : ∃ A c, v = .slice A 0 c := by
    rcases hv with rfl | ⟨g, cap, rfl⟩
    · exact ⟨_, _, rfl⟩
    · exact ⟨_, _, rfl⟩
   clear hv
   go_enter Tryz.func75, Tryz.ntmps75
   go_wp2_with (at_builtin; refine wpList_append_own_at _ rfl _ _ 65 rfl B 70 i0 (.agg #[.int .i64 0, .int .i64 0]) 2 16 Tryz.underlying65 hi0 hz0 hz1 hz2 rfl (by decide) _ 0 [] rfl (Hown.out.alloc _) ⟨w.heap.size, 0, none⟩ 1 1 [.int .i64 i, .int .i64 (i + 1)] rfl rfl (news2 _ _ _ _ _ rfl) (by simp [Value.oneCell']) ?c3 ?c4 ?c5 ?_)
   case c3 => unfold maxLen; omega
   case c4 => omega
   case c5 => simp; omega
   intro v' w1 ho hg _ hat
   have Ho : Hid (w1.ownsRow B 70 2 v' (widL [] i).length (spanC (widL [] i))) := by unfold Hid; rw [hw.out, spanC_app]; simpa [spanC] using ho
   have Hs := Lib.hid (Step.of_alloc hg (by rw [World.size_alloc]; exact hat))
   clear ho hg hat
   go_wp2
   go_ret
   exact ⟨_, rfl, Ho.out, Hs.out⟩
 · obtain ⟨f, t⟩ := p
   rw [List.concat_eq_append] at *
   obtain ⟨g, cap, rfl, hBg, hgs⟩ := ownsRow.addr hown (by simp)
   have hlen : (init ++ [(f, t)]).length = init.length + 1 := by simp
   rw [hlen] at hown hl
   have hcell : w.cell? ⟨g, init.length * 2 + 1, none⟩ = some (.int .i64 t) := by
    rw [hown.cellAt _ (by omega), spanC_app, List.getElem?_append_right (by rw [spanC_length]; omega), spanC_length]
    have : init.length * 2 + 1 - init.length * 2 = 1 := by omega
    rw [this]; rfl
   have hfree := hown.frozenAt (init.length * 2 + 1)
   have hst := hown.stored (init.length * 2 + 1) (.int .i64 (i + 1))
   have Hown := Lib.hid hown
   have Hst := Lib.hid hst
   clear hown hst
   obtain ⟨k, hk⟩ : ∃ k, init.length = k := ⟨_, rfl⟩
   have Hk := Lib.hid hk
   rw [hk] at hcell hfree hl hlen
   clear hk
   have h1 : IntKind.i64.wrap ((k : Int) + 1 - 1) = (k : Int) := by rw [show (k : Int) + 1 - 1 = k by omega]; exact IntWalk.i64_in _ (by omega)
   by_cases hti : t = i
   · subst hti
     have hw : Hid (widL (init ++ [(f, t)]) t = init ++ [(f, t + 1)]) := by unfold Hid widL; simp
     rw [hlen]
     clear hlen
     go_enter Tryz.func75, Tryz.ntmps75
     go_wp2
     go_ret
     have e : (widL (init ++ [(f, t)]) t).length = k + 1 := by rw [hw.out, ← Hk.out]; simp
     have e2 : (spanC (init ++ [(f, t)])).set (k * 2 + 1) (.int .i64 (t + 1)) = spanC (widL (init ++ [(f, t)]) t) := by
      rw [hw.out, spanC_app, spanC_app, List.set_append_right _ _ (by rw [spanC_length, Hk.out]; omega), spanC_length, Hk.out]
      have : k * 2 + 1 - k * 2 = 1 := by omega
      rw [this]; rfl
     have h := Hst.out
     rw [Hk.out, e2] at h
     exact ⟨_, rfl, by rw [e]; exact h.1, h.2, .inl rfl⟩
   · have hti2 : (t == i) = false := by simpa using hti
     have hw : Hid (widL (init ++ [(f, t)]) i = (init ++ [(f, t)]) ++ [(i, i + 1)]) := by unfold Hid widL; simp [hti]
     have Hti := Lib.hid hti
     rw [Hk.out] at Hown
     rw [hlen]
     clear hlen hti Hst
     go_enter Tryz.func75, Tryz.ntmps75
     go_wp2_with (at_builtin; refine wpList_append_own_at _ rfl _ _ 65 rfl B 70 i0 (.agg #[.int .i64 0, .int .i64 0]) 2 16 Tryz.underlying65 hi0 hz0 hz1 hz2 rfl (by decide) _ (k + 1) (spanC (init ++ [(f, t)])) rfl (Hown.out.alloc _) ⟨w.heap.size, 0, none⟩ 1 1 [.int .i64 i, .int .i64 (i + 1)] rfl rfl (news2 _ _ _ _ _ rfl) (by simp [Value.oneCell']) ?c3 ?c4 ?c5 ?_)
     case c3 => unfold maxLen; omega
     case c4 => omega
     case c5 => simp; omega
     intro v' w1 ho hg _ hat
     have Ho : Hid (w1.ownsRow B 70 2 v' (widL (init ++ [(f, t)]) i).length (spanC (widL (init ++ [(f, t)]) i))) := by
      unfold Hid; rw [hw.out, spanC_app]
      have e : (init ++ [(f, t)] ++ [(i, i + 1)]).length = k + 1 + 1 := by rw [← Hk.out]; simp
      rw [e]; exact ho
     have Hs := Lib.hid (Step.of_alloc hg (by rw [World.size_alloc]; exact hat))
     clear ho hg hat
     go_wp2
     go_ret
     exact ⟨_, rfl, Ho.out, Hs.out⟩
def stepX (j : Nat) (x b : Int) : Int := ((10 * j + 7) * x + b + 3 * j + 5) % 256
def sealB (j : Nat) (x : Int) (bs : List UInt8) : Int := bs.foldl (fun x b => stepX j x b.toNat) x
def sealGo (bs : List UInt8) : Nat → List Int → List Int
 | _, [] => []
 | j, x :: xs => sealB j x bs :: sealGo bs (j + 1) xs
def sealL (key : List Int) (bs : List UInt8) : List Int := sealGo bs 0 key
def u8s (xs : List Int) : List Value := xs.map (Value.int .u8)
def keyV (xs : List Int) : Value := .agg (u8s xs).toArray
def isByte (x : Int) : Prop := 0 ≤ x ∧ x ≤ 255
theorem index_key (k0 k1 k2 k3 k4 k5 k6 k7 : Int) (j : Nat) (hj : j < 8) (w : World) :
 (Instr.index 46 (.agg #[.int .u8 k0, .int .u8 k1, .int .u8 k2, .int .u8 k3, .int .u8 k4, .int .u8 k5, .int .u8 k6, .int .u8 k7]) (.int .i64 (j : Int))).run Tryz.prog w = .ok (.int .u8 ([k0, k1, k2, k3, k4, k5, k6, k7].getD j 0)) w := by
 rcases (show j = 0 ∨ j = 1 ∨ j = 2 ∨ j = 3 ∨ j = 4 ∨ j = 5 ∨ j = 6 ∨ j = 7 by omega) with rfl | rfl | rfl | rfl | rfl | rfl | rfl | rfl
 all_goals kernel_rfl
theorem sealGo_length (bs : List UInt8) (key : List Int) : ∀ j, (sealGo bs j key).length = key.length := by
 induction key with
 | nil => intro j; rfl
 | cons x xs ih => intro j; simp [sealGo, ih]
theorem sealGo_get (bs : List UInt8) (key : List Int) : ∀ (j i : Nat) (h : i < key.length), (sealGo bs j key)[i]'(by rw [sealGo_length]; exact h) = sealB (j + i) key[i] bs := by
 induction key with
 | nil => intro j i h; simp at h
 | cons x xs ih =>
   intro j i h
   cases i with
   | zero => simp [sealGo]
   | succ i =>
     have := ih (j + 1) i (by simpa using h)
     simp only [sealGo, List.getElem_cons_succ]
     rw [this]; congr 1; omega
def mixL (key : List Int) (bs : List UInt8) (j : Nat) : List Int := (sealL key bs).take j ++ key.drop j
theorem mixL_length (key : List Int) (bs : List UInt8) (j : Nat) (hj : j ≤ key.length) : (mixL key bs j).length = key.length := by
 simp [mixL, sealL, sealGo_length]; omega
theorem mixL_set (key : List Int) (bs : List UInt8) (j : Nat) (hj : j < key.length) : (u8s (mixL key bs j)).set j (.int .u8 (sealB j key[j] bs)) = u8s (mixL key bs (j + 1)) := by
 have hl : ((sealL key bs).take j).length = j := by simp [sealL, sealGo_length]; omega
 have hs : j < (sealL key bs).length := by simp [sealL, sealGo_length]; exact hj
 have hg : (sealL key bs)[j] = sealB j key[j] bs := by
  have := sealGo_get bs key 0 j hj
  simpa [sealL] using this
 have e : u8s (mixL key bs j) = u8s ((sealL key bs).take j) ++ u8s (key.drop j) := by simp [u8s, mixL]
 rw [e, List.drop_eq_getElem_cons hj, mixL, List.take_succ_eq_append_getElem hs, hg]
 rw [List.set_append_right _ _ (by simp [u8s]; omega)]
 have : j - (u8s ((sealL key bs).take j)).length = 0 := by simp [u8s]; omega
 rw [this]
 simp only [u8s, List.map_cons, List.set_cons_zero, List.map_append, List.append_assoc, List.cons_append, List.nil_append]
theorem sealB_snoc (j : Nat) (x : Int) (bs : List UInt8) (k : Nat) (hk : k < bs.length) : sealB j x (bs.take (k + 1)) = stepX j (sealB j x (bs.take k)) bs[k].toNat := by
 rw [List.take_succ_eq_append_getElem hk, sealB, List.foldl_append]; rfl
theorem stepX_bd (j : Nat) (x b : Int) : 0 ≤ stepX j x b ∧ stepX j x b ≤ 255 := by
 unfold stepX; omega
theorem Rd.byte {w : World} {A : Option Addr} {xs : List UInt8} (h : Rd w A (byts xs)) {j : Nat} (hj : j < xs.length) : ∃ b off, A = some ⟨b, off, none⟩ ∧ w.cell? ⟨b, off + j, none⟩ = some (.int .u8 (xs[j].toNat : Int)) := by
 obtain ⟨b, off, h1, h2⟩ := Rd.at h (j := j) (by simpa [byts] using hj)
 exact ⟨b, off, h1, by rw [h2]; simp [byts]⟩
theorem stepX_wrap (j : Nat) (x b : Int) : (((10 * (j : Int) + 7) * x + b) % 256 + (3 * (j : Int) + 5)) % 256 = stepX j x b := by
 unfold stepX; omega
theorem info47 : (Tryz.prog.info? 46).map (·.size) = some 8 := by kernel_rfl
set_option maxRecDepth 100000 in
set_option maxHeartbeats 1000000 in
theorem sealed_any (k0 k1 k2 k3 k4 k5 k6 k7 : Int) (A : Option Addr) (n c : Nat) (bs : List UInt8) (w : World) (hA : Rd w A (byts bs)) (hn : n = bs.length) (hm : bs.length ≤ 9223372036854775807) (hkeys : ∀ j (h : j < 8), isByte ([k0, k1, k2, k3, k4, k5, k6, k7][j])) :
 Calls Tryz.prog 69 #[.agg #[.int .u8 k0, .int .u8 k1, .int .u8 k2, .int .u8 k3, .int .u8 k4, .int .u8 k5, .int .u8 k6, .int .u8 k7], .slice A n c] w fun e w' => e = .returned (keyV (sealL [k0, k1, k2, k3, k4, k5, k6, k7] bs)) ∧ Below w.heap.size w w' := by
 subst hn
 have hix := fun (j : Nat) (hj : j < 8) W => index_key k0 k1 k2 k3 k4 k5 k6 k7 j hj W
 have Hix := Lib.hid hix
 have Hkeys := Lib.hid hkeys
 clear hix hkeys
 go_enter Tryz.func69, Tryz.ntmps69
 go_wp2
 go_loopw [12] (fun i wr => ∃ j : Nat, j ≤ 8 ∧ i = .int .i64 j ∧ Row wr w.heap.size 46 (u8s (mixL [k0, k1, k2, k3, k4, k5, k6, k7] bs j)) ∧ Row wr (w.heap.size + 1) 46 (u8s [0, 0, 0, 0, 0, 0, 0, 0]) ∧ Below w.heap.size w wr) (fun i _ => 8 - (intOf i).toNat)
 case atStart => exact ⟨0, Nat.zero_le _, rfl, (Row.new w 46 (u8s [k0, k1, k2, k3, k4, k5, k6, k7])).alloc _, by have := Row.new (w.alloc (.cells (u8s [k0, k1, k2, k3, k4, k5, k6, k7]).toArray 46)) 46 (u8s [0, 0, 0, 0, 0, 0, 0, 0]); rw [World.size_alloc] at this; exact this, by repeat (first | exact Below.refl _ _ | refine below_drewN ?_ _ | refine Below.drew ?_ | refine Below.alloc ?_ (by simp) _)⟩
 case round =>
  obtain ⟨j, hj, rfl, hrow, hres, hb⟩ := hrel
  by_cases hlt : j < 8
  · obtain ⟨kj, hkj⟩ : ∃ kj, [k0, k1, k2, k3, k4, k5, k6, k7].getD j 0 = kj := ⟨_, rfl⟩
    have hi := fun W => Hix.out j hlt W
    rw [hkj] at hi
    have hset := Lib.hid (mixL_set [k0, k1, k2, k3, k4, k5, k6, k7] bs j hlt)
    have HK : Hid ([k0, k1, k2, k3, k4, k5, k6, k7][j] = kj) := by unfold Hid; rw [← hkj]; simp [hlt]
    have hkb := Lib.hid (Hkeys.out j hlt)
    have hA2 := Lib.hid (hA.below hb)
    obtain ⟨v0, hc0⟩ : ∃ v0, wr.cell? ⟨w.heap.size, j, none⟩ = some v0 := ⟨_, hrow.cellAt (by have := mixL_length [k0, k1, k2, k3, k4, k5, k6, k7] bs j (by simpa using hj); simp [u8s, this]; omega)⟩
    have hf0 := hrow.free j
    have Hrow := Lib.hid hrow
    have Hres := Lib.hid hres
    have Hb := Lib.hid hb
    clear hrow hres hb hkj
    go_wp2
    go_loop [26, 6] (fun i x => ∃ (k : Nat) (y : Int), k ≤ bs.length ∧ i = .int .i64 k ∧ x = .int .u8 y ∧ 0 ≤ y ∧ y ≤ 255 ∧ Hid (y = sealB j kj (bs.take k))) (fun i _ => bs.length - (intOf i).toNat)
    case atStart => exact ⟨0, kj, Nat.zero_le _, rfl, rfl, by rw [← HK.out]; exact hkb.out.1, by rw [← HK.out]; exact hkb.out.2, rfl⟩
    case round =>
     obtain ⟨k, y, hk, rfl, rfl, y0, y1, H⟩ := hrel
     by_cases hkl : k < bs.length
     · obtain ⟨b, off, rfl, hc⟩ := Rd.byte hA2.out hkl
       have hsn := Lib.hid (sealB_snoc j kj bs k hkl)
       have hst := Lib.hid (stepX_wrap j y bs[k].toNat)
       have hbd := Lib.hid (stepX_bd j y bs[k].toNat)
       go_wp2
       go_round
       case rel => exact ⟨k + 1, stepX j y bs[k].toNat, by omega, by go_num, by rw [hst.out], hbd.out.1, hbd.out.2, by show _ = _; rw [hsn.out, ← H.out]⟩
       case measure => simp [intOf]; omega
     · have he : Hid (y = sealB j kj bs) := by have := H.out; rw [List.take_of_length_le (by omega)] at this; exact this
       go_wp2
       go_roundw
       case rel => exact ⟨j + 1, by omega, by go_num, by rw [← hset.out, HK.out, ← he.out]; exact Hrow.out.set j _, Hres.out.far (by simp) _, Hb.out.setCell (by simp) _⟩
       case measure => simp [intOf]; omega
  · obtain rfl : j = 8 := by omega
    have hr8 : Row wr w.heap.size 46 (u8s (sealL [k0, k1, k2, k3, k4, k5, k6, k7] bs)) := hrow
    obtain ⟨l, hl⟩ : ∃ l, l = sealL [k0, k1, k2, k3, k4, k5, k6, k7] bs := ⟨_, rfl⟩
    have hlen : l.length = 8 := by rw [hl]; simp [sealL, sealGo_length]
    rw [← hl] at hr8
    have He := Lib.hid hl
    have Hr := Lib.hid hr8
    have Hres := Lib.hid hres
    have Hlen := Lib.hid hlen
    clear hrow hr8 hl hlen hres
    go_wp2_with (first | (refine wpList_load_row rfl 46 _ rfl w.heap.size rfl 46 (u8s l).toArray (0, 0) _ Hr.out Tryz.underlying46 rfl ?_ ?_; (rw [info47]; simp [u8s, Hlen.out])) | (refine wpList_store_row rfl 46 _ _ rfl (w.heap.size + 1) (u8s l).toArray rfl rfl 46 _ Hres.out ?_ ?_ ?_ ?_; (rw [info47]; simp [u8s, Hlen.out]); (simp [u8s, Hlen.out]); (simp [u8s, Value.oneCell'])))
    refine bodyPost_ret (v := .agg (u8s l).toArray) (results_cell_row rfl _ _ (w.heap.size + 1) 46 (u8s l).toArray (0, 0) _ rfl (Hres.out.setRow (u8s l)) Tryz.underlying46 rfl ?_) rfl ⟨by rw [← He.out]; rfl, Below.setRow hb (by simp) _⟩
    rw [info47]; simp [u8s, Hlen.out]
-- two bytes
def wholeI (a b : Int) : Int := 256 * a + b
def signI (a b : Int) : Int := if 32768 ≤ wholeI a b then wholeI a b - 65536 else wholeI a b
set_option maxHeartbeats 400000 in
theorem or_bytes (a b : Int) (ha : 0 ≤ a ∧ a ≤ 255) (hb : 0 ≤ b ∧ b ≤ 255) : bits .or .i64 (a * 256) b = wholeI a b := by
 obtain ⟨x, rfl⟩ := Int.eq_ofNat_of_zero_le ha.1
 obtain ⟨y, rfl⟩ := Int.eq_ofNat_of_zero_le hb.1
 have hx : x ≤ 255 := by omega
 have hy : y < 2 ^ 8 := by omega
 show IntKind.i64.wrap ((BitVec.ofInt 64 ((x : Int) * 256) ||| BitVec.ofInt 64 (y : Int)).toNat : Nat) = wholeI x y
 have h1 : (BitVec.ofInt 64 ((x : Int) * 256)).toNat = x * 2 ^ 8 := by
  rw [BitVec.toNat_ofInt]; omega
 have h2 : (BitVec.ofInt 64 (y : Int)).toNat = y := by
  rw [BitVec.toNat_ofInt]; omega
 have h3 : x * 2 ^ 8 ||| y = x * 2 ^ 8 + y := by
  rw [← Nat.shiftLeft_eq, Nat.shiftLeft_add_eq_or_of_lt hy]
 rw [BitVec.toNat_or, h1, h2, h3, IntKind.wrap_i64]
 unfold wholeI
 omega
theorem whole_any (a b : Int) (w : World) (ha : 0 ≤ a ∧ a ≤ 255) (hb : 0 ≤ b ∧ b ≤ 255) : Calls Tryz.prog 71 #[.int .u8 a, .int .u8 b] w fun e w' => e = .returned (.int .i64 (wholeI a b)) ∧ w = w' := by
 go_enter Tryz.func71, Tryz.ntmps71
 go_wp2
 go_ret
 exact ⟨ret_int (or_bytes a b ha hb), rfl⟩
set_option maxHeartbeats 400000 in
theorem halves_any (n : Int) (w : World) (hn : -32768 ≤ n ∧ n ≤ 65535) : Calls Tryz.prog 102 #[.int .i64 n] w fun e w' => e = .returned (.tuple #[.int .u8 (n % 65536 / 256), .int .u8 (n % 256)]) ∧ w = w' := by
 go_enter Tryz.func102, Tryz.ntmps102
 go_wp2
 go_ret2
 exact ⟨by rw [show n / 256 % 256 = n % 65536 / 256 by omega]; rfl, rfl⟩
theorem wrap16 (m : Int) (h : 0 ≤ m ∧ m ≤ 65535) : IntKind.i16.wrap m = if 32768 ≤ m then m - 65536 else m := by
 have e : m % (2 ^ IntKind.i16.bits : Int) = m := Int.emod_eq_of_lt h.1 (by simp [IntKind.bits]; omega)
 unfold IntKind.wrap
 simp only [e]
 simp [IntKind.signed, IntKind.bits]
set_option maxHeartbeats 400000 in
theorem signed_any (a b : Int) (w : World) (ha : 0 ≤ a ∧ a ≤ 255) (hb : 0 ≤ b ∧ b ≤ 255) : Calls Tryz.prog 73 #[.int .u8 a, .int .u8 b] w fun e w' => e = .returned (.int .i64 (signI a b)) ∧ w = w' := by
 obtain ⟨m, hm⟩ : ∃ m, m = wholeI a b := ⟨_, rfl⟩
 have hm0 : 0 ≤ m ∧ m ≤ 65535 := by rw [hm]; unfold wholeI; omega
 have Hm := Lib.hid hm
 clear hm
 go_enter Tryz.func73, Tryz.ntmps73
 go_wp2_with (go_at_call 71; refine (whole_any _ _ _ ha hb).mono ?_; rintro e w' ⟨rfl, rfl⟩; rw [← Hm.out])
 go_ret
 exact ⟨ret_int (by rw [wrap16 m hm0, signI, ← Hm.out]; unfold wrap64; split <;> omega), rfl⟩
def unitI (x : Nat) : Int := match V32 x with | some V => cutI V | none => 0
theorem unit_of {x : Nat} (h : sampI x = 0) : ∃ V, Val Ieee.single x V ∧ V.natAbs ≤ 16384 * 2 ^ 145 ∧ unitI x = cutI V := by
 have h2 : partI x 16384 = 0 := by rw [← sampI_eq]; exact h
 unfold partI at h2
 split at h2
 · cases h2
 · have h3 : stepB x 16384 = true := by
    cases hs : stepB x 16384 with
    | true => rfl
    | false => rw [hs] at h2; cases h2
   unfold stepB at h3
   split at h3
   · rename_i V hV
     simp only [Bool.and_eq_true, decide_eq_true_eq] at h3
     exact ⟨V, V32_some hV, h3.1, by unfold unitI; rw [hV]⟩
   · cases h3
theorem unitI_bd {x : Nat} (h : sampI x = 0) : (unitI x).natAbs ≤ 16384 := by
 obtain ⟨V, _, hb, e⟩ := unit_of h
 rw [e]; exact cutI_bd hb
theorem unitI_bd2 {x : Nat} (h : sampI x = 0) : -32768 ≤ unitI x ∧ unitI x ≤ 65535 := by
 have := unitI_bd h; omega
theorem big_lt : 16384 * 2 ^ 145 < 2 ^ 200 := by decide
theorem unitOf_ok (x : Nat) (w : World) (h : sampI x = 0) : Calls Tryz.prog 50 #[.float .f32 x] w fun e w' => e = .returned (.int .i64 (unitI x)) ∧ w = w' := by
 obtain ⟨V, hV, hb, e⟩ := unit_of h
 rw [e]
 exact unitOf_any x V w hV (Nat.lt_of_le_of_lt hb big_lt) (Nat.lt_of_le_of_lt (cutI_bd hb) (by decide))
theorem sixteenths_ok (x : Nat) (w : World) (h : sampI x = 0) : Calls Tryz.prog 63 #[.float .f32 x] w fun e w' => e = .returned (.int .i64 (unitI x)) ∧ w = w' := by
 obtain ⟨V, hV, hb, e⟩ := unit_of h
 rw [e]
 exact sixteenths_any x V w hV (Nat.lt_of_le_of_lt hb big_lt) (Nat.lt_of_le_of_lt (cutI_bd hb) (by decide))
theorem part_setG {α : Type} (f : α → Value) (l : List α) (z : Value) (n k : Nat) (hk : k < l.length) (hn : n = l.length) : ((l.take k).map f ++ List.replicate (n - k) z).set k (f l[k]) = (l.take (k + 1)).map f ++ List.replicate (n - (k + 1)) z := by
 subst hn
 have hl : ((l.take k).map f).length = k := by simp; omega
 have he : l.length - k = (l.length - (k + 1)) + 1 := by omega
 rw [he, List.replicate_succ, List.set_append_right _ _ (by omega), hl, Nat.sub_self, List.take_succ_eq_append_getElem hk]
 simp only [List.map_append, List.append_assoc, List.map_cons, List.map_nil, List.cons_append, List.nil_append, List.set_cons_zero]
set_option maxRecDepth 100000 in
set_option maxHeartbeats 1000000 in
theorem mappedUnit_any (A : Option Addr) (n c : Nat) (xs : List Nat) (w : World) (hA : Rd w A (flts xs)) (hn : n = xs.length) (hm : xs.length ≤ 4096) (hs : ∀ x ∈ xs, sampI x = 0) :
 Calls Tryz.prog 99 #[.slice A n c, .func (.func 50) #[] #[]] w fun e w' => ∃ g, e = .returned (.slice (some ⟨g, 0, none⟩) n n) ∧ Row w' g 3 (ints (xs.map unitI)) ∧ w.heap.size ≤ g ∧ Below w.heap.size w w' := by
 subst hn
 have Hs := Lib.hid hs
 clear hs
 have hmk := fun W : World => make1 (P := Tryz.prog) 92 3 (.int .i64 0) 8 Tryz.underlying92 info3 rfl xs.length (by omega) (by omega) W
 go_enter Tryz.func99, Tryz.ntmps99
 go_wp2
 go_loopw [13] (fun i wr => ∃ k : Nat, k ≤ xs.length ∧ i = .int .i64 k ∧ Row wr w.heap.size 3 (ints ((xs.map unitI).take k) ++ List.replicate (xs.length - k) (.int .i64 0)) ∧ Below w.heap.size w wr) (fun i _ => xs.length - (intOf i).toNat)
 case atStart => exact ⟨0, Nat.zero_le _, rfl, by have := Row.new w 3 (List.replicate xs.length (.int .i64 0)); simpa [ints] using this, (Below.refl _ _).alloc (Nat.le_refl _) _⟩
 case round =>
  obtain ⟨k, hk, rfl, hrow, hb⟩ := hrel
  by_cases hlt : k < xs.length
  · obtain ⟨b, off, rfl, hc⟩ := Rd.flt (hA.below hb) hlt
    have hset := Lib.hid (part_set (xs.map unitI) xs.length k (by simpa using hlt) (by simp))
    have hfk := Lib.hid (show (xs.map unitI)[k]'(by simpa using hlt) = unitI xs[k] by simp)
    have hsk := Lib.hid (Hs.out xs[k] (List.getElem_mem hlt))
    have Hrow := Lib.hid hrow
    have Hb := Lib.hid hb
    have hc1 : wr.cell? ⟨w.heap.size, k, none⟩ = some (.int .i64 0) := by
     rw [hrow.cell]
     exact mid_get _ _ _ _ (by simp [ints]; omega) hlt
    have hf1 := hrow.free k
    clear hrow hb
    go_wp2_with (go_at_call 50; refine (unitOf_ok _ _ hsk.out).mono ?_; rintro e w1 ⟨rfl, rfl⟩)
    go_roundw
    case rel => exact ⟨k + 1, by omega, by go_num, by rw [← hset.out, hfk.out]; exact Hrow.out.set k _, Hb.out.setCell (by simp) _⟩
    case measure => simp [intOf]; omega
  · obtain rfl : k = xs.length := by omega
    go_wp2
    go_ret
    exact ⟨_, rfl, by rw [Nat.sub_self, List.replicate_zero, List.append_nil, List.take_of_length_le (by simp)] at hrow; exact hrow, Nat.le_refl _, hb⟩
def hiI (x : Nat) : Int := unitI x % 65536 / 256
def loI (x : Nat) : Int := unitI x % 256
set_option maxHeartbeats 400000 in
theorem pack1_any (x : Nat) (w : World) (h : sampI x = 0) : Calls Tryz.prog 104 #[.float .f32 x] w fun e w' => e = .returned (.int .u8 (hiI x)) ∧ w = w' := by
 have H := Lib.hid h
 have hb := unitI_bd2 h
 clear h
 go_enter Tryz.func104, Tryz.ntmps104
 go_wp2_with (first | (go_at_call 50; refine (unitOf_ok _ _ H.out).mono ?_; rintro e w1 ⟨rfl, rfl⟩) | (go_at_call 102; refine (halves_any _ _ hb).mono ?_; rintro e w1 ⟨rfl, rfl⟩))
 go_ret
 exact ⟨rfl, rfl⟩
set_option maxHeartbeats 400000 in
theorem pack2_any (x : Nat) (w : World) (h : sampI x = 0) : Calls Tryz.prog 105 #[.float .f32 x] w fun e w' => e = .returned (.int .u8 (loI x)) ∧ w = w' := by
 have H := Lib.hid h
 have hb := unitI_bd2 h
 clear h
 go_enter Tryz.func105, Tryz.ntmps105
 go_wp2_with (first | (go_at_call 50; refine (unitOf_ok _ _ H.out).mono ?_; rintro e w1 ⟨rfl, rfl⟩) | (go_at_call 102; refine (halves_any _ _ hb).mono ?_; rintro e w1 ⟨rfl, rfl⟩))
 go_ret
 exact ⟨rfl, rfl⟩
set_option maxRecDepth 100000 in
set_option maxHeartbeats 1000000 in
theorem mappedHi_any (A : Option Addr) (n c : Nat) (xs : List Nat) (w : World) (hA : Rd w A (flts xs)) (hn : n = xs.length) (hm : xs.length ≤ 4096) (hs : ∀ x ∈ xs, sampI x = 0) :
 Calls Tryz.prog 103 #[.slice A n c, .func (.func 104) #[] #[]] w fun e w' => ∃ g, e = .returned (.slice (some ⟨g, 0, none⟩) n n) ∧ Row w' g 5 (u8s (xs.map hiI)) ∧ w.heap.size ≤ g ∧ Below w.heap.size w w' := by
 subst hn
 have Hs := Lib.hid hs
 clear hs
 have hmk := fun W : World => make1 (P := Tryz.prog) 48 5 (.int .u8 0) 1 Tryz.underlying48 info5 rfl xs.length (by omega) (by omega) W
 go_enter Tryz.func103, Tryz.ntmps103
 go_wp2
 go_loopw [13] (fun i wr => ∃ k : Nat, k ≤ xs.length ∧ i = .int .i64 k ∧ Row wr w.heap.size 5 (((xs.map hiI).take k).map (Value.int .u8) ++ List.replicate (xs.length - k) (.int .u8 0)) ∧ Below w.heap.size w wr) (fun i _ => xs.length - (intOf i).toNat)
 case atStart => exact ⟨0, Nat.zero_le _, rfl, by have := Row.new w 5 (List.replicate xs.length (.int .u8 0)); simpa using this, (Below.refl _ _).alloc (Nat.le_refl _) _⟩
 case round =>
  obtain ⟨k, hk, rfl, hrow, hb⟩ := hrel
  by_cases hlt : k < xs.length
  · obtain ⟨b, off, rfl, hc⟩ := Rd.flt (hA.below hb) hlt
    have hset := Lib.hid (part_setG (Value.int .u8) (xs.map hiI) (.int .u8 0) xs.length k (by simpa using hlt) (by simp))
    have hfk := Lib.hid (show (xs.map hiI)[k]'(by simpa using hlt) = hiI xs[k] by simp)
    have hsk := Lib.hid (Hs.out xs[k] (List.getElem_mem hlt))
    have Hrow := Lib.hid hrow
    have Hb := Lib.hid hb
    have hc1 : wr.cell? ⟨w.heap.size, k, none⟩ = some (.int .u8 0) := by
     rw [hrow.cell]
     exact mid_get _ _ _ _ (by simp; omega) hlt
    have hf1 := hrow.free k
    clear hrow hb
    go_wp2_with (go_at_call 104; refine (pack1_any _ _ hsk.out).mono ?_; rintro e w1 ⟨rfl, rfl⟩)
    go_roundw
    case rel => exact ⟨k + 1, by omega, by go_num, by rw [← hset.out, hfk.out]; exact Hrow.out.set k _, Hb.out.setCell (by simp) _⟩
    case measure => simp [intOf]; omega
  · obtain rfl : k = xs.length := by omega
    go_wp2
    go_ret
    exact ⟨_, rfl, by rw [Nat.sub_self, List.replicate_zero, List.append_nil, List.take_of_length_le (by simp)] at hrow; exact hrow, Nat.le_refl _, hb⟩
set_option maxRecDepth 100000 in
set_option maxHeartbeats 1000000 in
theorem mappedLo_any (A : Option Addr) (n c : Nat) (xs : List Nat) (w : World) (hA : Rd w A (flts xs)) (hn : n = xs.length) (hm : xs.length ≤ 4096) (hs : ∀ x ∈ xs, sampI x = 0) :
 Calls Tryz.prog 103 #[.slice A n c, .func (.func 105) #[] #[]] w fun e w' => ∃ g, e = .returned (.slice (some ⟨g, 0, none⟩) n n) ∧ Row w' g 5 (u8s (xs.map loI)) ∧ w.heap.size ≤ g ∧ Below w.heap.size w w' := by
 subst hn
 have Hs := Lib.hid hs
 clear hs
 have hmk := fun W : World => make1 (P := Tryz.prog) 48 5 (.int .u8 0) 1 Tryz.underlying48 info5 rfl xs.length (by omega) (by omega) W
 go_enter Tryz.func103, Tryz.ntmps103
 go_wp2
 go_loopw [13] (fun i wr => ∃ k : Nat, k ≤ xs.length ∧ i = .int .i64 k ∧ Row wr w.heap.size 5 (((xs.map loI).take k).map (Value.int .u8) ++ List.replicate (xs.length - k) (.int .u8 0)) ∧ Below w.heap.size w wr) (fun i _ => xs.length - (intOf i).toNat)
 case atStart => exact ⟨0, Nat.zero_le _, rfl, by have := Row.new w 5 (List.replicate xs.length (.int .u8 0)); simpa using this, (Below.refl _ _).alloc (Nat.le_refl _) _⟩
 case round =>
  obtain ⟨k, hk, rfl, hrow, hb⟩ := hrel
  by_cases hlt : k < xs.length
  · obtain ⟨b, off, rfl, hc⟩ := Rd.flt (hA.below hb) hlt
    have hset := Lib.hid (part_setG (Value.int .u8) (xs.map loI) (.int .u8 0) xs.length k (by simpa using hlt) (by simp))
    have hfk := Lib.hid (show (xs.map loI)[k]'(by simpa using hlt) = loI xs[k] by simp)
    have hsk := Lib.hid (Hs.out xs[k] (List.getElem_mem hlt))
    have Hrow := Lib.hid hrow
    have Hb := Lib.hid hb
    have hc1 : wr.cell? ⟨w.heap.size, k, none⟩ = some (.int .u8 0) := by
     rw [hrow.cell]
     exact mid_get _ _ _ _ (by simp; omega) hlt
    have hf1 := hrow.free k
    clear hrow hb
    go_wp2_with (go_at_call 105; refine (pack2_any _ _ hsk.out).mono ?_; rintro e w1 ⟨rfl, rfl⟩)
    go_roundw
    case rel => exact ⟨k + 1, by omega, by go_num, by rw [← hset.out, hfk.out]; exact Hrow.out.set k _, Hb.out.setCell (by simp) _⟩
    case measure => simp [intOf]; omega
  · obtain rfl : k = xs.length := by omega
    go_wp2
    go_ret
    exact ⟨_, rfl, by rw [Nat.sub_self, List.replicate_zero, List.append_nil, List.take_of_length_le (by simp)] at hrow; exact hrow, Nat.le_refl _, hb⟩
theorem stored_float (P : Program) (w : World) (a : Addr) (m : Mode) (k : FloatKind) (b : Nat) : (store a (.float k b) m).run P w = stored P w a (.float k b) m := run_store P w a _ m rfl
theorem stored_complex (P : Program) (w : World) (a : Addr) (m : Mode) (k : FloatKind) (b c : Nat) : (store a (.complex k b c) m).run P w = stored P w a (.complex k b c) m := run_store P w a _ m rfl
attribute [go_sem] stored_float stored_complex
def pkC (st ct ln : Int) (xs : List Nat) : List Value := [.int .i64 st, .int .i64 ct, .int .i64 ln] ++ flts xs
def trimTo (ln : Int) (i : Nat) (xs : List Nat) : List Nat := (xs.zipIdx).map fun p => if p.2 < i ∧ ln ≤ (p.2 : Int) then 0 else p.1
def trimL (ln : Int) (xs : List Nat) : List Nat := trimTo ln xs.length xs
theorem trimTo_length (ln : Int) (i : Nat) (xs : List Nat) : (trimTo ln i xs).length = xs.length := by simp [trimTo]
theorem trimTo_zero (ln : Int) (xs : List Nat) : trimTo ln 0 xs = xs := by
 apply List.ext_getElem
 · simp [trimTo]
 · intro k h1 h2; simp [trimTo]
theorem trimTo_succ_keep (ln : Int) (i : Nat) (xs : List Nat) (h : ¬ ln ≤ (i : Int)) : trimTo ln (i + 1) xs = trimTo ln i xs := by
 apply List.ext_getElem
 · simp [trimTo]
 · intro k h1 h2
   simp only [trimTo, List.getElem_map, List.getElem_zipIdx]
   by_cases hk : k = i
   · subst hk; simp [h]
   · have : (k < i + 1 ↔ k < i) := by omega
     simp [this]
theorem trimTo_succ_drop (ln : Int) (i : Nat) (xs : List Nat) (h : ln ≤ (i : Int)) (hi : i < xs.length) : trimTo ln (i + 1) xs = (trimTo ln i xs).set i 0 := by
 apply List.ext_getElem
 · simp [trimTo]
 · intro k h1 h2
   rw [List.getElem_set]
   simp only [trimTo, List.getElem_map, List.getElem_zipIdx]
   by_cases hk : i = k
   · subst hk; simp [h]
   · rw [if_neg hk]
     have : (0 + k < i + 1 ↔ 0 + k < i) := by omega
     simp only [this]
theorem pkC_set (st ct ln : Int) (xs : List Nat) (i : Nat) (x : Nat) : (pkC st ct ln xs).set (3 + i) (.float .f32 x) = pkC st ct ln (xs.set i x) := by
 rw [pkC, List.set_append_right _ _ (by simp)]
 simp [pkC, flts, List.map_set]
theorem pkC_length (st ct ln : Int) (xs : List Nat) : (pkC st ct ln xs).length = 3 + xs.length := by simp [pkC, flts]; omega
theorem pkC_one (st ct ln : Int) (xs : List Nat) : ∀ v ∈ pkC st ct ln xs, v.oneCell' = true := by
 intro v hv
 simp [pkC, flts] at hv
 rcases hv with rfl | rfl | rfl | ⟨x, _, rfl⟩ <;> rfl
theorem info54 : (Tryz.prog.info? 59).map (·.size) = some 11 := by kernel_rfl
def zero11 : List Value := pkC 0 0 0 [0, 0, 0, 0, 0, 0, 0, 0]
set_option maxRecDepth 100000 in
set_option maxHeartbeats 1000000 in
theorem trimmed_any (st ct ln : Int) (x0 x1 x2 x3 x4 x5 x6 x7 : Nat) (w : World) :
 Calls Tryz.prog 122 #[.agg #[.int .i64 st, .int .i64 ct, .int .i64 ln, .float .f32 x0, .float .f32 x1, .float .f32 x2, .float .f32 x3, .float .f32 x4, .float .f32 x5, .float .f32 x6, .float .f32 x7]] w
  fun e w' => e = .returned (.agg (pkC st ct ln (trimL ln [x0, x1, x2, x3, x4, x5, x6, x7])).toArray) ∧ Below w.heap.size w w' := by
 obtain ⟨xs, hxs⟩ : ∃ xs, xs = [x0, x1, x2, x3, x4, x5, x6, x7] := ⟨_, rfl⟩
 have hx8 : xs.length = 8 := by rw [hxs]; rfl
 have HX := Lib.hid hxs
 have HX8 := Lib.hid hx8
 clear hxs hx8
 go_enter Tryz.func122, Tryz.ntmps122
 go_wp2
 go_loopw [4] (fun i wr => ∃ j : Nat, j ≤ 8 ∧ i = .int .i64 j ∧ Row wr w.heap.size 59 (pkC st ct ln (trimTo ln j xs)) ∧ Row wr (w.heap.size + 1) 59 zero11 ∧ Below w.heap.size w wr) (fun i _ => 8 - (intOf i).toNat)
 case atStart =>
  have h1 := Row.new w 59 (pkC st ct ln xs)
  have h2 := Row.new (w.alloc (.cells (pkC st ct ln xs).toArray 59)) 59 zero11
  rw [World.size_alloc] at h2
  rw [HX.out] at h1 h2
  exact ⟨0, Nat.zero_le _, rfl, by rw [trimTo_zero, HX.out]; exact h1.alloc _, h2, by repeat (first | exact Below.refl _ _ | refine below_drewN ?_ _ | refine Below.drew ?_ | refine Below.alloc ?_ (by simp) _)⟩
 case round =>
  obtain ⟨j, hj, rfl, hrow, hres, hb⟩ := hrel
  by_cases hlt : j < 8
  · have hcl : wr.cell? ⟨w.heap.size, 2, none⟩ = some (.int .i64 ln) := by rw [hrow.cell]; rfl
    obtain ⟨v0, hc0⟩ : ∃ v0, wr.cell? ⟨w.heap.size, 3 + j, none⟩ = some v0 := ⟨_, hrow.cellAt (by rw [pkC_length, trimTo_length, HX8.out]; omega)⟩
    have hf0 := hrow.free (3 + j)
    have Hrow := Lib.hid hrow
    have Hres := Lib.hid hres
    have Hb := Lib.hid hb
    clear hrow hres hb
    by_cases hln : ln ≤ (j : Int)
    · have ht := Lib.hid (trimTo_succ_drop ln j xs hln (by rw [HX8.out]; exact hlt))
      go_wp2
      go_roundw
      case rel => exact ⟨j + 1, by omega, by go_num, by rw [ht.out, ← pkC_set]; exact Hrow.out.set (3 + j) _, Hres.out.far (by simp) _, Hb.out.setCell (by simp) _⟩
      case measure => simp [intOf]; omega
    · have ht := Lib.hid (trimTo_succ_keep ln j xs hln)
      go_wp2
      go_roundw
      case rel => exact ⟨j + 1, by omega, by go_num, by rw [ht.out]; exact Hrow.out, Hres.out, Hb.out⟩
      case measure => simp [intOf]; omega
  · obtain rfl : j = 8 := by omega
    obtain ⟨l, hl⟩ : ∃ l, l = pkC st ct ln (trimTo ln 8 xs) := ⟨_, rfl⟩
    have hlen : l.length = 11 := by rw [hl, pkC_length, trimTo_length, HX8.out]
    have h1 : ∀ v ∈ l, v.oneCell' = true := by rw [hl]; exact pkC_one _ _ _ _
    rw [← hl] at hrow
    have He : Hid (l = pkC st ct ln (trimL ln [x0, x1, x2, x3, x4, x5, x6, x7])) := by unfold Hid; rw [hl, trimL, ← HX.out, HX8.out]
    have Hr := Lib.hid hrow
    have Hres := Lib.hid hres
    have Hlen := Lib.hid hlen
    have H1 := Lib.hid h1
    clear hrow hl hlen hres h1
    go_wp2_with (first | (refine wpList_load_row rfl 59 _ rfl w.heap.size rfl 59 l.toArray (0, 0) _ Hr.out Tryz.underlying59 rfl ?_ ?_; (rw [info54]; simp [Hlen.out])) | (refine wpList_store_row rfl 59 _ _ rfl (w.heap.size + 1) l.toArray rfl rfl 59 _ Hres.out ?_ ?_ ?_ ?_; (rw [info54]; simp [Hlen.out]); (simp [Hlen.out, zero11, pkC, flts]); (simpa using H1.out)))
    refine bodyPost_ret (v := .agg l.toArray) (results_cell_row rfl _ _ (w.heap.size + 1) 59 l.toArray (0, 0) _ rfl (Hres.out.setRow l) Tryz.underlying59 rfl ?_) rfl ⟨by rw [He.out], Below.setRow hb (by simp) _⟩
    rw [info54]; simp [Hlen.out]
section
variable {P : Program} (w : World)
def all2 (f : Value → Value → Bool) : List Value → List Value → Bool
 | [], [] => true
 | x :: xs, y :: ys => f x y && all2 f xs ys
 | _, _ => false
theorem all2_range (f : Value → Value → Bool) : ∀ (xs ys : List Value), xs.length = ys.length → ((List.range xs.length).all fun i => f (xs.getD i undef) (ys.getD i undef)) = all2 f xs ys
 | [], [], _ => rfl
 | x :: xs, y :: ys, h => by
   rw [all2, ← all2_range f xs ys (by simpa using h), List.length_cons, List.range_succ_eq_map]
   simp
   rfl
 | [], _ :: _, h => by simp at h
 | _ :: _, [], h => by simp at h
theorem run_eqItems (d : Nat) (e : TypeId) (c : Nat) (hc : c = 1) (f : Value → Value → Bool) (xs ys : List Value) (hp : ∀ (zs : List Value) (i : Nat), i < zs.length → (part e zs.toArray (i * 1)).run P w = .ok (zs.getD i undef) w)
 (hf : ∀ i, i < xs.length → (Op.equalIn d e (xs.getD i undef) (ys.getD i undef)).run P w = .ok (f (xs.getD i undef) (ys.getD i undef)) w) (hl : xs.length = ys.length) :
 ∀ l : List Nat, (∀ i ∈ l, i < xs.length) → (Op.eqItems d e c xs.toArray ys.toArray l).run P w = .ok (l.all fun i => f (xs.getD i undef) (ys.getD i undef)) w := by
 subst hc
 intro l
 induction l with
 | nil => intro _; simp [Op.eqItems]
 | cons i l ih =>
   intro h
   have hi := h i (by simp)
   simp only [Op.eqItems, Sem.run_bind, hp xs i hi, hp ys i (hl ▸ hi), hf i hi, Result.andThen_ok, List.all_cons]
   cases f (xs.getD i undef) (ys.getD i undef)
   · simp
   · simp only [Bool.not_true, Bool.false_eq_true, if_false, Bool.true_and]
     exact ih fun j hj => h j (by simp [hj])
theorem run_eqArray (d : Nat) (t e : TypeId) (n : Nat) (i : TypeInfo) (f : Value → Value → Bool) (xs ys : List Value) (hu : P.underlying t = some (.array n e)) (hi : P.info? e = some i) (hc : P.cellsOf e = 1)
 (hp : ∀ (zs : List Value) (i : Nat), i < zs.length → (part e zs.toArray (i * 1)).run P w = .ok (zs.getD i undef) w)
 (hf : ∀ i, i < xs.length → (Op.equalIn d e (xs.getD i undef) (ys.getD i undef)).run P w = .ok (f (xs.getD i undef) (ys.getD i undef)) w) (hx : xs.length = n) (hy : ys.length = n) :
 (Op.equalIn (d + 1) t (.agg xs.toArray) (.agg ys.toArray)).run P w = .ok (all2 f xs ys) w := by
 rw [run_equalIn_array w d xs.toArray ys.toArray hu hi, run_eqItems w d e _ hc f xs ys hp hf (hx.trans hy.symm) _ (fun i hi => by rw [hx]; exact List.mem_range.1 hi), ← hx, all2_range f xs ys (hx.trans hy.symm)]
theorem run_equalIn_float (d : Nat) (t : TypeId) (k k' : FloatKind) (a b : Nat) (h : P.underlying t = some (.float k')) : (Op.equalIn (d + 1) t (.float k a) (.float k b)).run P w = .ok (k.format.order a b == some .eq) w := by
 simp [Op.equalIn, run_underlying h, Op.floatEq]
theorem run_equalIn_complex (d : Nat) (t : TypeId) (k k' : FloatKind) (a b c e : Nat) (h : P.underlying t = some (.complex k')) : (Op.equalIn (d + 1) t (.complex k a b) (.complex k c e)).run P w = .ok ((k.format.order a c == some .eq) && (k.format.order b e == some .eq)) w := by
 simp [Op.equalIn, run_underlying h, Op.floatEq]
theorem part_scalar (e : TypeId) (h : ∀ w, (isAgg e).run P w = .ok false w) (zs : List Value) (i : Nat) (hi : i < zs.length) : (part e zs.toArray (i * 1)).run P w = .ok (zs.getD i undef) w := by
 simp [part, h, hi]
end
def fEq : Value → Value → Bool
 | .float _ a, .float _ b => FloatKind.f32.format.order a b == some .eq
 | _, _ => false
theorem all2_flts : ∀ xs ys : List Nat, all2 fEq (flts xs) (flts ys) = sameF xs ys
 | [], [] => rfl
 | x :: xs, y :: ys => by
   have := all2_flts xs ys
   simp only [flts, List.map_cons, all2, sameF, fEq] at this ⊢
   rw [this]
 | [], _ :: _ => rfl
 | _ :: _, [] => rfl
theorem flts_getD (xs : List Nat) (i : Nat) (h : i < (flts xs).length) : (flts xs).getD i undef = .float .f32 (xs.getD i 0) := by
 have h2 : i < xs.length := by simpa [flts] using h
 simp [flts, h2]
theorem isAgg37 (w : World) : (isAgg 56).run Tryz.prog w = .ok false w := by kernel_rfl
theorem eqFloats (d : Nat) (t : TypeId) (n : Nat) (hu : Tryz.prog.underlying t = some (.array n 56)) (xs ys : List Nat) (hx : xs.length = n) (hy : ys.length = n) (w : World) :
 (Op.equalIn (d + 2) t (.agg (flts xs).toArray) (.agg (flts ys).toArray)).run Tryz.prog w = .ok (sameF xs ys) w := by
 obtain ⟨i, hi, _⟩ := info_parts info37
 rw [run_eqArray w (d + 1) t 56 n i fEq (flts xs) (flts ys) hu hi (by kernel_rfl) (part_scalar w _ isAgg37) ?_ (by simpa [flts] using hx) (by simpa [flts] using hy), all2_flts]
 intro j hj
 have hj2 : j < (flts ys).length := by simp [flts] at hj ⊢; omega
 rw [flts_getD xs j hj, flts_getD ys j hj2, run_equalIn_float w d _ .f32 .f32 _ _ Tryz.underlying56]
 rfl
def samePk (st ct ln : Int) (xs : List Nat) (st' ct' ln' : Int) (ys : List Nat) : Bool := st == st' && (ct == ct' && (ln == ln' && sameF xs ys))
theorem extract_pk (st ct ln : Int) (xs : List Nat) (hx : xs.length = 8) : (pkC st ct ln xs).toArray.extract 3 11 = (flts xs).toArray := by
 match xs, hx with
 | [_, _, _, _, _, _, _, _], _ => rfl
section
variable {P : Program} (w : World)
def eqTriples (d : Nat) (xs ys : Array Value) : List (String × TypeId × Nat) → Sem Bool
 | [] => pure true
 | f :: fs =>
   if f.1 ≠ "_" then do
    let a ← part f.2.1 xs f.2.2
    let b ← part f.2.1 ys f.2.2
    let r ← Op.equalIn d f.2.1 a b
    if (!r) = true then pure false else eqTriples d xs ys fs
   else eqTriples d xs ys fs
theorem eqFields_triples (d : Nat) (xs ys : Array Value) (fs : List Field) : Op.eqFields d xs ys fs = eqTriples d xs ys (fs.map fun f => (f.name, f.type, f.offset)) := by
 induction fs with
 | nil => rfl
 | cons f fs ih => simp only [Op.eqFields, eqTriples, List.map_cons, ih]
theorem run_eqStruct (d : Nat) (t : TypeId) (xs ys : Array Value) (l : List (String × TypeId × Nat)) (ht : P.underlying t = some (.struct (P.fieldsOf t))) (hp : P.stoodInHeld t = false) (hl : ((P.fieldsOf t).toList.map fun f => (f.name, f.type, f.offset)) = l) :
 (Op.equalIn (d + 1) t (.agg xs) (.agg ys)).run P w = (eqTriples d xs ys l).run P w := by
 rw [run_equalIn_struct w d t xs ys ht hp, eqFields_triples, hl]
end
theorem isAgg3 (w : World) : (isAgg 3).run Tryz.prog w = .ok false w := by kernel_rfl
theorem isAgg48 (w : World) : (isAgg 57).run Tryz.prog w = .ok true w := by kernel_rfl
theorem size48 (w : World) : (sizeOf 57).run Tryz.prog w = .ok 8 w := by kernel_rfl
theorem part_int (cs : Array Value) (i : Nat) (v : Value) (h : cs[i]? = some v) (w : World) : (part 3 cs i).run Tryz.prog w = .ok v w := by
 simp [part, isAgg3, h]
theorem part_samples (st ct ln : Int) (xs : List Nat) (hx : xs.length = 8) (w : World) : (part 57 (pkC st ct ln xs).toArray 3).run Tryz.prog w = .ok (.agg (flts xs).toArray) w := by
 have h := extract_pk st ct ln xs hx
 unfold part
 simp only [Sem.run_bind, isAgg48, Result.andThen_ok, if_true, size48, Sem.run_pure]
 rw [show 3 + 8 = 11 from rfl, h]
theorem fields54 : ((Tryz.prog.fieldsOf 59).toList.map fun f => (f.name, f.type, f.offset)) = [("Station", 3, 0), ("Counter", 3, 1), ("Length", 3, 2), ("Samples", 57, 3)] := by kernel_rfl
theorem eqPk (st ct ln : Int) (xs : List Nat) (st' ct' ln' : Int) (ys : List Nat) (hx : xs.length = 8) (hy : ys.length = 8) (w : World) :
 (eqTriples 9999 (pkC st ct ln xs).toArray (pkC st' ct' ln' ys).toArray [("Station", 3, 0), ("Counter", 3, 1), ("Length", 3, 2), ("Samples", 57, 3)]).run Tryz.prog w = .ok (samePk st ct ln xs st' ct' ln' ys) w := by
 have i3 := Tryz.underlying3
 have e1 : ∀ (st ct ln : Int) (xs : List Nat), (part 3 (pkC st ct ln xs).toArray 0).run Tryz.prog w = .ok (.int .i64 st) w := fun st ct ln xs => part_int _ _ _ (by simp [pkC]) w
 have e2 : ∀ (st ct ln : Int) (xs : List Nat), (part 3 (pkC st ct ln xs).toArray 1).run Tryz.prog w = .ok (.int .i64 ct) w := fun st ct ln xs => part_int _ _ _ (by simp [pkC]) w
 have e3 : ∀ (st ct ln : Int) (xs : List Nat), (part 3 (pkC st ct ln xs).toArray 2).run Tryz.prog w = .ok (.int .i64 ln) w := fun st ct ln xs => part_int _ _ _ (by simp [pkC]) w
 have e4 := fun (a b : Int) => run_equalIn_int (P := Tryz.prog) w 9998 3 .i64 .i64 a b i3
 have e5 := eqFloats 9997 57 8 Tryz.underlying57 xs ys hx hy w
 have n1 : ("Station" : String) ≠ "_" := by decide
 have n2 : ("Counter" : String) ≠ "_" := by decide
 have n3 : ("Length" : String) ≠ "_" := by decide
 have n4 : ("Samples" : String) ≠ "_" := by decide
 unfold samePk
 simp only [eqTriples, if_pos n1, if_pos n2, if_pos n3, if_pos n4, Sem.run_bind, e1, e2, e3, e4, part_samples _ _ _ _ hx, part_samples _ _ _ _ hy, e5, Result.andThen_ok, Sem.run_ite, Sem.run_pure]
 cases st == st' <;> cases ct == ct' <;> cases ln == ln' <;> cases sameF xs ys <;> simp [e1, e2, e3, e4, part_samples _ _ _ _ hx, part_samples _ _ _ _ hy, e5]
theorem neqPk54 (st ct ln : Int) (xs : List Nat) (st' ct' ln' : Int) (ys : List Nat) (hx : xs.length = 8) (hy : ys.length = 8) (w : World) :
 (binOp .neq 59 (.agg (pkC st ct ln xs).toArray) (.agg (pkC st' ct' ln' ys).toArray)).run Tryz.prog w = .ok (.bool (!samePk st ct ln xs st' ct' ln' ys)) w := by
 rw [run_neq_struct, run_eqStruct w 9999 _ _ _ _ (by kernel_rfl) (by kernel_rfl) fields54, eqPk _ _ _ _ _ _ _ _ hx hy]; rfl
theorem spanC_get (l : List (Int × Int)) (k : Nat) (hk : k < l.length) : (spanC l)[k * 2]? = some (.int .i64 l[k].1) ∧ (spanC l)[k * 2 + 1]? = some (.int .i64 l[k].2) := by
 induction l generalizing k with
 | nil => simp at hk
 | cons p l ih =>
   match k, hk with
   | 0, _ => exact ⟨rfl, rfl⟩
   | k + 1, hk =>
     have h := ih k (by simpa using hk)
     have e1 : (k + 1) * 2 = k * 2 + 2 := by omega
     have e2 : (k + 1) * 2 + 1 = k * 2 + 1 + 2 := by omega
     rw [e1, show k * 2 + 2 + 1 = k * 2 + 1 + 2 by omega]
     exact ⟨by simpa [spanC] using h.1, by simpa [spanC] using h.2⟩
theorem Rd.span {w : World} {A : Option Addr} {l : List (Int × Int)} (h : Rd w A (spanC l)) {k : Nat} (hk : k < l.length) : ∃ b off, A = some ⟨b, off, none⟩ ∧ w.cell? ⟨b, off + k * 2, none⟩ = some (.int .i64 l[k].1) ∧ w.cell? ⟨b, off + k * 2 + 1, none⟩ = some (.int .i64 l[k].2) := by
 obtain ⟨h1, h2⟩ := spanC_get l k hk
 obtain ⟨b, off, hA, hc1⟩ := h _ _ h1
 obtain ⟨b', off', hA', hc2⟩ := h _ _ h2
 rw [hA] at hA'
 cases hA'
 exact ⟨b, off, hA, hc1, by rw [Nat.add_assoc]; exact hc2⟩
def sameSp : List (Int × Int) → List (Int × Int) → Bool
 | [], [] => true
 | p :: l, q :: m => (p.1 == q.1 && p.2 == q.2) && sameSp l m
 | _, _ => false
theorem sameSp_length {l m : List (Int × Int)} (h : l.length ≠ m.length) : sameSp l m = false := by
 induction l generalizing m with
 | nil => cases m with
   | nil => exact absurd rfl h
   | cons q m => rfl
 | cons p l ih => cases m with
   | nil => rfl
   | cons q m => rw [sameSp, ih (by simpa using h), Bool.and_false]
theorem sameSp_drop {l m : List (Int × Int)} {k : Nat} (hx : k < l.length) (hy : k < m.length) : sameSp (l.drop k) (m.drop k) = ((l[k].1 == m[k].1 && l[k].2 == m[k].2) && sameSp (l.drop (k + 1)) (m.drop (k + 1))) := by
 rw [List.drop_eq_getElem_cons hx, List.drop_eq_getElem_cons hy, sameSp]
theorem fields94 : ((Tryz.prog.fieldsOf 70).toList.map fun f => (f.name, f.type, f.offset)) = [("From", 3, 0), ("To", 3, 1)] := by kernel_rfl
theorem neqSpan (a b c d : Int) (w : World) : (binOp .neq 70 (.agg #[.int .i64 a, .int .i64 b]) (.agg #[.int .i64 c, .int .i64 d])).run Tryz.prog w = .ok (.bool (!(a == c && b == d))) w := by
 have i3 := Tryz.underlying3
 have e1 : ∀ a b : Int, (part 3 #[.int .i64 a, .int .i64 b] 0).run Tryz.prog w = .ok (.int .i64 a) w := fun a b => part_int _ _ _ rfl w
 have e2 : ∀ a b : Int, (part 3 #[.int .i64 a, .int .i64 b] 1).run Tryz.prog w = .ok (.int .i64 b) w := fun a b => part_int _ _ _ rfl w
 have e4 := fun (a b : Int) => run_equalIn_int (P := Tryz.prog) w 9998 3 .i64 .i64 a b i3
 have n1 : ("From" : String) ≠ "_" := by decide
 have n2 : ("To" : String) ≠ "_" := by decide
 rw [run_neq_struct, run_eqStruct w 9999 _ _ _ _ (by kernel_rfl) (by kernel_rfl) fields94]
 simp only [eqTriples, if_pos n1, if_pos n2, Sem.run_bind, e1, e2, e4, Result.andThen_ok, Sem.run_ite, Sem.run_pure]
 cases a == c <;> cases b == d <;> simp [e1, e2, e4]
set_option maxHeartbeats 400000 in
theorem sameSpans_any (A B : Option Addr) (n m c d : Nat) (xs ys : List (Int × Int)) (w : World) (hA : Rd w A (spanC xs)) (hB : Rd w B (spanC ys)) (hn : n = xs.length) (hm : m = ys.length) (hx : xs.length ≤ 4611686018427387903) :
 Calls Tryz.prog 22 #[.slice A n c, .slice B m d] w fun e w' => e = .returned (.bool (sameSp xs ys)) ∧ ∃ q, w' = w.drewN q := by
 subst hn; subst hm
 by_cases hl : xs.length = ys.length
 · have hl1 : ((xs.length : Int) != (ys.length : Int)) = false := by rw [bne_eq_false_iff_eq]; omega
   have HL := Lib.hid hl; clear hl
   go_enter Tryz.func22, Tryz.ntmps22
   go_wp2
   go_loopw [5] (fun i wr => ∃ k : Nat, k ≤ xs.length ∧ i = .int .i64 k ∧ Hid (sameSp (xs.drop k) (ys.drop k) = sameSp xs ys) ∧ ∃ q, wr = w.drewN q) (fun i _ => xs.length - (intOf i).toNat)
   case atStart => exact ⟨0, Nat.zero_le _, rfl, rfl, 0, rfl⟩
   case round =>
    obtain ⟨k, hk, rfl, H, q, rfl⟩ := hrel
    by_cases hlt : k < xs.length
    · have hlt2 : k < ys.length := by rw [← HL.out]; exact hlt
      obtain ⟨b, off, rfl, hc1, hc2⟩ := Rd.span hA hlt
      obtain ⟨b', off', rfl, hc1', hc2'⟩ := Rd.span hB hlt2
      have i1 : (k : Int) < (xs.length : Int) := by omega
      have i2 : (k : Int) < (ys.length : Int) := by omega
      have HS := Lib.hid (sameSp_drop hlt hlt2)
      have hneq := neqSpan xs[k].1 xs[k].2 ys[k].1 ys[k].2
      cases ho : (xs[k].1 == ys[k].1 && xs[k].2 == ys[k].2)
      · have Ho := Lib.hid ho
        rw [ho] at hneq
        clear ho
        go_wp2
        go_quiet (fail)
        go_wp2
        go_ret
        exact ⟨ret_bool (by rw [← H.out, HS.out, Ho.out]; rfl), q + _, by rw [World.drewN_drewN]⟩
      · have Ho := Lib.hid ho
        rw [ho] at hneq
        clear ho
        go_wp2
        go_quiet (fail)
        go_wp2
        go_roundw
        case rel => exact ⟨k + 1, by omega, by go_num, by show _ = _; rw [← H.out, HS.out, Ho.out]; rfl, _, rfl⟩
        case measure => simp [intOf]; omega
    · go_wp2
      go_ret
      exact ⟨ret_bool (by rw [← H.out, List.drop_of_length_le (by omega), List.drop_of_length_le (by rw [← HL.out]; omega)]; rfl), q, rfl⟩
 · have hl1 : ((xs.length : Int) != (ys.length : Int)) = true := by rw [bne_iff_ne]; omega
   have HL := Lib.hid hl; clear hl
   go_enter Tryz.func22, Tryz.ntmps22
   go_wp2
   go_ret
   exact ⟨ret_bool (sameSp_length HL.out).symm, 0, rfl⟩
def strs (l : List ByteArray) : List Value := l.map Value.string
theorem Rd.str {w : World} {A : Option Addr} {xs : List ByteArray} (h : Rd w A (strs xs)) {j : Nat} (hj : j < xs.length) : ∃ b off, A = some ⟨b, off, none⟩ ∧ w.cell? ⟨b, off + j, none⟩ = some (.string xs[j]) := by
 obtain ⟨b, off, h1, h2⟩ := Rd.at h (j := j) (by simpa [strs] using hj)
 exact ⟨b, off, h1, by rw [h2]; simp [strs]⟩
def sameW : List ByteArray → List ByteArray → Bool
 | [], [] => true
 | p :: l, q :: m => (p.toList == q.toList) && sameW l m
 | _, _ => false
theorem sameW_length {l m : List ByteArray} (h : l.length ≠ m.length) : sameW l m = false := by
 induction l generalizing m with
 | nil => cases m with
   | nil => exact absurd rfl h
   | cons q m => rfl
 | cons p l ih => cases m with
   | nil => rfl
   | cons q m => rw [sameW, ih (by simpa using h), Bool.and_false]
theorem sameW_drop {l m : List ByteArray} {k : Nat} (hx : k < l.length) (hy : k < m.length) : sameW (l.drop k) (m.drop k) = ((l[k].toList == m[k].toList) && sameW (l.drop (k + 1)) (m.drop (k + 1))) := by
 rw [List.drop_eq_getElem_cons hx, List.drop_eq_getElem_cons hy, sameW]
set_option maxHeartbeats 400000 in
theorem sameWords_any (A B : Option Addr) (n m c d : Nat) (xs ys : List ByteArray) (w : World) (hA : Rd w A (strs xs)) (hB : Rd w B (strs ys)) (hn : n = xs.length) (hm : m = ys.length) (hx : xs.length ≤ 9223372036854775807) :
 Calls Tryz.prog 28 #[.slice A n c, .slice B m d] w fun e w' => e = .returned (.bool (sameW xs ys)) ∧ ∃ q, w' = w.drewN q := by
 subst hn; subst hm
 by_cases hl : xs.length = ys.length
 · have hl1 : ((xs.length : Int) != (ys.length : Int)) = false := by rw [bne_eq_false_iff_eq]; omega
   have HL := Lib.hid hl; clear hl
   go_enter Tryz.func28, Tryz.ntmps28
   go_wp2
   go_loopw [5] (fun i wr => ∃ k : Nat, k ≤ xs.length ∧ i = .int .i64 k ∧ Hid (sameW (xs.drop k) (ys.drop k) = sameW xs ys) ∧ ∃ q, wr = w.drewN q) (fun i _ => xs.length - (intOf i).toNat)
   case atStart => exact ⟨0, Nat.zero_le _, rfl, rfl, 0, rfl⟩
   case round =>
    obtain ⟨k, hk, rfl, H, q, rfl⟩ := hrel
    by_cases hlt : k < xs.length
    · have hlt2 : k < ys.length := by rw [← HL.out]; exact hlt
      obtain ⟨b, off, rfl, hc⟩ := Rd.str hA hlt
      obtain ⟨b', off', rfl, hc'⟩ := Rd.str hB hlt2
      have i1 : (k : Int) < (xs.length : Int) := by omega
      have i2 : (k : Int) < (ys.length : Int) := by omega
      have HS := Lib.hid (sameW_drop hlt hlt2)
      obtain ⟨x, hx1⟩ : ∃ x, x = xs[k] := ⟨_, rfl⟩
      obtain ⟨y, hy1⟩ : ∃ y, y = ys[k] := ⟨_, rfl⟩
      rw [← hx1] at hc HS; rw [← hy1] at hc' HS
      clear hx1 hy1
      cases ho : (x.toList == y.toList)
      · have Ho := Lib.hid ho
        go_wp2
        go_quiet (fail)
        go_wp2
        go_ret
        exact ⟨ret_bool (by rw [← H.out, HS.out, Ho.out]; rfl), q + _, by rw [World.drewN_drewN]⟩
      · have Ho := Lib.hid ho
        go_wp2
        go_quiet (fail)
        go_wp2
        go_roundw
        case rel => exact ⟨k + 1, by omega, by go_num, by show _ = _; rw [← H.out, HS.out, Ho.out]; rfl, _, rfl⟩
        case measure => simp [intOf]; omega
    · go_wp2
      go_ret
      exact ⟨ret_bool (by rw [← H.out, List.drop_of_length_le (by omega), List.drop_of_length_le (by rw [← HL.out]; omega)]; rfl), q, rfl⟩
 · have hl1 : ((xs.length : Int) != (ys.length : Int)) = true := by rw [bne_iff_ne]; omega
   have HL := Lib.hid hl; clear hl
   go_enter Tryz.func28, Tryz.ntmps28
   go_wp2
   go_ret
   exact ⟨ret_bool (sameW_length HL.out).symm, 0, rfl⟩
theorem fltsMap_snoc (l : List Int) (k : Nat) (hk : k < l.length) : flts ((l.map fb).take (k + 1)) = flts ((l.map fb).take k) ++ [.float .f32 (fb l[k])] := by
 rw [List.take_succ_eq_append_getElem (by simpa using hk)]; simp [flts]
set_option maxRecDepth 100000 in
set_option maxHeartbeats 1000000 in
theorem made_any (A : Option Addr) (n c : Nat) (l : List Int) (w : World) (hA : Rd w A (ints l)) (hn : n = l.length) (hm : l.length ≤ 1000000) (hb : ∀ x ∈ l, x.natAbs < 2 ^ 20) :
 Calls Tryz.prog 41 #[.slice A n c] w fun e w' => ∃ v, e = .returned v ∧ w'.ownsRow w.heap.size 56 1 v l.length (flts (l.map fb)) ∧ Below w.heap.size w w' := by
 subst hn
 have HB0 := Lib.hid hb
 clear hb
 obtain ⟨i0, hi, hz0, hz1, hz2⟩ := info_parts info37
 go_enter Tryz.func41, Tryz.ntmps41
 go_wp2
 go_loopw [3, 4] (fun u i wr => ∃ k : Nat, k ≤ l.length ∧ i = .int .i64 k ∧ wr.ownsRow w.heap.size 56 1 u k (flts ((l.map fb).take k)) ∧ Below w.heap.size w wr) (fun _ i _ => l.length - (intOf i).toNat)
 case atStart => exact ⟨0, Nat.zero_le _, rfl, World.ownsRow_nil _ _ _ _, Below.refl _ _⟩
 case round =>
  obtain ⟨k, hk, rfl, hown, hb⟩ := hrel
  have hsz := hb.size
  by_cases hlt : k < l.length
  · obtain ⟨b, off, rfl, hc⟩ := Rd.int (hA.below hb) hlt
    have hx := Lib.hid (HB0.out l[k] (List.getElem_mem hlt))
    have hu := Lib.hid (fltsMap_snoc l k hlt)
    go_wp2_with (first | (go_at_call 18; refine (sample_any _ _ hx.out).mono ?_; rintro e w1 ⟨rfl, rfl⟩) | (at_builtin; refine wpList_append_own _ rfl _ _ 22 rfl w.heap.size 56 i0 (.float .f32 0) 1 4 Tryz.underlying22 hi hz0 hz1 hz2 rfl (by decide) _ _ _ rfl (hown.alloc _) ⟨wr.heap.size, 0, none⟩ 1 1 [.float .f32 (fb l[k])] rfl rfl (news1 _ _ _ _ rfl) ?c2 ?c3 ?c4 ?c5 ?_))
    case c2 => simp [Value.oneCell']
    case c3 => unfold maxLen; omega
    case c4 => omega
    case c5 => simp; omega
    intro v' w1 hown' hgrow _
    have hb1 := Lib.hid (Below.app hb (by omega) hown hgrow)
    have ho1 := Lib.hid hown'
    clear hown' hgrow hown hb
    go_wp2
    go_roundw
    case rel => exact ⟨k + 1, by omega, by go_num, by rw [hu.out]; exact ho1.out, hb1.out⟩
    case measure => simp [intOf]; omega
  · obtain rfl : k = l.length := by omega
    go_wp2
    go_ret
    exact ⟨_, rfl, by rw [List.take_of_length_le (by simp)] at hown; exact hown, hb⟩
end Go.Proofs.YtjdniebjhilooaaGreatDoor
