import Derived.Test.YtkfkmnfejeocpaaGreatDoorM06
import Derived.Laws.AppendOwnNone
import Derived.Test.YtkfkmnfejeocpaaGreatDoorM08
import Derived.IntWalk
/- append from whatever source: nil, empty or not; copies of lists. -/
namespace Go.Proofs.YtkfkmnfejeocpaaGreatDoor
set_option linter.all false
open Go.RowKit Go.Fl
set_option linter.unusedVariables false

theorem wpList_app {P : Program} {w : World} {ops : Array Oper} {rest : List Oper} {o : Oper} {a : Act} {Q : Exit → Act → World → Prop} (hgd : o.guard = none) (s x : Operand) (t : TypeId)
    (ho : o.op = .call { callee := .builtin .append, args := #[s, x], argTypes := #[t, t] })
    (base : Nat) (e : TypeId) (z : Value) (size bytes : Nat) (ht : P.underlying t = some (.slice e)) (hinfo : (P.info? e).map (fun i => (i.zero, i.size, i.bytes)) = some (some z, size, bytes)) (hzs : z.cells.size = size) (hsz : 0 < size)
    (v : Value) (n : Nat) (xs : List Value) (hs : a.eval s = v) (hown : w.ownsRow base e size v n xs)
    (A : Option Addr) (m c : Nat) (news : List Value) (hx : a.eval x = .slice A m c) (hc : A = none → c = 0) (hr : Rd w A news) (hl : news.length = m * size) (h1 : ∀ u ∈ news, u.oneCell' = true)
    (h63 : n + m ≤ maxLen) (hbytes : (n + m) * bytes ≤ 140737488355328) (hbase : base ≤ w.heap.size)
    (h : ∀ v' w', w'.ownsRow base e size v' (n + m) (xs ++ news) → w.grownBy w' v.ownBlock → wpList P ops Q rest (a.put o.dst v') w') : wpList P ops Q (o :: rest) a w := by
  obtain ⟨i, hi, hz0, hz1, hz2⟩ := info_parts hinfo
  cases hA : A with
  | none =>
    have hn : news = [] := by
      cases news with
      | nil => rfl
      | cons u us =>
        obtain ⟨b, off, hh, _⟩ := hr 0 u rfl
        rw [hA] at hh; cases hh
    subst hn
    have hm : m = 0 := by
      have h0 : 0 = m * size := hl
      rcases Nat.mul_eq_zero.1 h0.symm with h | h
      · exact h
      · omega
    subst hm
    rw [hA, hc hA] at hx
    refine wpList_append_own_none hgd s x t ho base e i size ht hi v n xs hs hown hx (h v w (by simpa using hown) (World.grownBy.refl w _))
  | some ad =>
    have hcells : ∀ j u, news[j]? = some u → w.cell? (ad.add j) = some u := by
      intro j u hu
      obtain ⟨b, off, hh, hcell⟩ := hr j u hu
      rw [hA] at hh
      cases hh
      by_cases hj : j = 0
      · subst hj; simpa [Addr.add] using hcell
      · simpa [Addr.add, hj] using hcell
    rw [hA] at hx
    exact wpList_append_own w hgd s x t ho base e i z size bytes ht hi hz0 hz1 hz2 hzs hsz v n xs hs hown ad m c news hx hl hcells h1 h63 hbytes hbase fun v' w' h2 h3 _ => h v' w' h2 h3

theorem ownsRow.empty (w : World) (e : TypeId) (size : Nat) : (w.alloc (.cells #[] e)).ownsRow w.heap.size e size (.slice (some ⟨w.heap.size, 0, none⟩) 0 0) 0 [] :=
  World.ownsRow_made w #[] 0 (Nat.le_refl _) (by unfold maxLen; decide) (by simp)

theorem info37 : (Tryz.prog.info? 27).map (fun i => (i.zero, i.size, i.bytes)) = some (some (.float .f32 0), 1, 4) := by kernel_rfl
theorem info5 : (Tryz.prog.info? 5).map (fun i => (i.zero, i.size, i.bytes)) = some (some (.int .u8 0), 1, 1) := by kernel_rfl

set_option maxHeartbeats 400000 in
theorem floats_any (A : Option Addr) (n c : Nat) (xs : List Nat) (w : World) (hA : Rd w A (flts xs)) (hn : n = xs.length) (hc : A = none → c = 0) (hm : xs.length ≤ 4294967296) :
    Calls Tryz.prog 15 #[.slice A n c] w fun e w' => ∃ v, e = .returned v ∧ w'.ownsRow w.heap.size 27 1 v xs.length (flts xs) ∧ Below w.heap.size w w' := by
  subst hn
  have hA2 := Lib.hid (hA.below ((Below.refl _ _).alloc (Nat.le_refl _) (.cells #[] 27)))
  go_enter Tryz.func15, Tryz.ntmps15
  go_wp2_with (at_builtin; refine wpList_app rfl _ _ 45 rfl w.heap.size 27 (.float .f32 0) 1 4 Tryz.underlying45 info37 rfl (by decide) _ 0 [] rfl (ownsRow.empty w 27 1) A xs.length c (flts xs) rfl hc hA2.out (by simp [flts]) ?c1 ?c2 ?c3 ?c4 ?_)
  case c1 => simp [flts, Value.oneCell']
  case c2 => unfold maxLen; omega
  case c3 => omega
  case c4 => simp
  intro v' w1 hown hg
  have Hown : Hid (w1.ownsRow w.heap.size 27 1 v' xs.length (flts xs)) := by unfold Hid; simpa using hown
  have Hb := Lib.hid (((Below.refl w.heap.size w).alloc (Nat.le_refl _) (.cells #[] 27)).grown hg (by simp) (fun k hk => by simp [Value.ownBlock] at hk; omega))
  clear hown hg
  go_wp2
  go_ret
  exact ⟨_, rfl, Hown.out, Hb.out⟩

/-- two lists of floats, element by element equal (no NaN is equal to anything) -/
def sameF : List Nat → List Nat → Bool
  | [], [] => true
  | x :: xs, y :: ys => (FloatKind.f32.format.order x y == some .eq) && sameF xs ys
  | _, _ => false
theorem sameF_length {xs ys : List Nat} (h : xs.length ≠ ys.length) : sameF xs ys = false := by
  induction xs generalizing ys with
  | nil => cases ys with
    | nil => exact absurd rfl h
    | cons => rfl
  | cons x xs ih => cases ys with
    | nil => rfl
    | cons y ys => rw [sameF, ih (by simpa using h), Bool.and_false]
theorem sameF_drop {xs ys : List Nat} {k : Nat} (hx : k < xs.length) (hy : k < ys.length) : sameF (xs.drop k) (ys.drop k) = ((FloatKind.f32.format.order xs[k] ys[k] == some .eq) && sameF (xs.drop (k + 1)) (ys.drop (k + 1))) := by
  rw [List.drop_eq_getElem_cons hx, List.drop_eq_getElem_cons hy, sameF]
def byts (xs : List UInt8) : List Value := xs.map fun b => .int .u8 (b.toNat : Int)
set_option maxHeartbeats 400000 in
theorem bytes_any (A : Option Addr) (n c : Nat) (xs : List UInt8) (w : World) (hA : Rd w A (byts xs)) (hn : n = xs.length) (hc : A = none → c = 0) (hm : xs.length ≤ 4294967296) :
    Calls Tryz.prog 17 #[.slice A n c] w fun e w' => ∃ v, e = .returned v ∧ w'.ownsRow w.heap.size 5 1 v xs.length (byts xs) ∧ Below w.heap.size w w' := by
  subst hn
  have hA2 := Lib.hid (hA.below ((Below.refl _ _).alloc (Nat.le_refl _) (.cells #[] 5)))
  go_enter Tryz.func17, Tryz.ntmps17
  go_wp2_with (at_builtin; refine wpList_app rfl _ _ 42 rfl w.heap.size 5 (.int .u8 0) 1 1 Tryz.underlying42 info5 rfl (by decide) _ 0 [] rfl (ownsRow.empty w 5 1) A xs.length c (byts xs) rfl hc hA2.out (by simp [byts]) ?c1 ?c2 ?c3 ?c4 ?_)
  case c1 => simp [byts, Value.oneCell']
  case c2 => unfold maxLen; omega
  case c3 => omega
  case c4 => simp
  intro v' w1 hown hg
  have Hown : Hid (w1.ownsRow w.heap.size 5 1 v' xs.length (byts xs)) := by unfold Hid; simpa using hown
  have Hb := Lib.hid (((Below.refl w.heap.size w).alloc (Nat.le_refl _) (.cells #[] 5)).grown hg (by simp) (fun k hk => by simp [Value.ownBlock] at hk; omega))
  clear hown hg
  go_wp2
  go_ret
  exact ⟨_, rfl, Hown.out, Hb.out⟩

set_option maxHeartbeats 400000 in
theorem sameSamples_any (A B : Option Addr) (n m c d : Nat) (xs ys : List Nat) (w : World) (hA : Rd w A (flts xs)) (hB : Rd w B (flts ys)) (hn : n = xs.length) (hm : m = ys.length) (hx : xs.length ≤ 9223372036854775807) :
    Calls Tryz.prog 18 #[.slice A n c, .slice B m d] w fun e w' => e = .returned (.bool (sameF xs ys)) ∧ ∃ q, w' = w.drewN q := by
  subst hn; subst hm
  by_cases hl : xs.length = ys.length
  · have hl1 : ((xs.length : Int) != (ys.length : Int)) = false := by rw [bne_eq_false_iff_eq]; omega
    have HL := Lib.hid hl; clear hl
    go_enter Tryz.func18, Tryz.ntmps18
    go_wp2
    go_loopw [5] (fun i wr => ∃ k : Nat, k ≤ xs.length ∧ i = .int .i64 k ∧ Hid (sameF (xs.drop k) (ys.drop k) = sameF xs ys) ∧ ∃ q, wr = w.drewN q) (fun i _ => xs.length - (intOf i).toNat)
    case atStart => exact ⟨0, Nat.zero_le _, rfl, rfl, 0, rfl⟩
    case round =>
      obtain ⟨k, hk, rfl, H, q, rfl⟩ := hrel
      by_cases hlt : k < xs.length
      · have hlt2 : k < ys.length := by rw [← HL.out]; exact hlt
        obtain ⟨b, off, rfl, hc⟩ := Rd.flt hA hlt
        obtain ⟨b', off', rfl, hc'⟩ := Rd.flt hB hlt2
        have i1 : (k : Int) < (xs.length : Int) := by omega
        have i2 : (k : Int) < (ys.length : Int) := by omega
        have HS := Lib.hid (sameF_drop hlt hlt2)
        cases ho : (FloatKind.f32.format.order xs[k] ys[k] == some .eq)
        · have ho2 : (FloatKind.f32.format.order xs[k] ys[k] != some .eq) = true := by rw [bne, ho]; rfl
          have Ho := Lib.hid ho; clear ho
          go_wp2
          go_quiet (fail)
          go_wp2
          go_ret
          exact ⟨ret_bool (by rw [← H.out, HS.out, Ho.out]; rfl), q + _, by rw [World.drewN_drewN]⟩
        · have ho2 : (FloatKind.f32.format.order xs[k] ys[k] != some .eq) = false := by rw [bne, ho]; rfl
          have Ho := Lib.hid ho; clear ho
          go_wp2
          go_quiet (fail)
          go_wp2
          go_roundw
          case rel => exact ⟨k + 1, by omega, by go_num, by show _ = _; rw [← H.out, HS.out, Ho.out]; rfl, _, rfl⟩
          case measure => simp [intOf]; omega
      · go_wp2
        go_ret
        exact ⟨ret_bool (by rw [← H.out, List.drop_of_length_le (by omega), List.drop_of_length_le (by rw [← HL.out]; omega)]; rfl), q, rfl⟩
  · have hl1 : ((xs.length : Int) != (ys.length : Int)) = true := by rw [bne_iff_ne]; omega
    have HL := Lib.hid hl; clear hl
    go_enter Tryz.func18, Tryz.ntmps18
    go_wp2
    go_ret
    exact ⟨ret_bool (sameF_length HL.out).symm, 0, rfl⟩
end Go.Proofs.YtkfkmnfejeocpaaGreatDoor

/- Contracts: seals. -/
namespace Go.Proofs.YtkfkmnfejeocpaaGreatDoor
set_option linter.all false
open Go.RowKit Go.Fl
set_option linter.unusedVariables false

def stepX (j : Nat) (x b : Int) : Int := ((10 * j + 7) * x + b + 3 * j + 5) % 256
def sealB (j : Nat) (x : Int) (bs : List UInt8) : Int := bs.foldl (fun x b => stepX j x b.toNat) x
def sealGo (bs : List UInt8) : Nat → List Int → List Int
  | _, [] => []
  | j, x :: xs => sealB j x bs :: sealGo bs (j + 1) xs
def sealL (key : List Int) (bs : List UInt8) : List Int := sealGo bs 0 key
def u8s (xs : List Int) : List Value := xs.map (Value.int .u8)
def keyV (xs : List Int) : Value := .agg (u8s xs).toArray
def isByte (x : Int) : Prop := 0 ≤ x ∧ x ≤ 255

theorem index_key (k0 k1 k2 k3 k4 k5 k6 k7 : Int) (j : Nat) (hj : j < 8) (w : World) :
    (Instr.index 58 (.agg #[.int .u8 k0, .int .u8 k1, .int .u8 k2, .int .u8 k3, .int .u8 k4, .int .u8 k5, .int .u8 k6, .int .u8 k7]) (.int .i64 (j : Int))).run Tryz.prog w = .ok (.int .u8 ([k0, k1, k2, k3, k4, k5, k6, k7].getD j 0)) w := by
  rcases (show j = 0 ∨ j = 1 ∨ j = 2 ∨ j = 3 ∨ j = 4 ∨ j = 5 ∨ j = 6 ∨ j = 7 by omega) with rfl | rfl | rfl | rfl | rfl | rfl | rfl | rfl
  all_goals kernel_rfl

theorem sealGo_length (bs : List UInt8) (key : List Int) : ∀ j, (sealGo bs j key).length = key.length := by
  induction key with
  | nil => intro j; rfl
  | cons x xs ih => intro j; simp [sealGo, ih]
theorem sealGo_get (bs : List UInt8) (key : List Int) : ∀ (j i : Nat) (h : i < key.length), (sealGo bs j key)[i]'(by rw [sealGo_length]; exact h) = sealB (j + i) key[i] bs := by
  induction key with
  | nil => intro j i h; simp at h
  | cons x xs ih =>
    intro j i h
    cases i with
    | zero => simp [sealGo]
    | succ i =>
      have := ih (j + 1) i (by simpa using h)
      simp only [sealGo, List.getElem_cons_succ]
      rw [this]; congr 1; omega
/-- the key, of which j bytes are sealed -/
def mixL (key : List Int) (bs : List UInt8) (j : Nat) : List Int := (sealL key bs).take j ++ key.drop j
theorem mixL_length (key : List Int) (bs : List UInt8) (j : Nat) (hj : j ≤ key.length) : (mixL key bs j).length = key.length := by
  simp [mixL, sealL, sealGo_length]; omega
theorem mixL_set (key : List Int) (bs : List UInt8) (j : Nat) (hj : j < key.length) : (u8s (mixL key bs j)).set j (.int .u8 (sealB j key[j] bs)) = u8s (mixL key bs (j + 1)) := by
  have hl : ((sealL key bs).take j).length = j := by simp [sealL, sealGo_length]; omega
  have hs : j < (sealL key bs).length := by simp [sealL, sealGo_length]; exact hj
  have hg : (sealL key bs)[j] = sealB j key[j] bs := by
    have := sealGo_get bs key 0 j hj
    simpa [sealL] using this
  have e : u8s (mixL key bs j) = u8s ((sealL key bs).take j) ++ u8s (key.drop j) := by simp [u8s, mixL]
  rw [e, List.drop_eq_getElem_cons hj, mixL, List.take_succ_eq_append_getElem hs, hg]
  rw [List.set_append_right _ _ (by simp [u8s]; omega)]
  have : j - (u8s ((sealL key bs).take j)).length = 0 := by simp [u8s]; omega
  rw [this]
  simp only [u8s, List.map_cons, List.set_cons_zero, List.map_append, List.append_assoc, List.cons_append, List.nil_append]
theorem sealB_snoc (j : Nat) (x : Int) (bs : List UInt8) (k : Nat) (hk : k < bs.length) : sealB j x (bs.take (k + 1)) = stepX j (sealB j x (bs.take k)) bs[k].toNat := by
  rw [List.take_succ_eq_append_getElem hk, sealB, List.foldl_append]; rfl
theorem stepX_bd (j : Nat) (x b : Int) : 0 ≤ stepX j x b ∧ stepX j x b ≤ 255 := by
  unfold stepX; omega
theorem Rd.byte {w : World} {A : Option Addr} {xs : List UInt8} (h : Rd w A (byts xs)) {j : Nat} (hj : j < xs.length) : ∃ b off, A = some ⟨b, off, none⟩ ∧ w.cell? ⟨b, off + j, none⟩ = some (.int .u8 (xs[j].toNat : Int)) := by
  obtain ⟨b, off, h1, h2⟩ := Rd.at h (j := j) (by simpa [byts] using hj)
  exact ⟨b, off, h1, by rw [h2]; simp [byts]⟩

theorem stepX_wrap (j : Nat) (x b : Int) : (((10 * (j : Int) + 7) * x + b) % 256 + (3 * (j : Int) + 5)) % 256 = stepX j x b := by
  unfold stepX; omega
theorem info47 : (Tryz.prog.info? 58).map (·.size) = some 8 := by kernel_rfl

set_option maxRecDepth 100000 in
set_option maxHeartbeats 1000000 in
theorem sealed_any (k0 k1 k2 k3 k4 k5 k6 k7 : Int) (A : Option Addr) (n c : Nat) (bs : List UInt8) (w : World) (hA : Rd w A (byts bs)) (hn : n = bs.length) (hm : bs.length ≤ 9223372036854775807) (hkeys : ∀ j (h : j < 8), isByte ([k0, k1, k2, k3, k4, k5, k6, k7][j])) :
    Calls Tryz.prog 52 #[.agg #[.int .u8 k0, .int .u8 k1, .int .u8 k2, .int .u8 k3, .int .u8 k4, .int .u8 k5, .int .u8 k6, .int .u8 k7], .slice A n c] w fun e w' => e = .returned (keyV (sealL [k0, k1, k2, k3, k4, k5, k6, k7] bs)) ∧ Below w.heap.size w w' := by
  subst hn
  have hix := fun (j : Nat) (hj : j < 8) W => index_key k0 k1 k2 k3 k4 k5 k6 k7 j hj W
  have Hix := Lib.hid hix
  have Hkeys := Lib.hid hkeys
  clear hix hkeys
  go_enter Tryz.func52, Tryz.ntmps52
  go_wp2
  go_loopw [12] (fun i wr => ∃ j : Nat, j ≤ 8 ∧ i = .int .i64 j ∧ Row wr w.heap.size 58 (u8s (mixL [k0, k1, k2, k3, k4, k5, k6, k7] bs j)) ∧ Row wr (w.heap.size + 1) 58 (u8s [0, 0, 0, 0, 0, 0, 0, 0]) ∧ Below w.heap.size w wr) (fun i _ => 8 - (intOf i).toNat)
  case atStart => exact ⟨0, Nat.zero_le _, rfl, (Row.new w 58 (u8s [k0, k1, k2, k3, k4, k5, k6, k7])).alloc _, by have := Row.new (w.alloc (.cells (u8s [k0, k1, k2, k3, k4, k5, k6, k7]).toArray 58)) 58 (u8s [0, 0, 0, 0, 0, 0, 0, 0]); rw [World.size_alloc] at this; exact this, by repeat (first | exact Below.refl _ _ | refine below_drewN ?_ _ | refine Below.drew ?_ | refine Below.alloc ?_ (by simp) _)⟩
  case round =>
    obtain ⟨j, hj, rfl, hrow, hres, hb⟩ := hrel
    by_cases hlt : j < 8
    · obtain ⟨kj, hkj⟩ : ∃ kj, [k0, k1, k2, k3, k4, k5, k6, k7].getD j 0 = kj := ⟨_, rfl⟩
      have hi := fun W => Hix.out j hlt W
      rw [hkj] at hi
      have hset := Lib.hid (mixL_set [k0, k1, k2, k3, k4, k5, k6, k7] bs j hlt)
      have HK : Hid ([k0, k1, k2, k3, k4, k5, k6, k7][j] = kj) := by unfold Hid; rw [← hkj]; simp [hlt]
      have hkb := Lib.hid (Hkeys.out j hlt)
      have hA2 := Lib.hid (hA.below hb)
      obtain ⟨v0, hc0⟩ : ∃ v0, wr.cell? ⟨w.heap.size, j, none⟩ = some v0 := ⟨_, hrow.cellAt (by have := mixL_length [k0, k1, k2, k3, k4, k5, k6, k7] bs j (by simpa using hj); simp [u8s, this]; omega)⟩
      have hf0 := hrow.free j
      have Hrow := Lib.hid hrow
      have Hres := Lib.hid hres
      have Hb := Lib.hid hb
      clear hrow hres hb hkj
      go_wp2
      go_loop [26, 6] (fun i x => ∃ (k : Nat) (y : Int), k ≤ bs.length ∧ i = .int .i64 k ∧ x = .int .u8 y ∧ 0 ≤ y ∧ y ≤ 255 ∧ Hid (y = sealB j kj (bs.take k))) (fun i _ => bs.length - (intOf i).toNat)
      case atStart => exact ⟨0, kj, Nat.zero_le _, rfl, rfl, by rw [← HK.out]; exact hkb.out.1, by rw [← HK.out]; exact hkb.out.2, rfl⟩
      case round =>
        obtain ⟨k, y, hk, rfl, rfl, y0, y1, H⟩ := hrel
        by_cases hkl : k < bs.length
        · obtain ⟨b, off, rfl, hc⟩ := Rd.byte hA2.out hkl
          have hsn := Lib.hid (sealB_snoc j kj bs k hkl)
          have hst := Lib.hid (stepX_wrap j y bs[k].toNat)
          have hbd := Lib.hid (stepX_bd j y bs[k].toNat)
          go_wp2
          go_round
          case rel => exact ⟨k + 1, stepX j y bs[k].toNat, by omega, by go_num, by rw [hst.out], hbd.out.1, hbd.out.2, by show _ = _; rw [hsn.out, ← H.out]⟩
          case measure => simp [intOf]; omega
        · have he : Hid (y = sealB j kj bs) := by have := H.out; rw [List.take_of_length_le (by omega)] at this; exact this
          go_wp2
          go_roundw
          case rel => exact ⟨j + 1, by omega, by go_num, by rw [← hset.out, HK.out, ← he.out]; exact Hrow.out.set j _, Hres.out.far (by simp) _, Hb.out.setCell (by simp) _⟩
          case measure => simp [intOf]; omega
    · obtain rfl : j = 8 := by omega
      have hr8 : Row wr w.heap.size 58 (u8s (sealL [k0, k1, k2, k3, k4, k5, k6, k7] bs)) := hrow
      obtain ⟨l, hl⟩ : ∃ l, l = sealL [k0, k1, k2, k3, k4, k5, k6, k7] bs := ⟨_, rfl⟩
      have hlen : l.length = 8 := by rw [hl]; simp [sealL, sealGo_length]
      rw [← hl] at hr8
      have He := Lib.hid hl
      have Hr := Lib.hid hr8
      have Hres := Lib.hid hres
      have Hlen := Lib.hid hlen
      clear hrow hr8 hl hlen hres
      go_wp2_with (first | (refine wpList_load_row rfl 58 _ rfl w.heap.size rfl 58 (u8s l).toArray (0, 0) _ Hr.out Tryz.underlying58 rfl ?_ ?_; (rw [info47]; simp [u8s, Hlen.out])) | (refine wpList_store_row rfl 58 _ _ rfl (w.heap.size + 1) (u8s l).toArray rfl rfl 58 _ Hres.out ?_ ?_ ?_ ?_; (rw [info47]; simp [u8s, Hlen.out]); (simp [u8s, Hlen.out]); (simp [u8s, Value.oneCell'])))
      refine bodyPost_ret (v := .agg (u8s l).toArray) (results_cell_row rfl _ _ (w.heap.size + 1) 58 (u8s l).toArray (0, 0) _ rfl (Hres.out.setRow (u8s l)) Tryz.underlying58 rfl ?_) rfl ⟨by rw [← He.out]; rfl, Below.setRow hb (by simp) _⟩
      rw [info47]; simp [u8s, Hlen.out]
end Go.Proofs.YtkfkmnfejeocpaaGreatDoor

/- Contracts: seals, by the reference; and the two-byte integers. -/
namespace Go.Proofs.YtkfkmnfejeocpaaGreatDoor
set_option linter.all false
open Go.RowKit Go.Fl
set_option linter.unusedVariables false

-- two bytes
def wholeI (a b : Int) : Int := 256 * a + b
def signI (a b : Int) : Int := if 32768 ≤ wholeI a b then wholeI a b - 65536 else wholeI a b
set_option maxHeartbeats 400000 in
theorem or_bytes (a b : Int) (ha : 0 ≤ a ∧ a ≤ 255) (hb : 0 ≤ b ∧ b ≤ 255) : bits .or .i64 (a * 256) b = wholeI a b := by
  obtain ⟨x, rfl⟩ := Int.eq_ofNat_of_zero_le ha.1
  obtain ⟨y, rfl⟩ := Int.eq_ofNat_of_zero_le hb.1
  have hx : x ≤ 255 := by omega
  have hy : y < 2 ^ 8 := by omega
  show IntKind.i64.wrap ((BitVec.ofInt 64 ((x : Int) * 256) ||| BitVec.ofInt 64 (y : Int)).toNat : Nat) = wholeI x y
  have h1 : (BitVec.ofInt 64 ((x : Int) * 256)).toNat = x * 2 ^ 8 := by
    rw [BitVec.toNat_ofInt]; omega
  have h2 : (BitVec.ofInt 64 (y : Int)).toNat = y := by
    rw [BitVec.toNat_ofInt]; omega
  have h3 : x * 2 ^ 8 ||| y = x * 2 ^ 8 + y := by
    rw [← Nat.shiftLeft_eq, Nat.shiftLeft_add_eq_or_of_lt hy]
  rw [BitVec.toNat_or, h1, h2, h3, IntKind.wrap_i64]
  unfold wholeI
  omega
theorem whole_any (a b : Int) (w : World) (ha : 0 ≤ a ∧ a ≤ 255) (hb : 0 ≤ b ∧ b ≤ 255) : Calls Tryz.prog 66 #[.int .u8 a, .int .u8 b] w fun e w' => e = .returned (.int .i64 (wholeI a b)) ∧ w = w' := by
  go_enter Tryz.func66, Tryz.ntmps66
  go_wp2
  go_ret
  exact ⟨ret_int (or_bytes a b ha hb), rfl⟩
set_option maxHeartbeats 400000 in
theorem halves_any (n : Int) (w : World) (hn : -32768 ≤ n ∧ n ≤ 65535) : Calls Tryz.prog 47 #[.int .i64 n] w fun e w' => e = .returned (.tuple #[.int .u8 (n % 65536 / 256), .int .u8 (n % 256)]) ∧ w = w' := by
  go_enter Tryz.func47, Tryz.ntmps47
  go_wp2
  go_ret2
  exact ⟨by rw [show n / 256 % 256 = n % 65536 / 256 by omega]; rfl, rfl⟩
theorem wrap16 (m : Int) (h : 0 ≤ m ∧ m ≤ 65535) : IntKind.i16.wrap m = if 32768 ≤ m then m - 65536 else m := by
  have e : m % (2 ^ IntKind.i16.bits : Int) = m := Int.emod_eq_of_lt h.1 (by simp [IntKind.bits]; omega)
  unfold IntKind.wrap
  simp only [e]
  simp [IntKind.signed, IntKind.bits]
set_option maxHeartbeats 400000 in
theorem signed_any (a b : Int) (w : World) (ha : 0 ≤ a ∧ a ≤ 255) (hb : 0 ≤ b ∧ b ≤ 255) : Calls Tryz.prog 56 #[.int .u8 a, .int .u8 b] w fun e w' => e = .returned (.int .i64 (signI a b)) ∧ w = w' := by
  obtain ⟨m, hm⟩ : ∃ m, m = wholeI a b := ⟨_, rfl⟩
  have hm0 : 0 ≤ m ∧ m ≤ 65535 := by rw [hm]; unfold wholeI; omega
  have Hm := Lib.hid hm
  clear hm
  go_enter Tryz.func56, Tryz.ntmps56
  go_wp2_with (go_at_call 66; refine (whole_any _ _ _ ha hb).mono ?_; rintro e w' ⟨rfl, rfl⟩; rw [← Hm.out])
  go_ret
  exact ⟨ret_int (by rw [wrap16 m hm0, signI, ← Hm.out]; unfold wrap64; split <;> omega), rfl⟩
end Go.Proofs.YtkfkmnfejeocpaaGreatDoor

/- Contracts: packets: what is cut off behind their length. -/
namespace Go.Proofs.YtkfkmnfejeocpaaGreatDoor
set_option linter.all false
open Go.RowKit Go.Fl
set_option linter.unusedVariables false

theorem stored_float (P : Program) (w : World) (a : Addr) (m : Mode) (k : FloatKind) (b : Nat) : (store a (.float k b) m).run P w = stored P w a (.float k b) m := run_store P w a _ m rfl
theorem stored_complex (P : Program) (w : World) (a : Addr) (m : Mode) (k : FloatKind) (b c : Nat) : (store a (.complex k b c) m).run P w = stored P w a (.complex k b c) m := run_store P w a _ m rfl
attribute [go_sem] stored_float stored_complex

/-- a packet's cells -/
def pkC (st ct ln : Int) (xs : List Nat) : List Value := [.int .i64 st, .int .i64 ct, .int .i64 ln] ++ flts xs
def trimTo (ln : Int) (i : Nat) (xs : List Nat) : List Nat := (xs.zipIdx).map fun p => if p.2 < i ∧ ln ≤ (p.2 : Int) then 0 else p.1
def trimL (ln : Int) (xs : List Nat) : List Nat := trimTo ln xs.length xs
theorem trimTo_length (ln : Int) (i : Nat) (xs : List Nat) : (trimTo ln i xs).length = xs.length := by simp [trimTo]
theorem trimTo_zero (ln : Int) (xs : List Nat) : trimTo ln 0 xs = xs := by
  apply List.ext_getElem
  · simp [trimTo]
  · intro k h1 h2; simp [trimTo]
theorem trimTo_succ_keep (ln : Int) (i : Nat) (xs : List Nat) (h : ¬ ln ≤ (i : Int)) : trimTo ln (i + 1) xs = trimTo ln i xs := by
  apply List.ext_getElem
  · simp [trimTo]
  · intro k h1 h2
    simp only [trimTo, List.getElem_map, List.getElem_zipIdx]
    by_cases hk : k = i
    · subst hk; simp [h]
    · have : (k < i + 1 ↔ k < i) := by omega
      simp [this]
theorem trimTo_succ_drop (ln : Int) (i : Nat) (xs : List Nat) (h : ln ≤ (i : Int)) (hi : i < xs.length) : trimTo ln (i + 1) xs = (trimTo ln i xs).set i 0 := by
  apply List.ext_getElem
  · simp [trimTo]
  · intro k h1 h2
    rw [List.getElem_set]
    simp only [trimTo, List.getElem_map, List.getElem_zipIdx]
    by_cases hk : i = k
    · subst hk; simp [h]
    · rw [if_neg hk]
      have : (0 + k < i + 1 ↔ 0 + k < i) := by omega
      simp only [this]
theorem pkC_set (st ct ln : Int) (xs : List Nat) (i : Nat) (x : Nat) : (pkC st ct ln xs).set (3 + i) (.float .f32 x) = pkC st ct ln (xs.set i x) := by
  rw [pkC, List.set_append_right _ _ (by simp)]
  simp [pkC, flts, List.map_set]
theorem pkC_length (st ct ln : Int) (xs : List Nat) : (pkC st ct ln xs).length = 3 + xs.length := by simp [pkC, flts]; omega
theorem pkC_one (st ct ln : Int) (xs : List Nat) : ∀ v ∈ pkC st ct ln xs, v.oneCell' = true := by
  intro v hv
  simp [pkC, flts] at hv
  rcases hv with rfl | rfl | rfl | ⟨x, _, rfl⟩ <;> rfl
theorem info54 : (Tryz.prog.info? 67).map (·.size) = some 11 := by kernel_rfl
def zero11 : List Value := pkC 0 0 0 [0, 0, 0, 0, 0, 0, 0, 0]

set_option maxRecDepth 100000 in
set_option maxHeartbeats 1000000 in
theorem trimmed_any (st ct ln : Int) (x0 x1 x2 x3 x4 x5 x6 x7 : Nat) (w : World) :
    Calls Tryz.prog 115 #[.agg #[.int .i64 st, .int .i64 ct, .int .i64 ln, .float .f32 x0, .float .f32 x1, .float .f32 x2, .float .f32 x3, .float .f32 x4, .float .f32 x5, .float .f32 x6, .float .f32 x7]] w
      fun e w' => e = .returned (.agg (pkC st ct ln (trimL ln [x0, x1, x2, x3, x4, x5, x6, x7])).toArray) ∧ Below w.heap.size w w' := by
  obtain ⟨xs, hxs⟩ : ∃ xs, xs = [x0, x1, x2, x3, x4, x5, x6, x7] := ⟨_, rfl⟩
  have hx8 : xs.length = 8 := by rw [hxs]; rfl
  have HX := Lib.hid hxs
  have HX8 := Lib.hid hx8
  clear hxs hx8
  go_enter Tryz.func115, Tryz.ntmps115
  go_wp2
  go_loopw [4] (fun i wr => ∃ j : Nat, j ≤ 8 ∧ i = .int .i64 j ∧ Row wr w.heap.size 67 (pkC st ct ln (trimTo ln j xs)) ∧ Row wr (w.heap.size + 1) 67 zero11 ∧ Below w.heap.size w wr) (fun i _ => 8 - (intOf i).toNat)
  case atStart =>
    have h1 := Row.new w 67 (pkC st ct ln xs)
    have h2 := Row.new (w.alloc (.cells (pkC st ct ln xs).toArray 67)) 67 zero11
    rw [World.size_alloc] at h2
    rw [HX.out] at h1 h2
    exact ⟨0, Nat.zero_le _, rfl, by rw [trimTo_zero, HX.out]; exact h1.alloc _, h2, by repeat (first | exact Below.refl _ _ | refine below_drewN ?_ _ | refine Below.drew ?_ | refine Below.alloc ?_ (by simp) _)⟩
  case round =>
    obtain ⟨j, hj, rfl, hrow, hres, hb⟩ := hrel
    by_cases hlt : j < 8
    · have hcl : wr.cell? ⟨w.heap.size, 2, none⟩ = some (.int .i64 ln) := by rw [hrow.cell]; rfl
      obtain ⟨v0, hc0⟩ : ∃ v0, wr.cell? ⟨w.heap.size, 3 + j, none⟩ = some v0 := ⟨_, hrow.cellAt (by rw [pkC_length, trimTo_length, HX8.out]; omega)⟩
      have hf0 := hrow.free (3 + j)
      have Hrow := Lib.hid hrow
      have Hres := Lib.hid hres
      have Hb := Lib.hid hb
      clear hrow hres hb
      by_cases hln : ln ≤ (j : Int)
      · have ht := Lib.hid (trimTo_succ_drop ln j xs hln (by rw [HX8.out]; exact hlt))
        go_wp2
        go_roundw
        case rel => exact ⟨j + 1, by omega, by go_num, by rw [ht.out, ← pkC_set]; exact Hrow.out.set (3 + j) _, Hres.out.far (by simp) _, Hb.out.setCell (by simp) _⟩
        case measure => simp [intOf]; omega
      · have ht := Lib.hid (trimTo_succ_keep ln j xs hln)
        go_wp2
        go_roundw
        case rel => exact ⟨j + 1, by omega, by go_num, by rw [ht.out]; exact Hrow.out, Hres.out, Hb.out⟩
        case measure => simp [intOf]; omega
    · obtain rfl : j = 8 := by omega
      obtain ⟨l, hl⟩ : ∃ l, l = pkC st ct ln (trimTo ln 8 xs) := ⟨_, rfl⟩
      have hlen : l.length = 11 := by rw [hl, pkC_length, trimTo_length, HX8.out]
      have h1 : ∀ v ∈ l, v.oneCell' = true := by rw [hl]; exact pkC_one _ _ _ _
      rw [← hl] at hrow
      have He : Hid (l = pkC st ct ln (trimL ln [x0, x1, x2, x3, x4, x5, x6, x7])) := by unfold Hid; rw [hl, trimL, ← HX.out, HX8.out]
      have Hr := Lib.hid hrow
      have Hres := Lib.hid hres
      have Hlen := Lib.hid hlen
      have H1 := Lib.hid h1
      clear hrow hl hlen hres h1
      go_wp2_with (first | (refine wpList_load_row rfl 67 _ rfl w.heap.size rfl 67 l.toArray (0, 0) _ Hr.out Tryz.underlying67 rfl ?_ ?_; (rw [info54]; simp [Hlen.out])) | (refine wpList_store_row rfl 67 _ _ rfl (w.heap.size + 1) l.toArray rfl rfl 67 _ Hres.out ?_ ?_ ?_ ?_; (rw [info54]; simp [Hlen.out]); (simp [Hlen.out, zero11, pkC, flts]); (simpa using H1.out)))
      refine bodyPost_ret (v := .agg l.toArray) (results_cell_row rfl _ _ (w.heap.size + 1) 67 l.toArray (0, 0) _ rfl (Hres.out.setRow l) Tryz.underlying67 rfl ?_) rfl ⟨by rw [He.out], Below.setRow hb (by simp) _⟩
      rw [info54]; simp [Hlen.out]
end Go.Proofs.YtkfkmnfejeocpaaGreatDoor

/- Contracts: the powers of -i. -/
namespace Go.Proofs.YtkfkmnfejeocpaaGreatDoor
set_option linter.all false
open Go.RowKit Go.Fl
set_option linter.unusedVariables false
set_option linter.unusedSimpArgs false

/-- the table of the powers of -i lies in its variable's block -/
def Pw (w : World) : Prop := ∀ j v, [(1 : Int), 0, 0, -1, -1, 0, 0, 1][j]? = some v → w.cell? ⟨0, j, none⟩ = some (.int .i64 v)
theorem Pw.at {w : World} (h : Pw w) (j : Nat) (v : Int) (hv : [(1 : Int), 0, 0, -1, -1, 0, 0, 1][j]? = some v) : w.cell? ⟨0, j, none⟩ = some (.int .i64 v) := h j v hv
theorem Pw.old {w w' : World} (h : Pw w) (hb : Below w.heap.size w w') : Pw w' := fun j v hv => (hb.cell (World.block_lt_of_cell? w _ (h j v hv))).trans (h j v hv)

def powR (n : Nat) : Int := if n % 4 = 0 then 1 else if n % 4 = 2 then -1 else 0
def powI (n : Nat) : Int := if n % 4 = 1 then -1 else if n % 4 = 3 then 1 else 0
def pb (n : Int) : Nat := if n = 1 then 1065353216 else if n = -1 then 3212836864 else 0
theorem pb_spec (n : Int) (h : n = 1 ∨ n = -1 ∨ n = 0) : S (pb n) (16 * n) := by
  rcases h with rfl | rfl | rfl
  · exact S.one
  · exact S.minus
  · exact S.zero
theorem powR_or (n : Nat) : powR n = 1 ∨ powR n = -1 ∨ powR n = 0 := by
  unfold powR
  by_cases h0 : n % 4 = 0
  · simp [h0]
  · by_cases h2 : n % 4 = 2 <;> simp [h0, h2]
theorem powI_or (n : Nat) : powI n = 1 ∨ powI n = -1 ∨ powI n = 0 := by
  unfold powI
  by_cases h0 : n % 4 = 1
  · simp [h0]
  · by_cases h2 : n % 4 = 3 <;> simp [h0, h2]

theorem ret_cx {a b c d : Nat} (h1 : a = c) (h2 : b = d) : Ending.returned (.complex .f32 a b) = .returned (.complex .f32 c d) := by rw [h1, h2]
theorem c0 : floatOfInt .f32 0 = 0 := by decide +kernel
theorem c1 : floatOfInt .f32 1 = 1065353216 := by decide +kernel
theorem cm : floatOfInt .f32 (-1) = 3212836864 := by decide +kernel

set_option maxHeartbeats 400000 in
theorem power_any (n : Nat) (w : World) (hw : Pw w) (hn : n < 1000000) : Calls Tryz.prog 43 #[.int .i64 n] w fun e w' => e = .returned (.complex .f32 (pb (powR n)) (pb (powI n))) ∧ Below w.heap.size w w' := by
  have hm : n % 4 = 0 ∨ n % 4 = 1 ∨ n % 4 = 2 ∨ n % 4 = 3 := by omega
  have H0 := hw.at 0 1 rfl
  have H1 := hw.at 1 0 rfl
  have H2 := hw.at 2 0 rfl
  have H3 := hw.at 3 (-1) rfl
  have H4 := hw.at 4 (-1) rfl
  have H5 := hw.at 5 0 rfl
  have H6 := hw.at 6 0 rfl
  have H7 := hw.at 7 1 rfl
  have hlt := World.block_lt_of_cell? w _ H0
  rcases hm with h | h | h | h
  · have hp : Hid (pb (powR n) = 1065353216 ∧ pb (powI n) = 0) := by unfold Hid powR powI; simp [h]; decide
    have hi : (n : Int) % 4 = 0 := by omega
    clear h hw H2 H3 H4 H5 H6 H7
    go_enter Tryz.func43, Tryz.ntmps43
    go_wp2
    go_ret
    exact ⟨ret_cx (by rw [hp.out.1]; exact c1) (by rw [hp.out.2]; exact c0), by repeat (first | exact Below.refl _ _ | refine below_drewN ?_ _ | refine Below.drew ?_ | refine Below.alloc ?_ (by simp) _)⟩
  · have hp : Hid (pb (powR n) = 0 ∧ pb (powI n) = 3212836864) := by unfold Hid powR powI; simp [h]; decide
    have hi : (n : Int) % 4 = 1 := by omega
    clear h hw H0 H1 H4 H5 H6 H7
    go_enter Tryz.func43, Tryz.ntmps43
    go_wp2
    go_ret
    exact ⟨ret_cx (by rw [hp.out.1]; exact c0) (by rw [hp.out.2]; exact cm), by repeat (first | exact Below.refl _ _ | refine below_drewN ?_ _ | refine Below.drew ?_ | refine Below.alloc ?_ (by simp) _)⟩
  · have hp : Hid (pb (powR n) = 3212836864 ∧ pb (powI n) = 0) := by unfold Hid powR powI; simp [h]; decide
    have hi : (n : Int) % 4 = 2 := by omega
    clear h hw H0 H1 H2 H3 H6 H7
    go_enter Tryz.func43, Tryz.ntmps43
    go_wp2
    go_ret
    exact ⟨ret_cx (by rw [hp.out.1]; exact cm) (by rw [hp.out.2]; exact c0), by repeat (first | exact Below.refl _ _ | refine below_drewN ?_ _ | refine Below.drew ?_ | refine Below.alloc ?_ (by simp) _)⟩
  · have hp : Hid (pb (powR n) = 0 ∧ pb (powI n) = 1065353216) := by unfold Hid powR powI; simp [h]; decide
    have hi : (n : Int) % 4 = 3 := by omega
    clear h hw H0 H1 H2 H3 H4 H5
    go_enter Tryz.func43, Tryz.ntmps43
    go_wp2
    go_ret
    exact ⟨ret_cx (by rw [hp.out.1]; exact c0) (by rw [hp.out.2]; exact c1), by repeat (first | exact Below.refl _ _ | refine below_drewN ?_ _ | refine Below.drew ?_ | refine Below.alloc ?_ (by simp) _)⟩
end Go.Proofs.YtkfkmnfejeocpaaGreatDoor

/- Contracts: small functions of records. -/
namespace Go.Proofs.YtkfkmnfejeocpaaGreatDoor
set_option linter.all false
open Go.RowKit Go.Fl
set_option linter.unusedVariables false
set_option linter.unusedSimpArgs false


theorem results_row_tmp {P : Program} {fn : Func} {p t : Tmp} {ty : TypeId} (h : fn.results = #[.cell p ty, .tmp t]) (tmps : Array Value) (w : World) (g : Nat) (e : TypeId) (cs : Array Value) (fr : Nat × Nat) (d : TypeDesc)
    (hp : tmps.getD p undef = .pointer (some ⟨g, 0, none⟩)) (hg : w.heap[g]? = some (.cells cs e fr))
    (hu : P.underlying ty = some d) (hd : (match d with | .struct _ | .array _ _ => true | _ => false) = true) (hi : (P.info? ty).map (·.size) = some cs.size) :
    (results fn tmps).run P w = .ok (.tuple #[.agg cs, tmps.getD t undef]) w := by
  have hp' : tmps[p]?.getD undef = .pointer (some ⟨g, 0, none⟩) := by simpa using hp
  simp [results, h, hp', asAddr, run_loadVar_row w g e ty cs fr d hg hu hd hi]

set_option maxRecDepth 100000 in
set_option maxHeartbeats 400000 in
theorem seal_any (k0 k1 k2 k3 k4 k5 k6 k7 : Int) (A : Option Addr) (n c : Nat) (bs : List UInt8) (w : World) (hA : Rd w A (byts bs)) (hn : n = bs.length) (hm : bs.length ≤ 400000) (hkeys : ∀ j (h : j < 8), isByte ([k0, k1, k2, k3, k4, k5, k6, k7][j])) :
    Calls Tryz.prog 26 #[.agg #[.int .u8 k0, .int .u8 k1, .int .u8 k2, .int .u8 k3, .int .u8 k4, .int .u8 k5, .int .u8 k6, .int .u8 k7], .slice A n c] w fun e w' => e = .returned (.tuple #[keyV (sealL [k0, k1, k2, k3, k4, k5, k6, k7] bs), .int .i64 0]) ∧ Below w.heap.size w w' := by
  subst hn
  have Hk := Lib.hid hkeys; clear hkeys
  go_enter Tryz.func26, Tryz.ntmps26
  go_wp2_with fail
  refine (sealed_any k0 k1 k2 k3 k4 k5 k6 k7 A _ c bs _ (hA.below (by repeat (first | exact Below.refl _ _ | refine Below.alloc ?_ (by simp) _))) rfl (by omega) Hk.out).mono ?_
  rintro e w1 ⟨rfl, hb⟩
  have hres : Row w1 (w.heap.size + 1) 58 (u8s [0, 0, 0, 0, 0, 0, 0, 0]) := by
    have h2 := Row.new (w.alloc (.cells (u8s [k0, k1, k2, k3, k4, k5, k6, k7]).toArray 58)) 58 (u8s [0, 0, 0, 0, 0, 0, 0, 0])
    rw [World.size_alloc] at h2
    exact h2.old hb
  have hb0 : Below w.heap.size w w1 := (((Below.refl w.heap.size w).alloc (Nat.le_refl _) _).alloc (by simp) _).trans (hb.mono (by simp; omega))
  obtain ⟨l, hl⟩ : ∃ l, l = sealL [k0, k1, k2, k3, k4, k5, k6, k7] bs := ⟨_, rfl⟩
  have hlen : l.length = 8 := by rw [hl]; simp [sealL, sealGo_length]
  rw [← hl]
  have He := Lib.hid hl
  have Hlen := Lib.hid hlen
  have Hres := Lib.hid hres
  have Hb0 := Lib.hid hb0
  clear hl hlen hres hb hb0
  unfold keyV
  go_wp2_with (refine wpList_store_row rfl 58 _ _ rfl (w.heap.size + 1) (u8s l).toArray rfl rfl 58 _ Hres.out ?_ ?_ ?_ ?_; (rw [info47]; simp [u8s, Hlen.out]); (simp [u8s, Hlen.out]); (simp [u8s, Value.oneCell']))
  refine bodyPost_ret (results_row_tmp rfl _ _ (w.heap.size + 1) 58 (u8s l).toArray (0, 0) _ rfl (Hres.out.setRow (u8s l)) Tryz.underlying58 rfl ?_) rfl ?_
  · rw [info47]; simp [u8s, Hlen.out]
  · exact ⟨by rw [← He.out]; rfl, Below.setRow Hb0.out (by simp) _⟩

set_option maxHeartbeats 400000 in
theorem to_any (a b : Int) (w : World) : Calls Tryz.prog 31 #[.int .i64 a, .int .i64 b] w fun e w' => e = .returned (.agg #[.int .i64 a, .int .i64 b]) ∧ w' = w.alloc (.cells #[.int .i64 a, .int .i64 b] 77) := by
  go_enter Tryz.func31, Tryz.ntmps31
  go_wp2
  exact bodyPost_ret (v := .agg #[.int .i64 a, .int .i64 b]) (by simp [results, Tryz.results31, go_sem]) rfl ⟨rfl, rfl⟩

set_option maxHeartbeats 400000 in
theorem isLess_any (a b c d : Int) (w : World) (h1 : -4611686018427387904 ≤ a * d) (h2 : a * d ≤ 4611686018427387904) (h3 : -4611686018427387904 ≤ c * b) (h4 : c * b ≤ 4611686018427387904) : Calls Tryz.prog 86 #[.agg #[.int .i64 a, .int .i64 b], .agg #[.int .i64 c, .int .i64 d]] w fun e w' => e = .returned (.bool (decide (a * d < c * b))) ∧ Below w.heap.size w w' := by
  go_enter Tryz.func86, Tryz.ntmps86
  go_wp2
  go_ret
  exact ⟨rfl, ((Below.refl _ _).alloc (Nat.le_refl _) _).alloc (by simp) _⟩
end Go.Proofs.YtkfkmnfejeocpaaGreatDoor

/- Contracts: the transform of four samples. -/
namespace Go.Proofs.YtkfkmnfejeocpaaGreatDoor
set_option linter.all false
open Go.RowKit Go.Fl
set_option linter.unusedVariables false
set_option linter.unusedSimpArgs false

/-- the element k of the transform of the integers a, as far as the first n of them -/
def fourP (a : List Int) (k : Nat) : Nat → Int × Int
  | 0 => (0, 0)
  | n + 1 => ((fourP a k n).1 + a.getD n 0 * powR (k * n), (fourP a k n).2 + a.getD n 0 * powI (k * n))
theorem mul_small {x : Int} {M : Nat} (hx : x.natAbs ≤ M) {p : Int} (hp : p = 1 ∨ p = -1 ∨ p = 0) : (x * p).natAbs ≤ M := by
  rcases hp with rfl | rfl | rfl
  · simpa using hx
  · simpa using hx
  · simp
theorem fourP_bd (a : List Int) (k n : Nat) (ha : ∀ j, (a.getD j 0).natAbs ≤ 16384) : (fourP a k n).1.natAbs ≤ 16384 * n ∧ (fourP a k n).2.natAbs ≤ 16384 * n := by
  induction n with
  | zero => simp [fourP]
  | succ n ih =>
    have h1 := mul_small (ha n) (powR_or (k * n))
    have h2 := mul_small (ha n) (powI_or (k * n))
    simp only [fourP]
    omega

def cxs (ps : List (Nat × Nat)) : List Value := ps.map fun p => .complex .f32 p.1 p.2
theorem cxs_length (ps : List (Nat × Nat)) : (cxs ps).length = ps.length := by simp [cxs]
theorem cxs_set (ps : List (Nat × Nat)) (k r i : Nat) : (cxs ps).set k (.complex .f32 r i) = cxs (ps.set k (r, i)) := by simp [cxs, List.map_set]
theorem cxs_one (ps : List (Nat × Nat)) : ∀ v ∈ cxs ps, v.oneCell' = true := by
  intro v hv
  simp [cxs] at hv
  obtain ⟨x, y, _, rfl⟩ := hv
  rfl
/-- the elements below k are done, the element k as far as n, the others are 0 -/
def PaN (a : List Int) (k n j : Nat) : Int × Int := if j < k then fourP a j 4 else if j = k then fourP a k n else (0, 0)
def Pa (a : List Int) (k n : Nat) (ps : List (Nat × Nat)) : Prop := ps.length = 4 ∧ ∀ j (h : j < ps.length), S ps[j].1 (PaN a k n j).1 ∧ S ps[j].2 (PaN a k n j).2
theorem Pa.start (a : List Int) : Pa a 0 0 [(0, 0), (0, 0), (0, 0), (0, 0)] := by
  refine ⟨rfl, fun j h => ?_⟩
  have hz : PaN a 0 0 j = (0, 0) := by unfold PaN fourP; simp
  rw [hz]
  have : [((0 : Nat), (0 : Nat)), (0, 0), (0, 0), (0, 0)][j] = (0, 0) := by
    have h4 : j < 4 := h
    match j, h4 with
    | 0, _ => rfl
    | 1, _ => rfl
    | 2, _ => rfl
    | 3, _ => rfl
  rw [this]; exact ⟨S.zero, S.zero⟩
theorem Pa.next {a : List Int} {k : Nat} {ps : List (Nat × Nat)} (h : Pa a k 4 ps) : Pa a (k + 1) 0 ps := by
  refine ⟨h.1, fun j hj => ?_⟩
  have e : PaN a (k + 1) 0 j = PaN a k 4 j := by
    unfold PaN
    by_cases h1 : j < k
    · have : j < k + 1 := by omega
      simp [h1, this]
    · by_cases h2 : j = k
      · subst h2; simp
      · have h3 : ¬ j < k + 1 := by omega
        simp only [h1, h2, h3, if_false]
        by_cases h4 : j = k + 1 <;> simp [h4, fourP]
  rw [e]; exact h.2 j hj
theorem Pa.at {a : List Int} {k n : Nat} {ps : List (Nat × Nat)} (h : Pa a k n ps) (hk : k < 4) : ∃ r i, (cxs ps)[k]? = some (.complex .f32 r i) ∧ S r (fourP a k n).1 ∧ S i (fourP a k n).2 := by
  have hk' : k < ps.length := by rw [h.1]; exact hk
  obtain ⟨h1, h2⟩ := h.2 k hk'
  have e : PaN a k n k = fourP a k n := by unfold PaN; simp
  rw [e] at h1 h2
  exact ⟨ps[k].1, ps[k].2, by simp [cxs, hk'], h1, h2⟩
theorem Pa.step {a : List Int} {k n : Nat} {ps : List (Nat × Nat)} (h : Pa a k n ps) (hk : k < 4) {r i : Nat} (h1 : S r (fourP a k (n + 1)).1) (h2 : S i (fourP a k (n + 1)).2) : Pa a k (n + 1) (ps.set k (r, i)) := by
  refine ⟨by simpa using h.1, fun j hj => ?_⟩
  rw [List.getElem_set]
  by_cases hjk : k = j
  · subst hjk
    have e : PaN a k (n + 1) k = fourP a k (n + 1) := by unfold PaN; simp
    rw [if_pos rfl, e]; exact ⟨h1, h2⟩
  · rw [if_neg hjk]
    have e : PaN a k (n + 1) j = PaN a k n j := by unfold PaN; have : ¬ j = k := fun x => hjk x.symm; simp [this]
    rw [e]; exact h.2 j (by simpa using hj)

theorem info147 : (Tryz.prog.info? 31).map (·.size) = some 4 := by kernel_rfl
theorem info150 : (Tryz.prog.info? 28).map (·.size) = some 4 := by kernel_rfl

theorem Pw.set {w : World} (h : Pw w) {p : Addr} (hp : p.block ≠ 0) (u : Value) : Pw (w.setCell p u) := fun j v hv => (World.cell?_setCell_other w p _ u (fun e => hp (by rw [e]))).trans (h j v hv)
theorem keepF {wr w1 w2 : World} {p k : Nat} {t : TypeId} {vs : List Value} {v : Value} (hv : vs[k]? = some v)
    (h : w1.cell? ⟨p, k, none⟩ = some v ∧ w1.frozen? ⟨p, k, none⟩ = false ∧ Row w1 p t vs ∧ Below wr.heap.size wr w1 ∧ Pw w1) (hb : Below w1.heap.size w1 w2) :
    w2.cell? ⟨p, k, none⟩ = some v ∧ w2.frozen? ⟨p, k, none⟩ = false ∧ Row w2 p t vs ∧ Below wr.heap.size wr w2 ∧ Pw w2 := by
  obtain ⟨_, _, hr, hbb, hp⟩ := h
  have hr2 := hr.old hb
  exact ⟨by rw [hr2.cell]; exact hv, hr2.free k, hr2, hbb.trans (hb.mono hbb.size), hp.old hb⟩
theorem toF {wr : World} {p k : Nat} {t : TypeId} {vs : List Value} {v : Value} (hv : vs[k]? = some v) (hr : Row wr p t vs) (hp : Pw wr) :
    wr.cell? ⟨p, k, none⟩ = some v ∧ wr.frozen? ⟨p, k, none⟩ = false ∧ Row wr p t vs ∧ Below wr.heap.size wr wr ∧ Pw wr :=
  ⟨by rw [hr.cell]; exact hv, hr.free k, hr, Below.refl _ _, hp⟩

theorem index_four (x0 x1 x2 x3 : Nat) (n x : Nat) (hn : n < 4) (hx : [x0, x1, x2, x3][n]? = some x) (w : World) :
    (Instr.index 28 (.agg #[.float .f32 x0, .float .f32 x1, .float .f32 x2, .float .f32 x3]) (.int .i64 (n : Int))).run Tryz.prog w = .ok (.float .f32 x) w := by
  rcases (show n = 0 ∨ n = 1 ∨ n = 2 ∨ n = 3 by omega) with rfl | rfl | rfl | rfl
  all_goals (simp at hx; subst hx; kernel_rfl)
/-- one step of the inner loop, as it is reckoned -/
theorem four_run (a : List Int) (k n : Nat) (x r i : Nat) (ha : ∀ j, (a.getD j 0).natAbs ≤ 16384) (hn : n < 4) (hx : S x (a.getD n 0)) (hr : S r (fourP a k n).1) (hi : S i (fourP a k n).2) :
    ∃ r1 i1 r2 i2, (∀ w, (binOp .mul 30 (.complex .f32 x 0) (.complex .f32 (pb (powR (k * n))) (pb (powI (k * n))))).run Tryz.prog w = .ok (.complex .f32 r1 i1) w) ∧
      (∀ w, (binOp .add 30 (.complex .f32 r i) (.complex .f32 r1 i1)).run Tryz.prog w = .ok (.complex .f32 r2 i2) w) ∧ S r2 (fourP a k (n + 1)).1 ∧ S i2 (fourP a k (n + 1)).2 := by
  have p1 := powR_or (k * n)
  have p2 := powI_or (k * n)
  have b1 := mul_small (ha n) p1
  have b2 := mul_small (ha n) p2
  obtain ⟨r1, i1, s1, s2, hm⟩ := cmul (P := Tryz.prog) 30 hx S.zero (pb_spec _ p1) (pb_spec _ p2) (by omega) (by simp) (by omega) (by simp)
  have bd := fourP_bd a k (n + 1) ha
  have e1 : (fourP a k n).1 + (a.getD n 0 * powR (k * n) - 0 * powI (k * n)) = (fourP a k (n + 1)).1 := by simp [fourP]
  have e2 : (fourP a k n).2 + (a.getD n 0 * powI (k * n) + 0 * powR (k * n)) = (fourP a k (n + 1)).2 := by simp [fourP]
  obtain ⟨r2, i2, t1, t2, hs⟩ := cadd (P := Tryz.prog) 30 hr hi s1 s2 (by rw [e1]; omega) (by rw [e2]; omega)
  rw [e1] at t1; rw [e2] at t2
  exact ⟨r1, i1, r2, i2, hm, hs, t1, t2⟩

set_option maxRecDepth 100000 in
set_option maxHeartbeats 4000000 in
theorem four_ok (x0 x1 x2 x3 : Nat) (a : List Int) (w : World) (hw : Pw w) (ha : ∀ j, (a.getD j 0).natAbs ≤ 16384) (hS : ∀ j (h : j < [x0, x1, x2, x3].length), S [x0, x1, x2, x3][j] (a.getD j 0)) (h0 : sampsI [x0, x1, x2, x3] = 0) :
    Calls Tryz.prog 9 #[.agg #[.float .f32 x0, .float .f32 x1, .float .f32 x2, .float .f32 x3]] w fun e w' => ∃ ps, e = .returned (.tuple #[.agg (cxs ps).toArray, .int .i64 0]) ∧ Pa a 4 0 ps ∧ Below w.heap.size w w' := by
  have hg : 0 < w.heap.size := World.block_lt_of_cell? w _ (hw.at 0 1 rfl)
  have Hg := Lib.hid hg; clear hg
  have Hw := Lib.hid hw; have Ha := Lib.hid ha; have HS := Lib.hid hS; have H0 := Lib.hid h0
  clear hw ha hS h0
  go_enter Tryz.func9, Tryz.ntmps9
  go_wp2_with fail
  refine (checkSamples_any _ _ _ [x0, x1, x2, x3] _ ?_ rfl).mono ?_
  · exact Rd.below (Rd.new w (flts [x0, x1, x2, x3]).toArray 28 _ rfl) ((Below.refl _ _).alloc (Nat.le_refl _) _)
  rintro e w1 ⟨rfl, hb1⟩
  rw [H0.out]
  have hl : Row w1 w.heap.size 28 (flts [x0, x1, x2, x3]) := Row.old ((Row.new w 28 (flts [x0, x1, x2, x3])).alloc _) hb1
  have hres : Row w1 (w.heap.size + 1) 31 (cxs [(0, 0), (0, 0), (0, 0), (0, 0)]) := by
    have h := Row.new (w.alloc (.cells (flts [x0, x1, x2, x3]).toArray 28)) 31 (cxs [(0, 0), (0, 0), (0, 0), (0, 0)])
    rw [World.size_alloc] at h
    exact h.old hb1
  have hb0 : Below w.heap.size w w1 := (((Below.refl w.heap.size w).alloc (Nat.le_refl _) _).alloc (by simp) _).trans (hb1.mono (by simp; omega))
  have hp1 : Pw w1 := Hw.out.old hb0
  have hs1 : w.heap.size + 2 ≤ w1.heap.size := by have := hb1.size; simp at this; omega
  have Hl := Lib.hid hl; have Hres := Lib.hid hres; have Hb0 := Lib.hid hb0; have Hp1 := Lib.hid hp1
  clear hl hres hb0 hp1 hb1
  go_wp2
  go_loopw [15] (fun i wr => ∃ (k : Nat) (ps : List (Nat × Nat)), k ≤ 4 ∧ i = .int .i64 k ∧ Hid (Pa a k 0 ps) ∧ Row wr w1.heap.size 31 (cxs ps) ∧ Hid (Row wr w.heap.size 28 (flts [x0, x1, x2, x3])) ∧ Hid (Row wr (w.heap.size + 1) 31 (cxs [(0, 0), (0, 0), (0, 0), (0, 0)])) ∧ Hid (Pw wr) ∧ Hid (Below w.heap.size w wr)) (fun i _ => 4 - (intOf i).toNat)
  case atStart => exact ⟨0, _, Nat.zero_le _, rfl, Pa.start a, Row.new w1 31 (cxs [(0, 0), (0, 0), (0, 0), (0, 0)]), Hl.out.alloc _, Hres.out.alloc _, Hp1.out.old ((Below.refl _ _).alloc (Nat.le_refl _) _), Hb0.out.alloc (by omega) _⟩
  case round =>
    obtain ⟨k, ps, hk, rfl, hpa, hrow, hl, hres, hp, hb⟩ := hrel
    by_cases hlt : k < 4
    · have hl4 : Hid (wr.heap[w.heap.size]? = some (.cells #[.float .f32 x0, .float .f32 x1, .float .f32 x2, .float .f32 x3] 28 (0, 0))) := hl.out
      have Hrow := Lib.hid hrow
      clear hrow
      go_wp2_with (refine wpList_load_row rfl 28 _ rfl w.heap.size rfl 28 #[.float .f32 x0, .float .f32 x1, .float .f32 x2, .float .f32 x3] (0, 0) _ hl4.out Tryz.underlying28 rfl ?_ ?_; (rw [info150]; rfl))
      go_loopw [19] (fun i wn => ∃ (n : Nat) (qs : List (Nat × Nat)), n ≤ 4 ∧ i = .int .i64 n ∧ Hid (Pa a k n qs) ∧ Row wn w1.heap.size 31 (cxs qs) ∧ Hid (Row wn w.heap.size 28 (flts [x0, x1, x2, x3])) ∧ Hid (Row wn (w.heap.size + 1) 31 (cxs [(0, 0), (0, 0), (0, 0), (0, 0)])) ∧ Hid (Pw wn) ∧ Hid (Below w.heap.size w wn)) (fun i _ => 4 - (intOf i).toNat)
      case atStart => exact ⟨0, ps, Nat.zero_le _, rfl, hpa, Hrow.out, hl, hres, hp, hb⟩
      case round =>
        clear hl hres hp hb hpa Hrow hl4
        obtain ⟨n, qs, hn, rfl, hpa, hrow, hl, hres, hp, hb⟩ := hrel
        by_cases hlt2 : n < 4
        · obtain ⟨r, i, hv, sr, si⟩ := hpa.out.at hlt
          obtain ⟨z, hz⟩ : ∃ z, z = k * n := ⟨_, rfl⟩
          have hzi : (k : Int) * (n : Int) = (z : Int) := by rw [hz, Int.natCast_mul]
          have hzb : z < 1000000 := by
            have := Nat.mul_le_mul (show k ≤ 4 by omega) (show n ≤ 4 by omega); omega
          obtain ⟨x, hx, hxs⟩ : ∃ x, [x0, x1, x2, x3][n]? = some x ∧ S x (a.getD n 0) := by
            have h4 : n < [x0, x1, x2, x3].length := hlt2
            exact ⟨_, List.getElem?_eq_getElem h4, HS.out n h4⟩
          obtain ⟨r1, i1, r2, i2, hm, hs, s1, s2⟩ := four_run a k n x r i Ha.out hlt2 hxs sr si
          rw [← hz] at hm
          have hwr : IntKind.i64.wrap ((k : Int) * (n : Int)) = (z : Int) := by rw [hzi]; exact IntWalk.i64_in _ (by omega)
          clear hzi
          have Hzb := Lib.hid hzb
          clear hzb
          have hix := fun W => index_four x0 x1 x2 x3 n x hlt2 hx W
          have Hst := Lib.hid (hpa.out.step hlt s1 s2)
          have hset := Lib.hid (cxs_set qs k r2 i2)
          have Hv := Lib.hid hv
          clear sr si hxs s1 s2 hz hx hv
          have hS0 := toF (k := k) Hv.out hrow hp.out
          have hc := hS0.1
          have hf := hS0.2.1
          have Hrow := Lib.hid hrow
          have Hcall : Hid (Calls Tryz.prog 43 #[.int .i64 z] wr.drew fun e w' => e = .returned (.complex .f32 (pb (powR z)) (pb (powI z))) ∧ w'.cell? ⟨w1.heap.size, k, none⟩ = some (.complex .f32 r i) ∧ w'.frozen? ⟨w1.heap.size, k, none⟩ = false ∧ Hid (Row w' w1.heap.size 31 (cxs qs)) ∧ Hid (Below wr.heap.size wr w')) := by
            refine (power_any z wr.drew hp.out Hzb.out).mono ?_
            rintro e w' ⟨rfl, hb1⟩
            have h2 := keepF Hv.out hS0 ((Below.refl _ wr).drew.trans hb1)
            exact ⟨rfl, h2.1, h2.2.1, h2.2.2.1, h2.2.2.2.1⟩
          clear hrow hS0
          go_wp2
          go_region_with ((go_at_call 43; refine Hcall.out.mono ?_; rintro e w' ⟨rfl, hc', hf', hr', hb'⟩))
          all_goals go_wp2
          all_goals go_roundw
          all_goals first | (exact ⟨n + 1, qs.set k (r2, i2), by omega, by go_num, Hst.out, by rw [← hset.out]; exact hr'.out.set k _, (hl.out.old hb'.out).far (by simp; omega) _, (hres.out.old hb'.out).far (by simp; omega) _, (hp.out.old hb'.out).set (Nat.ne_of_gt (by have := Hg.out; show _ < w1.heap.size; omega)) _, (hb.out.trans (hb'.out.mono hb.out.size)).setCell (by simp; omega) _⟩) | (simp [intOf]; omega)
        · obtain rfl : n = 4 := by omega
          have Hrow := Lib.hid hrow
          clear hrow
          go_wp2
          go_roundw
          case rel => exact ⟨k + 1, qs, by omega, by go_num, hpa.out.next, Hrow.out, hl, hres, hp, hb⟩
          case measure => simp [intOf]; omega
    · obtain rfl : k = 4 := by omega
      have hlen : ps.length = 4 := hpa.out.1
      obtain ⟨vs, hvs⟩ : ∃ vs, vs = cxs ps := ⟨_, rfl⟩
      have h1 : ∀ v ∈ vs, v.oneCell' = true := by rw [hvs]; exact cxs_one ps
      have hvl : vs.length = 4 := by rw [hvs, cxs_length, hlen]
      rw [← hvs] at hrow
      have Hrow := Lib.hid hrow; have H1 := Lib.hid h1; have Hvl := Lib.hid hvl; have Hvs := Lib.hid hvs
      clear hrow h1 hvl hlen hvs
      go_wp2_with (first | (refine wpList_load_row rfl 31 _ rfl w1.heap.size rfl 31 vs.toArray (0, 0) _ Hrow.out Tryz.underlying31 rfl ?_ ?_; (rw [info147]; simp [Hvl.out])) | (refine wpList_store_row rfl 31 _ _ rfl (w.heap.size + 1) vs.toArray rfl rfl 31 _ hres.out ?_ ?_ ?_ ?_; (rw [info147]; simp [Hvl.out]); (simp [Hvl.out, cxs]); (simpa using H1.out)))
      refine bodyPost_ret (results_row_tmp rfl _ _ (w.heap.size + 1) 31 vs.toArray (0, 0) _ rfl (hres.out.setRow vs) Tryz.underlying31 rfl ?_) rfl ?_
      · rw [info147]; simp [Hvl.out]
      · exact ⟨ps, by rw [← Hvs.out]; rfl, hpa.out, Below.setRow hb.out (by simp) _⟩
end Go.Proofs.YtkfkmnfejeocpaaGreatDoor

/- Contracts: the errors of a panel. -/
namespace Go.Proofs.YtkfkmnfejeocpaaGreatDoor
set_option linter.all false
open Go.RowKit Go.Fl
set_option linter.unusedVariables false
set_option linter.unusedSimpArgs false

theorem Rd.cx {w : World} {A : Option Addr} {ps : List (Nat × Nat)} (h : Rd w A (cxs ps)) {j : Nat} (hj : j < ps.length) : ∃ b off, A = some ⟨b, off, none⟩ ∧ w.cell? ⟨b, off + j, none⟩ = some (.complex .f32 ps[j].1 ps[j].2) := by
  obtain ⟨b, off, h1, h2⟩ := Rd.at h (j := j) (by simpa [cxs] using hj)
  exact ⟨b, off, h1, by rw [h2]; simp [cxs]⟩

/-- the two errors of a part of a panel -/
def finE (r i : Nat) : Int := whenI (!finB r || !finB i) 1
def stpE (r i : Nat) : Int := whenI (!stepB r 65536 || !stepB i 65536) 3
set_option maxHeartbeats 400000 in
theorem panel1_any (r i : Nat) (w : World) : Calls Tryz.prog 109 #[.complex .f32 r i] w fun e w' => e = .returned (.int .i64 (finE r i)) ∧ Below w.heap.size w w' := by
  cases hr : finB r
  all_goals
    have Hr := Lib.hid hr; clear hr
    go_enter Tryz.func109, Tryz.ntmps109
    go_wp2_with (first | (go_at_call 110; refine (isFinite_any _ _).mono ?_; rintro e w' ⟨rfl, n, rfl⟩; try rw [Hr.out]) | (go_at_call 81; refine (failed_any _ _ _).mono ?_; rintro e w' ⟨rfl, rfl⟩))
    all_goals go_ret
    all_goals exact ⟨ret_int (by simp [finE, Hr.out]), by repeat (first | exact Below.refl _ _ | refine below_drewN ?_ _ | refine Below.drew ?_ | refine Below.alloc ?_ (by simp) _)⟩
set_option maxHeartbeats 400000 in
theorem panel2_any (r i : Nat) (w : World) : Calls Tryz.prog 111 #[.complex .f32 r i] w fun e w' => e = .returned (.int .i64 (stpE r i)) ∧ Below w.heap.size w w' := by
  cases hr : stepB r 65536
  all_goals
    have Hr := Lib.hid hr; clear hr
    go_enter Tryz.func111, Tryz.ntmps111
    go_wp2_with (first | (go_at_call 112; refine (isStepped_panel _ _).mono ?_; rintro e w' ⟨rfl, rfl⟩; try rw [Hr.out]) | (go_at_call 81; refine (failed_any _ _ _).mono ?_; rintro e w' ⟨rfl, rfl⟩))
    all_goals go_ret
    all_goals exact ⟨ret_int (by simp [stpE, Hr.out]), by repeat (first | exact Below.refl _ _ | refine below_drewN ?_ _ | refine Below.drew ?_ | refine Below.alloc ?_ (by simp) _)⟩
set_option maxRecDepth 100000 in
set_option maxHeartbeats 1000000 in
theorem mappedCx1_any (A : Option Addr) (n c : Nat) (ps : List (Nat × Nat)) (w : World) (hA : Rd w A (cxs ps)) (hn : n = ps.length) (hm : ps.length ≤ 4096) :
    Calls Tryz.prog 108 #[.slice A n c, .func (.func 109) #[] #[]] w fun e w' => ∃ g, e = .returned (.slice (some ⟨g, 0, none⟩) n n) ∧ Row w' g 32 (ints (ps.map fun p => finE p.1 p.2)) ∧ w.heap.size ≤ g ∧ Below w.heap.size w w' := by
  subst hn
  have hmk := fun W : World => make1 (P := Tryz.prog) 202 32 (.int .i64 0) 8 Tryz.underlying202 info27 rfl ps.length (by omega) (by omega) W
  obtain ⟨zs, hzs⟩ : ∃ zs, zs = ps.map fun p => finE p.1 p.2 := ⟨_, rfl⟩
  have hzl : zs.length = ps.length := by rw [hzs]; simp
  have HZ := Lib.hid hzs
  rw [← hzs]
  clear hzs
  go_enter Tryz.func108, Tryz.ntmps108
  go_wp2
  go_loopw [13] (fun i wr => ∃ k : Nat, k ≤ ps.length ∧ i = .int .i64 k ∧ Row wr w.heap.size 32 (ints (zs.take k) ++ List.replicate (ps.length - k) (.int .i64 0)) ∧ Below w.heap.size w wr) (fun i _ => ps.length - (intOf i).toNat)
  case atStart => exact ⟨0, Nat.zero_le _, rfl, by have := Row.new w 32 (List.replicate ps.length (.int .i64 0)); simpa [ints] using this, (Below.refl _ _).alloc (Nat.le_refl _) _⟩
  case round =>
    obtain ⟨k, hk, rfl, hrow, hb⟩ := hrel
    by_cases hlt : k < ps.length
    · obtain ⟨b, off, rfl, hc⟩ := Rd.cx (hA.below hb) hlt
      have hset := Lib.hid (part_set zs ps.length k (by omega) hzl.symm)
      have hfk : Hid (zs[k]'(by omega) = finE ps[k].1 ps[k].2) := by unfold Hid; simp [HZ.out]
      have Hrow := Lib.hid hrow
      have Hb := Lib.hid hb
      clear hrow hb
      go_wp2_with fail
      refine (panel1_any _ _ _).mono ?_
      rintro e w1 ⟨rfl, hb1⟩
      have Hrow1 := Lib.hid (Hrow.out.old hb1)
      have hc1 : w1.cell? ⟨w.heap.size, k, none⟩ = some (.int .i64 0) := by
        rw [Hrow1.out.cell]
        exact mid_get _ _ _ _ (by simp [ints]; omega) hlt
      have hf1 := Hrow1.out.free k
      have Hb1 := Lib.hid (Hb.out.trans (hb1.mono Hb.out.size))
      clear hb1
      go_wp2
      go_roundw
      case rel => exact ⟨k + 1, by omega, by go_num, by rw [← hset.out, hfk.out]; exact Hrow1.out.set k _, Hb1.out.setCell (by simp) _⟩
      case measure => simp [intOf]; omega
    · obtain rfl : k = ps.length := by omega
      go_wp2
      go_ret
      exact ⟨_, rfl, by rw [Nat.sub_self, List.replicate_zero, List.append_nil, List.take_of_length_le (by omega)] at hrow; exact hrow, Nat.le_refl _, hb⟩

set_option maxRecDepth 100000 in
set_option maxHeartbeats 1000000 in
theorem mappedCx2_any (A : Option Addr) (n c : Nat) (ps : List (Nat × Nat)) (w : World) (hA : Rd w A (cxs ps)) (hn : n = ps.length) (hm : ps.length ≤ 4096) :
    Calls Tryz.prog 108 #[.slice A n c, .func (.func 111) #[] #[]] w fun e w' => ∃ g, e = .returned (.slice (some ⟨g, 0, none⟩) n n) ∧ Row w' g 32 (ints (ps.map fun p => stpE p.1 p.2)) ∧ w.heap.size ≤ g ∧ Below w.heap.size w w' := by
  subst hn
  have hmk := fun W : World => make1 (P := Tryz.prog) 202 32 (.int .i64 0) 8 Tryz.underlying202 info27 rfl ps.length (by omega) (by omega) W
  obtain ⟨zs, hzs⟩ : ∃ zs, zs = ps.map fun p => stpE p.1 p.2 := ⟨_, rfl⟩
  have hzl : zs.length = ps.length := by rw [hzs]; simp
  have HZ := Lib.hid hzs
  rw [← hzs]
  clear hzs
  go_enter Tryz.func108, Tryz.ntmps108
  go_wp2
  go_loopw [13] (fun i wr => ∃ k : Nat, k ≤ ps.length ∧ i = .int .i64 k ∧ Row wr w.heap.size 32 (ints (zs.take k) ++ List.replicate (ps.length - k) (.int .i64 0)) ∧ Below w.heap.size w wr) (fun i _ => ps.length - (intOf i).toNat)
  case atStart => exact ⟨0, Nat.zero_le _, rfl, by have := Row.new w 32 (List.replicate ps.length (.int .i64 0)); simpa [ints] using this, (Below.refl _ _).alloc (Nat.le_refl _) _⟩
  case round =>
    obtain ⟨k, hk, rfl, hrow, hb⟩ := hrel
    by_cases hlt : k < ps.length
    · obtain ⟨b, off, rfl, hc⟩ := Rd.cx (hA.below hb) hlt
      have hset := Lib.hid (part_set zs ps.length k (by omega) hzl.symm)
      have hfk : Hid (zs[k]'(by omega) = stpE ps[k].1 ps[k].2) := by unfold Hid; simp [HZ.out]
      have Hrow := Lib.hid hrow
      have Hb := Lib.hid hb
      clear hrow hb
      go_wp2_with fail
      refine (panel2_any _ _ _).mono ?_
      rintro e w1 ⟨rfl, hb1⟩
      have Hrow1 := Lib.hid (Hrow.out.old hb1)
      have hc1 : w1.cell? ⟨w.heap.size, k, none⟩ = some (.int .i64 0) := by
        rw [Hrow1.out.cell]
        exact mid_get _ _ _ _ (by simp [ints]; omega) hlt
      have hf1 := Hrow1.out.free k
      have Hb1 := Lib.hid (Hb.out.trans (hb1.mono Hb.out.size))
      clear hb1
      go_wp2
      go_roundw
      case rel => exact ⟨k + 1, by omega, by go_num, by rw [← hset.out, hfk.out]; exact Hrow1.out.set k _, Hb1.out.setCell (by simp) _⟩
      case measure => simp [intOf]; omega
    · obtain rfl : k = ps.length := by omega
      go_wp2
      go_ret
      exact ⟨_, rfl, by rw [Nat.sub_self, List.replicate_zero, List.append_nil, List.take_of_length_le (by omega)] at hrow; exact hrow, Nat.le_refl _, hb⟩

/-- a panel without an error: finite parts, each a sixteenth of an integer up to 65536 -/
def okCx (ps : List (Nat × Nat)) : Prop := ∀ p ∈ ps, ∃ a b : Int, S p.1 a ∧ S p.2 b ∧ a.natAbs ≤ 65536 ∧ b.natAbs ≤ 65536
theorem fin_of {x : Nat} {a : Int} (h : S x a) : finB x = true := by
  unfold finB; rw [V32_of h]; rfl
theorem stp_of {x : Nat} {a : Int} {M : Nat} (h : S x a) (hb : a.natAbs ≤ M) : stepB x M = true := by
  unfold stepB
  rw [V32_of h]
  have h1 : (a * (2 ^ 145 : Nat)).natAbs ≤ M * 2 ^ 145 := by
    rw [natAbs_mul_pow]; exact Nat.mul_le_mul_right _ hb
  simp only [cutI_mul, decide_true, Bool.and_true, decide_eq_true_eq]
  exact h1
theorem firstI_zero {zs : List Int} (h : ∀ z ∈ zs, z = 0) : firstI zs = 0 := by
  induction zs with
  | nil => rfl
  | cons z zs ih => rw [firstI, if_pos (h z (by simp))]; exact ih fun y hy => h y (by simp [hy])
theorem okCx_fin {ps : List (Nat × Nat)} (h : okCx ps) : firstI (ps.map fun p => finE p.1 p.2) = 0 := firstI_zero (by
  intro z hz
  simp only [List.mem_map] at hz
  obtain ⟨p, hp, rfl⟩ := hz
  obtain ⟨a, b, h1, h2, _, _⟩ := h p hp
  unfold finE; rw [fin_of h1, fin_of h2]; rfl)
theorem okCx_stp {ps : List (Nat × Nat)} (h : okCx ps) : firstI (ps.map fun p => stpE p.1 p.2) = 0 := firstI_zero (by
  intro z hz
  simp only [List.mem_map] at hz
  obtain ⟨p, hp, rfl⟩ := hz
  obtain ⟨a, b, h1, h2, h3, h4⟩ := h p hp
  unfold stpE; rw [stp_of h1 h3, stp_of h2 h4]; rfl)

set_option maxRecDepth 100000 in
set_option maxHeartbeats 1000000 in
theorem checkPanel_ok (r0 i0 r1 i1 r2 i2 r3 i3 : Nat) (w : World) (h : okCx [(r0, i0), (r1, i1), (r2, i2), (r3, i3)]) :
    Calls Tryz.prog 46 #[.agg #[.complex .f32 r0 i0, .complex .f32 r1 i1, .complex .f32 r2 i2, .complex .f32 r3 i3]] w fun e w' => e = .returned (.int .i64 0) ∧ Below w.heap.size w w' := by
  have H := Lib.hid h
  clear h
  have H1 := Lib.hid (okCx_fin H.out)
  have H2 := Lib.hid (okCx_stp H.out)
  go_enter Tryz.func46, Tryz.ntmps46
  have hr0 : Row (w.alloc (.cells #[.complex .f32 r0 i0, .complex .f32 r1 i1, .complex .f32 r2 i2, .complex .f32 r3 i3] 31)) w.heap.size 31 (cxs [(r0, i0), (r1, i1), (r2, i2), (r3, i3)]) := Row.new w 31 (cxs [(r0, i0), (r1, i1), (r2, i2), (r3, i3)])
  have Hr0 := Lib.hid hr0
  clear hr0
  go_wp2_with fail
  refine (mappedCx1_any _ _ _ [(r0, i0), (r1, i1), (r2, i2), (r3, i3)] _ (Rd.row Hr0.out) rfl (by simp)).mono ?_
  rintro e w1 ⟨g1, rfl, hrow1, hg1, hb1⟩
  have Hr1 := Lib.hid (Hr0.out.old hb1)
  have Hrow1 := Lib.hid hrow1
  have Hb1 := Lib.hid hb1
  clear hrow1 hb1
  go_wp2_with fail
  refine (mappedCx2_any _ _ _ [(r0, i0), (r1, i1), (r2, i2), (r3, i3)] _ (Rd.row Hr1.out) rfl (by simp)).mono ?_
  rintro e w2 ⟨g2, rfl, hrow2, hg2, hb2⟩
  have Hq1 := Lib.hid (Rd.row (Hrow1.out.old hb2))
  have Hq2 := Lib.hid (Rd.row hrow2)
  have Hb2 : Hid (Below w.heap.size w w2) := ((Below.refl w.heap.size w).alloc (Nat.le_refl _) _).trans ((Hb1.out.mono (by simp)).trans (hb2.mono (by have := Hb1.out.size; simp at this; omega)))
  clear hrow2 hb2
  go_wp2_with fail
  refine (firstV_any (some ⟨g1, 0, none⟩) _ _ (List.map (fun p => finE p.1 p.2) [(r0, i0), (r1, i1), (r2, i2), (r3, i3)]) _ Hq1.out rfl (by simp)).mono ?_
  rintro e w' ⟨rfl, rfl⟩
  rw [H1.out]
  go_wp2_with fail
  refine (firstV_any (some ⟨g2, 0, none⟩) _ _ (List.map (fun p => stpE p.1 p.2) [(r0, i0), (r1, i1), (r2, i2), (r3, i3)]) _ Hq2.out rfl (by simp)).mono ?_
  rintro e w' ⟨rfl, rfl⟩
  rw [H2.out]
  go_wp2_with fail
  refine (firstV_any _ _ _ [0, 0] _ (Rd.new _ _ _ _ rfl) rfl (by simp)).mono ?_
  rintro e w' ⟨rfl, rfl⟩
  go_wp2
  go_ret
  exact ⟨rfl, Below.alloc Hb2.out (by have := Hb2.out.size; omega) _⟩
end Go.Proofs.YtkfkmnfejeocpaaGreatDoor
