import Derived.Test.YtoclnlimnjnbkaaGreatDoorM26
namespace Go.Proofs.YtoclnlimnjnbkaaGreatDoor
set_option linter.all false
open Go.RowKit Go.Fl
theorem stepX_inj {j : Nat} (hj : j < 8) {x y b : Int} (hx : 0 ≤ x ∧ x ≤ 255) (hy : 0 ≤ y ∧ y ≤ 255) (h : x ≠ y) : stepX j x b ≠ stepX j y b := by
  unfold stepX
  rcases (show j = 0 ∨ j = 1 ∨ j = 2 ∨ j = 3 ∨ j = 4 ∨ j = 5 ∨ j = 6 ∨ j = 7 by omega) with rfl | rfl | rfl | rfl | rfl | rfl | rfl | rfl
  all_goals (intro e; omega)
theorem stepX_byte {j : Nat} {x b c : Int} (hb : 0 ≤ b ∧ b ≤ 255) (hc : 0 ≤ c ∧ c ≤ 255) (h : b ≠ c) : stepX j x b ≠ stepX j x c := by
  unfold stepX
  intro e
  have e2 : ((10 * (j : Int) + 7) * x + b + 3 * j + 5) % 256 = ((10 * (j : Int) + 7) * x + c + 3 * j + 5) % 256 := e
  generalize (10 * (j : Int) + 7) * x = q at e2
  omega
theorem sealB_ne {j : Nat} (hj : j < 8) : ∀ (bs : List UInt8) {x y : Int}, (0 ≤ x ∧ x ≤ 255) → (0 ≤ y ∧ y ≤ 255) → x ≠ y → sealB j x bs ≠ sealB j y bs
  | [], _, _, _, _, h => h
  | b :: bs, x, y, hx, hy, h => sealB_ne hj bs (stepX_bd j x _) (stepX_bd j y _) (stepX_inj hj hx hy h)
theorem sealB_set {j : Nat} (hj : j < 8) : ∀ (bs : List UInt8) (k : Nat) (hk : k < bs.length) (c : UInt8) (x : Int), c ≠ bs[k] → sealB j x (bs.set k c) ≠ sealB j x bs
  | b :: bs, 0, _, c, x, h => by
    have h' : c ≠ b := h
    show sealB j (stepX j x c.toNat) bs ≠ sealB j (stepX j x b.toNat) bs
    have h1 := c.toNat_lt; have h2 := b.toNat_lt
    refine sealB_ne hj bs (stepX_bd _ _ _) (stepX_bd _ _ _) (stepX_byte (by omega) (by omega) fun e => h' ?_)
    exact UInt8.toNat_inj.1 (by omega)
  | b :: bs, k + 1, hk, c, x, h => by
    show sealB j (stepX j x b.toNat) (bs.set k c) ≠ sealB j (stepX j x b.toNat) bs
    exact sealB_set hj bs k (by simpa using hk) c _ (by simpa using h)
theorem sealGo_getD (bs : List UInt8) : ∀ (xs : List Int) (j i : Nat), i < xs.length → (sealGo bs j xs).getD i 0 = sealB (j + i) (xs.getD i 0) bs
  | x :: xs, j, 0, _ => rfl
  | x :: xs, j, i + 1, h => by
    show (sealGo bs (j + 1) xs).getD i 0 = _
    rw [sealGo_getD bs xs (j + 1) i (by simpa using h), show j + 1 + i = j + (i + 1) by omega]
    rfl
theorem sealL_getD {key : List Int} (bs : List UInt8) {i : Nat} (hi : i < key.length) : (sealL key bs).getD i 0 = sealB i (key.getD i 0) bs := by
  have h := sealGo_getD bs key 0 i hi
  rw [Nat.zero_add] at h
  exact h
theorem seal_all {key : List Int} (h8 : key.length = 8) {bs : List UInt8} {k : Nat} (hk : k < bs.length) {c : UInt8} (hc : c ≠ bs[k]) {i : Nat} (hi : i < 8) : (sealL key (bs.set k c)).getD i 0 ≠ (sealL key bs).getD i 0 := by
  rw [sealL_getD _ (by omega), sealL_getD _ (by omega)]
  exact sealB_set hi bs k hk c _ hc
theorem seal_other {key ke2 : List Int} (h8 : key.length = 8) (h9 : ke2.length = 8) {i : Nat} (hi : i < 8) (hx : isByte (key.getD i 0)) (hy : isByte (ke2.getD i 0)) (hne : key.getD i 0 ≠ ke2.getD i 0) (bs : List UInt8) : sealL key bs ≠ sealL ke2 bs := by
  intro e
  have e2 : (sealL key bs).getD i 0 = (sealL ke2 bs).getD i 0 := by rw [e]
  rw [sealL_getD _ (by omega), sealL_getD _ (by omega)] at e2
  exact sealB_ne hi bs hx hy hne e2
def pkX (a b c : Int) : List Nat := fbs [a, b, c, 0, 0, 0, 0, 0]
def bdF (i : Nat) (a b c : Int) : List Int := [201, 9, (i : Int) % 65536 / 256, (i : Int) % 256, 8, a % 65536 / 256, a % 256, b % 65536 / 256, b % 256, c % 65536 / 256, c % 256, 0, 0, 0, 0, 0, 0, 0, 0, 0, 0]
theorem bodyB_F {i : Nat} {a b c : Int} (ha : a.natAbs ≤ 16384) (hb : b.natAbs ≤ 16384) (hc : c.natAbs ≤ 16384) : bodyB 9 (i : Int) 8 (pkX a b c) = bdF i a b c := by
  have h0 := hi_fb (n := 0) (by simp)
  unfold bodyB headB tailB pkX fbs bdF
  simp only [List.map_cons, List.map_nil, List.flatMap_cons, List.flatMap_nil, (hi_fb ha).1, (hi_fb hb).1, (hi_fb hc).1, h0.1, (hi_fb ha).2, (hi_fb hb).2, (hi_fb hc).2, h0.2]
  simp
theorem bdF_byte (i : Nat) (a b c : Int) : ∀ x ∈ bdF i a b c, isByte x := by
  intro x hx
  simp only [bdF, List.mem_cons, List.not_mem_nil, or_false] at hx
  unfold isByte
  omega
def enF (key : List Int) (i : Nat) (a b c : Int) : List UInt8 := toB (bdF i a b c ++ sealL key (toB (bdF i a b c)))
theorem enF_len {key : List Int} (h8 : key.length = 8) (i : Nat) (a b c : Int) : (enF key i a b c).length = 29 := by
  unfold enF; rw [toB_length, List.length_append, seal8, h8]; rfl
theorem enF_take (key : List Int) (i : Nat) (a b c : Int) : (enF key i a b c).take 21 = toB (bdF i a b c) := by
  unfold enF toB
  rw [List.map_append, List.take_left' (by simp [bdF])]
theorem enF_drop (key : List Int) (i : Nat) (a b c : Int) : (enF key i a b c).drop 21 = toB (sealL key (toB (bdF i a b c))) := by
  unfold enF
  show (toB _).drop 21 = _
  unfold toB
  rw [List.map_append, List.drop_left' (by simp [bdF])]
theorem enF_at (key : List Int) (i : Nat) (a b c : Int) {k : Nat} (hk : k < 21) : byteAt (enF key i a b c) k = (bdF i a b c).getD k 0 := by
  have e : byteAt (enF key i a b c) k = byteAt ((enF key i a b c).take 21) k := by
    unfold byteAt
    simp [List.getD_eq_getElem?_getD, List.getElem?_take, hk]
  rw [e, enF_take, byteAt_toB (bdF_byte i a b c) (by simpa [bdF] using hk)]
theorem enF_sealed {key : List Int} (h8 : key.length = 8) (hb : ∀ z ∈ key, isByte z) (i : Nat) (a b c : Int) : sealedB key (enF key i a b c) = true := by
  unfold sealedB
  rw [enF_len h8, enF_drop, enF_take, natsI_toB (sealL_byte _ _ hb)]
  simp
theorem enF_x {key : List Int} {i : Nat} {a b c : Int} (ha : a.natAbs ≤ 16384) (hb : b.natAbs ≤ 16384) (hc : c.natAbs ≤ 16384) : xsOf (enF key i a b c) 8 = pkX a b c := by
  have e : ∀ k, k < 21 → byteAt (enF key i a b c) k = (bdF i a b c).getD k 0 := fun k hk => enF_at key i a b c hk
  show [fb (signI (byteAt (enF key i a b c) 5) (byteAt (enF key i a b c) 6)), fb (signI (byteAt (enF key i a b c) 7) (byteAt (enF key i a b c) 8)), fb (signI (byteAt (enF key i a b c) 9) (byteAt (enF key i a b c) 10)), fb (signI (byteAt (enF key i a b c) 11) (byteAt (enF key i a b c) 12)), fb (signI (byteAt (enF key i a b c) 13) (byteAt (enF key i a b c) 14)), fb (signI (byteAt (enF key i a b c) 15) (byteAt (enF key i a b c) 16)), fb (signI (byteAt (enF key i a b c) 17) (byteAt (enF key i a b c) 18)), fb (signI (byteAt (enF key i a b c) 19) (byteAt (enF key i a b c) 20))] = _
  rw [e 5 (by omega), e 6 (by omega), e 7 (by omega), e 8 (by omega), e 9 (by omega), e 10 (by omega), e 11 (by omega), e 12 (by omega), e 13 (by omega), e 14 (by omega), e 15 (by omega), e 16 (by omega), e 17 (by omega), e 18 (by omega), e 19 (by omega), e 20 (by omega)]
  show [fb (signI (a % 65536 / 256) (a % 256)), fb (signI (b % 65536 / 256) (b % 256)), fb (signI (c % 65536 / 256) (c % 256)), fb (signI 0 0), fb (signI 0 0), fb (signI 0 0), fb (signI 0 0), fb (signI 0 0)] = _
  rw [sign_back ha, sign_back hb, sign_back hc]
  rfl
theorem pkX_samp {a b c : Int} (ha : a.natAbs ≤ 16384) (hb : b.natAbs ≤ 16384) (hc : c.natAbs ≤ 16384) : ∀ x ∈ pkX a b c, sampI x = 0 := by
  refine fbs_samp ?_
  intro x hx
  simp only [List.mem_cons, List.not_mem_nil, or_false] at hx
  rcases hx with rfl | rfl | rfl | rfl | rfl | rfl | rfl | rfl <;> first | assumption | simp
theorem enF_st (key : List Int) {i : Nat} (hi : i < 65536) (a b c : Int) : byteAt (enF key i a b c) 0 = 201 ∧ stOf (enF key i a b c) = 9 ∧ ctOf (enF key i a b c) = i ∧ lnOf (enF key i a b c) = 8 := by
  have e : ∀ k, k < 21 → byteAt (enF key i a b c) k = (bdF i a b c).getD k 0 := fun k hk => enF_at key i a b c hk
  unfold stOf ctOf lnOf wholeI
  rw [e 0 (by omega), e 1 (by omega), e 2 (by omega), e 3 (by omega), e 4 (by omega)]
  refine ⟨rfl, rfl, ?_, rfl⟩
  show 256 * ((i : Int) % 65536 / 256) + (i : Int) % 256 = i
  omega
theorem trim8 (xs : List Nat) (h : xs.length ≤ 8) : trimL 8 xs = xs := by
  unfold trimL trimTo
  apply List.ext_getElem (by simp)
  intro j h1 h2
  rw [List.getElem_map, List.getElem_zipIdx]
  rw [if_neg (by simp; omega)]
theorem order_self {x : Nat} (h : sampI x = 0) : (FloatKind.f32.format.order x x == some .eq) = true := by
  obtain ⟨V, hV, _, _⟩ := unit_of h
  rw [eql_of hV hV]; simp
theorem samePk_self {st ct ln : Int} {xs : List Nat} (h : ∀ x ∈ xs, sampI x = 0) (h8 : xs.length = 8) : samePk st ct ln xs st ct ln xs = true := by
  match xs, h8 with
  | [x0, x1, x2, x3, x4, x5, x6, x7], _ =>
    unfold samePk
    simp [sameF, order_self (h x0 (by simp)), order_self (h x1 (by simp)), order_self (h x2 (by simp)), order_self (h x3 (by simp)), order_self (h x4 (by simp)), order_self (h x5 (by simp)), order_self (h x6 (by simp)), order_self (h x7 (by simp))]
theorem pkI_F {i : Nat} (hi : i < 65536) {a b c : Int} (ha : a.natAbs ≤ 16384) (hb : b.natAbs ≤ 16384) (hc : c.natAbs ≤ 16384) : pkI 9 (i : Int) 8 (pkX a b c) = 0 := by
  have hs := pkX_samp ha hb hc
  have h0 : sampsI (pkX a b c) = 0 := by
    unfold sampsI
    rw [if_neg (by simp [pkX, fbs])]
    refine firstI_zero ?_
    intro z hz
    obtain ⟨x, hx, rfl⟩ := List.mem_map.1 hz
    exact hs x hx
  unfold pkI
  rw [trim8 _ (by simp [pkX, fbs]), samePk_self hs (by simp [pkX, fbs]), h0]
  have e1 : whenI (rangeB (i : Int) 0 65535) 3 = 0 := by unfold whenI rangeB; rw [if_neg]; simp; omega
  rw [e1]
  rfl
theorem decE_F {key : List Int} (h8 : key.length = 8) (hk : ∀ z ∈ key, isByte z) {i : Nat} (hi : i < 65536) {a b c : Int} (ha : a.natAbs ≤ 16384) (hb : b.natAbs ≤ 16384) (hc : c.natAbs ≤ 16384) : decE key (enF key i a b c) = 0 := by
  obtain ⟨e0, e1, e2, e3⟩ := enF_st key hi a b c
  unfold decE
  rw [e0, if_neg (by simp), enF_sealed h8 hk, if_neg (by simp), e1, e2, e3, enF_x ha hb hc]
  exact pkI_F hi ha hb hc
theorem decC_F {key : List Int} (h8 : key.length = 8) (hk : ∀ z ∈ key, isByte z) {i : Nat} (hi : i < 65536) {a b c : Int} (ha : a.natAbs ≤ 16384) (hb : b.natAbs ≤ 16384) (hc : c.natAbs ≤ 16384) : decC key (enF key i a b c) = pkC 9 (i : Int) 8 (pkX a b c) := by
  obtain ⟨e0, e1, e2, e3⟩ := enF_st key hi a b c
  unfold decC
  rw [if_pos (decE_F h8 hk hi ha hb hc), e1, e2, e3, enF_x ha hb hc]
theorem decE_broken {key : List Int} (h8 : key.length = 8) (hk : ∀ z ∈ key, isByte z) (i : Nat) (a b c : Int) {k : Nat} (hk2 : k < (enF key i a b c).length) {v : UInt8} (hv : v ≠ (enF key i a b c)[k]) : decE key ((enF key i a b c).set k v) = if k = 0 then 1 else 27 := by
  have hlen := enF_len h8 i a b c
  have hl2 : ((enF key i a b c).set k v).length = 29 := by rw [List.length_set, hlen]
  have e0 : byteAt (enF key i a b c) 0 = 201 := by rw [enF_at _ _ _ _ _ (by omega)]; rfl
  unfold decE
  by_cases h0 : k = 0
  · subst h0
    rw [if_pos rfl, if_pos]
    rw [bne_iff_ne]
    intro e
    rw [← e0] at e
    unfold byteAt at e
    rw [List.getD_eq_getElem?_getD, List.getElem?_set_self hk2, List.getD_eq_getElem?_getD, List.getElem?_eq_getElem hk2] at e
    have e' : (v.toNat : Int) = ((enF key i a b c)[0].toNat : Int) := by simpa using e
    exact hv (UInt8.toNat_inj.1 (by omega))
  · have e1 : byteAt ((enF key i a b c).set k v) 0 = 201 := by
      rw [← e0]; unfold byteAt
      rw [List.getD_eq_getElem?_getD, List.getElem?_set_ne h0, List.getD_eq_getElem?_getD]
    rw [if_neg h0, e1, if_neg (by simp), if_pos]
    have ho := enF_sealed h8 hk i a b c
    have hse : sealedB key ((enF key i a b c).set k v) = false := by
      unfold sealedB at ho ⊢
      rw [hl2]
      rw [hlen] at ho
      have ho' : natsI ((enF key i a b c).drop 21) = sealL key ((enF key i a b c).take 21) := by simpa using ho
      rw [beq_eq_false_iff_ne]
      show natsI (((enF key i a b c).set k v).drop 21) ≠ sealL key (((enF key i a b c).set k v).take 21)
      cases Nat.lt_or_ge k 21 with
      | inl h =>
        have e1 : ((enF key i a b c).set k v).drop 21 = (enF key i a b c).drop 21 := List.drop_set_of_lt (by omega)
        have e2 : ((enF key i a b c).set k v).take 21 = ((enF key i a b c).take 21).set k v := by rw [List.take_set]
        rw [e1, e2, ho']
        have hk3 : k < ((enF key i a b c).take 21).length := by rw [List.length_take, hlen]; omega
        intro e
        have hv2 : v ≠ ((enF key i a b c).take 21)[k] := by rw [List.getElem_take]; exact hv
        exact seal_all h8 hk3 hv2 (i := 0) (by omega) (by rw [← e])
      | inr h =>
        have e2 : ((enF key i a b c).set k v).take 21 = (enF key i a b c).take 21 := List.take_set_of_le h
        rw [e2, ← ho']
        intro e
        have e3 := natsI_inj e
        have e4 : (((enF key i a b c).set k v).drop 21)[k - 21]? = ((enF key i a b c).drop 21)[k - 21]? := by rw [e3]
        rw [List.getElem?_drop, List.getElem?_drop, show 21 + (k - 21) = k by omega, List.getElem?_set_self hk2, List.getElem?_eq_getElem hk2] at e4
        exact hv (Option.some.inj e4)
    rw [hse]; rfl
theorem decE_other {key ke2 : List Int} (h8 : key.length = 8) (h9 : ke2.length = 8) (hk : ∀ z ∈ key, isByte z) (i : Nat) (a b c : Int) {j : Nat} (hj : j < 8) (hx : isByte (key.getD j 0)) (hy : isByte (ke2.getD j 0)) (hne : key.getD j 0 ≠ ke2.getD j 0) : decE ke2 (enF key i a b c) = 27 := by
  have e0 : byteAt (enF key i a b c) 0 = 201 := by rw [enF_at _ _ _ _ _ (by omega)]; rfl
  unfold decE
  rw [e0, if_neg (by simp), if_pos]
  have hse : sealedB ke2 (enF key i a b c) = false := by
    have ho := enF_sealed h8 hk i a b c
    unfold sealedB at ho ⊢
    rw [enF_len h8] at ho ⊢
    have ho' : natsI ((enF key i a b c).drop 21) = sealL key ((enF key i a b c).take 21) := by simpa using ho
    rw [beq_eq_false_iff_ne]
    show natsI ((enF key i a b c).drop 21) ≠ sealL ke2 ((enF key i a b c).take 21)
    rw [ho']
    exact seal_other h8 h9 hj hx hy hne _
  rw [hse]; rfl
abbrev Tri := Nat × Int × Int × Int
def enAll (key : List Int) (l : List Tri) : List UInt8 := l.flatMap fun p => enF key p.1 p.2.1 p.2.2.1 p.2.2.2
def okTri (p : Tri) : Prop := p.1 < 65536 ∧ p.2.1.natAbs ≤ 16384 ∧ p.2.2.1.natAbs ≤ 16384 ∧ p.2.2.2.natAbs ≤ 16384
def triC (p : Tri) : List Value := pkC 9 (p.1 : Int) 8 (pkX p.2.1 p.2.2.1 p.2.2.2)
theorem recv_packets {key : List Int} (h8 : key.length = 8) (hk : ∀ z ∈ key, isByte z) (bs : List UInt8) (sp : List (Int × Int)) : ∀ (l : List Tri) (f i : Nat) (ps : List (List Value)), (∀ p ∈ l, okTri p) → bs.drop i = enAll key l → i ≤ bs.length → bs.length ≤ i + f → recvGo key bs f i ps sp = (ps ++ l.map triC, sp)
  | [], f, i, ps, _, hd, hi, hf => by
    have hl : bs.length = i := by
      have := congrArg List.length hd
      simp [enAll] at this; omega
    cases f with
    | zero => simp [recvGo]
    | succ f => rw [recvGo, if_neg (by omega)]; simp
  | p :: l, f, i, ps, ho, hd, hi, hf => by
    obtain ⟨o1, o2, o3, o4⟩ := ho p (by simp)
    have hcons : enAll key (p :: l) = enF key p.1 p.2.1 p.2.2.1 p.2.2.2 ++ enAll key l := rfl
    have hel := enF_len h8 p.1 p.2.1 p.2.2.1 p.2.2.2
    have hlen : bs.length - i = 29 + (enAll key l).length := by
      have := congrArg List.length hd
      rw [hcons, List.length_append, hel, List.length_drop] at this; exact this
    have ht : (bs.drop i).take 29 = enF key p.1 p.2.1 p.2.2.1 p.2.2.2 := by rw [hd, hcons, List.take_left' hel]
    have hd2 : bs.drop (i + 29) = enAll key l := by
      rw [← List.drop_drop, hd, hcons, List.drop_left' hel]
    have hb : begE key (bs.drop i) = true := by
      unfold begE
      rw [if_neg (by rw [List.length_drop]; omega), ht, decE_F h8 hk o1 o2 o3 o4]; rfl
    have hc : begC key (bs.drop i) = triC p := by
      unfold begC
      rw [if_neg (by rw [List.length_drop]; omega), ht, decC_F h8 hk o1 o2 o3 o4]; rfl
    cases f with
    | zero => omega
    | succ f =>
      rw [recvGo, if_pos (by omega), if_pos hb, hc]
      rw [recv_packets h8 hk bs sp l f (i + 29) (ps ++ [triC p]) (fun q hq => ho q (by simp [hq])) hd2 (by omega) (by omega)]
      simp
theorem recv_other {key : List Int} (bs : List UInt8) (n : Nat) (hn : n ≤ bs.length) (ho : ∀ j, j < n → byteAt bs j ≠ 201) : ∀ (m i f : Nat), i + m = n → recvGo key bs (f + m) i [] (if i = 0 then [] else [(0, (i : Int))]) = recvGo key bs f n [] (if n = 0 then [] else [(0, (n : Int))])
  | 0, i, f, h => by
    have : i = n := by omega
    subst this; rfl
  | m + 1, i, f, h => by
    have hb : begE key (bs.drop i) = false := by
      unfold begE
      split
      · rfl
      · have e : byteAt ((bs.drop i).take 29) 0 = byteAt bs i := by
          unfold byteAt
          simp [List.getD_eq_getElem?_getD, List.getElem?_take, List.getElem?_drop]
        have hne := ho i (by omega)
        unfold decE
        rw [e, if_pos (by rw [bne_iff_ne]; exact hne)]
        rfl
    have hw : widL (if i = 0 then [] else [(0, (i : Int))]) (i : Int) = if i + 1 = 0 then [] else [(0, ((i + 1 : Nat) : Int))] := by
      rw [if_neg (by omega : ¬ i + 1 = 0)]
      by_cases h0 : i = 0
      · subst h0; rfl
      · rw [if_neg h0]
        unfold widL
        simp
    rw [show f + (m + 1) = (f + m) + 1 by omega, recvGo, if_pos (by omega), hb, if_neg (by simp), hw]
    exact recv_other bs n hn ho m (i + 1) f (by omega)
theorem recv_all {key : List Int} (h8 : key.length = 8) (hk : ∀ z ∈ key, isByte z) (ot : List UInt8) (ho : ∀ b ∈ ot, b.toNat ≠ 201) (l : List Tri) (hl : ∀ p ∈ l, okTri p) :
    recvL key (ot ++ enAll key l) = (l.map triC, if ot.length = 0 then [] else [(0, (ot.length : Int))]) := by
  unfold recvL
  have hj : ∀ j, j < ot.length → byteAt (ot ++ enAll key l) j ≠ 201 := by
    intro j hj
    unfold byteAt
    rw [List.getD_eq_getElem?_getD, List.getElem?_append_left hj, List.getElem?_eq_getElem hj]
    have := ho _ (List.getElem_mem hj)
    simp; omega
  have h := recv_other (key := key) (ot ++ enAll key l) ot.length (by simp) hj ot.length 0 (enAll key l).length (by omega)
  rw [if_pos rfl] at h
  rw [show (ot ++ enAll key l).length = (enAll key l).length + ot.length by simp; omega, h]
  rw [recv_packets h8 hk (ot ++ enAll key l) _ l (enAll key l).length ot.length [] hl (by simp) (by simp) (by simp)]
  simp
abbrev Ra := Int × Int × Int
def mkT (L : List Ra) (i : Nat) : Tri := (i, (L.getD i (0, 0, 0)).1.tmod 16385, (L.getD i (0, 0, 0)).2.1.tmod 16385, (L.getD i (0, 0, 0)).2.2.tmod 16385)
def tT (L : List Ra) (k : Nat) : List Tri := (List.range k).map (mkT L)
def uT (L : List Ra) (wh k : Nat) : List Tri := ((List.range k).filter fun i => i != wh).map (mkT L)
theorem tT_succ (L : List Ra) (k : Nat) : tT L (k + 1) = tT L k ++ [mkT L k] := by unfold tT; rw [List.range_succ, List.map_append]; rfl
theorem uT_succ (L : List Ra) (wh k : Nat) : uT L wh (k + 1) = if k = wh then uT L wh k else uT L wh k ++ [mkT L k] := by
  unfold uT; rw [List.range_succ, List.filter_append, List.map_append]
  by_cases h : k = wh
  · rw [if_pos h]; subst h; simp
  · rw [if_neg h]; simp [h]
theorem bd_mod (x : Int) : (x.tmod 16385).natAbs ≤ 16384 := by
  rw [Int.natAbs_tmod]
  have := Nat.mod_lt x.natAbs (show 0 < 16385 by decide)
  show x.natAbs % 16385 ≤ 16384
  omega
theorem mkT_ok (L : List Ra) {i : Nat} (h : i < 65536) : okTri (mkT L i) := ⟨h, bd_mod _, bd_mod _, bd_mod _⟩
theorem tT_ok (L : List Ra) {k : Nat} (h : k < 65536) : ∀ p ∈ tT L k, okTri p := by
  intro p hp
  obtain ⟨i, hi, rfl⟩ := List.mem_map.1 hp
  exact mkT_ok L (by have := List.mem_range.1 hi; omega)
theorem uT_ok (L : List Ra) {wh k : Nat} (h : k < 65536) : ∀ p ∈ uT L wh k, okTri p := by
  intro p hp
  obtain ⟨i, hi, rfl⟩ := List.mem_map.1 hp
  exact mkT_ok L (by have := List.mem_range.1 ((List.mem_filter.1 hi).1); omega)
theorem tT_len (L : List Ra) (k : Nat) : (tT L k).length = k := by simp [tT]
theorem tT_get (L : List Ra) {k i : Nat} (h : i < k) : (tT L k)[i]? = some (mkT L i) := by simp [tT, h]
theorem filter_lt : ∀ (k wh : Nat), k ≤ wh → (List.range k).filter (fun i => i != wh) = List.range k := fun k wh h =>
  List.filter_eq_self.2 fun i hi => by have := List.mem_range.1 hi; simp; omega
theorem uT_split (L : List Ra) {wh n : Nat} (h : wh < n) : uT L wh n = tT L wh ++ ((List.range (n - (wh + 1))).map fun i => mkT L (wh + 1 + i)) := by
  unfold uT tT
  have e : List.range n = List.range wh ++ ([wh] ++ (List.range (n - (wh + 1))).map fun i => wh + 1 + i) := by
    apply List.ext_getElem (by simp; omega)
    intro j h1 h2
    rw [List.getElem_range, List.getElem_append]
    split
    · simp
    · rw [List.getElem_append]
      split
      · rename_i h3 h4; simp at h3 h4 ⊢; omega
      · rename_i h3 h4; simp at h3 h4 ⊢; omega
  rw [e, List.filter_append, List.filter_append, filter_lt wh wh (Nat.le_refl _), List.map_append]
  congr 1
  rw [show ([wh].filter fun i => i != wh) = [] by simp, List.nil_append, List.filter_eq_self.2, List.map_map]
  · rfl
  · intro i hi
    obtain ⟨j, _, rfl⟩ := List.mem_map.1 hi
    simp; omega
theorem uT_len (L : List Ra) {wh n : Nat} (h : wh < n) : (uT L wh n).length = n - 1 := by rw [uT_split L h]; simp [tT]; omega
theorem uT_low (L : List Ra) {wh n i : Nat} (h : wh < n) (hi : i < wh) : (uT L wh n)[i]? = some (mkT L i) := by
  rw [uT_split L h, List.getElem?_append_left (by rw [tT_len]; exact hi)]
  exact tT_get L hi
theorem uT_high (L : List Ra) {wh n i : Nat} (h : wh < n) (hi : wh < i) (hn : i < n) : (uT L wh n)[i - 1]? = some (mkT L i) := by
  rw [uT_split L h, List.getElem?_append_right (by rw [tT_len]; omega), tT_len, List.getElem?_map, List.getElem?_range (by omega)]
  show some (mkT L (wh + 1 + (i - 1 - wh))) = _
  rw [show wh + 1 + (i - 1 - wh) = i by omega]
def toP (p : Tri) : PkT := (9, (p.1 : Int), 8, pkX p.2.1 p.2.2.1 p.2.2.2)
theorem toP_C (p : Tri) : pkV (toP p) = triC p := rfl
theorem pksC_T (l : List Tri) : pksC (l.map toP) = (l.map triC).flatten := by
  unfold pksC
  rw [List.flatMap_map]
  rfl
theorem pks8_T (l : List Tri) : pks8 (l.map toP) := by
  intro p hp
  obtain ⟨q, _, rfl⟩ := List.mem_map.1 hp
  simp [toP, pkX, fbs]
theorem asmE_T {l : List Tri} (hl : l.length ≤ 5) (ho : ∀ p ∈ l, okTri p) (N : Nat) (hN : N ≤ 40) : asmE (l.map toP) 9 (N : Int) = 0 := by
  unfold asmE
  have h1 : pksI (l.map toP) = 0 := by
    unfold pksI
    rw [if_neg (by simp; omega)]
    refine firstI_zero ?_
    intro z hz
    obtain ⟨p, hp, rfl⟩ := List.mem_map.1 hz
    obtain ⟨q, hq, rfl⟩ := List.mem_map.1 hp
    obtain ⟨o1, o2, o3, o4⟩ := ho q hq
    exact pkI_F o1 o2 o3 o4
  have h2 : whenI (rangeB (N : Int) 0 4096) 3 = 0 := by unfold whenI rangeB; rw [if_neg]; simp; omega
  rw [h1, h2]
  rfl
def whS (L : List Ra) (i : Nat) : Nat := (pkX (mkT L (i / 8)).2.1 (mkT L (i / 8)).2.2.1 (mkT L (i / 8)).2.2.2).getD (i % 8) 0
def paS (L : List Ra) (wh i : Nat) : Nat := if i / 8 = wh then 0 else whS L i
set_option maxRecDepth 10000 in
theorem asm_all (L : List Ra) {n : Nat} (h1 : 1 ≤ n) (h5 : n ≤ 5) : (asmL 9 ((8 * n : Nat) : Int) ((tT L n).map toP)).1 = (List.range (8 * n)).map (whS L) ∧ gapsL (asmL 9 ((8 * n : Nat) : Int) ((tT L n).map toP)).2 = [] := by
  rcases (show n = 1 ∨ n = 2 ∨ n = 3 ∨ n = 4 ∨ n = 5 by omega) with rfl | rfl | rfl | rfl | rfl
  all_goals exact ⟨by kernel_rfl, by kernel_rfl⟩
set_option maxRecDepth 10000 in
theorem asm_some (L : List Ra) {n wh : Nat} (h : wh < n) (h5 : n ≤ 5) : (asmL 9 ((8 * n : Nat) : Int) ((uT L wh n).map toP)).1 = (List.range (8 * n)).map (paS L wh) ∧ gapsL (asmL 9 ((8 * n : Nat) : Int) ((uT L wh n).map toP)).2 = [(((8 * wh : Nat) : Int), ((8 * wh + 8 : Nat) : Int))] := by
  rcases (show n = 1 ∨ n = 2 ∨ n = 3 ∨ n = 4 ∨ n = 5 by omega) with rfl | rfl | rfl | rfl | rfl
  · obtain rfl : wh = 0 := by omega
    exact ⟨by kernel_rfl, by kernel_rfl⟩
  · rcases (show wh = 0 ∨ wh = 1 by omega) with rfl | rfl
    all_goals exact ⟨by kernel_rfl, by kernel_rfl⟩
  · rcases (show wh = 0 ∨ wh = 1 ∨ wh = 2 by omega) with rfl | rfl | rfl
    all_goals exact ⟨by kernel_rfl, by kernel_rfl⟩
  · rcases (show wh = 0 ∨ wh = 1 ∨ wh = 2 ∨ wh = 3 by omega) with rfl | rfl | rfl | rfl
    all_goals exact ⟨by kernel_rfl, by kernel_rfl⟩
  · rcases (show wh = 0 ∨ wh = 1 ∨ wh = 2 ∨ wh = 3 ∨ wh = 4 by omega) with rfl | rfl | rfl | rfl | rfl
    all_goals exact ⟨by kernel_rfl, by kernel_rfl⟩
end Go.Proofs.YtoclnlimnjnbkaaGreatDoor
