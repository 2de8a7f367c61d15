import Derived.Test.YtaknlhepgeiekaaGreatDoorH20
import Derived.Test.YtaknlhepgeiekaaGreatDoorH22
import Derived.Lib.AppendIntMem
import Derived.Lib.ItoaLen
import Derived.Laws.RangeAny
import Derived.StringKeys
namespace Go.Proofs.YtaknlhepgeiekaaGreatDoor
set_option linter.all false
open Go.RowKit
def It (w : World) : Prop := Lib.TabIs Tryz.prog w "internal/strconv.uint64pow10" .u64 Lib.pow10Tab
theorem It.old {w w' : World} (h : It w) (hb : Below w.heap.size w w') : It w' := Lib.tabBelow_of_tabIs h w' hb
def itoaB (n : Int) : ByteArray := ⟨(Lib.itoa n).toArray⟩
theorem below_numeral (B : Nat) (w : World) (q : Nat) (os : Array Obj) (hB : B ≤ w.heap.size) : Below B w (Sort.grow (w.drewN q) os) := by
 refine ⟨rfl, rfl, rfl, by simp [Sort.grow], fun k hk => ?_⟩
 show (w.heap ++ os)[k]? = w.heap[k]?
 rw [Array.getElem?_append_left (by omega)]
theorem itoa_any (n : Int) (w : World) (hT : It w) (h : -9223372036854775808 ≤ n ∧ n ≤ 9223372036854775807) : Calls Tryz.prog 113 #[.int .i64 n] w fun e w' => e = .returned (.string (itoaB n)) ∧ Below w.heap.size w w' :=
 (Tryz.strconv_Itoa n h.1 h.2 w hT).mono fun e w' ⟨h1, k, os, h2⟩ => ⟨h1, by rw [h2]; exact below_numeral _ _ _ _ (Nat.le_refl _)⟩
theorem writeString (B b : Nat) (bs : List Value) (s : ByteArray) (w : World) (h : Lib.IsBuilderF 124 5 B b bs w) (hlen : bs.length + s.size ≤ 140737488355328) (hBw : B ≤ w.heap.size) :
 Calls Tryz.prog 54 #[.pointer (some ⟨b, 0, none⟩), .string s] w fun e w' => e = .returned (.tuple #[.int .i64 s.size, .nilIface]) ∧ (Lib.BuilderAtF 124 5 B b (.pointer (some ⟨b, 0, none⟩)) (bs ++ Lib.strCells s) w' ∧ Below B w w' ∧ Lib.OthersKept 5 (some b) w w') :=
 Any.Builder_WriteString_k (ρ := Tryz.lays156_ren) { Tryz.lays156 with } Tryz.Builder_Extra_156 B b bs s w h hlen hBw
theorem ownsF_below {w w' : World} {B : Nat} {e : TypeId} {s n : Nat} {v : Value} {xs : List Value} (h : w.ownsRowF B e s v n xs) (hb : Below w.heap.size w w') : w'.ownsRowF B e s v n xs := by
 refine ⟨h.1, ?_⟩
 rcases h.2 with h2 | ⟨g', cap, cur, fz, h1, h2, h3, h4⟩
 · exact .inl h2
 · exact .inr ⟨g', cap, cur, fz, h1, h2, (hb.block g' (Array.getElem?_eq_some_iff.1 h3).1).trans h3, h4⟩
theorem builder_old {B b : Nat} {bs : List Value} {T e : TypeId} {p : Value} {w w' : World} (h : Lib.BuilderAtF T e B b p bs w) (hb : Below w.heap.size w w') : Lib.BuilderAtF T e B b p bs w' := by
 obtain ⟨h0, v, h1, h2, h3⟩ := h
 exact ⟨h0, v, (hb.block b (Array.getElem?_eq_some_iff.1 h1).1).trans h1, ownsF_below h2 hb, h3⟩
theorem isBuilder_old {B b : Nat} {bs : List Value} {T e : TypeId} {w w' : World} (h : Lib.IsBuilderF T e B b bs w) (hb : Below w.heap.size w w') : Lib.IsBuilderF T e B b bs w' := h.imp (fun h => builder_old h hb) (fun h => builder_old h hb)
theorem Row.others {w w' : World} {g : Nat} {t : TypeId} {vs : List Value} {b : Nat} {e : TypeId} (h : Row w g t vs) (hk : Lib.OthersKept e (some b) w w') (hg : g ≠ b) (ht : t ≠ e) : Row w' g t vs :=
 hk g _ h (fun e => hg (Option.some.inj e)) (fun c fz e => by cases e; exact ht rfl)
set_option maxRecDepth 100000
set_option maxHeartbeats 1000000
theorem mappedItoa_any (A : Option Addr) (n c : Nat) (xs : List Int) (w : World) (hT : It w) (hA : Rd w A (ints xs)) (hn : n = xs.length) (hm : xs.length ≤ 4096) (hs : ∀ x ∈ xs, -9223372036854775808 ≤ x ∧ x ≤ 9223372036854775807) :
 Calls Tryz.prog 112 #[.slice A n c, .func (.func 113) #[] #[]] w fun e w' => ∃ g, e = .returned (.slice (some ⟨g, 0, none⟩) n n) ∧ Row w' g 9 (strs (xs.map itoaB)) ∧ w.heap.size ≤ g ∧ Below w.heap.size w w' := by
 subst hn
 have Hs := Lib.hid hs
 have HT := Lib.hid hT
 clear hs hT
 have hmk := fun W : World => make1 (P := Tryz.prog) 51 9 (.string ⟨#[]⟩) 16 Tryz.underlying51 info9 rfl xs.length (by omega) (by omega) W
 go_enter Tryz.func112, Tryz.ntmps112
 go_wp2
 go_loopw [13] (fun i wr => ∃ k : Nat, k ≤ xs.length ∧ i = .int .i64 k ∧ Row wr w.heap.size 9 (((xs.map itoaB).take k).map Value.string ++ List.replicate (xs.length - k) (.string ⟨#[]⟩)) ∧ Below w.heap.size w wr) (fun i _ => xs.length - (intOf i).toNat)
 case atStart => exact ⟨0, Nat.zero_le _, rfl, by have := Row.new w 9 (List.replicate xs.length (.string ⟨#[]⟩)); simpa using this, (Below.refl _ _).alloc (Nat.le_refl _) _⟩
 case round =>
  obtain ⟨k, hk, rfl, hrow, hb⟩ := hrel
  by_cases hlt : k < xs.length
  · obtain ⟨b, off, rfl, hc⟩ := Rd.int (hA.below hb) hlt
    have hset := Lib.hid (part_setG Value.string (xs.map itoaB) (.string ⟨#[]⟩) xs.length k (by simpa using hlt) (by simp))
    have hfk := Lib.hid (show (xs.map itoaB)[k]'(by simpa using hlt) = itoaB xs[k] by simp)
    have hsk := Lib.hid (Hs.out xs[k] (List.getElem_mem hlt))
    have Hrow := Lib.hid hrow
    have Hb := Lib.hid hb
    clear hrow hb
    go_wp2_with fail
    refine (itoa_any _ _ (HT.out.old Hb.out) hsk.out).mono ?_
    rintro e w1 ⟨rfl, hb1⟩
    have hrow1 := Hrow.out.old hb1
    have hc1 : w1.cell? ⟨w.heap.size, k, none⟩ = some (.string ⟨#[]⟩) := by
     rw [hrow1.cell]
     exact mid_get _ _ _ _ (by simp; omega) hlt
    have hf1 := hrow1.free k
    have Hrow1 := Lib.hid hrow1
    have Hb1 := Lib.hid (Hb.out.trans (hb1.mono (Hb.out.size)))
    clear hb1 hrow1
    go_wp2
    go_roundw
    case rel => exact ⟨k + 1, by omega, by go_num, by rw [← hset.out, hfk.out]; exact Hrow1.out.set k _, Hb1.out.setCell (by simp) _⟩
    case measure => simp [intOf]; omega
  · obtain rfl : k = xs.length := by omega
    go_wp2
    go_ret
    exact ⟨_, rfl, by rw [Nat.sub_self, List.replicate_zero, List.append_nil, List.take_of_length_le (by simp)] at hrow; exact hrow, Nat.le_refl _, hb⟩
def lineL (ws : List ByteArray) : List UInt8 := Lib.join (ws.map (·.data.toList)) [32] ++ [10]
def lineB (ws : List ByteArray) : ByteArray := ⟨(lineL ws).toArray⟩
theorem lineB_list (ws : List ByteArray) : (lineB ws).data.toList = lineL ws := by simp [lineB]
theorem lineB_size (ws : List ByteArray) : (lineB ws).size = (lineL ws).length := by simp [lineB, ByteArray.size]
theorem lineB_eq (ws : List ByteArray) : (⟨(Lib.join (ws.map (·.data.toList)) [32]).toArray⟩ : ByteArray) ++ ⟨#[10]⟩ = lineB ws := by
 apply ByteArray.ext
 simp [lineB, lineL]
theorem ret_str {a b : ByteArray} (h : a = b) : Ending.returned (.string a) = .returned (.string b) := by rw [h]
theorem line_any (bk c : Nat) (ws : List ByteArray) (w : World) (hr : Rd w (some ⟨bk, 0, none⟩) (strs ws)) (hbk : bk < w.heap.size) (hc : ws.length ≤ c) (hl : (lineL ws).length ≤ 140737488355328) (hn : ws.length ≤ 140737488355328) :
 Calls Tryz.prog 111 #[.slice (some ⟨bk, 0, none⟩) ws.length c] w fun e w' => e = .returned (.string (lineB ws)) ∧ Below w.heap.size w w' := by
 have hj : (Lib.join (ws.map (·.data.toList)) [32]).length ≤ 140737488355328 := by
  unfold lineL at hl; rw [List.length_append] at hl; omega
 have hsz : (⟨(Lib.join (ws.map (·.data.toList)) [32]).toArray⟩ : ByteArray).size ≤ 140737488355328 := by simpa [ByteArray.size] using hj
 have hsz1 : (⟨#[10]⟩ : ByteArray).size = 1 := rfl
 have HE := Lib.hid (lineB_eq ws)
 have HJ := Lib.hid (Tryz.strings_Join bk 0 c ws ⟨#[32]⟩ w (fun j x hx => by obtain ⟨b, off, h1, h2⟩ := hr j (.string x) (by simp [strs, hx]); cases h1; exact h2) hbk hn hc hj)
 clear hl hj
 go_enter Tryz.func111, Tryz.ntmps111
 go_wp2_with fail
 refine HJ.out.mono ?_
 rintro e w1 ⟨rfl, hb⟩
 go_wp2
 go_ret
 exact ⟨ret_str (by rw [HE.out]), hb⟩
def numLineB (wd : ByteArray) (l : List Int) : ByteArray := lineB (wd :: l.map itoaB)
theorem numeral_len (n : Int) (h : -9223372036854775808 ≤ n ∧ n ≤ 9223372036854775807) : (itoaB n).size ≤ 21 := by simpa [itoaB, ByteArray.size] using Lib.itoa_length_le n h.1 h.2
theorem joinTail_len (r : List ByteArray) (m : Nat) (h : ∀ x ∈ r, x.size ≤ m) : (Lib.joinTail [32] (r.map (·.data.toList))).length ≤ r.length * (m + 1) := by
 induction r with
 | nil => simp [Lib.joinTail]
 | cons x r ih =>
   have h1 := h x (by simp)
   have h2 := ih (fun y hy => h y (by simp [hy]))
   unfold Lib.joinTail at *
   have hx : x.data.toList.length = x.size := Array.length_toList
   simp only [List.map_cons, List.flatten_cons, List.length_append, List.length_cons, List.length_nil, Nat.succ_mul, hx]
   omega
theorem lineL_len (wd : ByteArray) (r : List ByteArray) (m : Nat) (h : ∀ x ∈ r, x.size ≤ m) : (lineL (wd :: r)).length ≤ wd.size + r.length * (m + 1) + 1 := by
 have := joinTail_len r m h
 have hx : wd.data.toList.length = wd.size := Array.length_toList
 unfold lineL
 rw [List.map_cons, Lib.join_cons, List.length_append, List.length_append, hx]
 simp only [List.length_cons, List.length_nil]
 omega
theorem numLine_len (wd : ByteArray) (l : List Int) (hs : ∀ x ∈ l, -9223372036854775808 ≤ x ∧ x ≤ 9223372036854775807) : (lineL (wd :: l.map itoaB)).length ≤ wd.size + l.length * 22 + 1 := by
 have := lineL_len wd (l.map itoaB) 21 (fun x hx => by obtain ⟨n, hn, rfl⟩ := List.mem_map.1 hx; exact numeral_len n (hs n hn))
 simpa using this
theorem ownsRow.cap {w : World} {B g : Nat} {e : TypeId} {n c m : Nat} {xs : List Value} (h : w.ownsRow B e 1 (.slice (some ⟨g, 0, none⟩) n c) m xs) : m ≤ c := by
 rcases h.2 with ⟨h1, _⟩ | ⟨g', cap, cur, h1, _, _, h2, _⟩
 · cases h1
 · cases h1; exact h2
theorem numberLine_any (A : Option Addr) (n c : Nat) (wd : ByteArray) (xs : List Int) (w : World) (hT : It w) (hA : Rd w A (ints xs)) (hn : n = xs.length) (hm : xs.length ≤ 4096) (hs : ∀ x ∈ xs, -9223372036854775808 ≤ x ∧ x ≤ 9223372036854775807) (hw : wd.size ≤ 1000) :
 Calls Tryz.prog 55 #[.string wd, .slice A n c] w fun e w' => e = .returned (.string (numLineB wd xs)) ∧ Below w.heap.size w w' := by
 subst hn
 have Hs := Lib.hid hs
 have HM := Lib.hid (mappedItoa_any A xs.length c xs (w.alloc (.cells #[.string wd] 9)) (hT.old ((Below.refl _ _).alloc (Nat.le_refl _) _)) (hA.below ((Below.refl _ _).alloc (Nat.le_refl _) _)) rfl hm hs)
 have R0 := Lib.hid (Row.new w 9 [.string wd])
 have HL := Lib.hid (numLine_len wd xs hs)
 have hms := Lib.hid hm
 clear hs hT hA
 obtain ⟨i0, hi, hz0, hz1, hz2⟩ := info_parts info9
 go_enter Tryz.func55, Tryz.ntmps55
 go_wp2_with (go_at_call 112; refine HM.out.mono ?_)
 rintro e w1 ⟨g, rfl, hrow, hg, hb⟩
 have r1 := R0.out.old hb
 have hb0 := (((Below.refl w.heap.size w).alloc (Nat.le_refl _) (.cells #[.string wd] 9))).trans (hb.mono (by simp))
 have hsz := hb0.size
 have ho := row_owns r1 1 1 w.heap.size rfl (by unfold maxLen; decide) (Nat.le_refl _)
 have Hb0 := Lib.hid hb0; have Hrow := Lib.hid hrow
 clear hb hb0 hrow r1
 go_wp2_with (at_builtin; refine wpList_app rfl _ _ 51 rfl w.heap.size 9 (.string ⟨#[]⟩) 1 16 Tryz.underlying51 info9 rfl (by decide) _ 1 [.string wd] rfl ho (some ⟨g, 0, none⟩) xs.length xs.length (strs (xs.map itoaB)) rfl (by intro h; cases h) (Rd.row Hrow.out) (by simp [strs]) ?c1 ?c2 ?c3 ?c4 ?_)
 case c1 => simp [strs, Value.oneCell']
 case c2 => unfold maxLen; omega
 case c3 => omega
 case c4 => omega
 intro v' w2 ho2 hg2
 obtain ⟨g2, c2, rfl, hg2a, hg2b⟩ := ownsRow.addr ho2 (by omega)
 have hcap := ownsRow.cap ho2
 have hr2 := owned_rd ho2
 have hb2 := Lib.hid (Hb0.out.grown hg2 (by omega) (fun k hk => (ho.lt k hk).1))
 have HK := Lib.hid (line_any g2 c2 (wd :: xs.map itoaB) w2 hr2 hg2b (by simp; omega) (by have := HL.out; omega) (by simp; omega))
 rw [show (wd :: xs.map itoaB).length = 1 + xs.length by simp; omega] at HK
 clear ho2 hg2 hr2 ho
 go_wp2_with (go_at_call 111; refine HK.out.mono ?_; rintro e w3 ⟨rfl, hb3⟩)
 go_ret
 exact ⟨rfl, hb2.out.trans (hb3.mono hb2.out.size)⟩
set_option maxRecDepth 100000
set_option maxHeartbeats 2000000
def digC (c : UInt8) : Bool := decide (48 ≤ c.toNat) && decide (c.toNat ≤ 57)
def valI (l : List UInt8) : Int := l.foldl (fun n c => 10 * n + ((c.toNat : Int) - 48)) 0
def zeroHead (l : List UInt8) : Bool := decide (l.headD 0 = 48) && decide (l ≠ [48])
def countOk (l : List UInt8) : Bool := !l.isEmpty && decide (l.length ≤ 9) && !zeroHead l && l.all digC
def countV (l : List UInt8) : Int := if countOk l then valI l else 0
def countE (s : ByteArray) : Ending := .returned (.tuple #[.int .i64 (countV s.data.toList), .bool (countOk s.data.toList)])
theorem valI_snoc (l : List UInt8) (c : UInt8) : valI (l ++ [c]) = 10 * valI l + ((c.toNat : Int) - 48) := by simp [valI]
theorem valI_bd : ∀ (k : Nat) (l : List UInt8), l.length = k → l.all digC = true → 0 ≤ valI l ∧ valI l < 10 ^ k
 | 0, l, hl, _ => by
   cases l with
   | nil => simp [valI]
   | cons a l => simp at hl
 | k + 1, l, hl, ha => by
   have hne : l ≠ [] := by intro h; subst h; simp at hl
   have e := List.dropLast_concat_getLast hne
   have hd : l.dropLast.length = k := by simp [hl]
   rw [← e, List.all_append] at ha
   simp only [Bool.and_eq_true, List.all_cons, List.all_nil, Bool.and_true] at ha
   obtain ⟨h1, h2⟩ := ha
   have ih := valI_bd k _ hd h1
   simp only [digC, Bool.and_eq_true, decide_eq_true_eq] at h2
   rw [← e, valI_snoc]
   have : (10 : Int) ^ (k + 1) = 10 * 10 ^ k := by rw [Int.pow_succ]; omega
   omega
theorem valI_le {l : List UInt8} {m : Nat} (hl : l.length ≤ m) (ha : l.all digC = true) : 0 ≤ valI l ∧ valI l < ((10 ^ m : Nat) : Int) := by
 have h := valI_bd l.length l rfl ha
 have h2 : (10 : Nat) ^ l.length ≤ 10 ^ m := Nat.pow_le_pow_right (by decide) hl
 refine ⟨h.1, Int.lt_of_lt_of_le h.2 ?_⟩
 have h3 : (((10 : Nat) ^ l.length : Nat) : Int) = 10 ^ l.length := Int.natCast_pow _ _
 rw [← h3]
 exact Int.ofNat_le.2 h2
theorem valI_small {l : List UInt8} (hl : l.length ≤ 8) (ha : l.all digC = true) : 0 ≤ valI l ∧ valI l ≤ 99999999 := by
 have h := valI_le hl ha
 rw [show (10 : Nat) ^ 8 = 100000000 from by decide] at h
 omega
theorem countV_bd (l : List UInt8) : 0 ≤ countV l ∧ countV l ≤ 999999999 := by
 unfold countV
 split
 · rename_i h
   simp only [countOk, Bool.and_eq_true, decide_eq_true_eq] at h
   obtain ⟨⟨⟨-, hl⟩, -⟩, ha⟩ := h
   have h := valI_le hl ha
   rw [show (10 : Nat) ^ 9 = 1000000000 from by decide] at h
   omega
 · omega
theorem countE_bad {s : ByteArray} (h : countOk s.data.toList = false) : countE s = .returned (.tuple #[.int .i64 0, .bool false]) := by
 unfold countE countV; rw [h]; rfl
theorem countE_good {s : ByteArray} (h : countOk s.data.toList = true) : countE s = .returned (.tuple #[.int .i64 (valI s.data.toList), .bool true]) := by
 unfold countE countV; rw [h]; rfl
theorem count_any (s : ByteArray) (w : World) : Calls Tryz.prog 176 #[.string s] w fun e w' => e = countE s ∧ Below w.heap.size w w' := by
 have hl : s.data.toList.length = s.size := by simp
 by_cases h0 : s.size = 0
 · have he : s = ByteArray.empty := by
    obtain ⟨⟨l⟩⟩ := s
    cases l with
    | nil => rfl
    | cons a l => simp [ByteArray.size] at h0
   subst he
   clear h0 hl
   have HE := Lib.hid (countE_bad (s := ByteArray.empty) rfl)
   go_enter Tryz.func176, Tryz.ntmps176
   go_wp2
   go_ret2
   exact ⟨HE.out.symm, Below.refl _ _⟩
 · have hp : 0 < s.size := by omega
   have hne := isEmpty_eq s hp
   have hd := Lib.hid (head_eq s hp)
   have hne2 : s.toList.isEmpty = false := by rw [ByteArray.toList_eq]; exact hne
   by_cases h1 : 9 < s.size
   · have HE := Lib.hid (countE_bad (s := s) (by unfold countOk; rw [decide_eq_false (show ¬ s.data.toList.length ≤ 9 by omega)]; simp))
     go_enter Tryz.func176, Tryz.ntmps176
     go_wp2
     go_ret2
     exact ⟨HE.out.symm, Below.refl _ _⟩
   · have h2 : s.size ≤ 9 := by omega
     clear h1
     have hzl : (s.data.toList = [48]) = (s.toList = [48]) := by rw [ByteArray.toList_eq]
     by_cases hz : s[0].toNat = 48
     · have hhd : s.data.toList.headD 0 = 48 := by rw [hd.out]; exact UInt8.toNat_inj.1 hz
       by_cases hone : s.data.toList = [48]
       · have heq : (s.toList == [48]) = true := by rw [ByteArray.toList_eq, hone]; rfl
         have Hzh : Hid (zeroHead s.data.toList = false) := by unfold Hid zeroHead; rw [decide_eq_false (show ¬ s.data.toList ≠ [48] from fun h => h hone)]; simp
         clear hzl hhd hone
         go_enter Tryz.func176, Tryz.ntmps176
         go_wp2
         go_loopw [4] (fun n w' => ∃ k : Nat, k ≤ s.size ∧ w' = w.iter s k ∧ n = .int .i64 (valI (s.data.toList.take k)) ∧ Hid ((s.data.toList.take k).all digC = true)) (fun _ w' => s.size - w'.iterPos w.heap.size)
         case atStart => exact ⟨0, Nat.zero_le _, rfl, rfl, rfl⟩
         case round =>
          obtain ⟨k, hk, rfl, rfl, H⟩ := hrel
          by_cases hlt : k < s.size
          · have hall := Lib.hid (take_all_succ s k hlt digC)
            have hbad := Lib.hid (all_false_of s k hlt digC)
            have hval : Hid (valI (s.data.toList.take (k + 1)) = 10 * valI (s.data.toList.take k) + ((s[k].toNat : Int) - 48)) := by
             unfold Hid; rw [List.take_succ_eq_append_getElem (by simpa using hlt), valI_snoc]; rfl
            have hsm := valI_small (l := s.data.toList.take k) (by simp; omega) H.out
            obtain ⟨v, hv⟩ : ∃ v, v = valI (s.data.toList.take k) := ⟨_, rfl⟩
            rw [← hv] at hval hsm ⊢
            clear hv
            by_cases ha : s[k].toNat < 128
            · have hnx : ∀ ty, (Instr.next (.pointer (some ⟨w.heap.size, 0, none⟩)) true ty).run Tryz.prog (w.iter s k) = _ := fun ty => run_next_ascii w s k ty hlt ha
              by_cases hdig : digC s[k] = true
              · have hd2 : 48 ≤ s[k].toNat ∧ s[k].toNat ≤ 57 := by simpa [digC] using hdig
                have hdc : decide ((s[k].toNat : Int) < 48) = false := decide_eq_false (by omega)
                have hdc2 : decide ((57 : Int) < (s[k].toNat : Int)) = false := decide_eq_false (by omega)
                have Hdig := Lib.hid hdig
                clear hdig
                go_wp2
                go_roundw
                case rel => exact ⟨k + 1, by omega, rfl, by rw [hval.out], by show _ = true; rw [hall.out, H.out, Hdig.out]; rfl⟩
                case measure => simp; omega
              · have hd2 : s[k].toNat < 48 ∨ 57 < s[k].toNat := by
                 simp only [digC, Bool.and_eq_true, decide_eq_true_eq] at hdig; omega
                have HE := Lib.hid (countE_bad (s := s) (by unfold countOk; rw [hbad.out (by simpa using hdig)]; simp))
                clear hdig
                rcases hd2 with hd2 | hd2
                · have hdc : decide ((s[k].toNat : Int) < 48) = true := decide_eq_true (by omega)
                  go_wp2
                  go_ret2
                  exact ⟨HE.out.symm, (Below.refl _ _).alloc (Nat.le_refl _) _⟩
                · have hdc : decide ((s[k].toNat : Int) < 48) = false := decide_eq_false (by omega)
                  have hdc2 : decide ((57 : Int) < (s[k].toNat : Int)) = true := decide_eq_true (by omega)
                  go_wp2
                  go_ret2
                  exact ⟨HE.out.symm, (Below.refl _ _).alloc (Nat.le_refl _) _⟩
            · have hnx : ∀ ty, (Instr.next (.pointer (some ⟨w.heap.size, 0, none⟩)) true ty).run Tryz.prog (w.iter s k) = _ := fun ty => run_next_any w s k ty hlt
              have hhi := (decode_high s k hlt (by omega)).1
              obtain ⟨r, hr⟩ : ∃ r, r = (Utf8.decode s k).1 := ⟨_, rfl⟩
              have HE := Lib.hid (countE_bad (s := s) (by unfold countOk; rw [hbad.out (by simp [digC]; omega)]; simp))
              rw [← hr] at hhi hnx
              clear hr
              have hdc : decide ((r : Int) < 48) = false := decide_eq_false (by omega)
              have hdc2 : decide ((57 : Int) < (r : Int)) = true := decide_eq_true (by omega)
              go_wp2
              go_ret2
              exact ⟨HE.out.symm, (Below.refl _ _).alloc (Nat.le_refl _) _⟩
          · obtain rfl : k = s.size := by omega
            have hnx : ∀ ty, (Instr.next (.pointer (some ⟨w.heap.size, 0, none⟩)) true ty).run Tryz.prog (w.iter s s.size) = _ := fun ty => run_next_end w s s.size ty hlt
            have hta : s.data.toList.take s.size = s.data.toList := List.take_of_length_le (by omega)
            rw [hta] at H ⊢
            have HE := Lib.hid (countE_good (s := s) (by unfold countOk; rw [hne, H.out, Hzh.out, decide_eq_true (show s.data.toList.length ≤ 9 by omega)]; rfl))
            clear hta
            go_wp2
            go_ret2
            exact ⟨HE.out.symm, (Below.refl _ _).alloc (Nat.le_refl _) _⟩
       · have heq : (s.toList == [48]) = false := by rw [ByteArray.toList_eq]; simpa using hone
         have HE := Lib.hid (countE_bad (s := s) (by unfold countOk zeroHead; rw [decide_eq_true hhd, decide_eq_true hone]; simp))
         clear hzl hhd hone
         go_enter Tryz.func176, Tryz.ntmps176
         go_wp2
         go_ret2
         exact ⟨HE.out.symm, Below.refl _ _⟩
     · have Hzh : Hid (zeroHead s.data.toList = false) := by
        unfold Hid zeroHead
        rw [hd.out, decide_eq_false (show ¬ s[0] = 48 from fun h => hz (by rw [h]; rfl))]; rfl
       clear hzl
       go_enter Tryz.func176, Tryz.ntmps176
       go_wp2
       go_loopw [4] (fun n w' => ∃ k : Nat, k ≤ s.size ∧ w' = w.iter s k ∧ n = .int .i64 (valI (s.data.toList.take k)) ∧ Hid ((s.data.toList.take k).all digC = true)) (fun _ w' => s.size - w'.iterPos w.heap.size)
       case atStart => exact ⟨0, Nat.zero_le _, rfl, rfl, rfl⟩
       case round =>
        obtain ⟨k, hk, rfl, rfl, H⟩ := hrel
        by_cases hlt : k < s.size
        · have hall := Lib.hid (take_all_succ s k hlt digC)
          have hbad := Lib.hid (all_false_of s k hlt digC)
          have hval : Hid (valI (s.data.toList.take (k + 1)) = 10 * valI (s.data.toList.take k) + ((s[k].toNat : Int) - 48)) := by
           unfold Hid; rw [List.take_succ_eq_append_getElem (by simpa using hlt), valI_snoc]; rfl
          have hsm := valI_small (l := s.data.toList.take k) (by simp; omega) H.out
          obtain ⟨v, hv⟩ : ∃ v, v = valI (s.data.toList.take k) := ⟨_, rfl⟩
          rw [← hv] at hval hsm ⊢
          clear hv
          by_cases ha : s[k].toNat < 128
          · have hnx : ∀ ty, (Instr.next (.pointer (some ⟨w.heap.size, 0, none⟩)) true ty).run Tryz.prog (w.iter s k) = _ := fun ty => run_next_ascii w s k ty hlt ha
            by_cases hdig : digC s[k] = true
            · have hd2 : 48 ≤ s[k].toNat ∧ s[k].toNat ≤ 57 := by simpa [digC] using hdig
              have hdc : decide ((s[k].toNat : Int) < 48) = false := decide_eq_false (by omega)
              have hdc2 : decide ((57 : Int) < (s[k].toNat : Int)) = false := decide_eq_false (by omega)
              have Hdig := Lib.hid hdig
              clear hdig
              go_wp2
              go_roundw
              case rel => exact ⟨k + 1, by omega, rfl, by rw [hval.out], by show _ = true; rw [hall.out, H.out, Hdig.out]; rfl⟩
              case measure => simp; omega
            · have hd2 : s[k].toNat < 48 ∨ 57 < s[k].toNat := by
               simp only [digC, Bool.and_eq_true, decide_eq_true_eq] at hdig; omega
              have HE := Lib.hid (countE_bad (s := s) (by unfold countOk; rw [hbad.out (by simpa using hdig)]; simp))
              clear hdig
              rcases hd2 with hd2 | hd2
              · have hdc : decide ((s[k].toNat : Int) < 48) = true := decide_eq_true (by omega)
                go_wp2
                go_ret2
                exact ⟨HE.out.symm, (Below.refl _ _).alloc (Nat.le_refl _) _⟩
              · have hdc : decide ((s[k].toNat : Int) < 48) = false := decide_eq_false (by omega)
                have hdc2 : decide ((57 : Int) < (s[k].toNat : Int)) = true := decide_eq_true (by omega)
                go_wp2
                go_ret2
                exact ⟨HE.out.symm, (Below.refl _ _).alloc (Nat.le_refl _) _⟩
          · have hnx : ∀ ty, (Instr.next (.pointer (some ⟨w.heap.size, 0, none⟩)) true ty).run Tryz.prog (w.iter s k) = _ := fun ty => run_next_any w s k ty hlt
            have hhi := (decode_high s k hlt (by omega)).1
            obtain ⟨r, hr⟩ : ∃ r, r = (Utf8.decode s k).1 := ⟨_, rfl⟩
            have HE := Lib.hid (countE_bad (s := s) (by unfold countOk; rw [hbad.out (by simp [digC]; omega)]; simp))
            rw [← hr] at hhi hnx
            clear hr
            have hdc : decide ((r : Int) < 48) = false := decide_eq_false (by omega)
            have hdc2 : decide ((57 : Int) < (r : Int)) = true := decide_eq_true (by omega)
            go_wp2
            go_ret2
            exact ⟨HE.out.symm, (Below.refl _ _).alloc (Nat.le_refl _) _⟩
        · obtain rfl : k = s.size := by omega
          have hnx : ∀ ty, (Instr.next (.pointer (some ⟨w.heap.size, 0, none⟩)) true ty).run Tryz.prog (w.iter s s.size) = _ := fun ty => run_next_end w s s.size ty hlt
          have hta : s.data.toList.take s.size = s.data.toList := List.take_of_length_le (by omega)
          rw [hta] at H ⊢
          have HE := Lib.hid (countE_good (s := s) (by unfold countOk; rw [hne, H.out, Hzh.out, decide_eq_true (show s.data.toList.length ≤ 9 by omega)]; rfl))
          clear hta
          go_wp2
          go_ret2
          exact ⟨HE.out.symm, (Below.refl _ _).alloc (Nat.le_refl _) _⟩
def tailL (l : List UInt8) : List UInt8 := Lib.trimPrefix l [45]
def negL (l : List UInt8) : Bool := Lib.hasPrefix l [45]
def intV (l : List UInt8) : Int := bif negL l then -countV (tailL l) else countV (tailL l)
def intOk (l : List UInt8) : Bool := bif negL l then countOk (tailL l) && decide (0 < countV (tailL l)) else countOk (tailL l)
def intE (s : ByteArray) : Ending := .returned (.tuple #[.int .i64 (intV s.data.toList), .bool (intOk s.data.toList)])
theorem integer_any (s : ByteArray) (w : World) : Calls Tryz.prog 150 #[.string s] w fun e w' => e = intE s ∧ Below w.heap.size w w' := by
 have hb := countV_bd (tailL s.data.toList)
 have HC : Hid (∀ W, Calls Tryz.prog 176 #[.string ⟨(tailL s.data.toList).toArray⟩] W fun e w' => e = .returned (.tuple #[.int .i64 (countV (tailL s.data.toList)), .bool (countOk (tailL s.data.toList))]) ∧ Below W.heap.size W w') := fun W => by
  have := count_any ⟨(tailL s.data.toList).toArray⟩ W
  unfold countE at this; exact this
 have HP : Hid (∀ W, Calls Tryz.prog 175 #[.string s, .string ⟨#[45]⟩] W fun e w' => e = .returned (.tuple #[.string ⟨(tailL s.data.toList).toArray⟩, .bool (negL s.data.toList)]) ∧ w' = W) := fun W => Tryz.strings_CutPrefix s ⟨#[45]⟩ W
 have HV : Hid (intE s = .returned (.tuple #[.int .i64 (bif negL s.data.toList then -countV (tailL s.data.toList) else countV (tailL s.data.toList)), .bool (bif negL s.data.toList then countOk (tailL s.data.toList) && decide (0 < countV (tailL s.data.toList)) else countOk (tailL s.data.toList))])) := rfl
 obtain ⟨v, hv⟩ : ∃ v, v = countV (tailL s.data.toList) := ⟨_, rfl⟩
 obtain ⟨ok, hok⟩ : ∃ ok, ok = countOk (tailL s.data.toList) := ⟨_, rfl⟩
 obtain ⟨t, ht⟩ : ∃ t : ByteArray, t = ⟨(tailL s.data.toList).toArray⟩ := ⟨_, rfl⟩
 obtain ⟨ng, hng⟩ : ∃ ng, ng = negL s.data.toList := ⟨_, rfl⟩
 rw [← hv] at HV hb; rw [← hok, ← hng] at HV; rw [← hv, ← hok, ← ht] at HC; rw [← ht, ← hng] at HP
 clear hv hok ht hng
 have hw : IntKind.i64.wrap (-v) = -v := IntWalk.i64_in _ (by omega)
 cases ng
 · go_enter Tryz.func150, Tryz.ntmps150
   go_wp2_with fail
   refine (HP.out _).mono ?_
   rintro e w1 ⟨rfl, rfl⟩
   go_wp2_with fail
   refine (HC.out _).mono ?_
   rintro e w2 ⟨rfl, hb2⟩
   have Hb2 := Lib.hid hb2
   clear hb2
   go_wp2
   go_ret2
   exact ⟨HV.out.symm, Hb2.out⟩
 · cases ok
   · go_enter Tryz.func150, Tryz.ntmps150
     go_wp2_with fail
     refine (HP.out _).mono ?_
     rintro e w1 ⟨rfl, rfl⟩
     go_wp2_with fail
     refine (HC.out _).mono ?_
     rintro e w2 ⟨rfl, hb2⟩
     have Hb2 := Lib.hid hb2
     clear hb2
     go_wp2
     go_ret2
     exact ⟨HV.out.symm, Hb2.out⟩
   · go_enter Tryz.func150, Tryz.ntmps150
     go_wp2_with fail
     refine (HP.out _).mono ?_
     rintro e w1 ⟨rfl, rfl⟩
     go_wp2_with fail
     refine (HC.out _).mono ?_
     rintro e w2 ⟨rfl, hb2⟩
     have Hb2 := Lib.hid hb2
     clear hb2
     go_wp2
     go_ret2
     exact ⟨HV.out.symm, Hb2.out⟩
variable {lb : Nat} {L : List ByteArray}
def WdI (lb : Nat) (L : List ByteArray) (g : Nat) (ws : List ByteArray) (W : World) : Prop := Row W lb 9 (strs L) ∧ ∃ rb off c all, Row W g 225 [.slice (some ⟨rb, off, none⟩) ws.length c] ∧ Row W rb 9 (strs all) ∧ (∀ (j : Nat) x, ws[j]? = some x → all[off + j]? = some x) ∧ ws.length ≤ c
theorem Row.ne {W : World} {g g' : Nat} {t t' : TypeId} {us us' : List Value} (h : Row W g t us) (h' : Row W g' t' us') (ht : t ≠ t') : g ≠ g' := by
 intro e; subst e
 unfold Row at h h'
 rw [h] at h'
 cases h'; exact ht rfl
theorem slice_one {P : Program} (t : TypeId) (ht : P.underlying t = some (.slice (P.elem t))) (hs : ∀ w, (sizeOf (P.elem t)).run P w = .ok 1 w) (b off n c : Nat) (hn : 1 ≤ n) (hc : n ≤ c) :
 ∃ A', (∀ W, (Instr.slice t (.slice (some ⟨b, off, none⟩) n c) (some (.int .i64 1)) none none).run P W = .ok (.slice A' (n - 1) (c - 1)) W) ∧ A' = some ⟨b, if c = 1 then off else off + 1, none⟩ := by
 refine ⟨some ⟨b, if c = 1 then off else off + 1, none⟩, fun W => ?_, rfl⟩
 rw [run_slice_l W t (some ⟨b, off, none⟩) n c ht .i64 1 (by omega) (by omega), hs]
 simp only [Result.andThen, sliced, Nat.mul_one]
 by_cases h1 : c = 1
 · subst h1; simp
 · have hne : ¬ c = Int.toNat 1 := by simpa using h1
   rw [if_neg hne, if_neg h1]
   simp [Addr.add]
theorem WdI.old {g : Nat} {ws : List ByteArray} {W W' : World} (h : WdI lb L g ws W) (hb : Below W.heap.size W W') : WdI lb L g ws W' := by
 obtain ⟨h0, rb, off, c, all, h1, h2, h3⟩ := h
 exact ⟨h0.old hb, rb, off, c, all, h1.old hb, h2.old hb, h3⟩
theorem WdI.grown {g : Nat} {ws : List ByteArray} {W W' : World} {row : Option Nat} (h : WdI lb L g ws W) (hg : W.grownBy W' row) (hr : ∀ k t us, Row W k t us → t = 225 ∨ t = 9 → some k ≠ row) : WdI lb L g ws W' := by
 obtain ⟨h0, rb, off, c, all, h1, h2, h3⟩ := h
 exact ⟨h0.grown hg (hr _ _ _ h0 (.inr rfl)), rb, off, c, all, h1.grown hg (hr _ _ _ h1 (.inl rfl)), h2.grown hg (hr _ _ _ h2 (.inr rfl)), h3⟩
def headW (ws : List ByteArray) : ByteArray := ws.headD ⟨#[]⟩
set_option maxRecDepth 100000 in
set_option maxHeartbeats 1000000 in
theorem next_any (g : Nat) (ws : List ByteArray) (w : World) (h : WdI lb L g ws w) (hm : ws.length ≤ 1000000) : Calls Tryz.prog 116 #[.pointer (some ⟨g, 0, none⟩)] w fun e w' => e = .returned (.string (headW ws)) ∧ WdI lb L g ws.tail w' ∧ w.grownBy w' (some g) := by
 obtain ⟨hl0, b, off, c, all, hr, hA, hall, hc⟩ := h
 have hlb := hr.ne hl0 (by decide)
 have HL0 := Lib.hid hl0
 clear hl0
 have q0 := hr.cell 0
 have f0 := hr.free 0
 simp only [List.getElem?_cons_zero] at q0
 have HR := Lib.hid hr
 cases ws with
 | nil =>
   have HE : Hid (WdI lb L g [] w) := ⟨HL0.out, b, off, c, all, hr, hA, hall, hc⟩
   clear hr hA hall hc hlb
   go_enter Tryz.func116, Tryz.ntmps116
   go_wp2
   go_ret
   exact ⟨rfl, HE.out, World.grownBy.refl _ _⟩
 | cons x ws =>
   have hx : w.cell? ⟨b, off, none⟩ = some (.string x) := by
    rw [hA.cell]; simp only [strs, List.getElem?_map]; rw [show all[off]? = some x from hall 0 x rfl]; rfl
   obtain ⟨A', hs1, hoff⟩ := slice_one (P := Tryz.prog) 51 (by kernel_rfl) (fun W => by kernel_rfl) b off (ws.length + 1) c (by omega) (by simpa using hc)
   have hn1 : ws.length + 1 - 1 = ws.length := rfl
   rw [hn1] at hs1
   have hgb := hr.ne hA (by decide)
   have HE : Hid (∀ W, w.grownBy W (some g) → Row W g 225 [.slice A' ws.length (c - 1)] → WdI lb L g ws W) := fun W hW h => by
    subst hoff
    have e1 : ws.length ≤ c - 1 := Nat.le_sub_of_add_le hc
    refine ⟨HL0.out.grown hW (fun e => hlb (Option.some.inj e).symm), b, _, c - 1, all, h, hA.grown hW (fun e => hgb (Option.some.inj e).symm), fun j u hu => ?_, e1⟩
    have hj : j < ws.length := (List.getElem?_eq_some_iff.1 hu).1
    rw [if_neg (show ¬ c = 1 by omega), Nat.add_assoc, Nat.add_comm 1 j]
    exact hall (j + 1) u (by simpa using hu)
   have hc2 : ws.length + 1 ≤ c := by simpa using hc
   have hm2 : ws.length + 1 ≤ 1000000 := by simpa using hm
   clear hr hA hall hoff hn1 hc hm hgb hlb
   simp only [List.length_cons] at q0
   go_enter Tryz.func116, Tryz.ntmps116
   go_wp2
   go_ret
   have hgr : w.grownBy (w.setCell ⟨g, 0, none⟩ (.slice A' ws.length (c - 1))) (some g) := ⟨rfl, rfl, rfl, by simp, fun k _ hk => heap_setCell_other _ _ _ _ (fun e => hk (by rw [e]))⟩
   exact ⟨rfl, HE.out _ hgr (HR.out.set 0 _), hgr⟩
end Go.Proofs.YtaknlhepgeiekaaGreatDoor
