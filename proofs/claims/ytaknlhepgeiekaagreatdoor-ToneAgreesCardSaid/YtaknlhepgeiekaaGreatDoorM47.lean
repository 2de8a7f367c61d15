import Derived.Test.YtaknlhepgeiekaaGreatDoorM40
import Derived.Test.YtaknlhepgeiekaaGreatDoorM39
namespace Go.Proofs.YtaknlhepgeiekaaGreatDoor
set_option linter.all false
open Go.RowKit Go.Fl
theorem mulB {u v : Int} {A B : Nat} (h : u.natAbs ≤ A) (k : v.natAbs ≤ B) : (u * v).natAbs ≤ A * B := by
 rw [Int.natAbs_mul]; exact Nat.mul_le_mul h k
theorem lowN_abs (n d : Int) (hd : 0 < d) : (lowN n d).natAbs ≤ n.natAbs := by
 have h := lowN_mul (n := n) hd; have g := gcdI_pos (n := n) hd
 have e : n.natAbs = (lowN n d).natAbs * (gcdI n d).natAbs := by rw [← Int.natAbs_mul, h]
 rw [e]
 exact Nat.le_mul_of_pos_right _ (by omega)
theorem lowD_le (n d : Int) (hd : 0 < d) : lowD n d ≤ d := by
 have h := lowD_mul (n := n) hd; have g := gcdI_pos (n := n) hd; have p := lowD_pos (n := n) hd
 have e : d.natAbs = (lowD n d).natAbs * (gcdI n d).natAbs := by rw [← Int.natAbs_mul, h]
 have := Nat.le_mul_of_pos_right (lowD n d).natAbs (show 0 < (gcdI n d).natAbs by omega)
 omega
theorem low_gcd (n d : Int) (hd : 0 < d) : gcdI (lowN n d) (lowD n d) = 1 := by
 have g := gcdI_pos (n := n) hd
 have h := gcdI_scale (lowN n d) (lowD n d) (gcdI n d) g
 rw [lowN_mul hd, lowD_mul hd] at h
 have h2 : gcdI (lowN n d) (lowD n d) * gcdI n d = 1 * gcdI n d := by rw [← h, Int.one_mul]
 exact Int.eq_of_mul_eq_mul_right (by omega) h2
theorem low_right {n d : Int} (hd : 0 < d) (h1 : n.natAbs ≤ 999999999) (h2 : d ≤ 999999999) : checkRatioI (lowN n d) (lowD n d) = 0 := by
 have a1 := lowN_abs n d hd; have a2 := lowD_le n d hd; have a3 := lowD_pos (n := n) hd
 have b1 : rangeB (lowN n d) (-999999999) 999999999 = false := by unfold rangeB; simp only [Bool.or_eq_false_iff, decide_eq_false_iff_not]; omega
 have b2 : rangeB (lowD n d) 1 999999999 = false := by unfold rangeB; simp only [Bool.or_eq_false_iff, decide_eq_false_iff_not]; omega
 unfold checkRatioI
 rw [b1, b2, low_gcd n d hd]
 rfl
theorem sig_of {a b c d x y : Int} (ha : a.natAbs ≤ 10000) (hb : b.natAbs ≤ 10000) (hc : c.natAbs ≤ 10000) (hd : d.natAbs ≤ 10000) (hx : x.natAbs ≤ 10000) (hy : y.natAbs ≤ 10000) (hn : ¬ (a = 0 ∧ b = 0)) : sigE a b c d x y = 0 := by
 have r : ∀ {z : Int}, z.natAbs ≤ 10000 → rangeB z (-10000) 10000 = false := fun {z} h => by unfold rangeB; simp only [Bool.or_eq_false_iff, decide_eq_false_iff_not]; omega
 have z : (a == 0 && b == 0) = false := by
  cases h : (a == 0 && b == 0)
  · rfl
  · rw [Bool.and_eq_true, beq_iff_eq, beq_iff_eq] at h; exact absurd h hn
 unfold sigE partE
 simp only [List.map_cons, List.map_nil, r ha, r hb, r hc, r hd, r hx, r hy, z]
 rfl
structure Nr (a b c d x y : Int) : Prop where
 e : sigE a b c d x y = 0
 a : a.natAbs ≤ 300
 b : b.natAbs ≤ 300
 c : c.natAbs ≤ 300
 d : d.natAbs ≤ 300
 x : x.natAbs ≤ 300
 y : y.natAbs ≤ 300
theorem inB_abs {m p : Int} (hm : 0 ≤ m) (h : inB m p = true) : p.natAbs ≤ m.natAbs := by
 unfold inB at h
 simp only [Bool.and_eq_true, Bool.not_eq_true', decide_eq_false_iff_not] at h
 omega
theorem needleE {a b c d x y n q p r : Int} (hE : sigE a b c d x y = 0) (hn : c * a + d * b - (x * a + y * b) = n) (hq : a * a + b * b = q) (hp : lowN n q = p) (hr : lowD n q = r) (W : World) : Calls Tryz.prog 21 #[.agg #[.int .i64 a, .int .i64 b, .int .i64 c, .int .i64 d, .int .i64 x, .int .i64 y]] W fun e w' => e = .returned (.tuple #[.agg #[.int .i64 p, .int .i64 r], .int .i64 0]) ∧ Below W.heap.size W w' := by
 subst hp hr hn hq
 exact needleT_ok a b c d x y W hE
theorem part_of {k l : Int} (hk : k.natAbs ≤ 1000) (hl : l.natAbs ≤ 1000) : firstI ([(k, l)].map (partE 1000)) = 0 := by
 have r : ∀ {z : Int}, z.natAbs ≤ 1000 → rangeB z (-1000) 1000 = false := fun {z} h => by unfold rangeB; simp only [Bool.or_eq_false_iff, decide_eq_false_iff_not]; omega
 unfold partE
 simp only [List.map_cons, List.map_nil, r hk, r hl]
 rfl
theorem scaledE {a b c d x y k l m n s1 s2 s3 s4 s5 s6 : Int} (hE : sigE a b c d x y = 0) (hk : k.natAbs ≤ 1000) (hl : l.natAbs ≤ 1000) (hz : ¬ (k = 0 ∧ l = 0)) (hm : m.natAbs ≤ 1000) (hn : n.natAbs ≤ 1000) (e1 : a * k - b * l = s1) (e2 : a * l + b * k = s2) (e3 : c * m - d * n = s3) (e4 : c * n + d * m = s4) (e5 : x * m - y * n = s5) (e6 : x * n + y * m = s6) (hS : sigE s1 s2 s3 s4 s5 s6 = 0) (W : World) :
 Calls Tryz.prog 25 #[.agg #[.int .i64 a, .int .i64 b, .int .i64 c, .int .i64 d, .int .i64 x, .int .i64 y], .agg #[.int .i64 k, .int .i64 l], .agg #[.int .i64 m, .int .i64 n]] W fun e w' => e = .returned (.tuple #[.agg #[.int .i64 s1, .int .i64 s2, .int .i64 s3, .int .i64 s4, .int .i64 s5, .int .i64 s6], .int .i64 0]) ∧ Below W.heap.size W w' := by
 subst e1 e2 e3 e4 e5 e6
 have z : (k == 0 && l == 0) = false := by
  cases h : (k == 0 && l == 0)
  · rfl
  · rw [Bool.and_eq_true, beq_iff_eq, beq_iff_eq] at h; exact absurd h hz
 have h := scaled_ok a b c d x y k l m n W (by rw [hE, part_of hk hl, part_of hm hn, z]; rfl)
 rw [hS] at h
 exact h
theorem turnedE {a b c d x y s1 s2 s3 s4 s5 s6 : Int} (hE : sigE a b c d x y = 0) (e1 : -b = s1) (e2 : a = s2) (e3 : -d = s3) (e4 : c = s4) (e5 : -y = s5) (e6 : x = s6) (W : World) (hT : Tn W) :
 Calls Tryz.prog 24 #[.agg #[.int .i64 a, .int .i64 b, .int .i64 c, .int .i64 d, .int .i64 x, .int .i64 y], .int .i64 1] W fun e w' => e = .returned (.tuple #[.agg #[.int .i64 s1, .int .i64 s2, .int .i64 s3, .int .i64 s4, .int .i64 s5, .int .i64 s6], .int .i64 0]) ∧ Below W.heap.size W w' := by
 subst e1 e2 e3 e4 e5 e6
 have h := turned_ok a b c d x y 1 W hT (by rw [hE]; rfl)
 have i1 : iR 1 = 0 := rfl
 have i2 : iI 1 = 1 := rfl
 rw [i1, i2] at h
 simp only [Int.mul_zero, Int.mul_one, Int.zero_sub, Int.add_zero] at h
 exact h
theorem rightE {n d p q : Int} (hd : 0 < d) (h1 : n.natAbs ≤ 999999999) (h2 : d ≤ 999999999) (hp : lowN n d = p) (hq : lowD n d = q) (W : World) : Calls Tryz.prog 22 #[.agg #[.int .i64 p, .int .i64 q]] W fun e w' => e = .returned (.bool true) ∧ Below W.heap.size W w' := by
 subst hp hq
 have h := right_any (lowN n d) (lowD n d) W
 rw [low_right hd h1 h2] at h
 exact h
def rotR (a b : Int) : Nat → Int
 | 0 => a
 | 1 => -b
 | 2 => -a
 | 3 => b
 | _ => a
def rotI (a b : Int) : Nat → Int
 | 0 => b
 | 1 => a
 | 2 => -b
 | 3 => -a
 | _ => b
theorem rot_abs {a b : Int} {m : Nat} (ha : a.natAbs ≤ m) (hb : b.natAbs ≤ m) (k : Nat) : (rotR a b k).natAbs ≤ m ∧ (rotI a b k).natAbs ≤ m := by
 match k with
 | 0 => exact ⟨ha, hb⟩
 | 1 => exact ⟨by simpa [rotR] using hb, ha⟩
 | 2 => exact ⟨by simpa [rotR] using ha, by simpa [rotI] using hb⟩
 | 3 => exact ⟨hb, by simpa [rotI] using ha⟩
 | k + 4 => exact ⟨ha, hb⟩
theorem rot_zero {a b : Int} (h : ¬ (a = 0 ∧ b = 0)) (k : Nat) : ¬ (rotR a b k = 0 ∧ rotI a b k = 0) := by
 match k with
 | 0 => exact h
 | 1 => simp only [rotR, rotI]; omega
 | 2 => simp only [rotR, rotI]; omega
 | 3 => simp only [rotR, rotI]; omega
 | k + 4 => exact h
theorem abs_le {z : Int} {m k : Nat} (h : z.natAbs ≤ m) (hk : m ≤ k) : z.natAbs ≤ k := Nat.le_trans h hk
theorem Nr.nz {a b c d x y : Int} (g : Nr a b c d x y) : ¬ (a = 0 ∧ b = 0) := (sig_good g.e).pn
theorem Nr.q {a b c d x y : Int} (g : Nr a b c d x y) : 0 < a * a + b * b ∧ a * a + b * b ≤ 180000 := by
 have h := sq_pos g.nz; have h1 := mulB g.a g.a; have h2 := mulB g.b g.b
 omega
theorem Nr.l {a b c d x y : Int} (g : Nr a b c d x y) : (c * a + d * b).natAbs ≤ 180000 := by
 have h1 := mulB g.c g.a; have h2 := mulB g.d g.b
 omega
theorem Nr.h {a b c d x y : Int} (g : Nr a b c d x y) : (x * a + y * b).natAbs ≤ 180000 := by
 have h1 := mulB g.x g.a; have h2 := mulB g.y g.b
 omega
theorem Nr.ex {a b c d x y : Int} (g : Nr a b c d x y) : sigE a b x y c d = 0 := by
 obtain ⟨-, ha, hb, hc, hd, hx, hy⟩ := id g
 exact sig_of (by omega) (by omega) (by omega) (by omega) (by omega) (by omega) g.nz
theorem Nr.et {a b c d x y : Int} (g : Nr a b c d x y) (k : Nat) : sigE (rotR a b k) (rotI a b k) (rotR c d k) (rotI c d k) (rotR x y k) (rotI x y k) = 0 :=
 sig_of (abs_le (rot_abs g.a g.b k).1 (by decide)) (abs_le (rot_abs g.a g.b k).2 (by decide)) (abs_le (rot_abs g.c g.d k).1 (by decide)) (abs_le (rot_abs g.c g.d k).2 (by decide)) (abs_le (rot_abs g.x g.y k).1 (by decide)) (abs_le (rot_abs g.x g.y k).2 (by decide)) (rot_zero g.nz k)
theorem t_re (a b t : Int) : a * t - b * 0 = a * t := by rw [Int.mul_zero, Int.sub_zero]
theorem t_im (a b t : Int) : a * 0 + b * t = b * t := by rw [Int.mul_zero, Int.zero_add]
end Go.Proofs.YtaknlhepgeiekaaGreatDoor
