/- Contracts at the values of the document's examples: the second half. -/
import Derived.Test.YtjgofnbfpoephaaGreatDoorM39
namespace Go.Proofs.YtjgofnbfpoephaaGreatDoor
set_option linter.all false
open Go.RowKit Go.Fl
set_option linter.unusedVariables false
set_option linter.unusedSimpArgs false

theorem b_cut (g1 g2 f t : Nat) (tk : Int) (X : List Nat) (M : List (Int × ByteArray)) (w : World) (h1 : Row w g1 37 (flts tapeX)) (h2 : Row w g2 158 (markC tapeM)) (hft : f < t) (ht : t ≤ 4) (htk : tickI 100 10 f = tk) (htk2 : tk ≤ 100000000) (hX : (tapeX.drop f).take (t - f) = X) (hM : cutM f t tapeM = M) :
    Calls Tryz.prog 52 #[.agg #[.int .i64 100, .int .i64 10, .slice (some ⟨g1, 0, none⟩) 4 4, .slice (some ⟨g2, 0, none⟩) 2 2], .agg #[.int .i64 f, .int .i64 t]] w fun e w' => ∃ g c g', e = .returned (.tuple #[.agg #[.int .i64 tk, .int .i64 10, .slice (some ⟨g, 0, none⟩) (t - f) c, .slice (some ⟨g', 0, none⟩) M.length M.length], .int .i64 0]) ∧ Rd w' (some ⟨g, 0, none⟩) (flts X) ∧ Row w' g' 158 (markC M) ∧ Below w.heap.size w w' :=
  (cut_ok 100 10 _ _ 4 4 2 2 tapeX tapeM f t w (Rd.row h1) (Rd.row h2) rfl rfl (by decide) (by decide) (by decide) (by intro h; cases h) v_tape (by omega) (by simpa [tapeX] using ht) (by rw [htk]; exact htk2)).mono fun e w' ⟨v, g', k1, k2, k3, _, k4⟩ => by
    rw [hX] at k2; rw [hM] at k1 k3; rw [htk] at k1
    obtain ⟨g, c, rfl, k5⟩ := one_slice k2 (by omega)
    exact ⟨g, c, g', k1, k5, k3, k4⟩
theorem b_join (g1 g2 g3 g4 c1 c3 : Nat) (w : World) (h1 : Rd w (some ⟨g1, 0, none⟩) (flts [1065353216, 1073741824])) (h2 : Rd w (some ⟨g2, 0, none⟩) (markC [(1, ⟨#[111, 117, 116, 101, 114]⟩)])) (h3 : Rd w (some ⟨g3, 0, none⟩) (flts [1077936128, 1082130432])) (h4 : Rd w (some ⟨g4, 0, none⟩) (markC [(1, ⟨#[105, 110, 110, 101, 114]⟩)])) :
    Calls Tryz.prog 60 #[.agg #[.int .i64 100, .int .i64 10, .slice (some ⟨g1, 0, none⟩) 2 c1, .slice (some ⟨g2, 0, none⟩) 1 1], .agg #[.int .i64 120, .int .i64 10, .slice (some ⟨g3, 0, none⟩) 2 c3, .slice (some ⟨g4, 0, none⟩) 1 1]] w fun e w' => ∃ g g' c', e = .returned (.tuple #[.agg #[.int .i64 100, .int .i64 10, .slice (some ⟨g, 0, none⟩) 4 4, .slice (some ⟨g', 0, none⟩) 2 c'], .int .i64 0]) ∧ Rd w' (some ⟨g, 0, none⟩) (flts tapeX) ∧ Rd w' (some ⟨g', 0, none⟩) (markC tapeM) ∧ Below w.heap.size w w' :=
  (joined_ok 100 10 _ _ _ _ 2 c1 1 1 2 c3 1 1 [1065353216, 1073741824] [1077936128, 1082130432] [(1, ⟨#[111, 117, 116, 101, 114]⟩)] [(1, ⟨#[105, 110, 110, 101, 114]⟩)] 120 w h1 h2 h3 h4 rfl rfl rfl rfl (by kernel_rfl) (by kernel_rfl) (by kernel_rfl) (by decide) (by decide)).mono fun e w' ⟨g, v, k1, k2, k3, _, k4⟩ => by
    obtain ⟨g', c', rfl, k5⟩ := one_slice k3 (by decide)
    have e1 : [((1 : Int), (⟨#[111, 117, 116, 101, 114]⟩ : ByteArray))].map (shiftM 0) ++ [((1 : Int), (⟨#[105, 110, 110, 101, 114]⟩ : ByteArray))].map (shiftM ((2 : Nat) : Int)) = tapeM := by kernel_rfl
    have k6 : Rd w' (some ⟨g', 0, none⟩) (markC tapeM) := by rw [← e1]; exact k5
    exact ⟨g, g', c', k1, Rd.row k2, k6, k4⟩
theorem b_made (A : Option Addr) (c : Nat) (l : List Int) (w : World) (hA : Rd w A (ints l)) (h5 : l.length = 5) (hb : ∀ x ∈ l, x.natAbs < 2 ^ 20) : Calls Tryz.prog 86 #[.slice A 5 c] w fun e w' => ∃ g c', e = .returned (.slice (some ⟨g, 0, none⟩) 5 c') ∧ Rd w' (some ⟨g, 0, none⟩) (flts (l.map fb)) ∧ Below w.heap.size w w' :=
  (made_any A 5 c l w hA h5.symm (by omega) hb).mono fun e w' ⟨v, k1, k2, k3⟩ => by
    rw [h5] at k2
    obtain ⟨g, c', rfl, k4⟩ := one_slice k2 (by decide)
    exact ⟨g, c', k1, k4, k3⟩
theorem fb0 : fb 0 = 0 := by kernel_rfl
theorem fb16 : fb 16 = 1065353216 := by kernel_rfl
theorem b_al (A B : Option Addr) (c d : Nat) (w : World) (hA : Rd w A (flts ([0, 0, 16, 0, 0].map fb))) (hB : Rd w B (flts ([0, 0, 0, 16, 0].map fb))) : Calls Tryz.prog 62 #[.slice A 5 c, .slice B 5 d, .int .i64 2, .int .i64 3] w fun e w' => e = .returned (.tuple #[.int .i64 1, .agg #[.int .i64 0, .int .i64 1], .int .i64 0]) ∧ Below w.heap.size w w' :=
  (aligned_any A B c d _ _ 5 5 2 3 w hA hB rfl rfl (by decide) (by decide) (by kernel_rfl) (by kernel_rfl) (by
    intro x hx
    simp only [List.map_cons, List.map_nil, fb0, fb16, List.mem_cons, List.not_mem_nil, or_false] at hx
    rcases hx with rfl | rfl | rfl | rfl | rfl <;> kernel_rfl) (by
    intro x hx
    simp only [List.map_cons, List.map_nil, fb0, fb16, List.mem_cons, List.not_mem_nil, or_false] at hx
    rcases hx with rfl | rfl | rfl | rfl | rfl <;> kernel_rfl) (by decide) (by decide)).mono fun e w' ⟨k1, k2⟩ => ⟨by rw [k1, v_al]; rfl, k2⟩
theorem b_key (s : ByteArray) (d n : Nat) (X : List Nat) (w : World) (h : Aw w) (hd : 1 ≤ d) (hd2 : d ≤ 16) (hw : wordI s.data.toList = 0) (hX : keyedL d s.data.toList = X) (hn : X.length = n) (h0 : 0 < n) : Calls Tryz.prog 66 #[.string s, .int .i64 d] w fun e w' => ∃ g c, e = .returned (.tuple #[.slice (some ⟨g, 0, none⟩) n c, .int .i64 0]) ∧ Rd w' (some ⟨g, 0, none⟩) (flts X) ∧ Below w.heap.size w w' :=
  (keyed_ok s d w h.tz hd hd2 hw).mono fun e w' ⟨v, k1, k2, k3⟩ => by
    rw [hX, hn] at k2
    obtain ⟨g, c, rfl, k4⟩ := one_slice k2 h0
    exact ⟨g, c, k1, k4, k3⟩
def xH : List Nat := [1065353216, 0, 1065353216, 1065353216, 1065353216, 0, 0, 0, 1065353216]
theorem b_heard (A : Option Addr) (c : Nat) (w : World) (h : Aw w) (hA : Rd w A (flts xH)) : Calls Tryz.prog 67 #[.slice A 9 c, .int .i64 1] w fun e w' => ∃ g c', e = .returned (.tuple #[.slice (some ⟨g, 0, none⟩) 1 c', .int .i64 0]) ∧ Rd w' (some ⟨g, 0, none⟩) (strs [⟨#[68, 65]⟩]) ∧ Below w.heap.size w w' :=
  (heard_ok A 9 c xH 1 w hA rfl (by decide) v_heardS (by decide) h.tz).mono fun e w' hk => by
    rw [show heardL xH 1 = [⟨#[68, 65]⟩] from v_heard] at hk
    obtain ⟨v, hk, k3⟩ := hk
    rw [if_neg (by decide)] at hk
    obtain ⟨k1, k2⟩ := hk
    obtain ⟨g, c', rfl, k4⟩ := one_slice k2 (by decide)
    exact ⟨g, c', k1, k4, k3⟩
theorem packE_byts : u8s (packI [1065353216, 3204448256]) = byts packE := by kernel_rfl
theorem b_pack (A : Option Addr) (c : Nat) (w : World) (hA : Rd w A (flts [1065353216, 3204448256])) : Calls Tryz.prog 73 #[.slice A 2 c] w fun e w' => ∃ g c', e = .returned (.tuple #[.slice (some ⟨g, 0, none⟩) 18 c', .int .i64 0]) ∧ 18 ≤ c' ∧ Rd w' (some ⟨g, 0, none⟩) (byts packE) ∧ Below w.heap.size w w' :=
  (pack_ok A 2 c _ w hA rfl (by decide) (by
    intro x hx
    simp only [List.mem_cons, List.not_mem_nil, or_false] at hx
    rcases hx with rfl | rfl <;> kernel_rfl) v_packS).mono fun e w' ⟨v, k1, k2, k3⟩ => by
    rw [packE_byts, show (packI [1065353216, 3204448256]).length = 18 by kernel_rfl] at k2
    have hc := k2
    obtain ⟨g, c', rfl, k4⟩ := one_slice k2 (by decide)
    exact ⟨g, c', k1, ownsRow.cap hc, k4, k3⟩
theorem b_unpack (A : Option Addr) (c : Nat) (w : World) (hA : Rd w A (byts packE)) (hc : 18 ≤ c) : Calls Tryz.prog 74 #[.slice A 18 c] w fun e w' => ∃ g, e = .returned (.tuple #[.slice (some ⟨g, 0, none⟩) 2 2, .int .i64 0]) ∧ Rd w' (some ⟨g, 0, none⟩) (flts [1065353216, 3204448256]) ∧ Below w.heap.size w w' :=
  (unpack_any A 18 c packE w hA rfl hc (by decide)).mono fun e w' ⟨v, k1, k2, _, k3⟩ => by
    obtain ⟨g, rfl, k4, _⟩ := k2 v_unpE
    rw [v_unpN, v_upX] at k4
    rw [v_unpE, v_unpN] at k1
    exact ⟨g, k1, Rd.row k4, k3⟩
theorem b_print (g1 g2 : Nat) (w : World) (h : Aw w) (h1 : Row w g1 37 (flts tapeX)) (h2 : Row w g2 158 (markC tapeM)) : Calls Tryz.prog 78 #[.agg #[.int .i64 100, .int .i64 10, .slice (some ⟨g1, 0, none⟩) 4 4, .slice (some ⟨g2, 0, none⟩) 2 2]] w fun e w' => e = .returned (.tuple #[.string printS, .int .i64 0]) ∧ Below w.heap.size w w' :=
  (print_ok 100 10 _ _ 4 4 2 2 tapeX tapeM w h.it (Rd.row h1) (Rd.row h2) rfl rfl v_tape).mono fun e w' ⟨k1, k2⟩ => ⟨by rw [k1, v_print, printRes, if_pos (by decide)]; rfl, k2⟩
theorem b_parse (w : World) (h : Aw w) : Calls Tryz.prog 79 #[.string printS] w fun e w' => ∃ A c B d, e = .returned (.tuple #[.agg #[.int .i64 100, .int .i64 10, .slice A 4 c, .slice B 2 d], .int .i64 0, .int .i64 0]) ∧ Rd w' A (flts tapeX) ∧ Rd w' B (markC tapeM) ∧ Below w.heap.size w w' :=
  parse_ok printS w 100 10 tapeX tapeM 6 h.mx v_size v_small v_go v_tape
theorem fieldsM : ((Tryz.prog.fieldsOf 158).toList.map fun f => (f.name, f.type, f.offset)) = [("Index", 3, 0), ("Name", 9, 1)] := by kernel_rfl
theorem eqlMark (a c : Int) (b d : ByteArray) (w : World) : (binOp .eql 158 (.agg #[.int .i64 a, .string b]) (.agg #[.int .i64 c, .string d])).run Tryz.prog w = .ok (.bool (a == c && b.toList == d.toList)) w := by
  have i3 := Tryz.underlying3
  have i9 := Tryz.underlying9
  have e1 : ∀ (a : Int) (b : ByteArray), (part 3 #[.int .i64 a, .string b] 0).run Tryz.prog w = .ok (.int .i64 a) w := fun a b => part_int _ _ _ rfl w
  have e2 : ∀ (a : Int) (b : ByteArray), (part 9 #[.int .i64 a, .string b] 1).run Tryz.prog w = .ok (.string b) w := fun a b => by simp [part, run_underlying i9]
  have e4 := fun (a b : Int) => run_equalIn_int (P := Tryz.prog) w 9998 3 .i64 .i64 a b i3
  have e5 := fun (a b : ByteArray) => run_equalIn_string (P := Tryz.prog) w 9998 9 a b i9
  have n1 : ("Index" : String) ≠ "_" := by decide
  have n2 : ("Name" : String) ≠ "_" := by decide
  rw [run_eql_struct, run_eqStruct w 9999 _ _ _ _ (by kernel_rfl) (by kernel_rfl) fieldsM]
  simp only [eqTriples, if_pos n1, if_pos n2, Sem.run_bind, e1, e2, e4, e5, Result.andThen_ok, Sem.run_ite, Sem.run_pure]
  cases a == c <;> cases b.toList == d.toList <;> simp [e1, e2, e4, e5]
theorem fieldsR : ((Tryz.prog.fieldsOf 24).toList.map fun f => (f.name, f.type, f.offset)) = [("Num", 3, 0), ("Den", 3, 1)] := by kernel_rfl
theorem eqlRatio (a b c d : Int) (w : World) : (binOp .eql 24 (.agg #[.int .i64 a, .int .i64 b]) (.agg #[.int .i64 c, .int .i64 d])).run Tryz.prog w = .ok (.bool (a == c && b == d)) w := by
  have i3 := Tryz.underlying3
  have e1 : ∀ (a b : Int), (part 3 #[.int .i64 a, .int .i64 b] 0).run Tryz.prog w = .ok (.int .i64 a) w := fun a b => part_int _ _ _ rfl w
  have e2 : ∀ (a b : Int), (part 3 #[.int .i64 a, .int .i64 b] 1).run Tryz.prog w = .ok (.int .i64 b) w := fun a b => part_int _ _ _ rfl w
  have e4 := fun (a b : Int) => run_equalIn_int (P := Tryz.prog) w 9998 3 .i64 .i64 a b i3
  have n1 : ("Num" : String) ≠ "_" := by decide
  have n2 : ("Den" : String) ≠ "_" := by decide
  rw [run_eql_struct, run_eqStruct w 9999 _ _ _ _ (by kernel_rfl) (by kernel_rfl) fieldsR]
  simp only [eqTriples, if_pos n1, if_pos n2, Sem.run_bind, e1, e2, e4, Result.andThen_ok, Sem.run_ite, Sem.run_pure]
  cases a == c <;> cases b == d <;> simp [e1, e2, e4]
end Go.Proofs.YtjgofnbfpoephaaGreatDoor
