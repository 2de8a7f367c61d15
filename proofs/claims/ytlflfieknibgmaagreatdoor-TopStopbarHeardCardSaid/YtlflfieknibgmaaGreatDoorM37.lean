import Derived.Test.YtlflfieknibgmaaGreatDoorM35
import Derived.Test.YtlflfieknibgmaaGreatDoorM36
import Derived.Deep.WholeRow
import Derived.Test.YtlflfieknibgmaaGreatDoorM17
import Derived.Test.YtlflfieknibgmaaGreatDoorM38
import Derived.Test.YtlflfieknibgmaaGreatDoorM40
namespace Go.Proofs.YtlflfieknibgmaaGreatDoor
set_option linter.all false
open Go.RowKit Go.Fl
def smMh : Nat → Nat × Nat := fun i => match i with | 0 => (4623507967449235456, 0) | 1 => (4623507967449235456, 0) | 2 => (4619567317775286272, 0) | _ => (4619567317775286272, 0)
def smNh : Nat → Nat × Nat := fun i => match i with | 0 => (4624070917402656768, 0) | 1 => (4622945017495814144, 0) | 2 => (4620693217682128896, 0) | _ => (4618441417868443648, 0)
def smRh : Nat → Nat × Nat := fun i => match i with | 0 => (1096810496, 0) | 1 => (1094713344, 0) | 2 => (1090519040, 0) | _ => (1086324736, 0)
theorem madL0h : Mad (floatOfInt .f64 3) (floatOfInt .f64 0) 1 ((floatOfInt .f64 10), (floatOfInt .f64 0)) (4623507967449235456, 0) := ⟨4613937818241073152, 0, (fun w => by kernel_rfl), (fun w => by kernel_rfl)⟩
theorem madH0h : Mad (floatOfInt .f64 1) (floatOfInt .f64 0) 1 (4623507967449235456, 0) (4624070917402656768, 0) := ⟨4607182418800017408, 0, (fun w => by kernel_rfl), (fun w => by kernel_rfl)⟩
theorem smC0h (w : World) : (convert 118 44 (.complex .f64 4624070917402656768 0)).run Tryz.prog w = .ok (.complex .f32 1096810496 0) w := by kernel_rfl
theorem madL1h : Mad (floatOfInt .f64 3) (floatOfInt .f64 0) 1 ((floatOfInt .f64 10), (floatOfInt .f64 0)) (4623507967449235456, 0) := ⟨4613937818241073152, 0, (fun w => by kernel_rfl), (fun w => by kernel_rfl)⟩
theorem madH1h : Mad (floatOfInt .f64 1) (floatOfInt .f64 0) (-1) (4623507967449235456, 0) (4622945017495814144, 0) := ⟨13830554455654793216, 0, (fun w => by kernel_rfl), (fun w => by kernel_rfl)⟩
theorem smC1h (w : World) : (convert 118 44 (.complex .f64 4622945017495814144 0)).run Tryz.prog w = .ok (.complex .f32 1094713344 0) w := by kernel_rfl
theorem madL2h : Mad (floatOfInt .f64 3) (floatOfInt .f64 0) (-1) ((floatOfInt .f64 10), (floatOfInt .f64 0)) (4619567317775286272, 0) := ⟨13837309855095848960, 0, (fun w => by kernel_rfl), (fun w => by kernel_rfl)⟩
theorem madH2h : Mad (floatOfInt .f64 1) (floatOfInt .f64 0) 1 (4619567317775286272, 0) (4620693217682128896, 0) := ⟨4607182418800017408, 0, (fun w => by kernel_rfl), (fun w => by kernel_rfl)⟩
theorem smC2h (w : World) : (convert 118 44 (.complex .f64 4620693217682128896 0)).run Tryz.prog w = .ok (.complex .f32 1090519040 0) w := by kernel_rfl
theorem madL3h : Mad (floatOfInt .f64 3) (floatOfInt .f64 0) (-1) ((floatOfInt .f64 10), (floatOfInt .f64 0)) (4619567317775286272, 0) := ⟨13837309855095848960, 0, (fun w => by kernel_rfl), (fun w => by kernel_rfl)⟩
theorem madH3h : Mad (floatOfInt .f64 1) (floatOfInt .f64 0) (-1) (4619567317775286272, 0) (4618441417868443648, 0) := ⟨13830554455654793216, 0, (fun w => by kernel_rfl), (fun w => by kernel_rfl)⟩
theorem smC3h (w : World) : (convert 118 44 (.complex .f64 4618441417868443648 0)).run Tryz.prog w = .ok (.complex .f32 1086324736 0) w := by kernel_rfl
theorem smOkh : SampOk 10 0 3 0 1 0 smMh smNh smRh := ⟨fun i hi => by
  have h : i = 0 ∨ i = 1 ∨ i = 2 ∨ i = 3 := by omega
  rcases h with rfl | rfl | rfl | rfl
  · exact ⟨_, _, rfl, rfl, madL0h, madH0h, smC0h⟩
  · exact ⟨_, _, rfl, rfl, madL1h, madH1h, smC1h⟩
  · exact ⟨_, _, rfl, rfl, madL2h, madH2h, smC2h⟩
  · exact ⟨_, _, rfl, rfl, madL3h, madH3h, smC3h⟩⟩
set_option maxRecDepth 100000 in
set_option maxHeartbeats 1000000 in
theorem xSampledh (w : World) : Calls Tryz.prog 12 #[.agg #[.int .i64 10, .int .i64 0, .int .i64 3, .int .i64 0, .int .i64 1, .int .i64 0]] w fun e w' => e = .returned (.tuple #[.agg #[.complex .f32 1096810496 0, .complex .f32 1094713344 0, .complex .f32 1090519040 0, .complex .f32 1086324736 0], .int .i64 0]) ∧ Below w.heap.size w w' := by
  refine (sampled_by 10 0 3 0 1 0 smMh smNh smRh w (by decide) smOkh).mono ?_
  rintro e w' ⟨h1, h2⟩
  exact ⟨h1.trans (by kernel_rfl), h2⟩
theorem xNeedleh (w : World) : Calls Tryz.prog 11 #[.agg #[.int .i64 10, .int .i64 0, .int .i64 3, .int .i64 0, .int .i64 1, .int .i64 0]] w fun e w' => e = .returned (.tuple #[.agg #[.int .i64 1, .int .i64 5], .int .i64 0]) ∧ Below w.heap.size w w' := by
  refine (needleT_ok 10 0 3 0 1 0 w (by decide)).mono ?_
  rintro e w' ⟨h1, h2⟩
  exact ⟨h1.trans (by kernel_rfl), h2⟩
def sentB : List UInt8 := [201, 0, 0, 0, 8, 0, 224, 0, 0, 0, 192, 0, 0, 0, 128, 0, 0, 0, 96, 0, 0, 205, 57, 132, 87, 194, 149, 224, 115]
theorem sent_eq : [.int .u8 201, .int .u8 0, .int .u8 0, .int .u8 0, .int .u8 8, .int .u8 0, .int .u8 224, .int .u8 0, .int .u8 0, .int .u8 0, .int .u8 192, .int .u8 0, .int .u8 0, .int .u8 0, .int .u8 128, .int .u8 0, .int .u8 0, .int .u8 0, .int .u8 96, .int .u8 0, .int .u8 0, .int .u8 205, .int .u8 57, .int .u8 132, .int .u8 87, .int .u8 194, .int .u8 149, .int .u8 224, .int .u8 115] = byts sentB := by kernel_rfl
theorem sent_enc : u8s (encB [1, 0, 0, 0, 0, 0, 0, 0] 0 0 8 [1096810496, 0, 1094713344, 0, 1090519040, 0, 1086324736, 0]) = [.int .u8 201, .int .u8 0, .int .u8 0, .int .u8 0, .int .u8 8, .int .u8 0, .int .u8 224, .int .u8 0, .int .u8 0, .int .u8 0, .int .u8 192, .int .u8 0, .int .u8 0, .int .u8 0, .int .u8 128, .int .u8 0, .int .u8 0, .int .u8 0, .int .u8 96, .int .u8 0, .int .u8 0, .int .u8 205, .int .u8 57, .int .u8 132, .int .u8 87, .int .u8 194, .int .u8 149, .int .u8 224, .int .u8 115] := by kernel_rfl
theorem sent_len : sentB.length = 29 := by kernel_rfl
theorem sent_key : ∀ j (h : j < 8), isByte ([(1 : Int), 0, 0, 0, 0, 0, 0, 0][j]) := by
  intro j h
  have : j = 0 ∨ j = 1 ∨ j = 2 ∨ j = 3 ∨ j = 4 ∨ j = 5 ∨ j = 6 ∨ j = 7 := by omega
  rcases this with rfl | rfl | rfl | rfl | rfl | rfl | rfl | rfl <;> (simp [isByte])
theorem sent_samp : ∀ x ∈ [1096810496, 0, 1094713344, 0, 1090519040, 0, 1086324736, 0], sampI x = 0 := by decide +kernel
theorem xEncode (w : World) : Calls Tryz.prog 18 #[.agg #[.int .u8 1, .int .u8 0, .int .u8 0, .int .u8 0, .int .u8 0, .int .u8 0, .int .u8 0, .int .u8 0], .agg #[.int .i64 0, .int .i64 0, .int .i64 8, .float .f32 1096810496, .float .f32 0, .float .f32 1094713344, .float .f32 0, .float .f32 1090519040, .float .f32 0, .float .f32 1086324736, .float .f32 0]] w fun e w' => e = .returned (.tuple #[.agg #[.int .u8 201, .int .u8 0, .int .u8 0, .int .u8 0, .int .u8 8, .int .u8 0, .int .u8 224, .int .u8 0, .int .u8 0, .int .u8 0, .int .u8 192, .int .u8 0, .int .u8 0, .int .u8 0, .int .u8 128, .int .u8 0, .int .u8 0, .int .u8 0, .int .u8 96, .int .u8 0, .int .u8 0, .int .u8 205, .int .u8 57, .int .u8 132, .int .u8 87, .int .u8 194, .int .u8 149, .int .u8 224, .int .u8 115], .int .i64 0]) ∧ Below w.heap.size w w' := by
  have h := encode_ok 1 0 0 0 0 0 0 0 0 0 8 1096810496 0 1094713344 0 1090519040 0 1086324736 0 w (by kernel_rfl) sent_samp (by decide) (by decide) (by decide) sent_key
  rw [sent_enc] at h
  exact h
theorem xDecode (w : World) : Calls Tryz.prog 31 #[.agg #[.int .u8 1, .int .u8 0, .int .u8 0, .int .u8 0, .int .u8 0, .int .u8 0, .int .u8 0, .int .u8 0], .agg #[.int .u8 201, .int .u8 0, .int .u8 0, .int .u8 0, .int .u8 8, .int .u8 0, .int .u8 224, .int .u8 0, .int .u8 0, .int .u8 0, .int .u8 192, .int .u8 0, .int .u8 0, .int .u8 0, .int .u8 128, .int .u8 0, .int .u8 0, .int .u8 0, .int .u8 96, .int .u8 0, .int .u8 0, .int .u8 205, .int .u8 57, .int .u8 132, .int .u8 87, .int .u8 194, .int .u8 149, .int .u8 224, .int .u8 115]] w fun e w' => e = .returned (.tuple #[.agg #[.int .i64 0, .int .i64 0, .int .i64 8, .float .f32 1096810496, .float .f32 0, .float .f32 1094713344, .float .f32 0, .float .f32 1090519040, .float .f32 0, .float .f32 1086324736, .float .f32 0], .int .i64 0]) ∧ Below w.heap.size w w' := by
  have h := decode_any 1 0 0 0 0 0 0 0 sentB w sent_len sent_key
  rw [← sent_eq, show decC [1, 0, 0, 0, 0, 0, 0, 0] sentB = [.int .i64 0, .int .i64 0, .int .i64 8, .float .f32 1096810496, .float .f32 0, .float .f32 1094713344, .float .f32 0, .float .f32 1090519040, .float .f32 0, .float .f32 1086324736, .float .f32 0] from by kernel_rfl, show decE [1, 0, 0, 0, 0, 0, 0, 0] sentB = 0 from by kernel_rfl] at h
  exact h
theorem xSamples (w : World) : Calls Tryz.prog 17 #[.agg #[.int .i64 10, .int .i64 0, .int .i64 3, .int .i64 0, .int .i64 1, .int .i64 0]] w fun e w' => e = .returned (.tuple #[.agg #[.float .f32 1096810496, .float .f32 0, .float .f32 1094713344, .float .f32 0, .float .f32 1090519040, .float .f32 0, .float .f32 1086324736, .float .f32 0], .bool true]) ∧ Below w.heap.size w w' := by
  have h := samples_by 10 0 3 0 1 0 1096810496 0 1094713344 0 1090519040 0 1086324736 0 w xSampledh
  rw [show (firstI ([1096810496, 0, 1094713344, 0, 1090519040, 0, 1086324736, 0].map sampI) == 0) = true from by kernel_rfl] at h
  exact h
theorem xPI : PI ⟨(1096810496, 0), (1094713344, 0), (1090519040, 0), (1086324736, 0)⟩ (10 + 3 + 1 + 0) (0 + 0 + 0 + 0) (10 + 3 - 1 - 0) (0 + 0 - 0 - 0) (10 - 3 + 1 - 0) (0 - 0 + 0 - 0) (10 - 3 - 1 + 0) (0 - 0 - 0 + 0) := by
  have z : I32 0 0 := i32_of (n := 0) (by decide)
  exact ⟨⟨i32_of (n := 14) (by decide), z⟩, ⟨i32_of (n := 12) (by decide), z⟩, ⟨i32_of (n := 8) (by decide), z⟩, ⟨i32_of (n := 6) (by decide), z⟩⟩
theorem xSignal (A : Option Addr) (cp : Nat) (w : World) (hA : Rd w A (flts [1096810496, 0, 1094713344, 0, 1090519040, 0, 1086324736, 0])) : Calls Tryz.prog 29 #[.slice A 8 cp] w fun e w' => e = .returned (.tuple #[.agg #[.int .i64 10, .int .i64 0, .int .i64 3, .int .i64 0, .int .i64 1, .int .i64 0], .bool true]) ∧ Below w.heap.size w w' :=
  signal_by A cp 10 0 3 0 1 0 1096810496 0 1094713344 0 1090519040 0 1086324736 0 w hA fun W => receivedE xPI (by decide) (by decide) (by decide) W
theorem xSame (A B : Option Addr) (c d : Nat) (w : World) (hA : Rd w A (flts [1096810496, 0, 1094713344, 0, 1090519040, 0, 1086324736, 0])) (hB : Rd w B (flts [1096810496, 0, 1094713344, 0, 1090519040, 0, 1086324736, 0])) : Calls Tryz.prog 27 #[.slice A 8 c, .slice B 8 d] w fun e w' => e = .returned (.bool true) ∧ Below w.heap.size w w' := by
  refine (sameSamples_any A B 8 8 c d [1096810496, 0, 1094713344, 0, 1090519040, 0, 1086324736, 0] [1096810496, 0, 1094713344, 0, 1090519040, 0, 1086324736, 0] w hA hB rfl rfl (by simp)).mono ?_
  rintro e w' ⟨h1, q, rfl⟩
  refine ⟨?_, below_drewN (Below.refl _ _) q⟩
  rw [h1, show sameF [1096810496, 0, 1094713344, 0, 1090519040, 0, 1086324736, 0] [1096810496, 0, 1094713344, 0, 1090519040, 0, 1086324736, 0] = true from by kernel_rfl]
theorem rd3 {V : World} {g : Nat} {t : TypeId} (h : Row V g t [.int .i64 0, .int .i64 0, .int .i64 8, .float .f32 1096810496, .float .f32 0, .float .f32 1094713344, .float .f32 0, .float .f32 1090519040, .float .f32 0, .float .f32 1086324736, .float .f32 0]) : Rd V (some ⟨g, 3, none⟩) (flts [1096810496, 0, 1094713344, 0, 1090519040, 0, 1086324736, 0]) := fun j v hv => ⟨g, 3, rfl, by rw [h.cell, Nat.add_comm]; exact hv⟩
theorem rowN {w : World} {g : Nat} (t : TypeId) (fs : List Value) (hg : w.heap.size = g) : Row (w.alloc (.cells fs.toArray t)) g t fs := by subst hg; exact Row.new w t fs
set_option maxRecDepth 100000 in
set_option maxHeartbeats 4000000 in
theorem sent_by (fs : List Value) (hfs : fs = [.int .u8 201, .int .u8 0, .int .u8 0, .int .u8 0, .int .u8 8, .int .u8 0, .int .u8 224, .int .u8 0, .int .u8 0, .int .u8 0, .int .u8 192, .int .u8 0, .int .u8 0, .int .u8 0, .int .u8 128, .int .u8 0, .int .u8 0, .int .u8 0, .int .u8 96, .int .u8 0, .int .u8 0, .int .u8 205, .int .u8 57, .int .u8 132, .int .u8 87, .int .u8 194, .int .u8 149, .int .u8 224, .int .u8 115]) (HE : ∀ w, Calls Tryz.prog 18 #[.agg #[.int .u8 1, .int .u8 0, .int .u8 0, .int .u8 0, .int .u8 0, .int .u8 0, .int .u8 0, .int .u8 0], .agg #[.int .i64 0, .int .i64 0, .int .i64 8, .float .f32 1096810496, .float .f32 0, .float .f32 1094713344, .float .f32 0, .float .f32 1090519040, .float .f32 0, .float .f32 1086324736, .float .f32 0]] w fun e w' => e = .returned (.tuple #[.agg fs.toArray, .int .i64 0]) ∧ Below w.heap.size w w') (HD : ∀ w, Calls Tryz.prog 31 #[.agg #[.int .u8 1, .int .u8 0, .int .u8 0, .int .u8 0, .int .u8 0, .int .u8 0, .int .u8 0, .int .u8 0], .agg fs.toArray] w fun e w' => e = .returned (.tuple #[.agg #[.int .i64 0, .int .i64 0, .int .i64 8, .float .f32 1096810496, .float .f32 0, .float .f32 1094713344, .float .f32 0, .float .f32 1090519040, .float .f32 0, .float .f32 1086324736, .float .f32 0], .int .i64 0]) ∧ Below w.heap.size w w') (w : World) : Calls Tryz.prog 6 #[] w fun e w' => e = .returned (.bool true) ∧ Below w.heap.size w w' := by
  have hst : Hid (∀ w5 : World, (storeCells ⟨w5.heap.size, 0, none⟩ fs).run Tryz.prog (w5.alloc (.cells #[.int .u8 0, .int .u8 0, .int .u8 0, .int .u8 0, .int .u8 0, .int .u8 0, .int .u8 0, .int .u8 0, .int .u8 0, .int .u8 0, .int .u8 0, .int .u8 0, .int .u8 0, .int .u8 0, .int .u8 0, .int .u8 0, .int .u8 0, .int .u8 0, .int .u8 0, .int .u8 0, .int .u8 0, .int .u8 0, .int .u8 0, .int .u8 0, .int .u8 0, .int .u8 0, .int .u8 0, .int .u8 0, .int .u8 0] 68)) = .ok () (w5.alloc (.cells fs.toArray 68))) := fun w5 => run_storeCells_new w5 68 #[.int .u8 0, .int .u8 0, .int .u8 0, .int .u8 0, .int .u8 0, .int .u8 0, .int .u8 0, .int .u8 0, .int .u8 0, .int .u8 0, .int .u8 0, .int .u8 0, .int .u8 0, .int .u8 0, .int .u8 0, .int .u8 0, .int .u8 0, .int .u8 0, .int .u8 0, .int .u8 0, .int .u8 0, .int .u8 0, .int .u8 0, .int .u8 0, .int .u8 0, .int .u8 0, .int .u8 0, .int .u8 0, .int .u8 0] fs.toArray (by rw [hfs]; kernel_rfl) (by rw [hfs]; rfl) (by rw [hfs]; kernel_rfl)
  have hsz : Hid ((Tryz.prog.info? 68).map (·.size) = some fs.toArray.size) := by unfold Hid; rw [hfs]; kernel_rfl
  have hlen : Hid (fs.length = 29) := by unfold Hid; rw [hfs]; rfl
  replace HE := Lib.hid HE
  replace HD := Lib.hid HD
  clear hfs
  go_enter Tryz.func6, Tryz.ntmps6
  go_upto_region 2 with (go_at_call 17; refine (xSamples _).mono ?_; rintro e w1 ⟨rfl, hb⟩; have HS1 : Hid (Below w.heap.size w w1) := Lib.hid hb; clear hb)
  obtain ⟨g, hg⟩ : ∃ g, g = w1.heap.size := ⟨_, rfl⟩
  refine genT (fun V => Row V g 65 [.float .f32 1096810496, .float .f32 0, .float .f32 1094713344, .float .f32 0, .float .f32 1090519040, .float .f32 0, .float .f32 1086324736, .float .f32 0] ∧ Below w.heap.size w V) ⟨rowAt _ _ hg.symm, blA HS1.out _⟩ ?_
  rw [← hg]
  clear hg HS1
  intro W2 s2
  have HS2 := Lib.hid s2
  clear s2
  go_upto_region 4 with (go_at_call 27; refine (xSame _ _ _ _ _ (Rd.row (HS2.out.1.alloc _)) (Rd.row (Row.new _ _ _))).mono ?_; rintro e w3 ⟨rfl, hb⟩; have HS3 : Hid (Row w3 g 65 [.float .f32 1096810496, .float .f32 0, .float .f32 1094713344, .float .f32 0, .float .f32 1090519040, .float .f32 0, .float .f32 1086324736, .float .f32 0] ∧ Below w.heap.size w w3) := ⟨(HS2.out.1.alloc _).old hb, (blA HS2.out.2 _).trans (hb.mono (blA HS2.out.2 _).size)⟩; clear hb)
  go_upto_region 5 with (first
    | (refine wpList_load_row rfl 65 _ rfl g rfl 65 #[.float .f32 1096810496, .float .f32 0, .float .f32 1094713344, .float .f32 0, .float .f32 1090519040, .float .f32 0, .float .f32 1086324736, .float .f32 0] (0, 0) _ HS3.out.1 Tryz.underlying65 rfl ?_ ?_; (kernel_rfl))
    | (go_at_call 18; refine (HE.out _).mono ?_; rintro e w4 ⟨rfl, hb⟩; have h4 := hst.out w4; have h5 := hlen.out; have HS4 : Hid (Below w.heap.size w w4) := (HS3.out.2).trans (hb.mono HS3.out.2.size); clear hb))
  obtain ⟨g4, hg⟩ : ∃ g4, g4 = w4.heap.size := ⟨_, rfl⟩
  refine genT (fun V => Row V g4 68 fs ∧ Below w.heap.size w V) ⟨rowN _ _ hg.symm, blA HS4.out _⟩ ?_
  rw [← hg]
  clear hg HS4 HS3 HS2 h4 h5
  intro W5 s5
  have HS5 := Lib.hid s5
  clear s5
  go_upto_region 6 with (first
    | (refine wpList_load_row rfl 68 _ rfl g4 rfl 68 fs.toArray (0, 0) _ HS5.out.1 Tryz.underlying68 rfl hsz.out ?_)
    | (go_at_call 31; refine (HD.out _).mono ?_; rintro e w6 ⟨rfl, hb⟩; have HS6 : Hid (Below w.heap.size w w6) := (HS5.out.2).trans (hb.mono HS5.out.2.size); clear hb))
  obtain ⟨g6, hg⟩ : ∃ g6, g6 = w6.heap.size := ⟨_, rfl⟩
  refine genT (fun V => Row V g6 72 [.int .i64 0, .int .i64 0, .int .i64 8, .float .f32 1096810496, .float .f32 0, .float .f32 1094713344, .float .f32 0, .float .f32 1090519040, .float .f32 0, .float .f32 1086324736, .float .f32 0] ∧ Below w.heap.size w V) ⟨rowAt _ _ hg.symm, blA HS6.out _⟩ ?_
  rw [← hg]
  clear hg HS6 HS5
  intro W7 s7
  have HS7 := Lib.hid s7
  clear s7
  go_upto_region 9 with (go_at_call 29; refine (xSignal _ _ _ (rd3 HS7.out.1)).mono ?_; rintro e w8 ⟨rfl, hb⟩; have HS8 : Hid (Below w.heap.size w w8) := (HS7.out.2).trans (hb.mono HS7.out.2.size); clear hb)
  obtain ⟨g8, hg⟩ : ∃ g8, g8 = w8.heap.size := ⟨_, rfl⟩
  refine genT (fun V => Row V g8 34 [.int .i64 10, .int .i64 0, .int .i64 3, .int .i64 0, .int .i64 1, .int .i64 0] ∧ Below w.heap.size w V) ⟨rowAt _ _ hg.symm, blA HS8.out _⟩ ?_
  rw [← hg]
  clear hg HS8 HS7
  intro W9 s9
  have HS9 := Lib.hid s9
  clear s9
  go_wp2_with (first
    | (refine wpList_load_row rfl 34 _ rfl g8 rfl 34 #[.int .i64 10, .int .i64 0, .int .i64 3, .int .i64 0, .int .i64 1, .int .i64 0] (0, 0) _ HS9.out.1 Tryz.underlying34 rfl ?_ ?_; (kernel_rfl))
    | (go_at_call 11; refine (xNeedleh _).mono ?_; rintro e w10 ⟨rfl, hb⟩; have HS10 : Hid (Below w.heap.size w w10) := (HS9.out.2).trans (hb.mono HS9.out.2.size); clear hb))
  go_ret
  exact ⟨rfl, blA HS10.out _⟩
theorem sent_ok (w : World) : Calls Tryz.prog 6 #[] w fun e w' => e = .returned (.bool true) ∧ Below w.heap.size w w' := sent_by [.int .u8 201, .int .u8 0, .int .u8 0, .int .u8 0, .int .u8 8, .int .u8 0, .int .u8 224, .int .u8 0, .int .u8 0, .int .u8 0, .int .u8 192, .int .u8 0, .int .u8 0, .int .u8 0, .int .u8 128, .int .u8 0, .int .u8 0, .int .u8 0, .int .u8 96, .int .u8 0, .int .u8 0, .int .u8 205, .int .u8 57, .int .u8 132, .int .u8 87, .int .u8 194, .int .u8 149, .int .u8 224, .int .u8 115] rfl xEncode xDecode w
theorem sig_ofh {a b c d x y : Int} (ha : a.natAbs ≤ 10000) (hb : b.natAbs ≤ 10000) (hc : c.natAbs ≤ 10000) (hd : d.natAbs ≤ 10000) (hx : x.natAbs ≤ 10000) (hy : y.natAbs ≤ 10000) (hn : ¬ (a = 0 ∧ b = 0)) : sigE a b c d x y = 0 := by
  have r : ∀ {z : Int}, z.natAbs ≤ 10000 → rangeB z (-10000) 10000 = false := fun {z} h => by unfold rangeB; simp only [Bool.or_eq_false_iff, decide_eq_false_iff_not]; omega
  have z : (a == 0 && b == 0) = false := by
    cases h : (a == 0 && b == 0)
    · rfl
    · rw [Bool.and_eq_true, beq_iff_eq, beq_iff_eq] at h; exact absurd h hn
  unfold sigE partE
  simp only [List.map_cons, List.map_nil, r ha, r hb, r hc, r hd, r hx, r hy, z]
  rfl
theorem letO_nat (k : UInt8) : (letO k).toNat = 65 + k.toNat % 26 := by
  unfold letO
  rw [UInt8.toNat_add, UInt8.toNat_ofNat']
  have : (65 : UInt8).toNat = 65 := rfl
  rw [this]
  omega
structure LetsOk (ls : List UInt8) : Prop where
  one : 1 ≤ ls.length
  two : ls.length ≤ 2
  cap : ∀ c ∈ ls, 65 ≤ c.toNat ∧ c.toNat ≤ 90
theorem WordOf.lets {bs : List UInt8} {W : ByteArray} (h : WordOf bs W) : ∃ ls, W = str ls ∧ LetsOk ls := by
  cases h with
  | one k => exact ⟨[letO k], rfl, by simp, by simp, fun c hc => by have := letO_nat k; rw [List.mem_singleton.1 hc]; omega⟩
  | two k l =>
    refine ⟨[letO k, letO l], rfl, by simp, by simp, fun c hc => ?_⟩
    have h1 := letO_nat k; have h2 := letO_nat l
    rcases List.mem_cons.1 hc with rfl | hc
    · omega
    · rw [List.mem_singleton.1 hc]; omega
theorem LetsOk.word {ls : List UInt8} (h : LetsOk ls) : wordI ls = 0 := by
  unfold wordI
  have e1 : ls.isEmpty = false := by have := h.one; cases ls with | nil => simp at this | cons a l => rfl
  have e2 : decide (4 < ls.length) = false := decide_eq_false (by have := h.two; omega)
  rw [e1, e2, if_neg (by decide), if_pos]
  refine List.all_eq_true.2 fun c hc => ?_
  have := h.cap c hc
  unfold capB u8I
  rw [Bool.and_eq_true, decide_eq_true_eq, decide_eq_true_eq]
  omega
theorem LetsOk.ok {ls : List UInt8} (h : LetsOk ls) : okW ls := ⟨fun e => by have := h.one; rw [e] at this; simp at this, h.cap⟩
theorem LetsOk.len {ls : List UInt8} (h : LetsOk ls) {d : Nat} (hd : 1 ≤ d ∧ d ≤ 2) : 0 < (keyedL d ls).length ∧ (keyedL d ls).length ≤ 100 := by
  rw [keyed_len]
  have h1 : 7 ≤ (keyedL 1 ls).length ∧ (keyedL 1 ls).length ≤ 39 := by
    unfold keyedL
    rw [List.length_append, List.length_replicate]
    have := keyP_16 h.cap ls.length (Nat.le_refl _)
    have := h.two
    omega
  obtain rfl | rfl : d = 1 ∨ d = 2 := by omega
  · omega
  · omega
theorem LetsOk.samps {ls : List UInt8} (h : LetsOk ls) {d : Nat} (hd : 1 ≤ d ∧ d ≤ 2) : sampsI (keyedL d ls) = 0 := by
  have := (h.len hd).2
  unfold sampsI
  rw [if_neg (by omega)]
  refine firstZ fun z hz => ?_
  obtain ⟨x, hx, rfl⟩ := List.mem_map.1 hz
  exact keyedL_samp d ls x hx
theorem LetsOk.heard {ls : List UInt8} (h : LetsOk ls) {d : Nat} (hd : 1 ≤ d) : heardL (keyedL d ls) (d : Int) = [str ls] := by
  have := heard_all hd (ws := [ls]) (fun w hw => by rw [List.mem_singleton.1 hw]; exact h.ok)
  simpa using this
theorem two_cut (n d : Int) : lowN (2 * 2 * n) (2 * 2 * d) = lowN n d ∧ lowD (2 * 2 * n) (2 * 2 * d) = lowD n d := by
  have e1 := lowN_scale n d 4 (by decide); have e2 := lowD_scale n d 4 (by decide)
  rw [show (2 * 2 * n : Int) = n * 4 by omega, show (2 * 2 * d : Int) = d * 4 by omega]
  exact ⟨e1, e2⟩
theorem needleH {a b c d x y u v : Int} (hE : sigE a b c d x y = 0) (hu : lowN (c * a + d * b - (x * a + y * b)) (a * a + b * b) = u) (hv : lowD (c * a + d * b - (x * a + y * b)) (a * a + b * b) = v) (w : World) : Calls Tryz.prog 11 #[.agg #[.int .i64 a, .int .i64 b, .int .i64 c, .int .i64 d, .int .i64 x, .int .i64 y]] w fun e w' => e = .returned (.tuple #[.agg #[.int .i64 u, .int .i64 v], .int .i64 0]) ∧ Below w.heap.size w w' := by
  subst hu hv
  exact needleT_ok a b c d x y w hE
structure TurnedH (a b c d x y p1 p2 p3 p4 p5 p6 : Int) : Prop where
  fe : sigE p1 p2 p3 p4 p5 p6 = 0
  fb : p1.natAbs ≤ 300 ∧ p2.natAbs ≤ 300 ∧ p3.natAbs ≤ 300 ∧ p4.natAbs ≤ 300 ∧ p5.natAbs ≤ 300 ∧ p6.natAbs ≤ 300
  fz : ¬ (p1 = 0 ∧ p2 = 0)
  fn : p3 * p1 + p4 * p2 - (p5 * p1 + p6 * p2) = c * a + d * b - (x * a + y * b)
  fd : p1 * p1 + p2 * p2 = a * a + b * b
theorem turnedH {a b c d x y k : Int} (hb : a.natAbs ≤ 300 ∧ b.natAbs ≤ 300 ∧ c.natAbs ≤ 300 ∧ d.natAbs ≤ 300 ∧ x.natAbs ≤ 300 ∧ y.natAbs ≤ 300) (hz : ¬ (a = 0 ∧ b = 0)) (hk : k = 0 ∨ k = 1 ∨ k = 2 ∨ k = 3) :
    TurnedH a b c d x y (a * iR k - b * iI k) (a * iI k + b * iR k) (c * iR k - d * iI k) (c * iI k + d * iR k) (x * iR k - y * iI k) (x * iI k + y * iR k) := by
  have S : ∀ {p1 p2 p3 p4 p5 p6 : Int}, (p1.natAbs ≤ 300 ∧ p2.natAbs ≤ 300 ∧ p3.natAbs ≤ 300 ∧ p4.natAbs ≤ 300 ∧ p5.natAbs ≤ 300 ∧ p6.natAbs ≤ 300) → ¬ (p1 = 0 ∧ p2 = 0) → sigE p1 p2 p3 p4 p5 p6 = 0 := fun h hz => sig_ofh (by omega) (by omega) (by omega) (by omega) (by omega) (by omega) hz
  rcases hk with rfl | rfl | rfl | rfl
  · have e1 : iR 0 = 1 := rfl
    have e2 : iI 0 = 0 := rfl
    rw [e1, e2]; simp only [Int.mul_one, Int.mul_zero, Int.sub_zero, Int.zero_add]
    exact ⟨S hb hz, hb, hz, rfl, rfl⟩
  · have e1 : iR 1 = 0 := rfl
    have e2 : iI 1 = 1 := rfl
    rw [e1, e2]; simp only [Int.mul_one, Int.mul_zero, Int.zero_sub, Int.add_zero]
    have hb2 : (-b).natAbs ≤ 300 ∧ a.natAbs ≤ 300 ∧ (-d).natAbs ≤ 300 ∧ c.natAbs ≤ 300 ∧ (-y).natAbs ≤ 300 ∧ x.natAbs ≤ 300 := by omega
    have hz2 : ¬ (-b = 0 ∧ a = 0) := by omega
    exact ⟨S hb2 hz2, hb2, hz2, by grind, by grind⟩
  · have e1 : iR 2 = -1 := rfl
    have e2 : iI 2 = 0 := rfl
    rw [e1, e2]; simp only [Int.mul_neg_one, Int.mul_zero, Int.sub_zero, Int.zero_add]
    have hb2 : (-a).natAbs ≤ 300 ∧ (-b).natAbs ≤ 300 ∧ (-c).natAbs ≤ 300 ∧ (-d).natAbs ≤ 300 ∧ (-x).natAbs ≤ 300 ∧ (-y).natAbs ≤ 300 := by omega
    have hz2 : ¬ (-a = 0 ∧ -b = 0) := by omega
    exact ⟨S hb2 hz2, hb2, hz2, by grind, by grind⟩
  · have e1 : iR 3 = 0 := rfl
    have e2 : iI 3 = -1 := rfl
    rw [e1, e2]; simp only [Int.mul_neg_one, Int.mul_zero, Int.zero_sub, Int.neg_neg, Int.add_zero]
    have hb2 : b.natAbs ≤ 300 ∧ (-a).natAbs ≤ 300 ∧ d.natAbs ≤ 300 ∧ (-c).natAbs ≤ 300 ∧ y.natAbs ≤ 300 ∧ (-x).natAbs ≤ 300 := by omega
    have hz2 : ¬ (b = 0 ∧ -a = 0) := by omega
    exact ⟨S hb2 hz2, hb2, hz2, by grind, by grind⟩
theorem backH {a b c d x y : Int} (hE : sigE a b c d x y = 0) : ∃ j0 j1 j2 j3 j4 j5 j6 j7 : Nat, (∀ W, Calls Tryz.prog 12 #[.agg #[.int .i64 a, .int .i64 b, .int .i64 c, .int .i64 d, .int .i64 x, .int .i64 y]] W fun e w' => e = .returned (.tuple #[.agg #[.complex .f32 j0 j1, .complex .f32 j2 j3, .complex .f32 j4 j5, .complex .f32 j6 j7], .int .i64 0]) ∧ Below W.heap.size W w') ∧
    (∀ W, Calls Tryz.prog 13 #[.agg #[.complex .f32 j0 j1, .complex .f32 j2 j3, .complex .f32 j4 j5, .complex .f32 j6 j7]] W fun e w' => e = .returned (.tuple #[.agg #[.int .i64 a, .int .i64 b, .int .i64 c, .int .i64 d, .int .i64 x, .int .i64 y], .agg #[.int .i64 0, .int .i64 0], .int .i64 0]) ∧ Below W.heap.size W w') := by
  obtain ⟨p, h1, h2⟩ := sampledE hE
  have h3 : PI p (a + c + x + 0) (b + d + y + 0) (a + c - x - 0) (b + d - y - 0) (a - c + x - 0) (b - d + y - 0) (a - c - x + 0) (b - d - y + 0) := by simpa only [Int.add_zero, Int.sub_zero] using h2
  exact ⟨p.a.1, p.a.2, p.b.1, p.b.2, p.c.1, p.c.2, p.d.1, p.d.2, h1, fun W => receivedE h3 hE (by decide) (by decide) W⟩
theorem quietF {a b c d x y : Int} (h : ¬ (sigE a b c d x y = 0 ∧ ∀ z ∈ [a, b, c, d, x, y], -300 ≤ z ∧ z ≤ 300)) (W : World) : Calls Tryz.prog 5 #[.agg #[.int .i64 a, .int .i64 b, .int .i64 c, .int .i64 d, .int .i64 x, .int .i64 y], .int .i64 300] W fun e w' => e = .returned (.bool false) ∧ Below W.heap.size W w' := by
  refine (quiet_any a b c d x y W).mono ?_
  rintro e w' ⟨r, rfl, hr, hb⟩
  cases r
  · exact ⟨rfl, hb⟩
  · exact absurd (hr rfl) h
theorem topStopbarHeard_any (A : Option Addr) (n ca : Nat) (x0 x1 a b c d x y : Int) (bs : List UInt8) (w : World) (hA : Rd w A (byts bs)) (hn : n = bs.length) (hT : HTb w) (hx0 : 0 ≤ x0 ∧ x0 ≤ 255) (hx1 : 0 ≤ x1 ∧ x1 ≤ 255) :
    Calls Tryz.prog 3 #[.slice A n ca, .agg #[.int .u8 x0, .int .u8 x1], .agg #[.int .i64 a, .int .i64 b, .int .i64 c, .int .i64 d, .int .i64 x, .int .i64 y]] w fun e w' => e = .returned (.bool true) ∧ Below w.heap.size w w' := by
  have hS : SentOk := sent_ok
  by_cases h0 : n = 0
  · rw [h0]; exact heard_out0 A ca x0 x1 a b c d x y w hS
  by_cases h2 : 2 < n
  · exact heard_out3 A n ca x0 x1 a b c d x y w hS h2
  by_cases hG : sigE a b c d x y = 0 ∧ ∀ z ∈ [a, b, c, d, x, y], -300 ≤ z ∧ z ≤ 300
  case neg => exact heard_outQ A n ca x0 x1 a b c d x y w hS (by omega) (quietF hG)
  obtain ⟨hE, hB⟩ := hG
  simp only [List.mem_cons, List.not_mem_nil, or_false, forall_eq_or_imp, forall_eq] at hB
  obtain ⟨b1, b2, b3, b4, b5, b6⟩ := hB
  have hb : a.natAbs ≤ 300 ∧ b.natAbs ≤ 300 ∧ c.natAbs ≤ 300 ∧ d.natAbs ≤ 300 ∧ x.natAbs ≤ 300 ∧ y.natAbs ≤ 300 := by omega
  have hz := (sig_good hE).pn
  obtain ⟨W, hW⟩ : ∃ W, WordOf bs W := by
    match bs, hn with
    | [], hn => exact absurd hn h0
    | [k], _ => exact ⟨_, .one k⟩
    | [k, l], _ => exact ⟨_, .two k l⟩
    | _ :: _ :: _ :: _, hn => simp at hn; omega
  obtain ⟨ls, hls, hL⟩ := hW.lets
  obtain ⟨dt, hdt, hdr⟩ : ∃ dt : Nat, (dt : Int) = 1 + x0 % 2 ∧ (1 ≤ dt ∧ dt ≤ 2) := ⟨(1 + x0 % 2).toNat, by omega, by omega⟩
  obtain ⟨tn, htn⟩ : ∃ tn, tn = x1 % 4 := ⟨_, rfl⟩
  have hk : tn = 0 ∨ tn = 1 ∨ tn = 2 ∨ tn = 3 := by omega
  have T := turnedH hb hz hk
  have hTu : ∀ W, Tn W → _ := fun W (hT : Tn W) => turned_ok a b c d x y tn W hT (by rw [hE, show whenI (rangeB tn 0 3) 3 = 0 by rcases hk with rfl | rfl | rfl | rfl <;> rfl]; rfl)
  obtain ⟨p1, e1⟩ : ∃ p, p = a * iR tn - b * iI tn := ⟨_, rfl⟩
  obtain ⟨p2, e2⟩ : ∃ p, p = a * iI tn + b * iR tn := ⟨_, rfl⟩
  obtain ⟨p3, e3⟩ : ∃ p, p = c * iR tn - d * iI tn := ⟨_, rfl⟩
  obtain ⟨p4, e4⟩ : ∃ p, p = c * iI tn + d * iR tn := ⟨_, rfl⟩
  obtain ⟨p5, e5⟩ : ∃ p, p = x * iR tn - y * iI tn := ⟨_, rfl⟩
  obtain ⟨p6, e6⟩ : ∃ p, p = x * iI tn + y * iR tn := ⟨_, rfl⟩
  rw [← e1, ← e2, ← e3, ← e4, ← e5, ← e6] at T
  simp only [← e1, ← e2, ← e3, ← e4, ← e5, ← e6] at hTu
  clear e1 e2 e3 e4 e5 e6
  obtain ⟨TE, TB, TZ, TN, TD⟩ := T
  have LE : sigE (p1 + p1) (p2 + p2) (p3 + p3) (p4 + p4) (p5 + p5) (p6 + p6) = 0 := sig_ofh (by omega) (by omega) (by omega) (by omega) (by omega) (by omega) (by omega)
  have hAd := fun W => added_ok p1 p2 p3 p4 p5 p6 p1 p2 p3 p4 p5 p6 W (by rw [TE]; rfl)
  rw [LE] at hAd
  have hSc := fun W => scaled_ok p1 p2 p3 p4 p5 p6 2 0 2 0 W (by rw [TE]; rfl)
  rw [show p1 * 2 - p2 * 0 = p1 + p1 by omega, show p1 * 0 + p2 * 2 = p2 + p2 by omega, show p3 * 2 - p4 * 0 = p3 + p3 by omega, show p3 * 0 + p4 * 2 = p4 + p4 by omega, show p5 * 2 - p6 * 0 = p5 + p5 by omega, show p5 * 0 + p6 * 2 = p6 + p6 by omega, LE] at hSc
  obtain ⟨j0, j1, j2, j3, j4, j5, j6, j7, s1, s2⟩ := backH TE
  obtain ⟨k0, k1, k2, k3, k4, k5, k6, k7, t1, t2⟩ := backH LE
  have nl : lowN ((p3 + p3) * (p1 + p1) + (p4 + p4) * (p2 + p2) - ((p5 + p5) * (p1 + p1) + (p6 + p6) * (p2 + p2))) ((p1 + p1) * (p1 + p1) + (p2 + p2) * (p2 + p2)) = lowN (c * a + d * b - (x * a + y * b)) (a * a + b * b) ∧ lowD ((p3 + p3) * (p1 + p1) + (p4 + p4) * (p2 + p2) - ((p5 + p5) * (p1 + p1) + (p6 + p6) * (p2 + p2))) ((p1 + p1) * (p1 + p1) + (p2 + p2) * (p2 + p2)) = lowD (c * a + d * b - (x * a + y * b)) (a * a + b * b) := by
    rw [show (p3 + p3) * (p1 + p1) + (p4 + p4) * (p2 + p2) - ((p5 + p5) * (p1 + p1) + (p6 + p6) * (p2 + p2)) = 2 * 2 * (p3 * p1 + p4 * p2 - (p5 * p1 + p6 * p2)) by grind, show (p1 + p1) * (p1 + p1) + (p2 + p2) * (p2 + p2) = 2 * 2 * (p1 * p1 + p2 * p2) by grind, TN, TD]
    exact two_cut _ _
  refine heard_law A n ca x0 x1 a b c d x y p1 p2 p3 p4 p5 p6 (p1 + p1) (p2 + p2) (p3 + p3) (p4 + p4) (p5 + p5) (p6 + p6) (lowN (c * a + d * b - (x * a + y * b)) (a * a + b * b)) (lowD (c * a + d * b - (x * a + y * b)) (a * a + b * b)) tn dt j0 j1 j2 j3 j4 j5 j6 j7 k0 k1 k2 k3 k4 k5 k6 k7 (keyedL dt ls) bs W w hA hn hT hS hW
    (fun V => (quiet_any a b c d x y V).mono fun e w' ⟨r, h1, _, h3⟩ => ⟨r, h1, h3⟩)
    (fun V hV => ?_) hTu hAd hSc (needleH hE rfl rfl) (needleH TE (by rw [TN, TD]) (by rw [TN, TD])) (needleH LE nl.1 nl.2) s1 t1 s2 t2
    (fun V => plusR_any p1 p2 p1 p2 V ⟨by omega, by omega⟩ ⟨by omega, by omega⟩) ?_ (keyedL_mem dt ls) (hL.len hdr).2 (fun Ah ch V hV hR => ?_) (hL.len hdr).1 hdt htn hx0 hx1
  · have h := keyed_ok W dt V hV hdr.1 (by omega) (by rw [hls]; exact hL.word)
    rw [hls] at h ⊢
    refine h.mono fun e w' ⟨v, k1, k2, k3⟩ => ?_
    obtain ⟨g, cc, rfl, -, -⟩ := ownsRow.addr k2 (hL.len hdr).1
    exact ⟨g, cc, k1, Rd.own k2, k3⟩
  · cases hq : (p1 == p1 + p1 && p2 == p2 + p2)
    · rfl
    · rw [Bool.and_eq_true, beq_iff_eq, beq_iff_eq] at hq; omega
  · have h := heard_ok Ah (keyedL dt ls).length ch (keyedL dt ls) dt V hR rfl (by have := (hL.len hdr).2; omega) (hL.samps hdr) (by omega) hV
    rw [hL.heard hdr.1] at h
    rw [hls]
    refine h.mono fun e w' ⟨v, k1, k3⟩ => ?_
    rw [if_neg (by simp)] at k1
    obtain ⟨g, cc, rfl, -, -⟩ := ownsRow.addr k1.2 (by simp)
    exact ⟨g, cc, k1.1, Rd.own k1.2, k3⟩
end Go.Proofs.YtlflfieknibgmaaGreatDoor
