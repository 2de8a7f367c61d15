import Derived.Test.YtaknlhepgeiekaaGreatDoorH32
import Derived.Test.YtaknlhepgeiekaaGreatDoorH37
namespace Go.Proofs.YtaknlhepgeiekaaGreatDoor
set_option linter.all false
open Go.RowKit Go.Fl
theorem part0 : Part 0 0 := ⟨by kernel_rfl, by decide, (fun w => by kernel_rfl), by kernel_rfl, by kernel_rfl, by kernel_rfl⟩
theorem part6 : Part 1086324736 4618441417868443648 := ⟨by kernel_rfl, by decide, (fun w => by kernel_rfl), by kernel_rfl, by kernel_rfl, by kernel_rfl⟩
theorem part7 : Part 1088421888 4619567317775286272 := ⟨by kernel_rfl, by decide, (fun w => by kernel_rfl), by kernel_rfl, by kernel_rfl, by kernel_rfl⟩
theorem part8 : Part 1090519040 4620693217682128896 := ⟨by kernel_rfl, by decide, (fun w => by kernel_rfl), by kernel_rfl, by kernel_rfl, by kernel_rfl⟩
theorem part10 : Part 1092616192 4621819117588971520 := ⟨by kernel_rfl, by decide, (fun w => by kernel_rfl), by kernel_rfl, by kernel_rfl, by kernel_rfl⟩
theorem part12 : Part 1094713344 4622945017495814144 := ⟨by kernel_rfl, by decide, (fun w => by kernel_rfl), by kernel_rfl, by kernel_rfl, by kernel_rfl⟩
theorem part14 : Part 1096810496 4624070917402656768 := ⟨by kernel_rfl, by decide, (fun w => by kernel_rfl), by kernel_rfl, by kernel_rfl, by kernel_rfl⟩
theorem cel6 : Cel (1086324736, 0) := ⟨⟨_, part6⟩, ⟨_, part0⟩⟩
theorem cel7 : Cel (1088421888, 0) := ⟨⟨_, part7⟩, ⟨_, part0⟩⟩
theorem cel8 : Cel (1090519040, 0) := ⟨⟨_, part8⟩, ⟨_, part0⟩⟩
theorem cel10 : Cel (1092616192, 0) := ⟨⟨_, part10⟩, ⟨_, part0⟩⟩
theorem cel12 : Cel (1094713344, 0) := ⟨⟨_, part12⟩, ⟨_, part0⟩⟩
theorem cel14 : Cel (1096810496, 0) := ⟨⟨_, part14⟩, ⟨_, part0⟩⟩
def panX : P4 := ⟨(1096810496, 0), (1094713344, 0), (1090519040, 0), (1092616192, 0)⟩
def sumX : Nat → P4 := fun k => match k with | 0 => ⟨(0, 0), (0, 0), (0, 0), (0, 0)⟩ | _ => ⟨(4624070917402656768, 0), (4622945017495814144, 0), (4620693217682128896, 0), (4621819117588971520, 0)⟩
def conX : Nat → P4 := fun k => match k with | 0 => ⟨(4624070917402656768, 0), (4622945017495814144, 0), (4620693217682128896, 0), (4621819117588971520, 0)⟩ | _ => ⟨(4624070917402656768, 0), (4622945017495814144, 0), (4620693217682128896, 0), (4621819117588971520, 0)⟩
theorem widX0a : Wid (1096810496, 0) (4624070917402656768, 0) (0, 0) (4624070917402656768, 0) := ⟨(fun w => by kernel_rfl), (fun w => by kernel_rfl)⟩
theorem widX0b : Wid (1094713344, 0) (4622945017495814144, 0) (0, 0) (4622945017495814144, 0) := ⟨(fun w => by kernel_rfl), (fun w => by kernel_rfl)⟩
theorem widX0c : Wid (1090519040, 0) (4620693217682128896, 0) (0, 0) (4620693217682128896, 0) := ⟨(fun w => by kernel_rfl), (fun w => by kernel_rfl)⟩
theorem widX0d : Wid (1092616192, 0) (4621819117588971520, 0) (0, 0) (4621819117588971520, 0) := ⟨(fun w => by kernel_rfl), (fun w => by kernel_rfl)⟩
theorem sumOkX : SumOk [panX] sumX conX where
 zero := rfl
 a := by
   intro k h
   have hk : k = 0 := by simp at h; omega
   subst hk
   · exact widX0a
 b := by
   intro k h
   have hk : k = 0 := by simp at h; omega
   subst hk
   · exact widX0b
 c := by
   intro k h
   have hk : k = 0 := by simp at h; omega
   subst hk
   · exact widX0c
 d := by
   intro k h
   have hk : k = 0 := by simp at h; omega
   subst hk
   · exact widX0d
def parX : Nat → P4 := fun k => match k with | 0 => ⟨(0, 0), (0, 0), (0, 0), (0, 0)⟩ | 1 => ⟨(4624070917402656768, 0), (4624070917402656768, 0), (4624070917402656768, 0), (4624070917402656768, 0)⟩ | 2 => ⟨(4628011567076605952, 0), (4628011567076605952, 0), (4611686018427387904, 0), (4611686018427387904, 0)⟩ | 3 => ⟨(4629981891913580544, 0), (4625759767262920704, 0), (4621819117588971520, 0), (13841813454723219456, 0)⟩ | _ => ⟨(4631389266797133824, 0), (4620693217682128896, 0), (0, 0), (4616189618054758400, 0)⟩
theorem partOkX : PartOk ⟨(4624070917402656768, 0), (4622945017495814144, 0), (4620693217682128896, 0), (4621819117588971520, 0)⟩ parX where
 zero := rfl
 at' := by
  intro t ht
  have hk : t = 0 ∨ t = 1 ∨ t = 2 ∨ t = 3 := by omega
  rcases hk with rfl | rfl | rfl | rfl
  · exact ⟨4624070917402656768, 0, 1, 1, rfl, rfl, rfl, by decide, by decide, ⟨4624070917402656768, 0, (fun w => by kernel_rfl), (fun w => by kernel_rfl)⟩, ⟨4624070917402656768, 0, (fun w => by kernel_rfl), (fun w => by kernel_rfl)⟩, ⟨4624070917402656768, 0, (fun w => by kernel_rfl), (fun w => by kernel_rfl)⟩, ⟨4624070917402656768, 0, (fun w => by kernel_rfl), (fun w => by kernel_rfl)⟩⟩
  · exact ⟨4622945017495814144, 0, 1, -1, rfl, rfl, rfl, by decide, by decide, ⟨4622945017495814144, 0, (fun w => by kernel_rfl), (fun w => by kernel_rfl)⟩, ⟨4622945017495814144, 0, (fun w => by kernel_rfl), (fun w => by kernel_rfl)⟩, ⟨13846317054350589952, 0, (fun w => by kernel_rfl), (fun w => by kernel_rfl)⟩, ⟨13846317054350589952, 0, (fun w => by kernel_rfl), (fun w => by kernel_rfl)⟩⟩
  · exact ⟨4620693217682128896, 0, -1, 1, rfl, rfl, rfl, by decide, by decide, ⟨4620693217682128896, 0, (fun w => by kernel_rfl), (fun w => by kernel_rfl)⟩, ⟨13844065254536904704, 0, (fun w => by kernel_rfl), (fun w => by kernel_rfl)⟩, ⟨4620693217682128896, 0, (fun w => by kernel_rfl), (fun w => by kernel_rfl)⟩, ⟨13844065254536904704, 0, (fun w => by kernel_rfl), (fun w => by kernel_rfl)⟩⟩
  · exact ⟨4621819117588971520, 0, -1, -1, rfl, rfl, rfl, by decide, by decide, ⟨4621819117588971520, 0, (fun w => by kernel_rfl), (fun w => by kernel_rfl)⟩, ⟨13845191154443747328, 0, (fun w => by kernel_rfl), (fun w => by kernel_rfl)⟩, ⟨13845191154443747328, 0, (fun w => by kernel_rfl), (fun w => by kernel_rfl)⟩, ⟨4621819117588971520, 0, (fun w => by kernel_rfl), (fun w => by kernel_rfl)⟩⟩
theorem overX : OverOk ⟨(4631389266797133824, 0), (4620693217682128896, 0), (0, 0), (4616189618054758400, 0)⟩ 4 ⟨(4622382067542392832, 0), (4611686018427387904, 0), (0, 0), (4607182418800017408, 0)⟩ ⟨(4631389266797133824, 0), (4620693217682128896, 0), (0, 0), (4616189618054758400, 0)⟩ true where
 a := ⟨4622382067542392832, 0, (fun w => by kernel_rfl), (fun w => by kernel_rfl), (fun w => by kernel_rfl), (fun w => by kernel_rfl), (fun w => by kernel_rfl)⟩
 b := ⟨4611686018427387904, 0, (fun w => by kernel_rfl), (fun w => by kernel_rfl), (fun w => by kernel_rfl), (fun w => by kernel_rfl), (fun w => by kernel_rfl)⟩
 c := ⟨0, 0, (fun w => by kernel_rfl), (fun w => by kernel_rfl), (fun w => by kernel_rfl), (fun w => by kernel_rfl), (fun w => by kernel_rfl)⟩
 d := ⟨4607182418800017408, 0, (fun w => by kernel_rfl), (fun w => by kernel_rfl), (fun w => by kernel_rfl), (fun w => by kernel_rfl), (fun w => by kernel_rfl)⟩
 eq := (fun w => by kernel_rfl)
def panY : P4 := ⟨(1096810496, 0), (1094713344, 0), (1090519040, 0), (1088421888, 0)⟩
def sumY : Nat → P4 := fun k => match k with | 0 => ⟨(0, 0), (0, 0), (0, 0), (0, 0)⟩ | _ => ⟨(4624070917402656768, 0), (4622945017495814144, 0), (4620693217682128896, 0), (4619567317775286272, 0)⟩
def conY : Nat → P4 := fun k => match k with | 0 => ⟨(4624070917402656768, 0), (4622945017495814144, 0), (4620693217682128896, 0), (4619567317775286272, 0)⟩ | _ => ⟨(4624070917402656768, 0), (4622945017495814144, 0), (4620693217682128896, 0), (4619567317775286272, 0)⟩
theorem widY0a : Wid (1096810496, 0) (4624070917402656768, 0) (0, 0) (4624070917402656768, 0) := ⟨(fun w => by kernel_rfl), (fun w => by kernel_rfl)⟩
theorem widY0b : Wid (1094713344, 0) (4622945017495814144, 0) (0, 0) (4622945017495814144, 0) := ⟨(fun w => by kernel_rfl), (fun w => by kernel_rfl)⟩
theorem widY0c : Wid (1090519040, 0) (4620693217682128896, 0) (0, 0) (4620693217682128896, 0) := ⟨(fun w => by kernel_rfl), (fun w => by kernel_rfl)⟩
theorem widY0d : Wid (1088421888, 0) (4619567317775286272, 0) (0, 0) (4619567317775286272, 0) := ⟨(fun w => by kernel_rfl), (fun w => by kernel_rfl)⟩
theorem sumOkY : SumOk [panY] sumY conY where
 zero := rfl
 a := by
   intro k h
   have hk : k = 0 := by simp at h; omega
   subst hk
   · exact widY0a
 b := by
   intro k h
   have hk : k = 0 := by simp at h; omega
   subst hk
   · exact widY0b
 c := by
   intro k h
   have hk : k = 0 := by simp at h; omega
   subst hk
   · exact widY0c
 d := by
   intro k h
   have hk : k = 0 := by simp at h; omega
   subst hk
   · exact widY0d
def parY : Nat → P4 := fun k => match k with | 0 => ⟨(0, 0), (0, 0), (0, 0), (0, 0)⟩ | 1 => ⟨(4624070917402656768, 0), (4624070917402656768, 0), (4624070917402656768, 0), (4624070917402656768, 0)⟩ | 2 => ⟨(4628011567076605952, 0), (4628011567076605952, 0), (4611686018427387904, 0), (4611686018427387904, 0)⟩ | 3 => ⟨(4629981891913580544, 0), (4625759767262920704, 0), (4621819117588971520, 0), (13841813454723219456, 0)⟩ | _ => ⟨(4630967054332067840, 0), (4622382067542392832, 0), (4613937818241073152, 0), (4607182418800017408, 0)⟩
theorem partOkY : PartOk ⟨(4624070917402656768, 0), (4622945017495814144, 0), (4620693217682128896, 0), (4619567317775286272, 0)⟩ parY where
 zero := rfl
 at' := by
  intro t ht
  have hk : t = 0 ∨ t = 1 ∨ t = 2 ∨ t = 3 := by omega
  rcases hk with rfl | rfl | rfl | rfl
  · exact ⟨4624070917402656768, 0, 1, 1, rfl, rfl, rfl, by decide, by decide, ⟨4624070917402656768, 0, (fun w => by kernel_rfl), (fun w => by kernel_rfl)⟩, ⟨4624070917402656768, 0, (fun w => by kernel_rfl), (fun w => by kernel_rfl)⟩, ⟨4624070917402656768, 0, (fun w => by kernel_rfl), (fun w => by kernel_rfl)⟩, ⟨4624070917402656768, 0, (fun w => by kernel_rfl), (fun w => by kernel_rfl)⟩⟩
  · exact ⟨4622945017495814144, 0, 1, -1, rfl, rfl, rfl, by decide, by decide, ⟨4622945017495814144, 0, (fun w => by kernel_rfl), (fun w => by kernel_rfl)⟩, ⟨4622945017495814144, 0, (fun w => by kernel_rfl), (fun w => by kernel_rfl)⟩, ⟨13846317054350589952, 0, (fun w => by kernel_rfl), (fun w => by kernel_rfl)⟩, ⟨13846317054350589952, 0, (fun w => by kernel_rfl), (fun w => by kernel_rfl)⟩⟩
  · exact ⟨4620693217682128896, 0, -1, 1, rfl, rfl, rfl, by decide, by decide, ⟨4620693217682128896, 0, (fun w => by kernel_rfl), (fun w => by kernel_rfl)⟩, ⟨13844065254536904704, 0, (fun w => by kernel_rfl), (fun w => by kernel_rfl)⟩, ⟨4620693217682128896, 0, (fun w => by kernel_rfl), (fun w => by kernel_rfl)⟩, ⟨13844065254536904704, 0, (fun w => by kernel_rfl), (fun w => by kernel_rfl)⟩⟩
  · exact ⟨4619567317775286272, 0, -1, -1, rfl, rfl, rfl, by decide, by decide, ⟨4619567317775286272, 0, (fun w => by kernel_rfl), (fun w => by kernel_rfl)⟩, ⟨13842939354630062080, 0, (fun w => by kernel_rfl), (fun w => by kernel_rfl)⟩, ⟨13842939354630062080, 0, (fun w => by kernel_rfl), (fun w => by kernel_rfl)⟩, ⟨4619567317775286272, 0, (fun w => by kernel_rfl), (fun w => by kernel_rfl)⟩⟩
theorem overY : OverOk ⟨(4630967054332067840, 0), (4622382067542392832, 0), (4613937818241073152, 0), (4607182418800017408, 0)⟩ 4 ⟨(4621819117588971520, 0), (4611686018427387904, 0), (0, 0), (0, 0)⟩ ⟨(4630826316843712512, 0), (4620693217682128896, 0), (0, 0), (0, 0)⟩ false where
 a := ⟨4621959855077326848, 0, (fun w => by kernel_rfl), (fun w => by kernel_rfl), (fun w => by kernel_rfl), (fun w => by kernel_rfl), (fun w => by kernel_rfl)⟩
 b := ⟨4613374868287651840, 0, (fun w => by kernel_rfl), (fun w => by kernel_rfl), (fun w => by kernel_rfl), (fun w => by kernel_rfl), (fun w => by kernel_rfl)⟩
 c := ⟨4604930618986332160, 0, (fun w => by kernel_rfl), (fun w => by kernel_rfl), (fun w => by kernel_rfl), (fun w => by kernel_rfl), (fun w => by kernel_rfl)⟩
 d := ⟨4598175219545276416, 0, (fun w => by kernel_rfl), (fun w => by kernel_rfl), (fun w => by kernel_rfl), (fun w => by kernel_rfl), (fun w => by kernel_rfl)⟩
 eq := (fun w => by kernel_rfl)
def panW : P4 := ⟨(1096810496, 0), (1094713344, 0), (1090519040, 0), (1086324736, 0)⟩
def sumW : Nat → P4 := fun k => match k with | 0 => ⟨(0, 0), (0, 0), (0, 0), (0, 0)⟩ | 1 => ⟨(4624070917402656768, 0), (4622945017495814144, 0), (4620693217682128896, 0), (4618441417868443648, 0)⟩ | _ => ⟨(4628574517030027264, 0), (4627448617123184640, 0), (4625196817309499392, 0), (4622945017495814144, 0)⟩
def conW : Nat → P4 := fun k => match k with | 0 => ⟨(4624070917402656768, 0), (4622945017495814144, 0), (4620693217682128896, 0), (4618441417868443648, 0)⟩ | 1 => ⟨(4624070917402656768, 0), (4622945017495814144, 0), (4620693217682128896, 0), (4618441417868443648, 0)⟩ | _ => ⟨(4624070917402656768, 0), (4622945017495814144, 0), (4620693217682128896, 0), (4618441417868443648, 0)⟩
theorem widW0a : Wid (1096810496, 0) (4624070917402656768, 0) (0, 0) (4624070917402656768, 0) := ⟨(fun w => by kernel_rfl), (fun w => by kernel_rfl)⟩
theorem widW0b : Wid (1094713344, 0) (4622945017495814144, 0) (0, 0) (4622945017495814144, 0) := ⟨(fun w => by kernel_rfl), (fun w => by kernel_rfl)⟩
theorem widW0c : Wid (1090519040, 0) (4620693217682128896, 0) (0, 0) (4620693217682128896, 0) := ⟨(fun w => by kernel_rfl), (fun w => by kernel_rfl)⟩
theorem widW0d : Wid (1086324736, 0) (4618441417868443648, 0) (0, 0) (4618441417868443648, 0) := ⟨(fun w => by kernel_rfl), (fun w => by kernel_rfl)⟩
theorem widW1a : Wid (1096810496, 0) (4624070917402656768, 0) (4624070917402656768, 0) (4628574517030027264, 0) := ⟨(fun w => by kernel_rfl), (fun w => by kernel_rfl)⟩
theorem widW1b : Wid (1094713344, 0) (4622945017495814144, 0) (4622945017495814144, 0) (4627448617123184640, 0) := ⟨(fun w => by kernel_rfl), (fun w => by kernel_rfl)⟩
theorem widW1c : Wid (1090519040, 0) (4620693217682128896, 0) (4620693217682128896, 0) (4625196817309499392, 0) := ⟨(fun w => by kernel_rfl), (fun w => by kernel_rfl)⟩
theorem widW1d : Wid (1086324736, 0) (4618441417868443648, 0) (4618441417868443648, 0) (4622945017495814144, 0) := ⟨(fun w => by kernel_rfl), (fun w => by kernel_rfl)⟩
theorem sumOkW : SumOk [panW, panW] sumW conW where
 zero := rfl
 a := by
   intro k h
   have hk : k = 0 ∨ k = 1 := by simp at h; omega
   rcases hk with rfl | rfl
   · exact widW0a
   · exact widW1a
 b := by
   intro k h
   have hk : k = 0 ∨ k = 1 := by simp at h; omega
   rcases hk with rfl | rfl
   · exact widW0b
   · exact widW1b
 c := by
   intro k h
   have hk : k = 0 ∨ k = 1 := by simp at h; omega
   rcases hk with rfl | rfl
   · exact widW0c
   · exact widW1c
 d := by
   intro k h
   have hk : k = 0 ∨ k = 1 := by simp at h; omega
   rcases hk with rfl | rfl
   · exact widW0d
   · exact widW1d
theorem overAW : OverOk ⟨(4628574517030027264, 0), (4627448617123184640, 0), (4625196817309499392, 0), (4622945017495814144, 0)⟩ 2 ⟨(4624070917402656768, 0), (4622945017495814144, 0), (4620693217682128896, 0), (4618441417868443648, 0)⟩ ⟨(4628574517030027264, 0), (4627448617123184640, 0), (4625196817309499392, 0), (4622945017495814144, 0)⟩ true where
 a := ⟨4624070917402656768, 0, (fun w => by kernel_rfl), (fun w => by kernel_rfl), (fun w => by kernel_rfl), (fun w => by kernel_rfl), (fun w => by kernel_rfl)⟩
 b := ⟨4622945017495814144, 0, (fun w => by kernel_rfl), (fun w => by kernel_rfl), (fun w => by kernel_rfl), (fun w => by kernel_rfl), (fun w => by kernel_rfl)⟩
 c := ⟨4620693217682128896, 0, (fun w => by kernel_rfl), (fun w => by kernel_rfl), (fun w => by kernel_rfl), (fun w => by kernel_rfl), (fun w => by kernel_rfl)⟩
 d := ⟨4618441417868443648, 0, (fun w => by kernel_rfl), (fun w => by kernel_rfl), (fun w => by kernel_rfl), (fun w => by kernel_rfl), (fun w => by kernel_rfl)⟩
 eq := (fun w => by kernel_rfl)
def parW : Nat → P4 := fun k => match k with | 0 => ⟨(0, 0), (0, 0), (0, 0), (0, 0)⟩ | 1 => ⟨(4624070917402656768, 0), (4624070917402656768, 0), (4624070917402656768, 0), (4624070917402656768, 0)⟩ | 2 => ⟨(4628011567076605952, 0), (4628011567076605952, 0), (4611686018427387904, 0), (4611686018427387904, 0)⟩ | 3 => ⟨(4629981891913580544, 0), (4625759767262920704, 0), (4621819117588971520, 0), (13841813454723219456, 0)⟩ | _ => ⟨(4630826316843712512, 0), (4622945017495814144, 0), (4616189618054758400, 0), (0, 0)⟩
theorem partOkW : PartOk ⟨(4624070917402656768, 0), (4622945017495814144, 0), (4620693217682128896, 0), (4618441417868443648, 0)⟩ parW where
 zero := rfl
 at' := by
  intro t ht
  have hk : t = 0 ∨ t = 1 ∨ t = 2 ∨ t = 3 := by omega
  rcases hk with rfl | rfl | rfl | rfl
  · exact ⟨4624070917402656768, 0, 1, 1, rfl, rfl, rfl, by decide, by decide, ⟨4624070917402656768, 0, (fun w => by kernel_rfl), (fun w => by kernel_rfl)⟩, ⟨4624070917402656768, 0, (fun w => by kernel_rfl), (fun w => by kernel_rfl)⟩, ⟨4624070917402656768, 0, (fun w => by kernel_rfl), (fun w => by kernel_rfl)⟩, ⟨4624070917402656768, 0, (fun w => by kernel_rfl), (fun w => by kernel_rfl)⟩⟩
  · exact ⟨4622945017495814144, 0, 1, -1, rfl, rfl, rfl, by decide, by decide, ⟨4622945017495814144, 0, (fun w => by kernel_rfl), (fun w => by kernel_rfl)⟩, ⟨4622945017495814144, 0, (fun w => by kernel_rfl), (fun w => by kernel_rfl)⟩, ⟨13846317054350589952, 0, (fun w => by kernel_rfl), (fun w => by kernel_rfl)⟩, ⟨13846317054350589952, 0, (fun w => by kernel_rfl), (fun w => by kernel_rfl)⟩⟩
  · exact ⟨4620693217682128896, 0, -1, 1, rfl, rfl, rfl, by decide, by decide, ⟨4620693217682128896, 0, (fun w => by kernel_rfl), (fun w => by kernel_rfl)⟩, ⟨13844065254536904704, 0, (fun w => by kernel_rfl), (fun w => by kernel_rfl)⟩, ⟨4620693217682128896, 0, (fun w => by kernel_rfl), (fun w => by kernel_rfl)⟩, ⟨13844065254536904704, 0, (fun w => by kernel_rfl), (fun w => by kernel_rfl)⟩⟩
  · exact ⟨4618441417868443648, 0, -1, -1, rfl, rfl, rfl, by decide, by decide, ⟨4618441417868443648, 0, (fun w => by kernel_rfl), (fun w => by kernel_rfl)⟩, ⟨13841813454723219456, 0, (fun w => by kernel_rfl), (fun w => by kernel_rfl)⟩, ⟨13841813454723219456, 0, (fun w => by kernel_rfl), (fun w => by kernel_rfl)⟩, ⟨4618441417868443648, 0, (fun w => by kernel_rfl), (fun w => by kernel_rfl)⟩⟩
theorem overW : OverOk ⟨(4630826316843712512, 0), (4622945017495814144, 0), (4616189618054758400, 0), (0, 0)⟩ 4 ⟨(4621819117588971520, 0), (4613937818241073152, 0), (4607182418800017408, 0), (0, 0)⟩ ⟨(4630826316843712512, 0), (4622945017495814144, 0), (4616189618054758400, 0), (0, 0)⟩ true where
 a := ⟨4621819117588971520, 0, (fun w => by kernel_rfl), (fun w => by kernel_rfl), (fun w => by kernel_rfl), (fun w => by kernel_rfl), (fun w => by kernel_rfl)⟩
 b := ⟨4613937818241073152, 0, (fun w => by kernel_rfl), (fun w => by kernel_rfl), (fun w => by kernel_rfl), (fun w => by kernel_rfl), (fun w => by kernel_rfl)⟩
 c := ⟨4607182418800017408, 0, (fun w => by kernel_rfl), (fun w => by kernel_rfl), (fun w => by kernel_rfl), (fun w => by kernel_rfl), (fun w => by kernel_rfl)⟩
 d := ⟨0, 0, (fun w => by kernel_rfl), (fun w => by kernel_rfl), (fun w => by kernel_rfl), (fun w => by kernel_rfl), (fun w => by kernel_rfl)⟩
 eq := (fun w => by kernel_rfl)
set_option maxRecDepth 100000
set_option maxHeartbeats 1000000
theorem eLit0 : E 0 0 := by
 have h : FloatKind.f64.nearest 0 = 0 := by kernel_rfl
 rw [← h]; exact E.near (by decide)
theorem eLit1 : E 4607182418800017408 1 := by
 have h : FloatKind.f64.nearest 1 = 4607182418800017408 := by kernel_rfl
 rw [← h]; exact E.near (by decide)
theorem eLit2 : E 4611686018427387904 2 := by
 have h : FloatKind.f64.nearest 2 = 4611686018427387904 := by kernel_rfl
 rw [← h]; exact E.near (by decide)
theorem eLit3 : E 4613937818241073152 3 := by
 have h : FloatKind.f64.nearest 3 = 4613937818241073152 := by kernel_rfl
 rw [← h]; exact E.near (by decide)
theorem eLit10 : E 4621819117588971520 10 := by
 have h : FloatKind.f64.nearest 10 = 4621819117588971520 := by kernel_rfl
 rw [← h]; exact E.near (by decide)
theorem eLit11 : E 4622382067542392832 11 := by
 have h : FloatKind.f64.nearest 11 = 4622382067542392832 := by kernel_rfl
 rw [← h]; exact E.near (by decide)
theorem par4X : (parX 4).L64.toArray = #[.complex .f64 4631389266797133824 0, .complex .f64 4620693217682128896 0, .complex .f64 0 0, .complex .f64 4616189618054758400 0] := rfl
theorem par4Y : (parY 4).L64.toArray = #[.complex .f64 4630967054332067840 0, .complex .f64 4622382067542392832 0, .complex .f64 4613937818241073152 0, .complex .f64 4607182418800017408 0] := rfl
theorem par4W : (parW 4).L64.toArray = #[.complex .f64 4630826316843712512 0, .complex .f64 4622945017495814144 0, .complex .f64 4616189618054758400 0, .complex .f64 0 0] := rfl
theorem sumLX : (sumX 1).L64.toArray = #[.complex .f64 4624070917402656768 0, .complex .f64 4622945017495814144 0, .complex .f64 4620693217682128896 0, .complex .f64 4621819117588971520 0] := rfl
theorem sumLY : (sumY 1).L64.toArray = #[.complex .f64 4624070917402656768 0, .complex .f64 4622945017495814144 0, .complex .f64 4620693217682128896 0, .complex .f64 4619567317775286272 0] := rfl
theorem sumLW : (sumW 2).L64.toArray = #[.complex .f64 4628574517030027264 0, .complex .f64 4627448617123184640 0, .complex .f64 4625196817309499392 0, .complex .f64 4622945017495814144 0] := rfl
theorem rcvX (w : World) : Calls Tryz.prog 49 #[.agg #[.complex .f64 4624070917402656768 0, .complex .f64 4622945017495814144 0, .complex .f64 4620693217682128896 0, .complex .f64 4621819117588971520 0]] w fun e w' => e = .returned (.tuple #[.agg #[.int .i64 11, .int .i64 0, .int .i64 2, .int .i64 0, .int .i64 0, .int .i64 0], .agg #[.int .i64 1, .int .i64 0], .int .i64 0]) ∧ Below w.heap.size w w' :=
 received_by 4624070917402656768 0 4622945017495814144 0 4620693217682128896 0 4621819117588971520 0 4622382067542392832 0 4611686018427387904 0 0 0 4607182418800017408 0 #[.complex .f64 4631389266797133824 0, .complex .f64 4620693217682128896 0, .complex .f64 0 0, .complex .f64 4616189618054758400 0] 11 0 2 0 0 0 11 0 2 0 0 0 1 0 w (fun W => by have h := parted_by _ parX W partOkX; rw [par4X] at h; exact h) (fun W => by have h := over_by _ 4 _ _ true W overX; exact h) (fun W => gauss_any 4622382067542392832 0 11 0 W ⟨eLit11, eLit0, by decide, by decide⟩ (by decide) (by decide)) (fun W => gauss_any 4611686018427387904 0 2 0 W ⟨eLit2, eLit0, by decide, by decide⟩ (by decide) (by decide)) (fun W => gauss_any 0 0 0 0 W ⟨eLit0, eLit0, by decide, by decide⟩ (by decide) (by decide)) (fun W => gauss_any 4607182418800017408 0 1 0 W ⟨eLit1, eLit0, by decide, by decide⟩ (by decide) (by decide)) (fun W => result_ok 11 0 2 0 0 0 W (by decide))
theorem rcvW (w : World) : Calls Tryz.prog 49 #[.agg #[.complex .f64 4624070917402656768 0, .complex .f64 4622945017495814144 0, .complex .f64 4620693217682128896 0, .complex .f64 4618441417868443648 0]] w fun e w' => e = .returned (.tuple #[.agg #[.int .i64 10, .int .i64 0, .int .i64 3, .int .i64 0, .int .i64 1, .int .i64 0], .agg #[.int .i64 0, .int .i64 0], .int .i64 0]) ∧ Below w.heap.size w w' :=
 received_by 4624070917402656768 0 4622945017495814144 0 4620693217682128896 0 4618441417868443648 0 4621819117588971520 0 4613937818241073152 0 4607182418800017408 0 0 0 #[.complex .f64 4630826316843712512 0, .complex .f64 4622945017495814144 0, .complex .f64 4616189618054758400 0, .complex .f64 0 0] 10 0 3 0 1 0 10 0 3 0 1 0 0 0 w (fun W => by have h := parted_by _ parW W partOkW; rw [par4W] at h; exact h) (fun W => by have h := over_by _ 4 _ _ true W overW; exact h) (fun W => gauss_any 4621819117588971520 0 10 0 W ⟨eLit10, eLit0, by decide, by decide⟩ (by decide) (by decide)) (fun W => gauss_any 4613937818241073152 0 3 0 W ⟨eLit3, eLit0, by decide, by decide⟩ (by decide) (by decide)) (fun W => gauss_any 4607182418800017408 0 1 0 W ⟨eLit1, eLit0, by decide, by decide⟩ (by decide) (by decide)) (fun W => gauss_any 0 0 0 0 W ⟨eLit0, eLit0, by decide, by decide⟩ (by decide) (by decide)) (fun W => result_ok 10 0 3 0 1 0 W (by decide))
theorem rcvY (w : World) : Calls Tryz.prog 49 #[.agg #[.complex .f64 4624070917402656768 0, .complex .f64 4622945017495814144 0, .complex .f64 4620693217682128896 0, .complex .f64 4619567317775286272 0]] w fun e w' => e = .returned (.tuple #[.agg #[.int .i64 0, .int .i64 0, .int .i64 0, .int .i64 0, .int .i64 0, .int .i64 0], .agg #[.int .i64 0, .int .i64 0], .int .i64 2]) ∧ Below w.heap.size w w' :=
 received_shape 4624070917402656768 0 4622945017495814144 0 4620693217682128896 0 4619567317775286272 0 4621819117588971520 0 4611686018427387904 0 0 0 0 0 #[.complex .f64 4630967054332067840 0, .complex .f64 4622382067542392832 0, .complex .f64 4613937818241073152 0, .complex .f64 4607182418800017408 0] w (fun W => by have h := parted_by _ parY W partOkY; rw [par4Y] at h; exact h) (fun W => by have h := over_by _ 4 _ _ false W overY; exact h)
theorem recvX (w : World) : Calls Tryz.prog 9 #[.agg #[.complex .f32 1096810496 0, .complex .f32 1094713344 0, .complex .f32 1090519040 0, .complex .f32 1092616192 0]] w fun e w' => e = .returned (.tuple #[.agg #[.int .i64 11, .int .i64 0, .int .i64 2, .int .i64 0, .int .i64 0, .int .i64 0], .agg #[.int .i64 1, .int .i64 0], .int .i64 0]) ∧ Below w.heap.size w w' :=
 received_top panX sumX conX 11 0 2 0 0 0 1 0 0 w (fun W => checkPanel_by (1096810496, 0) (1094713344, 0) (1090519040, 0) (1092616192, 0) W cel14 cel12 cel8 cel10) sumOkX (fun W => by rw [sumLX]; exact rcvX W)
theorem recvY (w : World) : Calls Tryz.prog 9 #[.agg #[.complex .f32 1096810496 0, .complex .f32 1094713344 0, .complex .f32 1090519040 0, .complex .f32 1088421888 0]] w fun e w' => e = .returned (.tuple #[.agg #[.int .i64 0, .int .i64 0, .int .i64 0, .int .i64 0, .int .i64 0, .int .i64 0], .agg #[.int .i64 0, .int .i64 0], .int .i64 2]) ∧ Below w.heap.size w w' :=
 received_top panY sumY conY 0 0 0 0 0 0 0 0 2 w (fun W => checkPanel_by (1096810496, 0) (1094713344, 0) (1090519040, 0) (1088421888, 0) W cel14 cel12 cel8 cel7) sumOkY (fun W => by rw [sumLY]; exact rcvY W)
theorem avgW (A : Option Addr) (c : Nat) (w : World) (hA : Rd w A (panC [panW, panW])) : Calls Tryz.prog 12 #[.slice A 2 c] w fun e w' => e = .returned (.tuple #[.agg #[.int .i64 10, .int .i64 0, .int .i64 3, .int .i64 0, .int .i64 1, .int .i64 0], .agg #[.int .i64 0, .int .i64 0], .int .i64 0]) ∧ Below w.heap.size w w' :=
 averaged_top A 2 c #[.complex .f64 4628574517030027264 0, .complex .f64 4627448617123184640 0, .complex .f64 4625196817309499392 0, .complex .f64 4622945017495814144 0] 4624070917402656768 0 4622945017495814144 0 4620693217682128896 0 4618441417868443648 0 10 0 3 0 1 0 0 0 0 w (by decide) (fun W hW => checkSomeP_any A c 2 0 47 #[] W (by decide) (fun W' hW' => checkListP_any A c [panW, panW] (fun _ => 0) 47 #[] W' ((hA.below hW).below hW') (by decide) (fun k hk V _ => by
  rw [Array.append_empty]
  have h := checkPanel_by (1096810496, 0) (1094713344, 0) (1090519040, 0) (1086324736, 0) V cel14 cel12 cel8 cel6
  have hk2 : k = 0 ∨ k = 1 := by simp at hk; omega
  rcases hk2 with rfl | rfl
  · exact h
  · exact h) (enters_of Tryz.func47 (by kernel_rfl) rfl))) (fun W hW => by rw [← sumLW]; exact sumOf_by A c [panW, panW] sumW conW W (hA.below hW) (by decide) sumOkW) (fun W _ => by have h := over_by _ 2 _ _ true W overAW; exact h) (fun W _ => rcvW W)
set_option maxRecDepth 100000
set_option maxHeartbeats 2000000
theorem butR {a c : World} (h : a.grownBy c none) (row : Option Nat) : a.grownBy c row := ⟨h.os, h.tape, h.output, h.size, fun i hi _ => h.block i hi (by simp)⟩
theorem signalOf_any (r : Nat) (a b c d x y : Int) (w : World) (hr : Row w r 3 [.int .i64 a, .int .i64 b, .int .i64 c, .int .i64 d, .int .i64 x, .int .i64 y]) : Calls Tryz.prog 58 #[.slice (some ⟨r, 0, none⟩) 6 6] w fun e w' => e = .returned (.agg #[.int .i64 a, .int .i64 b, .int .i64 c, .int .i64 d, .int .i64 x, .int .i64 y]) ∧ Below w.heap.size w w' := by
 have hlr := hr.lt
 go_enter Tryz.func58, Tryz.ntmps58
 go_upto_region 1 with fail
 refine genT (fun V => Row V (w.heap.size) 35 [.int .i64 0, .int .i64 0, .int .i64 0, .int .i64 0, .int .i64 0, .int .i64 0] ∧ Row V r 3 [.int .i64 a, .int .i64 b, .int .i64 c, .int .i64 d, .int .i64 x, .int .i64 y] ∧ Below w.heap.size w V) ⟨(rowAt _ _ (by first | rfl | simp only [World.size_alloc])), hr.old ((Below.refl _ _).alloc (by first | exact Nat.le_refl _ | (simp only [World.size_alloc]; omega)) _), ((Below.refl _ _).alloc (by first | exact Nat.le_refl _ | (simp only [World.size_alloc]; omega)) _)⟩ ?_
 intro W1 s1
 have HS1 : Hid (RowN W1 (w.heap.size) 35 6 ∧ Row W1 r 3 [.int .i64 a, .int .i64 b, .int .i64 c, .int .i64 d, .int .i64 x, .int .i64 y] ∧ Below w.heap.size w W1) := ⟨⟨_, rfl, s1.1⟩, s1.2.1, s1.2.2⟩
 clear s1
 refine wp_region_held_drew (S := fun V => RowN V (w.heap.size) 35 6 ∧ Row V r 3 [.int .i64 a, .int .i64 b, .int .i64 c, .int .i64 d, .int .i64 x, .int .i64 y] ∧ Below w.heap.size w V) (by kernel_rfl) ?_ (fun hHeld => ?_)
 · exact ⟨(HS1.out.1).drew, (HS1.out.2.1).drew, (HS1.out.2.2).drew⟩
 refine ta 0 3 hHeld ?_
 try simp only [zz]
 refine ta 1 4 hHeld ?_
 try simp only [zz]
 refine tk 2 5 ?_ rfl (by kernel_rfl) (fun _ _ _ h => h) (by kernel_rfl) ?_ hHeld ?_
 rotate_left
 · intro w1 hSw; (try dsimp only at hSw); have cc := (hSw.2.1).cell 0; simp only [List.getElem?_cons_succ, List.getElem?_cons_zero] at cc; go_simp <;> with_reducible rfl
 try simp only [zz]
 refine ta 3 6 hHeld ?_
 try simp only [zz]
 refine ta 4 7 hHeld ?_
 try simp only [zz]
 refine tk 5 8 ?_ rfl (by kernel_rfl) (fun _ _ _ h => h) (by kernel_rfl) ?_ hHeld ?_
 rotate_left
 · intro w1 hSw; (try dsimp only at hSw); have cc := (hSw.2.1).cell 1; simp only [List.getElem?_cons_succ, List.getElem?_cons_zero] at cc; go_simp <;> with_reducible rfl
 try simp only [zz]
 refine ta 6 9 hHeld ?_
 try simp only [zz]
 refine ta 7 10 hHeld ?_
 try simp only [zz]
 refine ta 8 11 hHeld ?_
 try simp only [zz]
 refine tk 9 12 ?_ rfl (by kernel_rfl) (fun _ _ _ h => h) (by kernel_rfl) ?_ hHeld ?_
 rotate_left
 · intro w1 hSw; (try dsimp only at hSw); have cc := (hSw.2.1).cell 2; simp only [List.getElem?_cons_succ, List.getElem?_cons_zero] at cc; go_simp <;> with_reducible rfl
 try simp only [zz]
 refine ta 10 13 hHeld ?_
 try simp only [zz]
 refine ta 11 14 hHeld ?_
 try simp only [zz]
 refine tk 12 15 ?_ rfl (by kernel_rfl) (fun _ _ _ h => h) (by kernel_rfl) ?_ hHeld ?_
 rotate_left
 · intro w1 hSw; (try dsimp only at hSw); have cc := (hSw.2.1).cell 3; simp only [List.getElem?_cons_succ, List.getElem?_cons_zero] at cc; go_simp <;> with_reducible rfl
 try simp only [zz]
 refine ta 13 16 hHeld ?_
 try simp only [zz]
 refine ta 14 17 hHeld ?_
 try simp only [zz]
 refine ta 15 18 hHeld ?_
 try simp only [zz]
 refine tk 16 19 ?_ rfl (by kernel_rfl) (fun _ _ _ h => h) (by kernel_rfl) ?_ hHeld ?_
 rotate_left
 · intro w1 hSw; (try dsimp only at hSw); have cc := (hSw.2.1).cell 4; simp only [List.getElem?_cons_succ, List.getElem?_cons_zero] at cc; go_simp <;> with_reducible rfl
 try simp only [zz]
 refine ta 17 20 hHeld ?_
 try simp only [zz]
 refine ta 18 21 hHeld ?_
 try simp only [zz]
 refine tk 19 22 ?_ rfl (by kernel_rfl) (fun _ _ _ h => h) (by kernel_rfl) ?_ hHeld ?_
 rotate_left
 · intro w1 hSw; (try dsimp only at hSw); have cc := (hSw.2.1).cell 5; simp only [List.getElem?_cons_succ, List.getElem?_cons_zero] at cc; go_simp <;> with_reducible rfl
 try simp only [zz]
 refine ta 20 23 hHeld ?_
 try simp only [zz]
 refine ta 21 24 hHeld ?_
 try simp only [zz]
 refine st2 22 (fun K hK => ?_)
 obtain ⟨vs, hvl, hvr⟩ := (hHeld.1)
 have hLast := hHeld
 refine step_store_row rfl 35 _ _ rfl (w.heap.size) [.int .i64 a, .int .i64 b, .int .i64 c, .int .i64 d, .int .i64 x, .int .i64 y] rfl rfl 35 vs hvr (by kernel_rfl) hvl (by simp [Value.oneCell']) ?_
 refine hK.out _ _ ?_ (fun hHeld => ?_)
 · exact ⟨⟨_, rfl, hvr.setRow _⟩, (hHeld.2.1).farRow (by omega) _, Below.setRow hHeld.2.2 (by omega) _⟩
 clear hK K
 try simp only [zz]
 refine wpAnyH_done (by kernel_rfl) ?_ _
 go_wp2_with fail
 refine bodyPost_ret (results_rowA rfl _ _ (w.heap.size) 35 #[.int .i64 a, .int .i64 b, .int .i64 c, .int .i64 d, .int .i64 x, .int .i64 y] (0, 0) _ rfl (hvr.setRow [.int .i64 a, .int .i64 b, .int .i64 c, .int .i64 d, .int .i64 x, .int .i64 y]) Tryz.underlying35 rfl (by kernel_rfl)) rfl ⟨rfl, Below.setRow hLast.2.2 (by omega) _⟩
def sgW (ws : List ByteArray) : Sg := ⟨intV (headW (ws.drop 0)).data.toList, intV (headW (ws.drop 1)).data.toList, intV (headW (ws.drop 2)).data.toList, intV (headW (ws.drop 3)).data.toList, intV (headW (ws.drop 4)).data.toList, intV (headW (ws.drop 5)).data.toList⟩
def okW (ws : List ByteArray) : Bool := oksI 6 ws.tail && ((headW ws).toList == wSig.toList)
theorem valsI_six (ws : List ByteArray) : ints (valsI 6 ws) = [.int .i64 (sgW ws).a, .int .i64 (sgW ws).b, .int .i64 (sgW ws).c, .int .i64 (sgW ws).d, .int .i64 (sgW ws).x, .int .i64 (sgW ws).y] := rfl
theorem rowGr (W : World) (q : Nat) (cs : Array Value) : W.grownBy (W.setRow q cs) (some q) := ⟨rfl, rfl, rfl, by simp, fun j _ hj => setRow_other _ _ _ _ (fun e => hj (by rw [e]))⟩
theorem lineSg_any (w0 : World) (lb g bn be bw : Nat) (AL ws : List ByteArray) (w : World) (h : WdI lb AL g ws w) (hm : ws.length ≤ 100000) (hn : Row w bn 3 [.int .i64 6]) (he : Row w be 137 [.func (.func 58) #[] #[]]) (hw : Row w bw 9 [.string wSig]) (hb0 : Below w0.heap.size w0 w) (hg0 : w0.heap.size ≤ g) :
 Calls Tryz.prog 115 #[.pointer (some ⟨g, 0, none⟩), .pointer (some ⟨bn, 0, none⟩), .pointer (some ⟨be, 0, none⟩), .pointer (some ⟨bw, 0, none⟩)] w fun e w' => e = .returned (.tuple #[.agg (sgW ws.tail).L.toArray, .bool (okW ws)]) ∧ WdI lb AL g (ws.tail.drop 6) w' ∧ w.grownBy w' (some g) ∧ Below w0.heap.size w0 w' := by
 have hl1 := hn.lt; have hl2 := he.lt; have hl3 := hw.lt; have hl4 := h.lt; have hl5 := hb0.size
 have hgn : g ≠ bn := by
  obtain ⟨-, rb, off, c, all, h1, -⟩ := h; exact h1.ne hn (by decide)
 have hge : g ≠ be := by
  obtain ⟨-, rb, off, c, all, h1, -⟩ := h; exact h1.ne he (by decide)
 have hgw : g ≠ bw := by
  obtain ⟨-, rb, off, c, all, h1, -⟩ := h; exact h1.ne hw (by decide)
 have HA0 : Hid (Below w.heap.size w (w.alloc (.cells #[.int .i64 0, .int .i64 0, .int .i64 0, .int .i64 0, .int .i64 0, .int .i64 0] 35))) := (Below.refl _ _).alloc (Nat.le_refl _) _
 have HNX := Lib.hid (next_any g ws _ (h.old HA0.out) (by omega))
 have HWN := Lib.hid (hn.old HA0.out); have HWE := Lib.hid (he.old HA0.out); have HWW := Lib.hid (hw.old HA0.out)
 have HB0 := Lib.hid (hb0.trans (HA0.out.mono hl5))
 have HG0 : Hid (w.grownBy _ (some g)) := butR (belowGr2 HA0.out) (some g)
 have HOK0 : okW ws = (oksI 6 ws.tail && ((headW ws).toList == wSig.toList)) := rfl
 rw [show (sgW ws.tail).L.toArray = #[.int .i64 (sgW ws.tail).a, .int .i64 (sgW ws.tail).b, .int .i64 (sgW ws.tail).c, .int .i64 (sgW ws.tail).d, .int .i64 (sgW ws.tail).x, .int .i64 (sgW ws.tail).y] from rfl]
 obtain ⟨⟨a, b, c, d, x, y⟩, hs⟩ : ∃ s, s = sgW ws.tail := ⟨_, rfl⟩
 have HSX := Lib.hid hs
 rw [← hs]
 dsimp only
 obtain ⟨B0, hB0⟩ : ∃ B0, B0 = okW ws := ⟨_, rfl⟩
 rw [← hB0] at HOK0 ⊢
 have HOK := Lib.hid HOK0
 clear hs hB0 HOK0
 have HRZ := Lib.hid (rowAt w w.heap.size (t := 35) (L := [.int .i64 0, .int .i64 0, .int .i64 0, .int .i64 0, .int .i64 0, .int .i64 0]) rfl)
 clear h hn he hw hb0
 go_enter Tryz.func115, Tryz.ntmps115
 go_wp2_with fail
 refine HNX.out.mono ?_
 rintro e w1 ⟨rfl, hw1, hg1⟩
 have n1 := HWN.out.grown hg1 (fun e => hgn (Option.some.inj e).symm)
 have cn := n1.cell 0
 simp only [List.getElem?_cons_zero] at cn
 have H1 : Hid (Row w1 be 137 [.func (.func 58) #[] #[]] ∧ Row w1 bw 9 [.string wSig] ∧ Row w1 w.heap.size 35 [.int .i64 0, .int .i64 0, .int .i64 0, .int .i64 0, .int .i64 0, .int .i64 0] ∧ w.grownBy w1 (some g) ∧ Below w0.heap.size w0 w1) := ⟨HWE.out.grown hg1 (fun e => hge (Option.some.inj e).symm), HWW.out.grown hg1 (fun e => hgw (Option.some.inj e).symm), HRZ.out.grown hg1 (fun e => by have := Option.some.inj e; omega), grT HG0.out hg1 (fun j e => .inr e), HB0.out.grown hg1 HB0.out.size (fun k hk => by cases hk; exact hg0)⟩
 have HIS := Lib.hid (integersW_any lb g 6 AL ws.tail w1 hw1 (by simp; omega) (by omega))
 have hz1 := H1.out.2.2.1.lt
 clear hw1 hg1 n1 HWN HWE HWW HRZ HB0 HG0 HNX HA0
 go_wp2_with fail
 refine HIS.out.mono ?_
 rintro e w2 ⟨rfl, hr2, hw2, hg2⟩
 rw [valsI_six, ← HSX.out] at hr2
 dsimp only at hr2
 obtain ⟨ok, hok⟩ : ∃ ok, ok = oksI 6 ws.tail := ⟨_, rfl⟩
 obtain ⟨hd, hhd⟩ : ∃ hd, hd = headW ws := ⟨_, rfl⟩
 rw [← hok, ← hhd] at HOK ⊢
 have HS2 : Hid (Row w2 (be) 137 [.func (.func 58) #[] #[]] ∧ Row w2 (bw) 9 [.string wSig] ∧ RowN w2 (w.heap.size) 35 6 ∧ WdI lb AL g (ws.tail.drop 6) w2 ∧ w.grownBy w2 (some g) ∧ Row w2 w1.heap.size 3 [.int .i64 a, .int .i64 b, .int .i64 c, .int .i64 d, .int .i64 x, .int .i64 y] ∧ Below w0.heap.size w0 w2) := ⟨H1.out.1.grown hg2 (fun e => hge (Option.some.inj e).symm), H1.out.2.1.grown hg2 (fun e => hgw (Option.some.inj e).symm), ⟨_, rfl, H1.out.2.2.1.grown hg2 (fun e => by have := Option.some.inj e; omega)⟩, hw2, grT H1.out.2.2.2.1 hg2 (fun j e => .inr e), hr2, H1.out.2.2.2.2.grown hg2 H1.out.2.2.2.2.size (fun k hk => by cases hk; exact hg0)⟩
 have hz2 := hr2.lt
 clear hr2 hw2 hg2 H1 HIS hok hhd cn HSX
 cases ok
 · go_upto_region 4 with fail
   refine genT (fun V => Row V (be) 137 [.func (.func 58) #[] #[]] ∧ Row V (bw) 9 [.string wSig] ∧ RowN V (w.heap.size) 35 6 ∧ WdI lb AL g (ws.tail.drop 6) V ∧ w.grownBy V (some g) ∧ Row V w1.heap.size 3 [.int .i64 a, .int .i64 b, .int .i64 c, .int .i64 d, .int .i64 x, .int .i64 y] ∧ Below w0.heap.size w0 V) HS2.out ?_
   intro W3 s3
   have HS3 := Lib.hid s3
   clear s3 HS2
   refine wp_region_held_drew (S := fun V => Row V (be) 137 [.func (.func 58) #[] #[]] ∧ Row V (bw) 9 [.string wSig] ∧ RowN V (w.heap.size) 35 6 ∧ WdI lb AL g (ws.tail.drop 6) V ∧ w.grownBy V (some g) ∧ Row V w1.heap.size 3 [.int .i64 a, .int .i64 b, .int .i64 c, .int .i64 d, .int .i64 x, .int .i64 y] ∧ Below w0.heap.size w0 V) (by kernel_rfl) ?_ (fun hHeld => ?_)
   · exact ⟨(HS3.out.1).drew, (HS3.out.2.1).drew, (HS3.out.2.2.1).drew, (HS3.out.2.2.2.1), ⟨((HS3.out.2.2.2.2.1)).os, ((HS3.out.2.2.2.2.1)).tape, ((HS3.out.2.2.2.2.1)).output, ((HS3.out.2.2.2.2.1)).size, ((HS3.out.2.2.2.2.1)).block⟩, ((HS3.out.2.2.2.2.2.1)).drew, (HS3.out.2.2.2.2.2.2).drew⟩
   refine tk 0 21 ?_ rfl (by kernel_rfl) (fun _ _ _ h => h) (by kernel_rfl) ?_ hHeld ?_
   rotate_left
   · intro w1 hSw; (try dsimp only at hSw); have cc := (hSw.1).cell 0; simp only [List.getElem?_cons_succ, List.getElem?_cons_zero] at cc; go_simp <;> with_reducible rfl
   try simp only [zz]
   refine ta 1 22 hHeld ?_
   try simp only [zz]
   refine ta 3 24 hHeld ?_
   try simp only [zz]
   refine st2 2 (fun K hK => ?_)
   go_simp
   go_at_call 58
   refine (signalOf_any _ a b c d x y _ hHeld.2.2.2.2.2.1).mono ?_
   rintro e v2 ⟨rfl, hb2⟩
   try go_simp
   refine hK.out _ _ ?_ (fun hHeld => ?_)
   · exact ⟨(hHeld.1).old hb2, (hHeld.2.1).old hb2, (hHeld.2.2.1).old hb2, ((hHeld.2.2.2.1)).old hb2, grT (hHeld.2.2.2.2.1) (belowGr2 hb2) (fun j e => by cases e), ((hHeld.2.2.2.2.2.1)).old hb2, (hHeld.2.2.2.2.2.2).trans ((hb2).mono (hHeld.2.2.2.2.2.2).size)⟩
   clear hK K
   try simp only [zz]
   refine ta 4 25 hHeld ?_
   try simp only [zz]
   refine wpAnyH_take (i := 5) (oi := ⟨some 26, _, _, _, _, _⟩) (v := undef) rfl (by kernel_rfl) (by kernel_rfl) (by kernel_rfl) (fun _ _ _ h => h) (Or.inr ⟨by kernel_rfl, rfl⟩) hHeld ?_
   try simp only [zz]
   refine wpAnyH_take (i := 6) (oi := ⟨some 27, _, _, _, _, _⟩) (v := undef) rfl (by kernel_rfl) (by kernel_rfl) (by kernel_rfl) (fun _ _ _ h => h) (Or.inr ⟨by kernel_rfl, rfl⟩) hHeld ?_
   try simp only [zz]
   refine wpAnyH_take (i := 7) (oi := ⟨some 28, _, _, _, _, _⟩) (v := undef) rfl (by kernel_rfl) (by kernel_rfl) (by kernel_rfl) (fun _ _ _ h => h) (Or.inr ⟨by kernel_rfl, rfl⟩) hHeld ?_
   try simp only [zz]
   refine ta 8 29 hHeld ?_
   try simp only [zz]
   refine st2 9 (fun K hK => ?_)
   obtain ⟨vs, hvl, hvr⟩ := (hHeld.2.2.1)
   have hLast := hHeld
   refine step_store_row rfl 35 _ _ rfl (w.heap.size) [.int .i64 a, .int .i64 b, .int .i64 c, .int .i64 d, .int .i64 x, .int .i64 y] rfl rfl 35 vs hvr (by kernel_rfl) hvl (by simp [Value.oneCell']) ?_
   refine hK.out _ _ ?_ (fun hHeld => ?_)
   · exact ⟨(hHeld.1).farRow (by omega) _, (hHeld.2.1).farRow (by omega) _, ⟨_, rfl, hvr.setRow _⟩, (hHeld.2.2.2.1).grown (rowGr _ _ _) (fun j t us hj ht e => by have e2 := Option.some.inj e; subst e2; rcases ht with rfl | rfl <;> exact absurd rfl (hj.ne hvr (by decide))), grT (hHeld.2.2.2.2.1) (rowGr _ _ _) (fun j e => by cases e; exact .inl (Nat.le_refl _)), (hHeld.2.2.2.2.2.1).farRow (by omega) _, Below.setRow (hHeld.2.2.2.2.2.2) (by omega) _⟩
   clear hK K
   try simp only [zz]
   refine ta 10 6 hHeld ?_
   try simp only [zz]
   refine wpAnyH_done (by kernel_rfl) ?_ _
   go_wp2_with fail
   refine bodyPost_ret (results_rt rfl _ _ (w.heap.size) 35 #[.int .i64 a, .int .i64 b, .int .i64 c, .int .i64 d, .int .i64 x, .int .i64 y] (0, 0) _ rfl (hvr.setRow [.int .i64 a, .int .i64 b, .int .i64 c, .int .i64 d, .int .i64 x, .int .i64 y]) Tryz.underlying35 rfl (by kernel_rfl)) rfl ⟨by rw [HOK.out]; rfl, (by have := hHeld.2.2.2.1; simpa using this), hHeld.2.2.2.2.1, hHeld.2.2.2.2.2.2⟩
 · go_upto_region 4 with fail
   refine genT (fun V => Row V (be) 137 [.func (.func 58) #[] #[]] ∧ Row V (bw) 9 [.string wSig] ∧ RowN V (w.heap.size) 35 6 ∧ WdI lb AL g (ws.tail.drop 6) V ∧ w.grownBy V (some g) ∧ Row V w1.heap.size 3 [.int .i64 a, .int .i64 b, .int .i64 c, .int .i64 d, .int .i64 x, .int .i64 y] ∧ Below w0.heap.size w0 V) HS2.out ?_
   intro W3 s3
   have HS3 := Lib.hid s3
   clear s3 HS2
   refine wp_region_held_drew (S := fun V => Row V (be) 137 [.func (.func 58) #[] #[]] ∧ Row V (bw) 9 [.string wSig] ∧ RowN V (w.heap.size) 35 6 ∧ WdI lb AL g (ws.tail.drop 6) V ∧ w.grownBy V (some g) ∧ Row V w1.heap.size 3 [.int .i64 a, .int .i64 b, .int .i64 c, .int .i64 d, .int .i64 x, .int .i64 y] ∧ Below w0.heap.size w0 V) (by kernel_rfl) ?_ (fun hHeld => ?_)
   · exact ⟨(HS3.out.1).drew, (HS3.out.2.1).drew, (HS3.out.2.2.1).drew, (HS3.out.2.2.2.1), ⟨((HS3.out.2.2.2.2.1)).os, ((HS3.out.2.2.2.2.1)).tape, ((HS3.out.2.2.2.2.1)).output, ((HS3.out.2.2.2.2.1)).size, ((HS3.out.2.2.2.2.1)).block⟩, ((HS3.out.2.2.2.2.2.1)).drew, (HS3.out.2.2.2.2.2.2).drew⟩
   refine tk 0 21 ?_ rfl (by kernel_rfl) (fun _ _ _ h => h) (by kernel_rfl) ?_ hHeld ?_
   rotate_left
   · intro w1 hSw; (try dsimp only at hSw); have cc := (hSw.1).cell 0; simp only [List.getElem?_cons_succ, List.getElem?_cons_zero] at cc; go_simp <;> with_reducible rfl
   try simp only [zz]
   refine ta 1 22 hHeld ?_
   try simp only [zz]
   refine ta 3 24 hHeld ?_
   try simp only [zz]
   refine st2 2 (fun K hK => ?_)
   go_simp
   go_at_call 58
   refine (signalOf_any _ a b c d x y _ hHeld.2.2.2.2.2.1).mono ?_
   rintro e v2 ⟨rfl, hb2⟩
   try go_simp
   refine hK.out _ _ ?_ (fun hHeld => ?_)
   · exact ⟨(hHeld.1).old hb2, (hHeld.2.1).old hb2, (hHeld.2.2.1).old hb2, ((hHeld.2.2.2.1)).old hb2, grT (hHeld.2.2.2.2.1) (belowGr2 hb2) (fun j e => by cases e), ((hHeld.2.2.2.2.2.1)).old hb2, (hHeld.2.2.2.2.2.2).trans ((hb2).mono (hHeld.2.2.2.2.2.2).size)⟩
   clear hK K
   try simp only [zz]
   refine ta 4 25 hHeld ?_
   try simp only [zz]
   refine ta 5 26 hHeld ?_
   try simp only [zz]
   refine tk 6 27 ?_ rfl (by kernel_rfl) (fun _ _ _ h => h) (by kernel_rfl) ?_ hHeld ?_
   rotate_left
   · intro w1 hSw; (try dsimp only at hSw); have cc := (hSw.2.1).cell 0; simp only [List.getElem?_cons_succ, List.getElem?_cons_zero] at cc; go_simp <;> with_reducible rfl
   try simp only [zz]
   refine ta 7 28 hHeld ?_
   try simp only [zz]
   refine ta 8 29 hHeld ?_
   try simp only [zz]
   refine st2 9 (fun K hK => ?_)
   obtain ⟨vs, hvl, hvr⟩ := (hHeld.2.2.1)
   have hLast := hHeld
   refine step_store_row rfl 35 _ _ rfl (w.heap.size) [.int .i64 a, .int .i64 b, .int .i64 c, .int .i64 d, .int .i64 x, .int .i64 y] rfl rfl 35 vs hvr (by kernel_rfl) hvl (by simp [Value.oneCell']) ?_
   refine hK.out _ _ ?_ (fun hHeld => ?_)
   · exact ⟨(hHeld.1).farRow (by omega) _, (hHeld.2.1).farRow (by omega) _, ⟨_, rfl, hvr.setRow _⟩, (hHeld.2.2.2.1).grown (rowGr _ _ _) (fun j t us hj ht e => by have e2 := Option.some.inj e; subst e2; rcases ht with rfl | rfl <;> exact absurd rfl (hj.ne hvr (by decide))), grT (hHeld.2.2.2.2.1) (rowGr _ _ _) (fun j e => by cases e; exact .inl (Nat.le_refl _)), (hHeld.2.2.2.2.2.1).farRow (by omega) _, Below.setRow (hHeld.2.2.2.2.2.2) (by omega) _⟩
   clear hK K
   try simp only [zz]
   refine ta 10 6 hHeld ?_
   try simp only [zz]
   refine wpAnyH_done (by kernel_rfl) ?_ _
   go_wp2_with fail
   refine bodyPost_ret (results_rt rfl _ _ (w.heap.size) 35 #[.int .i64 a, .int .i64 b, .int .i64 c, .int .i64 d, .int .i64 x, .int .i64 y] (0, 0) _ rfl (hvr.setRow [.int .i64 a, .int .i64 b, .int .i64 c, .int .i64 d, .int .i64 x, .int .i64 y]) Tryz.underlying35 rfl (by kernel_rfl)) rfl ⟨by rw [HOK.out]; rfl, (by have := hHeld.2.2.2.1; simpa using this), hHeld.2.2.2.2.1, hHeld.2.2.2.2.2.2⟩
theorem newsR {W : World} {q : Nat} {t : TypeId} {vs : List Value} (h : Row W q t vs) (a : Addr) (ha : a = ⟨q, 0, none⟩) : ∀ j u, vs[j]? = some u → W.cell? (a.add j) = some u := fun j u hu => by
 subst ha
 rw [show (⟨q, 0, none⟩ : Addr).add j = ⟨q, j, none⟩ by simp [Addr.add] <;> omega, h.cell]; exact hu
theorem infoSg : (Tryz.prog.info? 35).map (fun i => (i.zero, i.size, i.bytes)) = some (some (.agg #[.int .i64 0, .int .i64 0, .int .i64 0, .int .i64 0, .int .i64 0, .int .i64 0]), 6, 48) := by kernel_rfl
def EaI (w0 : World) (bf bl bn be bw : Nat) (k : Nat) (S : List Sg) (W : World) : Prop :=
 Row W bf 198 [.func (.func 115) #[] #[.pointer (some ⟨bn, 0, none⟩), .pointer (some ⟨be, 0, none⟩), .pointer (some ⟨bw, 0, none⟩)]] ∧ Row W bn 3 [.int .i64 6] ∧ Row W be 137 [.func (.func 58) #[] #[]] ∧ Row W bw 9 [.string wSig] ∧ Below w0.heap.size w0 W ∧ S.length ≤ k ∧ w0.heap.size ≤ bl ∧ ∃ v, Row W bl 45 [v] ∧ W.ownsRow w0.heap.size 35 6 v S.length (sgC S)
theorem EaI.old {w0 : World} {bf bl bn be bw k : Nat} {S : List Sg} {W W' : World} (h : EaI w0 bf bl bn be bw k S W) (hb : Below W.heap.size W W') : EaI w0 bf bl bn be bw k S W' := by
 obtain ⟨h1, h2, h3, h4, h5, h6, h7, v, h8, h9⟩ := h
 exact ⟨h1.old hb, h2.old hb, h3.old hb, h4.old hb, h5.trans (hb.mono h5.size), h6, h7, v, h8.old hb, owns_below h9 hb⟩
theorem EaI.next {w0 : World} {bf bl bn be bw k g : Nat} {S : List Sg} {W W' : World} {us : List Value} (h : EaI w0 bf bl bn be bw k S W) (hw : Row W g 225 us) (hg0 : w0.heap.size ≤ g) (hg : W.grownBy W' (some g)) : EaI w0 bf bl bn be bw k S W' := by
 obtain ⟨h1, h2, h3, h4, h5, h6, h7, v, h8, h9⟩ := h
 exact ⟨h1.grown hg (fun e => h1.ne hw (by decide) (Option.some.inj e)), h2.grown hg (fun e => h2.ne hw (by decide) (Option.some.inj e)), h3.grown hg (fun e => h3.ne hw (by decide) (Option.some.inj e)), h4.grown hg (fun e => h4.ne hw (by decide) (Option.some.inj e)), h5.grown hg h5.size (fun k hk => by cases hk; exact hg0), h6, h7, v, h8.grown hg (fun e => h8.ne hw (by decide) (Option.some.inj e)), h9.kept hg (own_ne hw h9 (by decide))⟩
theorem sgC_snoc (S : List Sg) (s : Sg) : sgC (S ++ [s]) = sgC S ++ s.L := by simp [sgC]
def eaS (k : Nat) (S : List Sg) (ws : List ByteArray) : Bool × List Sg × List ByteArray := (okW ws, S ++ [sgW ws.tail], ws.tail.drop 6)
theorem EaI.app {w0 : World} {bf bl bn be bw k : Nat} {S : List Sg} {s : Sg} {W W1 : World} {o : Obj} {v v' : Value} (h1 : Row W bf 198 [.func (.func 115) #[] #[.pointer (some ⟨bn, 0, none⟩), .pointer (some ⟨be, 0, none⟩), .pointer (some ⟨bw, 0, none⟩)]]) (h2 : Row W bn 3 [.int .i64 6]) (h3 : Row W be 137 [.func (.func 58) #[] #[]]) (h4 : Row W bw 9 [.string wSig]) (h5 : Below w0.heap.size w0 W) (h6 : S.length ≤ k) (h7 : w0.heap.size ≤ bl) (h8 : Row W bl 45 [v]) (h9 : W.ownsRow w0.heap.size 35 6 v S.length (sgC S)) (hsz : w0.heap.size ≤ W.heap.size)
 (hg : (W.alloc o).grownBy W1 v.ownBlock) (ho : W1.ownsRow w0.heap.size 35 6 v' (S.length + 1) (sgC S ++ s.L)) : EaI w0 bf bl bn be bw (k + 1) (S ++ [s]) (W1.setCell ⟨bl, 0, none⟩ v') := by
 have a8 := grew_row h8 h9 hg (by decide)
 have hgr := setGr W1 bl 0 v'
 have g1 := grew_row h1 h9 hg (by decide)
 have g2 := grew_row h2 h9 hg (by decide)
 have g3 := grew_row h3 h9 hg (by decide)
 have g4 := grew_row h4 h9 hg (by decide)
 refine ⟨g1.grown hgr (fun e => g1.ne a8 (by decide) (Option.some.inj e)), g2.grown hgr (fun e => g2.ne a8 (by decide) (Option.some.inj e)), g3.grown hgr (fun e => g3.ne a8 (by decide) (Option.some.inj e)), g4.grown hgr (fun e => g4.ne a8 (by decide) (Option.some.inj e)), (Below.app h5 hsz h9 hg).setCell h7 _, by simpa using h6, h7, v', a8.set 0 v', ?_⟩
 rw [sgC_snoc, List.length_append]
 exact ho.kept hgr (own_ne a8 ho (by decide))
set_option maxRecDepth 100000 in
set_option maxHeartbeats 2000000 in
theorem each1_any (w0 : World) (bf bl bn be bw : Nat) (k : Nat) (S : List Sg) (ws : List ByteArray) (w : World) (g lb : Nat) (AL : List ByteArray) (hI : EaI w0 bf bl bn be bw k S w) (h : WdI lb AL g ws w) (hm : ws.length ≤ 10000) (hk : k ≤ 5000) (hg0 : w0.heap.size ≤ g) :
 Calls Tryz.prog 148 #[.int .i64 (k : Int), .pointer (some ⟨g, 0, none⟩), .pointer (some ⟨bf, 0, none⟩), .pointer (some ⟨bl, 0, none⟩)] w fun e w' => e = .returned (.bool (eaS k S ws).1) ∧ EaI w0 bf bl bn be bw (k + 1) (eaS k S ws).2.1 w' ∧ WdI lb AL g (eaS k S ws).2.2 w' := by
 have HRD := Lib.hid (lineSg_any w0 lb g bn be bw AL ws w h (by omega) hI.2.1 hI.2.2.1 hI.2.2.2.1 hI.2.2.2.2.1 hg0)
 have HIN : Hid (∀ W', w.grownBy W' (some g) → EaI w0 bf bl bn be bw k S W') := by
  obtain ⟨-, rb, off, c, all, h1, -⟩ := h
  exact fun W' hg => hI.next h1 hg0 hg
 have c0 := hI.1.cell 0
 simp only [List.getElem?_cons_zero] at c0
 unfold eaS
 dsimp only
 rw [show (sgW ws.tail).L.toArray = #[.int .i64 (sgW ws.tail).a, .int .i64 (sgW ws.tail).b, .int .i64 (sgW ws.tail).c, .int .i64 (sgW ws.tail).d, .int .i64 (sgW ws.tail).x, .int .i64 (sgW ws.tail).y] from rfl] at HRD
 obtain ⟨s, hs⟩ : ∃ s, s = sgW ws.tail := ⟨_, rfl⟩
 obtain ⟨ok, hok⟩ : ∃ ok, ok = okW ws := ⟨_, rfl⟩
 obtain ⟨wt, hwt⟩ : ∃ wt, wt = ws.tail.drop 6 := ⟨_, rfl⟩
 rw [← hs, ← hok, ← hwt] at HRD ⊢
 clear hI h hs hok hwt
 obtain ⟨im, hmi, him0, him1, him2⟩ := info_parts infoSg
 have him3 : (Value.agg #[.int .i64 0, .int .i64 0, .int .i64 0, .int .i64 0, .int .i64 0, .int .i64 0]).cells.size = 6 := rfl
 go_enter Tryz.func148, Tryz.ntmps148
 go_wp2_with fail
 refine HRD.out.mono ?_
 rintro e w1 ⟨rfl, hw1, hg1, hb1⟩
 obtain ⟨h1, h2, h3, h4, h5, h6, h7, v, h8, h9⟩ := HIN.out w1 hg1
 have HA0 : Hid (Below w1.heap.size w1 (w1.alloc (.cells #[.int .i64 s.a, .int .i64 s.b, .int .i64 s.c, .int .i64 s.d, .int .i64 s.x, .int .i64 s.y] 35))) := (Below.refl _ _).alloc (Nat.le_refl _) _
 have hsz := h5.size
 have K1 := Lib.hid (h1.old HA0.out); have K2 := Lib.hid (h2.old HA0.out); have K3 := Lib.hid (h3.old HA0.out); have K4 := Lib.hid (h4.old HA0.out); have K5 := Lib.hid (h5.trans (HA0.out.mono hsz)); have K8 := Lib.hid (h8.old HA0.out); have K9 := Lib.hid (owns_below h9 HA0.out); have KW := Lib.hid (hw1.old HA0.out)
 have cl := K8.out.cell 0
 simp only [List.getElem?_cons_zero] at cl
 have hr0 := Row.new w1 35 [.int .i64 s.a, .int .i64 s.b, .int .i64 s.c, .int .i64 s.d, .int .i64 s.x, .int .i64 s.y]
 clear hw1 hg1 hb1 h1 h2 h3 h4 h5 h8 h9 HRD HIN c0
 go_wp2_with (at_builtin; refine wpList_append_own_at _ rfl _ _ 45 rfl w0.heap.size 35 im (.agg #[.int .i64 0, .int .i64 0, .int .i64 0, .int .i64 0, .int .i64 0, .int .i64 0]) 6 48 Tryz.underlying45 hmi him0 him1 him2 rfl (by decide) _ _ _ rfl (K9.out.alloc _) ⟨w1.heap.size + 1, 0, none⟩ 1 1 [.int .i64 s.a, .int .i64 s.b, .int .i64 s.c, .int .i64 s.d, .int .i64 s.x, .int .i64 s.y] rfl rfl (newsR (Row.new _ _ _) _ ?c1) ?c2 ?c3 ?c4 ?c5 ?_)
 case c1 => simp
 case c2 => simp [Value.oneCell']
 case c3 => unfold maxLen; omega
 case c4 => omega
 case c5 => simp; omega
 all_goals
  intro v' w4 ho4 hg4 _ _
  obtain ⟨g5, c5, rfl, -, -⟩ := ownsRow.addr ho4 (by omega)
  have KK : Hid (EaI w0 bf bl bn be bw (k + 1) (S ++ [s]) (w4.setCell ⟨bl, 0, none⟩ (.slice (some ⟨g5, 0, none⟩) (S.length + 1) c5))) := EaI.app K1.out K2.out K3.out K4.out K5.out h6 h7 K8.out K9.out (by simp; omega) hg4 ho4
  have a8 := grew_row K8.out K9.out hg4 (by decide)
  have KW4 : Hid (WdI lb AL g wt (w4.setCell ⟨bl, 0, none⟩ (.slice (some ⟨g5, 0, none⟩) (S.length + 1) c5))) := (grew_wd KW.out K9.out hg4 (by decide) (by decide)).grown (setGr _ _ _ _) (fun j t us hj ht e => by have e2 := Option.some.inj e; subst e2; rcases ht with rfl | rfl <;> exact absurd rfl (hj.ne a8 (by decide)))
  have d8 := a8.cell 0
  have f8 := a8.free 0
  simp only [List.getElem?_cons_zero] at d8
  clear ho4 hg4 a8 K1 K2 K3 K4 K5 K8 K9 KW HA0 cl hr0
  go_wp2
  go_ret
  exact ⟨rfl, KK.out, KW4.out⟩
end Go.Proofs.YtaknlhepgeiekaaGreatDoor
