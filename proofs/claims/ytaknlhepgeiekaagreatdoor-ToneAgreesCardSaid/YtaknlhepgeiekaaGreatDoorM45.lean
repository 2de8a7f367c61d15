import Derived.Deep.LoopGhost
import Derived.Test.YtaknlhepgeiekaaGreatDoorM44
import Derived.Test.YtaknlhepgeiekaaGreatDoorM42
namespace Go.Proofs.YtaknlhepgeiekaaGreatDoor
set_option linter.all false
open Go.RowKit Go.Fl
set_option maxRecDepth 100000 in
set_option maxHeartbeats 16000000 in
theorem agrees2 {Q : Exit → Act → World → Prop} {wd : World} {x0 x1 x2 x3 x4 x5 x6 x7 x8 x9 Ab Ac Ad Ae Af Ag Ah Ai Aj Ak Al Am An Ao Ap Aq Ar As At Au Av Aw Ay Az AA AB AC AD AE AF AG AH AI AJ AK AL AM AN AO AP AQ AR AS AT AU AV AW AX AY AZ A0 A1 A2 A3 A4 A5 A6 A7 A8 A9 Ba Bb Bc Bd Be Bf Bg Bh Bi Bj Bk Bl Bm Bn Bo Bp Bq Br Bs Bt Bu Bv Bw Bx By Bz BA BF BG BH BI BJ BK BL BM BN BO BP BQ BR BS BT BU BV BW BX BY BZ B0 B1 B2 B3 B4 B5 B6 B7 B8 B9 Ca Cb Cc Cd Ce Cf Cg Ch Ci Cj Ck Cl Cm Cn Co Cp Cq Cr Cs Ct Cu Cv Cw Cx Cy Cz CA CB CC CD CE CF CG CH CI CJ CK CL CM CN CO CP CQ CR CS CT CU CV CW CX CY CZ C0 C1 C2 C3 C4 C5 C6 C7 C8 C9 Da Db Dc Dd De Df Dg Dh Di Dj Dk Dl Dm Dn Do Dp Dq Dr Ds Dt Du Dv Dw Dx Dy Dz DA DB DC DD DE DF DG DH DI DJ DK DL DM DN DO DP DQ DR DS DT DU DV DW DX DY DZ D0 D1 D2 D3 D4 D5 D6 D7 D8 D9 Ea Eb Ec Ed Ee Ef Eg Eh Ei Ej Ek El Em En Eo Ep Eq Er Es Et Eu Ev Ew Ex Ey Ez EA EB EC ED EE EF EG EH EI EJ EK EL EM EN EO EP EQ ER ES ET EU EV EW EX EY EZ E0 E1 E2 E3 E4 E5 E6 E7 E8 E9 Fa Fb Fc Fd Fe Ff Fg Fh Fi Fj Fk Fm Fn Fo Fp Fq Fr Fs Ft Fu Fv Fw Fx Fy Fz FA FB FC FD FE FF FG FH FI FJ FK FL FM FN FO FP FQ FR FS FT FU FV FW FX FY FZ F0 F1 F2 F3 F4 F5 F6 F7 F8 F9 Ga Gb Gc Gd Ge Gf Gg Gh Gi Gj Gk Gl Gm Gn Gp Gq Gr Gs Gt Gu Gv Gw Gx Gy Gz GA GB GC GD GE GF GG GH GI GJ GK GL GM GN GO GP GQ GR GS GT GU GV GW GX : Value} {g32 N ca cx : Nat} {Aa Ax : Option Addr} {zs : List Int} {S : List (Int × Int)} (C : Code) (hC : Tryz.f4.body.bind (loopOf 2) = some C) (h32 : Hid (Row wd g32 3 (ints zs))) (hzl : Hid (zs.length = 2 + N)) (h8 : Hid (N ≤ 8)) (hz3 : Hid (∀ k, zs.getD k 1 = -1 ∨ zs.getD k 1 = 0 ∨ zs.getD k 1 = 1)) (hS : Hid (S = crS zs zs.length)) (hSl : Hid (S.length ≤ 2 + N)) (hRd : Hid (Rd wd Ax (spanC S))) (hQ : ∀ (y6 BB BC BD BE GY GZ G0 G1 G2 G3 G4 G5 G6 G7 G8 G9 Ha Hb Hc Hd He Hf Hg Hh Hi Hj Hk Hl Hm Hn Ho Hp Hq Hr Hs Ht Hu Hv Hw Hx Hy Hz HA HD HE HF HG HH HI HJ HL HN HO HP HQ HR HS HT HU HV HW HX HY H0 H1 H2 H3 H4 H5 H6 H7 H8 H9 Ia Ib Ic Id Ie If Ig Ih Ii Ij Ik Il Im In Io Ip Iq Ir Is It Iu Iv Iw Ix Iy Iz IA IB IC ID IE IF IG IH II : Value) (i : Nat) (W' : World), Hid (ChI zs S S.length i) → Hid (Below wd.heap.size wd W') → Q (.exit 2) ⟨([x0, x1, x2, x3, x4, x5, y6, x7, x8, x9, Ab,Ac,Ad,Ae,Af,Ag,Ah,Ai,Aj,Ak,Al,Am,An,Ao,Ap,Aq,Ar,As,At, .slice Aa (2 + N) ca, Au,Av, .slice (some ⟨g32, 0, none⟩) (2 + N) (2 + N), Aw,Ay,Az,AA, .int .i64 (i : Int), AB,BB,BC,BD,BE,AG,AH,AI,AJ,AK,AL,AM,AN,AO,AP,AQ,AR,AS,AT,AU,AV,AW,AX,AY,AZ,A0,A1,A2,A3,A4,A5,A6,A7,A8,A9,Ba,Bb,Bc,Bd,Be,Bf,Bg,Bh,Bi,Bj,Bk,Bl,Bm,Bn,Bo,Bp,Bq,Br,Bs,Bt,Bu,Bv,Bw,Bx,By,Bz,BA,BF,BG,BH,BI,BJ,BK,BL,BM,BN,BO,BP,BQ,BR,BS,BT,BU,BV,BW,BX,BY,BZ,B0,B1,B2,B3,B4,B5,B6,B7,B8,B9,Ca,Cb,Cc,Cd,Ce,Cf,Cg,Ch,Ci,Cj,Ck,Cl,Cm,Cn,Co,Cp,Cq,Cr,Cs,Ct,Cu,Cv,Cw,Cx,Cy,Cz,CA,CB,CC,CD,CE,CF,CG,CH,CI,CJ,CK,CL,CM,CN,CO,CP,CQ,CR,CS,CT,CU,CV,CW,CX,CY,CZ,C0,C1,C2,C3,C4,C5,C6,C7,C8,C9,Da,Db,Dc,Dd,De,Df,Dg,Dh,Di,Dj,Dk,Dl,Dm,Dn,Do,Dp,Dq,Dr,Ds,Dt,Du,Dv,Dw,Dx,Dy,Dz,DA,DB,DC,DD,DE,DF,DG,DH,DI,DJ,DK,DL,DM,DN,DO,DP,DQ,DR,DS,DT,DU,DV,DW,DX,DY,DZ,D0,D1,D2,D3,D4,D5,D6,D7,D8,D9,Ea,Eb,Ec,Ed,Ee,Ef,Eg,Eh,Ei,Ej,Ek,El,Em,En,Eo,Ep,Eq,Er,Es,Et,Eu,Ev,Ew,Ex,Ey,Ez,EA,EB,EC,ED,EE,EF,EG,EH,EI,EJ,EK,EL, .slice Ax S.length cx, .int .i64 (S.length : Int), GY,GZ,G0,G1,G2,G3,G4,G5,G6,G7,G8,G9,Ha,Hb,Hc,Hd,He,Hf,Hg,Hh,Hi,Hj,Hk,Hl,Hm,Hn,Ho,Hp,Hq,Hr,Hs,Ht,Hu,Hv,Hw,Hx,Hy,Hz,HA,HD,HE,HF,HG,HH,HI,HJ,HL,HN,HO,HP,HQ,HR,HS,HT,HU,HV,HW,HX,HY,H0,H1,H2,H3,H4,H5,H6,H7,H8,H9,Ia,Ib,Ic,Id,Ie,If,Ig,Ih,Ii,Ij,Ik,Il,Im,In,Io,Ip,Iq,Ir,Is,It,Iu,Iv,Iw,Ix,Iy,Iz,IA,IB,IC,ID,IE,IF,IG,IH,II,Gt,Gu,Gv,Gw,Gx,Gy,Gz,GA,GB,GC,GD,GE,GF,GG,GH,GI,GJ,GK,GL,GM,GN,GO,GP,GQ,GR,GS,GT,GU,GV,GW,GX] : List Value).toArray, []⟩ W') : Code.wp Tryz.prog (Code.loop C) Q ⟨([x0, x1, x2, x3, x4, x5, x6, x7, x8, x9, Ab,Ac,Ad,Ae,Af,Ag,Ah,Ai,Aj,Ak,Al,Am,An,Ao,Ap,Aq,Ar,As,At, .slice Aa (2 + N) ca, Au,Av, .slice (some ⟨g32, 0, none⟩) (2 + N) (2 + N), Aw,Ay,Az,AA, .int .i64 0, AB,AC,AD,AE,AF,AG,AH,AI,AJ,AK,AL,AM,AN,AO,AP,AQ,AR,AS,AT,AU,AV,AW,AX,AY,AZ,A0,A1,A2,A3,A4,A5,A6,A7,A8,A9,Ba,Bb,Bc,Bd,Be,Bf,Bg,Bh,Bi,Bj,Bk,Bl,Bm,Bn,Bo,Bp,Bq,Br,Bs,Bt,Bu,Bv,Bw,Bx,By,Bz,BA,BF,BG,BH,BI,BJ,BK,BL,BM,BN,BO,BP,BQ,BR,BS,BT,BU,BV,BW,BX,BY,BZ,B0,B1,B2,B3,B4,B5,B6,B7,B8,B9,Ca,Cb,Cc,Cd,Ce,Cf,Cg,Ch,Ci,Cj,Ck,Cl,Cm,Cn,Co,Cp,Cq,Cr,Cs,Ct,Cu,Cv,Cw,Cx,Cy,Cz,CA,CB,CC,CD,CE,CF,CG,CH,CI,CJ,CK,CL,CM,CN,CO,CP,CQ,CR,CS,CT,CU,CV,CW,CX,CY,CZ,C0,C1,C2,C3,C4,C5,C6,C7,C8,C9,Da,Db,Dc,Dd,De,Df,Dg,Dh,Di,Dj,Dk,Dl,Dm,Dn,Do,Dp,Dq,Dr,Ds,Dt,Du,Dv,Dw,Dx,Dy,Dz,DA,DB,DC,DD,DE,DF,DG,DH,DI,DJ,DK,DL,DM,DN,DO,DP,DQ,DR,DS,DT,DU,DV,DW,DX,DY,DZ,D0,D1,D2,D3,D4,D5,D6,D7,D8,D9,Ea,Eb,Ec,Ed,Ee,Ef,Eg,Eh,Ei,Ej,Ek,El,Em,En,Eo,Ep,Eq,Er,Es,Et,Eu,Ev,Ew,Ex,Ey,Ez,EA,EB,EC,ED,EE,EF,EG,EH,EI,EJ,EK,EL, .slice Ax S.length cx, .int .i64 (S.length : Int), .int .i64 0, EM,EN,EO,EP,EQ,ER,ES,ET,EU,EV,EW,EX,EY,EZ,E0,E1,E2,E3,E4,E5,E6,E7,E8,E9,Fa,Fb,Fc,Fd,Fe,Ff,Fg,Fh,Fi,Fj,Fk,Fm,Fn,Fo,Fp,Fq,Fr,Fs,Ft,Fu,Fv,Fw,Fx,Fy,Fz,FA,FB,FC,FD,FE,FF,FG,FH,FI,FJ,FK,FL,FM,FN,FO,FP,FQ,FR,FS,FT,FU,FV,FW,FX,FY,FZ,F0,F1,F2,F3,F4,F5,F6,F7,F8,F9,Ga,Gb,Gc,Gd,Ge,Gf,Gg,Gh,Gi,Gj,Gk,Gl,Gm,Gn,Gp,Gq,Gr,Gs,Gt,Gu,Gv,Gw,Gx,Gy,Gz,GA,GB,GC,GD,GE,GF,GG,GH,GI,GJ,GK,GL,GM,GN,GO,GP,GQ,GR,GS,GT,GU,GV,GW,GX] : List Value).toArray, []⟩ wd := by
 cases hC
 dsimp only at hQ ⊢
 replace hQ := Lib.hid hQ
 go_loopg [37, 295] S.length (fun gg s37 s295 wr => ∃ j i : Nat, j + gg = S.length ∧ s37 = .int .i64 i ∧ s295 = .int .i64 j ∧ Hid (ChI zs S j i) ∧ Hid (Below wd.heap.size wd wr))
 case atStart => exact ⟨0, 0, by omega, rfl, rfl, chI_zero hS.out, Below.refl _ _⟩
 case round =>
  obtain ⟨j, i, hj, rfl, rfl, HC,HB⟩ := hrel
  by_cases hlt : j < S.length
  · have o := chI_at hS.out hlt
    obtain ⟨xn, hxn⟩ : ∃ xn : Nat, S[j].1 = (xn : Int) := ⟨S[j].1.toNat, by omega⟩
    obtain ⟨yn, hyn⟩ : ∃ yn : Nat, S[j].2 = (yn : Int) := ⟨S[j].2.toNat, by omega⟩
    obtain ⟨b1, off1, hAx, p0, p1⟩ := Rd.span (hRd.out.below HB.out) hlt
    subst hAx
    rw [hxn] at p0; rw [hyn] at p1
    obtain ⟨HXY, HA3⟩ := spanFacts o hxn hyn hzl.out
    have HNX : Hid (∀ p : Nat, i ≤ p → p < xn → zs.getD p 1 ≠ 0 ∧ ¬ (p + 1 < zs.length ∧ zs.getD p 1 * zs.getD (p + 1) 1 < 0)) := fun p a b => chI_none hS.out HC.out hlt a (by omega)
    have HIX : Hid (i ≤ xn) := by have h := HC.out.far S[j] (by rw [List.drop_eq_getElem_cons hlt]; exact .head _); unfold Hid; omega
    have HM : Hid (∀ m : Nat, (ZR zs S[j] → m = yn) → (¬ ZR zs S[j] → m = xn + 1) → ChI zs S (j + 1) m) := fun m a b => chI_next hS.out HC.out hlt ⟨fun h => by rw [a h, hyn], fun h => by rw [b h, hxn]; rfl⟩
    have dj : decide ((j : Int) < (S.length : Int)) = true := decide_eq_true (by omega)
    clear o hxn hyn HC
    go_upto_region 41 with fail
    go_cut [39] from 297 to 298 (fun s39 wx => ∃ g39, s39 = .pointer (some ⟨g39, 0, none⟩) ∧ Hid (Row wx g39 77 [.int .i64 (xn : Int), .int .i64 (yn : Int)] ∧ Below wd.heap.size wd wx))
    case first =>
     go_wp2_with (first | (refine wpList_store_row rfl 77 _ _ rfl (wr.heap.size) #[.int .i64 (xn : Int), .int .i64 (yn : Int)] rfl rfl 77 _ (Row.new wr 77 [.int .i64 0, .int .i64 0]) ?_ ?_ ?_ ?_; (kernel_rfl); (rfl); (simp [Value.oneCell'])))
     go_meet
     exact ⟨_, rfl, Lib.hid ⟨(Row.new wr 77 [.int .i64 0, .int .i64 0]).setRow [.int .i64 (xn : Int), .int .i64 (yn : Int)], HB.out.trans ((Below.setRow ((Below.refl _ _).alloc (Nat.le_refl _) _) (Nat.le_refl _) _).mono HB.out.size)⟩⟩
    case rest =>
    clear HB p0 p1
    obtain ⟨g39, rfl, HK⟩ := hcut
    go_upto_region 42 with fail
    go_cut [315] from 299 to 314 (fun s315 wx => s315 = .bool false ∧ Hid (Row wx g39 77 [.int .i64 (xn : Int), .int .i64 (yn : Int)] ∧ Below wd.heap.size wd wx))
    case first =>
     have k1 := HK.out.1.cell 0; have k2 := HK.out.1.cell 1
     simp only [List.getElem?_cons_succ, List.getElem?_cons_zero] at k1 k2
     have d1 : decide ((xn : Int) < 0) = false := decide_eq_false (by omega)
     have d2 : decide ((2 : Int) + (N : Int) < (yn : Int)) = false := decide_eq_false (by have := HXY.out; omega)
     have d3 : decide (yn ≤ xn) = false := decide_eq_false (by have := HXY.out; omega)
     go_wp2_with fail
     all_goals (go_meet; exact ⟨rfl, HK⟩)
    case rest =>
    clear HK
    obtain ⟨rfl, HK⟩ := hcut
    go_wp2_with fail
    refine agrees4 _ (by kernel_rfl) (Lib.hid HK.out.1) (Lib.hid (h32.out.old HK.out.2)) hzl h8 HXY hz3 HNX HIX ?_
    intros
    rename_i W4 HB4
    have HK := Lib.hid (p := Row W4 g39 77 [.int .i64 (xn : Int), .int .i64 (yn : Int)] ∧ Below wd.heap.size wd W4) ⟨HK.out.1.old HB4.out, HK.out.2.trans (HB4.out.mono HK.out.2.size)⟩
    clear HB4
    clear HNX HIX
    rcases HA3.out with ⟨hzr, hzz⟩ | ⟨hzr, hne, hyx, hc⟩
    · clear HA3
      replace hzr := Lib.hid hzr; have HZ := Lib.hid hzz
      clear hzz
      go_upto_region 48 with fail
      go_cut [40] from 347 to 367 (fun s40 wx => s40 = .bool false ∧ Hid (Row wx g39 77 [.int .i64 (xn : Int), .int .i64 (yn : Int)] ∧ Below wd.heap.size wd wx))
      case first =>
       have k1 := HK.out.1.cell 0; have k2 := HK.out.1.cell 1
       simp only [List.getElem?_cons_succ, List.getElem?_cons_zero] at k1 k2
       have e1 : wrap64 ((xn : Int) + 1) = (xn : Int) + 1 := by have := h8.out; have := HXY.out; unfold wrap64; omega
       have e2 : wrap64 ((xn : Int) + 2) = (xn : Int) + 2 := by have := h8.out; have := HXY.out; unfold wrap64; omega
       have e3 : (xn : Int) < (2 : Int) + (N : Int) := by have := HXY.out; omega
       by_cases hy2 : yn = xn + 2
       · skip
         have e4 : (xn : Int) + 1 < (2 : Int) + (N : Int) := by have := HXY.out; omega
         have y1 : ((yn : Int) == (xn : Int) + 2) = true := by simp; omega
         have y2 : decide ((yn : Int) = (xn : Int) + 2) = true := decide_eq_true (by omega)
         have y3 : (yn : Int) = (xn : Int) + 2 := by omega
         have w1 := cellZ (h32.out.old HK.out.2) xn (by have := HXY.out; rw [hzl.out]; omega)
         have w2 := cellZ (h32.out.old HK.out.2) (xn + 1) (by have := HXY.out; rw [hzl.out]; omega)
         rw [HZ.out xn (Nat.le_refl _) (by omega)] at w1
         rw [HZ.out (xn + 1) (by omega) (by omega)] at w2
         refine agr48a _ (by kernel_rfl) k1 k2 e1 e2 e3 e4 y1 y2 y3 w1 w2 (show wrap64 (0 * 0) = 0 by unfold wrap64; omega) (by decide) (by decide) ?_
         intros
         go_wp2_with fail
         go_meet
         exact ⟨rfl, Lib.hid ⟨HK.out.1.drew, HK.out.2.drew⟩⟩
       · skip
         have y1 : ((yn : Int) == (xn : Int) + 2) = false := by simp; omega
         have y2 : decide ((yn : Int) = (xn : Int) + 2) = false := decide_eq_false (by omega)
         have y3 : ¬ (yn : Int) = (xn : Int) + 2 := by omega
         refine agr48c _ (by kernel_rfl) k1 k2 e1 e2 e3 y1 y2 y3 ?_
         intros
         go_wp2_with fail
         go_meet
         exact ⟨rfl, Lib.hid ⟨HK.out.1.drew, HK.out.2.drew⟩⟩
      case rest =>
      clear HK
      obtain ⟨rfl, HK⟩ := hcut
      have k1 := HK.out.1.cell 0; have k2 := HK.out.1.cell 1
      simp only [List.getElem?_cons_succ, List.getElem?_cons_zero] at k1 k2
      go_wp2_with fail
      refine agrees6 (zb := fun _ => true) (zf := true) _ (by kernel_rfl) (Lib.hid HK.out.1) (Lib.hid (h32.out.old HK.out.2)) hzl h8 HXY (rfl) (rfl) (fun p a b => zbZ (HZ.out p a b)) ?_
      intros
      rename_i W6 HB6
      clear k1 k2
      have HK := Lib.hid (p := Row W6 g39 77 [.int .i64 (xn : Int), .int .i64 (yn : Int)] ∧ Below wd.heap.size wd W6) ⟨HK.out.1.old HB6.out, HK.out.2.trans (HB6.out.mono HK.out.2.size)⟩
      clear HB6
      have k1 := HK.out.1.cell 0; have k2 := HK.out.1.cell 1
      simp only [List.getElem?_cons_succ, List.getElem?_cons_zero] at k1 k2
      have mx : max (xn : Int) ((xn : Int) + 1) = (xn : Int) + 1 := by omega
      have e1 : wrap64 ((xn : Int) + 1) = (xn : Int) + 1 := by have := h8.out; have := HXY.out; unfold wrap64; omega
      have e5 : wrap64 ((j : Int) + 1) = (j : Int) + 1 := by have := h8.out; have := hSl.out; unfold wrap64; omega
      go_wp2_with fail
      go_roundg (S.length - (j + 1))
      case measure => omega
      case rel => exact ⟨j + 1, yn, by omega, congrArg (Value.int .i64) (by omega), congrArg (Value.int .i64) (by omega), HM.out _ (fun _ => rfl) (fun h => absurd hzr.out h), Lib.hid HK.out.2⟩
    · clear HA3
      replace hzr := Lib.hid hzr; replace hne := Lib.hid hne; replace hyx := Lib.hid hyx; replace hc := Lib.hid hc
      go_upto_region 48 with fail
      go_cut [40] from 347 to 367 (fun s40 wx => s40 = .bool true ∧ Hid (Row wx g39 77 [.int .i64 (xn : Int), .int .i64 (yn : Int)] ∧ Below wd.heap.size wd wx))
      case first =>
       have k1 := HK.out.1.cell 0; have k2 := HK.out.1.cell 1
       simp only [List.getElem?_cons_succ, List.getElem?_cons_zero] at k1 k2
       have e1 : wrap64 ((xn : Int) + 1) = (xn : Int) + 1 := by have := h8.out; have := HXY.out; unfold wrap64; omega
       have e2 : wrap64 ((xn : Int) + 2) = (xn : Int) + 2 := by have := h8.out; have := HXY.out; unfold wrap64; omega
       have e3 : (xn : Int) < (2 : Int) + (N : Int) := by have := HXY.out; omega
       · skip
         have hy2 := hyx.out
         have e4 : (xn : Int) + 1 < (2 : Int) + (N : Int) := by have := HXY.out; omega
         have y1 : ((yn : Int) == (xn : Int) + 2) = true := by simp; omega
         have y2 : decide ((yn : Int) = (xn : Int) + 2) = true := decide_eq_true (by omega)
         have y3 : (yn : Int) = (xn : Int) + 2 := by omega
         have w1 := cellZ (h32.out.old HK.out.2) xn (by have := HXY.out; rw [hzl.out]; omega)
         have w2 := cellZ (h32.out.old HK.out.2) (xn + 1) (by have := HXY.out; rw [hzl.out]; omega)
         have f2 := crossAt (hz3.out xn) (hz3.out (xn + 1)) hc.out
         obtain ⟨u, hu⟩ : ∃ u, u = zs.getD xn 1 := ⟨_, rfl⟩
         obtain ⟨v, hv⟩ : ∃ v, v = zs.getD (xn + 1) 1 := ⟨_, rfl⟩
         obtain ⟨m, hm⟩ : ∃ m, m = wrap64 (u * v) := ⟨_, rfl⟩
         rw [← hu] at w1 f2; rw [← hv] at w2 f2; rw [← hm] at f2
         have hm2 := hm.symm
         clear hu hv hm
         have f3 : decide (m < 0) = true := decide_eq_true f2
         refine agr48b _ (by kernel_rfl) k1 k2 e1 e2 e3 e4 y1 y2 y3 w1 w2 hm2 f2 f3 ?_
         intros
         go_wp2_with fail
         go_meet
         exact ⟨rfl, Lib.hid ⟨HK.out.1.drew, HK.out.2.drew⟩⟩
      case rest =>
      clear HK
      obtain ⟨rfl, HK⟩ := hcut
      have k1 := HK.out.1.cell 0; have k2 := HK.out.1.cell 1
      simp only [List.getElem?_cons_succ, List.getElem?_cons_zero] at k1 k2
      go_wp2_with fail
      refine agrees6 (zb := fun p => decide (p = xn)) (zf := false) _ (by kernel_rfl) (Lib.hid HK.out.1) (Lib.hid (h32.out.old HK.out.2)) hzl h8 HXY (by have h2 := hyx.out; unfold Hid; simp; omega) (by simp [Hid]) (fun p a b => zbC hne.out p a) ?_
      intros
      rename_i W6 HB6
      clear k1 k2
      have HK := Lib.hid (p := Row W6 g39 77 [.int .i64 (xn : Int), .int .i64 (yn : Int)] ∧ Below wd.heap.size wd W6) ⟨HK.out.1.old HB6.out, HK.out.2.trans (HB6.out.mono HK.out.2.size)⟩
      clear HB6
      have k1 := HK.out.1.cell 0; have k2 := HK.out.1.cell 1
      simp only [List.getElem?_cons_succ, List.getElem?_cons_zero] at k1 k2
      have mx : max (xn : Int) ((xn : Int) + 1) = (xn : Int) + 1 := by omega
      have e1 : wrap64 ((xn : Int) + 1) = (xn : Int) + 1 := by have := h8.out; have := HXY.out; unfold wrap64; omega
      have e5 : wrap64 ((j : Int) + 1) = (j : Int) + 1 := by have := h8.out; have := hSl.out; unfold wrap64; omega
      go_wp2_with fail
      go_roundg (S.length - (j + 1))
      case measure => omega
      case rel => exact ⟨j + 1, xn + 1, by omega, congrArg (Value.int .i64) (by omega), congrArg (Value.int .i64) (by omega), HM.out _ (fun h => absurd h hzr.out) (fun _ => rfl), Lib.hid HK.out.2⟩
  · have hje : S.length = j := by omega
    have dj : decide ((j : Int) < (S.length : Int)) = false := decide_eq_false (by omega)
    have dj2 : decide (j < S.length) = false := decide_eq_false (by omega)
    go_wp2_with fail
    exact hQ.out _ _ _ _ _ _ _ _ _ _ _ _ _ _ _ _ _ _ _ _ _ _ _ _ _ _ _ _ _ _ _ _ _ _ _ _ _ _ _ _ _ _ _ _ _ _ _ _ _ _ _ _ _ _ _ _ _ _ _ _ _ _ _ _ _ _ _ _ _ _ _ _ _ _ _ _ _ _ _ _ _ _ _ _ _ _ _ _ _ _ _ _ _ _ _ _ _ _ _ _ _ _ _ _ _ _ _ _ _ _ _ (by rw [← hje] at HC; exact HC) HB
theorem six {V : World} {t : TypeId} {g h k : Nat} {a b c d e f : Value} (H : Row V g t [a, b] ∧ Row V h t [c, d] ∧ Row V k t [e, f]) : V.cell? ⟨g, 0, none⟩ = some a ∧ V.cell? ⟨g, 1, none⟩ = some b ∧ V.cell? ⟨h, 0, none⟩ = some c ∧ V.cell? ⟨h, 1, none⟩ = some d ∧ V.cell? ⟨k, 0, none⟩ = some e ∧ V.cell? ⟨k, 1, none⟩ = some f :=
 ⟨H.1.cell 0, H.1.cell 1, H.2.1.cell 0, H.2.1.cell 1, H.2.2.cell 0, H.2.2.cell 1⟩
theorem sixOld {W V V2 : World} {t : TypeId} {g h k : Nat} {A B C : List Value} (H : (Row V g t A ∧ Row V h t B ∧ Row V k t C) ∧ Below W.heap.size W V) (hb : Below V.heap.size V V2) : (Row V2 g t A ∧ Row V2 h t B ∧ Row V2 k t C) ∧ Below W.heap.size W V2 :=
 ⟨⟨H.1.1.old hb, H.1.2.1.old hb, H.1.2.2.old hb⟩, H.2.trans (hb.mono H.2.size)⟩
set_option maxRecDepth 100000 in
set_option maxHeartbeats 16000000 in
theorem agr10 {Q : Exit → Act → World → Prop} {wr : World} {x0 x1 x2 x3 x4 x5 x6 x8 Aa Ab Ac Ad Ae Af Ag Ah Ai Aj Ak Al Am An Ao Ap Aq Ar As At Au Av Aw Ax Ay Az AA AB AC AD AE AF AG AH AI AJ AK AL AM AN AO AP AQ AR AS AT AU AV AW AX AY AZ A0 A1 A2 A3 A4 A5 A6 A7 A8 A9 Ba Bb Bc Bd Be Bf Bg Bh Bi Bj Bk Bl Bm Bn Bo Bp Bq Br Bs Bu Bv Bw Bx By Bz BA BB BC BD BE BF BG BH BI BJ BK BL BM BN BO BP BQ BR BS BT BU BV BW BX BY BZ B0 B1 B2 B3 B4 B5 B6 B7 B8 B9 Ca Cb Cc Cd Ce Cf Cg Ch Ci Cj Ck Cl Cm Cn Co Cp Cq Cr Cs Ct Cu Cv Cw Cx Cy Cz CA CB CC CD CE CF CG CH CI CJ CK CL CM CN CO CP CQ CR CS CT CU CV CW CX CY CZ C0 C1 C2 C3 C4 C5 C6 C7 C8 C9 Da Db Dc Dd De Df Dg Dh Di Dj Dk Dl Dm Dn Do Dp Dq Dr Ds Dt Du Dv Dw Dx Dy Dz DA DB DC DD DE DF DG DH DI DJ DK DL DM DN DO DP DQ DR DS DT DU DV DW DX DY DZ D0 D1 D2 D3 D4 D5 D6 D7 D8 D9 Ea Eb Ec Ed Ee Ef Eg Eh Ei Ej Ek El Em En Eo Ep Eq Er Es Et Eu Ev Ew Ex Ey Ez EA EB EC ED EE EF EG EH EI EJ EK EL EM EN EO EP EQ ER ES ET EU EV EW EX EY EZ E0 E1 E2 E3 E4 E5 E6 E7 E8 E9 Fa Fb Fc Fd Fe Ff Fg Fh Fi Fj Fk Fm Fn Fo Fp Fq Fr Fs Ft Fu Fv Fw Fx Fy Fz FA FB FC FD FE FF FG FH FI FJ FK FL FM FN FO FP FQ FR FS FT FU FV FW FX FY FZ F0 F1 F2 F3 F4 F5 F6 F7 F8 F9 Ga Gb Gc Gd Ge Gf Gg Gh Gi Gj Gk Gl Gm Gn Gp Gq Gr Gs Gt Gu Gv Gw Gx Gy Gz GA GB GC GD GE GF GG GH GI GJ GK GL GM GN GO GP : Value} {g11 g13 g15 : Nat} {band K KW nN nD uN uD vN vD : Int} (ops : Array Oper) (hops : Tryz.f4.body.bind (regOps 10) = some ops) (HV : Hid ((Row wr g11 61 [.int .i64 nN, .int .i64 nD] ∧ Row wr g13 61 [.int .i64 uN, .int .i64 uD] ∧ Row wr g15 61 [.int .i64 vN, .int .i64 vD]) ∧ Below wr.heap.size wr wr)) (hR1 : Hid (∀ W, Calls Tryz.prog 22 #[.agg #[.int .i64 nN, .int .i64 nD]] W fun e w' => e = .returned (.bool true) ∧ Below W.heap.size W w')) (hR2 : Hid (∀ W, Calls Tryz.prog 22 #[.agg #[.int .i64 uN, .int .i64 uD]] W fun e w' => e = .returned (.bool true) ∧ Below W.heap.size W w')) (hR3 : Hid (∀ W, Calls Tryz.prog 22 #[.agg #[.int .i64 vN, .int .i64 vD]] W fun e w' => e = .returned (.bool true) ∧ Below W.heap.size W w')) (hK : Hid ((K = 0 ∧ nN = uN ∧ nD = uD) ∨ (K = 1 ∧ nN = vN ∧ nD = vD) ∨ K = 2)) (hKW : Hid (KW = 2 ∨ KW = K)) (hQ : ∀ (Bt GQ GR GS GT GU GV GW GX GY GZ G0 G1 G2 G3 G4 G5 G6 G7 G8 G9 Ha Hb Hc Hd He Hf Hg Hh Hi Hj Hk Hl Hm Hn Ho Hp Hq Hr Hs Ht Hu Hv Hw Hx Hy Hz HA HB HC HD HE HF HG HH HI HJ HK HL HM HN HO HP HQ HR HS HT HU HW HX HY : Value) (W' : World), Hid (Below wr.heap.size wr W') → Q .normal ⟨([x0, x1, x2, x3, x4, x5, x6, .int .i64 band, x8, .int .i64 K, .int .i64 0, .pointer (some ⟨g11, 0, none⟩), .int .i64 0, .pointer (some ⟨g13, 0, none⟩), .int .i64 0, .pointer (some ⟨g15, 0, none⟩), .int .i64 0, .int .i64 KW, .int .i64 0, Aa,Ab,Ac,Ad,Ae,Af,Ag,Ah,Ai,Aj,Ak,Al,Am,An,Ao,Ap,Aq,Ar,As,At,Au,Av,Aw,Ax,Ay,Az,AA,AB,AC,AD,AE,AF,AG,AH,AI,AJ,AK,AL,AM,AN,AO,AP,AQ,AR,AS,AT,AU,AV,AW,AX,AY,AZ,A0,A1,A2,A3,A4,A5,A6,A7,A8,A9,Ba,Bb,Bc,Bd,Be,Bf,Bg,Bh,Bi,Bj,Bk,Bl,Bm,Bn,Bo,Bp,Bq,Br,Bt,GQ,GR,GS,GT,GU,GV,GW,GX,GY,GZ,G0,G1,G2,G3,G4,G5,G6,G7,G8,G9,Ha,Hb,Hc,Hd,He,Hf,Hg,Hh,Hi,Hj,Hk,Hl,Hm,Hn,Ho,Hp,Hq,Hr,Hs,Ht,Hu,Hv,Hw,Hx,Hy,Hz,HA,HB,HC,HD,HE,HF,HG,HH,HI,HJ,HK,HL,HM,HN,HO,HP,HQ,HR,HS,HT,HU,HW,HX,HY, .bool false, CD,CE,CF,CG,CH,CI,CJ,CK,CL,CM,CN,CO,CP,CQ,CR,CS,CT,CU,CV,CW,CX,CY,CZ,C0,C1,C2,C3,C4,C5,C6,C7,C8,C9,Da,Db,Dc,Dd,De,Df,Dg,Dh,Di,Dj,Dk,Dl,Dm,Dn,Do,Dp,Dq,Dr,Ds,Dt,Du,Dv,Dw,Dx,Dy,Dz,DA,DB,DC,DD,DE,DF,DG,DH,DI,DJ,DK,DL,DM,DN,DO,DP,DQ,DR,DS,DT,DU,DV,DW,DX,DY,DZ,D0,D1,D2,D3,D4,D5,D6,D7,D8,D9,Ea,Eb,Ec,Ed,Ee,Ef,Eg,Eh,Ei,Ej,Ek,El,Em,En,Eo,Ep,Eq,Er,Es,Et,Eu,Ev,Ew,Ex,Ey,Ez,EA,EB,EC,ED,EE,EF,EG,EH,EI,EJ,EK,EL,EM,EN,EO,EP,EQ,ER,ES,ET,EU,EV,EW,EX,EY,EZ,E0,E1,E2,E3,E4,E5,E6,E7,E8,E9,Fa,Fb,Fc,Fd,Fe,Ff,Fg,Fh,Fi,Fj,Fk,Fm,Fn,Fo,Fp,Fq,Fr,Fs,Ft,Fu,Fv,Fw,Fx,Fy,Fz,FA,FB,FC,FD,FE,FF,FG,FH,FI,FJ,FK,FL,FM,FN,FO,FP,FQ,FR,FS,FT,FU,FV,FW,FX,FY,FZ,F0,F1,F2,F3,F4,F5,F6,F7,F8,F9,Ga,Gb,Gc,Gd,Ge,Gf,Gg,Gh,Gi,Gj,Gk,Gl,Gm,Gn,Gp,Gq,Gr,Gs,Gt,Gu,Gv,Gw,Gx,Gy,Gz,GA,GB,GC,GD,GE,GF,GG,GH,GI,GJ,GK,GL,GM,GN,GO,GP] : List Value).toArray, []⟩ W') : Code.wp Tryz.prog (Code.region 10 ops false) Q ⟨([x0, x1, x2, x3, x4, x5, x6, .int .i64 band, x8, .int .i64 K, .int .i64 0, .pointer (some ⟨g11, 0, none⟩), .int .i64 0, .pointer (some ⟨g13, 0, none⟩), .int .i64 0, .pointer (some ⟨g15, 0, none⟩), .int .i64 0, .int .i64 KW, .int .i64 0, Aa,Ab,Ac,Ad,Ae,Af,Ag,Ah,Ai,Aj,Ak,Al,Am,An,Ao,Ap,Aq,Ar,As,At,Au,Av,Aw,Ax,Ay,Az,AA,AB,AC,AD,AE,AF,AG,AH,AI,AJ,AK,AL,AM,AN,AO,AP,AQ,AR,AS,AT,AU,AV,AW,AX,AY,AZ,A0,A1,A2,A3,A4,A5,A6,A7,A8,A9,Ba,Bb,Bc,Bd,Be,Bf,Bg,Bh,Bi,Bj,Bk,Bl,Bm,Bn,Bo,Bp,Bq,Br,Bs,Bu,Bv,Bw,Bx,By,Bz,BA,BB,BC,BD,BE,BF,BG,BH,BI,BJ,BK,BL,BM,BN,BO,BP,BQ,BR,BS,BT,BU,BV,BW,BX,BY,BZ,B0,B1,B2,B3,B4,B5,B6,B7,B8,B9,Ca,Cb,Cc,Cd,Ce,Cf,Cg,Ch,Ci,Cj,Ck,Cl,Cm,Cn,Co,Cp,Cq,Cr,Cs,Ct,Cu,Cv,Cw,Cx,Cy,Cz,CA,CB,CC,CD,CE,CF,CG,CH,CI,CJ,CK,CL,CM,CN,CO,CP,CQ,CR,CS,CT,CU,CV,CW,CX,CY,CZ,C0,C1,C2,C3,C4,C5,C6,C7,C8,C9,Da,Db,Dc,Dd,De,Df,Dg,Dh,Di,Dj,Dk,Dl,Dm,Dn,Do,Dp,Dq,Dr,Ds,Dt,Du,Dv,Dw,Dx,Dy,Dz,DA,DB,DC,DD,DE,DF,DG,DH,DI,DJ,DK,DL,DM,DN,DO,DP,DQ,DR,DS,DT,DU,DV,DW,DX,DY,DZ,D0,D1,D2,D3,D4,D5,D6,D7,D8,D9,Ea,Eb,Ec,Ed,Ee,Ef,Eg,Eh,Ei,Ej,Ek,El,Em,En,Eo,Ep,Eq,Er,Es,Et,Eu,Ev,Ew,Ex,Ey,Ez,EA,EB,EC,ED,EE,EF,EG,EH,EI,EJ,EK,EL,EM,EN,EO,EP,EQ,ER,ES,ET,EU,EV,EW,EX,EY,EZ,E0,E1,E2,E3,E4,E5,E6,E7,E8,E9,Fa,Fb,Fc,Fd,Fe,Ff,Fg,Fh,Fi,Fj,Fk,Fm,Fn,Fo,Fp,Fq,Fr,Fs,Ft,Fu,Fv,Fw,Fx,Fy,Fz,FA,FB,FC,FD,FE,FF,FG,FH,FI,FJ,FK,FL,FM,FN,FO,FP,FQ,FR,FS,FT,FU,FV,FW,FX,FY,FZ,F0,F1,F2,F3,F4,F5,F6,F7,F8,F9,Ga,Gb,Gc,Gd,Ge,Gf,Gg,Gh,Gi,Gj,Gk,Gl,Gm,Gn,Gp,Gq,Gr,Gs,Gt,Gu,Gv,Gw,Gx,Gy,Gz,GA,GB,GC,GD,GE,GF,GG,GH,GI,GJ,GK,GL,GM,GN,GO,GP] : List Value).toArray, []⟩ wr := by
 cases hops
 dsimp only at hQ ⊢
 replace hQ := Lib.hid hQ
 rcases hK.out with ⟨k0, k1, k2⟩ | ⟨k0, k1, k2⟩ | k0
 · skip
   have y0 : (K == 0) = true := by simp; omega
   have y1 : (K == 1) = false := by simp; omega
   have y2 : ¬ K < 0 := by omega
   have y3 : ¬ 2 < K := by omega
   have n1 : ∀ W, (binOp .neq 61 (.agg #[.int .i64 nN, .int .i64 nD]) (.agg #[.int .i64 uN, .int .i64 uD])).run Tryz.prog W = .ok (.bool false) W := fun W => by rw [k1, k2]; exact neqR_self _ _ W
   clear k1 k2
   by_cases hw2 : KW = 2
   · have w1 : (KW != 2) = false := by simpa using hw2
     clear hw2 k0
     obtain ⟨p0, p1, p2, p3, p4, p5⟩ := six HV.out.1
     go_wp2_with fail
     refine (hR1.out _).mono ?_
     rintro e w2 ⟨rfl, hb⟩
     replace HV := Lib.hid (sixOld HV.out hb)
     clear hb
     obtain ⟨q0, q1, q2, q3, q4, q5⟩ := six HV.out.1
     go_wp2_with fail
     refine (hR2.out _).mono ?_
     rintro e w3 ⟨rfl, hb⟩
     replace HV := Lib.hid (sixOld HV.out hb)
     clear hb
     obtain ⟨r0, r1, r2, r3, r4, r5⟩ := six HV.out.1
     go_wp2_with fail
     refine (hR3.out _).mono ?_
     rintro e w4 ⟨rfl, hb⟩
     replace HV := Lib.hid (sixOld HV.out hb)
     clear hb
     obtain ⟨s0, s1, s2, s3, s4, s5⟩ := six HV.out.1
     go_wp2_with fail
     exact hQ.out _ _ _ _ _ _ _ _ _ _ _ _ _ _ _ _ _ _ _ _ _ _ _ _ _ _ _ _ _ _ _ _ _ _ _ _ _ _ _ _ _ _ _ _ _ _ _ _ _ _ _ _ _ _ _ _ _ _ _ _ _ _ _ _ _ _ _ _ _ _ _ _ (Lib.hid HV.out.2)
   · have w1 : (KW != 2) = true := by simpa using hw2
     have w2 : (KW != K) = false := by have h := hKW.out; simp; omega
     clear hw2 k0
     obtain ⟨p0, p1, p2, p3, p4, p5⟩ := six HV.out.1
     go_wp2_with fail
     refine (hR1.out _).mono ?_
     rintro e w2 ⟨rfl, hb⟩
     replace HV := Lib.hid (sixOld HV.out hb)
     clear hb
     obtain ⟨q0, q1, q2, q3, q4, q5⟩ := six HV.out.1
     go_wp2_with fail
     refine (hR2.out _).mono ?_
     rintro e w3 ⟨rfl, hb⟩
     replace HV := Lib.hid (sixOld HV.out hb)
     clear hb
     obtain ⟨r0, r1, r2, r3, r4, r5⟩ := six HV.out.1
     go_wp2_with fail
     refine (hR3.out _).mono ?_
     rintro e w4 ⟨rfl, hb⟩
     replace HV := Lib.hid (sixOld HV.out hb)
     clear hb
     obtain ⟨s0, s1, s2, s3, s4, s5⟩ := six HV.out.1
     go_wp2_with fail
     exact hQ.out _ _ _ _ _ _ _ _ _ _ _ _ _ _ _ _ _ _ _ _ _ _ _ _ _ _ _ _ _ _ _ _ _ _ _ _ _ _ _ _ _ _ _ _ _ _ _ _ _ _ _ _ _ _ _ _ _ _ _ _ _ _ _ _ _ _ _ _ _ _ _ _ (Lib.hid HV.out.2)
 · skip
   have y0 : (K == 0) = false := by simp; omega
   have y1 : (K == 1) = true := by simp; omega
   have y2 : ¬ K < 0 := by omega
   have y3 : ¬ 2 < K := by omega
   have n1 : ∀ W, (binOp .neq 61 (.agg #[.int .i64 nN, .int .i64 nD]) (.agg #[.int .i64 vN, .int .i64 vD])).run Tryz.prog W = .ok (.bool false) W := fun W => by rw [k1, k2]; exact neqR_self _ _ W
   clear k1 k2
   by_cases hw2 : KW = 2
   · have w1 : (KW != 2) = false := by simpa using hw2
     clear hw2 k0
     obtain ⟨p0, p1, p2, p3, p4, p5⟩ := six HV.out.1
     go_wp2_with fail
     refine (hR1.out _).mono ?_
     rintro e w2 ⟨rfl, hb⟩
     replace HV := Lib.hid (sixOld HV.out hb)
     clear hb
     obtain ⟨q0, q1, q2, q3, q4, q5⟩ := six HV.out.1
     go_wp2_with fail
     refine (hR2.out _).mono ?_
     rintro e w3 ⟨rfl, hb⟩
     replace HV := Lib.hid (sixOld HV.out hb)
     clear hb
     obtain ⟨r0, r1, r2, r3, r4, r5⟩ := six HV.out.1
     go_wp2_with fail
     refine (hR3.out _).mono ?_
     rintro e w4 ⟨rfl, hb⟩
     replace HV := Lib.hid (sixOld HV.out hb)
     clear hb
     obtain ⟨s0, s1, s2, s3, s4, s5⟩ := six HV.out.1
     go_wp2_with fail
     exact hQ.out _ _ _ _ _ _ _ _ _ _ _ _ _ _ _ _ _ _ _ _ _ _ _ _ _ _ _ _ _ _ _ _ _ _ _ _ _ _ _ _ _ _ _ _ _ _ _ _ _ _ _ _ _ _ _ _ _ _ _ _ _ _ _ _ _ _ _ _ _ _ _ _ (Lib.hid HV.out.2)
   · have w1 : (KW != 2) = true := by simpa using hw2
     have w2 : (KW != K) = false := by have h := hKW.out; simp; omega
     clear hw2 k0
     obtain ⟨p0, p1, p2, p3, p4, p5⟩ := six HV.out.1
     go_wp2_with fail
     refine (hR1.out _).mono ?_
     rintro e w2 ⟨rfl, hb⟩
     replace HV := Lib.hid (sixOld HV.out hb)
     clear hb
     obtain ⟨q0, q1, q2, q3, q4, q5⟩ := six HV.out.1
     go_wp2_with fail
     refine (hR2.out _).mono ?_
     rintro e w3 ⟨rfl, hb⟩
     replace HV := Lib.hid (sixOld HV.out hb)
     clear hb
     obtain ⟨r0, r1, r2, r3, r4, r5⟩ := six HV.out.1
     go_wp2_with fail
     refine (hR3.out _).mono ?_
     rintro e w4 ⟨rfl, hb⟩
     replace HV := Lib.hid (sixOld HV.out hb)
     clear hb
     obtain ⟨s0, s1, s2, s3, s4, s5⟩ := six HV.out.1
     go_wp2_with fail
     exact hQ.out _ _ _ _ _ _ _ _ _ _ _ _ _ _ _ _ _ _ _ _ _ _ _ _ _ _ _ _ _ _ _ _ _ _ _ _ _ _ _ _ _ _ _ _ _ _ _ _ _ _ _ _ _ _ _ _ _ _ _ _ _ _ _ _ _ _ _ _ _ _ _ _ (Lib.hid HV.out.2)
 · skip
   have y0 : (K == 0) = false := by simp; omega
   have y1 : (K == 1) = false := by simp; omega
   have y2 : ¬ K < 0 := by omega
   have y3 : ¬ 2 < K := by omega
   have w1 : (KW != 2) = false := by have h := hKW.out; simp; omega
   clear k0
   obtain ⟨p0, p1, p2, p3, p4, p5⟩ := six HV.out.1
   go_wp2_with fail
   refine (hR1.out _).mono ?_
   rintro e w2 ⟨rfl, hb⟩
   replace HV := Lib.hid (sixOld HV.out hb)
   clear hb
   obtain ⟨q0, q1, q2, q3, q4, q5⟩ := six HV.out.1
   go_wp2_with fail
   refine (hR2.out _).mono ?_
   rintro e w3 ⟨rfl, hb⟩
   replace HV := Lib.hid (sixOld HV.out hb)
   clear hb
   obtain ⟨r0, r1, r2, r3, r4, r5⟩ := six HV.out.1
   go_wp2_with fail
   refine (hR3.out _).mono ?_
   rintro e w4 ⟨rfl, hb⟩
   replace HV := Lib.hid (sixOld HV.out hb)
   clear hb
   obtain ⟨s0, s1, s2, s3, s4, s5⟩ := six HV.out.1
   go_wp2_with fail
   exact hQ.out _ _ _ _ _ _ _ _ _ _ _ _ _ _ _ _ _ _ _ _ _ _ _ _ _ _ _ _ _ _ _ _ _ _ _ _ _ _ _ _ _ _ _ _ _ _ _ _ _ _ _ _ _ _ _ _ _ _ _ _ _ _ _ _ _ _ _ _ _ _ _ _ (Lib.hid HV.out.2)
set_option maxRecDepth 100000
set_option maxHeartbeats 8000000
theorem agrees_out1 (a b c d x y k l m n u v bd : Int) (M : Option Addr) (N cM : Nat) (SC : List Value) (z2 : Bool) (w : World) (hA : AwT w) (hSC : Rd w M SC) (hn1 : ∀ W, Calls Tryz.prog 6 #[.agg #[.int .i64 a, .int .i64 b, .int .i64 c, .int .i64 d, .int .i64 x, .int .i64 y], .int .i64 1000] W fun e w' => e = .returned (.bool false) ∧ Below W.heap.size W w') (hn2 : ∀ W, Calls Tryz.prog 6 #[.agg #[.int .i64 k, .int .i64 l, .int .i64 m, .int .i64 n, .int .i64 u, .int .i64 v], .int .i64 1000] W fun e w' => e = .returned (.bool z2) ∧ Below W.heap.size W w') : Calls Tryz.prog 4 #[.agg #[.int .i64 a, .int .i64 b, .int .i64 c, .int .i64 d, .int .i64 x, .int .i64 y], .agg #[.int .i64 k, .int .i64 l, .int .i64 m, .int .i64 n, .int .i64 u, .int .i64 v], .agg #[.int .u16 bd, .slice M N cM]] w fun e w' => e = .returned (.bool true) ∧ Below w.heap.size w w' := by
 have HK : Hid (KpT w [((w.heap.size + 1 + 1), 56, [.int .u16 bd, .slice M N cM]), ((w.heap.size + 1), 25, [.int .i64 k, .int .i64 l, .int .i64 m, .int .i64 n, .int .i64 u, .int .i64 v]), (w.heap.size, 25, [.int .i64 a, .int .i64 b, .int .i64 c, .int .i64 d, .int .i64 x, .int .i64 y])] [(M, SC)] (((w.alloc (.cells #[.int .i64 a, .int .i64 b, .int .i64 c, .int .i64 d, .int .i64 x, .int .i64 y] 25)).alloc (.cells #[.int .i64 k, .int .i64 l, .int .i64 m, .int .i64 n, .int .i64 u, .int .i64 v] 25)).alloc (.cells #[.int .u16 bd, .slice M N cM] 56))) := Lib.hid (KpT.cons (KpT.cons (KpT.cons (KpT.old (V := w) ⟨hA, fun r h => (List.not_mem_nil h).elim, fun r h => by rw [List.mem_singleton.1 h]; exact hSC, Below.refl _ _⟩ ((((Below.refl _ _).alloc (Nat.le_refl _) _).alloc (by simp) _).alloc (by simp only [World.size_alloc]; omega) _)) (((Row.new w 25 [.int .i64 a, .int .i64 b, .int .i64 c, .int .i64 d, .int .i64 x, .int .i64 y]).alloc _).alloc _)) (row2.alloc _)) row3)
 replace hn1 := Lib.hid hn1; replace hn2 := Lib.hid hn2
 clear hA
 go_enter Tryz.func4, Tryz.ntmps4
 go_upto_region 1 with fail
 refine genT (fun V => KpT w [((w.heap.size + 1 + 1), 56, [.int .u16 bd, .slice M N cM]), ((w.heap.size + 1), 25, [.int .i64 k, .int .i64 l, .int .i64 m, .int .i64 n, .int .i64 u, .int .i64 v]), (w.heap.size, 25, [.int .i64 a, .int .i64 b, .int .i64 c, .int .i64 d, .int .i64 x, .int .i64 y])] [(M, SC)] V) HK.out ?_
 clear HK
 intro wc s0
 have HK := Lib.hid s0
 clear s0
 have HV := HK
 go_upto_region 2 with (first | (go_at_call 5; refine (awake_ok _ HV.out.1).mono ?_; rintro e w2 ⟨rfl, hb⟩; replace HV := Lib.hid (HV.out.old hb); clear hb; have ca0 := (((HV.out.row w.heap.size 25 [.int .i64 a, .int .i64 b, .int .i64 c, .int .i64 d, .int .i64 x, .int .i64 y] (.tail _ (.tail _ (.head _))))).cell 0); have ca1 := (((HV.out.row w.heap.size 25 [.int .i64 a, .int .i64 b, .int .i64 c, .int .i64 d, .int .i64 x, .int .i64 y] (.tail _ (.tail _ (.head _))))).cell 1); have ca2 := (((HV.out.row w.heap.size 25 [.int .i64 a, .int .i64 b, .int .i64 c, .int .i64 d, .int .i64 x, .int .i64 y] (.tail _ (.tail _ (.head _))))).cell 2); have ca3 := (((HV.out.row w.heap.size 25 [.int .i64 a, .int .i64 b, .int .i64 c, .int .i64 d, .int .i64 x, .int .i64 y] (.tail _ (.tail _ (.head _))))).cell 3); have ca4 := (((HV.out.row w.heap.size 25 [.int .i64 a, .int .i64 b, .int .i64 c, .int .i64 d, .int .i64 x, .int .i64 y] (.tail _ (.tail _ (.head _))))).cell 4); have ca5 := (((HV.out.row w.heap.size 25 [.int .i64 a, .int .i64 b, .int .i64 c, .int .i64 d, .int .i64 x, .int .i64 y] (.tail _ (.tail _ (.head _))))).cell 5); simp only [List.getElem?_cons_succ, List.getElem?_cons_zero] at ca0 ca1 ca2 ca3 ca4 ca5) | (have _ := mk1; go_at_call 6; refine (hn2.out _).mono ?_; rintro e w2 ⟨rfl, hb⟩; replace HV := Lib.hid (HV.out.old hb); clear hb; have cc0 := (((HV.out.row (w.heap.size + 1 + 1) 56 [.int .u16 bd, .slice M N cM] (.head _))).cell 0); have cc1 := (((HV.out.row (w.heap.size + 1 + 1) 56 [.int .u16 bd, .slice M N cM] (.head _))).cell 1); simp only [List.getElem?_cons_succ, List.getElem?_cons_zero] at cc0 cc1) | (go_at_call 6; refine (hn1.out _).mono ?_; rintro e w2 ⟨rfl, hb⟩; replace HV := Lib.hid (HV.out.old hb); clear hb; have mk1 : True := trivial; have cb0 := (((HV.out.row (w.heap.size + 1) 25 [.int .i64 k, .int .i64 l, .int .i64 m, .int .i64 n, .int .i64 u, .int .i64 v] (.tail _ (.head _)))).cell 0); have cb1 := (((HV.out.row (w.heap.size + 1) 25 [.int .i64 k, .int .i64 l, .int .i64 m, .int .i64 n, .int .i64 u, .int .i64 v] (.tail _ (.head _)))).cell 1); have cb2 := (((HV.out.row (w.heap.size + 1) 25 [.int .i64 k, .int .i64 l, .int .i64 m, .int .i64 n, .int .i64 u, .int .i64 v] (.tail _ (.head _)))).cell 2); have cb3 := (((HV.out.row (w.heap.size + 1) 25 [.int .i64 k, .int .i64 l, .int .i64 m, .int .i64 n, .int .i64 u, .int .i64 v] (.tail _ (.head _)))).cell 3); have cb4 := (((HV.out.row (w.heap.size + 1) 25 [.int .i64 k, .int .i64 l, .int .i64 m, .int .i64 n, .int .i64 u, .int .i64 v] (.tail _ (.head _)))).cell 4); have cb5 := (((HV.out.row (w.heap.size + 1) 25 [.int .i64 k, .int .i64 l, .int .i64 m, .int .i64 n, .int .i64 u, .int .i64 v] (.tail _ (.head _)))).cell 5); simp only [List.getElem?_cons_succ, List.getElem?_cons_zero] at cb0 cb1 cb2 cb3 cb4 cb5))
 go_wp2_with (first | (go_at_call 5; refine (awake_ok _ HV.out.1).mono ?_; rintro e w2 ⟨rfl, hb⟩; replace HV := Lib.hid (HV.out.old hb); clear hb))
 go_ret
 exact ⟨rfl, HV.out.2.2.2⟩
theorem agrees_out2 (a b c d x y k l m n u v bd : Int) (M : Option Addr) (N cM : Nat) (SC : List Value) (w : World) (hA : AwT w) (hSC : Rd w M SC) (hn1 : ∀ W, Calls Tryz.prog 6 #[.agg #[.int .i64 a, .int .i64 b, .int .i64 c, .int .i64 d, .int .i64 x, .int .i64 y], .int .i64 1000] W fun e w' => e = .returned (.bool true) ∧ Below W.heap.size W w') (hn2 : ∀ W, Calls Tryz.prog 6 #[.agg #[.int .i64 k, .int .i64 l, .int .i64 m, .int .i64 n, .int .i64 u, .int .i64 v], .int .i64 1000] W fun e w' => e = .returned (.bool false) ∧ Below W.heap.size W w') : Calls Tryz.prog 4 #[.agg #[.int .i64 a, .int .i64 b, .int .i64 c, .int .i64 d, .int .i64 x, .int .i64 y], .agg #[.int .i64 k, .int .i64 l, .int .i64 m, .int .i64 n, .int .i64 u, .int .i64 v], .agg #[.int .u16 bd, .slice M N cM]] w fun e w' => e = .returned (.bool true) ∧ Below w.heap.size w w' := by
 have HK : Hid (KpT w [((w.heap.size + 1 + 1), 56, [.int .u16 bd, .slice M N cM]), ((w.heap.size + 1), 25, [.int .i64 k, .int .i64 l, .int .i64 m, .int .i64 n, .int .i64 u, .int .i64 v]), (w.heap.size, 25, [.int .i64 a, .int .i64 b, .int .i64 c, .int .i64 d, .int .i64 x, .int .i64 y])] [(M, SC)] (((w.alloc (.cells #[.int .i64 a, .int .i64 b, .int .i64 c, .int .i64 d, .int .i64 x, .int .i64 y] 25)).alloc (.cells #[.int .i64 k, .int .i64 l, .int .i64 m, .int .i64 n, .int .i64 u, .int .i64 v] 25)).alloc (.cells #[.int .u16 bd, .slice M N cM] 56))) := Lib.hid (KpT.cons (KpT.cons (KpT.cons (KpT.old (V := w) ⟨hA, fun r h => (List.not_mem_nil h).elim, fun r h => by rw [List.mem_singleton.1 h]; exact hSC, Below.refl _ _⟩ ((((Below.refl _ _).alloc (Nat.le_refl _) _).alloc (by simp) _).alloc (by simp only [World.size_alloc]; omega) _)) (((Row.new w 25 [.int .i64 a, .int .i64 b, .int .i64 c, .int .i64 d, .int .i64 x, .int .i64 y]).alloc _).alloc _)) (row2.alloc _)) row3)
 replace hn1 := Lib.hid hn1; replace hn2 := Lib.hid hn2
 clear hA
 go_enter Tryz.func4, Tryz.ntmps4
 go_upto_region 1 with fail
 refine genT (fun V => KpT w [((w.heap.size + 1 + 1), 56, [.int .u16 bd, .slice M N cM]), ((w.heap.size + 1), 25, [.int .i64 k, .int .i64 l, .int .i64 m, .int .i64 n, .int .i64 u, .int .i64 v]), (w.heap.size, 25, [.int .i64 a, .int .i64 b, .int .i64 c, .int .i64 d, .int .i64 x, .int .i64 y])] [(M, SC)] V) HK.out ?_
 clear HK
 intro wc s0
 have HK := Lib.hid s0
 clear s0
 have HV := HK
 go_upto_region 2 with (first | (go_at_call 5; refine (awake_ok _ HV.out.1).mono ?_; rintro e w2 ⟨rfl, hb⟩; replace HV := Lib.hid (HV.out.old hb); clear hb; have ca0 := (((HV.out.row w.heap.size 25 [.int .i64 a, .int .i64 b, .int .i64 c, .int .i64 d, .int .i64 x, .int .i64 y] (.tail _ (.tail _ (.head _))))).cell 0); have ca1 := (((HV.out.row w.heap.size 25 [.int .i64 a, .int .i64 b, .int .i64 c, .int .i64 d, .int .i64 x, .int .i64 y] (.tail _ (.tail _ (.head _))))).cell 1); have ca2 := (((HV.out.row w.heap.size 25 [.int .i64 a, .int .i64 b, .int .i64 c, .int .i64 d, .int .i64 x, .int .i64 y] (.tail _ (.tail _ (.head _))))).cell 2); have ca3 := (((HV.out.row w.heap.size 25 [.int .i64 a, .int .i64 b, .int .i64 c, .int .i64 d, .int .i64 x, .int .i64 y] (.tail _ (.tail _ (.head _))))).cell 3); have ca4 := (((HV.out.row w.heap.size 25 [.int .i64 a, .int .i64 b, .int .i64 c, .int .i64 d, .int .i64 x, .int .i64 y] (.tail _ (.tail _ (.head _))))).cell 4); have ca5 := (((HV.out.row w.heap.size 25 [.int .i64 a, .int .i64 b, .int .i64 c, .int .i64 d, .int .i64 x, .int .i64 y] (.tail _ (.tail _ (.head _))))).cell 5); simp only [List.getElem?_cons_succ, List.getElem?_cons_zero] at ca0 ca1 ca2 ca3 ca4 ca5) | (have _ := mk1; go_at_call 6; refine (hn2.out _).mono ?_; rintro e w2 ⟨rfl, hb⟩; replace HV := Lib.hid (HV.out.old hb); clear hb; have cc0 := (((HV.out.row (w.heap.size + 1 + 1) 56 [.int .u16 bd, .slice M N cM] (.head _))).cell 0); have cc1 := (((HV.out.row (w.heap.size + 1 + 1) 56 [.int .u16 bd, .slice M N cM] (.head _))).cell 1); simp only [List.getElem?_cons_succ, List.getElem?_cons_zero] at cc0 cc1) | (go_at_call 6; refine (hn1.out _).mono ?_; rintro e w2 ⟨rfl, hb⟩; replace HV := Lib.hid (HV.out.old hb); clear hb; have mk1 : True := trivial; have cb0 := (((HV.out.row (w.heap.size + 1) 25 [.int .i64 k, .int .i64 l, .int .i64 m, .int .i64 n, .int .i64 u, .int .i64 v] (.tail _ (.head _)))).cell 0); have cb1 := (((HV.out.row (w.heap.size + 1) 25 [.int .i64 k, .int .i64 l, .int .i64 m, .int .i64 n, .int .i64 u, .int .i64 v] (.tail _ (.head _)))).cell 1); have cb2 := (((HV.out.row (w.heap.size + 1) 25 [.int .i64 k, .int .i64 l, .int .i64 m, .int .i64 n, .int .i64 u, .int .i64 v] (.tail _ (.head _)))).cell 2); have cb3 := (((HV.out.row (w.heap.size + 1) 25 [.int .i64 k, .int .i64 l, .int .i64 m, .int .i64 n, .int .i64 u, .int .i64 v] (.tail _ (.head _)))).cell 3); have cb4 := (((HV.out.row (w.heap.size + 1) 25 [.int .i64 k, .int .i64 l, .int .i64 m, .int .i64 n, .int .i64 u, .int .i64 v] (.tail _ (.head _)))).cell 4); have cb5 := (((HV.out.row (w.heap.size + 1) 25 [.int .i64 k, .int .i64 l, .int .i64 m, .int .i64 n, .int .i64 u, .int .i64 v] (.tail _ (.head _)))).cell 5); simp only [List.getElem?_cons_succ, List.getElem?_cons_zero] at cb0 cb1 cb2 cb3 cb4 cb5))
 go_wp2_with (first | (go_at_call 5; refine (awake_ok _ HV.out.1).mono ?_; rintro e w2 ⟨rfl, hb⟩; replace HV := Lib.hid (HV.out.old hb); clear hb))
 go_ret
 exact ⟨rfl, HV.out.2.2.2⟩
theorem agrees_out3 (a b c d x y k l m n u v bd : Int) (M : Option Addr) (N cM : Nat) (SC : List Value) (w : World) (hA : AwT w) (hSC : Rd w M SC) (hn1 : ∀ W, Calls Tryz.prog 6 #[.agg #[.int .i64 a, .int .i64 b, .int .i64 c, .int .i64 d, .int .i64 x, .int .i64 y], .int .i64 1000] W fun e w' => e = .returned (.bool true) ∧ Below W.heap.size W w') (hn2 : ∀ W, Calls Tryz.prog 6 #[.agg #[.int .i64 k, .int .i64 l, .int .i64 m, .int .i64 n, .int .i64 u, .int .i64 v], .int .i64 1000] W fun e w' => e = .returned (.bool true) ∧ Below W.heap.size W w') (h8 : 8 < N) : Calls Tryz.prog 4 #[.agg #[.int .i64 a, .int .i64 b, .int .i64 c, .int .i64 d, .int .i64 x, .int .i64 y], .agg #[.int .i64 k, .int .i64 l, .int .i64 m, .int .i64 n, .int .i64 u, .int .i64 v], .agg #[.int .u16 bd, .slice M N cM]] w fun e w' => e = .returned (.bool true) ∧ Below w.heap.size w w' := by
 have HK : Hid (KpT w [((w.heap.size + 1 + 1), 56, [.int .u16 bd, .slice M N cM]), ((w.heap.size + 1), 25, [.int .i64 k, .int .i64 l, .int .i64 m, .int .i64 n, .int .i64 u, .int .i64 v]), (w.heap.size, 25, [.int .i64 a, .int .i64 b, .int .i64 c, .int .i64 d, .int .i64 x, .int .i64 y])] [(M, SC)] (((w.alloc (.cells #[.int .i64 a, .int .i64 b, .int .i64 c, .int .i64 d, .int .i64 x, .int .i64 y] 25)).alloc (.cells #[.int .i64 k, .int .i64 l, .int .i64 m, .int .i64 n, .int .i64 u, .int .i64 v] 25)).alloc (.cells #[.int .u16 bd, .slice M N cM] 56))) := Lib.hid (KpT.cons (KpT.cons (KpT.cons (KpT.old (V := w) ⟨hA, fun r h => (List.not_mem_nil h).elim, fun r h => by rw [List.mem_singleton.1 h]; exact hSC, Below.refl _ _⟩ ((((Below.refl _ _).alloc (Nat.le_refl _) _).alloc (by simp) _).alloc (by simp only [World.size_alloc]; omega) _)) (((Row.new w 25 [.int .i64 a, .int .i64 b, .int .i64 c, .int .i64 d, .int .i64 x, .int .i64 y]).alloc _).alloc _)) (row2.alloc _)) row3)
 replace hn1 := Lib.hid hn1; replace hn2 := Lib.hid hn2
 have i8 : (8 : Int) < (N : Int) := by omega
 clear h8
 clear hA
 go_enter Tryz.func4, Tryz.ntmps4
 go_upto_region 1 with fail
 refine genT (fun V => KpT w [((w.heap.size + 1 + 1), 56, [.int .u16 bd, .slice M N cM]), ((w.heap.size + 1), 25, [.int .i64 k, .int .i64 l, .int .i64 m, .int .i64 n, .int .i64 u, .int .i64 v]), (w.heap.size, 25, [.int .i64 a, .int .i64 b, .int .i64 c, .int .i64 d, .int .i64 x, .int .i64 y])] [(M, SC)] V) HK.out ?_
 clear HK
 intro wc s0
 have HK := Lib.hid s0
 clear s0
 have HV := HK
 go_upto_region 2 with (first | (go_at_call 5; refine (awake_ok _ HV.out.1).mono ?_; rintro e w2 ⟨rfl, hb⟩; replace HV := Lib.hid (HV.out.old hb); clear hb; have ca0 := (((HV.out.row w.heap.size 25 [.int .i64 a, .int .i64 b, .int .i64 c, .int .i64 d, .int .i64 x, .int .i64 y] (.tail _ (.tail _ (.head _))))).cell 0); have ca1 := (((HV.out.row w.heap.size 25 [.int .i64 a, .int .i64 b, .int .i64 c, .int .i64 d, .int .i64 x, .int .i64 y] (.tail _ (.tail _ (.head _))))).cell 1); have ca2 := (((HV.out.row w.heap.size 25 [.int .i64 a, .int .i64 b, .int .i64 c, .int .i64 d, .int .i64 x, .int .i64 y] (.tail _ (.tail _ (.head _))))).cell 2); have ca3 := (((HV.out.row w.heap.size 25 [.int .i64 a, .int .i64 b, .int .i64 c, .int .i64 d, .int .i64 x, .int .i64 y] (.tail _ (.tail _ (.head _))))).cell 3); have ca4 := (((HV.out.row w.heap.size 25 [.int .i64 a, .int .i64 b, .int .i64 c, .int .i64 d, .int .i64 x, .int .i64 y] (.tail _ (.tail _ (.head _))))).cell 4); have ca5 := (((HV.out.row w.heap.size 25 [.int .i64 a, .int .i64 b, .int .i64 c, .int .i64 d, .int .i64 x, .int .i64 y] (.tail _ (.tail _ (.head _))))).cell 5); simp only [List.getElem?_cons_succ, List.getElem?_cons_zero] at ca0 ca1 ca2 ca3 ca4 ca5) | (have _ := mk1; go_at_call 6; refine (hn2.out _).mono ?_; rintro e w2 ⟨rfl, hb⟩; replace HV := Lib.hid (HV.out.old hb); clear hb; have cc0 := (((HV.out.row (w.heap.size + 1 + 1) 56 [.int .u16 bd, .slice M N cM] (.head _))).cell 0); have cc1 := (((HV.out.row (w.heap.size + 1 + 1) 56 [.int .u16 bd, .slice M N cM] (.head _))).cell 1); simp only [List.getElem?_cons_succ, List.getElem?_cons_zero] at cc0 cc1) | (go_at_call 6; refine (hn1.out _).mono ?_; rintro e w2 ⟨rfl, hb⟩; replace HV := Lib.hid (HV.out.old hb); clear hb; have mk1 : True := trivial; have cb0 := (((HV.out.row (w.heap.size + 1) 25 [.int .i64 k, .int .i64 l, .int .i64 m, .int .i64 n, .int .i64 u, .int .i64 v] (.tail _ (.head _)))).cell 0); have cb1 := (((HV.out.row (w.heap.size + 1) 25 [.int .i64 k, .int .i64 l, .int .i64 m, .int .i64 n, .int .i64 u, .int .i64 v] (.tail _ (.head _)))).cell 1); have cb2 := (((HV.out.row (w.heap.size + 1) 25 [.int .i64 k, .int .i64 l, .int .i64 m, .int .i64 n, .int .i64 u, .int .i64 v] (.tail _ (.head _)))).cell 2); have cb3 := (((HV.out.row (w.heap.size + 1) 25 [.int .i64 k, .int .i64 l, .int .i64 m, .int .i64 n, .int .i64 u, .int .i64 v] (.tail _ (.head _)))).cell 3); have cb4 := (((HV.out.row (w.heap.size + 1) 25 [.int .i64 k, .int .i64 l, .int .i64 m, .int .i64 n, .int .i64 u, .int .i64 v] (.tail _ (.head _)))).cell 4); have cb5 := (((HV.out.row (w.heap.size + 1) 25 [.int .i64 k, .int .i64 l, .int .i64 m, .int .i64 n, .int .i64 u, .int .i64 v] (.tail _ (.head _)))).cell 5); simp only [List.getElem?_cons_succ, List.getElem?_cons_zero] at cb0 cb1 cb2 cb3 cb4 cb5))
 go_wp2_with (first | (go_at_call 5; refine (awake_ok _ HV.out.1).mono ?_; rintro e w2 ⟨rfl, hb⟩; replace HV := Lib.hid (HV.out.old hb); clear hb))
 go_ret
 exact ⟨rfl, HV.out.2.2.2⟩
end Go.Proofs.YtaknlhepgeiekaaGreatDoor
