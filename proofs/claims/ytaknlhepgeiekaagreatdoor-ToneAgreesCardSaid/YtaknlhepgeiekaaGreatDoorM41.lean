import Derived.Test.YtaknlhepgeiekaaGreatDoorM38
namespace Go.Proofs.YtaknlhepgeiekaaGreatDoor
set_option linter.all false
open Go.RowKit Go.Fl
set_option maxRecDepth 100000
set_option maxHeartbeats 16000000
abbrev q0 : List Value := [.int .i64 10, .int .i64 0, .int .i64 3, .int .i64 0, .int .i64 1, .int .i64 0]
abbrev q1 : List Value := [.int .i64 1, .int .i64 10]
abbrev q2 : List Value := [.int .i64 3, .int .i64 10]
abbrev q3 : List Value := [.int .i64 1, .int .i64 5]
abbrev q4 : List Value := [.int .i64 2, .int .i64 5]
abbrev q5 : List Value := [.int .i64 0, .int .i64 10, .int .i64 0, .int .i64 3, .int .i64 0, .int .i64 1]
abbrev q6 : List Value := [.int .i64 10, .int .i64 0, .int .i64 0, .int .i64 3, .int .i64 0, .int .i64 1]
abbrev q7 : List Value := [.int .i64 0, .int .i64 1]
abbrev q8 : List Value := [.int .i64 1, .int .i64 68]
abbrev q9 : List Value := [.complex .f32 1096810496 0, .complex .f32 1094713344 0, .complex .f32 1090519040 0, .complex .f32 1086324736 0]
abbrev q10 : List Value := [.int .i64 1, .int .i64 0]
abbrev q11 : List Value := [.int .i64 11, .int .i64 0, .int .i64 2, .int .i64 0, .int .i64 0, .int .i64 0]
abbrev q12 : List Value := [.int .i64 0, .int .i64 0]
abbrev q13 : List Value := [.int .i64 0, .int .i64 0, .int .i64 0, .int .i64 0, .int .i64 0, .int .i64 0]
abbrev q14 : List Value := [.int .i64 10, .int .i64 20]
abbrev q15 : List Value := [.int .i64 0, .int .i64 30]
abbrev q16 : List Value := [.int .i64 11, .int .i64 0, .int .i64 2, .int .i64 0, .int .i64 1, .int .i64 0]
theorem cond9_16 {Q : Exit → Act → World → Prop} {w wc : World} {g33 g27 g13 g11 g9 g7 g5 g3 g2 g1 : Nat} {Aj Am Aw Ax Ay Az AA AB AC AD AE AF AG AH AI AJ AK AL AM AN AO AP AQ AR AS AT AU AV AW AX AY AZ A0 A1 A2 A3 A4 A5 A6 A7 A8 A9 Ba Bb Bc Bd Be Bf Bg Bh Bi Bj Bk Bl Bm Bn Bo Bp Bq Br Bs Bt Bu Bv Bw Bx By Bz BA BB BC BD BE BF BG BH BI BJ BK BL BM BN BO BP BQ BR BS BT BU BV BW BX BY BZ B0 B1 B2 B3 B4 B5 B6 B7 B8 B9 Ca Cb Cc Cd Ce Cf Cg Ch Ci Cj Ck Cl Cm Cn Co Cp Cq Cr Cs Ct Cu Cv Cw Cx Cy Cz CA CB CC CD CE CF CG CH CI CJ CK CL CM CN CO CP CQ CR CS CT CU CV CW CX CY CZ C0 C1 C2 C3 C4 C5 C6 C7 C8 C9 Da Db Dc Dd De Df Dg Dh Di Dj Dk Dl Dm Dn Do Dp Dq Dr Ds Dt Du Dv Dw Dx Dy Dz DA DB DC DD DE DF DG DH DI DJ DK DL DM DN DO DP DQ DR DS DT DU DV DW DX DY DZ D0 D1 D2 D3 D4 D5 D6 D7 D8 D9 Ea Eb Ec Ed Ee Ef Eg Eh Ei Ej Ek El Em En Eo Ep Eq Er Es Et Eu Ev Ew Ex Ey Ez EA EB EC ED EE EF EG EH EI EJ EK EL EM EN EO EP EQ ER ES ET EU EV EW EX EY EZ E0 E1 E2 E3 E4 E5 E6 E7 E8 E9 Fa Fb Fc Fd Fe Ff Fg Fh Fi Fj Fk Fm Fn Fo Fp Fq Fr Fs Ft Fu Fv Fw Fx Fy Fz FA FB FC FD FE FF FG FH FI FJ FK FL FM FN FO FP FQ FR FS FT FU FV FW FX FY FZ F0 F1 F2 F3 F4 F5 F6 F7 F8 F9 Ga Gb Gc Gd Ge Gf Gg Gh Gi Gj Gk Gl Gm Gn Gp Gq Gr Gs Gt Gu Gv Gw Gx Gy Gz GA GB GC GD GE GF GG GH GI GJ GK GL GM GN GO GP GQ GR GS : Value} (ops : Array Oper) (hops : Tryz.f5.body.bind (regOps 16) = some ops) (HK : Hid (KpT w [(g33, 61, q8), (g27, 3, (ints [5, 8, 11])), (g13, 61, q7), (g11, 35, q6), (g9, 35, q5), (g7, 61, q4), (g5, 61, q3), (g3, 61, q1), (g2, 61, q2), (g1, 35, q0)] [] wc)) (hP : ∀ c a w d v, Q (.panic c) (Act.put a d v) w → Q (.panic c) a w) (hQ : ∀ (GT GU GV GW GX GY GZ G0 G1 G2 G3 G4 G5 G6 G7 G8 G9 Ha Hb Hc Hd He Hf Hg Hh Hi Hj Hk Hl Hm Hn Ho Hp Hq Hr Hs Ht Hu Hv Hw Hx Hy Hz HA HB HC HD HE HF HG HH HI HJ HL HM HN HO HP HQ HR HS HT HU HV HW HX HY HZ H0 H1 H2 H3 H4 H5 H6 H7 H8 H9 Ia Ib Ic Id Ie If Ig Ih Ii Ij Ik Il Im In Io Ip Iq Ir Is It Iu Iv Iw Ix Iy : Value) (W' : World), Below wc.heap.size wc W' → Q .normal ⟨([.bool false, .pointer (some ⟨g1, 0, none⟩), .pointer (some ⟨g2, 0, none⟩), .pointer (some ⟨g3, 0, none⟩), .int .i64 0, .pointer (some ⟨g5, 0, none⟩), .int .i64 0, .pointer (some ⟨g7, 0, none⟩), .int .i64 0, .pointer (some ⟨g9, 0, none⟩), .int .i64 0, .pointer (some ⟨g11, 0, none⟩), .int .i64 0, .pointer (some ⟨g13, 0, none⟩), .int .i64 0, .int .i64 20, .string ⟨#[]⟩, .int .i64 0, .int .i64 30, .string ⟨#[]⟩, .int .i64 0, Aj, .string ⟨#[100, 101, 112, 116, 104]⟩, .int .i64 0, Am, .string ⟨#[119, 101, 97, 107]⟩, .int .i64 0, .slice (some ⟨g27, 0, none⟩) 3 3, .int .i64 0, .int .i64 0, .int .i64 0, .int .i64 2, .int .i64 0, .pointer (some ⟨g33, 0, none⟩), .int .i64 0, Aw,Ax,Ay,Az,AA,AB,AC,AD,AE,AF,AG,AH,AI,AJ,AK,AL,AM,AN,AO,AP,AQ,AR,AS,AT,AU,AV,AW,AX,AY,AZ,A0,A1,A2,A3,A4,A5,A6,A7,A8,A9,Ba,Bb,Bc,Bd,Be,Bf,Bg,Bh,Bi,Bj,Bk,Bl,Bm,Bn,Bo,Bp,Bq,Br,Bs,Bt,Bu,Bv,Bw,Bx,By,Bz,BA,BB,BC,BD,BE,BF,BG,BH,BI,BJ,BK,BL,BM,BN,BO,BP,BQ,BR,BS,BT,BU,BV,BW,BX,BY,BZ,B0,B1,B2,B3,B4,B5,B6,B7,B8,B9,Ca,Cb,Cc,Cd,Ce,Cf,Cg,Ch,Ci,Cj,Ck,Cl,Cm,Cn,Co,Cp,GT,GU,GV,GW,GX,GY,GZ,G0,G1,G2,G3,G4,G5,G6,G7,G8,G9,Ha,Hb,Hc,Hd,He,Hf,Hg,Hh,Hi,Hj,Hk,Hl,Hm,Hn,Ho,Hp,Hq,Hr,Hs,Ht,Hu,Hv,Hw,Hx,Hy,Hz,HA,HB,HC,HD,HE,HF,HG,HH,HI,HJ,HL,HM,HN,HO,HP,HQ,HR,HS,HT,HU,HV,HW,HX,HY,HZ,H0,H1,H2,H3,H4,H5,H6,H7,H8,H9,Ia,Ib,Ic,Id,Ie,If,Ig,Ih,Ii,Ij,Ik,Il,Im,In,Io,Ip,Iq,Ir,Is,It,Iu,Iv,Iw,Ix,Iy, .bool false, D6,D7,D8,D9,Ea,Eb,Ec,Ed,Ee,Ef,Eg,Eh,Ei,Ej,Ek,El,Em,En,Eo,Ep,Eq,Er,Es,Et,Eu,Ev,Ew,Ex,Ey,Ez,EA,EB,EC,ED,EE,EF,EG,EH,EI,EJ,EK,EL,EM,EN,EO,EP,EQ,ER,ES,ET,EU,EV,EW,EX,EY,EZ,E0,E1,E2,E3,E4,E5,E6,E7,E8,E9,Fa,Fb,Fc,Fd,Fe,Ff,Fg,Fh,Fi,Fj,Fk,Fm,Fn,Fo,Fp,Fq,Fr,Fs,Ft,Fu,Fv,Fw,Fx,Fy,Fz,FA,FB,FC,FD,FE,FF,FG,FH,FI,FJ,FK,FL,FM,FN,FO,FP,FQ,FR,FS,FT,FU,FV,FW,FX,FY,FZ,F0,F1,F2,F3,F4,F5,F6,F7,F8,F9,Ga,Gb,Gc,Gd,Ge,Gf,Gg,Gh,Gi,Gj,Gk,Gl,Gm,Gn,Gp,Gq,Gr,Gs,Gt,Gu,Gv,Gw,Gx,Gy,Gz,GA,GB,GC,GD,GE,GF,GG,GH,GI,GJ,GK,GL,GM,GN,GO,GP,GQ,GR,GS] : List Value).toArray, []⟩ W') : Code.wp Tryz.prog (Code.region 16 ops true) Q ⟨([.bool false, .pointer (some ⟨g1, 0, none⟩), .pointer (some ⟨g2, 0, none⟩), .pointer (some ⟨g3, 0, none⟩), .int .i64 0, .pointer (some ⟨g5, 0, none⟩), .int .i64 0, .pointer (some ⟨g7, 0, none⟩), .int .i64 0, .pointer (some ⟨g9, 0, none⟩), .int .i64 0, .pointer (some ⟨g11, 0, none⟩), .int .i64 0, .pointer (some ⟨g13, 0, none⟩), .int .i64 0, .int .i64 20, .string ⟨#[]⟩, .int .i64 0, .int .i64 30, .string ⟨#[]⟩, .int .i64 0, Aj, .string ⟨#[100, 101, 112, 116, 104]⟩, .int .i64 0, Am, .string ⟨#[119, 101, 97, 107]⟩, .int .i64 0, .slice (some ⟨g27, 0, none⟩) 3 3, .int .i64 0, .int .i64 0, .int .i64 0, .int .i64 2, .int .i64 0, .pointer (some ⟨g33, 0, none⟩), .int .i64 0, Aw,Ax,Ay,Az,AA,AB,AC,AD,AE,AF,AG,AH,AI,AJ,AK,AL,AM,AN,AO,AP,AQ,AR,AS,AT,AU,AV,AW,AX,AY,AZ,A0,A1,A2,A3,A4,A5,A6,A7,A8,A9,Ba,Bb,Bc,Bd,Be,Bf,Bg,Bh,Bi,Bj,Bk,Bl,Bm,Bn,Bo,Bp,Bq,Br,Bs,Bt,Bu,Bv,Bw,Bx,By,Bz,BA,BB,BC,BD,BE,BF,BG,BH,BI,BJ,BK,BL,BM,BN,BO,BP,BQ,BR,BS,BT,BU,BV,BW,BX,BY,BZ,B0,B1,B2,B3,B4,B5,B6,B7,B8,B9,Ca,Cb,Cc,Cd,Ce,Cf,Cg,Ch,Ci,Cj,Ck,Cl,Cm,Cn,Co,Cp,Cq,Cr,Cs,Ct,Cu,Cv,Cw,Cx,Cy,Cz,CA,CB,CC,CD,CE,CF,CG,CH,CI,CJ,CK,CL,CM,CN,CO,CP,CQ,CR,CS,CT,CU,CV,CW,CX,CY,CZ,C0,C1,C2,C3,C4,C5,C6,C7,C8,C9,Da,Db,Dc,Dd,De,Df,Dg,Dh,Di,Dj,Dk,Dl,Dm,Dn,Do,Dp,Dq,Dr,Ds,Dt,Du,Dv,Dw,Dx,Dy,Dz,DA,DB,DC,DD,DE,DF,DG,DH,DI,DJ,DK,DL,DM,DN,DO,DP,DQ,DR,DS,DT,DU,DV,DW,DX,DY,DZ,D0,D1,D2,D3,D4,D5,D6,D7,D8,D9,Ea,Eb,Ec,Ed,Ee,Ef,Eg,Eh,Ei,Ej,Ek,El,Em,En,Eo,Ep,Eq,Er,Es,Et,Eu,Ev,Ew,Ex,Ey,Ez,EA,EB,EC,ED,EE,EF,EG,EH,EI,EJ,EK,EL,EM,EN,EO,EP,EQ,ER,ES,ET,EU,EV,EW,EX,EY,EZ,E0,E1,E2,E3,E4,E5,E6,E7,E8,E9,Fa,Fb,Fc,Fd,Fe,Ff,Fg,Fh,Fi,Fj,Fk,Fm,Fn,Fo,Fp,Fq,Fr,Fs,Ft,Fu,Fv,Fw,Fx,Fy,Fz,FA,FB,FC,FD,FE,FF,FG,FH,FI,FJ,FK,FL,FM,FN,FO,FP,FQ,FR,FS,FT,FU,FV,FW,FX,FY,FZ,F0,F1,F2,F3,F4,F5,F6,F7,F8,F9,Ga,Gb,Gc,Gd,Ge,Gf,Gg,Gh,Gi,Gj,Gk,Gl,Gm,Gn,Gp,Gq,Gr,Gs,Gt,Gu,Gv,Gw,Gx,Gy,Gz,GA,GB,GC,GD,GE,GF,GG,GH,GI,GJ,GK,GL,GM,GN,GO,GP,GQ,GR,GS] : List Value).toArray, []⟩ wc := by
 obtain ⟨ops', ho⟩ : ∃ o, o = ops := ⟨_, rfl⟩
 cases hops
 clear ho
 refine ord_start (S := fun V => Below wc.heap.size wc V) 104 [0, 0, 2, 0, 4, 0, 6, 0, 8, 0, 10, 0, 12, 0, 14, 0, 16, 0, 18, 0, 20, 0, 22, 0, 24, 0, 26, 27, 28, 29, 29, 31, 32, 33, 34, 34, 36, 37, 38, 39, 39, 41, 42, 43, 44, 44, 46, 47, 48, 49, 49, 51, 52, 53, 54, 55, 56, 57, 57, 59, 60, 61, 62, 63, 64, 65, 66, 67, 68, 69, 70, 71, 72, 73, 74, 75, 76, 77, 78, 79, 80, 81, 82, 83, 84, 85, 86, 86, 88, 89, 90, 91, 92, 93, 94, 95, 96, 97, 98, 99, 100, 100, 102, 103] [0, 1, 2, 3, 4, 5, 6, 7, 8, 9, 10, 11, 12, 13, 14, 15, 16, 17, 18, 19, 20, 21, 22, 23, 24, 29, 34, 39, 44, 49, 57, 86, 100] (OrdOk.of ord9_16 (by kernel_rfl)) (by kernel_rfl) ?_ (fun hF hHeld => ?_)
 · exact (Below.refl _ _).drew
 refine ord_takeL hF 0 (by decide) (v := .int .i64 0) rfl (fun c a w h => hP c a w _ _ h) (Or.inl ⟨by kernel_rfl, fun V hV => by kernel_rfl⟩) hHeld ?_
 dsimp only [List.set_cons_succ, List.set_cons_zero]
 refine ord_takeL hF 1 (by decide) (v := .int .i64 0) rfl (fun c a w h => hP c a w _ _ h) (Or.inl ⟨by kernel_rfl, fun V hV => by kernel_rfl⟩) hHeld ?_
 dsimp only [List.set_cons_succ, List.set_cons_zero]
 refine ord_takeL hF 2 (by decide) (v := .int .i64 0) rfl (fun c a w h => hP c a w _ _ h) (Or.inl ⟨by kernel_rfl, fun V hV => by kernel_rfl⟩) hHeld ?_
 dsimp only [List.set_cons_succ, List.set_cons_zero]
 refine ord_takeL hF 3 (by decide) (v := .int .i64 0) rfl (fun c a w h => hP c a w _ _ h) (Or.inl ⟨by kernel_rfl, fun V hV => by kernel_rfl⟩) hHeld ?_
 dsimp only [List.set_cons_succ, List.set_cons_zero]
 refine ord_takeL hF 4 (by decide) (v := .int .i64 0) rfl (fun c a w h => hP c a w _ _ h) (Or.inl ⟨by kernel_rfl, fun V hV => by kernel_rfl⟩) hHeld ?_
 dsimp only [List.set_cons_succ, List.set_cons_zero]
 refine ord_takeL hF 5 (by decide) (v := .int .i64 0) rfl (fun c a w h => hP c a w _ _ h) (Or.inl ⟨by kernel_rfl, fun V hV => by kernel_rfl⟩) hHeld ?_
 dsimp only [List.set_cons_succ, List.set_cons_zero]
 refine ord_takeL hF 6 (by decide) (v := .int .i64 0) rfl (fun c a w h => hP c a w _ _ h) (Or.inl ⟨by kernel_rfl, fun V hV => by kernel_rfl⟩) hHeld ?_
 dsimp only [List.set_cons_succ, List.set_cons_zero]
 refine ord_takeL hF 7 (by decide) (v := .int .i64 0) rfl (fun c a w h => hP c a w _ _ h) (Or.inl ⟨by kernel_rfl, fun V hV => by kernel_rfl⟩) hHeld ?_
 dsimp only [List.set_cons_succ, List.set_cons_zero]
 refine ord_takeL hF 8 (by decide) (v := .int .i64 0) rfl (fun c a w h => hP c a w _ _ h) (Or.inl ⟨by kernel_rfl, fun V hV => by kernel_rfl⟩) hHeld ?_
 dsimp only [List.set_cons_succ, List.set_cons_zero]
 refine ord_takeL hF 9 (by decide) (v := .int .i64 0) rfl (fun c a w h => hP c a w _ _ h) (Or.inl ⟨by kernel_rfl, fun V hV => by kernel_rfl⟩) hHeld ?_
 dsimp only [List.set_cons_succ, List.set_cons_zero]
 refine ord_takeL hF 10 (by decide) (v := .int .i64 0) rfl (fun c a w h => hP c a w _ _ h) (Or.inl ⟨by kernel_rfl, fun V hV => by kernel_rfl⟩) hHeld ?_
 dsimp only [List.set_cons_succ, List.set_cons_zero]
 refine ord_takeL hF 11 (by decide) (v := .int .i64 0) rfl (fun c a w h => hP c a w _ _ h) (Or.inl ⟨by kernel_rfl, fun V hV => by kernel_rfl⟩) hHeld ?_
 dsimp only [List.set_cons_succ, List.set_cons_zero]
 refine ord_takeL hF 12 (by decide) (v := .int .i64 0) rfl (fun c a w h => hP c a w _ _ h) (Or.inl ⟨by kernel_rfl, fun V hV => by kernel_rfl⟩) hHeld ?_
 dsimp only [List.set_cons_succ, List.set_cons_zero]
 refine ord_takeL hF 13 (by decide) (v := .int .i64 0) rfl (fun c a w h => hP c a w _ _ h) (Or.inl ⟨by kernel_rfl, fun V hV => by kernel_rfl⟩) hHeld ?_
 dsimp only [List.set_cons_succ, List.set_cons_zero]
 refine ord_takeL hF 14 (by decide) (v := .int .i64 0) rfl (fun c a w h => hP c a w _ _ h) (Or.inl ⟨by kernel_rfl, fun V hV => by kernel_rfl⟩) hHeld ?_
 dsimp only [List.set_cons_succ, List.set_cons_zero]
 refine ord_takeL hF 15 (by decide) (v := .int .i64 0) rfl (fun c a w h => hP c a w _ _ h) (Or.inl ⟨by kernel_rfl, fun V hV => by kernel_rfl⟩) hHeld ?_
 dsimp only [List.set_cons_succ, List.set_cons_zero]
 refine ord_takeL hF 16 (by decide) (v := .int .i64 0) rfl (fun c a w h => hP c a w _ _ h) (Or.inl ⟨by kernel_rfl, fun V hV => by kernel_rfl⟩) hHeld ?_
 dsimp only [List.set_cons_succ, List.set_cons_zero]
 refine ord_takeL hF 17 (by decide) (v := .int .i64 0) rfl (fun c a w h => hP c a w _ _ h) (Or.inl ⟨by kernel_rfl, fun V hV => by kernel_rfl⟩) hHeld ?_
 dsimp only [List.set_cons_succ, List.set_cons_zero]
 refine ord_takeL hF 18 (by decide) (v := .int .i64 0) rfl (fun c a w h => hP c a w _ _ h) (Or.inl ⟨by kernel_rfl, fun V hV => by kernel_rfl⟩) hHeld ?_
 dsimp only [List.set_cons_succ, List.set_cons_zero]
 refine ord_takeL hF 19 (by decide) (v := .int .i64 0) rfl (fun c a w h => hP c a w _ _ h) (Or.inl ⟨by kernel_rfl, fun V hV => by kernel_rfl⟩) hHeld ?_
 dsimp only [List.set_cons_succ, List.set_cons_zero]
 refine ord_takeL hF 20 (by decide) (v := .int .i64 0) rfl (fun c a w h => hP c a w _ _ h) (Or.inl ⟨by kernel_rfl, fun V hV => by kernel_rfl⟩) hHeld ?_
 dsimp only [List.set_cons_succ, List.set_cons_zero]
 refine ord_takeL hF 21 (by decide) (v := .int .i64 0) rfl (fun c a w h => hP c a w _ _ h) (Or.inl ⟨by kernel_rfl, fun V hV => by kernel_rfl⟩) hHeld ?_
 dsimp only [List.set_cons_succ, List.set_cons_zero]
 refine ord_takeL hF 22 (by decide) (v := .int .i64 0) rfl (fun c a w h => hP c a w _ _ h) (Or.inl ⟨by kernel_rfl, fun V hV => by kernel_rfl⟩) hHeld ?_
 dsimp only [List.set_cons_succ, List.set_cons_zero]
 refine ord_takeL hF 23 (by decide) (v := .int .i64 0) rfl (fun c a w h => hP c a w _ _ h) (Or.inl ⟨by kernel_rfl, fun V hV => by kernel_rfl⟩) hHeld ?_
 dsimp only [List.set_cons_succ, List.set_cons_zero]
 refine ord_takeL hF 24 (by decide) (v := .int .i64 0) rfl (fun c a w h => hP c a w _ _ h) (Or.inl ⟨by kernel_rfl, fun V hV => by kernel_rfl⟩) hHeld ?_
 dsimp only [List.set_cons_succ, List.set_cons_zero]
 refine ord_oneL hF 25 (by decide) (v := .int .i64 0) rfl (Or.inl ⟨by kernel_rfl, fun V hV => by kernel_rfl⟩) hHeld ?_
 dsimp only [List.set_cons_succ, List.set_cons_zero]
 refine ord_oneL hF 26 (by decide) (v := .int .i64 0) rfl (Or.inl ⟨by kernel_rfl, fun V hV => by kernel_rfl⟩) hHeld ?_
 dsimp only [List.set_cons_succ, List.set_cons_zero]
 refine ord_oneL hF 27 (by decide) (v := .bool false) rfl (Or.inl ⟨by kernel_rfl, fun V hV => by kernel_rfl⟩) hHeld ?_
 dsimp only [List.set_cons_succ, List.set_cons_zero]
 refine ord_oneL hF 28 (by decide) (v := .bool false) rfl (Or.inl ⟨by kernel_rfl, fun V hV => by kernel_rfl⟩) hHeld ?_
 dsimp only [List.set_cons_succ, List.set_cons_zero]
 refine ord_takeL hF 29 (by decide) (v := .agg #[.int .i64 3, .int .i64 10]) rfl (fun c a w h => hP c a w _ _ h) (Or.inl ⟨by kernel_rfl, fun V hV => ex_rowT 61 _ rfl (g2) rfl 61 [.int .i64 3, .int .i64 10] _ Tryz.underlying61 rfl (by kernel_rfl) ((HK.out.old hV).row g2 61 q2 (.tail _ (.tail _ (.tail _ (.tail _ (.tail _ (.tail _ (.tail _ (.tail _ (.head _))))))))))⟩) hHeld ?_
 dsimp only [List.set_cons_succ, List.set_cons_zero]
 refine ord_step hF 30 (by decide) rfl (fun K hK => ?_)
 go_simp
 go_at_call 28
 refine (ratio2_any _ _ _).mono ?_
 rintro e v30 ⟨rfl, hb30⟩
 try go_simp
 refine hK.out _ _ ?_ (fun hHeld => ?_)
 · exact hHeld.trans (hb30.mono hHeld.size)
 clear hK K
 try simp only [zz]
 refine ord_oneL hF 31 (by decide) (v := .bool false) rfl (Or.inl ⟨by kernel_rfl, fun V hV => by kernel_rfl⟩) hHeld ?_
 dsimp only [List.set_cons_succ, List.set_cons_zero]
 refine ord_oneL hF 32 (by decide) (v := .bool false) rfl (Or.inl ⟨by kernel_rfl, fun V hV => by kernel_rfl⟩) hHeld ?_
 dsimp only [List.set_cons_succ, List.set_cons_zero]
 refine ord_oneL hF 33 (by decide) (v := .bool false) rfl (Or.inl ⟨by kernel_rfl, fun V hV => by kernel_rfl⟩) hHeld ?_
 dsimp only [List.set_cons_succ, List.set_cons_zero]
 refine ord_takeL hF 34 (by decide) (v := .agg #[.int .i64 1, .int .i64 10]) rfl (fun c a w h => hP c a w _ _ h) (Or.inl ⟨by kernel_rfl, fun V hV => ex_rowT 61 _ rfl (g3) rfl 61 [.int .i64 1, .int .i64 10] _ Tryz.underlying61 rfl (by kernel_rfl) ((HK.out.old hV).row g3 61 q1 (.tail _ (.tail _ (.tail _ (.tail _ (.tail _ (.tail _ (.tail _ (.head _)))))))))⟩) hHeld ?_
 dsimp only [List.set_cons_succ, List.set_cons_zero]
 refine ord_step hF 35 (by decide) rfl (fun K hK => ?_)
 go_simp
 go_at_call 28
 refine (ratio2_any _ _ _).mono ?_
 rintro e v35 ⟨rfl, hb35⟩
 try go_simp
 refine hK.out _ _ ?_ (fun hHeld => ?_)
 · exact hHeld.trans (hb35.mono hHeld.size)
 clear hK K
 try simp only [zz]
 refine ord_oneL hF 36 (by decide) (v := .bool false) rfl (Or.inl ⟨by kernel_rfl, fun V hV => by kernel_rfl⟩) hHeld ?_
 dsimp only [List.set_cons_succ, List.set_cons_zero]
 refine ord_oneL hF 37 (by decide) (v := .bool false) rfl (Or.inl ⟨by kernel_rfl, fun V hV => by kernel_rfl⟩) hHeld ?_
 dsimp only [List.set_cons_succ, List.set_cons_zero]
 refine ord_oneL hF 38 (by decide) (v := .bool false) rfl (Or.inl ⟨by kernel_rfl, fun V hV => by kernel_rfl⟩) hHeld ?_
 dsimp only [List.set_cons_succ, List.set_cons_zero]
 refine ord_takeL hF 39 (by decide) (v := .agg #[.int .i64 1, .int .i64 5]) rfl (fun c a w h => hP c a w _ _ h) (Or.inl ⟨by kernel_rfl, fun V hV => ex_rowT 61 _ rfl (g5) rfl 61 [.int .i64 1, .int .i64 5] _ Tryz.underlying61 rfl (by kernel_rfl) ((HK.out.old hV).row g5 61 q3 (.tail _ (.tail _ (.tail _ (.tail _ (.tail _ (.tail _ (.head _))))))))⟩) hHeld ?_
 dsimp only [List.set_cons_succ, List.set_cons_zero]
 refine ord_step hF 40 (by decide) rfl (fun K hK => ?_)
 go_simp
 go_at_call 28
 refine (ratio2_any _ _ _).mono ?_
 rintro e v40 ⟨rfl, hb40⟩
 try go_simp
 refine hK.out _ _ ?_ (fun hHeld => ?_)
 · exact hHeld.trans (hb40.mono hHeld.size)
 clear hK K
 try simp only [zz]
 refine ord_oneL hF 41 (by decide) (v := .bool false) rfl (Or.inl ⟨by kernel_rfl, fun V hV => by kernel_rfl⟩) hHeld ?_
 dsimp only [List.set_cons_succ, List.set_cons_zero]
 refine ord_oneL hF 42 (by decide) (v := .bool false) rfl (Or.inl ⟨by kernel_rfl, fun V hV => by kernel_rfl⟩) hHeld ?_
 dsimp only [List.set_cons_succ, List.set_cons_zero]
 refine ord_oneL hF 43 (by decide) (v := .bool false) rfl (Or.inl ⟨by kernel_rfl, fun V hV => by kernel_rfl⟩) hHeld ?_
 dsimp only [List.set_cons_succ, List.set_cons_zero]
 refine ord_takeL hF 44 (by decide) (v := .agg #[.int .i64 2, .int .i64 5]) rfl (fun c a w h => hP c a w _ _ h) (Or.inl ⟨by kernel_rfl, fun V hV => ex_rowT 61 _ rfl (g7) rfl 61 [.int .i64 2, .int .i64 5] _ Tryz.underlying61 rfl (by kernel_rfl) ((HK.out.old hV).row g7 61 q4 (.tail _ (.tail _ (.tail _ (.tail _ (.tail _ (.head _)))))))⟩) hHeld ?_
 dsimp only [List.set_cons_succ, List.set_cons_zero]
 refine ord_step hF 45 (by decide) rfl (fun K hK => ?_)
 go_simp
 go_at_call 28
 refine (ratio2_any _ _ _).mono ?_
 rintro e v45 ⟨rfl, hb45⟩
 try go_simp
 refine hK.out _ _ ?_ (fun hHeld => ?_)
 · exact hHeld.trans (hb45.mono hHeld.size)
 clear hK K
 try simp only [zz]
 refine ord_oneL hF 46 (by decide) (v := .bool false) rfl (Or.inl ⟨by kernel_rfl, fun V hV => by kernel_rfl⟩) hHeld ?_
 dsimp only [List.set_cons_succ, List.set_cons_zero]
 refine ord_oneL hF 47 (by decide) (v := .bool false) rfl (Or.inl ⟨by kernel_rfl, fun V hV => by kernel_rfl⟩) hHeld ?_
 dsimp only [List.set_cons_succ, List.set_cons_zero]
 refine ord_oneL hF 48 (by decide) (v := .bool false) rfl (Or.inl ⟨by kernel_rfl, fun V hV => by kernel_rfl⟩) hHeld ?_
 dsimp only [List.set_cons_succ, List.set_cons_zero]
 refine ord_takeL hF 49 (by decide) (v := .agg #[.int .i64 0, .int .i64 10, .int .i64 0, .int .i64 3, .int .i64 0, .int .i64 1]) rfl (fun c a w h => hP c a w _ _ h) (Or.inl ⟨by kernel_rfl, fun V hV => ex_rowT 35 _ rfl (g9) rfl 35 [.int .i64 0, .int .i64 10, .int .i64 0, .int .i64 3, .int .i64 0, .int .i64 1] _ Tryz.underlying35 rfl (by kernel_rfl) ((HK.out.old hV).row g9 35 q5 (.tail _ (.tail _ (.tail _ (.tail _ (.head _))))))⟩) hHeld ?_
 dsimp only [List.set_cons_succ, List.set_cons_zero]
 refine ord_step hF 50 (by decide) rfl (fun K hK => ?_)
 go_simp
 go_at_call 7
 refine (at2_any _ _ _).mono ?_
 rintro e v50 ⟨rfl, hb50⟩
 try go_simp
 refine hK.out _ _ ?_ (fun hHeld => ?_)
 · exact hHeld.trans (hb50.mono hHeld.size)
 clear hK K
 try simp only [zz]
 refine ord_step hF 51 (by decide) rfl (fun K hK => ?_)
 go_simp
 go_at_call 7
 refine (at2_any _ _ _).mono ?_
 rintro e v51 ⟨rfl, hb51⟩
 try go_simp
 refine hK.out _ _ ?_ (fun hHeld => ?_)
 · exact hHeld.trans (hb51.mono hHeld.size)
 clear hK K
 try simp only [zz]
 refine ord_step hF 52 (by decide) rfl (fun K hK => ?_)
 go_simp
 go_at_call 7
 refine (at2_any _ _ _).mono ?_
 rintro e v52 ⟨rfl, hb52⟩
 try go_simp
 refine hK.out _ _ ?_ (fun hHeld => ?_)
 · exact hHeld.trans (hb52.mono hHeld.size)
 clear hK K
 try simp only [zz]
 refine ord_oneL hF 53 (by decide) (v := .agg #[.int .i64 0, .int .i64 10, .int .i64 0, .int .i64 3, .int .i64 0, .int .i64 1]) rfl (Or.inl ⟨by kernel_rfl, fun V hV => by kernel_rfl⟩) hHeld ?_
 dsimp only [List.set_cons_succ, List.set_cons_zero]
 refine ord_oneL hF 54 (by decide) (v := .bool false) rfl (Or.inl ⟨by kernel_rfl, fun V hV => by kernel_rfl⟩) hHeld ?_
 dsimp only [List.set_cons_succ, List.set_cons_zero]
 refine ord_oneL hF 55 (by decide) (v := .bool false) rfl (Or.inl ⟨by kernel_rfl, fun V hV => by kernel_rfl⟩) hHeld ?_
 dsimp only [List.set_cons_succ, List.set_cons_zero]
 refine ord_oneL hF 56 (by decide) (v := .bool false) rfl (Or.inl ⟨by kernel_rfl, fun V hV => by kernel_rfl⟩) hHeld ?_
 dsimp only [List.set_cons_succ, List.set_cons_zero]
 refine ord_takeL hF 57 (by decide) (v := .agg #[.int .i64 0, .int .i64 1]) rfl (fun c a w h => hP c a w _ _ h) (Or.inl ⟨by kernel_rfl, fun V hV => ex_rowT 61 _ rfl (g13) rfl 61 [.int .i64 0, .int .i64 1] _ Tryz.underlying61 rfl (by kernel_rfl) ((HK.out.old hV).row g13 61 q7 (.tail _ (.tail _ (.head _))))⟩) hHeld ?_
 dsimp only [List.set_cons_succ, List.set_cons_zero]
 refine ord_step hF 58 (by decide) rfl (fun K hK => ?_)
 go_simp
 go_at_call 28
 refine (ratio2_any _ _ _).mono ?_
 rintro e v58 ⟨rfl, hb58⟩
 try go_simp
 refine hK.out _ _ ?_ (fun hHeld => ?_)
 · exact hHeld.trans (hb58.mono hHeld.size)
 clear hK K
 try simp only [zz]
 refine ord_oneL hF 59 (by decide) (v := .bool false) rfl (Or.inl ⟨by kernel_rfl, fun V hV => by kernel_rfl⟩) hHeld ?_
 dsimp only [List.set_cons_succ, List.set_cons_zero]
 refine ord_oneL hF 60 (by decide) (v := .bool false) rfl (Or.inl ⟨by kernel_rfl, fun V hV => by kernel_rfl⟩) hHeld ?_
 dsimp only [List.set_cons_succ, List.set_cons_zero]
 refine ord_oneL hF 61 (by decide) (v := .bool false) rfl (Or.inl ⟨by kernel_rfl, fun V hV => by kernel_rfl⟩) hHeld ?_
 dsimp only [List.set_cons_succ, List.set_cons_zero]
 refine ord_oneL hF 62 (by decide) (v := .int .i64 20) rfl (Or.inl ⟨by kernel_rfl, fun V hV => by kernel_rfl⟩) hHeld ?_
 dsimp only [List.set_cons_succ, List.set_cons_zero]
 refine ord_oneL hF 63 (by decide) (v := .bool false) rfl (Or.inl ⟨by kernel_rfl, fun V hV => by kernel_rfl⟩) hHeld ?_
 dsimp only [List.set_cons_succ, List.set_cons_zero]
 refine ord_oneL hF 64 (by decide) (v := .bool false) rfl (Or.inl ⟨by kernel_rfl, fun V hV => by kernel_rfl⟩) hHeld ?_
 dsimp only [List.set_cons_succ, List.set_cons_zero]
 refine ord_oneL hF 65 (by decide) (v := .bool false) rfl (Or.inl ⟨by kernel_rfl, fun V hV => by kernel_rfl⟩) hHeld ?_
 dsimp only [List.set_cons_succ, List.set_cons_zero]
 refine ord_oneL hF 66 (by decide) (v := .string ⟨#[]⟩) rfl (Or.inl ⟨by kernel_rfl, fun V hV => by kernel_rfl⟩) hHeld ?_
 dsimp only [List.set_cons_succ, List.set_cons_zero]
 refine ord_oneL hF 67 (by decide) (v := .bool false) rfl (Or.inl ⟨by kernel_rfl, fun V hV => by kernel_rfl⟩) hHeld ?_
 dsimp only [List.set_cons_succ, List.set_cons_zero]
 refine ord_oneL hF 68 (by decide) (v := .bool false) rfl (Or.inl ⟨by kernel_rfl, fun V hV => by kernel_rfl⟩) hHeld ?_
 dsimp only [List.set_cons_succ, List.set_cons_zero]
 refine ord_oneL hF 69 (by decide) (v := .bool false) rfl (Or.inl ⟨by kernel_rfl, fun V hV => by kernel_rfl⟩) hHeld ?_
 dsimp only [List.set_cons_succ, List.set_cons_zero]
 refine ord_oneL hF 70 (by decide) (v := .int .i64 30) rfl (Or.inl ⟨by kernel_rfl, fun V hV => by kernel_rfl⟩) hHeld ?_
 dsimp only [List.set_cons_succ, List.set_cons_zero]
 refine ord_oneL hF 71 (by decide) (v := .bool false) rfl (Or.inl ⟨by kernel_rfl, fun V hV => by kernel_rfl⟩) hHeld ?_
 dsimp only [List.set_cons_succ, List.set_cons_zero]
 refine ord_oneL hF 72 (by decide) (v := .bool false) rfl (Or.inl ⟨by kernel_rfl, fun V hV => by kernel_rfl⟩) hHeld ?_
 dsimp only [List.set_cons_succ, List.set_cons_zero]
 refine ord_oneL hF 73 (by decide) (v := .bool false) rfl (Or.inl ⟨by kernel_rfl, fun V hV => by kernel_rfl⟩) hHeld ?_
 dsimp only [List.set_cons_succ, List.set_cons_zero]
 refine ord_oneL hF 74 (by decide) (v := .string ⟨#[]⟩) rfl (Or.inl ⟨by kernel_rfl, fun V hV => by kernel_rfl⟩) hHeld ?_
 dsimp only [List.set_cons_succ, List.set_cons_zero]
 refine ord_oneL hF 75 (by decide) (v := .bool false) rfl (Or.inl ⟨by kernel_rfl, fun V hV => by kernel_rfl⟩) hHeld ?_
 dsimp only [List.set_cons_succ, List.set_cons_zero]
 refine ord_oneL hF 76 (by decide) (v := .bool false) rfl (Or.inl ⟨by kernel_rfl, fun V hV => by kernel_rfl⟩) hHeld ?_
 dsimp only [List.set_cons_succ, List.set_cons_zero]
 refine ord_oneL hF 77 (by decide) (v := .bool false) rfl (Or.inl ⟨by kernel_rfl, fun V hV => by kernel_rfl⟩) hHeld ?_
 dsimp only [List.set_cons_succ, List.set_cons_zero]
 refine ord_oneL hF 78 (by decide) (v := .string ⟨#[100, 101, 112, 116, 104]⟩) rfl (Or.inl ⟨by kernel_rfl, fun V hV => by kernel_rfl⟩) hHeld ?_
 dsimp only [List.set_cons_succ, List.set_cons_zero]
 refine ord_oneL hF 79 (by decide) (v := .bool false) rfl (Or.inl ⟨by kernel_rfl, fun V hV => by kernel_rfl⟩) hHeld ?_
 dsimp only [List.set_cons_succ, List.set_cons_zero]
 refine ord_oneL hF 80 (by decide) (v := .bool false) rfl (Or.inl ⟨by kernel_rfl, fun V hV => by kernel_rfl⟩) hHeld ?_
 dsimp only [List.set_cons_succ, List.set_cons_zero]
 refine ord_oneL hF 81 (by decide) (v := .bool false) rfl (Or.inl ⟨by kernel_rfl, fun V hV => by kernel_rfl⟩) hHeld ?_
 dsimp only [List.set_cons_succ, List.set_cons_zero]
 refine ord_oneL hF 82 (by decide) (v := .string ⟨#[119, 101, 97, 107]⟩) rfl (Or.inl ⟨by kernel_rfl, fun V hV => by kernel_rfl⟩) hHeld ?_
 dsimp only [List.set_cons_succ, List.set_cons_zero]
 refine ord_oneL hF 83 (by decide) (v := .bool false) rfl (Or.inl ⟨by kernel_rfl, fun V hV => by kernel_rfl⟩) hHeld ?_
 dsimp only [List.set_cons_succ, List.set_cons_zero]
 refine ord_oneL hF 84 (by decide) (v := .bool false) rfl (Or.inl ⟨by kernel_rfl, fun V hV => by kernel_rfl⟩) hHeld ?_
 dsimp only [List.set_cons_succ, List.set_cons_zero]
 refine ord_oneL hF 85 (by decide) (v := .bool false) rfl (Or.inl ⟨by kernel_rfl, fun V hV => by kernel_rfl⟩) hHeld ?_
 dsimp only [List.set_cons_succ, List.set_cons_zero]
 refine ord_takeL hF 86 (by decide) (v := .slice (some ⟨g27, 0, none⟩) 3 3) rfl (fun c a w h => hP c a w _ _ h) (Or.inl ⟨by kernel_rfl, fun V hV => by kernel_rfl⟩) hHeld ?_
 dsimp only [List.set_cons_succ, List.set_cons_zero]
 refine ord_step hF 87 (by decide) rfl (fun K hK => ?_)
 go_simp
 refine hK.out _ _ ?_ (fun hHeld => ?_)
 · exact hHeld.alloc hHeld.size _
 clear hK K
 try simp only [zz]
 refine ord_step hF 88 (by decide) rfl (fun K hK => ?_)
 go_simp
 go_at_call 35
 refine (sameInts_any _ _ _ _ _ _ [5, 8, 11] [5, 8, 11] _ ((Rd.row ((HK.out.old (hHeld)).row g27 3 (ints [5, 8, 11]) (.tail _ (.head _))))) (show Rd _ _ (ints [5, 8, 11]) from Rd.row (t := 3) (by repeat (first | with_reducible exact Row.new _ _ _ | (refine rowAt _ _ ?_; rfl)))) rfl rfl (by decide) (by decide)).mono ?_
 rintro e v88 ⟨rfl, qq, rfl⟩
 try go_simp
 refine hK.out _ _ ?_ (fun hHeld => ?_)
 · exact hHeld.trans ((below_drewN (Below.refl _ _) qq).mono hHeld.size)
 clear hK K
 try simp only [zz]
 refine ord_oneL hF 89 (by decide) (v := .bool false) rfl (Or.inl ⟨by kernel_rfl, fun V hV => by kernel_rfl⟩) hHeld ?_
 dsimp only [List.set_cons_succ, List.set_cons_zero]
 refine ord_oneL hF 90 (by decide) (v := .bool false) rfl (Or.inl ⟨by kernel_rfl, fun V hV => by kernel_rfl⟩) hHeld ?_
 dsimp only [List.set_cons_succ, List.set_cons_zero]
 refine ord_oneL hF 91 (by decide) (v := .bool false) rfl (Or.inl ⟨by kernel_rfl, fun V hV => by kernel_rfl⟩) hHeld ?_
 dsimp only [List.set_cons_succ, List.set_cons_zero]
 refine ord_oneL hF 92 (by decide) (v := .int .i64 0) rfl (Or.inl ⟨by kernel_rfl, fun V hV => by kernel_rfl⟩) hHeld ?_
 dsimp only [List.set_cons_succ, List.set_cons_zero]
 refine ord_oneL hF 93 (by decide) (v := .bool false) rfl (Or.inl ⟨by kernel_rfl, fun V hV => by kernel_rfl⟩) hHeld ?_
 dsimp only [List.set_cons_succ, List.set_cons_zero]
 refine ord_oneL hF 94 (by decide) (v := .bool false) rfl (Or.inl ⟨by kernel_rfl, fun V hV => by kernel_rfl⟩) hHeld ?_
 dsimp only [List.set_cons_succ, List.set_cons_zero]
 refine ord_oneL hF 95 (by decide) (v := .bool false) rfl (Or.inl ⟨by kernel_rfl, fun V hV => by kernel_rfl⟩) hHeld ?_
 dsimp only [List.set_cons_succ, List.set_cons_zero]
 refine ord_oneL hF 96 (by decide) (v := .int .i64 2) rfl (Or.inl ⟨by kernel_rfl, fun V hV => by kernel_rfl⟩) hHeld ?_
 dsimp only [List.set_cons_succ, List.set_cons_zero]
 refine ord_oneL hF 97 (by decide) (v := .bool false) rfl (Or.inl ⟨by kernel_rfl, fun V hV => by kernel_rfl⟩) hHeld ?_
 dsimp only [List.set_cons_succ, List.set_cons_zero]
 refine ord_oneL hF 98 (by decide) (v := .bool false) rfl (Or.inl ⟨by kernel_rfl, fun V hV => by kernel_rfl⟩) hHeld ?_
 dsimp only [List.set_cons_succ, List.set_cons_zero]
 refine ord_oneL hF 99 (by decide) (v := .bool false) rfl (Or.inl ⟨by kernel_rfl, fun V hV => by kernel_rfl⟩) hHeld ?_
 dsimp only [List.set_cons_succ, List.set_cons_zero]
 refine ord_takeL hF 100 (by decide) (v := .agg #[.int .i64 1, .int .i64 68]) rfl (fun c a w h => hP c a w _ _ h) (Or.inl ⟨by kernel_rfl, fun V hV => ex_rowT 61 _ rfl (g33) rfl 61 [.int .i64 1, .int .i64 68] _ Tryz.underlying61 rfl (by kernel_rfl) ((HK.out.old hV).row g33 61 q8 (.head _))⟩) hHeld ?_
 dsimp only [List.set_cons_succ, List.set_cons_zero]
 refine ord_step hF 101 (by decide) rfl (fun K hK => ?_)
 go_simp
 go_at_call 28
 refine (ratio2_any _ _ _).mono ?_
 rintro e v101 ⟨rfl, hb101⟩
 try go_simp
 refine hK.out _ _ ?_ (fun hHeld => ?_)
 · exact hHeld.trans (hb101.mono hHeld.size)
 clear hK K
 try simp only [zz]
 refine ord_oneL hF 102 (by decide) (v := .bool false) rfl (Or.inl ⟨by kernel_rfl, fun V hV => by kernel_rfl⟩) hHeld ?_
 dsimp only [List.set_cons_succ, List.set_cons_zero]
 refine ord_oneL hF 103 (by decide) (v := .bool false) rfl (Or.inl ⟨by kernel_rfl, fun V hV => by kernel_rfl⟩) hHeld ?_
 dsimp only [List.set_cons_succ, List.set_cons_zero]
 refine ord_done hF ?_
 exact hQ _ _ _ _ _ _ _ _ _ _ _ _ _ _ _ _ _ _ _ _ _ _ _ _ _ _ _ _ _ _ _ _ _ _ _ _ _ _ _ _ _ _ _ _ _ _ _ _ _ _ _ _ _ _ _ _ _ _ _ _ _ _ _ _ _ _ _ _ _ _ _ _ _ _ _ _ _ _ _ _ _ _ _ _ _ _ _ _ _ _ _ _ _ _ _ _ _ _ _ _ _ _ _ _ hHeld
theorem cond9_29 {Q : Exit → Act → World → Prop} {w wc : World} {g59 g48 g46 g44 g43 g41 g40 g38 g37 g35 g33 g27 g13 g11 g9 g7 g5 g3 g2 g1 : Nat} {A50 A52 : Option Addr} {b56 c50 c52 c56 o56 : Nat} {x4 x6 x8 Aa Ab Ac Ad Ae Af Ag Ah Ai Aj Ak Al Am An Ao Ap Aq Ar As At Au Av AW AX AY AZ A0 A1 A2 A3 A4 A5 A6 A7 A8 A9 Ba Bb Bc Bd Be Bf Bg Bh Bi Bj Bk Bl Bm Bn Bo Bp Bq Br Bs Bt Bu Bv Bw Bx By Bz BA BB BC BD BE BF BG BH BI BJ BK BL BM BN BO BP BQ BR BS BT BU BV BW BX BY BZ B0 B1 B2 B3 B4 B5 B6 B7 B8 B9 Ca Cb Cc Cd Ce Cf Cg Ch Ci Cj Ck Cl Cm Cn Co Cp Cq Cr Cs Ct Cu Cv Cw Cx Cy Cz CA CB CC CD CE CF CG CH CI CJ CK CL CM CN CO CP CQ CR CS CT CU CV CW CX CY CZ C0 C1 C2 C3 C4 C5 C6 C7 C8 C9 Da Db Dc Dd De Df Dg Dh Di Dj Dk Dl Dm Dn Do Dp Dq Dr Ds Dt Du Dv Dw Dx Dy Dz DA DB DC DD DE DF DG DH DI DJ DK DL DM DN DO DP DQ DR DS DT DU DV DW DX DY DZ D0 D1 D2 D3 D4 D5 D6 D7 D8 D9 Ea Eb Ec Ed Ee Ef Eg Eh Ei Ej Ek El Em En Eo Ep Eq Er Es Et Eu Ev Ew Ex Ey Ez EA EB EC ED EE EF EG EH EI EJ EK EL EM EN EO EP EQ ER ES ET EU EV EW EX EY EZ E0 E1 E2 E3 E4 E5 E6 E7 E8 E9 Fa Fb Fc Fd Fe Ff Fg Fh Fi Fj Fk Fm Fn Fo Fp Fq Fr Fs Ft Fu Fv Fw Fx Fy Fz FA FB FC FD FE FF FG FH FI FJ FK FL FM FN FO FP FQ FR FS FT FU FV FW FX FY FZ F0 F1 F2 F3 F4 F5 F6 F7 F8 F9 Ga Gb Gc Gd Ge Gf Gg Gh Gi Gj Gk Gl Gm Gn Gp Gq Gr Gs Gt Gu Gv Gw Gx Gy Gz GA GB GC GD GE GF GG GH GI GJ GK GL GM GN GO GP GQ GR GS : Value} (ops : Array Oper) (hops : Tryz.f5.body.bind (regOps 29) = some ops) (HK : Hid (KpT w [(g59, 35, q16), (g48, 85, q15), (g46, 85, q14), (g44, 23, q12), (g43, 35, q0), (g41, 23, q12), (g40, 35, q13), (g38, 23, q10), (g37, 35, q11), (g35, 31, q9), (g33, 61, q8), (g27, 3, (ints [5, 8, 11])), (g13, 61, q7), (g11, 35, q6), (g9, 35, q5), (g7, 61, q4), (g5, 61, q3), (g3, 61, q1), (g2, 61, q2), (g1, 35, q0)] [((some ⟨b56, o56, none⟩), (sgC [sgP 10 3 1])), (A52, (spanC [(1, 3)])), (A50, (spanC [(0, 2), (2, 3)]))] wc)) (HC6 : Hid (∀ V, Below wc.heap.size wc V → V.cell? ⟨b56, o56, none⟩ = some (.int .i64 10) ∧ V.cell? ⟨b56, o56 + 1, none⟩ = some (.int .i64 0) ∧ V.cell? ⟨b56, o56 + 2, none⟩ = some (.int .i64 3) ∧ V.cell? ⟨b56, o56 + 3, none⟩ = some (.int .i64 0) ∧ V.cell? ⟨b56, o56 + 4, none⟩ = some (.int .i64 1) ∧ V.cell? ⟨b56, o56 + 5, none⟩ = some (.int .i64 0))) (hP : ∀ c a w d v, Q (.panic c) (Act.put a d v) w → Q (.panic c) a w) (hQ : ∀ (Iz IA IB IC ID IE IF IG IH II IJ IK IL IM IN Io IP IQ IR IS IT IU IV IW IX IY IZ I0 I1 I2 I3 I4 I5 I6 I7 I8 I9 Ja Jb Jc Jd Je Jf Jg Jh Ji Jj Jk Jl Jm Jn Jo Jp Jq Jr Js Jt Ju Jv Jw Jx Jy Jz JA JB JC JD JE JF JG JH JI JJ JK JL JM JN JO JP JQ JR JS JT JU JV JW JX JY JZ J0 J1 J2 J3 J4 J5 J6 J7 : Value) (W' : World), Below wc.heap.size wc W' → Q .normal ⟨([.bool true, .pointer (some ⟨g1, 0, none⟩), .pointer (some ⟨g2, 0, none⟩), .pointer (some ⟨g3, 0, none⟩), x4, .pointer (some ⟨g5, 0, none⟩), x6, .pointer (some ⟨g7, 0, none⟩), x8, .pointer (some ⟨g9, 0, none⟩), Aa, .pointer (some ⟨g11, 0, none⟩), Ab, .pointer (some ⟨g13, 0, none⟩), Ac,Ad,Ae,Af,Ag,Ah,Ai,Aj,Ak,Al,Am,An,Ao,Ap,Aq,Ar,As,At,Au, .pointer (some ⟨g33, 0, none⟩), Av, .pointer (some ⟨g35, 0, none⟩), .int .i64 0, .pointer (some ⟨g37, 0, none⟩), .pointer (some ⟨g38, 0, none⟩), .int .i64 0, .pointer (some ⟨g40, 0, none⟩), .pointer (some ⟨g41, 0, none⟩), .int .i64 2, .pointer (some ⟨g43, 0, none⟩), .pointer (some ⟨g44, 0, none⟩), .int .i64 0, .pointer (some ⟨g46, 0, none⟩), .int .i64 0, .pointer (some ⟨g48, 0, none⟩), .int .i64 0, .slice A50 2 c50, .int .i64 0, .slice A52 1 c52, .int .i64 0, .string ⟨#[115, 105, 103, 110, 97, 108, 32, 49, 48, 32, 48, 32, 51, 32, 48, 32, 49, 32, 48, 10]⟩, .int .i64 0, .slice (some ⟨b56, o56, none⟩) 1 c56, .int .i64 0, .int .i64 0, .pointer (some ⟨g59, 0, none⟩), .int .i64 0, AW,AX,AY,AZ,A0,A1,A2,A3,A4,A5,A6,A7,A8,A9,Ba,Bb,Bc,Bd,Be,Bf,Bg,Bh,Bi,Bj,Bk,Bl,Bm,Bn,Bo,Bp,Bq,Br,Bs,Bt,Bu,Bv,Bw,Bx,By,Bz,BA,BB,BC,BD,BE,BF,BG,BH,BI,BJ,BK,BL,BM,BN,BO,BP,BQ,BR,BS,BT,BU,BV,BW,BX,BY,BZ,B0,B1,B2,B3,B4,B5,B6,B7,B8,B9,Ca,Cb,Cc,Cd,Ce,Cf,Cg,Ch,Ci,Cj,Ck,Cl,Cm,Cn,Co,Cp,Cq,Cr,Cs,Ct,Cu,Cv,Cw,Cx,Cy,Cz,CA,CB,CC,CD,CE,CF,CG,CH,CI,CJ,CK,CL,CM,CN,CO,CP,CQ,CR,CS,CT,CU,CV,CW,CX,CY,CZ,C0,C1,C2,C3,C4,C5,C6,C7,C8,C9,Da,Db,Dc,Dd,De,Df,Dg,Dh,Di,Dj,Dk,Dl,Dm,Dn,Do,Dp,Dq,Dr,Ds,Dt,Du,Dv,Dw,Dx,Dy,Dz,DA,DB,DC,DD,DE,DF,DG,DH,DI,DJ,DK,DL,DM,DN,DO,DP,DQ,DR,DS,DT,DU,DV,DW,DX,DY,DZ,D0,D1,D2,D3,D4,D5,D6,D7,D8,D9,Ea,Eb,Ec,Ed,Ee,Ef,Eg,Eh,Ei,Ej,Ek,El,Em,En,Eo,Ep,Eq,Er,Es,Et,Eu,Ev,Ew,Ex,Ey,Ez,EA,EB,EC,ED,EE,EF,EG,EH,EI,EJ,EK,EL,EM,EN,EO,EP,EQ,ER,ES,ET,EU,EV,EW,EX,EY,EZ,E0,E1,E2,E3,E4,E5,E6,E7,E8,E9,Fa,Fb,Fc,Fd,Fe,Ff,Fg,Fh,Iz,IA,IB,IC,ID,IE,IF,IG,IH,II,IJ,IK,IL,IM,IN,Io,IP,IQ,IR,IS,IT,IU,IV,IW,IX,IY,IZ,I0,I1,I2,I3,I4,I5,I6,I7,I8,I9,Ja,Jb,Jc,Jd,Je,Jf,Jg,Jh,Ji,Jj,Jk,Jl,Jm,Jn,Jo,Jp,Jq,Jr,Js,Jt,Ju,Jv,Jw,Jx,Jy,Jz,JA,JB,JC,JD,JE,JF,JG,JH,JI,JJ,JK,JL,JM,JN,JO,JP,JQ,JR,JS,JT,JU,JV,JW,JX,JY,JZ,J0,J1,J2,J3,J4,J5,J6,J7] : List Value).toArray, []⟩ W') : Code.wp Tryz.prog (Code.region 29 ops true) Q ⟨([.bool false, .pointer (some ⟨g1, 0, none⟩), .pointer (some ⟨g2, 0, none⟩), .pointer (some ⟨g3, 0, none⟩), x4, .pointer (some ⟨g5, 0, none⟩), x6, .pointer (some ⟨g7, 0, none⟩), x8, .pointer (some ⟨g9, 0, none⟩), Aa, .pointer (some ⟨g11, 0, none⟩), Ab, .pointer (some ⟨g13, 0, none⟩), Ac,Ad,Ae,Af,Ag,Ah,Ai,Aj,Ak,Al,Am,An,Ao,Ap,Aq,Ar,As,At,Au, .pointer (some ⟨g33, 0, none⟩), Av, .pointer (some ⟨g35, 0, none⟩), .int .i64 0, .pointer (some ⟨g37, 0, none⟩), .pointer (some ⟨g38, 0, none⟩), .int .i64 0, .pointer (some ⟨g40, 0, none⟩), .pointer (some ⟨g41, 0, none⟩), .int .i64 2, .pointer (some ⟨g43, 0, none⟩), .pointer (some ⟨g44, 0, none⟩), .int .i64 0, .pointer (some ⟨g46, 0, none⟩), .int .i64 0, .pointer (some ⟨g48, 0, none⟩), .int .i64 0, .slice A50 2 c50, .int .i64 0, .slice A52 1 c52, .int .i64 0, .string ⟨#[115, 105, 103, 110, 97, 108, 32, 49, 48, 32, 48, 32, 51, 32, 48, 32, 49, 32, 48, 10]⟩, .int .i64 0, .slice (some ⟨b56, o56, none⟩) 1 c56, .int .i64 0, .int .i64 0, .pointer (some ⟨g59, 0, none⟩), .int .i64 0, AW,AX,AY,AZ,A0,A1,A2,A3,A4,A5,A6,A7,A8,A9,Ba,Bb,Bc,Bd,Be,Bf,Bg,Bh,Bi,Bj,Bk,Bl,Bm,Bn,Bo,Bp,Bq,Br,Bs,Bt,Bu,Bv,Bw,Bx,By,Bz,BA,BB,BC,BD,BE,BF,BG,BH,BI,BJ,BK,BL,BM,BN,BO,BP,BQ,BR,BS,BT,BU,BV,BW,BX,BY,BZ,B0,B1,B2,B3,B4,B5,B6,B7,B8,B9,Ca,Cb,Cc,Cd,Ce,Cf,Cg,Ch,Ci,Cj,Ck,Cl,Cm,Cn,Co,Cp,Cq,Cr,Cs,Ct,Cu,Cv,Cw,Cx,Cy,Cz,CA,CB,CC,CD,CE,CF,CG,CH,CI,CJ,CK,CL,CM,CN,CO,CP,CQ,CR,CS,CT,CU,CV,CW,CX,CY,CZ,C0,C1,C2,C3,C4,C5,C6,C7,C8,C9,Da,Db,Dc,Dd,De,Df,Dg,Dh,Di,Dj,Dk,Dl,Dm,Dn,Do,Dp,Dq,Dr,Ds,Dt,Du,Dv,Dw,Dx,Dy,Dz,DA,DB,DC,DD,DE,DF,DG,DH,DI,DJ,DK,DL,DM,DN,DO,DP,DQ,DR,DS,DT,DU,DV,DW,DX,DY,DZ,D0,D1,D2,D3,D4,D5,D6,D7,D8,D9,Ea,Eb,Ec,Ed,Ee,Ef,Eg,Eh,Ei,Ej,Ek,El,Em,En,Eo,Ep,Eq,Er,Es,Et,Eu,Ev,Ew,Ex,Ey,Ez,EA,EB,EC,ED,EE,EF,EG,EH,EI,EJ,EK,EL,EM,EN,EO,EP,EQ,ER,ES,ET,EU,EV,EW,EX,EY,EZ,E0,E1,E2,E3,E4,E5,E6,E7,E8,E9,Fa,Fb,Fc,Fd,Fe,Ff,Fg,Fh,Fi,Fj,Fk,Fm,Fn,Fo,Fp,Fq,Fr,Fs,Ft,Fu,Fv,Fw,Fx,Fy,Fz,FA,FB,FC,FD,FE,FF,FG,FH,FI,FJ,FK,FL,FM,FN,FO,FP,FQ,FR,FS,FT,FU,FV,FW,FX,FY,FZ,F0,F1,F2,F3,F4,F5,F6,F7,F8,F9,Ga,Gb,Gc,Gd,Ge,Gf,Gg,Gh,Gi,Gj,Gk,Gl,Gm,Gn,Gp,Gq,Gr,Gs,Gt,Gu,Gv,Gw,Gx,Gy,Gz,GA,GB,GC,GD,GE,GF,GG,GH,GI,GJ,GK,GL,GM,GN,GO,GP,GQ,GR,GS] : List Value).toArray, []⟩ wc := by
 obtain ⟨ops', ho⟩ : ∃ o, o = ops := ⟨_, rfl⟩
 cases hops
 clear ho
 refine ord_start (S := fun V => Below wc.heap.size wc V) 98 [0, 0, 2, 0, 4, 0, 6, 0, 8, 0, 10, 0, 12, 0, 14, 0, 16, 0, 18, 19, 20, 21, 22, 23, 24, 25, 25, 27, 28, 29, 30, 30, 32, 33, 34, 35, 35, 37, 38, 39, 40, 40, 42, 43, 44, 45, 45, 47, 48, 49, 50, 50, 52, 53, 54, 55, 55, 57, 58, 59, 60, 60, 62, 63, 64, 65, 66, 67, 67, 69, 70, 71, 72, 73, 74, 75, 76, 77, 78, 79, 80, 81, 82, 83, 84, 85, 86, 87, 88, 86, 90, 91, 92, 93, 93, 95, 96, 97] [0, 1, 2, 3, 4, 5, 6, 7, 8, 9, 10, 11, 12, 13, 14, 15, 16, 25, 30, 35, 40, 45, 50, 55, 60, 67, 86, 87, 88, 93] (OrdOk.of ord9_29 (by kernel_rfl)) (by kernel_rfl) ?_ (fun hF hHeld => ?_)
 · exact (Below.refl _ _).drew
 refine ord_takeL hF 0 (by decide) (v := .int .i64 0) rfl (fun c a w h => hP c a w _ _ h) (Or.inl ⟨by kernel_rfl, fun V hV => by kernel_rfl⟩) hHeld ?_
 dsimp only [List.set_cons_succ, List.set_cons_zero]
 refine ord_takeL hF 1 (by decide) (v := .int .i64 0) rfl (fun c a w h => hP c a w _ _ h) (Or.inl ⟨by kernel_rfl, fun V hV => by kernel_rfl⟩) hHeld ?_
 dsimp only [List.set_cons_succ, List.set_cons_zero]
 refine ord_takeL hF 2 (by decide) (v := .int .i64 0) rfl (fun c a w h => hP c a w _ _ h) (Or.inl ⟨by kernel_rfl, fun V hV => by kernel_rfl⟩) hHeld ?_
 dsimp only [List.set_cons_succ, List.set_cons_zero]
 refine ord_takeL hF 3 (by decide) (v := .int .i64 0) rfl (fun c a w h => hP c a w _ _ h) (Or.inl ⟨by kernel_rfl, fun V hV => by kernel_rfl⟩) hHeld ?_
 dsimp only [List.set_cons_succ, List.set_cons_zero]
 refine ord_takeL hF 4 (by decide) (v := .int .i64 0) rfl (fun c a w h => hP c a w _ _ h) (Or.inl ⟨by kernel_rfl, fun V hV => by kernel_rfl⟩) hHeld ?_
 dsimp only [List.set_cons_succ, List.set_cons_zero]
 refine ord_takeL hF 5 (by decide) (v := .int .i64 0) rfl (fun c a w h => hP c a w _ _ h) (Or.inl ⟨by kernel_rfl, fun V hV => by kernel_rfl⟩) hHeld ?_
 dsimp only [List.set_cons_succ, List.set_cons_zero]
 refine ord_takeL hF 6 (by decide) (v := .int .i64 0) rfl (fun c a w h => hP c a w _ _ h) (Or.inl ⟨by kernel_rfl, fun V hV => by kernel_rfl⟩) hHeld ?_
 dsimp only [List.set_cons_succ, List.set_cons_zero]
 refine ord_takeL hF 7 (by decide) (v := .int .i64 0) rfl (fun c a w h => hP c a w _ _ h) (Or.inl ⟨by kernel_rfl, fun V hV => by kernel_rfl⟩) hHeld ?_
 dsimp only [List.set_cons_succ, List.set_cons_zero]
 refine ord_takeL hF 8 (by decide) (v := .int .i64 0) rfl (fun c a w h => hP c a w _ _ h) (Or.inl ⟨by kernel_rfl, fun V hV => by kernel_rfl⟩) hHeld ?_
 dsimp only [List.set_cons_succ, List.set_cons_zero]
 refine ord_takeL hF 9 (by decide) (v := .int .i64 0) rfl (fun c a w h => hP c a w _ _ h) (Or.inl ⟨by kernel_rfl, fun V hV => by kernel_rfl⟩) hHeld ?_
 dsimp only [List.set_cons_succ, List.set_cons_zero]
 refine ord_takeL hF 10 (by decide) (v := .int .i64 0) rfl (fun c a w h => hP c a w _ _ h) (Or.inl ⟨by kernel_rfl, fun V hV => by kernel_rfl⟩) hHeld ?_
 dsimp only [List.set_cons_succ, List.set_cons_zero]
 refine ord_takeL hF 11 (by decide) (v := .int .i64 0) rfl (fun c a w h => hP c a w _ _ h) (Or.inl ⟨by kernel_rfl, fun V hV => by kernel_rfl⟩) hHeld ?_
 dsimp only [List.set_cons_succ, List.set_cons_zero]
 refine ord_takeL hF 12 (by decide) (v := .int .i64 0) rfl (fun c a w h => hP c a w _ _ h) (Or.inl ⟨by kernel_rfl, fun V hV => by kernel_rfl⟩) hHeld ?_
 dsimp only [List.set_cons_succ, List.set_cons_zero]
 refine ord_takeL hF 13 (by decide) (v := .int .i64 0) rfl (fun c a w h => hP c a w _ _ h) (Or.inl ⟨by kernel_rfl, fun V hV => by kernel_rfl⟩) hHeld ?_
 dsimp only [List.set_cons_succ, List.set_cons_zero]
 refine ord_takeL hF 14 (by decide) (v := .int .i64 0) rfl (fun c a w h => hP c a w _ _ h) (Or.inl ⟨by kernel_rfl, fun V hV => by kernel_rfl⟩) hHeld ?_
 dsimp only [List.set_cons_succ, List.set_cons_zero]
 refine ord_takeL hF 15 (by decide) (v := .int .i64 0) rfl (fun c a w h => hP c a w _ _ h) (Or.inl ⟨by kernel_rfl, fun V hV => by kernel_rfl⟩) hHeld ?_
 dsimp only [List.set_cons_succ, List.set_cons_zero]
 refine ord_takeL hF 16 (by decide) (v := .int .i64 0) rfl (fun c a w h => hP c a w _ _ h) (Or.inl ⟨by kernel_rfl, fun V hV => by kernel_rfl⟩) hHeld ?_
 dsimp only [List.set_cons_succ, List.set_cons_zero]
 refine ord_oneL hF 17 (by decide) (v := .int .i64 0) rfl (Or.inl ⟨by kernel_rfl, fun V hV => by kernel_rfl⟩) hHeld ?_
 dsimp only [List.set_cons_succ, List.set_cons_zero]
 refine ord_oneL hF 18 (by decide) (v := .int .i64 0) rfl (Or.inl ⟨by kernel_rfl, fun V hV => by kernel_rfl⟩) hHeld ?_
 dsimp only [List.set_cons_succ, List.set_cons_zero]
 refine ord_oneL hF 19 (by decide) (v := .bool true) rfl (Or.inl ⟨by kernel_rfl, fun V hV => by kernel_rfl⟩) hHeld ?_
 dsimp only [List.set_cons_succ, List.set_cons_zero]
 refine ord_oneL hF 20 (by decide) (v := .bool true) rfl (Or.inl ⟨by kernel_rfl, fun V hV => by kernel_rfl⟩) hHeld ?_
 dsimp only [List.set_cons_succ, List.set_cons_zero]
 refine ord_oneL hF 21 (by decide) (v := .int .i64 2) rfl (Or.inl ⟨by kernel_rfl, fun V hV => by kernel_rfl⟩) hHeld ?_
 dsimp only [List.set_cons_succ, List.set_cons_zero]
 refine ord_oneL hF 22 (by decide) (v := .bool true) rfl (Or.inl ⟨by kernel_rfl, fun V hV => by kernel_rfl⟩) hHeld ?_
 dsimp only [List.set_cons_succ, List.set_cons_zero]
 refine ord_oneL hF 23 (by decide) (v := .bool true) rfl (Or.inl ⟨by kernel_rfl, fun V hV => by kernel_rfl⟩) hHeld ?_
 dsimp only [List.set_cons_succ, List.set_cons_zero]
 refine ord_oneL hF 24 (by decide) (v := .bool true) rfl (Or.inl ⟨by kernel_rfl, fun V hV => by kernel_rfl⟩) hHeld ?_
 dsimp only [List.set_cons_succ, List.set_cons_zero]
 refine ord_takeL hF 25 (by decide) (v := .agg #[.complex .f32 1096810496 0, .complex .f32 1094713344 0, .complex .f32 1090519040 0, .complex .f32 1086324736 0]) rfl (fun c a w h => hP c a w _ _ h) (Or.inl ⟨by kernel_rfl, fun V hV => ex_rowT 31 _ rfl (g35) rfl 31 [.complex .f32 1096810496 0, .complex .f32 1094713344 0, .complex .f32 1090519040 0, .complex .f32 1086324736 0] _ Tryz.underlying31 rfl (by kernel_rfl) ((HK.out.old hV).row g35 31 q9 (.tail _ (.tail _ (.tail _ (.tail _ (.tail _ (.tail _ (.tail _ (.tail _ (.tail _ (.head _)))))))))))⟩) hHeld ?_
 dsimp only [List.set_cons_succ, List.set_cons_zero]
 refine ord_oneL hF 26 (by decide) (v := .agg #[.complex .f32 1096810496 0, .complex .f32 1094713344 0, .complex .f32 1090519040 0, .complex .f32 1086324736 0]) rfl (Or.inl ⟨by kernel_rfl, fun V hV => by kernel_rfl⟩) hHeld ?_
 dsimp only [List.set_cons_succ, List.set_cons_zero]
 refine ord_oneL hF 27 (by decide) (v := .bool true) rfl (Or.inl ⟨by kernel_rfl, fun V hV => by kernel_rfl⟩) hHeld ?_
 dsimp only [List.set_cons_succ, List.set_cons_zero]
 refine ord_oneL hF 28 (by decide) (v := .bool true) rfl (Or.inl ⟨by kernel_rfl, fun V hV => by kernel_rfl⟩) hHeld ?_
 dsimp only [List.set_cons_succ, List.set_cons_zero]
 refine ord_oneL hF 29 (by decide) (v := .bool true) rfl (Or.inl ⟨by kernel_rfl, fun V hV => by kernel_rfl⟩) hHeld ?_
 dsimp only [List.set_cons_succ, List.set_cons_zero]
 refine ord_takeL hF 30 (by decide) (v := .agg #[.int .i64 11, .int .i64 0, .int .i64 2, .int .i64 0, .int .i64 0, .int .i64 0]) rfl (fun c a w h => hP c a w _ _ h) (Or.inl ⟨by kernel_rfl, fun V hV => ex_rowT 35 _ rfl (g37) rfl 35 [.int .i64 11, .int .i64 0, .int .i64 2, .int .i64 0, .int .i64 0, .int .i64 0] _ Tryz.underlying35 rfl (by kernel_rfl) ((HK.out.old hV).row g37 35 q11 (.tail _ (.tail _ (.tail _ (.tail _ (.tail _ (.tail _ (.tail _ (.tail _ (.head _))))))))))⟩) hHeld ?_
 dsimp only [List.set_cons_succ, List.set_cons_zero]
 refine ord_step hF 31 (by decide) rfl (fun K hK => ?_)
 go_simp
 go_at_call 29
 refine (of2_any _ _ _ _).mono ?_
 rintro e v31 ⟨rfl, hb31⟩
 try go_simp
 refine hK.out _ _ ?_ (fun hHeld => ?_)
 · exact hHeld.trans (hb31.mono hHeld.size)
 clear hK K
 try simp only [zz]
 refine ord_oneL hF 32 (by decide) (v := .bool true) rfl (Or.inl ⟨by kernel_rfl, fun V hV => by kernel_rfl⟩) hHeld ?_
 dsimp only [List.set_cons_succ, List.set_cons_zero]
 refine ord_oneL hF 33 (by decide) (v := .bool true) rfl (Or.inl ⟨by kernel_rfl, fun V hV => by kernel_rfl⟩) hHeld ?_
 dsimp only [List.set_cons_succ, List.set_cons_zero]
 refine ord_oneL hF 34 (by decide) (v := .bool true) rfl (Or.inl ⟨by kernel_rfl, fun V hV => by kernel_rfl⟩) hHeld ?_
 dsimp only [List.set_cons_succ, List.set_cons_zero]
 refine ord_takeL hF 35 (by decide) (v := .agg #[.int .i64 1, .int .i64 0]) rfl (fun c a w h => hP c a w _ _ h) (Or.inl ⟨by kernel_rfl, fun V hV => ex_rowT 23 _ rfl (g38) rfl 23 [.int .i64 1, .int .i64 0] _ Tryz.underlying23 rfl (by kernel_rfl) ((HK.out.old hV).row g38 23 q10 (.tail _ (.tail _ (.tail _ (.tail _ (.tail _ (.tail _ (.tail _ (.head _)))))))))⟩) hHeld ?_
 dsimp only [List.set_cons_succ, List.set_cons_zero]
 refine ord_step hF 36 (by decide) rfl (fun K hK => ?_)
 go_simp
 go_at_call 7
 refine (at2_any _ _ _).mono ?_
 rintro e v36 ⟨rfl, hb36⟩
 try go_simp
 refine hK.out _ _ ?_ (fun hHeld => ?_)
 · exact hHeld.trans (hb36.mono hHeld.size)
 clear hK K
 try simp only [zz]
 refine ord_oneL hF 37 (by decide) (v := .bool true) rfl (Or.inl ⟨by kernel_rfl, fun V hV => by kernel_rfl⟩) hHeld ?_
 dsimp only [List.set_cons_succ, List.set_cons_zero]
 refine ord_oneL hF 38 (by decide) (v := .bool true) rfl (Or.inl ⟨by kernel_rfl, fun V hV => by kernel_rfl⟩) hHeld ?_
 dsimp only [List.set_cons_succ, List.set_cons_zero]
 refine ord_oneL hF 39 (by decide) (v := .bool true) rfl (Or.inl ⟨by kernel_rfl, fun V hV => by kernel_rfl⟩) hHeld ?_
 dsimp only [List.set_cons_succ, List.set_cons_zero]
 refine ord_takeL hF 40 (by decide) (v := .agg #[.int .i64 10, .int .i64 0, .int .i64 3, .int .i64 0, .int .i64 1, .int .i64 0]) rfl (fun c a w h => hP c a w _ _ h) (Or.inl ⟨by kernel_rfl, fun V hV => ex_rowT 35 _ rfl (g43) rfl 35 [.int .i64 10, .int .i64 0, .int .i64 3, .int .i64 0, .int .i64 1, .int .i64 0] _ Tryz.underlying35 rfl (by kernel_rfl) ((HK.out.old hV).row g43 35 q0 (.tail _ (.tail _ (.tail _ (.tail _ (.head _))))))⟩) hHeld ?_
 dsimp only [List.set_cons_succ, List.set_cons_zero]
 refine ord_oneL hF 41 (by decide) (v := .agg #[.int .i64 10, .int .i64 0, .int .i64 3, .int .i64 0, .int .i64 1, .int .i64 0]) rfl (Or.inl ⟨by kernel_rfl, fun V hV => ex_rowT 35 _ rfl (g1) rfl 35 [.int .i64 10, .int .i64 0, .int .i64 3, .int .i64 0, .int .i64 1, .int .i64 0] _ Tryz.underlying35 rfl (by kernel_rfl) ((HK.out.old hV).row g1 35 q0 (.tail _ (.tail _ (.tail _ (.tail _ (.tail _ (.tail _ (.tail _ (.tail _ (.tail _ (.tail _ (.tail _ (.tail _ (.tail _ (.tail _ (.tail _ (.tail _ (.tail _ (.tail _ (.tail _ (.head _)))))))))))))))))))))⟩) hHeld ?_
 dsimp only [List.set_cons_succ, List.set_cons_zero]
 refine ord_oneL hF 42 (by decide) (v := .bool true) rfl (Or.inl ⟨by kernel_rfl, fun V hV => by kernel_rfl⟩) hHeld ?_
 dsimp only [List.set_cons_succ, List.set_cons_zero]
 refine ord_oneL hF 43 (by decide) (v := .bool true) rfl (Or.inl ⟨by kernel_rfl, fun V hV => by kernel_rfl⟩) hHeld ?_
 dsimp only [List.set_cons_succ, List.set_cons_zero]
 refine ord_oneL hF 44 (by decide) (v := .bool true) rfl (Or.inl ⟨by kernel_rfl, fun V hV => by kernel_rfl⟩) hHeld ?_
 dsimp only [List.set_cons_succ, List.set_cons_zero]
 refine ord_takeL hF 45 (by decide) (v := .agg #[.int .i64 0, .int .i64 0]) rfl (fun c a w h => hP c a w _ _ h) (Or.inl ⟨by kernel_rfl, fun V hV => ex_rowT 23 _ rfl (g44) rfl 23 [.int .i64 0, .int .i64 0] _ Tryz.underlying23 rfl (by kernel_rfl) ((HK.out.old hV).row g44 23 q12 (.tail _ (.tail _ (.tail _ (.head _)))))⟩) hHeld ?_
 dsimp only [List.set_cons_succ, List.set_cons_zero]
 refine ord_oneL hF 46 (by decide) (v := .agg #[.int .i64 0, .int .i64 0]) rfl (Or.inl ⟨by kernel_rfl, fun V hV => by kernel_rfl⟩) hHeld ?_
 dsimp only [List.set_cons_succ, List.set_cons_zero]
 refine ord_oneL hF 47 (by decide) (v := .bool true) rfl (Or.inl ⟨by kernel_rfl, fun V hV => by kernel_rfl⟩) hHeld ?_
 dsimp only [List.set_cons_succ, List.set_cons_zero]
 refine ord_oneL hF 48 (by decide) (v := .bool true) rfl (Or.inl ⟨by kernel_rfl, fun V hV => by kernel_rfl⟩) hHeld ?_
 dsimp only [List.set_cons_succ, List.set_cons_zero]
 refine ord_oneL hF 49 (by decide) (v := .bool true) rfl (Or.inl ⟨by kernel_rfl, fun V hV => by kernel_rfl⟩) hHeld ?_
 dsimp only [List.set_cons_succ, List.set_cons_zero]
 refine ord_takeL hF 50 (by decide) (v := .agg #[.int .i64 10, .int .i64 20]) rfl (fun c a w h => hP c a w _ _ h) (Or.inl ⟨by kernel_rfl, fun V hV => ex_rowT 85 _ rfl (g46) rfl 85 [.int .i64 10, .int .i64 20] _ Tryz.underlying85 rfl (by kernel_rfl) ((HK.out.old hV).row g46 85 q14 (.tail _ (.tail _ (.head _))))⟩) hHeld ?_
 dsimp only [List.set_cons_succ, List.set_cons_zero]
 refine ord_step hF 51 (by decide) rfl (fun K hK => ?_)
 go_simp
 go_at_call 37
 refine (to2_any _ _ _).mono ?_
 rintro e v51 ⟨rfl, hb51⟩
 try go_simp
 refine hK.out _ _ ?_ (fun hHeld => ?_)
 · exact hHeld.trans (hb51.mono hHeld.size)
 clear hK K
 try simp only [zz]
 refine ord_oneL hF 52 (by decide) (v := .bool true) rfl (Or.inl ⟨by kernel_rfl, fun V hV => by kernel_rfl⟩) hHeld ?_
 dsimp only [List.set_cons_succ, List.set_cons_zero]
 refine ord_oneL hF 53 (by decide) (v := .bool true) rfl (Or.inl ⟨by kernel_rfl, fun V hV => by kernel_rfl⟩) hHeld ?_
 dsimp only [List.set_cons_succ, List.set_cons_zero]
 refine ord_oneL hF 54 (by decide) (v := .bool true) rfl (Or.inl ⟨by kernel_rfl, fun V hV => by kernel_rfl⟩) hHeld ?_
 dsimp only [List.set_cons_succ, List.set_cons_zero]
 refine ord_takeL hF 55 (by decide) (v := .agg #[.int .i64 0, .int .i64 30]) rfl (fun c a w h => hP c a w _ _ h) (Or.inl ⟨by kernel_rfl, fun V hV => ex_rowT 85 _ rfl (g48) rfl 85 [.int .i64 0, .int .i64 30] _ Tryz.underlying85 rfl (by kernel_rfl) ((HK.out.old hV).row g48 85 q15 (.tail _ (.head _)))⟩) hHeld ?_
 dsimp only [List.set_cons_succ, List.set_cons_zero]
 refine ord_step hF 56 (by decide) rfl (fun K hK => ?_)
 go_simp
 go_at_call 37
 refine (to2_any _ _ _).mono ?_
 rintro e v56 ⟨rfl, hb56⟩
 try go_simp
 refine hK.out _ _ ?_ (fun hHeld => ?_)
 · exact hHeld.trans (hb56.mono hHeld.size)
 clear hK K
 try simp only [zz]
 refine ord_oneL hF 57 (by decide) (v := .bool true) rfl (Or.inl ⟨by kernel_rfl, fun V hV => by kernel_rfl⟩) hHeld ?_
 dsimp only [List.set_cons_succ, List.set_cons_zero]
 refine ord_oneL hF 58 (by decide) (v := .bool true) rfl (Or.inl ⟨by kernel_rfl, fun V hV => by kernel_rfl⟩) hHeld ?_
 dsimp only [List.set_cons_succ, List.set_cons_zero]
 refine ord_oneL hF 59 (by decide) (v := .bool true) rfl (Or.inl ⟨by kernel_rfl, fun V hV => by kernel_rfl⟩) hHeld ?_
 dsimp only [List.set_cons_succ, List.set_cons_zero]
 refine ord_takeL hF 60 (by decide) (v := .slice A50 2 c50) rfl (fun c a w h => hP c a w _ _ h) (Or.inl ⟨by kernel_rfl, fun V hV => by kernel_rfl⟩) hHeld ?_
 dsimp only [List.set_cons_succ, List.set_cons_zero]
 refine ord_step hF 61 (by decide) rfl (fun K hK => ?_)
 go_simp
 go_at_call 42
 refine (span2_any _ _ _).mono ?_
 rintro e v61 ⟨rfl, hb61⟩
 try go_simp
 refine hK.out _ _ ?_ (fun hHeld => ?_)
 · exact hHeld.trans (hb61.mono hHeld.size)
 clear hK K
 try simp only [zz]
 refine ord_step hF 62 (by decide) rfl (fun K hK => ?_)
 go_simp
 go_at_call 42
 refine (span2_any _ _ _).mono ?_
 rintro e v62 ⟨rfl, hb62⟩
 try go_simp
 refine hK.out _ _ ?_ (fun hHeld => ?_)
 · exact hHeld.trans (hb62.mono hHeld.size)
 clear hK K
 try simp only [zz]
 refine ord_step hF 63 (by decide) rfl (fun K hK => ?_)
 go_simp
 refine hK.out _ _ ?_ (fun hHeld => ?_)
 · exact hHeld.alloc hHeld.size _
 clear hK K
 try simp only [zz]
 refine ord_step hF 64 (by decide) rfl (fun K hK => ?_)
 go_simp
 go_at_call 41
 refine (sameSpans_any _ _ _ _ _ _ [(0, 2), (2, 3)] [(0, 2), (2, 3)] _ ((HK.out.old hHeld).rd A50 (spanC [(0, 2), (2, 3)]) (.tail _ (.tail _ (.head _)))) (by rw [show spanC [(0, 2), (2, 3)] = [.int .i64 0, .int .i64 2, .int .i64 2, .int .i64 3] from rfl]; exact Rd.row (t := 77) (by repeat (first | with_reducible exact Row.new _ _ _ | (refine rowAt _ _ ?_; rfl)))) rfl rfl (by decide)).mono ?_
 rintro e v64 ⟨rfl, qq64, rfl⟩
 try go_simp
 refine hK.out _ _ ?_ (fun hHeld => ?_)
 · exact hHeld.trans ((below_drewN (Below.refl _ _) qq64).mono hHeld.size)
 clear hK K
 try simp only [zz]
 refine ord_oneL hF 65 (by decide) (v := .bool true) rfl (Or.inl ⟨by kernel_rfl, fun V hV => by kernel_rfl⟩) hHeld ?_
 dsimp only [List.set_cons_succ, List.set_cons_zero]
 refine ord_oneL hF 66 (by decide) (v := .bool true) rfl (Or.inl ⟨by kernel_rfl, fun V hV => by kernel_rfl⟩) hHeld ?_
 dsimp only [List.set_cons_succ, List.set_cons_zero]
 refine ord_takeL hF 67 (by decide) (v := .slice A52 1 c52) rfl (fun c a w h => hP c a w _ _ h) (Or.inl ⟨by kernel_rfl, fun V hV => by kernel_rfl⟩) hHeld ?_
 dsimp only [List.set_cons_succ, List.set_cons_zero]
 refine ord_step hF 68 (by decide) rfl (fun K hK => ?_)
 go_simp
 go_at_call 42
 refine (span2_any _ _ _).mono ?_
 rintro e v68 ⟨rfl, hb68⟩
 try go_simp
 refine hK.out _ _ ?_ (fun hHeld => ?_)
 · exact hHeld.trans (hb68.mono hHeld.size)
 clear hK K
 try simp only [zz]
 refine ord_step hF 69 (by decide) rfl (fun K hK => ?_)
 go_simp
 refine hK.out _ _ ?_ (fun hHeld => ?_)
 · exact hHeld.alloc hHeld.size _
 clear hK K
 try simp only [zz]
 refine ord_step hF 70 (by decide) rfl (fun K hK => ?_)
 go_simp
 go_at_call 41
 refine (sameSpans_any _ _ _ _ _ _ [(1, 3)] [(1, 3)] _ ((HK.out.old hHeld).rd A52 (spanC [(1, 3)]) (.tail _ (.head _))) (by rw [show spanC [(1, 3)] = [.int .i64 1, .int .i64 3] from rfl]; exact Rd.row (t := 77) (by repeat (first | with_reducible exact Row.new _ _ _ | (refine rowAt _ _ ?_; rfl)))) rfl rfl (by decide)).mono ?_
 rintro e v70 ⟨rfl, qq70, rfl⟩
 try go_simp
 refine hK.out _ _ ?_ (fun hHeld => ?_)
 · exact hHeld.trans ((below_drewN (Below.refl _ _) qq70).mono hHeld.size)
 clear hK K
 try simp only [zz]
 refine ord_oneL hF 71 (by decide) (v := .bool true) rfl (Or.inl ⟨by kernel_rfl, fun V hV => by kernel_rfl⟩) hHeld ?_
 dsimp only [List.set_cons_succ, List.set_cons_zero]
 refine ord_oneL hF 72 (by decide) (v := .bool true) rfl (Or.inl ⟨by kernel_rfl, fun V hV => by kernel_rfl⟩) hHeld ?_
 dsimp only [List.set_cons_succ, List.set_cons_zero]
 refine ord_oneL hF 73 (by decide) (v := .string ⟨#[115, 105, 103, 110, 97, 108, 32, 49, 48, 32, 48, 32, 51, 32, 48, 32, 49, 32, 48, 10]⟩) rfl (Or.inl ⟨by kernel_rfl, fun V hV => by kernel_rfl⟩) hHeld ?_
 dsimp only [List.set_cons_succ, List.set_cons_zero]
 refine ord_oneL hF 74 (by decide) (v := .bool true) rfl (Or.inl ⟨by kernel_rfl, fun V hV => by kernel_rfl⟩) hHeld ?_
 dsimp only [List.set_cons_succ, List.set_cons_zero]
 refine ord_oneL hF 75 (by decide) (v := .bool true) rfl (Or.inl ⟨by kernel_rfl, fun V hV => by kernel_rfl⟩) hHeld ?_
 dsimp only [List.set_cons_succ, List.set_cons_zero]
 refine ord_oneL hF 76 (by decide) (v := .bool true) rfl (Or.inl ⟨by kernel_rfl, fun V hV => by kernel_rfl⟩) hHeld ?_
 dsimp only [List.set_cons_succ, List.set_cons_zero]
 refine ord_oneL hF 77 (by decide) (v := .int .i64 0) rfl (Or.inl ⟨by kernel_rfl, fun V hV => by kernel_rfl⟩) hHeld ?_
 dsimp only [List.set_cons_succ, List.set_cons_zero]
 refine ord_oneL hF 78 (by decide) (v := .bool true) rfl (Or.inl ⟨by kernel_rfl, fun V hV => by kernel_rfl⟩) hHeld ?_
 dsimp only [List.set_cons_succ, List.set_cons_zero]
 refine ord_oneL hF 79 (by decide) (v := .bool true) rfl (Or.inl ⟨by kernel_rfl, fun V hV => by kernel_rfl⟩) hHeld ?_
 dsimp only [List.set_cons_succ, List.set_cons_zero]
 refine ord_oneL hF 80 (by decide) (v := .bool true) rfl (Or.inl ⟨by kernel_rfl, fun V hV => by kernel_rfl⟩) hHeld ?_
 dsimp only [List.set_cons_succ, List.set_cons_zero]
 refine ord_oneL hF 81 (by decide) (v := .slice (some ⟨b56, o56, none⟩) 1 c56) rfl (Or.inl ⟨by kernel_rfl, fun V hV => by kernel_rfl⟩) hHeld ?_
 dsimp only [List.set_cons_succ, List.set_cons_zero]
 refine ord_oneL hF 82 (by decide) (v := .int .i64 1) rfl (Or.inl ⟨by kernel_rfl, fun V hV => by kernel_rfl⟩) hHeld ?_
 dsimp only [List.set_cons_succ, List.set_cons_zero]
 refine ord_oneL hF 83 (by decide) (v := .bool true) rfl (Or.inl ⟨by kernel_rfl, fun V hV => by kernel_rfl⟩) hHeld ?_
 dsimp only [List.set_cons_succ, List.set_cons_zero]
 refine ord_oneL hF 84 (by decide) (v := .bool true) rfl (Or.inl ⟨by kernel_rfl, fun V hV => by kernel_rfl⟩) hHeld ?_
 dsimp only [List.set_cons_succ, List.set_cons_zero]
 refine ord_oneL hF 85 (by decide) (v := .bool true) rfl (Or.inl ⟨by kernel_rfl, fun V hV => by kernel_rfl⟩) hHeld ?_
 dsimp only [List.set_cons_succ, List.set_cons_zero]
 refine ord_takeL hF 86 (by decide) (v := .slice (some ⟨b56, o56, none⟩) 1 c56) rfl (fun c a w h => hP c a w _ _ h) (Or.inl ⟨by kernel_rfl, fun V hV => by kernel_rfl⟩) hHeld ?_
 dsimp only [List.set_cons_succ, List.set_cons_zero]
 refine ord_takeL hF 87 (by decide) (v := .pointer (some ⟨b56, o56, none⟩)) rfl (fun c a w h => hP c a w _ _ h) (Or.inl ⟨by kernel_rfl, fun V hV => by kernel_rfl⟩) hHeld ?_
 dsimp only [List.set_cons_succ, List.set_cons_zero]
 refine ord_takeL hF 88 (by decide) (v := .agg #[.int .i64 10, .int .i64 0, .int .i64 3, .int .i64 0, .int .i64 1, .int .i64 0]) rfl (fun c a w h => hP c a w _ _ h) (Or.inl ⟨by kernel_rfl, fun V hV => ex_Signal _ rfl b56 o56 rfl (HC6.out V hV).1 (HC6.out V hV).2.1 (HC6.out V hV).2.2.1 (HC6.out V hV).2.2.2.1 (HC6.out V hV).2.2.2.2.1 (HC6.out V hV).2.2.2.2.2⟩) hHeld ?_
 dsimp only [List.set_cons_succ, List.set_cons_zero]
 refine ord_oneL hF 89 (by decide) (v := .agg #[.int .i64 10, .int .i64 0, .int .i64 3, .int .i64 0, .int .i64 1, .int .i64 0]) rfl (Or.inl ⟨by kernel_rfl, fun V hV => ex_rowT 35 _ rfl (g1) rfl 35 [.int .i64 10, .int .i64 0, .int .i64 3, .int .i64 0, .int .i64 1, .int .i64 0] _ Tryz.underlying35 rfl (by kernel_rfl) ((HK.out.old hV).row g1 35 q0 (.tail _ (.tail _ (.tail _ (.tail _ (.tail _ (.tail _ (.tail _ (.tail _ (.tail _ (.tail _ (.tail _ (.tail _ (.tail _ (.tail _ (.tail _ (.tail _ (.tail _ (.tail _ (.tail _ (.head _)))))))))))))))))))))⟩) hHeld ?_
 dsimp only [List.set_cons_succ, List.set_cons_zero]
 refine ord_oneL hF 90 (by decide) (v := .bool true) rfl (Or.inl ⟨by kernel_rfl, fun V hV => by kernel_rfl⟩) hHeld ?_
 dsimp only [List.set_cons_succ, List.set_cons_zero]
 refine ord_oneL hF 91 (by decide) (v := .bool true) rfl (Or.inl ⟨by kernel_rfl, fun V hV => by kernel_rfl⟩) hHeld ?_
 dsimp only [List.set_cons_succ, List.set_cons_zero]
 refine ord_oneL hF 92 (by decide) (v := .bool true) rfl (Or.inl ⟨by kernel_rfl, fun V hV => by kernel_rfl⟩) hHeld ?_
 dsimp only [List.set_cons_succ, List.set_cons_zero]
 refine ord_takeL hF 93 (by decide) (v := .agg #[.int .i64 11, .int .i64 0, .int .i64 2, .int .i64 0, .int .i64 1, .int .i64 0]) rfl (fun c a w h => hP c a w _ _ h) (Or.inl ⟨by kernel_rfl, fun V hV => ex_rowT 35 _ rfl (g59) rfl 35 [.int .i64 11, .int .i64 0, .int .i64 2, .int .i64 0, .int .i64 1, .int .i64 0] _ Tryz.underlying35 rfl (by kernel_rfl) ((HK.out.old hV).row g59 35 q16 (.head _))⟩) hHeld ?_
 dsimp only [List.set_cons_succ, List.set_cons_zero]
 refine ord_step hF 94 (by decide) rfl (fun K hK => ?_)
 go_simp
 go_at_call 29
 refine (of2_any _ _ _ _).mono ?_
 rintro e v94 ⟨rfl, hb94⟩
 try go_simp
 refine hK.out _ _ ?_ (fun hHeld => ?_)
 · exact hHeld.trans (hb94.mono hHeld.size)
 clear hK K
 try simp only [zz]
 refine ord_oneL hF 95 (by decide) (v := .bool true) rfl (Or.inl ⟨by kernel_rfl, fun V hV => by kernel_rfl⟩) hHeld ?_
 dsimp only [List.set_cons_succ, List.set_cons_zero]
 refine ord_oneL hF 96 (by decide) (v := .bool true) rfl (Or.inl ⟨by kernel_rfl, fun V hV => by kernel_rfl⟩) hHeld ?_
 dsimp only [List.set_cons_succ, List.set_cons_zero]
 refine ord_oneL hF 97 (by decide) (v := .bool true) rfl (Or.inl ⟨by kernel_rfl, fun V hV => by kernel_rfl⟩) hHeld ?_
 dsimp only [List.set_cons_succ, List.set_cons_zero]
 refine ord_done hF ?_
 exact hQ _ _ _ _ _ _ _ _ _ _ _ _ _ _ _ _ _ _ _ _ _ _ _ _ _ _ _ _ _ _ _ _ _ _ _ _ _ _ _ _ _ _ _ _ _ _ _ _ _ _ _ _ _ _ _ _ _ _ _ _ _ _ _ _ _ _ _ _ _ _ _ _ _ _ _ _ _ _ _ _ _ _ _ _ _ _ _ _ _ _ _ _ _ _ _ _ _ _ hHeld
end Go.Proofs.YtaknlhepgeiekaaGreatDoor
